/- Words: the program's and the reference's, for any law. -/
import Derived.Test.YtcnfonhcgcblgaaBase
import Derived.BigQuiet
import Derived.Lib.AtoiAll
import Derived.Lib.Bytealg
namespace Go.Proofs.Ytcnfonhcgcblgaa.Wd
open Go.Lib Go.ChangeShapes Go.WideShapes Go.ChangeAt Go.RowKit Go.Proofs.Ytcnfonhcgcblgaa.Cell
set_option linter.unusedVariables false
set_option linter.unusedSimpArgs false
def ltr (c : UInt8) : Bool := decide (97 ≤ c.toNat) && decide (c.toNat ≤ 122)
def dgt (c : UInt8) : Bool := decide (48 ≤ c.toNat) && decide (c.toNat ≤ 57)
def wrd (c : UInt8) : Bool := ltr c || dgt c
/-- how many bytes ahead are of a kind -/
def spn (p : UInt8 → Bool) (l : List UInt8) : Nat := (l.takeWhile p).length
def isWord (l : List UInt8) : Bool := match l with
  | [] => false
  | c :: r => decide ((c :: r).length ≤ 20) && ltr c && (c :: r).all wrd
theorem tw_dw (p : UInt8 → Bool) (l : List UInt8) : l.takeWhile p ++ l.dropWhile p = l := List.takeWhile_append_dropWhile
theorem spn_le (p : UInt8 → Bool) (l : List UInt8) : spn p l ≤ l.length := by
  have := congrArg List.length (tw_dw p l)
  rw [List.length_append] at this
  unfold spn
  omega
theorem take_spn (p : UInt8 → Bool) (l : List UInt8) : l.take (spn p l) = l.takeWhile p := by
  conv => lhs; arg 2; rw [← tw_dw p l]
  unfold spn
  rw [List.take_left]
theorem tw_all (p : UInt8 → Bool) : ∀ (l : List UInt8), (l.takeWhile p).all p = true
  | [] => rfl
  | c :: l => by
    rw [List.takeWhile_cons]
    split
    · rename_i h
      rw [List.all_cons, h, tw_all p l]
      rfl
    · rfl
/-- what is of a kind, and then something that is not -/
theorem tw_app {p : UInt8 → Bool} : ∀ {a b : List UInt8}, a.all p = true → (∀ c r, b = c :: r → p c = false) → (a ++ b).takeWhile p = a
  | [], b, _, h => by
    cases b with
    | nil => rfl
    | cons c r =>
      rw [List.nil_append, List.takeWhile_cons, h c r rfl]
      rfl
  | x :: a, b, ha, h => by
    rw [List.all_cons, Bool.and_eq_true] at ha
    rw [List.cons_append, List.takeWhile_cons, ha.1, if_pos rfl, tw_app ha.2 h]
theorem ltr_wrd {c : UInt8} (h : ltr c = true) : wrd c = true := by unfold wrd; rw [h]; rfl
theorem dgt_wrd {c : UInt8} (h : dgt c = true) : wrd c = true := by unfold wrd; rw [h]; simp
theorem tw_self {p : UInt8 → Bool} {l : List UInt8} (h : l.all p = true) : l.takeWhile p = l := by
  have := tw_app (p := p) (a := l) (b := []) h (fun c r e => by cases e)
  rwa [List.append_nil] at this
theorem str_eq {a b : ByteArray} (h : a.data.toList = b.data.toList) : a = b := by
  cases a
  cases b
  congr 1
  exact Array.toList_inj.1 h
theorem at_str {s : ByteArray} {l : List UInt8} {k : Nat} (hs : s.data.toList = l) (h : k < s.size) : l[k]? = some s[k] := by
  subst hs
  rw [Array.getElem?_toList]
  exact Array.getElem?_eq_getElem h
/-- a function that tells a kind of bytes -/
def Kd (fn : FuncId) (p : UInt8 → Bool) : Prop := ∀ (c : UInt8) (W : World), Calls Try.prog fn #[.int .u8 (c.toNat : Int)] W fun e w' => e = .returned (.bool (p c)) ∧ w' = W
theorem eq_u8 {c : UInt8} {k : Nat} (hk : k < 256) : (c == UInt8.ofNat k) = decide (c.toNat = k) := by
  rw [Bool.eq_iff_iff, beq_iff_eq, decide_eq_true_eq]
  constructor
  · intro h
    rw [h, UInt8.toNat_ofNat']
    omega
  · intro h
    apply UInt8.toNat_inj.1
    rw [h, UInt8.toNat_ofNat']
    omega
set_option maxRecDepth 100000 in
set_option maxHeartbeats 2000000 in
theorem letter_any : Kd 78 ltr := by
  intro c W
  obtain ⟨X, hX⟩ : ∃ X, c.toNat = X := ⟨_, rfl⟩
  have HB : Hid (ltr c = (decide (97 ≤ X) && decide (X ≤ 122))) := Lib.hid (by unfold ltr; rw [hX])
  rw [hX]
  clear hX
  go_enter Try.func78, Try.ntmps78
  by_cases h1 : 97 ≤ X
  · have h1I : (97 : Int) ≤ (X : Int) := by omega
    by_cases h2 : X ≤ 122
    · have h2I : (X : Int) ≤ 122 := by omega
      go_wp2
      go_ret
      exact ⟨by rw [HB.out]; simp [h1, h2], rfl⟩
    · have h2I : ¬ (X : Int) ≤ 122 := by omega
      go_wp2
      go_ret
      exact ⟨by rw [HB.out]; simp [h1, h2], rfl⟩
  · have h1I : ¬ (97 : Int) ≤ (X : Int) := by omega
    go_wp2
    go_ret
    exact ⟨by rw [HB.out]; simp [h1], rfl⟩
set_option maxRecDepth 100000 in
set_option maxHeartbeats 2000000 in
theorem digit_any : Kd 93 dgt := by
  intro c W
  obtain ⟨X, hX⟩ : ∃ X, c.toNat = X := ⟨_, rfl⟩
  have HB : Hid (dgt c = (decide (48 ≤ X) && decide (X ≤ 57))) := Lib.hid (by unfold dgt; rw [hX])
  rw [hX]
  clear hX
  go_enter Try.func93, Try.ntmps93
  by_cases h1 : 48 ≤ X
  · have h1I : (48 : Int) ≤ (X : Int) := by omega
    by_cases h2 : X ≤ 57
    · have h2I : (X : Int) ≤ 57 := by omega
      go_wp2
      go_ret
      exact ⟨by rw [HB.out]; simp [h1, h2], rfl⟩
    · have h2I : ¬ (X : Int) ≤ 57 := by omega
      go_wp2
      go_ret
      exact ⟨by rw [HB.out]; simp [h1, h2], rfl⟩
  · have h1I : ¬ (48 : Int) ≤ (X : Int) := by omega
    go_wp2
    go_ret
    exact ⟨by rw [HB.out]; simp [h1], rfl⟩
set_option maxRecDepth 100000 in
set_option maxHeartbeats 2000000 in
theorem wordByte_any : Kd 80 wrd := by
  intro c W
  have HL := Lib.hid (letter_any c)
  have HD := Lib.hid (digit_any c)
  have HW : Hid (wrd c = (ltr c || dgt c)) := Lib.hid rfl
  obtain ⟨X, hX⟩ : ∃ X, c.toNat = X := ⟨_, rfl⟩
  rw [hX] at HL HD ⊢
  go_enter Try.func80, Try.ntmps80
  go_wp2_with (fail)
  go_must (refine (HL.out _).mono ?_)
  rintro e w1 ⟨rfl, hw⟩
  have hw := hw.symm
  subst hw
  cases hl : ltr c
  · rw [hl] at HW
    dsimp only
    go_wp2_with (fail)
    go_must (refine (HD.out _).mono ?_)
    rintro e w1 ⟨rfl, hw⟩
    have hw := hw.symm
    subst hw
    dsimp only
    go_wp2
    go_ret
    exact ⟨by rw [HW.out]; rfl, rfl⟩
  · rw [hl] at HW
    dsimp only
    go_wp2
    go_ret
    exact ⟨by rw [HW.out]; rfl, rfl⟩
theorem spn_at {p : UInt8 → Bool} : ∀ {l : List UInt8} {k : Nat} {c : UInt8}, (∀ j d, j < k → l[j]? = some d → p d = true) → l[k]? = some c → p c = false → spn p l = k
  | [], k, c, _, h, _ => by simp at h
  | a :: l, 0, c, h, hc, hp => by
    simp at hc
    subst hc
    unfold spn
    rw [List.takeWhile_cons, hp]
    rfl
  | a :: l, k + 1, c, h, hc, hp => by
    have ha := h 0 a (by omega) rfl
    have ih := spn_at (l := l) (k := k) (c := c) (fun j d hj hd => h (j + 1) d (by omega) hd) hc hp
    unfold spn at ih ⊢
    rw [List.takeWhile_cons, ha]
    simp only [if_true, List.length_cons]
    omega
theorem spn_all {p : UInt8 → Bool} {l : List UInt8} (h : l.all p = true) : spn p l = l.length := by
  unfold spn
  rw [tw_self h]
theorem all_spn {p : UInt8 → Bool} {l : List UInt8} (h : spn p l = l.length) : l.all p = true := by
  have h1 := take_spn p l
  rw [h, List.take_length] at h1
  rw [h1]
  exact tw_all p l
set_option maxRecDepth 100000 in
set_option maxHeartbeats 4000000 in
theorem span_wrd {l : List UInt8} {W : World} (hl : l.length ≤ 1000000000) :
    Calls Try.prog 79 #[.string ⟨l.toArray⟩, .func (.func 80) #[] #[]] W fun e w' => e = .returned (.int .i64 (spn wrd l : Int)) ∧ w' = W := by
  have hz : (⟨l.toArray⟩ : ByteArray).size = l.length := by simp [ByteArray.size]
  have HK := Lib.hid wordByte_any
  go_enter Try.func79, Try.ntmps79
  go_wp2
  go_loopw [8] (fun iv wr => ∃ k : Nat, k ≤ l.length ∧ iv = .int .i64 k ∧ Hid (∀ j d, j < k → l[j]? = some d → wrd d = true) ∧ wr = W) (fun iv _ => l.length - (RowKit.intOf iv).toNat)
  case atStart => exact ⟨0, Nat.zero_le _, rfl, Lib.hid (fun j d hj => absurd hj (by omega)), rfl⟩
  case round =>
    obtain ⟨k, hk, rfl, HJ, hw⟩ := hrel
    have hw := hw.symm
    subst hw
    have k0 : (0 : Int) ≤ (k : Int) := by omega
    by_cases hlt : k < l.length
    · have hltI : (k : Int) < (l.length : Int) := by omega
      obtain ⟨x, hx⟩ := at_ l k hlt
      have hgc : (⟨l.toArray⟩ : ByteArray)[k]'(by rw [hz]; exact hlt) = x := by
        have h1 := at_str (s := ⟨l.toArray⟩) (l := l) (k := k) rfl (by rw [hz]; exact hlt)
        rw [hx] at h1
        injection h1 with h1
        exact h1.symm
      have HX := Lib.hid hx
      clear hx
      go_wp2_with (fail)
      go_must (refine (HK.out x _).mono ?_)
      rintro e w1 ⟨rfl, hw⟩
      have hw := hw.symm
      subst hw
      cases hp : wrd x
      · have HE : Hid (spn wrd l = k) := Lib.hid (spn_at HJ.out HX.out hp)
        dsimp only
        go_wp2
        go_ret
        exact ⟨by rw [HE.out]; rfl, rfl⟩
      · have HJ2 : Hid (∀ j d, j < k + 1 → l[j]? = some d → wrd d = true) := Lib.hid fun j d hj hd => by
          by_cases hjk : j < k
          · exact HJ.out j d hjk hd
          · obtain rfl : j = k := by omega
            rw [HX.out] at hd
            injection hd with hd
            subst hd
            exact hp
        dsimp only
        go_wp2
        go_roundw
        case rel => exact ⟨k + 1, by omega, by go_num, HJ2, by first | rfl | trivial⟩
        case measure => simp [RowKit.intOf]; omega
    · obtain rfl : k = l.length := by omega
      have HE : Hid (spn wrd l = l.length) := Lib.hid (spn_all (by
        rw [List.all_eq_true]
        intro c hc
        obtain ⟨j, hj⟩ := List.getElem?_of_mem hc
        exact HJ.out j c (List.getElem?_eq_some_iff.1 hj).1 hj))
      go_wp2
      go_ret
      exact ⟨by rw [HE.out]; rfl, rfl⟩
set_option maxRecDepth 100000 in
set_option maxHeartbeats 4000000 in
theorem word_any {l : List UInt8} {W : World} (hl : l.length ≤ 1000000000) :
    Calls Try.prog 70 #[.string ⟨l.toArray⟩] W fun e w' => e = .returned (.bool (isWord l)) ∧ w' = W := by
  cases l with
  | nil =>
    go_enter Try.func70, Try.ntmps70
    go_wp2
    go_ret
    exact ⟨rfl, rfl⟩
  | cons c r =>
    have hz : (⟨(c :: r).toArray⟩ : ByteArray).size = r.length + 1 := by simp [ByteArray.size]
    have hgc : (⟨(c :: r).toArray⟩ : ByteArray)[0]'(by rw [hz]; omega) = c := rfl
    have HL := Lib.hid (letter_any c)
    have HS := Lib.hid (fun W' => span_wrd (l := c :: r) (W := W') hl)
    have HB : Hid (isWord (c :: r) = (decide (r.length + 1 ≤ 20) && ltr c && decide (spn wrd (c :: r) = r.length + 1))) := Lib.hid (by
      unfold isWord
      dsimp only
      congr 1
      rw [Bool.eq_iff_iff, decide_eq_true_eq]
      exact ⟨fun h => spn_all h, fun h => all_spn h⟩)
    obtain ⟨S, hS⟩ : ∃ S, spn wrd (c :: r) = S := ⟨_, rfl⟩
    rw [hS] at HB HS
    clear hS
    by_cases h20 : r.length + 1 ≤ 20
    · have h20I : (r.length : Int) + 1 ≤ 20 := by omega
      have h0 : (0 : Int) < (r.length : Int) + 1 := by omega
      go_enter Try.func70, Try.ntmps70
      go_wp2_with (fail)
      go_must (refine (HL.out _).mono ?_)
      rintro e w1 ⟨rfl, hw⟩
      have hw := hw.symm
      subst hw
      cases hlc : ltr c
      · rw [hlc] at HB
        dsimp only
        go_wp2
        go_ret
        exact ⟨by rw [HB.out]; simp, rfl⟩
      · rw [hlc] at HB
        dsimp only
        go_wp2_with (fail)
        go_must (refine (HS.out _).mono ?_)
        rintro e w1 ⟨rfl, hw⟩
        have hw := hw.symm
        subst hw
        dsimp only
        by_cases hS : S = r.length + 1
        · have hSI : (S : Int) = (r.length : Int) + 1 := by omega
          go_wp2
          go_ret
          exact ⟨by rw [HB.out]; simp [h20, hS], rfl⟩
        · have hSI : ¬ (S : Int) = (r.length : Int) + 1 := by omega
          go_wp2
          go_ret
          exact ⟨by rw [HB.out]; simp [h20, hS]; try omega, rfl⟩
    · have h20I : ¬ (r.length : Int) + 1 ≤ 20 := by omega
      go_enter Try.func70, Try.ntmps70
      go_wp2
      go_ret
      exact ⟨by rw [HB.out]; simp [h20], rfl⟩
set_option maxRecDepth 100000 in
set_option maxHeartbeats 2000000 in
theorem rletter_any : Kd 81 ltr := by
  intro c W
  obtain ⟨X, hX⟩ : ∃ X, c.toNat = X := ⟨_, rfl⟩
  have HB : Hid (ltr c = (decide (97 ≤ X) && decide (X ≤ 122))) := Lib.hid (by unfold ltr; rw [hX])
  rw [hX]
  clear hX
  go_enter Try.func81, Try.ntmps81
  by_cases h1 : 97 ≤ X
  · have h1I : (97 : Int) ≤ (X : Int) := by omega
    by_cases h2 : X ≤ 122
    · have h2I : (X : Int) ≤ 122 := by omega
      go_wp2
      go_ret
      exact ⟨by rw [HB.out]; simp [h1, h2], rfl⟩
    · have h2I : ¬ (X : Int) ≤ 122 := by omega
      go_wp2
      go_ret
      exact ⟨by rw [HB.out]; simp [h1, h2], rfl⟩
  · have h1I : ¬ (97 : Int) ≤ (X : Int) := by omega
    go_wp2
    go_ret
    exact ⟨by rw [HB.out]; simp [h1], rfl⟩
set_option maxRecDepth 100000 in
set_option maxHeartbeats 2000000 in
theorem rdigit_any : Kd 82 dgt := by
  intro c W
  obtain ⟨X, hX⟩ : ∃ X, c.toNat = X := ⟨_, rfl⟩
  have HB : Hid (dgt c = (decide (48 ≤ X) && decide (X ≤ 57))) := Lib.hid (by unfold dgt; rw [hX])
  rw [hX]
  clear hX
  go_enter Try.func82, Try.ntmps82
  by_cases h1 : 48 ≤ X
  · have h1I : (48 : Int) ≤ (X : Int) := by omega
    by_cases h2 : X ≤ 57
    · have h2I : (X : Int) ≤ 57 := by omega
      go_wp2
      go_ret
      exact ⟨by rw [HB.out]; simp [h1, h2], rfl⟩
    · have h2I : ¬ (X : Int) ≤ 57 := by omega
      go_wp2
      go_ret
      exact ⟨by rw [HB.out]; simp [h1, h2], rfl⟩
  · have h1I : ¬ (48 : Int) ≤ (X : Int) := by omega
    go_wp2
    go_ret
    exact ⟨by rw [HB.out]; simp [h1], rfl⟩
theorem all_no {p : UInt8 → Bool} {l : List UInt8} {k : Nat} {x : UInt8} (hx : l[k]? = some x) (hp : p x = false) : l.all p = false := by
  cases h : l.all p
  · rfl
  · rw [List.all_eq_true] at h
    rw [h x (List.mem_of_getElem? hx)] at hp
    cases hp
theorem all_yes {p : UInt8 → Bool} {l : List UInt8} (h : ∀ j d, j < l.length → l[j]? = some d → p d = true) : l.all p = true := by
  rw [List.all_eq_true]
  intro c hc
  obtain ⟨j, hj⟩ := List.getElem?_of_mem hc
  exact h j c (List.getElem?_eq_some_iff.1 hj).1 hj
theorem isWord_eq {c : UInt8} {r : List UInt8} : isWord (c :: r) = (decide ((c :: r).length ≤ 20) && ltr c && (c :: r).all wrd) := rfl
set_option maxRecDepth 100000 in
set_option maxHeartbeats 8000000 in
theorem rword_any {l : List UInt8} {W : World} (hl : l.length ≤ 1000000000) :
    Calls Try.prog 73 #[.string ⟨l.toArray⟩] W fun e w' => e = .returned (.bool (isWord l)) ∧ w' = W := by
  have hz : (⟨l.toArray⟩ : ByteArray).size = l.length := by simp [ByteArray.size]
  by_cases h0 : l = []
  · subst h0
    go_enter Try.func73, Try.ntmps73
    go_wp2
    go_ret
    exact ⟨rfl, rfl⟩
  · obtain ⟨c, r, hcr⟩ : ∃ c r, l = c :: r := List.exists_cons_of_ne_nil h0
    have HW : Hid (isWord l = (decide (l.length ≤ 20) && ltr c && l.all wrd)) := Lib.hid (by rw [hcr]; exact isWord_eq)
    have hn : 1 ≤ l.length := by rw [hcr, List.length_cons]; omega
    have h0c : l[0]? = some c := by rw [hcr]; rfl
    have hg0 : (⟨l.toArray⟩ : ByteArray)[0]'(by rw [hz]; exact hn) = c := by
      have h1 := at_str (s := ⟨l.toArray⟩) (l := l) (k := 0) rfl (by rw [hz]; exact hn)
      rw [h0c] at h1
      injection h1 with h1
      exact h1.symm
    have H0 := Lib.hid h0c
    have hnI : ¬ (l.length : Int) < 1 := by omega
    clear hcr h0 h0c
    by_cases h20 : l.length ≤ 20
    · have h20I : ¬ (20 : Int) < (l.length : Int) := by omega
      go_enter Try.func73, Try.ntmps73
      go_wp2_with (fail)
      go_must (refine (rletter_any c _).mono ?_)
      rintro e w1 ⟨rfl, hw⟩
      have hw := hw.symm
      subst hw
      cases hlc : ltr c
      · have HN : Hid (isWord l = false) := Lib.hid (by rw [HW.out, hlc]; simp)
        dsimp only
        go_wp2
        go_ret
        exact ⟨by rw [HN.out]; rfl, rfl⟩
      · have HL := Lib.hid hlc
        dsimp only
        go_wp2
        go_loopw [3] (fun iv wr => ∃ k : Nat, 1 ≤ k ∧ k ≤ l.length ∧ iv = .int .i64 (k : Int) ∧ Hid (∀ j d, j < k → l[j]? = some d → wrd d = true) ∧ wr = W) (fun iv _ => l.length - (RowKit.intOf iv).toNat)
        case atStart => exact ⟨1, Nat.le_refl _, hn, rfl, Lib.hid (fun j d hj hd => by obtain rfl : j = 0 := (by omega); rw [H0.out] at hd; injection hd with hd; subst hd; exact ltr_wrd HL.out), rfl⟩
        case round =>
          obtain ⟨k, hk1, hk, rfl, HJ, hw⟩ := hrel
          have hw := hw.symm
          subst hw
          have k0 : (0 : Int) ≤ (k : Int) := by omega
          by_cases hlt : k < l.length
          · have hltI : (k : Int) < (l.length : Int) := by omega
            obtain ⟨x, hx⟩ := at_ l k hlt
            have hgc : (⟨l.toArray⟩ : ByteArray)[k]'(by rw [hz]; exact hlt) = x := by
              have h1 := at_str (s := ⟨l.toArray⟩) (l := l) (k := k) rfl (by rw [hz]; exact hlt)
              rw [hx] at h1
              injection h1 with h1
              exact h1.symm
            have HX := Lib.hid hx
            clear hx
            go_wp2_with (fail)
            go_must (refine (rletter_any x _).mono ?_)
            rintro e w1 ⟨rfl, hw⟩
            have hw := hw.symm
            subst hw
            have NEXT : Hid (wrd x = true → ∀ j d, j < k + 1 → l[j]? = some d → wrd d = true) := Lib.hid fun hw j d hj hd => by
              by_cases hjk : j < k
              · exact HJ.out j d hjk hd
              · obtain rfl : j = k := by omega
                rw [HX.out] at hd
                injection hd with hd
                subst hd
                exact hw
            cases hlx : ltr x
            · dsimp only
              go_wp2_with (fail)
              go_must (refine (rdigit_any x _).mono ?_)
              rintro e w1 ⟨rfl, hw⟩
              have hw := hw.symm
              subst hw
              cases hdx : dgt x
              · have HN : Hid (isWord l = false) := Lib.hid (by rw [HW.out, all_no HX.out (by unfold wrd; rw [hlx, hdx]; rfl)]; simp)
                dsimp only
                go_wp2
                go_ret
                exact ⟨by rw [HN.out]; rfl, rfl⟩
              · have HJ2 := Lib.hid (NEXT.out (dgt_wrd hdx))
                dsimp only
                go_wp2
                go_roundw
                case rel => exact ⟨k + 1, by omega, by omega, by go_num, HJ2, by first | rfl | trivial⟩
                case measure => simp [RowKit.intOf]; omega
            · have HJ2 := Lib.hid (NEXT.out (ltr_wrd hlx))
              dsimp only
              go_wp2
              go_roundw
              case rel => exact ⟨k + 1, by omega, by omega, by go_num, HJ2, by first | rfl | trivial⟩
              case measure => simp [RowKit.intOf]; omega
          · obtain rfl : k = l.length := by omega
            have HN : Hid (isWord l = true) := Lib.hid (by rw [HW.out, HL.out, all_yes HJ.out]; simp [h20])
            go_wp2
            go_ret
            exact ⟨by rw [HN.out]; rfl, rfl⟩
    · have h20I : (20 : Int) < (l.length : Int) := by omega
      have HN : Hid (isWord l = false) := Lib.hid (by rw [HW.out]; simp [h20])
      go_enter Try.func73, Try.ntmps73
      go_wp2
      go_ret
      exact ⟨by rw [HN.out]; rfl, rfl⟩
end Go.Proofs.Ytcnfonhcgcblgaa.Wd
