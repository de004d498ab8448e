/- Tokens: the program's kinds of bytes, span, Word, Number. -/
import Derived.Test.YtmineoilmmifiaaDoorLxQ
import Derived.Test.YtmineoilmmifiaaDoorShelf
namespace Go.Proofs.YtmineoilmmifiaaDoor.Lx
open Go.Lib Go.ChangeShapes Go.WideShapes Go.ChangeAt Go.RowKit Go.Proofs.YtmineoilmmifiaaDoor.Cell
set_option linter.unusedVariables false
set_option linter.unusedSimpArgs false
theorem str_eq {a b : ByteArray} (h : a.data.toList = b.data.toList) : a = b := by
  cases a
  cases b
  congr 1
  exact Array.toList_inj.1 h
theorem ext_end (s : ByteArray) (a : Nat) : (s.extract a s.size).data.toList = s.data.toList.drop a := by
  rw [Lib.extract_data]
  exact List.take_of_length_le (by rw [List.length_drop]; exact Nat.le_refl _)
theorem at_str {s : ByteArray} {l : List UInt8} {k : Nat} (hs : s.data.toList = l) (h : k < s.size) : l[k]? = some s[k] := by
  subst hs
  rw [Array.getElem?_toList]
  exact Array.getElem?_eq_getElem h
theorem app_list (a b : List UInt8) : (⟨a.toArray⟩ : ByteArray) ++ (⟨b.toArray⟩ : ByteArray) = ⟨(a ++ b).toArray⟩ := str_eq (by simp)
/-- the world a law began in, and what its variables hold -/
structure Ev (w0 W : World) : Prop where
  b : Below w0.heap.size w0 W
  sg : ∀ (j : Nat) x, signs[j]? = some x → w0.cell? ⟨0, j, none⟩ = some (.string ⟨x.toArray⟩)
  er : ∃ ev, w0.cell? ⟨2, 0, none⟩ = some ev ∧ (ev = .nilIface ∨ ∃ te pe, ev = .iface te pe)
theorem Ev.keep {w0 W w' : World} (h : Ev w0 W) (hb : Below W.heap.size W w') : Ev w0 w' := ⟨Gen.over hb h.b, h.sg, h.er⟩
/-- a function that tells a kind of bytes -/
def Kd (fn : FuncId) (p : UInt8 → Bool) : Prop := ∀ (c : UInt8) (W : World), Calls Tryd.prog fn #[.int .u8 (c.toNat : Int)] W fun e w' => e = .returned (.bool (p c)) ∧ w' = W
theorem eq_u8 {c : UInt8} {k : Nat} (hk : k < 256) : (c == UInt8.ofNat k) = decide (c.toNat = k) := by
  rw [Bool.eq_iff_iff, beq_iff_eq, decide_eq_true_eq]
  constructor
  · intro h
    rw [h, UInt8.toNat_ofNat']
    omega
  · intro h
    apply UInt8.toNat_inj.1
    rw [h, UInt8.toNat_ofNat']
    omega
set_option maxRecDepth 100000 in
set_option maxHeartbeats 2000000 in
theorem blank_any : Kd 23 blk := by
  intro c W
  obtain ⟨X, hX⟩ : ∃ X, c.toNat = X := ⟨_, rfl⟩
  have HB : Hid (blk c = (decide (X = 9) || decide (X = 10) || decide (X = 32))) := Lib.hid (by
    unfold blk
    rw [show (9 : UInt8) = UInt8.ofNat 9 from rfl, show (10 : UInt8) = UInt8.ofNat 10 from rfl, show (32 : UInt8) = UInt8.ofNat 32 from rfl, eq_u8 (by decide), eq_u8 (by decide), eq_u8 (by decide), hX])
  rw [hX]
  clear hX
  go_enter Tryd.func23, Tryd.ntmps23
  by_cases h1 : X = 9
  · subst h1
    go_wp2
    go_ret
    exact ⟨by rw [HB.out]; rfl, rfl⟩
  · have h1I : ¬ (X : Int) = 9 := by omega
    by_cases h2 : X = 10
    · subst h2
      go_wp2
      go_ret
      exact ⟨by rw [HB.out]; rfl, rfl⟩
    · have h2I : ¬ (X : Int) = 10 := by omega
      by_cases h3 : X = 32
      · subst h3
        go_wp2
        go_ret
        exact ⟨by rw [HB.out]; rfl, rfl⟩
      · have h3I : ¬ (X : Int) = 32 := by omega
        go_wp2
        go_ret
        exact ⟨by rw [HB.out]; simp [h1, h2, h3]; omega, rfl⟩
set_option maxRecDepth 100000 in
set_option maxHeartbeats 2000000 in
theorem letter_any : Kd 29 ltr := by
  intro c W
  obtain ⟨X, hX⟩ : ∃ X, c.toNat = X := ⟨_, rfl⟩
  have HB : Hid (ltr c = (decide (97 ≤ X) && decide (X ≤ 122))) := Lib.hid (by unfold ltr; rw [hX])
  rw [hX]
  clear hX
  go_enter Tryd.func29, Tryd.ntmps29
  by_cases h1 : 97 ≤ X
  · have h1I : (97 : Int) ≤ (X : Int) := by omega
    by_cases h2 : X ≤ 122
    · have h2I : (X : Int) ≤ 122 := by omega
      go_wp2
      go_ret
      exact ⟨by rw [HB.out]; simp [h1, h2], rfl⟩
    · have h2I : ¬ (X : Int) ≤ 122 := by omega
      go_wp2
      go_ret
      exact ⟨by rw [HB.out]; simp [h1, h2], rfl⟩
  · have h1I : ¬ (97 : Int) ≤ (X : Int) := by omega
    go_wp2
    go_ret
    exact ⟨by rw [HB.out]; simp [h1], rfl⟩
set_option maxRecDepth 100000 in
set_option maxHeartbeats 2000000 in
theorem digit_any : Kd 26 dgt := by
  intro c W
  obtain ⟨X, hX⟩ : ∃ X, c.toNat = X := ⟨_, rfl⟩
  have HB : Hid (dgt c = (decide (48 ≤ X) && decide (X ≤ 57))) := Lib.hid (by unfold dgt; rw [hX])
  rw [hX]
  clear hX
  go_enter Tryd.func26, Tryd.ntmps26
  by_cases h1 : 48 ≤ X
  · have h1I : (48 : Int) ≤ (X : Int) := by omega
    by_cases h2 : X ≤ 57
    · have h2I : (X : Int) ≤ 57 := by omega
      go_wp2
      go_ret
      exact ⟨by rw [HB.out]; simp [h1, h2], rfl⟩
    · have h2I : ¬ (X : Int) ≤ 57 := by omega
      go_wp2
      go_ret
      exact ⟨by rw [HB.out]; simp [h1, h2], rfl⟩
  · have h1I : ¬ (48 : Int) ≤ (X : Int) := by omega
    go_wp2
    go_ret
    exact ⟨by rw [HB.out]; simp [h1], rfl⟩
set_option maxRecDepth 100000 in
set_option maxHeartbeats 2000000 in
theorem wordByte_any : Kd 30 wrd := by
  intro c W
  have HL := Lib.hid (letter_any c)
  have HD := Lib.hid (digit_any c)
  have HW : Hid (wrd c = (ltr c || dgt c)) := Lib.hid rfl
  obtain ⟨X, hX⟩ : ∃ X, c.toNat = X := ⟨_, rfl⟩
  rw [hX] at HL HD ⊢
  go_enter Tryd.func30, Tryd.ntmps30
  go_wp2_with (fail)
  go_must (refine (HL.out _).mono ?_)
  rintro e w1 ⟨rfl, hw⟩
  have hw := hw.symm
  subst hw
  cases hl : ltr c
  · rw [hl] at HW
    dsimp only
    go_wp2_with (fail)
    go_must (refine (HD.out _).mono ?_)
    rintro e w1 ⟨rfl, hw⟩
    have hw := hw.symm
    subst hw
    dsimp only
    go_wp2
    go_ret
    exact ⟨by rw [HW.out]; rfl, rfl⟩
  · rw [hl] at HW
    dsimp only
    go_wp2
    go_ret
    exact ⟨by rw [HW.out]; rfl, rfl⟩
theorem spn_at {p : UInt8 → Bool} : ∀ {l : List UInt8} {k : Nat} {c : UInt8}, (∀ j d, j < k → l[j]? = some d → p d = true) → l[k]? = some c → p c = false → spn p l = k
  | [], k, c, _, h, _ => by simp at h
  | a :: l, 0, c, h, hc, hp => by
    simp at hc
    subst hc
    unfold spn
    rw [List.takeWhile_cons, hp]
    rfl
  | a :: l, k + 1, c, h, hc, hp => by
    have ha := h 0 a (by omega) rfl
    have ih := spn_at (l := l) (k := k) (c := c) (fun j d hj hd => h (j + 1) d (by omega) hd) hc hp
    unfold spn at ih ⊢
    rw [List.takeWhile_cons, ha]
    simp only [if_true, List.length_cons]
    omega
theorem spn_all {p : UInt8 → Bool} {l : List UInt8} (h : l.all p = true) : spn p l = l.length := by
  unfold spn
  rw [tw_self h]
theorem all_spn {p : UInt8 → Bool} {l : List UInt8} (h : spn p l = l.length) : l.all p = true := by
  have h1 := take_spn p l
  rw [h, List.take_length] at h1
  rw [h1]
  exact tw_all p l
set_option maxRecDepth 100000 in
set_option maxHeartbeats 4000000 in
theorem span_blk {l : List UInt8} {W : World} (hl : l.length ≤ 1000000000) :
    Calls Tryd.prog 22 #[.string ⟨l.toArray⟩, .func (.func 23) #[] #[]] W fun e w' => e = .returned (.int .i64 (spn blk l : Int)) ∧ w' = W := by
  have hz : (⟨l.toArray⟩ : ByteArray).size = l.length := by simp [ByteArray.size]
  have HK := Lib.hid blank_any
  go_enter Tryd.func22, Tryd.ntmps22
  go_wp2
  go_loopw [8] (fun iv wr => ∃ k : Nat, k ≤ l.length ∧ iv = .int .i64 k ∧ Hid (∀ j d, j < k → l[j]? = some d → blk d = true) ∧ wr = W) (fun iv _ => l.length - (RowKit.intOf iv).toNat)
  case atStart => exact ⟨0, Nat.zero_le _, rfl, Lib.hid (fun j d hj => absurd hj (by omega)), rfl⟩
  case round =>
    obtain ⟨k, hk, rfl, HJ, hw⟩ := hrel
    have hw := hw.symm
    subst hw
    have k0 : (0 : Int) ≤ (k : Int) := by omega
    by_cases hlt : k < l.length
    · have hltI : (k : Int) < (l.length : Int) := by omega
      obtain ⟨x, hx⟩ := at_ l k hlt
      have hgc : (⟨l.toArray⟩ : ByteArray)[k]'(by rw [hz]; exact hlt) = x := by
        have h1 := at_str (s := ⟨l.toArray⟩) (l := l) (k := k) rfl (by rw [hz]; exact hlt)
        rw [hx] at h1
        injection h1 with h1
        exact h1.symm
      have HX := Lib.hid hx
      clear hx
      go_wp2_with (fail)
      go_must (refine (HK.out x _).mono ?_)
      rintro e w1 ⟨rfl, hw⟩
      have hw := hw.symm
      subst hw
      cases hp : blk x
      · have HE : Hid (spn blk l = k) := Lib.hid (spn_at HJ.out HX.out hp)
        dsimp only
        go_wp2
        go_ret
        exact ⟨by rw [HE.out]; rfl, rfl⟩
      · have HJ2 : Hid (∀ j d, j < k + 1 → l[j]? = some d → blk d = true) := Lib.hid fun j d hj hd => by
          by_cases hjk : j < k
          · exact HJ.out j d hjk hd
          · obtain rfl : j = k := by omega
            rw [HX.out] at hd
            injection hd with hd
            subst hd
            exact hp
        dsimp only
        go_wp2
        go_roundw
        case rel => exact ⟨k + 1, by omega, by go_num, HJ2, by first | rfl | trivial⟩
        case measure => simp [RowKit.intOf]; omega
    · obtain rfl : k = l.length := by omega
      have HE : Hid (spn blk l = l.length) := Lib.hid (spn_all (by
        rw [List.all_eq_true]
        intro c hc
        obtain ⟨j, hj⟩ := List.getElem?_of_mem hc
        exact HJ.out j c (List.getElem?_eq_some_iff.1 hj).1 hj))
      go_wp2
      go_ret
      exact ⟨by rw [HE.out]; rfl, rfl⟩
set_option maxRecDepth 100000 in
set_option maxHeartbeats 4000000 in
theorem span_wrd {l : List UInt8} {W : World} (hl : l.length ≤ 1000000000) :
    Calls Tryd.prog 22 #[.string ⟨l.toArray⟩, .func (.func 30) #[] #[]] W fun e w' => e = .returned (.int .i64 (spn wrd l : Int)) ∧ w' = W := by
  have hz : (⟨l.toArray⟩ : ByteArray).size = l.length := by simp [ByteArray.size]
  have HK := Lib.hid wordByte_any
  go_enter Tryd.func22, Tryd.ntmps22
  go_wp2
  go_loopw [8] (fun iv wr => ∃ k : Nat, k ≤ l.length ∧ iv = .int .i64 k ∧ Hid (∀ j d, j < k → l[j]? = some d → wrd d = true) ∧ wr = W) (fun iv _ => l.length - (RowKit.intOf iv).toNat)
  case atStart => exact ⟨0, Nat.zero_le _, rfl, Lib.hid (fun j d hj => absurd hj (by omega)), rfl⟩
  case round =>
    obtain ⟨k, hk, rfl, HJ, hw⟩ := hrel
    have hw := hw.symm
    subst hw
    have k0 : (0 : Int) ≤ (k : Int) := by omega
    by_cases hlt : k < l.length
    · have hltI : (k : Int) < (l.length : Int) := by omega
      obtain ⟨x, hx⟩ := at_ l k hlt
      have hgc : (⟨l.toArray⟩ : ByteArray)[k]'(by rw [hz]; exact hlt) = x := by
        have h1 := at_str (s := ⟨l.toArray⟩) (l := l) (k := k) rfl (by rw [hz]; exact hlt)
        rw [hx] at h1
        injection h1 with h1
        exact h1.symm
      have HX := Lib.hid hx
      clear hx
      go_wp2_with (fail)
      go_must (refine (HK.out x _).mono ?_)
      rintro e w1 ⟨rfl, hw⟩
      have hw := hw.symm
      subst hw
      cases hp : wrd x
      · have HE : Hid (spn wrd l = k) := Lib.hid (spn_at HJ.out HX.out hp)
        dsimp only
        go_wp2
        go_ret
        exact ⟨by rw [HE.out]; rfl, rfl⟩
      · have HJ2 : Hid (∀ j d, j < k + 1 → l[j]? = some d → wrd d = true) := Lib.hid fun j d hj hd => by
          by_cases hjk : j < k
          · exact HJ.out j d hjk hd
          · obtain rfl : j = k := by omega
            rw [HX.out] at hd
            injection hd with hd
            subst hd
            exact hp
        dsimp only
        go_wp2
        go_roundw
        case rel => exact ⟨k + 1, by omega, by go_num, HJ2, by first | rfl | trivial⟩
        case measure => simp [RowKit.intOf]; omega
    · obtain rfl : k = l.length := by omega
      have HE : Hid (spn wrd l = l.length) := Lib.hid (spn_all (by
        rw [List.all_eq_true]
        intro c hc
        obtain ⟨j, hj⟩ := List.getElem?_of_mem hc
        exact HJ.out j c (List.getElem?_eq_some_iff.1 hj).1 hj))
      go_wp2
      go_ret
      exact ⟨by rw [HE.out]; rfl, rfl⟩
set_option maxRecDepth 100000 in
set_option maxHeartbeats 4000000 in
theorem span_dgt {l : List UInt8} {W : World} (hl : l.length ≤ 1000000000) :
    Calls Tryd.prog 22 #[.string ⟨l.toArray⟩, .func (.func 26) #[] #[]] W fun e w' => e = .returned (.int .i64 (spn dgt l : Int)) ∧ w' = W := by
  have hz : (⟨l.toArray⟩ : ByteArray).size = l.length := by simp [ByteArray.size]
  have HK := Lib.hid digit_any
  go_enter Tryd.func22, Tryd.ntmps22
  go_wp2
  go_loopw [8] (fun iv wr => ∃ k : Nat, k ≤ l.length ∧ iv = .int .i64 k ∧ Hid (∀ j d, j < k → l[j]? = some d → dgt d = true) ∧ wr = W) (fun iv _ => l.length - (RowKit.intOf iv).toNat)
  case atStart => exact ⟨0, Nat.zero_le _, rfl, Lib.hid (fun j d hj => absurd hj (by omega)), rfl⟩
  case round =>
    obtain ⟨k, hk, rfl, HJ, hw⟩ := hrel
    have hw := hw.symm
    subst hw
    have k0 : (0 : Int) ≤ (k : Int) := by omega
    by_cases hlt : k < l.length
    · have hltI : (k : Int) < (l.length : Int) := by omega
      obtain ⟨x, hx⟩ := at_ l k hlt
      have hgc : (⟨l.toArray⟩ : ByteArray)[k]'(by rw [hz]; exact hlt) = x := by
        have h1 := at_str (s := ⟨l.toArray⟩) (l := l) (k := k) rfl (by rw [hz]; exact hlt)
        rw [hx] at h1
        injection h1 with h1
        exact h1.symm
      have HX := Lib.hid hx
      clear hx
      go_wp2_with (fail)
      go_must (refine (HK.out x _).mono ?_)
      rintro e w1 ⟨rfl, hw⟩
      have hw := hw.symm
      subst hw
      cases hp : dgt x
      · have HE : Hid (spn dgt l = k) := Lib.hid (spn_at HJ.out HX.out hp)
        dsimp only
        go_wp2
        go_ret
        exact ⟨by rw [HE.out]; rfl, rfl⟩
      · have HJ2 : Hid (∀ j d, j < k + 1 → l[j]? = some d → dgt d = true) := Lib.hid fun j d hj hd => by
          by_cases hjk : j < k
          · exact HJ.out j d hjk hd
          · obtain rfl : j = k := by omega
            rw [HX.out] at hd
            injection hd with hd
            subst hd
            exact hp
        dsimp only
        go_wp2
        go_roundw
        case rel => exact ⟨k + 1, by omega, by go_num, HJ2, by first | rfl | trivial⟩
        case measure => simp [RowKit.intOf]; omega
    · obtain rfl : k = l.length := by omega
      have HE : Hid (spn dgt l = l.length) := Lib.hid (spn_all (by
        rw [List.all_eq_true]
        intro c hc
        obtain ⟨j, hj⟩ := List.getElem?_of_mem hc
        exact HJ.out j c (List.getElem?_eq_some_iff.1 hj).1 hj))
      go_wp2
      go_ret
      exact ⟨by rw [HE.out]; rfl, rfl⟩
end Go.Proofs.YtmineoilmmifiaaDoor.Lx
