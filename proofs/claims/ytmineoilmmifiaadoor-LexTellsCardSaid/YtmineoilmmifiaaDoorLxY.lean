/- Tokens: the reference's kinds of bytes, Word, Number, sign. -/
import Derived.Test.YtmineoilmmifiaaDoorLLxP
namespace Go.Proofs.YtmineoilmmifiaaDoor.Lx
open Go.Lib Go.ChangeShapes Go.WideShapes Go.ChangeAt Go.RowKit Go.Proofs.YtmineoilmmifiaaDoor.Cell
set_option linter.unusedVariables false
set_option linter.unusedSimpArgs false
set_option maxRecDepth 100000 in
set_option maxHeartbeats 2000000 in
theorem rletter_any : Kd 31 ltr := by
  intro c W
  obtain ⟨X, hX⟩ : ∃ X, c.toNat = X := ⟨_, rfl⟩
  have HB : Hid (ltr c = (decide (97 ≤ X) && decide (X ≤ 122))) := Lib.hid (by unfold ltr; rw [hX])
  rw [hX]
  clear hX
  go_enter Tryd.func31, Tryd.ntmps31
  by_cases h1 : 97 ≤ X
  · have h1I : (97 : Int) ≤ (X : Int) := by omega
    by_cases h2 : X ≤ 122
    · have h2I : (X : Int) ≤ 122 := by omega
      go_wp2
      go_ret
      exact ⟨by rw [HB.out]; simp [h1, h2], rfl⟩
    · have h2I : ¬ (X : Int) ≤ 122 := by omega
      go_wp2
      go_ret
      exact ⟨by rw [HB.out]; simp [h1, h2], rfl⟩
  · have h1I : ¬ (97 : Int) ≤ (X : Int) := by omega
    go_wp2
    go_ret
    exact ⟨by rw [HB.out]; simp [h1], rfl⟩
set_option maxRecDepth 100000 in
set_option maxHeartbeats 2000000 in
theorem rdigit_any : Kd 28 dgt := by
  intro c W
  obtain ⟨X, hX⟩ : ∃ X, c.toNat = X := ⟨_, rfl⟩
  have HB : Hid (dgt c = (decide (48 ≤ X) && decide (X ≤ 57))) := Lib.hid (by unfold dgt; rw [hX])
  rw [hX]
  clear hX
  go_enter Tryd.func28, Tryd.ntmps28
  by_cases h1 : 48 ≤ X
  · have h1I : (48 : Int) ≤ (X : Int) := by omega
    by_cases h2 : X ≤ 57
    · have h2I : (X : Int) ≤ 57 := by omega
      go_wp2
      go_ret
      exact ⟨by rw [HB.out]; simp [h1, h2], rfl⟩
    · have h2I : ¬ (X : Int) ≤ 57 := by omega
      go_wp2
      go_ret
      exact ⟨by rw [HB.out]; simp [h1, h2], rfl⟩
  · have h1I : ¬ (48 : Int) ≤ (X : Int) := by omega
    go_wp2
    go_ret
    exact ⟨by rw [HB.out]; simp [h1], rfl⟩
theorem all_no {p : UInt8 → Bool} {l : List UInt8} {k : Nat} {x : UInt8} (hx : l[k]? = some x) (hp : p x = false) : l.all p = false := by
  cases h : l.all p
  · rfl
  · rw [List.all_eq_true] at h
    rw [h x (List.mem_of_getElem? hx)] at hp
    cases hp
theorem all_yes {p : UInt8 → Bool} {l : List UInt8} (h : ∀ j d, j < l.length → l[j]? = some d → p d = true) : l.all p = true := by
  rw [List.all_eq_true]
  intro c hc
  obtain ⟨j, hj⟩ := List.getElem?_of_mem hc
  exact h j c (List.getElem?_eq_some_iff.1 hj).1 hj
theorem isWord_eq {c : UInt8} {r : List UInt8} : isWord (c :: r) = (decide ((c :: r).length ≤ 20) && ltr c && (c :: r).all wrd) := rfl
set_option maxRecDepth 100000 in
set_option maxHeartbeats 8000000 in
theorem rword_any {l : List UInt8} {W : World} (hl : l.length ≤ 1000000000) :
    Calls Tryd.prog 17 #[.string ⟨l.toArray⟩] W fun e w' => e = .returned (.bool (isWord l)) ∧ w' = W := by
  have hz : (⟨l.toArray⟩ : ByteArray).size = l.length := by simp [ByteArray.size]
  by_cases h0 : l = []
  · subst h0
    go_enter Tryd.func17, Tryd.ntmps17
    go_wp2
    go_ret
    exact ⟨rfl, rfl⟩
  · obtain ⟨c, r, hcr⟩ : ∃ c r, l = c :: r := List.exists_cons_of_ne_nil h0
    have HW : Hid (isWord l = (decide (l.length ≤ 20) && ltr c && l.all wrd)) := Lib.hid (by rw [hcr]; exact isWord_eq)
    have hn : 1 ≤ l.length := by rw [hcr, List.length_cons]; omega
    have h0c : l[0]? = some c := by rw [hcr]; rfl
    have hg0 : (⟨l.toArray⟩ : ByteArray)[0]'(by rw [hz]; exact hn) = c := by
      have h1 := at_str (s := ⟨l.toArray⟩) (l := l) (k := 0) rfl (by rw [hz]; exact hn)
      rw [h0c] at h1
      injection h1 with h1
      exact h1.symm
    have H0 := Lib.hid h0c
    have hnI : ¬ (l.length : Int) < 1 := by omega
    clear hcr h0 h0c
    by_cases h20 : l.length ≤ 20
    · have h20I : ¬ (20 : Int) < (l.length : Int) := by omega
      go_enter Tryd.func17, Tryd.ntmps17
      go_wp2_with (fail)
      go_must (refine (rletter_any c _).mono ?_)
      rintro e w1 ⟨rfl, hw⟩
      have hw := hw.symm
      subst hw
      cases hlc : ltr c
      · have HN : Hid (isWord l = false) := Lib.hid (by rw [HW.out, hlc]; simp)
        dsimp only
        go_wp2
        go_ret
        exact ⟨by rw [HN.out]; rfl, rfl⟩
      · have HL := Lib.hid hlc
        dsimp only
        go_wp2
        go_loopw [3] (fun iv wr => ∃ k : Nat, 1 ≤ k ∧ k ≤ l.length ∧ iv = .int .i64 (k : Int) ∧ Hid (∀ j d, j < k → l[j]? = some d → wrd d = true) ∧ wr = W) (fun iv _ => l.length - (RowKit.intOf iv).toNat)
        case atStart => exact ⟨1, Nat.le_refl _, hn, rfl, Lib.hid (fun j d hj hd => by obtain rfl : j = 0 := (by omega); rw [H0.out] at hd; injection hd with hd; subst hd; exact ltr_wrd HL.out), rfl⟩
        case round =>
          obtain ⟨k, hk1, hk, rfl, HJ, hw⟩ := hrel
          have hw := hw.symm
          subst hw
          have k0 : (0 : Int) ≤ (k : Int) := by omega
          by_cases hlt : k < l.length
          · have hltI : (k : Int) < (l.length : Int) := by omega
            obtain ⟨x, hx⟩ := at_ l k hlt
            have hgc : (⟨l.toArray⟩ : ByteArray)[k]'(by rw [hz]; exact hlt) = x := by
              have h1 := at_str (s := ⟨l.toArray⟩) (l := l) (k := k) rfl (by rw [hz]; exact hlt)
              rw [hx] at h1
              injection h1 with h1
              exact h1.symm
            have HX := Lib.hid hx
            clear hx
            go_wp2_with (fail)
            go_must (refine (rletter_any x _).mono ?_)
            rintro e w1 ⟨rfl, hw⟩
            have hw := hw.symm
            subst hw
            have NEXT : Hid (wrd x = true → ∀ j d, j < k + 1 → l[j]? = some d → wrd d = true) := Lib.hid fun hw j d hj hd => by
              by_cases hjk : j < k
              · exact HJ.out j d hjk hd
              · obtain rfl : j = k := by omega
                rw [HX.out] at hd
                injection hd with hd
                subst hd
                exact hw
            cases hlx : ltr x
            · dsimp only
              go_wp2_with (fail)
              go_must (refine (rdigit_any x _).mono ?_)
              rintro e w1 ⟨rfl, hw⟩
              have hw := hw.symm
              subst hw
              cases hdx : dgt x
              · have HN : Hid (isWord l = false) := Lib.hid (by rw [HW.out, all_no HX.out (by unfold wrd; rw [hlx, hdx]; rfl)]; simp)
                dsimp only
                go_wp2
                go_ret
                exact ⟨by rw [HN.out]; rfl, rfl⟩
              · have HJ2 := Lib.hid (NEXT.out (dgt_wrd hdx))
                dsimp only
                go_wp2
                go_roundw
                case rel => exact ⟨k + 1, by omega, by omega, by go_num, HJ2, by first | rfl | trivial⟩
                case measure => simp [RowKit.intOf]; omega
            · have HJ2 := Lib.hid (NEXT.out (ltr_wrd hlx))
              dsimp only
              go_wp2
              go_roundw
              case rel => exact ⟨k + 1, by omega, by omega, by go_num, HJ2, by first | rfl | trivial⟩
              case measure => simp [RowKit.intOf]; omega
          · obtain rfl : k = l.length := by omega
            have HN : Hid (isWord l = true) := Lib.hid (by rw [HW.out, HL.out, all_yes HJ.out]; simp [h20])
            go_wp2
            go_ret
            exact ⟨by rw [HN.out]; rfl, rfl⟩
    · have h20I : (20 : Int) < (l.length : Int) := by omega
      have HN : Hid (isWord l = false) := Lib.hid (by rw [HW.out]; simp [h20])
      go_enter Tryd.func17, Tryd.ntmps17
      go_wp2
      go_ret
      exact ⟨by rw [HN.out]; rfl, rfl⟩
theorem val_snoc {l : List UInt8} {k : Nat} {x : UInt8} (h : l[k]? = some x) : val (l.take (k + 1)) = 10 * val (l.take k) + (x.toNat - 48) := by
  unfold val
  rw [take_snoc h, List.foldl_append]
  rfl
theorem val_ge (l : List UInt8) (k : Nat) : val (l.take k) ≤ val l := by
  have h := valf_ge (l.drop k) (val (l.take k))
  have e : valf (val (l.take k)) (l.drop k) = val l := by
    unfold valf val
    rw [← List.foldl_append, List.take_append_drop]
  rw [e] at h
  exact h
theorem isNum_eq {c : UInt8} {r : List UInt8} : isNum (c :: r) = ((c :: r).all dgt && !(c == 48 && !r.isEmpty) && decide (val (c :: r) ≤ 1000000000000000)) := rfl
theorem isNum_small {l : List UInt8} (h : isNum l = true) : l.all dgt = true ∧ val l ≤ 1000000000000000 := by
  cases l with
  | nil => cases h
  | cons c r =>
    rw [isNum_eq, Bool.and_eq_true, Bool.and_eq_true, decide_eq_true_eq] at h
    exact ⟨h.1.1, h.2⟩
theorem isNum_no {l : List UInt8} (h : ¬ (l.all dgt = true ∧ val l ≤ 1000000000000000)) : NumR l = .tuple #[.int .i64 0, .bool false] := NumR_no (by
  cases hn : isNum l
  · rfl
  · exact absurd (isNum_small hn) h)
set_option maxRecDepth 100000 in
set_option maxHeartbeats 8000000 in
theorem rnumber_any {l : List UInt8} {W : World} (hl : l.length ≤ 1000000000) :
    Calls Tryd.prog 14 #[.string ⟨l.toArray⟩] W fun e w' => e = .returned (NumR l) ∧ w' = W := by
  have hz : (⟨l.toArray⟩ : ByteArray).size = l.length := by simp [ByteArray.size]
  go_enter Tryd.func14, Tryd.ntmps14
  go_wp2
  go_loopw [4, 5] (fun nv iv wr => ∃ k : Nat, k ≤ l.length ∧ iv = .int .i64 (k : Int) ∧ nv = .int .i64 (val (l.take k) : Int) ∧ val (l.take k) ≤ 10000000000000009 ∧ Hid (∀ j d, j < k → l[j]? = some d → dgt d = true) ∧ wr = W) (fun _ iv _ => l.length - (RowKit.intOf iv).toNat)
  case atStart => exact ⟨0, Nat.zero_le _, rfl, rfl, by simp [val], Lib.hid (fun j d hj => absurd hj (by omega)), rfl⟩
  case round =>
    obtain ⟨k, hk, rfl, rfl, hV, HJ, hw⟩ := hrel
    have hw := hw.symm
    subst hw
    have k0 : (0 : Int) ≤ (k : Int) := by omega
    have HGE := Lib.hid (val_ge l k)
    have HSN := Lib.hid (fun x (h : l[k]? = some x) => val_snoc h)
    obtain ⟨V, hVV⟩ : ∃ V, val (l.take k) = V := ⟨_, rfl⟩
    have HV := Lib.hid hVV
    rw [hVV] at hV HGE HSN ⊢
    clear hVV
    by_cases hlt : k < l.length
    · have hltI : (k : Int) < (l.length : Int) := by omega
      obtain ⟨x, hx⟩ := at_ l k hlt
      have hgc : (⟨l.toArray⟩ : ByteArray)[k]'(by rw [hz]; exact hlt) = x := by
        have h1 := at_str (s := ⟨l.toArray⟩) (l := l) (k := k) rfl (by rw [hz]; exact hlt)
        rw [hx] at h1
        injection h1 with h1
        exact h1.symm
      have HX := Lib.hid hx
      clear hx
      go_wp2_with (fail)
      go_must (refine (rdigit_any x _).mono ?_)
      rintro e w1 ⟨rfl, hw⟩
      have hw := hw.symm
      subst hw
      cases hdx : dgt x
      · have HN : Hid (NumR l = .tuple #[.int .i64 0, .bool false]) := Lib.hid (isNum_no fun h => by rw [all_no HX.out hdx] at h; cases h.1)
        dsimp only
        go_wp2
        exact bodyPost_ret (v := .tuple #[.int .i64 0, .bool false]) (by simp [results, Tryd.results14, go_sem]) rfl ⟨by rw [HN.out], rfl⟩
      · have hd : 48 ≤ x.toNat ∧ x.toNat ≤ 57 := by
          have := hdx
          unfold dgt at this
          simpa using this
        by_cases hbig : V ≤ 1000000000000000
        · have hbI : ¬ (1000000000000000 : Int) < (V : Int) := by omega
          have HS := Lib.hid (HSN.out x HX.out)
          have HJ2 : Hid (∀ j d, j < k + 1 → l[j]? = some d → dgt d = true) := Lib.hid fun j d hj hd => by
            by_cases hjk : j < k
            · exact HJ.out j d hjk hd
            · obtain rfl : j = k := by omega
              rw [HX.out] at hd
              injection hd with hd
              subst hd
              exact hdx
          obtain ⟨X, hX⟩ : ∃ X, x.toNat = X := ⟨_, rfl⟩
          rw [hX] at HS hd
          have hw0 : IntKind.i64.wrap (X : Int) = (X : Int) := IntWalk.i64_in _ (by omega)
          have hw1 : IntKind.i64.wrap (10 * (V : Int)) = 10 * (V : Int) := IntWalk.i64_in _ (by omega)
          have hw2 : IntKind.i64.wrap (10 * (V : Int) + (X : Int)) = 10 * (V : Int) + (X : Int) := IntWalk.i64_in _ (by omega)
          have hw3 : IntKind.i64.wrap (10 * (V : Int) + (X : Int) - 48) = ((10 * V + (X - 48) : Nat) : Int) := by rw [IntWalk.i64_in _ (by omega)]; omega
          obtain ⟨V2, hV2⟩ : ∃ V2, 10 * V + (X - 48) = V2 := ⟨_, rfl⟩
          rw [hV2] at hw3 HS
          dsimp only
          go_wp2
          go_roundw
          case rel => exact ⟨k + 1, by omega, by go_num, by rw [HS.out], by rw [HS.out]; omega, HJ2, by first | rfl | trivial⟩
          case measure => simp [RowKit.intOf]; omega
        · have hbI : (1000000000000000 : Int) < (V : Int) := by omega
          have HN : Hid (NumR l = .tuple #[.int .i64 0, .bool false]) := Lib.hid (isNum_no fun h => by have := HGE.out; omega)
          dsimp only
          go_wp2
          exact bodyPost_ret (v := .tuple #[.int .i64 0, .bool false]) (by simp [results, Tryd.results14, go_sem]) rfl ⟨by rw [HN.out], rfl⟩
    · obtain rfl : k = l.length := by omega
      have HVL : Hid (val l = V) := Lib.hid (by rw [← HV.out, List.take_of_length_le (Nat.le_refl _)])
      have hall : l.all dgt = true := all_yes HJ.out
      cases l with
      | nil =>
        go_wp2
        exact bodyPost_ret (v := .tuple #[.int .i64 0, .bool false]) (by simp [results, Tryd.results14, go_sem]) rfl ⟨rfl, rfl⟩
      | cons c r =>
        have hzr : (⟨(c :: r).toArray⟩ : ByteArray).size = r.length + 1 := by simp [ByteArray.size]
        have hgc : (⟨(c :: r).toArray⟩ : ByteArray)[0]'(by rw [hzr]; omega) = c := rfl
        have hn1 : ¬ (r.length : Int) + 1 < 1 := by omega
        obtain ⟨X, hX⟩ : ∃ X, c.toNat = X := ⟨_, rfl⟩
        have h48 : (c == 48) = decide (X = 48) := by rw [show (48 : UInt8) = UInt8.ofNat 48 from rfl, eq_u8 (by decide), hX]
        have hnum : isNum (c :: r) = (!(decide (X = 48) && !r.isEmpty) && decide (V ≤ 1000000000000000)) := by rw [isNum_eq, hall, h48, HVL.out]; rfl
        by_cases hlead : X = 48 ∧ 0 < r.length
        · obtain ⟨hl1, hl2⟩ := hlead
          have hXI : (X : Int) = 48 := by omega
          have h1I : (1 : Int) < (r.length : Int) + 1 := by omega
          have HN : Hid (NumR (c :: r) = .tuple #[.int .i64 0, .bool false]) := Lib.hid (NumR_no (by
            rw [hnum, hl1]
            cases r with
            | nil => simp at hl2
            | cons d r => simp))
          clear hnum h48 hall hV
          go_wp2
          exact bodyPost_ret (v := .tuple #[.int .i64 0, .bool false]) (by simp [results, Tryd.results14, go_sem]) rfl ⟨by rw [HN.out], rfl⟩
        · have hnl : (!(decide (X = 48) && !r.isEmpty)) = true := by
            by_cases h1 : X = 48
            · have h2 : r = [] := List.length_eq_zero_iff.1 (by omega)
              subst h2
              simp
            · simp [h1]
          rw [hnl] at hnum
          have HNY : Hid (V ≤ 1000000000000000 → NumR (c :: r) = .tuple #[.int .i64 (V : Int), .bool true]) := Lib.hid fun h => NumR_yes (by rw [hnum]; simpa using h) HVL.out
          have HNN : Hid (¬ V ≤ 1000000000000000 → NumR (c :: r) = .tuple #[.int .i64 0, .bool false]) := Lib.hid fun h => NumR_no (by rw [hnum]; simpa using h)
          clear hnum h48 hall hnl
          by_cases h1r : 0 < r.length
          · have h1I : (1 : Int) < (r.length : Int) + 1 := by omega
            have hXI : ¬ (X : Int) = 48 := by omega
            by_cases hmx : V ≤ 1000000000000000
            · have HN := Lib.hid (HNY.out hmx)
              have hmxI : ¬ (1000000000000000 : Int) < (V : Int) := by omega
              clear hlead
              go_wp2
              exact bodyPost_ret (v := .tuple #[.int .i64 (V : Int), .bool true]) (by simp [results, Tryd.results14, go_sem]) rfl ⟨by rw [HN.out], rfl⟩
            · have HN := Lib.hid (HNN.out hmx)
              have hmxI : (1000000000000000 : Int) < (V : Int) := by omega
              clear hlead
              go_wp2
              exact bodyPost_ret (v := .tuple #[.int .i64 0, .bool false]) (by simp [results, Tryd.results14, go_sem]) rfl ⟨by rw [HN.out], rfl⟩
          · have h1I : ¬ (1 : Int) < (r.length : Int) + 1 := by omega
            by_cases hmx : V ≤ 1000000000000000
            · have HN := Lib.hid (HNY.out hmx)
              have hmxI : ¬ (1000000000000000 : Int) < (V : Int) := by omega
              clear hlead
              go_wp2
              exact bodyPost_ret (v := .tuple #[.int .i64 (V : Int), .bool true]) (by simp [results, Tryd.results14, go_sem]) rfl ⟨by rw [HN.out], rfl⟩
            · have HN := Lib.hid (HNN.out hmx)
              have hmxI : (1000000000000000 : Int) < (V : Int) := by omega
              clear hlead
              go_wp2
              exact bodyPost_ret (v := .tuple #[.int .i64 0, .bool false]) (by simp [results, Tryd.results14, go_sem]) rfl ⟨by rw [HN.out], rfl⟩
end Go.Proofs.YtmineoilmmifiaaDoor.Lx
