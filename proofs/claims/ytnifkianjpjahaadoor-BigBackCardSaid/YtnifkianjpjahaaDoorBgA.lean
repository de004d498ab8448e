/- Big integers: when they are right; trimming; comparing. -/
import Derived.Test.YtnifkianjpjahaaDoorBgP
import Derived.BigQuiet
import Derived.WalkSpells
namespace Go.Proofs.YtnifkianjpjahaaDoor.Bg
open Go.ChangeShapes Go.WideShapes Go.ChangeAt Go.RowKit Go.Proofs.YtnifkianjpjahaaDoor.Cell
set_option linter.unusedVariables false
set_option linter.unusedSimpArgs false

def lenOf : Value → Nat
  | .slice _ n _ => n
  | _ => 0
instance decTr (l : List Int) : Decidable (Tr l) := inferInstanceAs (Decidable (l.getLast? ≠ some 0))
/-- whether sign and digits fit -/
def isDg (d : Int) : Bool := decide (0 ≤ d ∧ d ≤ 1048575)
def rgtB (s : Int) (l : List Int) : Bool := decide ((-1 ≤ s ∧ s ≤ 1) ∧ l.length ≤ 60 ∧ (l.length = 0 ↔ s = 0)) && (l.all isDg && decide (l.getLast? ≠ some 0))
theorem rgtB_in {s : Int} {l : List Int} (h : rgtB s l = true) : (-1 ≤ s ∧ s ≤ 1) ∧ l.length ≤ 60 ∧ (l.length = 0 ↔ s = 0) ∧ Dg l ∧ Tr l := by
  unfold rgtB at h
  rw [Bool.and_eq_true, Bool.and_eq_true] at h
  obtain ⟨h1, h2, h3⟩ := h
  obtain ⟨a, b, c⟩ := of_decide_eq_true h1
  exact ⟨a, b, c, fun d hd => by have := of_decide_eq_true (List.all_eq_true.1 h2 d hd); omega, of_decide_eq_true h3⟩
theorem rgtB_yes {s : Int} {l : List Int} (h1 : -1 ≤ s ∧ s ≤ 1) (h2 : l.length ≤ 60) (h3 : l.length = 0 ↔ s = 0) (h4 : Dg l) (h5 : Tr l) : rgtB s l = true := by
  unfold rgtB
  rw [Bool.and_eq_true, Bool.and_eq_true]
  exact ⟨decide_eq_true ⟨h1, h2, h3⟩, List.all_eq_true.2 fun d hd => decide_eq_true (by have := h4 d hd; omega), decide_eq_true (show l.getLast? ≠ some 0 from h5)⟩
theorem rgtB_hd {s : Int} {l : List Int} (h : ¬ ((-1 ≤ s ∧ s ≤ 1) ∧ l.length ≤ 60 ∧ (l.length = 0 ↔ s = 0))) : rgtB s l = false := by
  unfold rgtB
  rw [decide_eq_false h, Bool.false_and]
theorem rgtB_dg {s d : Int} {l : List Int} (h : d ∈ l) (hd : isDg d = false) : rgtB s l = false := by
  have : l.all isDg = false := by rw [List.all_eq_false]; exact ⟨d, h, by rw [hd]; simp⟩
  unfold rgtB
  rw [this, Bool.false_and, Bool.and_false]
set_option maxRecDepth 100000 in
set_option maxHeartbeats 4000000 in
theorem right_head (s : Int) (A : Option Addr) (n c : Nat) (w : World) (hbig : n ≤ 9223372036854775807) (h : ¬ ((-1 ≤ s ∧ s ≤ 1) ∧ n ≤ 60 ∧ (n = 0 ↔ s = 0))) :
    Calls Tryd.prog 11 #[.agg #[.int .i64 s, .slice A n c]] w fun e w' => e = .returned (.bool false) ∧ Below w.heap.size w w' := by
  have hB : Below w.heap.size w (w.alloc (.cells #[.int .i64 s, .slice A n c] 24)) := Gen.b_alloc (Below.refl _ _)
  by_cases h1 : s < -1
  · clear h
    go_enter Tryd.func11, Tryd.ntmps11
    go_wp2
    go_ret
    exact ⟨rfl, hB⟩
  · by_cases h2 : 1 < s
    · clear h
      go_enter Tryd.func11, Tryd.ntmps11
      go_wp2
      go_ret
      exact ⟨rfl, hB⟩
    · by_cases h3 : 60 < n
      · clear h
        have h3I : (60 : Int) < (n : Int) := by omega
        go_enter Tryd.func11, Tryd.ntmps11
        go_wp2
        go_ret
        exact ⟨rfl, hB⟩
      · have h3I : ¬ ((60 : Int) < (n : Int)) := by omega
        by_cases h4 : n = 0
        · have h4b : ((n : Int) == 0) = true := by simp [h4]
          have h5b : (s == 0) = false := by simp; omega
          clear h h4
          go_enter Tryd.func11, Tryd.ntmps11
          go_wp2
          go_ret
          exact ⟨rfl, hB⟩
        · have h4b : ((n : Int) == 0) = false := by simp; omega
          have h5b : (s == 0) = true := by simp; omega
          clear h h4
          go_enter Tryd.func11, Tryd.ntmps11
          go_wp2
          go_ret
          exact ⟨rfl, hB⟩
set_option maxRecDepth 100000 in
set_option maxHeartbeats 4000000 in
theorem right_any (s : Int) (A : Option Addr) (n c : Nat) (l : List Int) (w : World) (hn : l.length = n) (hc : Ints w A l) (hbig : n ≤ 9223372036854775807) :
    Calls Tryd.prog 11 #[.agg #[.int .i64 s, .slice A n c]] w fun e w' => e = .returned (.bool (rgtB s l)) ∧ Below w.heap.size w w' := by
  by_cases hh : (-1 ≤ s ∧ s ≤ 1) ∧ n ≤ 60 ∧ (n = 0 ↔ s = 0)
  case neg =>
    rw [rgtB_hd (by rw [hn]; exact hh)]
    exact right_head s A n c w hbig hh
  have HH := Lib.hid hh
  have HN := Lib.hid hn
  have HB0 : Hid (Below w.heap.size w (w.alloc (.cells #[.int .i64 s, .slice A n c] 24))) := Lib.hid (Gen.b_alloc (Below.refl _ _))
  have HR0 : Hid (Row (w.alloc (.cells #[.int .i64 s, .slice A n c] 24)) w.heap.size 24 #[.int .i64 s, .slice A n c]) := Lib.hid (Row.new _ _ _)
  have h1 : ¬ (s < -1) := by omega
  have h2 : ¬ (1 < s) := by omega
  have h3I : ¬ ((60 : Int) < (n : Int)) := by omega
  obtain ⟨z, hz1, hz2⟩ : ∃ z, ((n : Int) == 0) = z ∧ (s == 0) = z := by
    by_cases h4 : n = 0
    · exact ⟨true, by simp [h4], by simp; omega⟩
    · exact ⟨false, by simp; omega, by simp; omega⟩
  have hzz : (z != z) = false := by simp
  have HZ : Hid (z = true ↔ n = 0) := Lib.hid (by rw [← hz1]; simp)
  clear hh hn
  go_enter Tryd.func11, Tryd.ntmps11
  go_wp2
  go_loopw [32] (fun iv wr => ∃ k : Nat, k ≤ n ∧ iv = .int .i64 k ∧ Hid (∀ y ∈ l.take k, isDg y = true) ∧ wr = w.alloc (.cells #[.int .i64 s, .slice A n c] 24)) (fun iv _ => n - (intOf iv).toNat)
  case atStart => exact ⟨0, Nat.zero_le _, rfl, Lib.hid (by simp), rfl⟩
  case round =>
    obtain ⟨k, hk, rfl, HA, rfl⟩ := hrel
    have k0 : (0 : Int) ≤ (k : Int) := by omega
    by_cases hlt : k < n
    · have hltI : (k : Int) < (n : Int) := by omega
      obtain ⟨b, off, rfl, hcell⟩ := (hc.keep HB0.out) (by rw [HN.out]; omega)
      obtain ⟨x, hx⟩ := at_ l k (by rw [HN.out]; exact hlt)
      have c0 := hcell k x hx
      have HX := Lib.hid hx
      clear hcell hx
      by_cases hd0 : x < 0
      · have HF := Lib.hid (rgtB_dg (s := s) (mem_of_at HX.out) (decide_eq_false (by omega)))
        go_wp2
        go_ret
        exact ⟨ret_bool HF.out.symm, HB0.out⟩
      · by_cases hd1 : 1048575 < x
        · have HF := Lib.hid (rgtB_dg (s := s) (mem_of_at HX.out) (decide_eq_false (by omega)))
          go_wp2
          go_ret
          exact ⟨ret_bool HF.out.symm, HB0.out⟩
        · have HF : Hid (∀ y ∈ l.take (k + 1), isDg y = true) := Lib.hid (fun y hy => by
            rw [take_snoc HX.out, List.mem_append] at hy
            rcases hy with hy | hy
            · exact HA.out y hy
            · rw [List.mem_singleton.1 hy]; exact decide_eq_true (by omega))
          go_wp2
          go_roundw
          case rel => exact ⟨k + 1, by omega, by go_num, HF, trivial⟩
          case measure => simp [intOf]; omega
    · obtain rfl : k = n := by omega
      have HD : Hid (Dg l) := Lib.hid fun y hy => by
        have := of_decide_eq_true (HA.out y (by rw [List.take_of_length_le (by rw [HN.out]; exact Nat.le_refl _)]; exact hy))
        omega
      cases z
      · have hk0 : 0 < k := by
          have := HZ.out
          by_cases h : k = 0
          · exact absurd (this.2 h) (by simp)
          · omega
        obtain ⟨p, rfl⟩ : ∃ p, k = p + 1 := ⟨k - 1, by omega⟩
        obtain ⟨b, off, rfl, hcell⟩ := (hc.keep HB0.out) (by rw [HN.out]; omega)
        obtain ⟨x, hx⟩ := at_ l p (by rw [HN.out]; omega)
        have c0 := hcell p x hx
        have e1 : ((p + 1 : Nat) : Int) - 1 = (p : Int) := by omega
        have e2 : (p : Int) < (p : Int) + 1 := by omega
        have e3 : (p : Int) < ((p + 1 : Nat) : Int) := by omega
        have e4 : IntKind.i64.wrap (p : Int) = p := IntWalk.i64_in _ (by omega)
        have p0 : (0 : Int) ≤ (p : Int) := by omega
        have HL : Hid (l.getLast? = some x) := Lib.hid (by rw [List.getLast?_eq_getElem?, HN.out]; exact hx)
        clear hcell hx HA
        by_cases hx0 : x = 0
        · have HF : Hid (rgtB s l = false) := Lib.hid (by
            unfold rgtB
            rw [HL.out, hx0, decide_eq_false (p := some (0 : Int) ≠ some 0) (fun h => h rfl), Bool.and_false, Bool.and_false])
          have hxb : (x != 0) = false := by simp [hx0]
          go_wp2
          go_ret
          exact ⟨ret_bool HF.out.symm, HB0.out⟩
        · have HF : Hid (rgtB s l = true) := Lib.hid (rgtB_yes HH.out.1 (by rw [HN.out]; exact HH.out.2.1) (by rw [HN.out]; exact HH.out.2.2) HD.out (by unfold Tr; rw [HL.out]; simpa using hx0))
          have hxb : (x != 0) = true := by simp [hx0]
          go_wp2
          go_ret
          exact ⟨ret_bool HF.out.symm, HB0.out⟩
      · have hk0 : k = 0 := HZ.out.1 rfl
        have HF : Hid (rgtB s l = true) := Lib.hid (by
          have hl : l = [] := List.eq_nil_of_length_eq_zero (by rw [HN.out]; exact hk0)
          exact rgtB_yes HH.out.1 (by rw [HN.out]; exact HH.out.2.1) (by rw [HN.out]; exact HH.out.2.2) HD.out (by rw [hl]; exact Tr.nil))
        clear hk0 HA
        go_wp2
        go_ret
        exact ⟨ret_bool HF.out.symm, HB0.out⟩
set_option maxRecDepth 100000 in
set_option maxHeartbeats 4000000 in
/-- zeros at the end are left out -/
theorem trim_any (A : Option Addr) (n c : Nat) (l : List Int) (w : World) (hn : l.length = n) (hc : Ints w A l) (hnc : n ≤ c) (hbig : n ≤ 9223372036854775807) :
    Calls Tryd.prog 39 #[.slice A n c] w fun e w' => ∃ k, k ≤ n ∧ e = .returned (.slice A k c) ∧ Tr (l.take k) ∧ val (l.take k) = val l ∧ w' = w := by
  have HN := Lib.hid hn
  have HV : Hid (val (l.take n) = val l) := Lib.hid (by rw [List.take_of_length_le (by omega)])
  clear hn
  go_enter Tryd.func39, Tryd.ntmps39
  go_wp2
  go_loopw [0] (fun v wr => ∃ k : Nat, k ≤ n ∧ v = .slice A k c ∧ Hid (val (l.take k) = val l) ∧ wr = w) (fun v _ => lenOf v)
  case atStart => exact ⟨n, Nat.le_refl _, rfl, HV, rfl⟩
  case round =>
    clear HV
    obtain ⟨k, hk, rfl, HK, rfl⟩ := hrel
    cases k with
    | zero =>
      go_wp2
      go_ret
      exact ⟨0, Nat.zero_le _, rfl, by rw [List.take_zero]; exact Tr.nil, HK.out, rfl⟩
    | succ p =>
      obtain ⟨b, off, rfl, hcell⟩ := hc (by rw [HN.out]; omega)
      obtain ⟨x, hx⟩ := at_ l p (by rw [HN.out]; omega)
      have c0 := hcell p x hx
      have e0 : (0 : Int) < ((p + 1 : Nat) : Int) := by omega
      have e1 : ((p + 1 : Nat) : Int) - 1 = (p : Int) := by omega
      have e2 : (p : Int) < (p : Int) + 1 := by omega
      have e3 : (p : Int) < ((p + 1 : Nat) : Int) := by omega
      have e4 : IntKind.i64.wrap (p : Int) = p := IntWalk.i64_in _ (by omega)
      have e5 : (p : Int) ≤ (c : Int) := by omega
      have p0 : (0 : Int) ≤ (p : Int) := by omega
      have HX := Lib.hid hx
      clear hx hcell
      by_cases hx0 : x = 0
      · have HK2 : Hid (val (l.take p) = val l) := Lib.hid (by
          have := val_take_succ HX.out
          rw [HK.out, hx0] at this
          omega)
        have hxb : (x == 0) = true := by simp [hx0]
        go_wp2
        go_roundw
        case rel => exact ⟨p, by omega, rfl, HK2, trivial⟩
        case measure => simp [lenOf]
      · have hxb : (x == 0) = false := by simp [hx0]
        have HT := Lib.hid (tr_take HX.out hx0)
        go_wp2
        go_ret
        exact ⟨p + 1, hk, rfl, HT.out, HK.out, rfl⟩
def cmpI (x y : Int) : Int := if x < y then -1 else if y < x then 1 else 0
set_option maxRecDepth 100000 in
set_option maxHeartbeats 4000000 in
theorem isNaN_any (x : Int) (w : World) : Calls Tryd.prog 60 #[.int .i64 x] w fun e w' => e = .returned (.bool false) ∧ w' = w := by
  have hx : (x != x) = false := by simp
  go_enter Tryd.func60, Tryd.ntmps60
  go_wp2
  go_ret
  exact ⟨rfl, rfl⟩
set_option maxRecDepth 100000 in
set_option maxHeartbeats 4000000 in
theorem cmp_any (x y : Int) (w : World) : Calls Tryd.prog 46 #[.int .i64 x, .int .i64 y] w fun e w' => e = .returned (.int .i64 (cmpI x y)) ∧ w' = w := by
  by_cases h1 : x < y
  · rw [show cmpI x y = -1 from if_pos h1]
    go_enter Tryd.func46, Tryd.ntmps46
    go_wp2_with (fail)
    go_must (refine (isNaN_any x _).mono ?_)
    rintro e w1 ⟨rfl, rfl⟩
    go_wp2_with (fail)
    go_must (refine (isNaN_any y _).mono ?_)
    rintro e w1 ⟨rfl, rfl⟩
    go_wp2
    go_ret
    exact ⟨rfl, rfl⟩
  · by_cases h2 : y < x
    · rw [show cmpI x y = 1 from (if_neg h1).trans (if_pos h2)]
      go_enter Tryd.func46, Tryd.ntmps46
      go_wp2_with (fail)
      go_must (refine (isNaN_any x _).mono ?_)
      rintro e w1 ⟨rfl, rfl⟩
      go_wp2_with (fail)
      go_must (refine (isNaN_any y _).mono ?_)
      rintro e w1 ⟨rfl, rfl⟩
      go_wp2
      go_ret
      exact ⟨rfl, rfl⟩
    · rw [show cmpI x y = 0 from (if_neg h1).trans (if_neg h2)]
      go_enter Tryd.func46, Tryd.ntmps46
      go_wp2_with (fail)
      go_must (refine (isNaN_any x _).mono ?_)
      rintro e w1 ⟨rfl, rfl⟩
      go_wp2_with (fail)
      go_must (refine (isNaN_any y _).mono ?_)
      rintro e w1 ⟨rfl, rfl⟩
      go_wp2
      go_ret
      exact ⟨rfl, rfl⟩
end Go.Proofs.YtnifkianjpjahaaDoor.Bg
