/- Big integers: Same of both, few. -/
import Derived.Test.YtnifkianjpjahaaDoorBgK
namespace Go.Proofs.YtnifkianjpjahaaDoor.Bg
open Go.ChangeShapes Go.WideShapes Go.ChangeAt Go.RowKit Go.Proofs.YtnifkianjpjahaaDoor.Cell
set_option linter.unusedVariables false
set_option linter.unusedSimpArgs false

set_option maxRecDepth 100000 in
set_option maxHeartbeats 4000000 in
theorem same_raw {s s' : Int} {A A' : Option Addr} {n n' c c' : Nat} {a b : List Int} (w : World) (hn : a.length = n) (hn' : b.length = n') (ha : Ints w A a) (hb : Ints w A' b) (hbig : n ≤ 9223372036854775807) (hbig' : n' ≤ 9223372036854775807) :
    Calls Tryd.prog 18 #[bigV s A n c, bigV s' A' n' c'] w fun e w' => e = .returned (.bool (decide (s = s' ∧ a = b))) ∧ Below w.heap.size w w' := by
  have HB0 := Lib.hid (box2_bl (w := w) (s := s) (A := A) (n := n) (c := c) (s' := s') (A' := A') (n' := n') (c' := c'))
  unfold box2 at HB0
  by_cases hs : s = s'
  · have hsb : (s == s') = true := by simpa using hs
    have HV : Hid (decide (a = b) = decide (s = s' ∧ a = b)) := Lib.hid (decide_eq_decide.2 ⟨fun h => ⟨hs, h⟩, fun h => h.2⟩)
    clear hs
    go_enter Tryd.func18, Tryd.ntmps18
    go_wp2_with (fail)
    go_must (refine (equal_any _ hn hn' (ha.keep HB0.out) (hb.keep HB0.out) hbig hbig').mono ?_)
    rintro e w1 ⟨rfl, q, rfl⟩
    go_wp2
    go_ret
    exact ⟨ret_bool HV.out, Gen.dN HB0.out q⟩
  · have hsb : (s == s') = false := by simpa using hs
    have HV : Hid (decide (s = s' ∧ a = b) = false) := Lib.hid (decide_eq_false fun h => hs h.1)
    clear hs ha hb
    go_enter Tryd.func18, Tryd.ntmps18
    go_wp2
    go_ret
    exact ⟨ret_bool HV.out.symm, HB0.out⟩
theorem same_val {x y : Int} {va vb : Value} (w : World) (hx : IsBig w va x) (hy : IsBig w vb y) :
    Calls Tryd.prog 18 #[va, vb] w fun e w' => e = .returned (.bool (decide (x = y))) ∧ Below w.heap.size w w' := by
  obtain ⟨A, c, a, rfl, ha, na, h60⟩ := hx.ex
  obtain ⟨A', c', b, rfl, hb, nb, h60'⟩ := hy.ex
  rw [show decide (x = y) = decide (sg x = sg y ∧ a = b) from decide_eq_decide.2 (big_inj na nb).symm]
  exact same_raw w rfl rfl ha hb (by omega) (by omega)
set_option maxRecDepth 100000 in
set_option maxHeartbeats 4000000 in
theorem rsame_raw {s s' : Int} {A A' : Option Addr} {n n' c c' : Nat} {a b : List Int} (w : World) (hn : a.length = n) (hn' : b.length = n') (ha : Ints w A a) (hb : Ints w A' b) (hbig : n ≤ 9223372036854775807) (hbig' : n' ≤ 9223372036854775807) :
    Calls Tryd.prog 13 #[bigV s A n c, bigV s' A' n' c'] w fun e w' => e = .returned (.bool (decide (s = s' ∧ a = b))) ∧ Below w.heap.size w w' := by
  have HB0 := Lib.hid (box2_bl (w := w) (s := s) (A := A) (n := n) (c := c) (s' := s') (A' := A') (n' := n') (c' := c'))
  have R0 := Lib.hid (box2_r0 (w := w) (s := s) (A := A) (n := n) (c := c) (s' := s') (A' := A') (n' := n') (c' := c'))
  have R1 := Lib.hid (box2_r1 (w := w) (s := s) (A := A) (n := n) (c := c) (s' := s') (A' := A') (n' := n') (c' := c'))
  obtain ⟨wb, hwb⟩ : ∃ W, box2 w s A n c s' A' n' c' = W := ⟨_, rfl⟩
  rw [hwb] at HB0 R0 R1
  unfold box2 at hwb
  have HW := Lib.hid hwb
  clear hwb
  by_cases hs : s = s'
  case neg =>
    have hsb : (s != s') = true := by simpa using hs
    have HV : Hid (decide (s = s' ∧ a = b) = false) := Lib.hid (decide_eq_false fun h => hs h.1)
    clear hs ha hb
    go_enter Tryd.func13, Tryd.ntmps13
    go_wp2
    go_ret
    exact ⟨ret_bool HV.out.symm, by rw [HW.out]; exact HB0.out⟩
  have hsb : (s != s') = false := by simpa using hs
  by_cases hl : n = n'
  case neg =>
    have hlb : ((n : Int) != (n' : Int)) = true := by simp; omega
    have HV : Hid (decide (s = s' ∧ a = b) = false) := Lib.hid (decide_eq_false fun h => hl (by rw [← hn, ← hn', h.2]))
    clear hs ha hb hn hn'
    go_enter Tryd.func13, Tryd.ntmps13
    go_wp2
    go_ret
    exact ⟨ret_bool HV.out.symm, by rw [HW.out]; exact HB0.out⟩
  subst hl
  have HS := Lib.hid hs
  have HN := Lib.hid hn
  have HN' := Lib.hid hn'
  have hlb : ((n : Int) != (n : Int)) = false := by simp
  clear hn hn' hs
  go_enter Tryd.func13, Tryd.ntmps13
  go_wp2
  rw [HW.out]
  clear hlb hsb HW
  go_loopw [5] (fun v wr => ∃ k : Nat, k ≤ n ∧ v = .int .i64 k ∧ Hid (a.take k = b.take k) ∧ ∃ q, wr = wb.drewN q) (fun v _ => n - (intOf v).toNat)
  case atStart => exact ⟨0, Nat.zero_le _, rfl, Lib.hid (by rw [List.take_zero, List.take_zero]), 0, rfl⟩
  case round =>
    obtain ⟨k, hk, rfl, HE, q, rfl⟩ := hrel
    have k0 : (0 : Int) ≤ (k : Int) := by omega
    have p0 : wb.cell? ⟨w.heap.size, 1, none⟩ = some (.slice A n c) := R0.out.cell 1
    have p1 : wb.cell? ⟨w.heap.size + 1, 1, none⟩ = some (.slice A' n c') := R1.out.cell 1
    by_cases hlt : k < n
    · have hltI : (k : Int) < (n : Int) := by omega
      obtain ⟨b1, o1, rfl, hc1⟩ := (ha.keep HB0.out) (by rw [HN.out]; omega)
      obtain ⟨b2, o2, rfl, hc2⟩ := (hb.keep HB0.out) (by rw [HN'.out]; omega)
      obtain ⟨x, hx⟩ := at_ a k (by rw [HN.out]; omega)
      obtain ⟨y, hy⟩ := at_ b k (by rw [HN'.out]; omega)
      have c1 := hc1 k x hx
      have c2 := hc2 k y hy
      have HX := Lib.hid hx
      have HY := Lib.hid hy
      clear hx hy hc1 hc2 ha hb
      by_cases hxy : x = y
      · have hxb : (x != y) = false := by simp [hxy]
        have HE2 : Hid (a.take (k + 1) = b.take (k + 1)) := Lib.hid (by rw [take_snoc HX.out, take_snoc HY.out, HE.out, hxy])
        clear hxy
        go_wp2
        go_quiet (fail)
        go_wp2
        go_roundw
        case rel => exact ⟨k + 1, by omega, by go_num, HE2, _, rfl⟩
        case measure => simp [intOf]; omega
      · have hxb : (x != y) = true := by simp [hxy]
        have HV : Hid (decide (s = s' ∧ a = b) = false) := Lib.hid (decide_eq_false (fun e => hxy (by
          have h1 := HX.out
          rw [e.2, HY.out] at h1
          injection h1 with h1
          exact h1.symm)))
        clear hxy
        go_wp2
        go_quiet (fail)
        go_wp2
        go_ret
        exact ⟨ret_bool HV.out.symm, Gen.dN (Gen.dN HB0.out _) _⟩
    · obtain rfl : n = k := by omega
      have HV : Hid (decide (s = s' ∧ a = b) = true) := Lib.hid (decide_eq_true ⟨HS.out, by
        have h := HE.out
        rwa [List.take_of_length_le (by rw [HN.out]; exact Nat.le_refl _), List.take_of_length_le (by rw [HN'.out]; exact Nat.le_refl _)] at h⟩)
      go_wp2
      go_ret
      exact ⟨ret_bool HV.out.symm, Gen.dN HB0.out _⟩
theorem rsame_val {x y : Int} {va vb : Value} (w : World) (hx : IsBig w va x) (hy : IsBig w vb y) :
    Calls Tryd.prog 13 #[va, vb] w fun e w' => e = .returned (.bool (decide (x = y))) ∧ Below w.heap.size w w' := by
  obtain ⟨A, c, a, rfl, ha, na, h60⟩ := hx.ex
  obtain ⟨A', c', b, rfl, hb, nb, h60'⟩ := hy.ex
  rw [show decide (x = y) = decide (sg x = sg y ∧ a = b) from decide_eq_decide.2 (big_inj na nb).symm]
  exact rsame_raw w rfl rfl ha hb (by omega) (by omega)
set_option maxRecDepth 100000 in
set_option maxHeartbeats 4000000 in
theorem few_any (s : Int) (A : Option Addr) (n c : Nat) (m : Int) (w : World) (hbig : n ≤ 9223372036854775807) :
    Calls Tryd.prog 10 #[bigV s A n c, .int .i64 m] w fun e w' => e = .returned (.bool (decide ((n : Int) ≤ m))) ∧ Below w.heap.size w w' := by
  go_enter Tryd.func10, Tryd.ntmps10
  go_wp2
  go_ret
  exact ⟨rfl, by go_grown⟩
end Go.Proofs.YtnifkianjpjahaaDoor.Bg
