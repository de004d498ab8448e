/- VoteMajority returns true: every majority, every numbers of units; no condition. -/
import Derived.Test.YtblegaclcpoonaaVoteS
namespace Go.Proofs.Ytblegaclcpoonaa.Vote
open Go.ChangeShapes Go.WideShapes Go.ChangeAt Go.RowKit
set_option linter.unusedVariables false

theorem reach_of {m y a : Int} {b : Bool} (h : rch m y a = b) (w : World) : Calls Try.prog 33 #[.int .i64 m, .int .i64 y, .int .i64 a] w fun e w' => e = .returned (.bool b) ∧ w = w' := by
  have hh := reached_any m y a w
  rw [h] at hh
  exact hh
theorem miss_of {m y a n : Int} (h : mis m y a = n) (w : World) : Calls Try.prog 35 #[.int .i64 m, .int .i64 y, .int .i64 a] w fun e w' => e = .returned (.int .i64 n) ∧ w = w' := by
  have hh := missing_any m y a w
  rw [h] at hh
  exact hh
theorem rch_yes {m y a : Int} (hv : vld m y a = true) (h : a * m ≤ y * 1000) : rch m y a = true := by unfold rch; rw [hv, decide_eq_true h]; rfl
theorem rch_not {m y a : Int} (h : ¬ a * m ≤ y * 1000) : rch m y a = false := by unfold rch; rw [decide_eq_false h, Bool.and_false]
theorem vld_mk {m y a : Int} (h : 1 ≤ m ∧ m ≤ 1000 ∧ 1 ≤ a ∧ a ≤ 1000000000 ∧ 0 ≤ y ∧ y ≤ a) : vld m y a = true := decide_eq_true h
theorem half {m a : Int} (h1 : 500 < m) (h3 : 1 ≤ a) : a * 501 ≤ a * m := Int.mul_le_mul_of_nonneg_left (by omega) (by omega)
theorem mille {m a : Int} (h2 : m ≤ 1000) (h3 : 1 ≤ a) : a * m ≤ a * 1000 := Int.mul_le_mul_of_nonneg_left h2 (by omega)

set_option maxRecDepth 100000 in
set_option maxHeartbeats 4000000 in
theorem maj_a (m y a o : Int) (w : World) (h : ¬ (1 ≤ m ∧ m ≤ 1000 ∧ 1 ≤ a ∧ a ≤ 1000000000 ∧ 0 ≤ y ∧ y ≤ a)) :
    Calls Try.prog 11 #[.int .i64 m, .int .i64 y, .int .i64 a, .int .i64 o] w fun e w' => e = .returned (.bool true) ∧ Below w.heap.size w w' := by
  have hv : vld m y a = false := decide_eq_false h
  have hm : mis m y a = -1 := by unfold mis; rw [hv]; rfl
  have hr : rch m y a = false := by unfold rch; rw [hv]; rfl
  have HM := Lib.hid hm
  have HR := Lib.hid hr
  have HO := Lib.hid h
  clear hv hm hr h
  go_enter Try.func11, Try.ntmps11
  go_wp2_with (fail)
  refine (small_any _).mono ?_
  rintro e w1 ⟨rfl, hb⟩
  go_wp2_with (fail)
  refine (miss_of HM.out _).mono ?_
  rintro e w' ⟨rfl, rfl⟩
  go_wp2_with (go_at_call 33; refine (reach_of HR.out _).mono ?_; rintro e w' ⟨rfl, rfl⟩)
  all_goals first
    | (go_ret; exact ⟨rfl, hb⟩)
    | (exfalso; have := HO.out; omega)
/- the valid ones -/
set_option maxRecDepth 100000 in
set_option maxHeartbeats 4000000 in
theorem maj_b1 (m y a o : Int) (w : World) (h1 : 1 ≤ m) (h2 : m ≤ 1000) (h3 : 1 ≤ a) (h4 : a ≤ 1000000000) (h5 : 0 ≤ y) (h6 : y ≤ a)
    (hm : Hid (mis m y a = 0)) (hr : Hid (rch m y a = true)) (ho : o < 0) :
    Calls Try.prog 11 #[.int .i64 m, .int .i64 y, .int .i64 a, .int .i64 o] w fun e w' => e = .returned (.bool true) ∧ Below w.heap.size w w' := by
  go_enter Try.func11, Try.ntmps11
  go_wp2_with (fail)
  refine (small_any _).mono ?_
  rintro e w1 ⟨rfl, hb⟩
  go_wp2_with (fail)
  refine (miss_of hm.out _).mono ?_
  rintro e w' ⟨rfl, rfl⟩
  go_wp2_with (fail)
  refine (reach_of hr.out _).mono ?_
  rintro e w' ⟨rfl, rfl⟩
  go_wp2_with (fail)
  refine (reach_of hr.out _).mono ?_
  rintro e w' ⟨rfl, rfl⟩
  go_wp2
  go_ret
  exact ⟨rfl, hb⟩

set_option maxRecDepth 100000 in
set_option maxHeartbeats 4000000 in
theorem maj_b2 (m y a o : Int) (w : World) (h1 : 1 ≤ m) (h2 : m ≤ 1000) (h3 : 1 ≤ a) (h4 : a ≤ 1000000000) (h5 : 0 ≤ y) (h6 : y ≤ a)
    (hm : Hid (mis m y a = 0)) (hr : Hid (rch m y a = true)) (ho0 : 0 ≤ o) (ho : a - y < o) :
    Calls Try.prog 11 #[.int .i64 m, .int .i64 y, .int .i64 a, .int .i64 o] w fun e w' => e = .returned (.bool true) ∧ Below w.heap.size w w' := by
  go_enter Try.func11, Try.ntmps11
  go_wp2_with (fail)
  refine (small_any _).mono ?_
  rintro e w1 ⟨rfl, hb⟩
  go_wp2_with (fail)
  refine (miss_of hm.out _).mono ?_
  rintro e w' ⟨rfl, rfl⟩
  go_wp2_with (fail)
  refine (reach_of hr.out _).mono ?_
  rintro e w' ⟨rfl, rfl⟩
  go_wp2_with (fail)
  refine (reach_of hr.out _).mono ?_
  rintro e w' ⟨rfl, rfl⟩
  go_wp2
  go_ret
  exact ⟨rfl, hb⟩

set_option maxRecDepth 100000 in
set_option maxHeartbeats 4000000 in
theorem maj_b3 (m y a o : Int) (w : World) (h1 : 1 ≤ m) (h2 : m ≤ 1000) (h3 : 1 ≤ a) (h4 : a ≤ 1000000000) (h5 : 0 ≤ y) (h6 : y ≤ a)
    (hm : Hid (mis m y a = 0)) (hr : Hid (rch m y a = true)) (ho0 : 0 ≤ o) (ho : o ≤ a - y) (hr2 : Hid (rch m (y + o) a = true)) (hq : m ≤ 500) :
    Calls Try.prog 11 #[.int .i64 m, .int .i64 y, .int .i64 a, .int .i64 o] w fun e w' => e = .returned (.bool true) ∧ Below w.heap.size w w' := by
  go_enter Try.func11, Try.ntmps11
  go_wp2_with (fail)
  refine (small_any _).mono ?_
  rintro e w1 ⟨rfl, hb⟩
  go_wp2_with (fail)
  refine (miss_of hm.out _).mono ?_
  rintro e w' ⟨rfl, rfl⟩
  go_wp2_with (fail)
  refine (reach_of hr.out _).mono ?_
  rintro e w' ⟨rfl, rfl⟩
  go_wp2_with (fail)
  refine (reach_of hr.out _).mono ?_
  rintro e w' ⟨rfl, rfl⟩
  go_wp2_with (fail)
  refine (reach_of hr.out _).mono ?_
  rintro e w' ⟨rfl, rfl⟩
  go_wp2_with (fail)
  refine (reach_of hr2.out _).mono ?_
  rintro e w' ⟨rfl, rfl⟩
  go_wp2
  go_ret
  exact ⟨rfl, hb⟩

set_option maxRecDepth 100000 in
set_option maxHeartbeats 4000000 in
theorem maj_b4 (m y a o : Int) (w : World) (h1 : 1 ≤ m) (h2 : m ≤ 1000) (h3 : 1 ≤ a) (h4 : a ≤ 1000000000) (h5 : 0 ≤ y) (h6 : y ≤ a)
    (hm : Hid (mis m y a = 0)) (hr : Hid (rch m y a = true)) (ho0 : 0 ≤ o) (ho : o ≤ a - y) (hr2 : Hid (rch m (y + o) a = true)) (hr3 : Hid (rch m o a = false)) (hq : 500 < m) :
    Calls Try.prog 11 #[.int .i64 m, .int .i64 y, .int .i64 a, .int .i64 o] w fun e w' => e = .returned (.bool true) ∧ Below w.heap.size w w' := by
  go_enter Try.func11, Try.ntmps11
  go_wp2_with (fail)
  refine (small_any _).mono ?_
  rintro e w1 ⟨rfl, hb⟩
  go_wp2_with (fail)
  refine (miss_of hm.out _).mono ?_
  rintro e w' ⟨rfl, rfl⟩
  go_wp2_with (fail)
  refine (reach_of hr.out _).mono ?_
  rintro e w' ⟨rfl, rfl⟩
  go_wp2_with (fail)
  refine (reach_of hr.out _).mono ?_
  rintro e w' ⟨rfl, rfl⟩
  go_wp2_with (fail)
  refine (reach_of hr.out _).mono ?_
  rintro e w' ⟨rfl, rfl⟩
  go_wp2_with (fail)
  refine (reach_of hr2.out _).mono ?_
  rintro e w' ⟨rfl, rfl⟩
  go_wp2_with (fail)
  refine (reach_of hr.out _).mono ?_
  rintro e w' ⟨rfl, rfl⟩
  go_wp2_with (fail)
  refine (reach_of hr3.out _).mono ?_
  rintro e w' ⟨rfl, rfl⟩
  go_wp2
  go_ret
  exact ⟨rfl, hb⟩

set_option maxRecDepth 100000 in
set_option maxHeartbeats 4000000 in
theorem maj_c1 (m y a o n : Int) (w : World) (h1 : 1 ≤ m) (h2 : m ≤ 1000) (h3 : 1 ≤ a) (h4 : a ≤ 1000000000) (h5 : 0 ≤ y) (h6 : y ≤ a)
    (hm : Hid (mis m y a = n)) (hr : Hid (rch m y a = false)) (hr1 : Hid (rch m (y + n) a = true)) (hr0 : Hid (rch m (y + n - 1) a = false)) (n0 : 0 < n) (n1 : y + n ≤ a) (hnz : (n == 0) = false) (ho : o < 0) :
    Calls Try.prog 11 #[.int .i64 m, .int .i64 y, .int .i64 a, .int .i64 o] w fun e w' => e = .returned (.bool true) ∧ Below w.heap.size w w' := by
  go_enter Try.func11, Try.ntmps11
  go_wp2_with (fail)
  refine (small_any _).mono ?_
  rintro e w1 ⟨rfl, hb⟩
  go_wp2_with (fail)
  refine (miss_of hm.out _).mono ?_
  rintro e w' ⟨rfl, rfl⟩
  go_wp2_with (fail)
  refine (reach_of hr.out _).mono ?_
  rintro e w' ⟨rfl, rfl⟩
  go_wp2_with (fail)
  refine (reach_of hr1.out _).mono ?_
  rintro e w' ⟨rfl, rfl⟩
  go_wp2_with (fail)
  refine (reach_of hr0.out _).mono ?_
  rintro e w' ⟨rfl, rfl⟩
  go_wp2
  go_ret
  exact ⟨rfl, hb⟩

set_option maxRecDepth 100000 in
set_option maxHeartbeats 4000000 in
theorem maj_c2 (m y a o n : Int) (w : World) (h1 : 1 ≤ m) (h2 : m ≤ 1000) (h3 : 1 ≤ a) (h4 : a ≤ 1000000000) (h5 : 0 ≤ y) (h6 : y ≤ a)
    (hm : Hid (mis m y a = n)) (hr : Hid (rch m y a = false)) (hr1 : Hid (rch m (y + n) a = true)) (hr0 : Hid (rch m (y + n - 1) a = false)) (n0 : 0 < n) (n1 : y + n ≤ a) (hnz : (n == 0) = false) (ho0 : 0 ≤ o) (ho : a - y < o) :
    Calls Try.prog 11 #[.int .i64 m, .int .i64 y, .int .i64 a, .int .i64 o] w fun e w' => e = .returned (.bool true) ∧ Below w.heap.size w w' := by
  go_enter Try.func11, Try.ntmps11
  go_wp2_with (fail)
  refine (small_any _).mono ?_
  rintro e w1 ⟨rfl, hb⟩
  go_wp2_with (fail)
  refine (miss_of hm.out _).mono ?_
  rintro e w' ⟨rfl, rfl⟩
  go_wp2_with (fail)
  refine (reach_of hr.out _).mono ?_
  rintro e w' ⟨rfl, rfl⟩
  go_wp2_with (fail)
  refine (reach_of hr1.out _).mono ?_
  rintro e w' ⟨rfl, rfl⟩
  go_wp2_with (fail)
  refine (reach_of hr0.out _).mono ?_
  rintro e w' ⟨rfl, rfl⟩
  go_wp2
  go_ret
  exact ⟨rfl, hb⟩

set_option maxRecDepth 100000 in
set_option maxHeartbeats 4000000 in
theorem maj_c3 (m y a o n : Int) (w : World) (h1 : 1 ≤ m) (h2 : m ≤ 1000) (h3 : 1 ≤ a) (h4 : a ≤ 1000000000) (h5 : 0 ≤ y) (h6 : y ≤ a)
    (hm : Hid (mis m y a = n)) (hr : Hid (rch m y a = false)) (hr1 : Hid (rch m (y + n) a = true)) (hr0 : Hid (rch m (y + n - 1) a = false)) (n0 : 0 < n) (n1 : y + n ≤ a) (hnz : (n == 0) = false) (ho0 : 0 ≤ o) (ho : o ≤ a - y) (hq : m ≤ 500) :
    Calls Try.prog 11 #[.int .i64 m, .int .i64 y, .int .i64 a, .int .i64 o] w fun e w' => e = .returned (.bool true) ∧ Below w.heap.size w w' := by
  go_enter Try.func11, Try.ntmps11
  go_wp2_with (fail)
  refine (small_any _).mono ?_
  rintro e w1 ⟨rfl, hb⟩
  go_wp2_with (fail)
  refine (miss_of hm.out _).mono ?_
  rintro e w' ⟨rfl, rfl⟩
  go_wp2_with (fail)
  refine (reach_of hr.out _).mono ?_
  rintro e w' ⟨rfl, rfl⟩
  go_wp2_with (fail)
  refine (reach_of hr1.out _).mono ?_
  rintro e w' ⟨rfl, rfl⟩
  go_wp2_with (fail)
  refine (reach_of hr0.out _).mono ?_
  rintro e w' ⟨rfl, rfl⟩
  go_wp2_with (fail)
  refine (reach_of hr.out _).mono ?_
  rintro e w' ⟨rfl, rfl⟩
  go_wp2
  go_ret
  exact ⟨rfl, hb⟩

set_option maxRecDepth 100000 in
set_option maxHeartbeats 4000000 in
theorem maj_c4 (m y a o n : Int) (w : World) (h1 : 1 ≤ m) (h2 : m ≤ 1000) (h3 : 1 ≤ a) (h4 : a ≤ 1000000000) (h5 : 0 ≤ y) (h6 : y ≤ a)
    (hm : Hid (mis m y a = n)) (hr : Hid (rch m y a = false)) (hr1 : Hid (rch m (y + n) a = true)) (hr0 : Hid (rch m (y + n - 1) a = false)) (n0 : 0 < n) (n1 : y + n ≤ a) (hnz : (n == 0) = false) (ho0 : 0 ≤ o) (ho : o ≤ a - y) (hq : 500 < m) :
    Calls Try.prog 11 #[.int .i64 m, .int .i64 y, .int .i64 a, .int .i64 o] w fun e w' => e = .returned (.bool true) ∧ Below w.heap.size w w' := by
  go_enter Try.func11, Try.ntmps11
  go_wp2_with (fail)
  refine (small_any _).mono ?_
  rintro e w1 ⟨rfl, hb⟩
  go_wp2_with (fail)
  refine (miss_of hm.out _).mono ?_
  rintro e w' ⟨rfl, rfl⟩
  go_wp2_with (fail)
  refine (reach_of hr.out _).mono ?_
  rintro e w' ⟨rfl, rfl⟩
  go_wp2_with (fail)
  refine (reach_of hr1.out _).mono ?_
  rintro e w' ⟨rfl, rfl⟩
  go_wp2_with (fail)
  refine (reach_of hr0.out _).mono ?_
  rintro e w' ⟨rfl, rfl⟩
  go_wp2_with (fail)
  refine (reach_of hr.out _).mono ?_
  rintro e w' ⟨rfl, rfl⟩
  go_wp2_with (fail)
  refine (reach_of hr.out _).mono ?_
  rintro e w' ⟨rfl, rfl⟩
  go_wp2
  go_ret
  exact ⟨rfl, hb⟩

theorem maj_any (m y a o : Int) (w : World) : Calls Try.prog 11 #[.int .i64 m, .int .i64 y, .int .i64 a, .int .i64 o] w fun e w' => e = .returned (.bool true) ∧ Below w.heap.size w w' := by
  by_cases hv : 1 ≤ m ∧ m ≤ 1000 ∧ 1 ≤ a ∧ a ≤ 1000000000 ∧ 0 ≤ y ∧ y ≤ a
  case neg => exact maj_a m y a o w hv
  have hV := vld_mk hv
  obtain ⟨h1, h2, h3, h4, h5, h6⟩ := hv
  have b := mul_bound h1 h2 h3 h4
  have q := mille h2 h3
  by_cases hp : a * m ≤ y * 1000
  · have hr := rch_yes hV hp
    have hm : mis m y a = 0 := by unfold mis; rw [if_pos hV, if_pos (by omega)]
    by_cases ho0 : 0 ≤ o
    case neg => exact maj_b1 m y a o w h1 h2 h3 h4 h5 h6 hm hr (by omega)
    by_cases ho : o ≤ a - y
    case neg => exact maj_b2 m y a o w h1 h2 h3 h4 h5 h6 hm hr ho0 (by omega)
    have hr2 : rch m (y + o) a = true := rch_yes (vld_mk ⟨h1, h2, h3, h4, by omega, by omega⟩) (by omega)
    by_cases hq : m ≤ 500
    · exact maj_b3 m y a o w h1 h2 h3 h4 h5 h6 hm hr ho0 ho hr2 hq
    · have hh := half (m := m) (a := a) (by omega) h3
      exact maj_b4 m y a o w h1 h2 h3 h4 h5 h6 hm hr ho0 ho hr2 (rch_not (by omega)) (by omega)
  · have hr := rch_not (y := y) hp
    have hm : mis m y a = (a * m + 1000 - 1) / 1000 - y := by unfold mis; rw [if_pos hV, if_neg (by omega)]
    have hr1 : rch m (y + ((a * m + 1000 - 1) / 1000 - y)) a = true := rch_yes (vld_mk ⟨h1, h2, h3, h4, by omega, by omega⟩) (by omega)
    have hr0 : rch m (y + ((a * m + 1000 - 1) / 1000 - y) - 1) a = false := rch_not (by omega)
    have n0 : 0 < (a * m + 1000 - 1) / 1000 - y := by omega
    have n1 : y + ((a * m + 1000 - 1) / 1000 - y) ≤ a := by omega
    generalize (a * m + 1000 - 1) / 1000 - y = n at hm hr1 hr0 n0 n1
    have hnz : (n == 0) = false := by rw [beq_eq_false_iff_ne]; omega
    by_cases ho0 : 0 ≤ o
    case neg => exact maj_c1 m y a o n w h1 h2 h3 h4 h5 h6 hm hr hr1 hr0 n0 n1 hnz (by omega)
    by_cases ho : o ≤ a - y
    case neg => exact maj_c2 m y a o n w h1 h2 h3 h4 h5 h6 hm hr hr1 hr0 n0 n1 hnz ho0 (by omega)
    by_cases hq : m ≤ 500
    · exact maj_c3 m y a o n w h1 h2 h3 h4 h5 h6 hm hr hr1 hr0 n0 n1 hnz ho0 ho hq
    · exact maj_c4 m y a o n w h1 h2 h3 h4 h5 h6 hm hr hr1 hr0 n0 n1 hnz ho0 ho (by omega)
end Go.Proofs.Ytblegaclcpoonaa.Vote
