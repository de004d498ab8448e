/- Fall: the contracts of money, rightStep, the closures of Right; slices.IndexFunc and ContainsFunc. -/
import Derived.Test.YtdmbgdbmfenbfaaFaA
import Derived.WalkSpells
namespace Go.Proofs.Ytdmbgdbmfenbfaa.Fa
open Go.ChangeShapes Go.WideShapes Go.ChangeAt Go.RowKit Go.Proofs.Ytdmbgdbmfenbfaa.Cell
set_option linter.unusedVariables false
set_option linter.unusedSimpArgs false

theorem mon_tt {x : Int} (h : mon x) : decide (mon x) = true := decide_eq_true h
theorem money_any (x : Int) (w : World) : Calls Try.prog 19 #[.int .i64 x] w fun e w' => e = .returned (.bool (decide (mon x))) ∧ w = w' := by
  by_cases h0 : 0 ≤ x
  · by_cases h1 : x ≤ 1000000000000000
    · rw [show decide (mon x) = true from decide_eq_true ⟨h0, h1⟩]
      go_enter Try.func19, Try.ntmps19
      go_wp2
      go_ret
      exact ⟨rfl, rfl⟩
    · rw [show decide (mon x) = false from decide_eq_false (by unfold mon; omega)]
      go_enter Try.func19, Try.ntmps19
      go_wp2
      go_ret
      exact ⟨rfl, rfl⟩
  · rw [show decide (mon x) = false from decide_eq_false (by unfold mon; omega)]
    go_enter Try.func19, Try.ntmps19
    go_wp2
    go_ret
    exact ⟨rfl, rfl⟩
section
variable (c r t e : Int) (A1 A2 A3 : Option Addr) (q v z c1 c2 c3 : Nat)
theorem rst_0 (n a : Int) (k : Int) (hk : k = 0) (w : World) : Calls Try.prog 32 #[.agg #[.int .i64 c, .int .i64 r, .int .i64 t, .int .i64 e, .slice A1 q c1, .slice A2 v c2, .slice A3 z c3], .agg #[.int .i64 k, .int .i64 n, .int .i64 a]] w fun e w' => e = .returned (.bool (decide (stOk q v ⟨k, n, a⟩))) ∧ Below w.heap.size w w' := by
  subst hk
  by_cases h3 : 0 ≤ n
  · by_cases h2 : n < (q : Int)
    · by_cases h1 : a = 0
      · rw [show decide (stOk q v ⟨0, n, a⟩) = true from decide_eq_true (by unfold stOk mon; dsimp only; omega)]
        go_enter Try.func32, Try.ntmps32
        go_wp2
        go_ret
        exact ⟨by first | rfl | exact ret_bool (beq_eq_false_iff_ne.2 (by omega)), by first | exact Below.refl _ _ | go_grown⟩
      · rw [show decide (stOk q v ⟨0, n, a⟩) = false from decide_eq_false (by unfold stOk mon; dsimp only; omega)]
        go_enter Try.func32, Try.ntmps32
        go_wp2
        go_ret
        exact ⟨by first | rfl | exact ret_bool (beq_eq_false_iff_ne.2 (by omega)), by first | exact Below.refl _ _ | go_grown⟩
    · rw [show decide (stOk q v ⟨0, n, a⟩) = false from decide_eq_false (by unfold stOk mon; dsimp only; omega)]
      go_enter Try.func32, Try.ntmps32
      go_wp2
      go_ret
      exact ⟨by first | rfl | exact ret_bool (beq_eq_false_iff_ne.2 (by omega)), by first | exact Below.refl _ _ | go_grown⟩
  · rw [show decide (stOk q v ⟨0, n, a⟩) = false from decide_eq_false (by unfold stOk mon; dsimp only; omega)]
    go_enter Try.func32, Try.ntmps32
    go_wp2
    go_ret
    exact ⟨by first | rfl | exact ret_bool (beq_eq_false_iff_ne.2 (by omega)), by first | exact Below.refl _ _ | go_grown⟩
theorem rst_1 (n a : Int) (k : Int) (hk : k = 1) (w : World) : Calls Try.prog 32 #[.agg #[.int .i64 c, .int .i64 r, .int .i64 t, .int .i64 e, .slice A1 q c1, .slice A2 v c2, .slice A3 z c3], .agg #[.int .i64 k, .int .i64 n, .int .i64 a]] w fun e w' => e = .returned (.bool (decide (stOk q v ⟨k, n, a⟩))) ∧ Below w.heap.size w w' := by
  subst hk
  by_cases h3 : 0 ≤ n
  · by_cases h2 : n < (q : Int)
    · by_cases h1 : a = 0
      · rw [show decide (stOk q v ⟨1, n, a⟩) = true from decide_eq_true (by unfold stOk mon; dsimp only; omega)]
        go_enter Try.func32, Try.ntmps32
        go_wp2
        go_ret
        exact ⟨by first | rfl | exact ret_bool (beq_eq_false_iff_ne.2 (by omega)), by first | exact Below.refl _ _ | go_grown⟩
      · rw [show decide (stOk q v ⟨1, n, a⟩) = false from decide_eq_false (by unfold stOk mon; dsimp only; omega)]
        go_enter Try.func32, Try.ntmps32
        go_wp2
        go_ret
        exact ⟨by first | rfl | exact ret_bool (beq_eq_false_iff_ne.2 (by omega)), by first | exact Below.refl _ _ | go_grown⟩
    · rw [show decide (stOk q v ⟨1, n, a⟩) = false from decide_eq_false (by unfold stOk mon; dsimp only; omega)]
      go_enter Try.func32, Try.ntmps32
      go_wp2
      go_ret
      exact ⟨by first | rfl | exact ret_bool (beq_eq_false_iff_ne.2 (by omega)), by first | exact Below.refl _ _ | go_grown⟩
  · rw [show decide (stOk q v ⟨1, n, a⟩) = false from decide_eq_false (by unfold stOk mon; dsimp only; omega)]
    go_enter Try.func32, Try.ntmps32
    go_wp2
    go_ret
    exact ⟨by first | rfl | exact ret_bool (beq_eq_false_iff_ne.2 (by omega)), by first | exact Below.refl _ _ | go_grown⟩
theorem rst_3 (n a : Int) (k : Int) (hk : k = 3) (w : World) : Calls Try.prog 32 #[.agg #[.int .i64 c, .int .i64 r, .int .i64 t, .int .i64 e, .slice A1 q c1, .slice A2 v c2, .slice A3 z c3], .agg #[.int .i64 k, .int .i64 n, .int .i64 a]] w fun e w' => e = .returned (.bool (decide (stOk q v ⟨k, n, a⟩))) ∧ Below w.heap.size w w' := by
  subst hk
  by_cases h3 : 0 ≤ n
  · by_cases h2 : n < (v : Int)
    · by_cases h1 : a = 0
      · rw [show decide (stOk q v ⟨3, n, a⟩) = true from decide_eq_true (by unfold stOk mon; dsimp only; omega)]
        go_enter Try.func32, Try.ntmps32
        go_wp2
        go_ret
        exact ⟨by first | rfl | exact ret_bool (beq_eq_false_iff_ne.2 (by omega)), by first | exact Below.refl _ _ | go_grown⟩
      · rw [show decide (stOk q v ⟨3, n, a⟩) = false from decide_eq_false (by unfold stOk mon; dsimp only; omega)]
        go_enter Try.func32, Try.ntmps32
        go_wp2
        go_ret
        exact ⟨by first | rfl | exact ret_bool (beq_eq_false_iff_ne.2 (by omega)), by first | exact Below.refl _ _ | go_grown⟩
    · rw [show decide (stOk q v ⟨3, n, a⟩) = false from decide_eq_false (by unfold stOk mon; dsimp only; omega)]
      go_enter Try.func32, Try.ntmps32
      go_wp2
      go_ret
      exact ⟨by first | rfl | exact ret_bool (beq_eq_false_iff_ne.2 (by omega)), by first | exact Below.refl _ _ | go_grown⟩
  · rw [show decide (stOk q v ⟨3, n, a⟩) = false from decide_eq_false (by unfold stOk mon; dsimp only; omega)]
    go_enter Try.func32, Try.ntmps32
    go_wp2
    go_ret
    exact ⟨by first | rfl | exact ret_bool (beq_eq_false_iff_ne.2 (by omega)), by first | exact Below.refl _ _ | go_grown⟩
theorem rst_4 (n a : Int) (k : Int) (hk : k = 4) (w : World) : Calls Try.prog 32 #[.agg #[.int .i64 c, .int .i64 r, .int .i64 t, .int .i64 e, .slice A1 q c1, .slice A2 v c2, .slice A3 z c3], .agg #[.int .i64 k, .int .i64 n, .int .i64 a]] w fun e w' => e = .returned (.bool (decide (stOk q v ⟨k, n, a⟩))) ∧ Below w.heap.size w w' := by
  subst hk
  by_cases h2 : n = 0
  · by_cases h1 : a = 0
    · rw [show decide (stOk q v ⟨4, n, a⟩) = true from decide_eq_true (by unfold stOk mon; dsimp only; omega)]
      go_enter Try.func32, Try.ntmps32
      go_wp2
      go_ret
      exact ⟨by first | rfl | exact ret_bool (beq_eq_false_iff_ne.2 (by omega)), by first | exact Below.refl _ _ | go_grown⟩
    · rw [show decide (stOk q v ⟨4, n, a⟩) = false from decide_eq_false (by unfold stOk mon; dsimp only; omega)]
      go_enter Try.func32, Try.ntmps32
      go_wp2
      go_ret
      exact ⟨by first | rfl | exact ret_bool (beq_eq_false_iff_ne.2 (by omega)), by first | exact Below.refl _ _ | go_grown⟩
  · rw [show decide (stOk q v ⟨4, n, a⟩) = false from decide_eq_false (by unfold stOk mon; dsimp only; omega)]
    go_enter Try.func32, Try.ntmps32
    go_wp2
    go_ret
    exact ⟨by first | rfl | exact ret_bool (beq_eq_false_iff_ne.2 (by omega)), by first | exact Below.refl _ _ | go_grown⟩
theorem rst_2 (n a : Int) (k : Int) (hk : k = 2) (w : World) : Calls Try.prog 32 #[.agg #[.int .i64 c, .int .i64 r, .int .i64 t, .int .i64 e, .slice A1 q c1, .slice A2 v c2, .slice A3 z c3], .agg #[.int .i64 k, .int .i64 n, .int .i64 a]] w fun e w' => e = .returned (.bool (decide (stOk q v ⟨k, n, a⟩))) ∧ Below w.heap.size w w' := by
  subst hk
  by_cases hm : 0 ≤ a ∧ a ≤ 1000000000000000
  · by_cases h1 : n = 0
    · rw [show decide (stOk q v ⟨2, n, a⟩) = true from decide_eq_true (by unfold stOk mon; dsimp only; omega)]
      go_enter Try.func32, Try.ntmps32
      go_wp2_with (fail)
      go_must (refine (money_any _ _).mono ?_)
      rintro e9 w1 ⟨rfl, rfl⟩
      rw [show decide (mon a) = true from decide_eq_true (by unfold mon; omega)]
      go_wp2
      go_ret
      exact ⟨by first | rfl | exact ret_bool (beq_eq_false_iff_ne.2 (by omega)), by first | exact Below.refl _ _ | go_grown⟩
    · rw [show decide (stOk q v ⟨2, n, a⟩) = false from decide_eq_false (by unfold stOk mon; dsimp only; omega)]
      go_enter Try.func32, Try.ntmps32
      go_wp2_with (fail)
      go_must (refine (money_any _ _).mono ?_)
      rintro e9 w1 ⟨rfl, rfl⟩
      rw [show decide (mon a) = true from decide_eq_true (by unfold mon; omega)]
      go_wp2
      go_ret
      exact ⟨by first | rfl | exact ret_bool (beq_eq_false_iff_ne.2 (by omega)), by first | exact Below.refl _ _ | go_grown⟩
  · rw [show decide (stOk q v ⟨2, n, a⟩) = false from decide_eq_false (by unfold stOk mon; dsimp only; omega)]
    go_enter Try.func32, Try.ntmps32
    go_wp2_with (fail)
    go_must (refine (money_any _ _).mono ?_)
    rintro e9 w1 ⟨rfl, rfl⟩
    rw [show decide (mon a) = false from decide_eq_false (by unfold mon; omega)]
    go_wp2
    go_ret
    exact ⟨by first | rfl | exact ret_bool (beq_eq_false_iff_ne.2 (by omega)), by first | exact Below.refl _ _ | go_grown⟩
theorem rst_x (n a : Int) (k : Int) (k0 : ¬k = 0) (k1 : ¬k = 1) (k2 : ¬k = 2) (k3 : ¬k = 3) (k4 : ¬k = 4) (w : World) : Calls Try.prog 32 #[.agg #[.int .i64 c, .int .i64 r, .int .i64 t, .int .i64 e, .slice A1 q c1, .slice A2 v c2, .slice A3 z c3], .agg #[.int .i64 k, .int .i64 n, .int .i64 a]] w fun e w' => e = .returned (.bool (decide (stOk q v ⟨k, n, a⟩))) ∧ Below w.heap.size w w' := by
  rw [show decide (stOk q v ⟨k, n, a⟩) = false from decide_eq_false (by unfold stOk mon; dsimp only; omega)]
  go_enter Try.func32, Try.ntmps32
  go_wp2
  go_ret
  exact ⟨by first | rfl | exact ret_bool (beq_eq_false_iff_ne.2 (by omega)), by first | exact Below.refl _ _ | go_grown⟩
theorem rst_any (s : St) (w : World) : Calls Try.prog 32 #[.agg #[.int .i64 c, .int .i64 r, .int .i64 t, .int .i64 e, .slice A1 q c1, .slice A2 v c2, .slice A3 z c3], .agg #[.int .i64 s.k, .int .i64 s.n, .int .i64 s.a]] w fun e w' => e = .returned (.bool (decide (stOk q v s))) ∧ Below w.heap.size w w' := by
  obtain ⟨k, n, a⟩ := s
  by_cases k0 : k = 0
  · exact rst_0 c r t e A1 A2 A3 q v z c1 c2 c3 n a k k0 w
  by_cases k1 : k = 1
  · exact rst_1 c r t e A1 A2 A3 q v z c1 c2 c3 n a k k1 w
  by_cases k2 : k = 2
  · exact rst_2 c r t e A1 A2 A3 q v z c1 c2 c3 n a k k2 w
  by_cases k3 : k = 3
  · exact rst_3 c r t e A1 A2 A3 q v z c1 c2 c3 n a k k3 w
  by_cases k4 : k = 4
  · exact rst_4 c r t e A1 A2 A3 q v z c1 c2 c3 n a k k4 w
  exact rst_x c r t e A1 A2 A3 q v z c1 c2 c3 n a k k0 k1 k2 k3 k4 w
end
end Go.Proofs.Ytdmbgdbmfenbfaa.Fa
