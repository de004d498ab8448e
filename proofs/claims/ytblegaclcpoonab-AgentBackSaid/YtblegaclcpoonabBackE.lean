/- AgentBack: the ways that end early, and those of somebody insolvent. -/
import Derived.Test.YtblegaclcpoonabBackC
namespace Go.Proofs.Ytblegaclcpoonab.Agent
open Go.ChangeShapes Go.WideShapes Go.ChangeAt Go.RowKit
set_option linter.unusedVariables false

set_option maxRecDepth 100000 in
set_option maxHeartbeats 4000000 in
theorem back_a (t o : Int) (g : Bool) (t' o' : Int) (g' : Bool) (n m : Int) (w : World) (hp : okB t o = false) :
    Calls Try.prog 6 #[pv t o g, pv t' o' g', .int .i64 n, .int .i64 m] w fun e w' => e = .returned (.bool true) ∧ Below w.heap.size w w' := by
  go_enter Try.func6, Try.ntmps6
  go_wp2_with (fail)
  refine (small_any _).mono ?_
  rintro e w1 ⟨rfl, hb1⟩
  have hs1 := hb1.size
  try simp only [World.size_setCell] at hs1
  try simp only [World.size_alloc] at hs1
  have hB1 : Below w.heap.size w w1 := over hb1 (by go_grown)
  have zp_1 : w.heap.size < w1.heap.size := by omega
  obtain ⟨p0_1, p1_1, p2_1⟩ := keep3 hb1 (w.heap.size) (.int .i64 t) (.int .i64 o) (.bool g) (by simp [go_sem])
  have zq_1 : w.heap.size + 1 < w1.heap.size := by omega
  obtain ⟨q0_1, q1_1, q2_1⟩ := keep3 hb1 (w.heap.size + 1) (.int .i64 t') (.int .i64 o') (.bool g') (by simp [go_sem])
  clear hs1 hb1
  go_wp2_with (fail)
  refine (r_no hp _ _).mono ?_
  rintro e w2 ⟨rfl, hb2⟩
  have hs2 := hb2.size
  try simp only [World.size_setCell] at hs2
  try simp only [World.size_alloc] at hs2
  have hB2 : Below w.heap.size w w2 := over hb2 (by go_grown)
  have zp_2 : w.heap.size < w2.heap.size := by omega
  obtain ⟨p0_2, p1_2, p2_2⟩ := keep3 hb2 (w.heap.size) (.int .i64 t) (.int .i64 o) (.bool g) (by first | exact ⟨p0_1, p1_1, p2_1⟩ | exact ⟨al p0_1, al p1_1, al p2_1⟩ | exact ⟨al (al p0_1), al (al p1_1), al (al p2_1)⟩)
  have zq_2 : w.heap.size + 1 < w2.heap.size := by omega
  obtain ⟨q0_2, q1_2, q2_2⟩ := keep3 hb2 (w.heap.size + 1) (.int .i64 t') (.int .i64 o') (.bool g') (by first | exact ⟨q0_1, q1_1, q2_1⟩ | exact ⟨al q0_1, al q1_1, al q2_1⟩ | exact ⟨al (al q0_1), al (al q1_1), al (al q2_1)⟩)
  clear p0_1 p1_1 p2_1 zp_1 q0_1 q1_1 q2_1 zq_1 hB1 hs2 hb2
  go_wp2
  go_ret
  exact ⟨rfl, by go_grown⟩

set_option maxRecDepth 100000 in
set_option maxHeartbeats 4000000 in
theorem back_b (t o : Int) (g : Bool) (t' o' : Int) (g' : Bool) (n m : Int) (w : World) (hp : okB t o = true) (hq : okB t' o' = false) :
    Calls Try.prog 6 #[pv t o g, pv t' o' g', .int .i64 n, .int .i64 m] w fun e w' => e = .returned (.bool true) ∧ Below w.heap.size w w' := by
  go_enter Try.func6, Try.ntmps6
  go_wp2_with (fail)
  refine (small_any _).mono ?_
  rintro e w1 ⟨rfl, hb1⟩
  have hs1 := hb1.size
  try simp only [World.size_setCell] at hs1
  try simp only [World.size_alloc] at hs1
  have hB1 : Below w.heap.size w w1 := over hb1 (by go_grown)
  have zp_1 : w.heap.size < w1.heap.size := by omega
  obtain ⟨p0_1, p1_1, p2_1⟩ := keep3 hb1 (w.heap.size) (.int .i64 t) (.int .i64 o) (.bool g) (by simp [go_sem])
  have zq_1 : w.heap.size + 1 < w1.heap.size := by omega
  obtain ⟨q0_1, q1_1, q2_1⟩ := keep3 hb1 (w.heap.size + 1) (.int .i64 t') (.int .i64 o') (.bool g') (by simp [go_sem])
  clear hs1 hb1
  go_wp2_with (fail)
  refine (r_yes hp _ _).mono ?_
  rintro e w2 ⟨rfl, hb2⟩
  have hs2 := hb2.size
  try simp only [World.size_setCell] at hs2
  try simp only [World.size_alloc] at hs2
  have hB2 : Below w.heap.size w w2 := over hb2 (by go_grown)
  have zp_2 : w.heap.size < w2.heap.size := by omega
  obtain ⟨p0_2, p1_2, p2_2⟩ := keep3 hb2 (w.heap.size) (.int .i64 t) (.int .i64 o) (.bool g) (by first | exact ⟨p0_1, p1_1, p2_1⟩ | exact ⟨al p0_1, al p1_1, al p2_1⟩ | exact ⟨al (al p0_1), al (al p1_1), al (al p2_1)⟩)
  have zq_2 : w.heap.size + 1 < w2.heap.size := by omega
  obtain ⟨q0_2, q1_2, q2_2⟩ := keep3 hb2 (w.heap.size + 1) (.int .i64 t') (.int .i64 o') (.bool g') (by first | exact ⟨q0_1, q1_1, q2_1⟩ | exact ⟨al q0_1, al q1_1, al q2_1⟩ | exact ⟨al (al q0_1), al (al q1_1), al (al q2_1)⟩)
  clear p0_1 p1_1 p2_1 zp_1 q0_1 q1_1 q2_1 zq_1 hB1 hs2 hb2
  go_wp2_with (fail)
  refine (r_no hq _ _).mono ?_
  rintro e w3 ⟨rfl, hb3⟩
  have hs3 := hb3.size
  try simp only [World.size_setCell] at hs3
  try simp only [World.size_alloc] at hs3
  have hB3 : Below w.heap.size w w3 := over hb3 (by go_grown)
  have zp_3 : w.heap.size < w3.heap.size := by omega
  obtain ⟨p0_3, p1_3, p2_3⟩ := keep3 hb3 (w.heap.size) (.int .i64 t) (.int .i64 o) (.bool g) (by first | exact ⟨p0_2, p1_2, p2_2⟩ | exact ⟨al p0_2, al p1_2, al p2_2⟩ | exact ⟨al (al p0_2), al (al p1_2), al (al p2_2)⟩)
  have zq_3 : w.heap.size + 1 < w3.heap.size := by omega
  obtain ⟨q0_3, q1_3, q2_3⟩ := keep3 hb3 (w.heap.size + 1) (.int .i64 t') (.int .i64 o') (.bool g') (by first | exact ⟨q0_2, q1_2, q2_2⟩ | exact ⟨al q0_2, al q1_2, al q2_2⟩ | exact ⟨al (al q0_2), al (al q1_2), al (al q2_2)⟩)
  clear p0_2 p1_2 p2_2 zp_2 q0_2 q1_2 q2_2 zq_2 hB2 hs3 hb3
  go_wp2
  go_ret
  exact ⟨rfl, by go_grown⟩

set_option maxRecDepth 100000 in
set_option maxHeartbeats 4000000 in
theorem back_c (t o : Int) (g : Bool) (t' o' : Int) (g' : Bool) (n m : Int) (w : World) (hp : okB t o = true) (hq : okB t' o' = true) (hn : n < 1) :
    Calls Try.prog 6 #[pv t o g, pv t' o' g', .int .i64 n, .int .i64 m] w fun e w' => e = .returned (.bool true) ∧ Below w.heap.size w w' := by
  go_enter Try.func6, Try.ntmps6
  go_wp2_with (fail)
  refine (small_any _).mono ?_
  rintro e w1 ⟨rfl, hb1⟩
  have hs1 := hb1.size
  try simp only [World.size_setCell] at hs1
  try simp only [World.size_alloc] at hs1
  have hB1 : Below w.heap.size w w1 := over hb1 (by go_grown)
  have zp_1 : w.heap.size < w1.heap.size := by omega
  obtain ⟨p0_1, p1_1, p2_1⟩ := keep3 hb1 (w.heap.size) (.int .i64 t) (.int .i64 o) (.bool g) (by simp [go_sem])
  have zq_1 : w.heap.size + 1 < w1.heap.size := by omega
  obtain ⟨q0_1, q1_1, q2_1⟩ := keep3 hb1 (w.heap.size + 1) (.int .i64 t') (.int .i64 o') (.bool g') (by simp [go_sem])
  clear hs1 hb1
  go_wp2_with (fail)
  refine (r_yes hp _ _).mono ?_
  rintro e w2 ⟨rfl, hb2⟩
  have hs2 := hb2.size
  try simp only [World.size_setCell] at hs2
  try simp only [World.size_alloc] at hs2
  have hB2 : Below w.heap.size w w2 := over hb2 (by go_grown)
  have zp_2 : w.heap.size < w2.heap.size := by omega
  obtain ⟨p0_2, p1_2, p2_2⟩ := keep3 hb2 (w.heap.size) (.int .i64 t) (.int .i64 o) (.bool g) (by first | exact ⟨p0_1, p1_1, p2_1⟩ | exact ⟨al p0_1, al p1_1, al p2_1⟩ | exact ⟨al (al p0_1), al (al p1_1), al (al p2_1)⟩)
  have zq_2 : w.heap.size + 1 < w2.heap.size := by omega
  obtain ⟨q0_2, q1_2, q2_2⟩ := keep3 hb2 (w.heap.size + 1) (.int .i64 t') (.int .i64 o') (.bool g') (by first | exact ⟨q0_1, q1_1, q2_1⟩ | exact ⟨al q0_1, al q1_1, al q2_1⟩ | exact ⟨al (al q0_1), al (al q1_1), al (al q2_1)⟩)
  clear p0_1 p1_1 p2_1 zp_1 q0_1 q1_1 q2_1 zq_1 hB1 hs2 hb2
  go_wp2_with (fail)
  refine (r_yes hq _ _).mono ?_
  rintro e w3 ⟨rfl, hb3⟩
  have hs3 := hb3.size
  try simp only [World.size_setCell] at hs3
  try simp only [World.size_alloc] at hs3
  have hB3 : Below w.heap.size w w3 := over hb3 (by go_grown)
  have zp_3 : w.heap.size < w3.heap.size := by omega
  obtain ⟨p0_3, p1_3, p2_3⟩ := keep3 hb3 (w.heap.size) (.int .i64 t) (.int .i64 o) (.bool g) (by first | exact ⟨p0_2, p1_2, p2_2⟩ | exact ⟨al p0_2, al p1_2, al p2_2⟩ | exact ⟨al (al p0_2), al (al p1_2), al (al p2_2)⟩)
  have zq_3 : w.heap.size + 1 < w3.heap.size := by omega
  obtain ⟨q0_3, q1_3, q2_3⟩ := keep3 hb3 (w.heap.size + 1) (.int .i64 t') (.int .i64 o') (.bool g') (by first | exact ⟨q0_2, q1_2, q2_2⟩ | exact ⟨al q0_2, al q1_2, al q2_2⟩ | exact ⟨al (al q0_2), al (al q1_2), al (al q2_2)⟩)
  clear p0_2 p1_2 p2_2 zp_2 q0_2 q1_2 q2_2 zq_2 hB2 hs3 hb3
  go_wp2
  go_ret
  exact ⟨rfl, by go_grown⟩

set_option maxRecDepth 100000 in
set_option maxHeartbeats 4000000 in
theorem back_d (t o : Int) (g : Bool) (t' o' : Int) (g' : Bool) (n m : Int) (w : World) (hp : okB t o = true) (hq : okB t' o' = true) (n0 : 1 ≤ n) (hn : 1000000000000000 < n) :
    Calls Try.prog 6 #[pv t o g, pv t' o' g', .int .i64 n, .int .i64 m] w fun e w' => e = .returned (.bool true) ∧ Below w.heap.size w w' := by
  go_enter Try.func6, Try.ntmps6
  go_wp2_with (fail)
  refine (small_any _).mono ?_
  rintro e w1 ⟨rfl, hb1⟩
  have hs1 := hb1.size
  try simp only [World.size_setCell] at hs1
  try simp only [World.size_alloc] at hs1
  have hB1 : Below w.heap.size w w1 := over hb1 (by go_grown)
  have zp_1 : w.heap.size < w1.heap.size := by omega
  obtain ⟨p0_1, p1_1, p2_1⟩ := keep3 hb1 (w.heap.size) (.int .i64 t) (.int .i64 o) (.bool g) (by simp [go_sem])
  have zq_1 : w.heap.size + 1 < w1.heap.size := by omega
  obtain ⟨q0_1, q1_1, q2_1⟩ := keep3 hb1 (w.heap.size + 1) (.int .i64 t') (.int .i64 o') (.bool g') (by simp [go_sem])
  clear hs1 hb1
  go_wp2_with (fail)
  refine (r_yes hp _ _).mono ?_
  rintro e w2 ⟨rfl, hb2⟩
  have hs2 := hb2.size
  try simp only [World.size_setCell] at hs2
  try simp only [World.size_alloc] at hs2
  have hB2 : Below w.heap.size w w2 := over hb2 (by go_grown)
  have zp_2 : w.heap.size < w2.heap.size := by omega
  obtain ⟨p0_2, p1_2, p2_2⟩ := keep3 hb2 (w.heap.size) (.int .i64 t) (.int .i64 o) (.bool g) (by first | exact ⟨p0_1, p1_1, p2_1⟩ | exact ⟨al p0_1, al p1_1, al p2_1⟩ | exact ⟨al (al p0_1), al (al p1_1), al (al p2_1)⟩)
  have zq_2 : w.heap.size + 1 < w2.heap.size := by omega
  obtain ⟨q0_2, q1_2, q2_2⟩ := keep3 hb2 (w.heap.size + 1) (.int .i64 t') (.int .i64 o') (.bool g') (by first | exact ⟨q0_1, q1_1, q2_1⟩ | exact ⟨al q0_1, al q1_1, al q2_1⟩ | exact ⟨al (al q0_1), al (al q1_1), al (al q2_1)⟩)
  clear p0_1 p1_1 p2_1 zp_1 q0_1 q1_1 q2_1 zq_1 hB1 hs2 hb2
  go_wp2_with (fail)
  refine (r_yes hq _ _).mono ?_
  rintro e w3 ⟨rfl, hb3⟩
  have hs3 := hb3.size
  try simp only [World.size_setCell] at hs3
  try simp only [World.size_alloc] at hs3
  have hB3 : Below w.heap.size w w3 := over hb3 (by go_grown)
  have zp_3 : w.heap.size < w3.heap.size := by omega
  obtain ⟨p0_3, p1_3, p2_3⟩ := keep3 hb3 (w.heap.size) (.int .i64 t) (.int .i64 o) (.bool g) (by first | exact ⟨p0_2, p1_2, p2_2⟩ | exact ⟨al p0_2, al p1_2, al p2_2⟩ | exact ⟨al (al p0_2), al (al p1_2), al (al p2_2)⟩)
  have zq_3 : w.heap.size + 1 < w3.heap.size := by omega
  obtain ⟨q0_3, q1_3, q2_3⟩ := keep3 hb3 (w.heap.size + 1) (.int .i64 t') (.int .i64 o') (.bool g') (by first | exact ⟨q0_2, q1_2, q2_2⟩ | exact ⟨al q0_2, al q1_2, al q2_2⟩ | exact ⟨al (al q0_2), al (al q1_2), al (al q2_2)⟩)
  clear p0_2 p1_2 p2_2 zp_2 q0_2 q1_2 q2_2 zq_2 hB2 hs3 hb3
  go_wp2
  go_ret
  exact ⟨rfl, by go_grown⟩

set_option maxRecDepth 100000 in
set_option maxHeartbeats 4000000 in
theorem back_e (t o : Int) (g : Bool) (t' o' : Int) (g' : Bool) (n m : Int) (w : World) (hp : okB t o = true) (hq : okB t' o' = true) (n0 : 1 ≤ n) (n1 : n ≤ 1000000000000000) (hm : m < 1) :
    Calls Try.prog 6 #[pv t o g, pv t' o' g', .int .i64 n, .int .i64 m] w fun e w' => e = .returned (.bool true) ∧ Below w.heap.size w w' := by
  go_enter Try.func6, Try.ntmps6
  go_wp2_with (fail)
  refine (small_any _).mono ?_
  rintro e w1 ⟨rfl, hb1⟩
  have hs1 := hb1.size
  try simp only [World.size_setCell] at hs1
  try simp only [World.size_alloc] at hs1
  have hB1 : Below w.heap.size w w1 := over hb1 (by go_grown)
  have zp_1 : w.heap.size < w1.heap.size := by omega
  obtain ⟨p0_1, p1_1, p2_1⟩ := keep3 hb1 (w.heap.size) (.int .i64 t) (.int .i64 o) (.bool g) (by simp [go_sem])
  have zq_1 : w.heap.size + 1 < w1.heap.size := by omega
  obtain ⟨q0_1, q1_1, q2_1⟩ := keep3 hb1 (w.heap.size + 1) (.int .i64 t') (.int .i64 o') (.bool g') (by simp [go_sem])
  clear hs1 hb1
  go_wp2_with (fail)
  refine (r_yes hp _ _).mono ?_
  rintro e w2 ⟨rfl, hb2⟩
  have hs2 := hb2.size
  try simp only [World.size_setCell] at hs2
  try simp only [World.size_alloc] at hs2
  have hB2 : Below w.heap.size w w2 := over hb2 (by go_grown)
  have zp_2 : w.heap.size < w2.heap.size := by omega
  obtain ⟨p0_2, p1_2, p2_2⟩ := keep3 hb2 (w.heap.size) (.int .i64 t) (.int .i64 o) (.bool g) (by first | exact ⟨p0_1, p1_1, p2_1⟩ | exact ⟨al p0_1, al p1_1, al p2_1⟩ | exact ⟨al (al p0_1), al (al p1_1), al (al p2_1)⟩)
  have zq_2 : w.heap.size + 1 < w2.heap.size := by omega
  obtain ⟨q0_2, q1_2, q2_2⟩ := keep3 hb2 (w.heap.size + 1) (.int .i64 t') (.int .i64 o') (.bool g') (by first | exact ⟨q0_1, q1_1, q2_1⟩ | exact ⟨al q0_1, al q1_1, al q2_1⟩ | exact ⟨al (al q0_1), al (al q1_1), al (al q2_1)⟩)
  clear p0_1 p1_1 p2_1 zp_1 q0_1 q1_1 q2_1 zq_1 hB1 hs2 hb2
  go_wp2_with (fail)
  refine (r_yes hq _ _).mono ?_
  rintro e w3 ⟨rfl, hb3⟩
  have hs3 := hb3.size
  try simp only [World.size_setCell] at hs3
  try simp only [World.size_alloc] at hs3
  have hB3 : Below w.heap.size w w3 := over hb3 (by go_grown)
  have zp_3 : w.heap.size < w3.heap.size := by omega
  obtain ⟨p0_3, p1_3, p2_3⟩ := keep3 hb3 (w.heap.size) (.int .i64 t) (.int .i64 o) (.bool g) (by first | exact ⟨p0_2, p1_2, p2_2⟩ | exact ⟨al p0_2, al p1_2, al p2_2⟩ | exact ⟨al (al p0_2), al (al p1_2), al (al p2_2)⟩)
  have zq_3 : w.heap.size + 1 < w3.heap.size := by omega
  obtain ⟨q0_3, q1_3, q2_3⟩ := keep3 hb3 (w.heap.size + 1) (.int .i64 t') (.int .i64 o') (.bool g') (by first | exact ⟨q0_2, q1_2, q2_2⟩ | exact ⟨al q0_2, al q1_2, al q2_2⟩ | exact ⟨al (al q0_2), al (al q1_2), al (al q2_2)⟩)
  clear p0_2 p1_2 p2_2 zp_2 q0_2 q1_2 q2_2 zq_2 hB2 hs3 hb3
  go_wp2
  go_ret
  exact ⟨rfl, by go_grown⟩

set_option maxRecDepth 100000 in
set_option maxHeartbeats 4000000 in
theorem back_f (t o : Int) (g : Bool) (t' o' : Int) (g' : Bool) (n m : Int) (w : World) (hp : okB t o = true) (hq : okB t' o' = true) (n0 : 1 ≤ n) (n1 : n ≤ 1000000000000000) (m0 : 1 ≤ m) (hm : 1000000000000000 - n < m) :
    Calls Try.prog 6 #[pv t o g, pv t' o' g', .int .i64 n, .int .i64 m] w fun e w' => e = .returned (.bool true) ∧ Below w.heap.size w w' := by
  go_enter Try.func6, Try.ntmps6
  go_wp2_with (fail)
  refine (small_any _).mono ?_
  rintro e w1 ⟨rfl, hb1⟩
  have hs1 := hb1.size
  try simp only [World.size_setCell] at hs1
  try simp only [World.size_alloc] at hs1
  have hB1 : Below w.heap.size w w1 := over hb1 (by go_grown)
  have zp_1 : w.heap.size < w1.heap.size := by omega
  obtain ⟨p0_1, p1_1, p2_1⟩ := keep3 hb1 (w.heap.size) (.int .i64 t) (.int .i64 o) (.bool g) (by simp [go_sem])
  have zq_1 : w.heap.size + 1 < w1.heap.size := by omega
  obtain ⟨q0_1, q1_1, q2_1⟩ := keep3 hb1 (w.heap.size + 1) (.int .i64 t') (.int .i64 o') (.bool g') (by simp [go_sem])
  clear hs1 hb1
  go_wp2_with (fail)
  refine (r_yes hp _ _).mono ?_
  rintro e w2 ⟨rfl, hb2⟩
  have hs2 := hb2.size
  try simp only [World.size_setCell] at hs2
  try simp only [World.size_alloc] at hs2
  have hB2 : Below w.heap.size w w2 := over hb2 (by go_grown)
  have zp_2 : w.heap.size < w2.heap.size := by omega
  obtain ⟨p0_2, p1_2, p2_2⟩ := keep3 hb2 (w.heap.size) (.int .i64 t) (.int .i64 o) (.bool g) (by first | exact ⟨p0_1, p1_1, p2_1⟩ | exact ⟨al p0_1, al p1_1, al p2_1⟩ | exact ⟨al (al p0_1), al (al p1_1), al (al p2_1)⟩)
  have zq_2 : w.heap.size + 1 < w2.heap.size := by omega
  obtain ⟨q0_2, q1_2, q2_2⟩ := keep3 hb2 (w.heap.size + 1) (.int .i64 t') (.int .i64 o') (.bool g') (by first | exact ⟨q0_1, q1_1, q2_1⟩ | exact ⟨al q0_1, al q1_1, al q2_1⟩ | exact ⟨al (al q0_1), al (al q1_1), al (al q2_1)⟩)
  clear p0_1 p1_1 p2_1 zp_1 q0_1 q1_1 q2_1 zq_1 hB1 hs2 hb2
  go_wp2_with (fail)
  refine (r_yes hq _ _).mono ?_
  rintro e w3 ⟨rfl, hb3⟩
  have hs3 := hb3.size
  try simp only [World.size_setCell] at hs3
  try simp only [World.size_alloc] at hs3
  have hB3 : Below w.heap.size w w3 := over hb3 (by go_grown)
  have zp_3 : w.heap.size < w3.heap.size := by omega
  obtain ⟨p0_3, p1_3, p2_3⟩ := keep3 hb3 (w.heap.size) (.int .i64 t) (.int .i64 o) (.bool g) (by first | exact ⟨p0_2, p1_2, p2_2⟩ | exact ⟨al p0_2, al p1_2, al p2_2⟩ | exact ⟨al (al p0_2), al (al p1_2), al (al p2_2)⟩)
  have zq_3 : w.heap.size + 1 < w3.heap.size := by omega
  obtain ⟨q0_3, q1_3, q2_3⟩ := keep3 hb3 (w.heap.size + 1) (.int .i64 t') (.int .i64 o') (.bool g') (by first | exact ⟨q0_2, q1_2, q2_2⟩ | exact ⟨al q0_2, al q1_2, al q2_2⟩ | exact ⟨al (al q0_2), al (al q1_2), al (al q2_2)⟩)
  clear p0_2 p1_2 p2_2 zp_2 q0_2 q1_2 q2_2 zq_2 hB2 hs3 hb3
  go_wp2
  go_ret
  exact ⟨rfl, by go_grown⟩

set_option maxRecDepth 100000 in
set_option maxHeartbeats 4000000 in
theorem back_g (t o : Int) (t' o' : Int) (g' : Bool) (n m : Int) (w : World) (hp : okB t o = true) (hq : okB t' o' = true) (n0 : 1 ≤ n) (n1 : n ≤ 1000000000000000) (m0 : 1 ≤ m) (m1 : m ≤ 1000000000000000 - n) (hx : psE t o true t' o' g' n ≠ 0) (hy : (psE t o true t' o' g' n == 0) = false) :
    Calls Try.prog 6 #[pv t o true, pv t' o' g', .int .i64 n, .int .i64 m] w fun e w' => e = .returned (.bool true) ∧ Below w.heap.size w w' := by
  go_enter Try.func6, Try.ntmps6
  go_wp2_with (fail)
  refine (small_any _).mono ?_
  rintro e w1 ⟨rfl, hb1⟩
  have hs1 := hb1.size
  try simp only [World.size_setCell] at hs1
  try simp only [World.size_alloc] at hs1
  have hB1 : Below w.heap.size w w1 := over hb1 (by go_grown)
  have zp_1 : w.heap.size < w1.heap.size := by omega
  obtain ⟨p0_1, p1_1, p2_1⟩ := keep3 hb1 (w.heap.size) (.int .i64 t) (.int .i64 o) (.bool true) (by simp [go_sem])
  have zq_1 : w.heap.size + 1 < w1.heap.size := by omega
  obtain ⟨q0_1, q1_1, q2_1⟩ := keep3 hb1 (w.heap.size + 1) (.int .i64 t') (.int .i64 o') (.bool g') (by simp [go_sem])
  clear hs1 hb1
  go_wp2_with (fail)
  refine (r_yes hp _ _).mono ?_
  rintro e w2 ⟨rfl, hb2⟩
  have hs2 := hb2.size
  try simp only [World.size_setCell] at hs2
  try simp only [World.size_alloc] at hs2
  have hB2 : Below w.heap.size w w2 := over hb2 (by go_grown)
  have zp_2 : w.heap.size < w2.heap.size := by omega
  obtain ⟨p0_2, p1_2, p2_2⟩ := keep3 hb2 (w.heap.size) (.int .i64 t) (.int .i64 o) (.bool true) (by first | exact ⟨p0_1, p1_1, p2_1⟩ | exact ⟨al p0_1, al p1_1, al p2_1⟩ | exact ⟨al (al p0_1), al (al p1_1), al (al p2_1)⟩)
  have zq_2 : w.heap.size + 1 < w2.heap.size := by omega
  obtain ⟨q0_2, q1_2, q2_2⟩ := keep3 hb2 (w.heap.size + 1) (.int .i64 t') (.int .i64 o') (.bool g') (by first | exact ⟨q0_1, q1_1, q2_1⟩ | exact ⟨al q0_1, al q1_1, al q2_1⟩ | exact ⟨al (al q0_1), al (al q1_1), al (al q2_1)⟩)
  clear p0_1 p1_1 p2_1 zp_1 q0_1 q1_1 q2_1 zq_1 hB1 hs2 hb2
  go_wp2_with (fail)
  refine (r_yes hq _ _).mono ?_
  rintro e w3 ⟨rfl, hb3⟩
  have hs3 := hb3.size
  try simp only [World.size_setCell] at hs3
  try simp only [World.size_alloc] at hs3
  have hB3 : Below w.heap.size w w3 := over hb3 (by go_grown)
  have zp_3 : w.heap.size < w3.heap.size := by omega
  obtain ⟨p0_3, p1_3, p2_3⟩ := keep3 hb3 (w.heap.size) (.int .i64 t) (.int .i64 o) (.bool true) (by first | exact ⟨p0_2, p1_2, p2_2⟩ | exact ⟨al p0_2, al p1_2, al p2_2⟩ | exact ⟨al (al p0_2), al (al p1_2), al (al p2_2)⟩)
  have zq_3 : w.heap.size + 1 < w3.heap.size := by omega
  obtain ⟨q0_3, q1_3, q2_3⟩ := keep3 hb3 (w.heap.size + 1) (.int .i64 t') (.int .i64 o') (.bool g') (by first | exact ⟨q0_2, q1_2, q2_2⟩ | exact ⟨al q0_2, al q1_2, al q2_2⟩ | exact ⟨al (al q0_2), al (al q1_2), al (al q2_2)⟩)
  clear p0_2 p1_2 p2_2 zp_2 q0_2 q1_2 q2_2 zq_2 hB2 hs3 hb3
  go_wp2_with (fail)
  refine (k_take_off hp n0 n1 _).mono ?_
  rintro e w4 ⟨rfl, hb4⟩
  have hs4 := hb4.size
  try simp only [World.size_setCell] at hs4
  try simp only [World.size_alloc] at hs4
  have hB4 : Below w.heap.size w w4 := over hb4 (by go_grown)
  have zp_4 : w.heap.size < w4.heap.size := by omega
  obtain ⟨p0_4, p1_4, p2_4⟩ := keep3 hb4 (w.heap.size) (.int .i64 t) (.int .i64 o) (.bool true) (by first | exact ⟨p0_3, p1_3, p2_3⟩ | exact ⟨al p0_3, al p1_3, al p2_3⟩ | exact ⟨al (al p0_3), al (al p1_3), al (al p2_3)⟩)
  have zq_4 : w.heap.size + 1 < w4.heap.size := by omega
  obtain ⟨q0_4, q1_4, q2_4⟩ := keep3 hb4 (w.heap.size + 1) (.int .i64 t') (.int .i64 o') (.bool g') (by first | exact ⟨q0_3, q1_3, q2_3⟩ | exact ⟨al q0_3, al q1_3, al q2_3⟩ | exact ⟨al (al q0_3), al (al q1_3), al (al q2_3)⟩)
  clear p0_3 p1_3 p2_3 zp_3 q0_3 q1_3 q2_3 zq_3 hB3 hs4 hb4
  have la : w.heap.size ≤ w4.heap.size := by omega
  have nap : ¬ w4.heap.size = w.heap.size := by omega
  have map : ¬ w.heap.size = w4.heap.size := by omega
  have naq : ¬ w4.heap.size = w.heap.size + 1 := by omega
  have maq : ¬ w.heap.size + 1 = w4.heap.size := by omega
  go_wp2_with (fail)
  refine (k_earn_off hp n0 n1 _).mono ?_
  rintro e w5 ⟨rfl, hb5⟩
  have hs5 := hb5.size
  try simp only [World.size_setCell] at hs5
  try simp only [World.size_alloc] at hs5
  have hB5 : Below w.heap.size w w5 := over hb5 (by go_grown)
  have zp_5 : w.heap.size < w5.heap.size := by omega
  obtain ⟨p0_5, p1_5, p2_5⟩ := keep3 hb5 (w.heap.size) (.int .i64 t) (.int .i64 o) (.bool true) (by first | exact ⟨p0_4, p1_4, p2_4⟩ | exact ⟨al p0_4, al p1_4, al p2_4⟩ | exact ⟨al (al p0_4), al (al p1_4), al (al p2_4)⟩)
  have zq_5 : w.heap.size + 1 < w5.heap.size := by omega
  obtain ⟨q0_5, q1_5, q2_5⟩ := keep3 hb5 (w.heap.size + 1) (.int .i64 t') (.int .i64 o') (.bool g') (by first | exact ⟨q0_4, q1_4, q2_4⟩ | exact ⟨al q0_4, al q1_4, al q2_4⟩ | exact ⟨al (al q0_4), al (al q1_4), al (al q2_4)⟩)
  have za_5 : w4.heap.size < w5.heap.size := by omega
  obtain ⟨a0_5, a1_5, a2_5⟩ := keep3 hb5 (w4.heap.size) (.int .i64 t) (.int .i64 o) (.bool true) (by simp [go_sem])
  have fa_5 := keepf hb5 (w4.heap.size) (by first | (simp; done) | (simp; omega)) (fun j => by simp [go_sem])
  clear p0_4 p1_4 p2_4 zp_4 q0_4 q1_4 q2_4 zq_4 hB4 hs5 hb5
  go_wp2_with (fail)
  refine (k_pass_no hx _).mono ?_
  rintro e w6 ⟨rfl, hb6⟩
  have hs6 := hb6.size
  try simp only [World.size_setCell] at hs6
  try simp only [World.size_alloc] at hs6
  have hB6 : Below w.heap.size w w6 := over hb6 (by go_grown)
  have zp_6 : w.heap.size < w6.heap.size := by omega
  obtain ⟨p0_6, p1_6, p2_6⟩ := keep3 hb6 (w.heap.size) (.int .i64 t) (.int .i64 o) (.bool true) (by simp [go_sem, p0_5, p1_5, p2_5])
  have zq_6 : w.heap.size + 1 < w6.heap.size := by omega
  obtain ⟨q0_6, q1_6, q2_6⟩ := keep3 hb6 (w.heap.size + 1) (.int .i64 t') (.int .i64 o') (.bool g') (by simp [go_sem, q0_5, q1_5, q2_5])
  have za_6 : w4.heap.size < w6.heap.size := by omega
  obtain ⟨a0_6, a1_6, a2_6⟩ := keep3 hb6 (w4.heap.size) (.int .i64 t) (.int .i64 o) (.bool true) (by simp [go_sem, a0_5, a1_5, a2_5])
  have fa_6 := keepf hb6 (w4.heap.size) (by first | (simp; done) | (simp; omega)) (fun j => by simp [go_sem, fa_5])
  clear p0_5 p1_5 p2_5 zp_5 q0_5 q1_5 q2_5 zq_5 a0_5 a1_5 a2_5 za_5 fa_5 hB5 hs6 hb6
  go_wp2
  go_ret
  exact ⟨rfl, by go_grown⟩

end Go.Proofs.Ytblegaclcpoonab.Agent
