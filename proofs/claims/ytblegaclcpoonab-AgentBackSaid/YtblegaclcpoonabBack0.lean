/- AgentBack: the ways on which money is taken: full. -/
import Derived.Test.YtblegaclcpoonabBackC
namespace Go.Proofs.Ytblegaclcpoonab.Agent
open Go.ChangeShapes Go.WideShapes Go.ChangeAt Go.RowKit
set_option linter.unusedVariables false

set_option maxRecDepth 100000 in
set_option maxHeartbeats 4000000 in
theorem back_full_full_no (t o : Int) (t' o' : Int) (g' : Bool) (n m : Int) (w : World) (hp : okB t o = true) (hq : okB t' o' = true) (n0 : 1 ≤ n) (n1 : n ≤ 1000000000000000) (m0 : 1 ≤ m) (m1 : m ≤ 1000000000000000 - n) (ht : 1000000000000000 < t + n) (he : 1000000000000000 < o + n) (hx : psE t o false t' o' g' n ≠ 0) (hy : (psE t o false t' o' g' n == 0) = false)  :
    Calls Try.prog 6 #[pv t o false, pv t' o' g', .int .i64 n, .int .i64 m] w fun e w' => e = .returned (.bool true) ∧ Below w.heap.size w w' := by
  go_enter Try.func6, Try.ntmps6
  go_wp2_with (fail)
  refine (small_any _).mono ?_
  rintro e w1 ⟨rfl, hb1⟩
  have hs1 := hb1.size
  try simp only [World.size_setCell] at hs1
  try simp only [World.size_alloc] at hs1
  have hB1 : Below w.heap.size w w1 := over hb1 (by go_grown)
  have zp_1 : w.heap.size < w1.heap.size := by omega
  obtain ⟨p0_1, p1_1, p2_1⟩ := keep3 hb1 (w.heap.size) (.int .i64 t) (.int .i64 o) (.bool false) (by simp [go_sem])
  have zq_1 : w.heap.size + 1 < w1.heap.size := by omega
  obtain ⟨q0_1, q1_1, q2_1⟩ := keep3 hb1 (w.heap.size + 1) (.int .i64 t') (.int .i64 o') (.bool g') (by simp [go_sem])
  clear hs1 hb1
  go_wp2_with (fail)
  refine (r_yes hp _ _).mono ?_
  rintro e w2 ⟨rfl, hb2⟩
  have hs2 := hb2.size
  try simp only [World.size_setCell] at hs2
  try simp only [World.size_alloc] at hs2
  have hB2 : Below w.heap.size w w2 := over hb2 (by go_grown)
  have zp_2 : w.heap.size < w2.heap.size := by omega
  obtain ⟨p0_2, p1_2, p2_2⟩ := keep3 hb2 (w.heap.size) (.int .i64 t) (.int .i64 o) (.bool false) (by first | exact ⟨p0_1, p1_1, p2_1⟩ | exact ⟨al p0_1, al p1_1, al p2_1⟩ | exact ⟨al (al p0_1), al (al p1_1), al (al p2_1)⟩)
  have zq_2 : w.heap.size + 1 < w2.heap.size := by omega
  obtain ⟨q0_2, q1_2, q2_2⟩ := keep3 hb2 (w.heap.size + 1) (.int .i64 t') (.int .i64 o') (.bool g') (by first | exact ⟨q0_1, q1_1, q2_1⟩ | exact ⟨al q0_1, al q1_1, al q2_1⟩ | exact ⟨al (al q0_1), al (al q1_1), al (al q2_1)⟩)
  clear p0_1 p1_1 p2_1 zp_1 q0_1 q1_1 q2_1 zq_1 hB1 hs2 hb2
  go_wp2_with (fail)
  refine (r_yes hq _ _).mono ?_
  rintro e w3 ⟨rfl, hb3⟩
  have hs3 := hb3.size
  try simp only [World.size_setCell] at hs3
  try simp only [World.size_alloc] at hs3
  have hB3 : Below w.heap.size w w3 := over hb3 (by go_grown)
  have zp_3 : w.heap.size < w3.heap.size := by omega
  obtain ⟨p0_3, p1_3, p2_3⟩ := keep3 hb3 (w.heap.size) (.int .i64 t) (.int .i64 o) (.bool false) (by first | exact ⟨p0_2, p1_2, p2_2⟩ | exact ⟨al p0_2, al p1_2, al p2_2⟩ | exact ⟨al (al p0_2), al (al p1_2), al (al p2_2)⟩)
  have zq_3 : w.heap.size + 1 < w3.heap.size := by omega
  obtain ⟨q0_3, q1_3, q2_3⟩ := keep3 hb3 (w.heap.size + 1) (.int .i64 t') (.int .i64 o') (.bool g') (by first | exact ⟨q0_2, q1_2, q2_2⟩ | exact ⟨al q0_2, al q1_2, al q2_2⟩ | exact ⟨al (al q0_2), al (al q1_2), al (al q2_2)⟩)
  clear p0_2 p1_2 p2_2 zp_2 q0_2 q1_2 q2_2 zq_2 hB2 hs3 hb3
  go_wp2_with (fail)
  refine (k_take_full hp n0 n1 ht _).mono ?_
  rintro e w4 ⟨rfl, hb4⟩
  have hs4 := hb4.size
  try simp only [World.size_setCell] at hs4
  try simp only [World.size_alloc] at hs4
  have hB4 : Below w.heap.size w w4 := over hb4 (by go_grown)
  have zp_4 : w.heap.size < w4.heap.size := by omega
  obtain ⟨p0_4, p1_4, p2_4⟩ := keep3 hb4 (w.heap.size) (.int .i64 t) (.int .i64 o) (.bool false) (by first | exact ⟨p0_3, p1_3, p2_3⟩ | exact ⟨al p0_3, al p1_3, al p2_3⟩ | exact ⟨al (al p0_3), al (al p1_3), al (al p2_3)⟩)
  have zq_4 : w.heap.size + 1 < w4.heap.size := by omega
  obtain ⟨q0_4, q1_4, q2_4⟩ := keep3 hb4 (w.heap.size + 1) (.int .i64 t') (.int .i64 o') (.bool g') (by first | exact ⟨q0_3, q1_3, q2_3⟩ | exact ⟨al q0_3, al q1_3, al q2_3⟩ | exact ⟨al (al q0_3), al (al q1_3), al (al q2_3)⟩)
  clear p0_3 p1_3 p2_3 zp_3 q0_3 q1_3 q2_3 zq_3 hB3 hs4 hb4
  have la : w.heap.size ≤ w4.heap.size := by omega
  have nap : ¬ w4.heap.size = w.heap.size := by omega
  have map : ¬ w.heap.size = w4.heap.size := by omega
  have naq : ¬ w4.heap.size = w.heap.size + 1 := by omega
  have maq : ¬ w.heap.size + 1 = w4.heap.size := by omega
  go_wp2_with (fail)
  refine (k_earn_full hp n0 n1 he _).mono ?_
  rintro e w5 ⟨rfl, hb5⟩
  have hs5 := hb5.size
  try simp only [World.size_setCell] at hs5
  try simp only [World.size_alloc] at hs5
  have hB5 : Below w.heap.size w w5 := over hb5 (by go_grown)
  have zp_5 : w.heap.size < w5.heap.size := by omega
  obtain ⟨p0_5, p1_5, p2_5⟩ := keep3 hb5 (w.heap.size) (.int .i64 t) (.int .i64 o) (.bool false) (by first | exact ⟨p0_4, p1_4, p2_4⟩ | exact ⟨al p0_4, al p1_4, al p2_4⟩ | exact ⟨al (al p0_4), al (al p1_4), al (al p2_4)⟩)
  have zq_5 : w.heap.size + 1 < w5.heap.size := by omega
  obtain ⟨q0_5, q1_5, q2_5⟩ := keep3 hb5 (w.heap.size + 1) (.int .i64 t') (.int .i64 o') (.bool g') (by first | exact ⟨q0_4, q1_4, q2_4⟩ | exact ⟨al q0_4, al q1_4, al q2_4⟩ | exact ⟨al (al q0_4), al (al q1_4), al (al q2_4)⟩)
  have za_5 : w4.heap.size < w5.heap.size := by omega
  obtain ⟨a0_5, a1_5, a2_5⟩ := keep3 hb5 (w4.heap.size) (.int .i64 t) (.int .i64 o) (.bool false) (by simp [go_sem])
  have fa_5 := keepf hb5 (w4.heap.size) (by first | (simp; done) | (simp; omega)) (fun j => by simp [go_sem])
  clear p0_4 p1_4 p2_4 zp_4 q0_4 q1_4 q2_4 zq_4 hB4 hs5 hb5
  go_wp2_with (fail)
  refine (k_pass_no hx _).mono ?_
  rintro e w6 ⟨rfl, hb6⟩
  have hs6 := hb6.size
  try simp only [World.size_setCell] at hs6
  try simp only [World.size_alloc] at hs6
  have hB6 : Below w.heap.size w w6 := over hb6 (by go_grown)
  have zp_6 : w.heap.size < w6.heap.size := by omega
  obtain ⟨p0_6, p1_6, p2_6⟩ := keep3 hb6 (w.heap.size) (.int .i64 t) (.int .i64 o) (.bool false) (by simp [go_sem, p0_5, p1_5, p2_5])
  have zq_6 : w.heap.size + 1 < w6.heap.size := by omega
  obtain ⟨q0_6, q1_6, q2_6⟩ := keep3 hb6 (w.heap.size + 1) (.int .i64 t') (.int .i64 o') (.bool g') (by simp [go_sem, q0_5, q1_5, q2_5])
  have za_6 : w4.heap.size < w6.heap.size := by omega
  obtain ⟨a0_6, a1_6, a2_6⟩ := keep3 hb6 (w4.heap.size) (.int .i64 t) (.int .i64 o) (.bool false) (by simp [go_sem, a0_5, a1_5, a2_5])
  have fa_6 := keepf hb6 (w4.heap.size) (by first | (simp; done) | (simp; omega)) (fun j => by simp [go_sem, fa_5])
  clear p0_5 p1_5 p2_5 zp_5 q0_5 q1_5 q2_5 zq_5 a0_5 a1_5 a2_5 za_5 fa_5 hB5 hs6 hb6
  go_wp2
  go_ret
  exact ⟨rfl, by go_grown⟩

set_option maxRecDepth 100000 in
set_option maxHeartbeats 4000000 in
theorem back_full_full_ok (t o : Int) (t' o' : Int) (n m : Int) (w : World) (hp : okB t o = true) (hq : okB t' o' = true) (n0 : 1 ≤ n) (n1 : n ≤ 1000000000000000) (m0 : 1 ≤ m) (m1 : m ≤ 1000000000000000 - n) (ht : 1000000000000000 < t + n) (he : 1000000000000000 < o + n) (ha : 0 ≤ t - n) (hb : t' + n ≤ 1000000000000000) (b0 : 0 ≤ t) (b1 : t ≤ 1000000000000000) (b2 : 0 ≤ t') (b3 : t' ≤ 1000000000000000)  :
    Calls Try.prog 6 #[pv t o false, pv t' o' false, .int .i64 n, .int .i64 m] w fun e w' => e = .returned (.bool true) ∧ Below w.heap.size w w' := by
  go_enter Try.func6, Try.ntmps6
  go_wp2_with (fail)
  refine (small_any _).mono ?_
  rintro e w1 ⟨rfl, hb1⟩
  have hs1 := hb1.size
  try simp only [World.size_setCell] at hs1
  try simp only [World.size_alloc] at hs1
  have hB1 : Below w.heap.size w w1 := over hb1 (by go_grown)
  have zp_1 : w.heap.size < w1.heap.size := by omega
  obtain ⟨p0_1, p1_1, p2_1⟩ := keep3 hb1 (w.heap.size) (.int .i64 t) (.int .i64 o) (.bool false) (by simp [go_sem])
  have zq_1 : w.heap.size + 1 < w1.heap.size := by omega
  obtain ⟨q0_1, q1_1, q2_1⟩ := keep3 hb1 (w.heap.size + 1) (.int .i64 t') (.int .i64 o') (.bool false) (by simp [go_sem])
  clear hs1 hb1
  go_wp2_with (fail)
  refine (r_yes hp _ _).mono ?_
  rintro e w2 ⟨rfl, hb2⟩
  have hs2 := hb2.size
  try simp only [World.size_setCell] at hs2
  try simp only [World.size_alloc] at hs2
  have hB2 : Below w.heap.size w w2 := over hb2 (by go_grown)
  have zp_2 : w.heap.size < w2.heap.size := by omega
  obtain ⟨p0_2, p1_2, p2_2⟩ := keep3 hb2 (w.heap.size) (.int .i64 t) (.int .i64 o) (.bool false) (by first | exact ⟨p0_1, p1_1, p2_1⟩ | exact ⟨al p0_1, al p1_1, al p2_1⟩ | exact ⟨al (al p0_1), al (al p1_1), al (al p2_1)⟩)
  have zq_2 : w.heap.size + 1 < w2.heap.size := by omega
  obtain ⟨q0_2, q1_2, q2_2⟩ := keep3 hb2 (w.heap.size + 1) (.int .i64 t') (.int .i64 o') (.bool false) (by first | exact ⟨q0_1, q1_1, q2_1⟩ | exact ⟨al q0_1, al q1_1, al q2_1⟩ | exact ⟨al (al q0_1), al (al q1_1), al (al q2_1)⟩)
  clear p0_1 p1_1 p2_1 zp_1 q0_1 q1_1 q2_1 zq_1 hB1 hs2 hb2
  go_wp2_with (fail)
  refine (r_yes hq _ _).mono ?_
  rintro e w3 ⟨rfl, hb3⟩
  have hs3 := hb3.size
  try simp only [World.size_setCell] at hs3
  try simp only [World.size_alloc] at hs3
  have hB3 : Below w.heap.size w w3 := over hb3 (by go_grown)
  have zp_3 : w.heap.size < w3.heap.size := by omega
  obtain ⟨p0_3, p1_3, p2_3⟩ := keep3 hb3 (w.heap.size) (.int .i64 t) (.int .i64 o) (.bool false) (by first | exact ⟨p0_2, p1_2, p2_2⟩ | exact ⟨al p0_2, al p1_2, al p2_2⟩ | exact ⟨al (al p0_2), al (al p1_2), al (al p2_2)⟩)
  have zq_3 : w.heap.size + 1 < w3.heap.size := by omega
  obtain ⟨q0_3, q1_3, q2_3⟩ := keep3 hb3 (w.heap.size + 1) (.int .i64 t') (.int .i64 o') (.bool false) (by first | exact ⟨q0_2, q1_2, q2_2⟩ | exact ⟨al q0_2, al q1_2, al q2_2⟩ | exact ⟨al (al q0_2), al (al q1_2), al (al q2_2)⟩)
  clear p0_2 p1_2 p2_2 zp_2 q0_2 q1_2 q2_2 zq_2 hB2 hs3 hb3
  go_wp2_with (fail)
  refine (k_take_full hp n0 n1 ht _).mono ?_
  rintro e w4 ⟨rfl, hb4⟩
  have hs4 := hb4.size
  try simp only [World.size_setCell] at hs4
  try simp only [World.size_alloc] at hs4
  have hB4 : Below w.heap.size w w4 := over hb4 (by go_grown)
  have zp_4 : w.heap.size < w4.heap.size := by omega
  obtain ⟨p0_4, p1_4, p2_4⟩ := keep3 hb4 (w.heap.size) (.int .i64 t) (.int .i64 o) (.bool false) (by first | exact ⟨p0_3, p1_3, p2_3⟩ | exact ⟨al p0_3, al p1_3, al p2_3⟩ | exact ⟨al (al p0_3), al (al p1_3), al (al p2_3)⟩)
  have zq_4 : w.heap.size + 1 < w4.heap.size := by omega
  obtain ⟨q0_4, q1_4, q2_4⟩ := keep3 hb4 (w.heap.size + 1) (.int .i64 t') (.int .i64 o') (.bool false) (by first | exact ⟨q0_3, q1_3, q2_3⟩ | exact ⟨al q0_3, al q1_3, al q2_3⟩ | exact ⟨al (al q0_3), al (al q1_3), al (al q2_3)⟩)
  clear p0_3 p1_3 p2_3 zp_3 q0_3 q1_3 q2_3 zq_3 hB3 hs4 hb4
  have la : w.heap.size ≤ w4.heap.size := by omega
  have nap : ¬ w4.heap.size = w.heap.size := by omega
  have map : ¬ w.heap.size = w4.heap.size := by omega
  have naq : ¬ w4.heap.size = w.heap.size + 1 := by omega
  have maq : ¬ w.heap.size + 1 = w4.heap.size := by omega
  go_wp2_with (fail)
  refine (k_earn_full hp n0 n1 he _).mono ?_
  rintro e w5 ⟨rfl, hb5⟩
  have hs5 := hb5.size
  try simp only [World.size_setCell] at hs5
  try simp only [World.size_alloc] at hs5
  have hB5 : Below w.heap.size w w5 := over hb5 (by go_grown)
  have zp_5 : w.heap.size < w5.heap.size := by omega
  obtain ⟨p0_5, p1_5, p2_5⟩ := keep3 hb5 (w.heap.size) (.int .i64 t) (.int .i64 o) (.bool false) (by first | exact ⟨p0_4, p1_4, p2_4⟩ | exact ⟨al p0_4, al p1_4, al p2_4⟩ | exact ⟨al (al p0_4), al (al p1_4), al (al p2_4)⟩)
  have zq_5 : w.heap.size + 1 < w5.heap.size := by omega
  obtain ⟨q0_5, q1_5, q2_5⟩ := keep3 hb5 (w.heap.size + 1) (.int .i64 t') (.int .i64 o') (.bool false) (by first | exact ⟨q0_4, q1_4, q2_4⟩ | exact ⟨al q0_4, al q1_4, al q2_4⟩ | exact ⟨al (al q0_4), al (al q1_4), al (al q2_4)⟩)
  have za_5 : w4.heap.size < w5.heap.size := by omega
  obtain ⟨a0_5, a1_5, a2_5⟩ := keep3 hb5 (w4.heap.size) (.int .i64 t) (.int .i64 o) (.bool false) (by simp [go_sem])
  have fa_5 := keepf hb5 (w4.heap.size) (by first | (simp; done) | (simp; omega)) (fun j => by simp [go_sem])
  clear p0_4 p1_4 p2_4 zp_4 q0_4 q1_4 q2_4 zq_4 hB4 hs5 hb5
  go_wp2_with (fail)
  refine (k_pass_ok hp hq n0 n1 ha hb _).mono ?_
  rintro e w6 ⟨rfl, hb6⟩
  have hs6 := hb6.size
  try simp only [World.size_setCell] at hs6
  try simp only [World.size_alloc] at hs6
  have hB6 : Below w.heap.size w w6 := over hb6 (by go_grown)
  have zp_6 : w.heap.size < w6.heap.size := by omega
  obtain ⟨p0_6, p1_6, p2_6⟩ := keep3 hb6 (w.heap.size) (.int .i64 t) (.int .i64 o) (.bool false) (by simp [go_sem, p0_5, p1_5, p2_5])
  have zq_6 : w.heap.size + 1 < w6.heap.size := by omega
  obtain ⟨q0_6, q1_6, q2_6⟩ := keep3 hb6 (w.heap.size + 1) (.int .i64 t') (.int .i64 o') (.bool false) (by simp [go_sem, q0_5, q1_5, q2_5])
  have za_6 : w4.heap.size < w6.heap.size := by omega
  obtain ⟨a0_6, a1_6, a2_6⟩ := keep3 hb6 (w4.heap.size) (.int .i64 t) (.int .i64 o) (.bool false) (by simp [go_sem, a0_5, a1_5, a2_5])
  have fa_6 := keepf hb6 (w4.heap.size) (by first | (simp; done) | (simp; omega)) (fun j => by simp [go_sem, fa_5])
  clear p0_5 p1_5 p2_5 zp_5 q0_5 q1_5 q2_5 zq_5 a0_5 a1_5 a2_5 za_5 fa_5 hB5 hs6 hb6
  clear a0_6 a1_6 a2_6 fa_6 za_6
  go_wp2_with (fail)
  refine (k_pass_back hp hq n0 n1 ha hb _).mono ?_
  rintro e w7 ⟨rfl, hb7⟩
  have hs7 := hb7.size
  try simp only [World.size_setCell] at hs7
  try simp only [World.size_alloc] at hs7
  have hB7 : Below w.heap.size w w7 := over hb7 (by go_grown)
  have zp_7 : w.heap.size < w7.heap.size := by omega
  obtain ⟨p0_7, p1_7, p2_7⟩ := keep3 hb7 (w.heap.size) (.int .i64 t) (.int .i64 o) (.bool false) (by first | exact ⟨p0_6, p1_6, p2_6⟩ | exact ⟨al p0_6, al p1_6, al p2_6⟩ | exact ⟨al (al p0_6), al (al p1_6), al (al p2_6)⟩)
  have zq_7 : w.heap.size + 1 < w7.heap.size := by omega
  obtain ⟨q0_7, q1_7, q2_7⟩ := keep3 hb7 (w.heap.size + 1) (.int .i64 t') (.int .i64 o') (.bool false) (by first | exact ⟨q0_6, q1_6, q2_6⟩ | exact ⟨al q0_6, al q1_6, al q2_6⟩ | exact ⟨al (al q0_6), al (al q1_6), al (al q2_6)⟩)
  have zx_7 : w6.heap.size < w7.heap.size := by omega
  obtain ⟨x0_7, x1_7, x2_7⟩ := keep3 hb7 (w6.heap.size) (.int .i64 (t - n)) (.int .i64 o) (.bool false) (by simp [go_sem])
  have zy_7 : w6.heap.size + 1 < w7.heap.size := by omega
  obtain ⟨y0_7, y1_7, y2_7⟩ := keep3 hb7 (w6.heap.size + 1) (.int .i64 (t' + n)) (.int .i64 o') (.bool false) (by simp [go_sem])
  clear p0_6 p1_6 p2_6 zp_6 q0_6 q1_6 q2_6 zq_6 hB6 hs7 hb7
  go_wp2
  go_ret
  exact ⟨rfl, by go_grown⟩

set_option maxRecDepth 100000 in
set_option maxHeartbeats 4000000 in
theorem back_full_ok_no (t o : Int) (t' o' : Int) (g' : Bool) (n m : Int) (w : World) (hp : okB t o = true) (hq : okB t' o' = true) (n0 : 1 ≤ n) (n1 : n ≤ 1000000000000000) (m0 : 1 ≤ m) (m1 : m ≤ 1000000000000000 - n) (ht : 1000000000000000 < t + n) (he : o + n ≤ 1000000000000000) (hx : psE t o false t' o' g' n ≠ 0) (hy : (psE t o false t' o' g' n == 0) = false)  :
    Calls Try.prog 6 #[pv t o false, pv t' o' g', .int .i64 n, .int .i64 m] w fun e w' => e = .returned (.bool true) ∧ Below w.heap.size w w' := by
  go_enter Try.func6, Try.ntmps6
  go_wp2_with (fail)
  refine (small_any _).mono ?_
  rintro e w1 ⟨rfl, hb1⟩
  have hs1 := hb1.size
  try simp only [World.size_setCell] at hs1
  try simp only [World.size_alloc] at hs1
  have hB1 : Below w.heap.size w w1 := over hb1 (by go_grown)
  have zp_1 : w.heap.size < w1.heap.size := by omega
  obtain ⟨p0_1, p1_1, p2_1⟩ := keep3 hb1 (w.heap.size) (.int .i64 t) (.int .i64 o) (.bool false) (by simp [go_sem])
  have zq_1 : w.heap.size + 1 < w1.heap.size := by omega
  obtain ⟨q0_1, q1_1, q2_1⟩ := keep3 hb1 (w.heap.size + 1) (.int .i64 t') (.int .i64 o') (.bool g') (by simp [go_sem])
  clear hs1 hb1
  go_wp2_with (fail)
  refine (r_yes hp _ _).mono ?_
  rintro e w2 ⟨rfl, hb2⟩
  have hs2 := hb2.size
  try simp only [World.size_setCell] at hs2
  try simp only [World.size_alloc] at hs2
  have hB2 : Below w.heap.size w w2 := over hb2 (by go_grown)
  have zp_2 : w.heap.size < w2.heap.size := by omega
  obtain ⟨p0_2, p1_2, p2_2⟩ := keep3 hb2 (w.heap.size) (.int .i64 t) (.int .i64 o) (.bool false) (by first | exact ⟨p0_1, p1_1, p2_1⟩ | exact ⟨al p0_1, al p1_1, al p2_1⟩ | exact ⟨al (al p0_1), al (al p1_1), al (al p2_1)⟩)
  have zq_2 : w.heap.size + 1 < w2.heap.size := by omega
  obtain ⟨q0_2, q1_2, q2_2⟩ := keep3 hb2 (w.heap.size + 1) (.int .i64 t') (.int .i64 o') (.bool g') (by first | exact ⟨q0_1, q1_1, q2_1⟩ | exact ⟨al q0_1, al q1_1, al q2_1⟩ | exact ⟨al (al q0_1), al (al q1_1), al (al q2_1)⟩)
  clear p0_1 p1_1 p2_1 zp_1 q0_1 q1_1 q2_1 zq_1 hB1 hs2 hb2
  go_wp2_with (fail)
  refine (r_yes hq _ _).mono ?_
  rintro e w3 ⟨rfl, hb3⟩
  have hs3 := hb3.size
  try simp only [World.size_setCell] at hs3
  try simp only [World.size_alloc] at hs3
  have hB3 : Below w.heap.size w w3 := over hb3 (by go_grown)
  have zp_3 : w.heap.size < w3.heap.size := by omega
  obtain ⟨p0_3, p1_3, p2_3⟩ := keep3 hb3 (w.heap.size) (.int .i64 t) (.int .i64 o) (.bool false) (by first | exact ⟨p0_2, p1_2, p2_2⟩ | exact ⟨al p0_2, al p1_2, al p2_2⟩ | exact ⟨al (al p0_2), al (al p1_2), al (al p2_2)⟩)
  have zq_3 : w.heap.size + 1 < w3.heap.size := by omega
  obtain ⟨q0_3, q1_3, q2_3⟩ := keep3 hb3 (w.heap.size + 1) (.int .i64 t') (.int .i64 o') (.bool g') (by first | exact ⟨q0_2, q1_2, q2_2⟩ | exact ⟨al q0_2, al q1_2, al q2_2⟩ | exact ⟨al (al q0_2), al (al q1_2), al (al q2_2)⟩)
  clear p0_2 p1_2 p2_2 zp_2 q0_2 q1_2 q2_2 zq_2 hB2 hs3 hb3
  go_wp2_with (fail)
  refine (k_take_full hp n0 n1 ht _).mono ?_
  rintro e w4 ⟨rfl, hb4⟩
  have hs4 := hb4.size
  try simp only [World.size_setCell] at hs4
  try simp only [World.size_alloc] at hs4
  have hB4 : Below w.heap.size w w4 := over hb4 (by go_grown)
  have zp_4 : w.heap.size < w4.heap.size := by omega
  obtain ⟨p0_4, p1_4, p2_4⟩ := keep3 hb4 (w.heap.size) (.int .i64 t) (.int .i64 o) (.bool false) (by first | exact ⟨p0_3, p1_3, p2_3⟩ | exact ⟨al p0_3, al p1_3, al p2_3⟩ | exact ⟨al (al p0_3), al (al p1_3), al (al p2_3)⟩)
  have zq_4 : w.heap.size + 1 < w4.heap.size := by omega
  obtain ⟨q0_4, q1_4, q2_4⟩ := keep3 hb4 (w.heap.size + 1) (.int .i64 t') (.int .i64 o') (.bool g') (by first | exact ⟨q0_3, q1_3, q2_3⟩ | exact ⟨al q0_3, al q1_3, al q2_3⟩ | exact ⟨al (al q0_3), al (al q1_3), al (al q2_3)⟩)
  clear p0_3 p1_3 p2_3 zp_3 q0_3 q1_3 q2_3 zq_3 hB3 hs4 hb4
  have la : w.heap.size ≤ w4.heap.size := by omega
  have nap : ¬ w4.heap.size = w.heap.size := by omega
  have map : ¬ w.heap.size = w4.heap.size := by omega
  have naq : ¬ w4.heap.size = w.heap.size + 1 := by omega
  have maq : ¬ w.heap.size + 1 = w4.heap.size := by omega
  go_wp2_with (fail)
  refine (k_earn_ok hp n0 n1 he _).mono ?_
  rintro e w5 ⟨rfl, hb5⟩
  have hs5 := hb5.size
  try simp only [World.size_setCell] at hs5
  try simp only [World.size_alloc] at hs5
  have hB5 : Below w.heap.size w w5 := over hb5 (by go_grown)
  have zp_5 : w.heap.size < w5.heap.size := by omega
  obtain ⟨p0_5, p1_5, p2_5⟩ := keep3 hb5 (w.heap.size) (.int .i64 t) (.int .i64 o) (.bool false) (by first | exact ⟨p0_4, p1_4, p2_4⟩ | exact ⟨al p0_4, al p1_4, al p2_4⟩ | exact ⟨al (al p0_4), al (al p1_4), al (al p2_4)⟩)
  have zq_5 : w.heap.size + 1 < w5.heap.size := by omega
  obtain ⟨q0_5, q1_5, q2_5⟩ := keep3 hb5 (w.heap.size + 1) (.int .i64 t') (.int .i64 o') (.bool g') (by first | exact ⟨q0_4, q1_4, q2_4⟩ | exact ⟨al q0_4, al q1_4, al q2_4⟩ | exact ⟨al (al q0_4), al (al q1_4), al (al q2_4)⟩)
  have za_5 : w4.heap.size < w5.heap.size := by omega
  obtain ⟨a0_5, a1_5, a2_5⟩ := keep3 hb5 (w4.heap.size) (.int .i64 t) (.int .i64 o) (.bool false) (by simp [go_sem])
  have fa_5 := keepf hb5 (w4.heap.size) (by first | (simp; done) | (simp; omega)) (fun j => by simp [go_sem])
  clear p0_4 p1_4 p2_4 zp_4 q0_4 q1_4 q2_4 zq_4 hB4 hs5 hb5
  go_wp2_with (fail)
  refine (k_spend_back hp n0 n1 he _).mono ?_
  rintro e w6 ⟨rfl, hb6⟩
  have hs6 := hb6.size
  try simp only [World.size_setCell] at hs6
  try simp only [World.size_alloc] at hs6
  have hB6 : Below w.heap.size w w6 := over hb6 (by go_grown)
  have zp_6 : w.heap.size < w6.heap.size := by omega
  obtain ⟨p0_6, p1_6, p2_6⟩ := keep3 hb6 (w.heap.size) (.int .i64 t) (.int .i64 o) (.bool false) (by simp [go_sem, p0_5, p1_5, p2_5])
  have zq_6 : w.heap.size + 1 < w6.heap.size := by omega
  obtain ⟨q0_6, q1_6, q2_6⟩ := keep3 hb6 (w.heap.size + 1) (.int .i64 t') (.int .i64 o') (.bool g') (by simp [go_sem, q0_5, q1_5, q2_5])
  have za_6 : w4.heap.size < w6.heap.size := by omega
  obtain ⟨a0_6, a1_6, a2_6⟩ := keep3 hb6 (w4.heap.size) (.int .i64 t) (.int .i64 (o + n)) (.bool false) (by simp [go_sem, a0_5, a1_5, a2_5])
  have fa_6 := keepf hb6 (w4.heap.size) (by first | (simp; done) | (simp; omega)) (fun j => by simp [go_sem, fa_5])
  clear p0_5 p1_5 p2_5 zp_5 q0_5 q1_5 q2_5 zq_5 a0_5 a1_5 a2_5 za_5 fa_5 hB5 hs6 hb6
  have nsa : ¬ w6.heap.size = w4.heap.size := by omega
  have msa : ¬ w4.heap.size = w6.heap.size := by omega
  go_wp2_with (fail)
  refine (k_pass_no hx _).mono ?_
  rintro e w7 ⟨rfl, hb7⟩
  have hs7 := hb7.size
  try simp only [World.size_setCell] at hs7
  try simp only [World.size_alloc] at hs7
  have hB7 : Below w.heap.size w w7 := over hb7 (by go_grown)
  have zp_7 : w.heap.size < w7.heap.size := by omega
  obtain ⟨p0_7, p1_7, p2_7⟩ := keep3 hb7 (w.heap.size) (.int .i64 t) (.int .i64 o) (.bool false) (by first | exact ⟨p0_6, p1_6, p2_6⟩ | exact ⟨al p0_6, al p1_6, al p2_6⟩ | exact ⟨al (al p0_6), al (al p1_6), al (al p2_6)⟩)
  have zq_7 : w.heap.size + 1 < w7.heap.size := by omega
  obtain ⟨q0_7, q1_7, q2_7⟩ := keep3 hb7 (w.heap.size + 1) (.int .i64 t') (.int .i64 o') (.bool g') (by first | exact ⟨q0_6, q1_6, q2_6⟩ | exact ⟨al q0_6, al q1_6, al q2_6⟩ | exact ⟨al (al q0_6), al (al q1_6), al (al q2_6)⟩)
  have za_7 : w4.heap.size < w7.heap.size := by omega
  obtain ⟨a0_7, a1_7, a2_7⟩ := keep3 hb7 (w4.heap.size) (.int .i64 t) (.int .i64 (o + n)) (.bool false) (by first | exact ⟨a0_6, a1_6, a2_6⟩ | exact ⟨al a0_6, al a1_6, al a2_6⟩ | exact ⟨al (al a0_6), al (al a1_6), al (al a2_6)⟩)
  have fa_7 := keepf hb7 (w4.heap.size) (by first | (simp; done) | (simp; omega)) (by first | exact fa_6 | exact alf fa_6 | exact alf (alf fa_6))
  have zs_7 : w6.heap.size < w7.heap.size := by omega
  obtain ⟨s0_7, s1_7, s2_7⟩ := keep3 hb7 (w6.heap.size) (.int .i64 t) (.int .i64 o) (.bool false) (by simp [go_sem])
  clear p0_6 p1_6 p2_6 zp_6 q0_6 q1_6 q2_6 zq_6 a0_6 a1_6 a2_6 za_6 fa_6 hB6 hs7 hb7
  go_wp2
  go_ret
  exact ⟨rfl, by go_grown⟩

set_option maxRecDepth 100000 in
set_option maxHeartbeats 4000000 in
theorem back_full_ok_ok (t o : Int) (t' o' : Int) (n m : Int) (w : World) (hp : okB t o = true) (hq : okB t' o' = true) (n0 : 1 ≤ n) (n1 : n ≤ 1000000000000000) (m0 : 1 ≤ m) (m1 : m ≤ 1000000000000000 - n) (ht : 1000000000000000 < t + n) (he : o + n ≤ 1000000000000000) (ha : 0 ≤ t - n) (hb : t' + n ≤ 1000000000000000) (b0 : 0 ≤ t) (b1 : t ≤ 1000000000000000) (b2 : 0 ≤ t') (b3 : t' ≤ 1000000000000000)  :
    Calls Try.prog 6 #[pv t o false, pv t' o' false, .int .i64 n, .int .i64 m] w fun e w' => e = .returned (.bool true) ∧ Below w.heap.size w w' := by
  go_enter Try.func6, Try.ntmps6
  go_wp2_with (fail)
  refine (small_any _).mono ?_
  rintro e w1 ⟨rfl, hb1⟩
  have hs1 := hb1.size
  try simp only [World.size_setCell] at hs1
  try simp only [World.size_alloc] at hs1
  have hB1 : Below w.heap.size w w1 := over hb1 (by go_grown)
  have zp_1 : w.heap.size < w1.heap.size := by omega
  obtain ⟨p0_1, p1_1, p2_1⟩ := keep3 hb1 (w.heap.size) (.int .i64 t) (.int .i64 o) (.bool false) (by simp [go_sem])
  have zq_1 : w.heap.size + 1 < w1.heap.size := by omega
  obtain ⟨q0_1, q1_1, q2_1⟩ := keep3 hb1 (w.heap.size + 1) (.int .i64 t') (.int .i64 o') (.bool false) (by simp [go_sem])
  clear hs1 hb1
  go_wp2_with (fail)
  refine (r_yes hp _ _).mono ?_
  rintro e w2 ⟨rfl, hb2⟩
  have hs2 := hb2.size
  try simp only [World.size_setCell] at hs2
  try simp only [World.size_alloc] at hs2
  have hB2 : Below w.heap.size w w2 := over hb2 (by go_grown)
  have zp_2 : w.heap.size < w2.heap.size := by omega
  obtain ⟨p0_2, p1_2, p2_2⟩ := keep3 hb2 (w.heap.size) (.int .i64 t) (.int .i64 o) (.bool false) (by first | exact ⟨p0_1, p1_1, p2_1⟩ | exact ⟨al p0_1, al p1_1, al p2_1⟩ | exact ⟨al (al p0_1), al (al p1_1), al (al p2_1)⟩)
  have zq_2 : w.heap.size + 1 < w2.heap.size := by omega
  obtain ⟨q0_2, q1_2, q2_2⟩ := keep3 hb2 (w.heap.size + 1) (.int .i64 t') (.int .i64 o') (.bool false) (by first | exact ⟨q0_1, q1_1, q2_1⟩ | exact ⟨al q0_1, al q1_1, al q2_1⟩ | exact ⟨al (al q0_1), al (al q1_1), al (al q2_1)⟩)
  clear p0_1 p1_1 p2_1 zp_1 q0_1 q1_1 q2_1 zq_1 hB1 hs2 hb2
  go_wp2_with (fail)
  refine (r_yes hq _ _).mono ?_
  rintro e w3 ⟨rfl, hb3⟩
  have hs3 := hb3.size
  try simp only [World.size_setCell] at hs3
  try simp only [World.size_alloc] at hs3
  have hB3 : Below w.heap.size w w3 := over hb3 (by go_grown)
  have zp_3 : w.heap.size < w3.heap.size := by omega
  obtain ⟨p0_3, p1_3, p2_3⟩ := keep3 hb3 (w.heap.size) (.int .i64 t) (.int .i64 o) (.bool false) (by first | exact ⟨p0_2, p1_2, p2_2⟩ | exact ⟨al p0_2, al p1_2, al p2_2⟩ | exact ⟨al (al p0_2), al (al p1_2), al (al p2_2)⟩)
  have zq_3 : w.heap.size + 1 < w3.heap.size := by omega
  obtain ⟨q0_3, q1_3, q2_3⟩ := keep3 hb3 (w.heap.size + 1) (.int .i64 t') (.int .i64 o') (.bool false) (by first | exact ⟨q0_2, q1_2, q2_2⟩ | exact ⟨al q0_2, al q1_2, al q2_2⟩ | exact ⟨al (al q0_2), al (al q1_2), al (al q2_2)⟩)
  clear p0_2 p1_2 p2_2 zp_2 q0_2 q1_2 q2_2 zq_2 hB2 hs3 hb3
  go_wp2_with (fail)
  refine (k_take_full hp n0 n1 ht _).mono ?_
  rintro e w4 ⟨rfl, hb4⟩
  have hs4 := hb4.size
  try simp only [World.size_setCell] at hs4
  try simp only [World.size_alloc] at hs4
  have hB4 : Below w.heap.size w w4 := over hb4 (by go_grown)
  have zp_4 : w.heap.size < w4.heap.size := by omega
  obtain ⟨p0_4, p1_4, p2_4⟩ := keep3 hb4 (w.heap.size) (.int .i64 t) (.int .i64 o) (.bool false) (by first | exact ⟨p0_3, p1_3, p2_3⟩ | exact ⟨al p0_3, al p1_3, al p2_3⟩ | exact ⟨al (al p0_3), al (al p1_3), al (al p2_3)⟩)
  have zq_4 : w.heap.size + 1 < w4.heap.size := by omega
  obtain ⟨q0_4, q1_4, q2_4⟩ := keep3 hb4 (w.heap.size + 1) (.int .i64 t') (.int .i64 o') (.bool false) (by first | exact ⟨q0_3, q1_3, q2_3⟩ | exact ⟨al q0_3, al q1_3, al q2_3⟩ | exact ⟨al (al q0_3), al (al q1_3), al (al q2_3)⟩)
  clear p0_3 p1_3 p2_3 zp_3 q0_3 q1_3 q2_3 zq_3 hB3 hs4 hb4
  have la : w.heap.size ≤ w4.heap.size := by omega
  have nap : ¬ w4.heap.size = w.heap.size := by omega
  have map : ¬ w.heap.size = w4.heap.size := by omega
  have naq : ¬ w4.heap.size = w.heap.size + 1 := by omega
  have maq : ¬ w.heap.size + 1 = w4.heap.size := by omega
  go_wp2_with (fail)
  refine (k_earn_ok hp n0 n1 he _).mono ?_
  rintro e w5 ⟨rfl, hb5⟩
  have hs5 := hb5.size
  try simp only [World.size_setCell] at hs5
  try simp only [World.size_alloc] at hs5
  have hB5 : Below w.heap.size w w5 := over hb5 (by go_grown)
  have zp_5 : w.heap.size < w5.heap.size := by omega
  obtain ⟨p0_5, p1_5, p2_5⟩ := keep3 hb5 (w.heap.size) (.int .i64 t) (.int .i64 o) (.bool false) (by first | exact ⟨p0_4, p1_4, p2_4⟩ | exact ⟨al p0_4, al p1_4, al p2_4⟩ | exact ⟨al (al p0_4), al (al p1_4), al (al p2_4)⟩)
  have zq_5 : w.heap.size + 1 < w5.heap.size := by omega
  obtain ⟨q0_5, q1_5, q2_5⟩ := keep3 hb5 (w.heap.size + 1) (.int .i64 t') (.int .i64 o') (.bool false) (by first | exact ⟨q0_4, q1_4, q2_4⟩ | exact ⟨al q0_4, al q1_4, al q2_4⟩ | exact ⟨al (al q0_4), al (al q1_4), al (al q2_4)⟩)
  have za_5 : w4.heap.size < w5.heap.size := by omega
  obtain ⟨a0_5, a1_5, a2_5⟩ := keep3 hb5 (w4.heap.size) (.int .i64 t) (.int .i64 o) (.bool false) (by simp [go_sem])
  have fa_5 := keepf hb5 (w4.heap.size) (by first | (simp; done) | (simp; omega)) (fun j => by simp [go_sem])
  clear p0_4 p1_4 p2_4 zp_4 q0_4 q1_4 q2_4 zq_4 hB4 hs5 hb5
  go_wp2_with (fail)
  refine (k_spend_back hp n0 n1 he _).mono ?_
  rintro e w6 ⟨rfl, hb6⟩
  have hs6 := hb6.size
  try simp only [World.size_setCell] at hs6
  try simp only [World.size_alloc] at hs6
  have hB6 : Below w.heap.size w w6 := over hb6 (by go_grown)
  have zp_6 : w.heap.size < w6.heap.size := by omega
  obtain ⟨p0_6, p1_6, p2_6⟩ := keep3 hb6 (w.heap.size) (.int .i64 t) (.int .i64 o) (.bool false) (by simp [go_sem, p0_5, p1_5, p2_5])
  have zq_6 : w.heap.size + 1 < w6.heap.size := by omega
  obtain ⟨q0_6, q1_6, q2_6⟩ := keep3 hb6 (w.heap.size + 1) (.int .i64 t') (.int .i64 o') (.bool false) (by simp [go_sem, q0_5, q1_5, q2_5])
  have za_6 : w4.heap.size < w6.heap.size := by omega
  obtain ⟨a0_6, a1_6, a2_6⟩ := keep3 hb6 (w4.heap.size) (.int .i64 t) (.int .i64 (o + n)) (.bool false) (by simp [go_sem, a0_5, a1_5, a2_5])
  have fa_6 := keepf hb6 (w4.heap.size) (by first | (simp; done) | (simp; omega)) (fun j => by simp [go_sem, fa_5])
  clear p0_5 p1_5 p2_5 zp_5 q0_5 q1_5 q2_5 zq_5 a0_5 a1_5 a2_5 za_5 fa_5 hB5 hs6 hb6
  have nsa : ¬ w6.heap.size = w4.heap.size := by omega
  have msa : ¬ w4.heap.size = w6.heap.size := by omega
  go_wp2_with (fail)
  refine (k_pass_ok hp hq n0 n1 ha hb _).mono ?_
  rintro e w7 ⟨rfl, hb7⟩
  have hs7 := hb7.size
  try simp only [World.size_setCell] at hs7
  try simp only [World.size_alloc] at hs7
  have hB7 : Below w.heap.size w w7 := over hb7 (by go_grown)
  have zp_7 : w.heap.size < w7.heap.size := by omega
  obtain ⟨p0_7, p1_7, p2_7⟩ := keep3 hb7 (w.heap.size) (.int .i64 t) (.int .i64 o) (.bool false) (by first | exact ⟨p0_6, p1_6, p2_6⟩ | exact ⟨al p0_6, al p1_6, al p2_6⟩ | exact ⟨al (al p0_6), al (al p1_6), al (al p2_6)⟩)
  have zq_7 : w.heap.size + 1 < w7.heap.size := by omega
  obtain ⟨q0_7, q1_7, q2_7⟩ := keep3 hb7 (w.heap.size + 1) (.int .i64 t') (.int .i64 o') (.bool false) (by first | exact ⟨q0_6, q1_6, q2_6⟩ | exact ⟨al q0_6, al q1_6, al q2_6⟩ | exact ⟨al (al q0_6), al (al q1_6), al (al q2_6)⟩)
  have za_7 : w4.heap.size < w7.heap.size := by omega
  obtain ⟨a0_7, a1_7, a2_7⟩ := keep3 hb7 (w4.heap.size) (.int .i64 t) (.int .i64 (o + n)) (.bool false) (by first | exact ⟨a0_6, a1_6, a2_6⟩ | exact ⟨al a0_6, al a1_6, al a2_6⟩ | exact ⟨al (al a0_6), al (al a1_6), al (al a2_6)⟩)
  have fa_7 := keepf hb7 (w4.heap.size) (by first | (simp; done) | (simp; omega)) (by first | exact fa_6 | exact alf fa_6 | exact alf (alf fa_6))
  have zs_7 : w6.heap.size < w7.heap.size := by omega
  obtain ⟨s0_7, s1_7, s2_7⟩ := keep3 hb7 (w6.heap.size) (.int .i64 t) (.int .i64 o) (.bool false) (by simp [go_sem])
  clear p0_6 p1_6 p2_6 zp_6 q0_6 q1_6 q2_6 zq_6 a0_6 a1_6 a2_6 za_6 fa_6 hB6 hs7 hb7
  clear s0_7 s1_7 s2_7 zs_7
  clear a0_7 a1_7 a2_7 fa_7 za_7
  go_wp2_with (fail)
  refine (k_pass_back hp hq n0 n1 ha hb _).mono ?_
  rintro e w8 ⟨rfl, hb8⟩
  have hs8 := hb8.size
  try simp only [World.size_setCell] at hs8
  try simp only [World.size_alloc] at hs8
  have hB8 : Below w.heap.size w w8 := over hb8 (by go_grown)
  have zp_8 : w.heap.size < w8.heap.size := by omega
  obtain ⟨p0_8, p1_8, p2_8⟩ := keep3 hb8 (w.heap.size) (.int .i64 t) (.int .i64 o) (.bool false) (by first | exact ⟨p0_7, p1_7, p2_7⟩ | exact ⟨al p0_7, al p1_7, al p2_7⟩ | exact ⟨al (al p0_7), al (al p1_7), al (al p2_7)⟩)
  have zq_8 : w.heap.size + 1 < w8.heap.size := by omega
  obtain ⟨q0_8, q1_8, q2_8⟩ := keep3 hb8 (w.heap.size + 1) (.int .i64 t') (.int .i64 o') (.bool false) (by first | exact ⟨q0_7, q1_7, q2_7⟩ | exact ⟨al q0_7, al q1_7, al q2_7⟩ | exact ⟨al (al q0_7), al (al q1_7), al (al q2_7)⟩)
  have zx_8 : w7.heap.size < w8.heap.size := by omega
  obtain ⟨x0_8, x1_8, x2_8⟩ := keep3 hb8 (w7.heap.size) (.int .i64 (t - n)) (.int .i64 o) (.bool false) (by simp [go_sem])
  have zy_8 : w7.heap.size + 1 < w8.heap.size := by omega
  obtain ⟨y0_8, y1_8, y2_8⟩ := keep3 hb8 (w7.heap.size + 1) (.int .i64 (t' + n)) (.int .i64 o') (.bool false) (by simp [go_sem])
  clear p0_7 p1_7 p2_7 zp_7 q0_7 q1_7 q2_7 zq_7 hB7 hs8 hb8
  go_wp2
  go_ret
  exact ⟨rfl, by go_grown⟩

end Go.Proofs.Ytblegaclcpoonab.Agent
