/- AgentBack: the ways on which money is taken: okfull. -/
import Derived.Test.YtblegaclcpoonabBackC
namespace Go.Proofs.Ytblegaclcpoonab.Agent
open Go.ChangeShapes Go.WideShapes Go.ChangeAt Go.RowKit
set_option linter.unusedVariables false

set_option maxRecDepth 100000 in
set_option maxHeartbeats 4000000 in
theorem back_okfull_full_no (t o : Int) (t' o' : Int) (g' : Bool) (n m : Int) (w : World) (hp : okB t o = true) (hq : okB t' o' = true) (n0 : 1 ≤ n) (n1 : n ≤ 1000000000000000) (m0 : 1 ≤ m) (m1 : m ≤ 1000000000000000 - n) (ht : t + n ≤ 1000000000000000) (hm : 1000000000000000 < t + n + m) (he : 1000000000000000 < o + n) (hx : psE t o false t' o' g' n ≠ 0) (hy : (psE t o false t' o' g' n == 0) = false)  :
    Calls Try.prog 6 #[pv t o false, pv t' o' g', .int .i64 n, .int .i64 m] w fun e w' => e = .returned (.bool true) ∧ Below w.heap.size w w' := by
  go_enter Try.func6, Try.ntmps6
  go_wp2_with (fail)
  refine (small_any _).mono ?_
  rintro e w1 ⟨rfl, hb1⟩
  have hs1 := hb1.size
  try simp only [World.size_setCell] at hs1
  try simp only [World.size_alloc] at hs1
  have hB1 : Below w.heap.size w w1 := over hb1 (by go_grown)
  have zp_1 : w.heap.size < w1.heap.size := by omega
  obtain ⟨p0_1, p1_1, p2_1⟩ := keep3 hb1 (w.heap.size) (.int .i64 t) (.int .i64 o) (.bool false) (by simp [go_sem])
  have zq_1 : w.heap.size + 1 < w1.heap.size := by omega
  obtain ⟨q0_1, q1_1, q2_1⟩ := keep3 hb1 (w.heap.size + 1) (.int .i64 t') (.int .i64 o') (.bool g') (by simp [go_sem])
  clear hs1 hb1
  go_wp2_with (fail)
  refine (r_yes hp _ _).mono ?_
  rintro e w2 ⟨rfl, hb2⟩
  have hs2 := hb2.size
  try simp only [World.size_setCell] at hs2
  try simp only [World.size_alloc] at hs2
  have hB2 : Below w.heap.size w w2 := over hb2 (by go_grown)
  have zp_2 : w.heap.size < w2.heap.size := by omega
  obtain ⟨p0_2, p1_2, p2_2⟩ := keep3 hb2 (w.heap.size) (.int .i64 t) (.int .i64 o) (.bool false) (by first | exact ⟨p0_1, p1_1, p2_1⟩ | exact ⟨al p0_1, al p1_1, al p2_1⟩ | exact ⟨al (al p0_1), al (al p1_1), al (al p2_1)⟩)
  have zq_2 : w.heap.size + 1 < w2.heap.size := by omega
  obtain ⟨q0_2, q1_2, q2_2⟩ := keep3 hb2 (w.heap.size + 1) (.int .i64 t') (.int .i64 o') (.bool g') (by first | exact ⟨q0_1, q1_1, q2_1⟩ | exact ⟨al q0_1, al q1_1, al q2_1⟩ | exact ⟨al (al q0_1), al (al q1_1), al (al q2_1)⟩)
  clear p0_1 p1_1 p2_1 zp_1 q0_1 q1_1 q2_1 zq_1 hB1 hs2 hb2
  go_wp2_with (fail)
  refine (r_yes hq _ _).mono ?_
  rintro e w3 ⟨rfl, hb3⟩
  have hs3 := hb3.size
  try simp only [World.size_setCell] at hs3
  try simp only [World.size_alloc] at hs3
  have hB3 : Below w.heap.size w w3 := over hb3 (by go_grown)
  have zp_3 : w.heap.size < w3.heap.size := by omega
  obtain ⟨p0_3, p1_3, p2_3⟩ := keep3 hb3 (w.heap.size) (.int .i64 t) (.int .i64 o) (.bool false) (by first | exact ⟨p0_2, p1_2, p2_2⟩ | exact ⟨al p0_2, al p1_2, al p2_2⟩ | exact ⟨al (al p0_2), al (al p1_2), al (al p2_2)⟩)
  have zq_3 : w.heap.size + 1 < w3.heap.size := by omega
  obtain ⟨q0_3, q1_3, q2_3⟩ := keep3 hb3 (w.heap.size + 1) (.int .i64 t') (.int .i64 o') (.bool g') (by first | exact ⟨q0_2, q1_2, q2_2⟩ | exact ⟨al q0_2, al q1_2, al q2_2⟩ | exact ⟨al (al q0_2), al (al q1_2), al (al q2_2)⟩)
  clear p0_2 p1_2 p2_2 zp_2 q0_2 q1_2 q2_2 zq_2 hB2 hs3 hb3
  go_wp2_with (fail)
  refine (k_take_ok hp n0 n1 ht _).mono ?_
  rintro e w4 ⟨rfl, hb4⟩
  have hs4 := hb4.size
  try simp only [World.size_setCell] at hs4
  try simp only [World.size_alloc] at hs4
  have hB4 : Below w.heap.size w w4 := over hb4 (by go_grown)
  have zp_4 : w.heap.size < w4.heap.size := by omega
  obtain ⟨p0_4, p1_4, p2_4⟩ := keep3 hb4 (w.heap.size) (.int .i64 t) (.int .i64 o) (.bool false) (by first | exact ⟨p0_3, p1_3, p2_3⟩ | exact ⟨al p0_3, al p1_3, al p2_3⟩ | exact ⟨al (al p0_3), al (al p1_3), al (al p2_3)⟩)
  have zq_4 : w.heap.size + 1 < w4.heap.size := by omega
  obtain ⟨q0_4, q1_4, q2_4⟩ := keep3 hb4 (w.heap.size + 1) (.int .i64 t') (.int .i64 o') (.bool g') (by first | exact ⟨q0_3, q1_3, q2_3⟩ | exact ⟨al q0_3, al q1_3, al q2_3⟩ | exact ⟨al (al q0_3), al (al q1_3), al (al q2_3)⟩)
  clear p0_3 p1_3 p2_3 zp_3 q0_3 q1_3 q2_3 zq_3 hB3 hs4 hb4
  have la : w.heap.size ≤ w4.heap.size := by omega
  have nap : ¬ w4.heap.size = w.heap.size := by omega
  have map : ¬ w.heap.size = w4.heap.size := by omega
  have naq : ¬ w4.heap.size = w.heap.size + 1 := by omega
  have maq : ¬ w.heap.size + 1 = w4.heap.size := by omega
  go_wp2_with (fail)
  refine (k_pay_back hp n0 n1 ht _).mono ?_
  rintro e w5 ⟨rfl, hb5⟩
  have hs5 := hb5.size
  try simp only [World.size_setCell] at hs5
  try simp only [World.size_alloc] at hs5
  have hB5 : Below w.heap.size w w5 := over hb5 (by go_grown)
  have zp_5 : w.heap.size < w5.heap.size := by omega
  obtain ⟨p0_5, p1_5, p2_5⟩ := keep3 hb5 (w.heap.size) (.int .i64 t) (.int .i64 o) (.bool false) (by first | exact ⟨p0_4, p1_4, p2_4⟩ | exact ⟨al p0_4, al p1_4, al p2_4⟩ | exact ⟨al (al p0_4), al (al p1_4), al (al p2_4)⟩)
  have zq_5 : w.heap.size + 1 < w5.heap.size := by omega
  obtain ⟨q0_5, q1_5, q2_5⟩ := keep3 hb5 (w.heap.size + 1) (.int .i64 t') (.int .i64 o') (.bool g') (by first | exact ⟨q0_4, q1_4, q2_4⟩ | exact ⟨al q0_4, al q1_4, al q2_4⟩ | exact ⟨al (al q0_4), al (al q1_4), al (al q2_4)⟩)
  have za_5 : w4.heap.size < w5.heap.size := by omega
  obtain ⟨a0_5, a1_5, a2_5⟩ := keep3 hb5 (w4.heap.size) (.int .i64 (t + n)) (.int .i64 o) (.bool false) (by simp [go_sem])
  have fa_5 := keepf hb5 (w4.heap.size) (by first | (simp; done) | (simp; omega)) (fun j => by simp [go_sem])
  clear p0_4 p1_4 p2_4 zp_4 q0_4 q1_4 q2_4 zq_4 hB4 hs5 hb5
  have nba : ¬ w5.heap.size = w4.heap.size := by omega
  have mba : ¬ w4.heap.size = w5.heap.size := by omega
  go_wp2_with (fail)
  refine (k_take_m_full hp n0 n1 m0 (by omega) ht hm _).mono ?_
  rintro e w6 ⟨rfl, hb6⟩
  have hs6 := hb6.size
  try simp only [World.size_setCell] at hs6
  try simp only [World.size_alloc] at hs6
  have hB6 : Below w.heap.size w w6 := over hb6 (by go_grown)
  have zp_6 : w.heap.size < w6.heap.size := by omega
  obtain ⟨p0_6, p1_6, p2_6⟩ := keep3 hb6 (w.heap.size) (.int .i64 t) (.int .i64 o) (.bool false) (by first | exact ⟨p0_5, p1_5, p2_5⟩ | exact ⟨al p0_5, al p1_5, al p2_5⟩ | exact ⟨al (al p0_5), al (al p1_5), al (al p2_5)⟩)
  have zq_6 : w.heap.size + 1 < w6.heap.size := by omega
  obtain ⟨q0_6, q1_6, q2_6⟩ := keep3 hb6 (w.heap.size + 1) (.int .i64 t') (.int .i64 o') (.bool g') (by first | exact ⟨q0_5, q1_5, q2_5⟩ | exact ⟨al q0_5, al q1_5, al q2_5⟩ | exact ⟨al (al q0_5), al (al q1_5), al (al q2_5)⟩)
  have za_6 : w4.heap.size < w6.heap.size := by omega
  obtain ⟨a0_6, a1_6, a2_6⟩ := keep3 hb6 (w4.heap.size) (.int .i64 (t + n)) (.int .i64 o) (.bool false) (by first | exact ⟨a0_5, a1_5, a2_5⟩ | exact ⟨al a0_5, al a1_5, al a2_5⟩ | exact ⟨al (al a0_5), al (al a1_5), al (al a2_5)⟩)
  have fa_6 := keepf hb6 (w4.heap.size) (by first | (simp; done) | (simp; omega)) (by first | exact fa_5 | exact alf fa_5 | exact alf (alf fa_5))
  have zb_6 : w5.heap.size < w6.heap.size := by omega
  obtain ⟨b0_6, b1_6, b2_6⟩ := keep3 hb6 (w5.heap.size) (.int .i64 t) (.int .i64 o) (.bool false) (by simp [go_sem])
  clear p0_5 p1_5 p2_5 zp_5 q0_5 q1_5 q2_5 zq_5 a0_5 a1_5 a2_5 za_5 fa_5 hB5 hs6 hb6
  go_wp2_with (fail)
  refine (k_take_nm_full hp n0 n1 m0 (by omega) hm _).mono ?_
  rintro e w7 ⟨rfl, hb7⟩
  have hs7 := hb7.size
  try simp only [World.size_setCell] at hs7
  try simp only [World.size_alloc] at hs7
  have hB7 : Below w.heap.size w w7 := over hb7 (by go_grown)
  have zp_7 : w.heap.size < w7.heap.size := by omega
  obtain ⟨p0_7, p1_7, p2_7⟩ := keep3 hb7 (w.heap.size) (.int .i64 t) (.int .i64 o) (.bool false) (by first | exact ⟨p0_6, p1_6, p2_6⟩ | exact ⟨al p0_6, al p1_6, al p2_6⟩ | exact ⟨al (al p0_6), al (al p1_6), al (al p2_6)⟩)
  have zq_7 : w.heap.size + 1 < w7.heap.size := by omega
  obtain ⟨q0_7, q1_7, q2_7⟩ := keep3 hb7 (w.heap.size + 1) (.int .i64 t') (.int .i64 o') (.bool g') (by first | exact ⟨q0_6, q1_6, q2_6⟩ | exact ⟨al q0_6, al q1_6, al q2_6⟩ | exact ⟨al (al q0_6), al (al q1_6), al (al q2_6)⟩)
  have za_7 : w4.heap.size < w7.heap.size := by omega
  obtain ⟨a0_7, a1_7, a2_7⟩ := keep3 hb7 (w4.heap.size) (.int .i64 (t + n)) (.int .i64 o) (.bool false) (by first | exact ⟨a0_6, a1_6, a2_6⟩ | exact ⟨al a0_6, al a1_6, al a2_6⟩ | exact ⟨al (al a0_6), al (al a1_6), al (al a2_6)⟩)
  have fa_7 := keepf hb7 (w4.heap.size) (by first | (simp; done) | (simp; omega)) (by first | exact fa_6 | exact alf fa_6 | exact alf (alf fa_6))
  have zb_7 : w5.heap.size < w7.heap.size := by omega
  obtain ⟨b0_7, b1_7, b2_7⟩ := keep3 hb7 (w5.heap.size) (.int .i64 t) (.int .i64 o) (.bool false) (by first | exact ⟨b0_6, b1_6, b2_6⟩ | exact ⟨al b0_6, al b1_6, al b2_6⟩ | exact ⟨al (al b0_6), al (al b1_6), al (al b2_6)⟩)
  clear p0_6 p1_6 p2_6 zp_6 q0_6 q1_6 q2_6 zq_6 a0_6 a1_6 a2_6 za_6 fa_6 b0_6 b1_6 b2_6 zb_6 hB6 hs7 hb7
  go_wp2_with (fail)
  refine (k_earn_full hp n0 n1 he _).mono ?_
  rintro e w8 ⟨rfl, hb8⟩
  have hs8 := hb8.size
  try simp only [World.size_setCell] at hs8
  try simp only [World.size_alloc] at hs8
  have hB8 : Below w.heap.size w w8 := over hb8 (by go_grown)
  have zp_8 : w.heap.size < w8.heap.size := by omega
  obtain ⟨p0_8, p1_8, p2_8⟩ := keep3 hb8 (w.heap.size) (.int .i64 t) (.int .i64 o) (.bool false) (by first | exact ⟨p0_7, p1_7, p2_7⟩ | exact ⟨al p0_7, al p1_7, al p2_7⟩ | exact ⟨al (al p0_7), al (al p1_7), al (al p2_7)⟩)
  have zq_8 : w.heap.size + 1 < w8.heap.size := by omega
  obtain ⟨q0_8, q1_8, q2_8⟩ := keep3 hb8 (w.heap.size + 1) (.int .i64 t') (.int .i64 o') (.bool g') (by first | exact ⟨q0_7, q1_7, q2_7⟩ | exact ⟨al q0_7, al q1_7, al q2_7⟩ | exact ⟨al (al q0_7), al (al q1_7), al (al q2_7)⟩)
  have za_8 : w4.heap.size < w8.heap.size := by omega
  obtain ⟨a0_8, a1_8, a2_8⟩ := keep3 hb8 (w4.heap.size) (.int .i64 (t + n)) (.int .i64 o) (.bool false) (by first | exact ⟨a0_7, a1_7, a2_7⟩ | exact ⟨al a0_7, al a1_7, al a2_7⟩ | exact ⟨al (al a0_7), al (al a1_7), al (al a2_7)⟩)
  have fa_8 := keepf hb8 (w4.heap.size) (by first | (simp; done) | (simp; omega)) (by first | exact fa_7 | exact alf fa_7 | exact alf (alf fa_7))
  have zb_8 : w5.heap.size < w8.heap.size := by omega
  obtain ⟨b0_8, b1_8, b2_8⟩ := keep3 hb8 (w5.heap.size) (.int .i64 t) (.int .i64 o) (.bool false) (by first | exact ⟨b0_7, b1_7, b2_7⟩ | exact ⟨al b0_7, al b1_7, al b2_7⟩ | exact ⟨al (al b0_7), al (al b1_7), al (al b2_7)⟩)
  clear p0_7 p1_7 p2_7 zp_7 q0_7 q1_7 q2_7 zq_7 a0_7 a1_7 a2_7 za_7 fa_7 b0_7 b1_7 b2_7 zb_7 hB7 hs8 hb8
  clear b0_8 b1_8 b2_8 zb_8
  go_wp2_with (fail)
  refine (k_pass_no hx _).mono ?_
  rintro e w9 ⟨rfl, hb9⟩
  have hs9 := hb9.size
  try simp only [World.size_setCell] at hs9
  try simp only [World.size_alloc] at hs9
  have hB9 : Below w.heap.size w w9 := over hb9 (by go_grown)
  have zp_9 : w.heap.size < w9.heap.size := by omega
  obtain ⟨p0_9, p1_9, p2_9⟩ := keep3 hb9 (w.heap.size) (.int .i64 t) (.int .i64 o) (.bool false) (by simp [go_sem, p0_8, p1_8, p2_8])
  have zq_9 : w.heap.size + 1 < w9.heap.size := by omega
  obtain ⟨q0_9, q1_9, q2_9⟩ := keep3 hb9 (w.heap.size + 1) (.int .i64 t') (.int .i64 o') (.bool g') (by simp [go_sem, q0_8, q1_8, q2_8])
  have za_9 : w4.heap.size < w9.heap.size := by omega
  obtain ⟨a0_9, a1_9, a2_9⟩ := keep3 hb9 (w4.heap.size) (.int .i64 t) (.int .i64 o) (.bool false) (by simp [go_sem, a0_8, a1_8, a2_8])
  have fa_9 := keepf hb9 (w4.heap.size) (by first | (simp; done) | (simp; omega)) (fun j => by simp [go_sem, fa_8])
  clear p0_8 p1_8 p2_8 zp_8 q0_8 q1_8 q2_8 zq_8 a0_8 a1_8 a2_8 za_8 fa_8 hB8 hs9 hb9
  go_wp2
  go_ret
  exact ⟨rfl, by go_grown⟩

set_option maxRecDepth 100000 in
set_option maxHeartbeats 4000000 in
theorem back_okfull_full_ok (t o : Int) (t' o' : Int) (n m : Int) (w : World) (hp : okB t o = true) (hq : okB t' o' = true) (n0 : 1 ≤ n) (n1 : n ≤ 1000000000000000) (m0 : 1 ≤ m) (m1 : m ≤ 1000000000000000 - n) (ht : t + n ≤ 1000000000000000) (hm : 1000000000000000 < t + n + m) (he : 1000000000000000 < o + n) (ha : 0 ≤ t - n) (hb : t' + n ≤ 1000000000000000) (b0 : 0 ≤ t) (b1 : t ≤ 1000000000000000) (b2 : 0 ≤ t') (b3 : t' ≤ 1000000000000000)  :
    Calls Try.prog 6 #[pv t o false, pv t' o' false, .int .i64 n, .int .i64 m] w fun e w' => e = .returned (.bool true) ∧ Below w.heap.size w w' := by
  go_enter Try.func6, Try.ntmps6
  go_wp2_with (fail)
  refine (small_any _).mono ?_
  rintro e w1 ⟨rfl, hb1⟩
  have hs1 := hb1.size
  try simp only [World.size_setCell] at hs1
  try simp only [World.size_alloc] at hs1
  have hB1 : Below w.heap.size w w1 := over hb1 (by go_grown)
  have zp_1 : w.heap.size < w1.heap.size := by omega
  obtain ⟨p0_1, p1_1, p2_1⟩ := keep3 hb1 (w.heap.size) (.int .i64 t) (.int .i64 o) (.bool false) (by simp [go_sem])
  have zq_1 : w.heap.size + 1 < w1.heap.size := by omega
  obtain ⟨q0_1, q1_1, q2_1⟩ := keep3 hb1 (w.heap.size + 1) (.int .i64 t') (.int .i64 o') (.bool false) (by simp [go_sem])
  clear hs1 hb1
  go_wp2_with (fail)
  refine (r_yes hp _ _).mono ?_
  rintro e w2 ⟨rfl, hb2⟩
  have hs2 := hb2.size
  try simp only [World.size_setCell] at hs2
  try simp only [World.size_alloc] at hs2
  have hB2 : Below w.heap.size w w2 := over hb2 (by go_grown)
  have zp_2 : w.heap.size < w2.heap.size := by omega
  obtain ⟨p0_2, p1_2, p2_2⟩ := keep3 hb2 (w.heap.size) (.int .i64 t) (.int .i64 o) (.bool false) (by first | exact ⟨p0_1, p1_1, p2_1⟩ | exact ⟨al p0_1, al p1_1, al p2_1⟩ | exact ⟨al (al p0_1), al (al p1_1), al (al p2_1)⟩)
  have zq_2 : w.heap.size + 1 < w2.heap.size := by omega
  obtain ⟨q0_2, q1_2, q2_2⟩ := keep3 hb2 (w.heap.size + 1) (.int .i64 t') (.int .i64 o') (.bool false) (by first | exact ⟨q0_1, q1_1, q2_1⟩ | exact ⟨al q0_1, al q1_1, al q2_1⟩ | exact ⟨al (al q0_1), al (al q1_1), al (al q2_1)⟩)
  clear p0_1 p1_1 p2_1 zp_1 q0_1 q1_1 q2_1 zq_1 hB1 hs2 hb2
  go_wp2_with (fail)
  refine (r_yes hq _ _).mono ?_
  rintro e w3 ⟨rfl, hb3⟩
  have hs3 := hb3.size
  try simp only [World.size_setCell] at hs3
  try simp only [World.size_alloc] at hs3
  have hB3 : Below w.heap.size w w3 := over hb3 (by go_grown)
  have zp_3 : w.heap.size < w3.heap.size := by omega
  obtain ⟨p0_3, p1_3, p2_3⟩ := keep3 hb3 (w.heap.size) (.int .i64 t) (.int .i64 o) (.bool false) (by first | exact ⟨p0_2, p1_2, p2_2⟩ | exact ⟨al p0_2, al p1_2, al p2_2⟩ | exact ⟨al (al p0_2), al (al p1_2), al (al p2_2)⟩)
  have zq_3 : w.heap.size + 1 < w3.heap.size := by omega
  obtain ⟨q0_3, q1_3, q2_3⟩ := keep3 hb3 (w.heap.size + 1) (.int .i64 t') (.int .i64 o') (.bool false) (by first | exact ⟨q0_2, q1_2, q2_2⟩ | exact ⟨al q0_2, al q1_2, al q2_2⟩ | exact ⟨al (al q0_2), al (al q1_2), al (al q2_2)⟩)
  clear p0_2 p1_2 p2_2 zp_2 q0_2 q1_2 q2_2 zq_2 hB2 hs3 hb3
  go_wp2_with (fail)
  refine (k_take_ok hp n0 n1 ht _).mono ?_
  rintro e w4 ⟨rfl, hb4⟩
  have hs4 := hb4.size
  try simp only [World.size_setCell] at hs4
  try simp only [World.size_alloc] at hs4
  have hB4 : Below w.heap.size w w4 := over hb4 (by go_grown)
  have zp_4 : w.heap.size < w4.heap.size := by omega
  obtain ⟨p0_4, p1_4, p2_4⟩ := keep3 hb4 (w.heap.size) (.int .i64 t) (.int .i64 o) (.bool false) (by first | exact ⟨p0_3, p1_3, p2_3⟩ | exact ⟨al p0_3, al p1_3, al p2_3⟩ | exact ⟨al (al p0_3), al (al p1_3), al (al p2_3)⟩)
  have zq_4 : w.heap.size + 1 < w4.heap.size := by omega
  obtain ⟨q0_4, q1_4, q2_4⟩ := keep3 hb4 (w.heap.size + 1) (.int .i64 t') (.int .i64 o') (.bool false) (by first | exact ⟨q0_3, q1_3, q2_3⟩ | exact ⟨al q0_3, al q1_3, al q2_3⟩ | exact ⟨al (al q0_3), al (al q1_3), al (al q2_3)⟩)
  clear p0_3 p1_3 p2_3 zp_3 q0_3 q1_3 q2_3 zq_3 hB3 hs4 hb4
  have la : w.heap.size ≤ w4.heap.size := by omega
  have nap : ¬ w4.heap.size = w.heap.size := by omega
  have map : ¬ w.heap.size = w4.heap.size := by omega
  have naq : ¬ w4.heap.size = w.heap.size + 1 := by omega
  have maq : ¬ w.heap.size + 1 = w4.heap.size := by omega
  go_wp2_with (fail)
  refine (k_pay_back hp n0 n1 ht _).mono ?_
  rintro e w5 ⟨rfl, hb5⟩
  have hs5 := hb5.size
  try simp only [World.size_setCell] at hs5
  try simp only [World.size_alloc] at hs5
  have hB5 : Below w.heap.size w w5 := over hb5 (by go_grown)
  have zp_5 : w.heap.size < w5.heap.size := by omega
  obtain ⟨p0_5, p1_5, p2_5⟩ := keep3 hb5 (w.heap.size) (.int .i64 t) (.int .i64 o) (.bool false) (by first | exact ⟨p0_4, p1_4, p2_4⟩ | exact ⟨al p0_4, al p1_4, al p2_4⟩ | exact ⟨al (al p0_4), al (al p1_4), al (al p2_4)⟩)
  have zq_5 : w.heap.size + 1 < w5.heap.size := by omega
  obtain ⟨q0_5, q1_5, q2_5⟩ := keep3 hb5 (w.heap.size + 1) (.int .i64 t') (.int .i64 o') (.bool false) (by first | exact ⟨q0_4, q1_4, q2_4⟩ | exact ⟨al q0_4, al q1_4, al q2_4⟩ | exact ⟨al (al q0_4), al (al q1_4), al (al q2_4)⟩)
  have za_5 : w4.heap.size < w5.heap.size := by omega
  obtain ⟨a0_5, a1_5, a2_5⟩ := keep3 hb5 (w4.heap.size) (.int .i64 (t + n)) (.int .i64 o) (.bool false) (by simp [go_sem])
  have fa_5 := keepf hb5 (w4.heap.size) (by first | (simp; done) | (simp; omega)) (fun j => by simp [go_sem])
  clear p0_4 p1_4 p2_4 zp_4 q0_4 q1_4 q2_4 zq_4 hB4 hs5 hb5
  have nba : ¬ w5.heap.size = w4.heap.size := by omega
  have mba : ¬ w4.heap.size = w5.heap.size := by omega
  go_wp2_with (fail)
  refine (k_take_m_full hp n0 n1 m0 (by omega) ht hm _).mono ?_
  rintro e w6 ⟨rfl, hb6⟩
  have hs6 := hb6.size
  try simp only [World.size_setCell] at hs6
  try simp only [World.size_alloc] at hs6
  have hB6 : Below w.heap.size w w6 := over hb6 (by go_grown)
  have zp_6 : w.heap.size < w6.heap.size := by omega
  obtain ⟨p0_6, p1_6, p2_6⟩ := keep3 hb6 (w.heap.size) (.int .i64 t) (.int .i64 o) (.bool false) (by first | exact ⟨p0_5, p1_5, p2_5⟩ | exact ⟨al p0_5, al p1_5, al p2_5⟩ | exact ⟨al (al p0_5), al (al p1_5), al (al p2_5)⟩)
  have zq_6 : w.heap.size + 1 < w6.heap.size := by omega
  obtain ⟨q0_6, q1_6, q2_6⟩ := keep3 hb6 (w.heap.size + 1) (.int .i64 t') (.int .i64 o') (.bool false) (by first | exact ⟨q0_5, q1_5, q2_5⟩ | exact ⟨al q0_5, al q1_5, al q2_5⟩ | exact ⟨al (al q0_5), al (al q1_5), al (al q2_5)⟩)
  have za_6 : w4.heap.size < w6.heap.size := by omega
  obtain ⟨a0_6, a1_6, a2_6⟩ := keep3 hb6 (w4.heap.size) (.int .i64 (t + n)) (.int .i64 o) (.bool false) (by first | exact ⟨a0_5, a1_5, a2_5⟩ | exact ⟨al a0_5, al a1_5, al a2_5⟩ | exact ⟨al (al a0_5), al (al a1_5), al (al a2_5)⟩)
  have fa_6 := keepf hb6 (w4.heap.size) (by first | (simp; done) | (simp; omega)) (by first | exact fa_5 | exact alf fa_5 | exact alf (alf fa_5))
  have zb_6 : w5.heap.size < w6.heap.size := by omega
  obtain ⟨b0_6, b1_6, b2_6⟩ := keep3 hb6 (w5.heap.size) (.int .i64 t) (.int .i64 o) (.bool false) (by simp [go_sem])
  clear p0_5 p1_5 p2_5 zp_5 q0_5 q1_5 q2_5 zq_5 a0_5 a1_5 a2_5 za_5 fa_5 hB5 hs6 hb6
  go_wp2_with (fail)
  refine (k_take_nm_full hp n0 n1 m0 (by omega) hm _).mono ?_
  rintro e w7 ⟨rfl, hb7⟩
  have hs7 := hb7.size
  try simp only [World.size_setCell] at hs7
  try simp only [World.size_alloc] at hs7
  have hB7 : Below w.heap.size w w7 := over hb7 (by go_grown)
  have zp_7 : w.heap.size < w7.heap.size := by omega
  obtain ⟨p0_7, p1_7, p2_7⟩ := keep3 hb7 (w.heap.size) (.int .i64 t) (.int .i64 o) (.bool false) (by first | exact ⟨p0_6, p1_6, p2_6⟩ | exact ⟨al p0_6, al p1_6, al p2_6⟩ | exact ⟨al (al p0_6), al (al p1_6), al (al p2_6)⟩)
  have zq_7 : w.heap.size + 1 < w7.heap.size := by omega
  obtain ⟨q0_7, q1_7, q2_7⟩ := keep3 hb7 (w.heap.size + 1) (.int .i64 t') (.int .i64 o') (.bool false) (by first | exact ⟨q0_6, q1_6, q2_6⟩ | exact ⟨al q0_6, al q1_6, al q2_6⟩ | exact ⟨al (al q0_6), al (al q1_6), al (al q2_6)⟩)
  have za_7 : w4.heap.size < w7.heap.size := by omega
  obtain ⟨a0_7, a1_7, a2_7⟩ := keep3 hb7 (w4.heap.size) (.int .i64 (t + n)) (.int .i64 o) (.bool false) (by first | exact ⟨a0_6, a1_6, a2_6⟩ | exact ⟨al a0_6, al a1_6, al a2_6⟩ | exact ⟨al (al a0_6), al (al a1_6), al (al a2_6)⟩)
  have fa_7 := keepf hb7 (w4.heap.size) (by first | (simp; done) | (simp; omega)) (by first | exact fa_6 | exact alf fa_6 | exact alf (alf fa_6))
  have zb_7 : w5.heap.size < w7.heap.size := by omega
  obtain ⟨b0_7, b1_7, b2_7⟩ := keep3 hb7 (w5.heap.size) (.int .i64 t) (.int .i64 o) (.bool false) (by first | exact ⟨b0_6, b1_6, b2_6⟩ | exact ⟨al b0_6, al b1_6, al b2_6⟩ | exact ⟨al (al b0_6), al (al b1_6), al (al b2_6)⟩)
  clear p0_6 p1_6 p2_6 zp_6 q0_6 q1_6 q2_6 zq_6 a0_6 a1_6 a2_6 za_6 fa_6 b0_6 b1_6 b2_6 zb_6 hB6 hs7 hb7
  go_wp2_with (fail)
  refine (k_earn_full hp n0 n1 he _).mono ?_
  rintro e w8 ⟨rfl, hb8⟩
  have hs8 := hb8.size
  try simp only [World.size_setCell] at hs8
  try simp only [World.size_alloc] at hs8
  have hB8 : Below w.heap.size w w8 := over hb8 (by go_grown)
  have zp_8 : w.heap.size < w8.heap.size := by omega
  obtain ⟨p0_8, p1_8, p2_8⟩ := keep3 hb8 (w.heap.size) (.int .i64 t) (.int .i64 o) (.bool false) (by first | exact ⟨p0_7, p1_7, p2_7⟩ | exact ⟨al p0_7, al p1_7, al p2_7⟩ | exact ⟨al (al p0_7), al (al p1_7), al (al p2_7)⟩)
  have zq_8 : w.heap.size + 1 < w8.heap.size := by omega
  obtain ⟨q0_8, q1_8, q2_8⟩ := keep3 hb8 (w.heap.size + 1) (.int .i64 t') (.int .i64 o') (.bool false) (by first | exact ⟨q0_7, q1_7, q2_7⟩ | exact ⟨al q0_7, al q1_7, al q2_7⟩ | exact ⟨al (al q0_7), al (al q1_7), al (al q2_7)⟩)
  have za_8 : w4.heap.size < w8.heap.size := by omega
  obtain ⟨a0_8, a1_8, a2_8⟩ := keep3 hb8 (w4.heap.size) (.int .i64 (t + n)) (.int .i64 o) (.bool false) (by first | exact ⟨a0_7, a1_7, a2_7⟩ | exact ⟨al a0_7, al a1_7, al a2_7⟩ | exact ⟨al (al a0_7), al (al a1_7), al (al a2_7)⟩)
  have fa_8 := keepf hb8 (w4.heap.size) (by first | (simp; done) | (simp; omega)) (by first | exact fa_7 | exact alf fa_7 | exact alf (alf fa_7))
  have zb_8 : w5.heap.size < w8.heap.size := by omega
  obtain ⟨b0_8, b1_8, b2_8⟩ := keep3 hb8 (w5.heap.size) (.int .i64 t) (.int .i64 o) (.bool false) (by first | exact ⟨b0_7, b1_7, b2_7⟩ | exact ⟨al b0_7, al b1_7, al b2_7⟩ | exact ⟨al (al b0_7), al (al b1_7), al (al b2_7)⟩)
  clear p0_7 p1_7 p2_7 zp_7 q0_7 q1_7 q2_7 zq_7 a0_7 a1_7 a2_7 za_7 fa_7 b0_7 b1_7 b2_7 zb_7 hB7 hs8 hb8
  clear b0_8 b1_8 b2_8 zb_8
  go_wp2_with (fail)
  refine (k_pass_ok hp hq n0 n1 ha hb _).mono ?_
  rintro e w9 ⟨rfl, hb9⟩
  have hs9 := hb9.size
  try simp only [World.size_setCell] at hs9
  try simp only [World.size_alloc] at hs9
  have hB9 : Below w.heap.size w w9 := over hb9 (by go_grown)
  have zp_9 : w.heap.size < w9.heap.size := by omega
  obtain ⟨p0_9, p1_9, p2_9⟩ := keep3 hb9 (w.heap.size) (.int .i64 t) (.int .i64 o) (.bool false) (by simp [go_sem, p0_8, p1_8, p2_8])
  have zq_9 : w.heap.size + 1 < w9.heap.size := by omega
  obtain ⟨q0_9, q1_9, q2_9⟩ := keep3 hb9 (w.heap.size + 1) (.int .i64 t') (.int .i64 o') (.bool false) (by simp [go_sem, q0_8, q1_8, q2_8])
  have za_9 : w4.heap.size < w9.heap.size := by omega
  obtain ⟨a0_9, a1_9, a2_9⟩ := keep3 hb9 (w4.heap.size) (.int .i64 t) (.int .i64 o) (.bool false) (by simp [go_sem, a0_8, a1_8, a2_8])
  have fa_9 := keepf hb9 (w4.heap.size) (by first | (simp; done) | (simp; omega)) (fun j => by simp [go_sem, fa_8])
  clear p0_8 p1_8 p2_8 zp_8 q0_8 q1_8 q2_8 zq_8 a0_8 a1_8 a2_8 za_8 fa_8 hB8 hs9 hb9
  clear a0_9 a1_9 a2_9 fa_9 za_9
  go_wp2_with (fail)
  refine (k_pass_back hp hq n0 n1 ha hb _).mono ?_
  rintro e w10 ⟨rfl, hb10⟩
  have hs10 := hb10.size
  try simp only [World.size_setCell] at hs10
  try simp only [World.size_alloc] at hs10
  have hB10 : Below w.heap.size w w10 := over hb10 (by go_grown)
  have zp_10 : w.heap.size < w10.heap.size := by omega
  obtain ⟨p0_10, p1_10, p2_10⟩ := keep3 hb10 (w.heap.size) (.int .i64 t) (.int .i64 o) (.bool false) (by first | exact ⟨p0_9, p1_9, p2_9⟩ | exact ⟨al p0_9, al p1_9, al p2_9⟩ | exact ⟨al (al p0_9), al (al p1_9), al (al p2_9)⟩)
  have zq_10 : w.heap.size + 1 < w10.heap.size := by omega
  obtain ⟨q0_10, q1_10, q2_10⟩ := keep3 hb10 (w.heap.size + 1) (.int .i64 t') (.int .i64 o') (.bool false) (by first | exact ⟨q0_9, q1_9, q2_9⟩ | exact ⟨al q0_9, al q1_9, al q2_9⟩ | exact ⟨al (al q0_9), al (al q1_9), al (al q2_9)⟩)
  have zx_10 : w9.heap.size < w10.heap.size := by omega
  obtain ⟨x0_10, x1_10, x2_10⟩ := keep3 hb10 (w9.heap.size) (.int .i64 (t - n)) (.int .i64 o) (.bool false) (by simp [go_sem])
  have zy_10 : w9.heap.size + 1 < w10.heap.size := by omega
  obtain ⟨y0_10, y1_10, y2_10⟩ := keep3 hb10 (w9.heap.size + 1) (.int .i64 (t' + n)) (.int .i64 o') (.bool false) (by simp [go_sem])
  clear p0_9 p1_9 p2_9 zp_9 q0_9 q1_9 q2_9 zq_9 hB9 hs10 hb10
  go_wp2
  go_ret
  exact ⟨rfl, by go_grown⟩

set_option maxRecDepth 100000 in
set_option maxHeartbeats 4000000 in
theorem back_okfull_ok_no (t o : Int) (t' o' : Int) (g' : Bool) (n m : Int) (w : World) (hp : okB t o = true) (hq : okB t' o' = true) (n0 : 1 ≤ n) (n1 : n ≤ 1000000000000000) (m0 : 1 ≤ m) (m1 : m ≤ 1000000000000000 - n) (ht : t + n ≤ 1000000000000000) (hm : 1000000000000000 < t + n + m) (he : o + n ≤ 1000000000000000) (hx : psE t o false t' o' g' n ≠ 0) (hy : (psE t o false t' o' g' n == 0) = false)  :
    Calls Try.prog 6 #[pv t o false, pv t' o' g', .int .i64 n, .int .i64 m] w fun e w' => e = .returned (.bool true) ∧ Below w.heap.size w w' := by
  go_enter Try.func6, Try.ntmps6
  go_wp2_with (fail)
  refine (small_any _).mono ?_
  rintro e w1 ⟨rfl, hb1⟩
  have hs1 := hb1.size
  try simp only [World.size_setCell] at hs1
  try simp only [World.size_alloc] at hs1
  have hB1 : Below w.heap.size w w1 := over hb1 (by go_grown)
  have zp_1 : w.heap.size < w1.heap.size := by omega
  obtain ⟨p0_1, p1_1, p2_1⟩ := keep3 hb1 (w.heap.size) (.int .i64 t) (.int .i64 o) (.bool false) (by simp [go_sem])
  have zq_1 : w.heap.size + 1 < w1.heap.size := by omega
  obtain ⟨q0_1, q1_1, q2_1⟩ := keep3 hb1 (w.heap.size + 1) (.int .i64 t') (.int .i64 o') (.bool g') (by simp [go_sem])
  clear hs1 hb1
  go_wp2_with (fail)
  refine (r_yes hp _ _).mono ?_
  rintro e w2 ⟨rfl, hb2⟩
  have hs2 := hb2.size
  try simp only [World.size_setCell] at hs2
  try simp only [World.size_alloc] at hs2
  have hB2 : Below w.heap.size w w2 := over hb2 (by go_grown)
  have zp_2 : w.heap.size < w2.heap.size := by omega
  obtain ⟨p0_2, p1_2, p2_2⟩ := keep3 hb2 (w.heap.size) (.int .i64 t) (.int .i64 o) (.bool false) (by first | exact ⟨p0_1, p1_1, p2_1⟩ | exact ⟨al p0_1, al p1_1, al p2_1⟩ | exact ⟨al (al p0_1), al (al p1_1), al (al p2_1)⟩)
  have zq_2 : w.heap.size + 1 < w2.heap.size := by omega
  obtain ⟨q0_2, q1_2, q2_2⟩ := keep3 hb2 (w.heap.size + 1) (.int .i64 t') (.int .i64 o') (.bool g') (by first | exact ⟨q0_1, q1_1, q2_1⟩ | exact ⟨al q0_1, al q1_1, al q2_1⟩ | exact ⟨al (al q0_1), al (al q1_1), al (al q2_1)⟩)
  clear p0_1 p1_1 p2_1 zp_1 q0_1 q1_1 q2_1 zq_1 hB1 hs2 hb2
  go_wp2_with (fail)
  refine (r_yes hq _ _).mono ?_
  rintro e w3 ⟨rfl, hb3⟩
  have hs3 := hb3.size
  try simp only [World.size_setCell] at hs3
  try simp only [World.size_alloc] at hs3
  have hB3 : Below w.heap.size w w3 := over hb3 (by go_grown)
  have zp_3 : w.heap.size < w3.heap.size := by omega
  obtain ⟨p0_3, p1_3, p2_3⟩ := keep3 hb3 (w.heap.size) (.int .i64 t) (.int .i64 o) (.bool false) (by first | exact ⟨p0_2, p1_2, p2_2⟩ | exact ⟨al p0_2, al p1_2, al p2_2⟩ | exact ⟨al (al p0_2), al (al p1_2), al (al p2_2)⟩)
  have zq_3 : w.heap.size + 1 < w3.heap.size := by omega
  obtain ⟨q0_3, q1_3, q2_3⟩ := keep3 hb3 (w.heap.size + 1) (.int .i64 t') (.int .i64 o') (.bool g') (by first | exact ⟨q0_2, q1_2, q2_2⟩ | exact ⟨al q0_2, al q1_2, al q2_2⟩ | exact ⟨al (al q0_2), al (al q1_2), al (al q2_2)⟩)
  clear p0_2 p1_2 p2_2 zp_2 q0_2 q1_2 q2_2 zq_2 hB2 hs3 hb3
  go_wp2_with (fail)
  refine (k_take_ok hp n0 n1 ht _).mono ?_
  rintro e w4 ⟨rfl, hb4⟩
  have hs4 := hb4.size
  try simp only [World.size_setCell] at hs4
  try simp only [World.size_alloc] at hs4
  have hB4 : Below w.heap.size w w4 := over hb4 (by go_grown)
  have zp_4 : w.heap.size < w4.heap.size := by omega
  obtain ⟨p0_4, p1_4, p2_4⟩ := keep3 hb4 (w.heap.size) (.int .i64 t) (.int .i64 o) (.bool false) (by first | exact ⟨p0_3, p1_3, p2_3⟩ | exact ⟨al p0_3, al p1_3, al p2_3⟩ | exact ⟨al (al p0_3), al (al p1_3), al (al p2_3)⟩)
  have zq_4 : w.heap.size + 1 < w4.heap.size := by omega
  obtain ⟨q0_4, q1_4, q2_4⟩ := keep3 hb4 (w.heap.size + 1) (.int .i64 t') (.int .i64 o') (.bool g') (by first | exact ⟨q0_3, q1_3, q2_3⟩ | exact ⟨al q0_3, al q1_3, al q2_3⟩ | exact ⟨al (al q0_3), al (al q1_3), al (al q2_3)⟩)
  clear p0_3 p1_3 p2_3 zp_3 q0_3 q1_3 q2_3 zq_3 hB3 hs4 hb4
  have la : w.heap.size ≤ w4.heap.size := by omega
  have nap : ¬ w4.heap.size = w.heap.size := by omega
  have map : ¬ w.heap.size = w4.heap.size := by omega
  have naq : ¬ w4.heap.size = w.heap.size + 1 := by omega
  have maq : ¬ w.heap.size + 1 = w4.heap.size := by omega
  go_wp2_with (fail)
  refine (k_pay_back hp n0 n1 ht _).mono ?_
  rintro e w5 ⟨rfl, hb5⟩
  have hs5 := hb5.size
  try simp only [World.size_setCell] at hs5
  try simp only [World.size_alloc] at hs5
  have hB5 : Below w.heap.size w w5 := over hb5 (by go_grown)
  have zp_5 : w.heap.size < w5.heap.size := by omega
  obtain ⟨p0_5, p1_5, p2_5⟩ := keep3 hb5 (w.heap.size) (.int .i64 t) (.int .i64 o) (.bool false) (by first | exact ⟨p0_4, p1_4, p2_4⟩ | exact ⟨al p0_4, al p1_4, al p2_4⟩ | exact ⟨al (al p0_4), al (al p1_4), al (al p2_4)⟩)
  have zq_5 : w.heap.size + 1 < w5.heap.size := by omega
  obtain ⟨q0_5, q1_5, q2_5⟩ := keep3 hb5 (w.heap.size + 1) (.int .i64 t') (.int .i64 o') (.bool g') (by first | exact ⟨q0_4, q1_4, q2_4⟩ | exact ⟨al q0_4, al q1_4, al q2_4⟩ | exact ⟨al (al q0_4), al (al q1_4), al (al q2_4)⟩)
  have za_5 : w4.heap.size < w5.heap.size := by omega
  obtain ⟨a0_5, a1_5, a2_5⟩ := keep3 hb5 (w4.heap.size) (.int .i64 (t + n)) (.int .i64 o) (.bool false) (by simp [go_sem])
  have fa_5 := keepf hb5 (w4.heap.size) (by first | (simp; done) | (simp; omega)) (fun j => by simp [go_sem])
  clear p0_4 p1_4 p2_4 zp_4 q0_4 q1_4 q2_4 zq_4 hB4 hs5 hb5
  have nba : ¬ w5.heap.size = w4.heap.size := by omega
  have mba : ¬ w4.heap.size = w5.heap.size := by omega
  go_wp2_with (fail)
  refine (k_take_m_full hp n0 n1 m0 (by omega) ht hm _).mono ?_
  rintro e w6 ⟨rfl, hb6⟩
  have hs6 := hb6.size
  try simp only [World.size_setCell] at hs6
  try simp only [World.size_alloc] at hs6
  have hB6 : Below w.heap.size w w6 := over hb6 (by go_grown)
  have zp_6 : w.heap.size < w6.heap.size := by omega
  obtain ⟨p0_6, p1_6, p2_6⟩ := keep3 hb6 (w.heap.size) (.int .i64 t) (.int .i64 o) (.bool false) (by first | exact ⟨p0_5, p1_5, p2_5⟩ | exact ⟨al p0_5, al p1_5, al p2_5⟩ | exact ⟨al (al p0_5), al (al p1_5), al (al p2_5)⟩)
  have zq_6 : w.heap.size + 1 < w6.heap.size := by omega
  obtain ⟨q0_6, q1_6, q2_6⟩ := keep3 hb6 (w.heap.size + 1) (.int .i64 t') (.int .i64 o') (.bool g') (by first | exact ⟨q0_5, q1_5, q2_5⟩ | exact ⟨al q0_5, al q1_5, al q2_5⟩ | exact ⟨al (al q0_5), al (al q1_5), al (al q2_5)⟩)
  have za_6 : w4.heap.size < w6.heap.size := by omega
  obtain ⟨a0_6, a1_6, a2_6⟩ := keep3 hb6 (w4.heap.size) (.int .i64 (t + n)) (.int .i64 o) (.bool false) (by first | exact ⟨a0_5, a1_5, a2_5⟩ | exact ⟨al a0_5, al a1_5, al a2_5⟩ | exact ⟨al (al a0_5), al (al a1_5), al (al a2_5)⟩)
  have fa_6 := keepf hb6 (w4.heap.size) (by first | (simp; done) | (simp; omega)) (by first | exact fa_5 | exact alf fa_5 | exact alf (alf fa_5))
  have zb_6 : w5.heap.size < w6.heap.size := by omega
  obtain ⟨b0_6, b1_6, b2_6⟩ := keep3 hb6 (w5.heap.size) (.int .i64 t) (.int .i64 o) (.bool false) (by simp [go_sem])
  clear p0_5 p1_5 p2_5 zp_5 q0_5 q1_5 q2_5 zq_5 a0_5 a1_5 a2_5 za_5 fa_5 hB5 hs6 hb6
  go_wp2_with (fail)
  refine (k_take_nm_full hp n0 n1 m0 (by omega) hm _).mono ?_
  rintro e w7 ⟨rfl, hb7⟩
  have hs7 := hb7.size
  try simp only [World.size_setCell] at hs7
  try simp only [World.size_alloc] at hs7
  have hB7 : Below w.heap.size w w7 := over hb7 (by go_grown)
  have zp_7 : w.heap.size < w7.heap.size := by omega
  obtain ⟨p0_7, p1_7, p2_7⟩ := keep3 hb7 (w.heap.size) (.int .i64 t) (.int .i64 o) (.bool false) (by first | exact ⟨p0_6, p1_6, p2_6⟩ | exact ⟨al p0_6, al p1_6, al p2_6⟩ | exact ⟨al (al p0_6), al (al p1_6), al (al p2_6)⟩)
  have zq_7 : w.heap.size + 1 < w7.heap.size := by omega
  obtain ⟨q0_7, q1_7, q2_7⟩ := keep3 hb7 (w.heap.size + 1) (.int .i64 t') (.int .i64 o') (.bool g') (by first | exact ⟨q0_6, q1_6, q2_6⟩ | exact ⟨al q0_6, al q1_6, al q2_6⟩ | exact ⟨al (al q0_6), al (al q1_6), al (al q2_6)⟩)
  have za_7 : w4.heap.size < w7.heap.size := by omega
  obtain ⟨a0_7, a1_7, a2_7⟩ := keep3 hb7 (w4.heap.size) (.int .i64 (t + n)) (.int .i64 o) (.bool false) (by first | exact ⟨a0_6, a1_6, a2_6⟩ | exact ⟨al a0_6, al a1_6, al a2_6⟩ | exact ⟨al (al a0_6), al (al a1_6), al (al a2_6)⟩)
  have fa_7 := keepf hb7 (w4.heap.size) (by first | (simp; done) | (simp; omega)) (by first | exact fa_6 | exact alf fa_6 | exact alf (alf fa_6))
  have zb_7 : w5.heap.size < w7.heap.size := by omega
  obtain ⟨b0_7, b1_7, b2_7⟩ := keep3 hb7 (w5.heap.size) (.int .i64 t) (.int .i64 o) (.bool false) (by first | exact ⟨b0_6, b1_6, b2_6⟩ | exact ⟨al b0_6, al b1_6, al b2_6⟩ | exact ⟨al (al b0_6), al (al b1_6), al (al b2_6)⟩)
  clear p0_6 p1_6 p2_6 zp_6 q0_6 q1_6 q2_6 zq_6 a0_6 a1_6 a2_6 za_6 fa_6 b0_6 b1_6 b2_6 zb_6 hB6 hs7 hb7
  go_wp2_with (fail)
  refine (k_earn_ok hp n0 n1 he _).mono ?_
  rintro e w8 ⟨rfl, hb8⟩
  have hs8 := hb8.size
  try simp only [World.size_setCell] at hs8
  try simp only [World.size_alloc] at hs8
  have hB8 : Below w.heap.size w w8 := over hb8 (by go_grown)
  have zp_8 : w.heap.size < w8.heap.size := by omega
  obtain ⟨p0_8, p1_8, p2_8⟩ := keep3 hb8 (w.heap.size) (.int .i64 t) (.int .i64 o) (.bool false) (by first | exact ⟨p0_7, p1_7, p2_7⟩ | exact ⟨al p0_7, al p1_7, al p2_7⟩ | exact ⟨al (al p0_7), al (al p1_7), al (al p2_7)⟩)
  have zq_8 : w.heap.size + 1 < w8.heap.size := by omega
  obtain ⟨q0_8, q1_8, q2_8⟩ := keep3 hb8 (w.heap.size + 1) (.int .i64 t') (.int .i64 o') (.bool g') (by first | exact ⟨q0_7, q1_7, q2_7⟩ | exact ⟨al q0_7, al q1_7, al q2_7⟩ | exact ⟨al (al q0_7), al (al q1_7), al (al q2_7)⟩)
  have za_8 : w4.heap.size < w8.heap.size := by omega
  obtain ⟨a0_8, a1_8, a2_8⟩ := keep3 hb8 (w4.heap.size) (.int .i64 (t + n)) (.int .i64 o) (.bool false) (by first | exact ⟨a0_7, a1_7, a2_7⟩ | exact ⟨al a0_7, al a1_7, al a2_7⟩ | exact ⟨al (al a0_7), al (al a1_7), al (al a2_7)⟩)
  have fa_8 := keepf hb8 (w4.heap.size) (by first | (simp; done) | (simp; omega)) (by first | exact fa_7 | exact alf fa_7 | exact alf (alf fa_7))
  have zb_8 : w5.heap.size < w8.heap.size := by omega
  obtain ⟨b0_8, b1_8, b2_8⟩ := keep3 hb8 (w5.heap.size) (.int .i64 t) (.int .i64 o) (.bool false) (by first | exact ⟨b0_7, b1_7, b2_7⟩ | exact ⟨al b0_7, al b1_7, al b2_7⟩ | exact ⟨al (al b0_7), al (al b1_7), al (al b2_7)⟩)
  clear p0_7 p1_7 p2_7 zp_7 q0_7 q1_7 q2_7 zq_7 a0_7 a1_7 a2_7 za_7 fa_7 b0_7 b1_7 b2_7 zb_7 hB7 hs8 hb8
  clear b0_8 b1_8 b2_8 zb_8
  go_wp2_with (fail)
  refine (k_spend_back hp n0 n1 he _).mono ?_
  rintro e w9 ⟨rfl, hb9⟩
  have hs9 := hb9.size
  try simp only [World.size_setCell] at hs9
  try simp only [World.size_alloc] at hs9
  have hB9 : Below w.heap.size w w9 := over hb9 (by go_grown)
  have zp_9 : w.heap.size < w9.heap.size := by omega
  obtain ⟨p0_9, p1_9, p2_9⟩ := keep3 hb9 (w.heap.size) (.int .i64 t) (.int .i64 o) (.bool false) (by simp [go_sem, p0_8, p1_8, p2_8])
  have zq_9 : w.heap.size + 1 < w9.heap.size := by omega
  obtain ⟨q0_9, q1_9, q2_9⟩ := keep3 hb9 (w.heap.size + 1) (.int .i64 t') (.int .i64 o') (.bool g') (by simp [go_sem, q0_8, q1_8, q2_8])
  have za_9 : w4.heap.size < w9.heap.size := by omega
  obtain ⟨a0_9, a1_9, a2_9⟩ := keep3 hb9 (w4.heap.size) (.int .i64 t) (.int .i64 (o + n)) (.bool false) (by simp [go_sem, a0_8, a1_8, a2_8])
  have fa_9 := keepf hb9 (w4.heap.size) (by first | (simp; done) | (simp; omega)) (fun j => by simp [go_sem, fa_8])
  clear p0_8 p1_8 p2_8 zp_8 q0_8 q1_8 q2_8 zq_8 a0_8 a1_8 a2_8 za_8 fa_8 hB8 hs9 hb9
  have nsa : ¬ w9.heap.size = w4.heap.size := by omega
  have msa : ¬ w4.heap.size = w9.heap.size := by omega
  go_wp2_with (fail)
  refine (k_pass_no hx _).mono ?_
  rintro e w10 ⟨rfl, hb10⟩
  have hs10 := hb10.size
  try simp only [World.size_setCell] at hs10
  try simp only [World.size_alloc] at hs10
  have hB10 : Below w.heap.size w w10 := over hb10 (by go_grown)
  have zp_10 : w.heap.size < w10.heap.size := by omega
  obtain ⟨p0_10, p1_10, p2_10⟩ := keep3 hb10 (w.heap.size) (.int .i64 t) (.int .i64 o) (.bool false) (by first | exact ⟨p0_9, p1_9, p2_9⟩ | exact ⟨al p0_9, al p1_9, al p2_9⟩ | exact ⟨al (al p0_9), al (al p1_9), al (al p2_9)⟩)
  have zq_10 : w.heap.size + 1 < w10.heap.size := by omega
  obtain ⟨q0_10, q1_10, q2_10⟩ := keep3 hb10 (w.heap.size + 1) (.int .i64 t') (.int .i64 o') (.bool g') (by first | exact ⟨q0_9, q1_9, q2_9⟩ | exact ⟨al q0_9, al q1_9, al q2_9⟩ | exact ⟨al (al q0_9), al (al q1_9), al (al q2_9)⟩)
  have za_10 : w4.heap.size < w10.heap.size := by omega
  obtain ⟨a0_10, a1_10, a2_10⟩ := keep3 hb10 (w4.heap.size) (.int .i64 t) (.int .i64 (o + n)) (.bool false) (by first | exact ⟨a0_9, a1_9, a2_9⟩ | exact ⟨al a0_9, al a1_9, al a2_9⟩ | exact ⟨al (al a0_9), al (al a1_9), al (al a2_9)⟩)
  have fa_10 := keepf hb10 (w4.heap.size) (by first | (simp; done) | (simp; omega)) (by first | exact fa_9 | exact alf fa_9 | exact alf (alf fa_9))
  have zs_10 : w9.heap.size < w10.heap.size := by omega
  obtain ⟨s0_10, s1_10, s2_10⟩ := keep3 hb10 (w9.heap.size) (.int .i64 t) (.int .i64 o) (.bool false) (by simp [go_sem])
  clear p0_9 p1_9 p2_9 zp_9 q0_9 q1_9 q2_9 zq_9 a0_9 a1_9 a2_9 za_9 fa_9 hB9 hs10 hb10
  go_wp2
  go_ret
  exact ⟨rfl, by go_grown⟩

set_option maxRecDepth 100000 in
set_option maxHeartbeats 4000000 in
theorem back_okfull_ok_ok (t o : Int) (t' o' : Int) (n m : Int) (w : World) (hp : okB t o = true) (hq : okB t' o' = true) (n0 : 1 ≤ n) (n1 : n ≤ 1000000000000000) (m0 : 1 ≤ m) (m1 : m ≤ 1000000000000000 - n) (ht : t + n ≤ 1000000000000000) (hm : 1000000000000000 < t + n + m) (he : o + n ≤ 1000000000000000) (ha : 0 ≤ t - n) (hb : t' + n ≤ 1000000000000000) (b0 : 0 ≤ t) (b1 : t ≤ 1000000000000000) (b2 : 0 ≤ t') (b3 : t' ≤ 1000000000000000)  :
    Calls Try.prog 6 #[pv t o false, pv t' o' false, .int .i64 n, .int .i64 m] w fun e w' => e = .returned (.bool true) ∧ Below w.heap.size w w' := by
  go_enter Try.func6, Try.ntmps6
  go_wp2_with (fail)
  refine (small_any _).mono ?_
  rintro e w1 ⟨rfl, hb1⟩
  have hs1 := hb1.size
  try simp only [World.size_setCell] at hs1
  try simp only [World.size_alloc] at hs1
  have hB1 : Below w.heap.size w w1 := over hb1 (by go_grown)
  have zp_1 : w.heap.size < w1.heap.size := by omega
  obtain ⟨p0_1, p1_1, p2_1⟩ := keep3 hb1 (w.heap.size) (.int .i64 t) (.int .i64 o) (.bool false) (by simp [go_sem])
  have zq_1 : w.heap.size + 1 < w1.heap.size := by omega
  obtain ⟨q0_1, q1_1, q2_1⟩ := keep3 hb1 (w.heap.size + 1) (.int .i64 t') (.int .i64 o') (.bool false) (by simp [go_sem])
  clear hs1 hb1
  go_wp2_with (fail)
  refine (r_yes hp _ _).mono ?_
  rintro e w2 ⟨rfl, hb2⟩
  have hs2 := hb2.size
  try simp only [World.size_setCell] at hs2
  try simp only [World.size_alloc] at hs2
  have hB2 : Below w.heap.size w w2 := over hb2 (by go_grown)
  have zp_2 : w.heap.size < w2.heap.size := by omega
  obtain ⟨p0_2, p1_2, p2_2⟩ := keep3 hb2 (w.heap.size) (.int .i64 t) (.int .i64 o) (.bool false) (by first | exact ⟨p0_1, p1_1, p2_1⟩ | exact ⟨al p0_1, al p1_1, al p2_1⟩ | exact ⟨al (al p0_1), al (al p1_1), al (al p2_1)⟩)
  have zq_2 : w.heap.size + 1 < w2.heap.size := by omega
  obtain ⟨q0_2, q1_2, q2_2⟩ := keep3 hb2 (w.heap.size + 1) (.int .i64 t') (.int .i64 o') (.bool false) (by first | exact ⟨q0_1, q1_1, q2_1⟩ | exact ⟨al q0_1, al q1_1, al q2_1⟩ | exact ⟨al (al q0_1), al (al q1_1), al (al q2_1)⟩)
  clear p0_1 p1_1 p2_1 zp_1 q0_1 q1_1 q2_1 zq_1 hB1 hs2 hb2
  go_wp2_with (fail)
  refine (r_yes hq _ _).mono ?_
  rintro e w3 ⟨rfl, hb3⟩
  have hs3 := hb3.size
  try simp only [World.size_setCell] at hs3
  try simp only [World.size_alloc] at hs3
  have hB3 : Below w.heap.size w w3 := over hb3 (by go_grown)
  have zp_3 : w.heap.size < w3.heap.size := by omega
  obtain ⟨p0_3, p1_3, p2_3⟩ := keep3 hb3 (w.heap.size) (.int .i64 t) (.int .i64 o) (.bool false) (by first | exact ⟨p0_2, p1_2, p2_2⟩ | exact ⟨al p0_2, al p1_2, al p2_2⟩ | exact ⟨al (al p0_2), al (al p1_2), al (al p2_2)⟩)
  have zq_3 : w.heap.size + 1 < w3.heap.size := by omega
  obtain ⟨q0_3, q1_3, q2_3⟩ := keep3 hb3 (w.heap.size + 1) (.int .i64 t') (.int .i64 o') (.bool false) (by first | exact ⟨q0_2, q1_2, q2_2⟩ | exact ⟨al q0_2, al q1_2, al q2_2⟩ | exact ⟨al (al q0_2), al (al q1_2), al (al q2_2)⟩)
  clear p0_2 p1_2 p2_2 zp_2 q0_2 q1_2 q2_2 zq_2 hB2 hs3 hb3
  go_wp2_with (fail)
  refine (k_take_ok hp n0 n1 ht _).mono ?_
  rintro e w4 ⟨rfl, hb4⟩
  have hs4 := hb4.size
  try simp only [World.size_setCell] at hs4
  try simp only [World.size_alloc] at hs4
  have hB4 : Below w.heap.size w w4 := over hb4 (by go_grown)
  have zp_4 : w.heap.size < w4.heap.size := by omega
  obtain ⟨p0_4, p1_4, p2_4⟩ := keep3 hb4 (w.heap.size) (.int .i64 t) (.int .i64 o) (.bool false) (by first | exact ⟨p0_3, p1_3, p2_3⟩ | exact ⟨al p0_3, al p1_3, al p2_3⟩ | exact ⟨al (al p0_3), al (al p1_3), al (al p2_3)⟩)
  have zq_4 : w.heap.size + 1 < w4.heap.size := by omega
  obtain ⟨q0_4, q1_4, q2_4⟩ := keep3 hb4 (w.heap.size + 1) (.int .i64 t') (.int .i64 o') (.bool false) (by first | exact ⟨q0_3, q1_3, q2_3⟩ | exact ⟨al q0_3, al q1_3, al q2_3⟩ | exact ⟨al (al q0_3), al (al q1_3), al (al q2_3)⟩)
  clear p0_3 p1_3 p2_3 zp_3 q0_3 q1_3 q2_3 zq_3 hB3 hs4 hb4
  have la : w.heap.size ≤ w4.heap.size := by omega
  have nap : ¬ w4.heap.size = w.heap.size := by omega
  have map : ¬ w.heap.size = w4.heap.size := by omega
  have naq : ¬ w4.heap.size = w.heap.size + 1 := by omega
  have maq : ¬ w.heap.size + 1 = w4.heap.size := by omega
  go_wp2_with (fail)
  refine (k_pay_back hp n0 n1 ht _).mono ?_
  rintro e w5 ⟨rfl, hb5⟩
  have hs5 := hb5.size
  try simp only [World.size_setCell] at hs5
  try simp only [World.size_alloc] at hs5
  have hB5 : Below w.heap.size w w5 := over hb5 (by go_grown)
  have zp_5 : w.heap.size < w5.heap.size := by omega
  obtain ⟨p0_5, p1_5, p2_5⟩ := keep3 hb5 (w.heap.size) (.int .i64 t) (.int .i64 o) (.bool false) (by first | exact ⟨p0_4, p1_4, p2_4⟩ | exact ⟨al p0_4, al p1_4, al p2_4⟩ | exact ⟨al (al p0_4), al (al p1_4), al (al p2_4)⟩)
  have zq_5 : w.heap.size + 1 < w5.heap.size := by omega
  obtain ⟨q0_5, q1_5, q2_5⟩ := keep3 hb5 (w.heap.size + 1) (.int .i64 t') (.int .i64 o') (.bool false) (by first | exact ⟨q0_4, q1_4, q2_4⟩ | exact ⟨al q0_4, al q1_4, al q2_4⟩ | exact ⟨al (al q0_4), al (al q1_4), al (al q2_4)⟩)
  have za_5 : w4.heap.size < w5.heap.size := by omega
  obtain ⟨a0_5, a1_5, a2_5⟩ := keep3 hb5 (w4.heap.size) (.int .i64 (t + n)) (.int .i64 o) (.bool false) (by simp [go_sem])
  have fa_5 := keepf hb5 (w4.heap.size) (by first | (simp; done) | (simp; omega)) (fun j => by simp [go_sem])
  clear p0_4 p1_4 p2_4 zp_4 q0_4 q1_4 q2_4 zq_4 hB4 hs5 hb5
  have nba : ¬ w5.heap.size = w4.heap.size := by omega
  have mba : ¬ w4.heap.size = w5.heap.size := by omega
  go_wp2_with (fail)
  refine (k_take_m_full hp n0 n1 m0 (by omega) ht hm _).mono ?_
  rintro e w6 ⟨rfl, hb6⟩
  have hs6 := hb6.size
  try simp only [World.size_setCell] at hs6
  try simp only [World.size_alloc] at hs6
  have hB6 : Below w.heap.size w w6 := over hb6 (by go_grown)
  have zp_6 : w.heap.size < w6.heap.size := by omega
  obtain ⟨p0_6, p1_6, p2_6⟩ := keep3 hb6 (w.heap.size) (.int .i64 t) (.int .i64 o) (.bool false) (by first | exact ⟨p0_5, p1_5, p2_5⟩ | exact ⟨al p0_5, al p1_5, al p2_5⟩ | exact ⟨al (al p0_5), al (al p1_5), al (al p2_5)⟩)
  have zq_6 : w.heap.size + 1 < w6.heap.size := by omega
  obtain ⟨q0_6, q1_6, q2_6⟩ := keep3 hb6 (w.heap.size + 1) (.int .i64 t') (.int .i64 o') (.bool false) (by first | exact ⟨q0_5, q1_5, q2_5⟩ | exact ⟨al q0_5, al q1_5, al q2_5⟩ | exact ⟨al (al q0_5), al (al q1_5), al (al q2_5)⟩)
  have za_6 : w4.heap.size < w6.heap.size := by omega
  obtain ⟨a0_6, a1_6, a2_6⟩ := keep3 hb6 (w4.heap.size) (.int .i64 (t + n)) (.int .i64 o) (.bool false) (by first | exact ⟨a0_5, a1_5, a2_5⟩ | exact ⟨al a0_5, al a1_5, al a2_5⟩ | exact ⟨al (al a0_5), al (al a1_5), al (al a2_5)⟩)
  have fa_6 := keepf hb6 (w4.heap.size) (by first | (simp; done) | (simp; omega)) (by first | exact fa_5 | exact alf fa_5 | exact alf (alf fa_5))
  have zb_6 : w5.heap.size < w6.heap.size := by omega
  obtain ⟨b0_6, b1_6, b2_6⟩ := keep3 hb6 (w5.heap.size) (.int .i64 t) (.int .i64 o) (.bool false) (by simp [go_sem])
  clear p0_5 p1_5 p2_5 zp_5 q0_5 q1_5 q2_5 zq_5 a0_5 a1_5 a2_5 za_5 fa_5 hB5 hs6 hb6
  go_wp2_with (fail)
  refine (k_take_nm_full hp n0 n1 m0 (by omega) hm _).mono ?_
  rintro e w7 ⟨rfl, hb7⟩
  have hs7 := hb7.size
  try simp only [World.size_setCell] at hs7
  try simp only [World.size_alloc] at hs7
  have hB7 : Below w.heap.size w w7 := over hb7 (by go_grown)
  have zp_7 : w.heap.size < w7.heap.size := by omega
  obtain ⟨p0_7, p1_7, p2_7⟩ := keep3 hb7 (w.heap.size) (.int .i64 t) (.int .i64 o) (.bool false) (by first | exact ⟨p0_6, p1_6, p2_6⟩ | exact ⟨al p0_6, al p1_6, al p2_6⟩ | exact ⟨al (al p0_6), al (al p1_6), al (al p2_6)⟩)
  have zq_7 : w.heap.size + 1 < w7.heap.size := by omega
  obtain ⟨q0_7, q1_7, q2_7⟩ := keep3 hb7 (w.heap.size + 1) (.int .i64 t') (.int .i64 o') (.bool false) (by first | exact ⟨q0_6, q1_6, q2_6⟩ | exact ⟨al q0_6, al q1_6, al q2_6⟩ | exact ⟨al (al q0_6), al (al q1_6), al (al q2_6)⟩)
  have za_7 : w4.heap.size < w7.heap.size := by omega
  obtain ⟨a0_7, a1_7, a2_7⟩ := keep3 hb7 (w4.heap.size) (.int .i64 (t + n)) (.int .i64 o) (.bool false) (by first | exact ⟨a0_6, a1_6, a2_6⟩ | exact ⟨al a0_6, al a1_6, al a2_6⟩ | exact ⟨al (al a0_6), al (al a1_6), al (al a2_6)⟩)
  have fa_7 := keepf hb7 (w4.heap.size) (by first | (simp; done) | (simp; omega)) (by first | exact fa_6 | exact alf fa_6 | exact alf (alf fa_6))
  have zb_7 : w5.heap.size < w7.heap.size := by omega
  obtain ⟨b0_7, b1_7, b2_7⟩ := keep3 hb7 (w5.heap.size) (.int .i64 t) (.int .i64 o) (.bool false) (by first | exact ⟨b0_6, b1_6, b2_6⟩ | exact ⟨al b0_6, al b1_6, al b2_6⟩ | exact ⟨al (al b0_6), al (al b1_6), al (al b2_6)⟩)
  clear p0_6 p1_6 p2_6 zp_6 q0_6 q1_6 q2_6 zq_6 a0_6 a1_6 a2_6 za_6 fa_6 b0_6 b1_6 b2_6 zb_6 hB6 hs7 hb7
  go_wp2_with (fail)
  refine (k_earn_ok hp n0 n1 he _).mono ?_
  rintro e w8 ⟨rfl, hb8⟩
  have hs8 := hb8.size
  try simp only [World.size_setCell] at hs8
  try simp only [World.size_alloc] at hs8
  have hB8 : Below w.heap.size w w8 := over hb8 (by go_grown)
  have zp_8 : w.heap.size < w8.heap.size := by omega
  obtain ⟨p0_8, p1_8, p2_8⟩ := keep3 hb8 (w.heap.size) (.int .i64 t) (.int .i64 o) (.bool false) (by first | exact ⟨p0_7, p1_7, p2_7⟩ | exact ⟨al p0_7, al p1_7, al p2_7⟩ | exact ⟨al (al p0_7), al (al p1_7), al (al p2_7)⟩)
  have zq_8 : w.heap.size + 1 < w8.heap.size := by omega
  obtain ⟨q0_8, q1_8, q2_8⟩ := keep3 hb8 (w.heap.size + 1) (.int .i64 t') (.int .i64 o') (.bool false) (by first | exact ⟨q0_7, q1_7, q2_7⟩ | exact ⟨al q0_7, al q1_7, al q2_7⟩ | exact ⟨al (al q0_7), al (al q1_7), al (al q2_7)⟩)
  have za_8 : w4.heap.size < w8.heap.size := by omega
  obtain ⟨a0_8, a1_8, a2_8⟩ := keep3 hb8 (w4.heap.size) (.int .i64 (t + n)) (.int .i64 o) (.bool false) (by first | exact ⟨a0_7, a1_7, a2_7⟩ | exact ⟨al a0_7, al a1_7, al a2_7⟩ | exact ⟨al (al a0_7), al (al a1_7), al (al a2_7)⟩)
  have fa_8 := keepf hb8 (w4.heap.size) (by first | (simp; done) | (simp; omega)) (by first | exact fa_7 | exact alf fa_7 | exact alf (alf fa_7))
  have zb_8 : w5.heap.size < w8.heap.size := by omega
  obtain ⟨b0_8, b1_8, b2_8⟩ := keep3 hb8 (w5.heap.size) (.int .i64 t) (.int .i64 o) (.bool false) (by first | exact ⟨b0_7, b1_7, b2_7⟩ | exact ⟨al b0_7, al b1_7, al b2_7⟩ | exact ⟨al (al b0_7), al (al b1_7), al (al b2_7)⟩)
  clear p0_7 p1_7 p2_7 zp_7 q0_7 q1_7 q2_7 zq_7 a0_7 a1_7 a2_7 za_7 fa_7 b0_7 b1_7 b2_7 zb_7 hB7 hs8 hb8
  clear b0_8 b1_8 b2_8 zb_8
  go_wp2_with (fail)
  refine (k_spend_back hp n0 n1 he _).mono ?_
  rintro e w9 ⟨rfl, hb9⟩
  have hs9 := hb9.size
  try simp only [World.size_setCell] at hs9
  try simp only [World.size_alloc] at hs9
  have hB9 : Below w.heap.size w w9 := over hb9 (by go_grown)
  have zp_9 : w.heap.size < w9.heap.size := by omega
  obtain ⟨p0_9, p1_9, p2_9⟩ := keep3 hb9 (w.heap.size) (.int .i64 t) (.int .i64 o) (.bool false) (by simp [go_sem, p0_8, p1_8, p2_8])
  have zq_9 : w.heap.size + 1 < w9.heap.size := by omega
  obtain ⟨q0_9, q1_9, q2_9⟩ := keep3 hb9 (w.heap.size + 1) (.int .i64 t') (.int .i64 o') (.bool false) (by simp [go_sem, q0_8, q1_8, q2_8])
  have za_9 : w4.heap.size < w9.heap.size := by omega
  obtain ⟨a0_9, a1_9, a2_9⟩ := keep3 hb9 (w4.heap.size) (.int .i64 t) (.int .i64 (o + n)) (.bool false) (by simp [go_sem, a0_8, a1_8, a2_8])
  have fa_9 := keepf hb9 (w4.heap.size) (by first | (simp; done) | (simp; omega)) (fun j => by simp [go_sem, fa_8])
  clear p0_8 p1_8 p2_8 zp_8 q0_8 q1_8 q2_8 zq_8 a0_8 a1_8 a2_8 za_8 fa_8 hB8 hs9 hb9
  have nsa : ¬ w9.heap.size = w4.heap.size := by omega
  have msa : ¬ w4.heap.size = w9.heap.size := by omega
  go_wp2_with (fail)
  refine (k_pass_ok hp hq n0 n1 ha hb _).mono ?_
  rintro e w10 ⟨rfl, hb10⟩
  have hs10 := hb10.size
  try simp only [World.size_setCell] at hs10
  try simp only [World.size_alloc] at hs10
  have hB10 : Below w.heap.size w w10 := over hb10 (by go_grown)
  have zp_10 : w.heap.size < w10.heap.size := by omega
  obtain ⟨p0_10, p1_10, p2_10⟩ := keep3 hb10 (w.heap.size) (.int .i64 t) (.int .i64 o) (.bool false) (by first | exact ⟨p0_9, p1_9, p2_9⟩ | exact ⟨al p0_9, al p1_9, al p2_9⟩ | exact ⟨al (al p0_9), al (al p1_9), al (al p2_9)⟩)
  have zq_10 : w.heap.size + 1 < w10.heap.size := by omega
  obtain ⟨q0_10, q1_10, q2_10⟩ := keep3 hb10 (w.heap.size + 1) (.int .i64 t') (.int .i64 o') (.bool false) (by first | exact ⟨q0_9, q1_9, q2_9⟩ | exact ⟨al q0_9, al q1_9, al q2_9⟩ | exact ⟨al (al q0_9), al (al q1_9), al (al q2_9)⟩)
  have za_10 : w4.heap.size < w10.heap.size := by omega
  obtain ⟨a0_10, a1_10, a2_10⟩ := keep3 hb10 (w4.heap.size) (.int .i64 t) (.int .i64 (o + n)) (.bool false) (by first | exact ⟨a0_9, a1_9, a2_9⟩ | exact ⟨al a0_9, al a1_9, al a2_9⟩ | exact ⟨al (al a0_9), al (al a1_9), al (al a2_9)⟩)
  have fa_10 := keepf hb10 (w4.heap.size) (by first | (simp; done) | (simp; omega)) (by first | exact fa_9 | exact alf fa_9 | exact alf (alf fa_9))
  have zs_10 : w9.heap.size < w10.heap.size := by omega
  obtain ⟨s0_10, s1_10, s2_10⟩ := keep3 hb10 (w9.heap.size) (.int .i64 t) (.int .i64 o) (.bool false) (by simp [go_sem])
  clear p0_9 p1_9 p2_9 zp_9 q0_9 q1_9 q2_9 zq_9 a0_9 a1_9 a2_9 za_9 fa_9 hB9 hs10 hb10
  clear s0_10 s1_10 s2_10 zs_10
  clear a0_10 a1_10 a2_10 fa_10 za_10
  go_wp2_with (fail)
  refine (k_pass_back hp hq n0 n1 ha hb _).mono ?_
  rintro e w11 ⟨rfl, hb11⟩
  have hs11 := hb11.size
  try simp only [World.size_setCell] at hs11
  try simp only [World.size_alloc] at hs11
  have hB11 : Below w.heap.size w w11 := over hb11 (by go_grown)
  have zp_11 : w.heap.size < w11.heap.size := by omega
  obtain ⟨p0_11, p1_11, p2_11⟩ := keep3 hb11 (w.heap.size) (.int .i64 t) (.int .i64 o) (.bool false) (by first | exact ⟨p0_10, p1_10, p2_10⟩ | exact ⟨al p0_10, al p1_10, al p2_10⟩ | exact ⟨al (al p0_10), al (al p1_10), al (al p2_10)⟩)
  have zq_11 : w.heap.size + 1 < w11.heap.size := by omega
  obtain ⟨q0_11, q1_11, q2_11⟩ := keep3 hb11 (w.heap.size + 1) (.int .i64 t') (.int .i64 o') (.bool false) (by first | exact ⟨q0_10, q1_10, q2_10⟩ | exact ⟨al q0_10, al q1_10, al q2_10⟩ | exact ⟨al (al q0_10), al (al q1_10), al (al q2_10)⟩)
  have zx_11 : w10.heap.size < w11.heap.size := by omega
  obtain ⟨x0_11, x1_11, x2_11⟩ := keep3 hb11 (w10.heap.size) (.int .i64 (t - n)) (.int .i64 o) (.bool false) (by simp [go_sem])
  have zy_11 : w10.heap.size + 1 < w11.heap.size := by omega
  obtain ⟨y0_11, y1_11, y2_11⟩ := keep3 hb11 (w10.heap.size + 1) (.int .i64 (t' + n)) (.int .i64 o') (.bool false) (by simp [go_sem])
  clear p0_10 p1_10 p2_10 zp_10 q0_10 q1_10 q2_10 zq_10 hB10 hs11 hb11
  go_wp2
  go_ret
  exact ⟨rfl, by go_grown⟩

end Go.Proofs.Ytblegaclcpoonab.Agent
