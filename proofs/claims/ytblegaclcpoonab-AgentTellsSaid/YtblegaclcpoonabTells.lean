/- AgentTells: every function of package agent returns what the reference returns. -/
import Derived.Test.YtblegaclcpoonabRefP
import Derived.Test.YtblegaclcpoonabSmall
import Derived.Test.YtblegaclcpoonabBackC
import Derived.Deep.RegionHeld3
namespace Go.Proofs.Ytblegaclcpoonab.Agent
open Go.ChangeShapes Go.WideShapes Go.ChangeAt Go.RowKit
set_option linter.unusedVariables false

/-- what a step keeps of three blocks, and of what was there at first -/
theorem held_on {w W W' : World} {p a b : Nat} {x0 x1 x2 y0 y1 y2 z0 z1 z2 : Value} (hb : Below W.heap.size W W')
    (h : Below w.heap.size w W ∧ W.cell? ⟨p, 0, none⟩ = some x0 ∧ W.cell? ⟨p, 1, none⟩ = some x1 ∧ W.cell? ⟨p, 2, none⟩ = some x2 ∧ W.cell? ⟨a, 0, none⟩ = some y0 ∧ W.cell? ⟨a, 1, none⟩ = some y1 ∧ W.cell? ⟨a, 2, none⟩ = some y2 ∧ W.cell? ⟨b, 0, none⟩ = some z0 ∧ W.cell? ⟨b, 1, none⟩ = some z1 ∧ W.cell? ⟨b, 2, none⟩ = some z2) :
    Below w.heap.size w W' ∧ W'.cell? ⟨p, 0, none⟩ = some x0 ∧ W'.cell? ⟨p, 1, none⟩ = some x1 ∧ W'.cell? ⟨p, 2, none⟩ = some x2 ∧ W'.cell? ⟨a, 0, none⟩ = some y0 ∧ W'.cell? ⟨a, 1, none⟩ = some y1 ∧ W'.cell? ⟨a, 2, none⟩ = some y2 ∧ W'.cell? ⟨b, 0, none⟩ = some z0 ∧ W'.cell? ⟨b, 1, none⟩ = some z1 ∧ W'.cell? ⟨b, 2, none⟩ = some z2 := by
  obtain ⟨h0, h1, h2, h3, h4, h5, h6, h7, h8, h9⟩ := h
  exact ⟨over hb h0, keep hb _ _ _ h1, keep hb _ _ _ h2, keep hb _ _ _ h3, keep hb _ _ _ h4, keep hb _ _ _ h5, keep hb _ _ _ h6, keep hb _ _ _ h7, keep hb _ _ _ h8, keep hb _ _ _ h9⟩

set_option maxRecDepth 100000 in
set_option maxHeartbeats 8000000 in
theorem tells_any (t o : Int) (g : Bool) (t' o' : Int) (g' : Bool) (n : Int) (w : World) :
    Calls Try.prog 4 #[pv t o g, pv t' o' g', .int .i64 n] w fun e w' => e = .returned (.bool true) ∧ Below w.heap.size w w' := by
  go_enter Try.func4, Try.ntmps4
  go_wp2_with (fail)
  refine (small_any _).mono ?_
  rintro e w1 ⟨rfl, hb1⟩
  have hs1 := hb1.size
  try simp only [World.size_setCell] at hs1
  try simp only [World.size_alloc] at hs1
  have hB1 : Below w.heap.size w w1 := over hb1 (by go_grown)
  have zp_1 : w.heap.size < w1.heap.size := by omega
  obtain ⟨p0_1, p1_1, p2_1⟩ := keep3 hb1 (w.heap.size) (.int .i64 t) (.int .i64 o) (.bool g) (by simp [go_sem])
  have zq_1 : w.heap.size + 1 < w1.heap.size := by omega
  obtain ⟨q0_1, q1_1, q2_1⟩ := keep3 hb1 (w.heap.size + 1) (.int .i64 t') (.int .i64 o') (.bool g') (by simp [go_sem])
  clear hs1 hb1
  go_wp2_with (fail)
  refine (take_any _ _ _ _ _).mono ?_
  rintro e w2 ⟨rfl, hb2⟩
  have hs2 := hb2.size
  try simp only [World.size_setCell] at hs2
  try simp only [World.size_alloc] at hs2
  have hB2 : Below w.heap.size w w2 := over hb2 (by go_grown)
  have zp_2 : w.heap.size < w2.heap.size := by omega
  obtain ⟨p0_2, p1_2, p2_2⟩ := keep3 hb2 (w.heap.size) (.int .i64 t) (.int .i64 o) (.bool g) (by first | exact ⟨p0_1, p1_1, p2_1⟩ | exact ⟨al p0_1, al p1_1, al p2_1⟩ | exact ⟨al (al p0_1), al (al p1_1), al (al p2_1)⟩)
  have zq_2 : w.heap.size + 1 < w2.heap.size := by omega
  obtain ⟨q0_2, q1_2, q2_2⟩ := keep3 hb2 (w.heap.size + 1) (.int .i64 t') (.int .i64 o') (.bool g') (by first | exact ⟨q0_1, q1_1, q2_1⟩ | exact ⟨al q0_1, al q1_1, al q2_1⟩ | exact ⟨al (al q0_1), al (al q1_1), al (al q2_1)⟩)
  clear p0_1 p1_1 p2_1 zp_1 q0_1 q1_1 q2_1 zq_1 hB1 hs2 hb2
  have la : w.heap.size ≤ w2.heap.size := by omega
  have nap : ¬ w2.heap.size = w.heap.size := by omega
  have map : ¬ w.heap.size = w2.heap.size := by omega
  have naq : ¬ w2.heap.size = w.heap.size + 1 := by omega
  have maq : ¬ w.heap.size + 1 = w2.heap.size := by omega
  go_wp2_with (fail)
  refine (take_ref _ _ _ _ _).mono ?_
  rintro e w3 ⟨rfl, hb3⟩
  have hs3 := hb3.size
  try simp only [World.size_setCell] at hs3
  try simp only [World.size_alloc] at hs3
  have hB3 : Below w.heap.size w w3 := over hb3 (by go_grown)
  have zp_3 : w.heap.size < w3.heap.size := by omega
  obtain ⟨p0_3, p1_3, p2_3⟩ := keep3 hb3 (w.heap.size) (.int .i64 t) (.int .i64 o) (.bool g) (by first | exact ⟨p0_2, p1_2, p2_2⟩ | exact ⟨al p0_2, al p1_2, al p2_2⟩ | exact ⟨al (al p0_2), al (al p1_2), al (al p2_2)⟩)
  have zq_3 : w.heap.size + 1 < w3.heap.size := by omega
  obtain ⟨q0_3, q1_3, q2_3⟩ := keep3 hb3 (w.heap.size + 1) (.int .i64 t') (.int .i64 o') (.bool g') (by first | exact ⟨q0_2, q1_2, q2_2⟩ | exact ⟨al q0_2, al q1_2, al q2_2⟩ | exact ⟨al (al q0_2), al (al q1_2), al (al q2_2)⟩)
  have za_3 : w2.heap.size < w3.heap.size := by omega
  obtain ⟨a0_3, a1_3, a2_3⟩ := keep3 hb3 (w2.heap.size) (.int .i64 (chV t o g n t n)) (.int .i64 o) (.bool g) (by simp [go_sem])
  have fa_3 := keepf hb3 (w2.heap.size) (by first | (simp; done) | (simp; omega)) (fun j => by simp [go_sem])
  clear p0_2 p1_2 p2_2 zp_2 q0_2 q1_2 q2_2 zq_2 hB2 hs3 hb3
  have lb : w.heap.size ≤ w3.heap.size := by omega
  have nbp : ¬ w3.heap.size = w.heap.size := by omega
  have mbp : ¬ w.heap.size = w3.heap.size := by omega
  have nbq : ¬ w3.heap.size = w.heap.size + 1 := by omega
  have mbq : ¬ w.heap.size + 1 = w3.heap.size := by omega
  have nba : ¬ w3.heap.size = w2.heap.size := by omega
  have mba : ¬ w2.heap.size = w3.heap.size := by omega
  go_wp2_with (fail)
  refine (pay_any _ _ _ _ _).mono ?_
  rintro e w4 ⟨rfl, hb4⟩
  have hs4 := hb4.size
  try simp only [World.size_setCell] at hs4
  try simp only [World.size_alloc] at hs4
  have hB4 : Below w.heap.size w w4 := over hb4 (by go_grown)
  have zp_4 : w.heap.size < w4.heap.size := by omega
  obtain ⟨p0_4, p1_4, p2_4⟩ := keep3 hb4 (w.heap.size) (.int .i64 t) (.int .i64 o) (.bool g) (by first | exact ⟨p0_3, p1_3, p2_3⟩ | exact ⟨al p0_3, al p1_3, al p2_3⟩ | exact ⟨al (al p0_3), al (al p1_3), al (al p2_3)⟩)
  have zq_4 : w.heap.size + 1 < w4.heap.size := by omega
  obtain ⟨q0_4, q1_4, q2_4⟩ := keep3 hb4 (w.heap.size + 1) (.int .i64 t') (.int .i64 o') (.bool g') (by first | exact ⟨q0_3, q1_3, q2_3⟩ | exact ⟨al q0_3, al q1_3, al q2_3⟩ | exact ⟨al (al q0_3), al (al q1_3), al (al q2_3)⟩)
  have za_4 : w2.heap.size < w4.heap.size := by omega
  obtain ⟨a0_4, a1_4, a2_4⟩ := keep3 hb4 (w2.heap.size) (.int .i64 (chV t o g n t n)) (.int .i64 o) (.bool g) (by first | exact ⟨a0_3, a1_3, a2_3⟩ | exact ⟨al a0_3, al a1_3, al a2_3⟩ | exact ⟨al (al a0_3), al (al a1_3), al (al a2_3)⟩)
  have fa_4 := keepf hb4 (w2.heap.size) (by first | (simp; done) | (simp; omega)) (by first | exact fa_3 | exact alf fa_3 | exact alf (alf fa_3))
  have zb_4 : w3.heap.size < w4.heap.size := by omega
  obtain ⟨b0_4, b1_4, b2_4⟩ := keep3 hb4 (w3.heap.size) (.int .i64 (chV t o g n t n)) (.int .i64 o) (.bool g) (by simp [go_sem])
  have fb_4 := keepf hb4 (w3.heap.size) (by first | (simp; done) | (simp; omega)) (fun j => by simp [go_sem])
  clear p0_3 p1_3 p2_3 zp_3 q0_3 q1_3 q2_3 zq_3 a0_3 a1_3 a2_3 za_3 fa_3 hB3 hs4 hb4
  have lc : w.heap.size ≤ w4.heap.size := by omega
  have ncp : ¬ w4.heap.size = w.heap.size := by omega
  have mcp : ¬ w.heap.size = w4.heap.size := by omega
  have ncq : ¬ w4.heap.size = w.heap.size + 1 := by omega
  have mcq : ¬ w.heap.size + 1 = w4.heap.size := by omega
  have nca : ¬ w4.heap.size = w2.heap.size := by omega
  have mca : ¬ w2.heap.size = w4.heap.size := by omega
  have ncb : ¬ w4.heap.size = w3.heap.size := by omega
  have mcb : ¬ w3.heap.size = w4.heap.size := by omega
  go_wp2_with (fail)
  refine (pay_ref _ _ _ _ _).mono ?_
  rintro e w5 ⟨rfl, hb5⟩
  have hs5 := hb5.size
  try simp only [World.size_setCell] at hs5
  try simp only [World.size_alloc] at hs5
  have hB5 : Below w.heap.size w w5 := over hb5 (by go_grown)
  have zp_5 : w.heap.size < w5.heap.size := by omega
  obtain ⟨p0_5, p1_5, p2_5⟩ := keep3 hb5 (w.heap.size) (.int .i64 t) (.int .i64 o) (.bool g) (by first | exact ⟨p0_4, p1_4, p2_4⟩ | exact ⟨al p0_4, al p1_4, al p2_4⟩ | exact ⟨al (al p0_4), al (al p1_4), al (al p2_4)⟩)
  have zq_5 : w.heap.size + 1 < w5.heap.size := by omega
  obtain ⟨q0_5, q1_5, q2_5⟩ := keep3 hb5 (w.heap.size + 1) (.int .i64 t') (.int .i64 o') (.bool g') (by first | exact ⟨q0_4, q1_4, q2_4⟩ | exact ⟨al q0_4, al q1_4, al q2_4⟩ | exact ⟨al (al q0_4), al (al q1_4), al (al q2_4)⟩)
  have za_5 : w2.heap.size < w5.heap.size := by omega
  obtain ⟨a0_5, a1_5, a2_5⟩ := keep3 hb5 (w2.heap.size) (.int .i64 (chV t o g n t n)) (.int .i64 o) (.bool g) (by first | exact ⟨a0_4, a1_4, a2_4⟩ | exact ⟨al a0_4, al a1_4, al a2_4⟩ | exact ⟨al (al a0_4), al (al a1_4), al (al a2_4)⟩)
  have fa_5 := keepf hb5 (w2.heap.size) (by first | (simp; done) | (simp; omega)) (by first | exact fa_4 | exact alf fa_4 | exact alf (alf fa_4))
  have zb_5 : w3.heap.size < w5.heap.size := by omega
  obtain ⟨b0_5, b1_5, b2_5⟩ := keep3 hb5 (w3.heap.size) (.int .i64 (chV t o g n t n)) (.int .i64 o) (.bool g) (by first | exact ⟨b0_4, b1_4, b2_4⟩ | exact ⟨al b0_4, al b1_4, al b2_4⟩ | exact ⟨al (al b0_4), al (al b1_4), al (al b2_4)⟩)
  have fb_5 := keepf hb5 (w3.heap.size) (by first | (simp; done) | (simp; omega)) (by first | exact fb_4 | exact alf fb_4 | exact alf (alf fb_4))
  have zc_5 : w4.heap.size < w5.heap.size := by omega
  obtain ⟨c0_5, c1_5, c2_5⟩ := keep3 hb5 (w4.heap.size) (.int .i64 (chV t o g n t (-n))) (.int .i64 o) (.bool g) (by simp [go_sem])
  have fc_5 := keepf hb5 (w4.heap.size) (by first | (simp; done) | (simp; omega)) (fun j => by simp [go_sem])
  clear p0_4 p1_4 p2_4 zp_4 q0_4 q1_4 q2_4 zq_4 a0_4 a1_4 a2_4 za_4 fa_4 b0_4 b1_4 b2_4 zb_4 fb_4 hB4 hs5 hb5
  have ld : w.heap.size ≤ w5.heap.size := by omega
  have ndp : ¬ w5.heap.size = w.heap.size := by omega
  have mdp : ¬ w.heap.size = w5.heap.size := by omega
  have ndq : ¬ w5.heap.size = w.heap.size + 1 := by omega
  have mdq : ¬ w.heap.size + 1 = w5.heap.size := by omega
  have nda : ¬ w5.heap.size = w2.heap.size := by omega
  have mda : ¬ w2.heap.size = w5.heap.size := by omega
  have ndb : ¬ w5.heap.size = w3.heap.size := by omega
  have mdb : ¬ w3.heap.size = w5.heap.size := by omega
  have ndc : ¬ w5.heap.size = w4.heap.size := by omega
  have mdc : ¬ w4.heap.size = w5.heap.size := by omega
  go_wp2_with (fail)
  refine (earn_any _ _ _ _ _).mono ?_
  rintro e w6 ⟨rfl, hb6⟩
  have hs6 := hb6.size
  try simp only [World.size_setCell] at hs6
  try simp only [World.size_alloc] at hs6
  have hB6 : Below w.heap.size w w6 := over hb6 (by go_grown)
  have zp_6 : w.heap.size < w6.heap.size := by omega
  obtain ⟨p0_6, p1_6, p2_6⟩ := keep3 hb6 (w.heap.size) (.int .i64 t) (.int .i64 o) (.bool g) (by first | exact ⟨p0_5, p1_5, p2_5⟩ | exact ⟨al p0_5, al p1_5, al p2_5⟩ | exact ⟨al (al p0_5), al (al p1_5), al (al p2_5)⟩)
  have zq_6 : w.heap.size + 1 < w6.heap.size := by omega
  obtain ⟨q0_6, q1_6, q2_6⟩ := keep3 hb6 (w.heap.size + 1) (.int .i64 t') (.int .i64 o') (.bool g') (by first | exact ⟨q0_5, q1_5, q2_5⟩ | exact ⟨al q0_5, al q1_5, al q2_5⟩ | exact ⟨al (al q0_5), al (al q1_5), al (al q2_5)⟩)
  have za_6 : w2.heap.size < w6.heap.size := by omega
  obtain ⟨a0_6, a1_6, a2_6⟩ := keep3 hb6 (w2.heap.size) (.int .i64 (chV t o g n t n)) (.int .i64 o) (.bool g) (by first | exact ⟨a0_5, a1_5, a2_5⟩ | exact ⟨al a0_5, al a1_5, al a2_5⟩ | exact ⟨al (al a0_5), al (al a1_5), al (al a2_5)⟩)
  have fa_6 := keepf hb6 (w2.heap.size) (by first | (simp; done) | (simp; omega)) (by first | exact fa_5 | exact alf fa_5 | exact alf (alf fa_5))
  have zb_6 : w3.heap.size < w6.heap.size := by omega
  obtain ⟨b0_6, b1_6, b2_6⟩ := keep3 hb6 (w3.heap.size) (.int .i64 (chV t o g n t n)) (.int .i64 o) (.bool g) (by first | exact ⟨b0_5, b1_5, b2_5⟩ | exact ⟨al b0_5, al b1_5, al b2_5⟩ | exact ⟨al (al b0_5), al (al b1_5), al (al b2_5)⟩)
  have fb_6 := keepf hb6 (w3.heap.size) (by first | (simp; done) | (simp; omega)) (by first | exact fb_5 | exact alf fb_5 | exact alf (alf fb_5))
  have zc_6 : w4.heap.size < w6.heap.size := by omega
  obtain ⟨c0_6, c1_6, c2_6⟩ := keep3 hb6 (w4.heap.size) (.int .i64 (chV t o g n t (-n))) (.int .i64 o) (.bool g) (by first | exact ⟨c0_5, c1_5, c2_5⟩ | exact ⟨al c0_5, al c1_5, al c2_5⟩ | exact ⟨al (al c0_5), al (al c1_5), al (al c2_5)⟩)
  have fc_6 := keepf hb6 (w4.heap.size) (by first | (simp; done) | (simp; omega)) (by first | exact fc_5 | exact alf fc_5 | exact alf (alf fc_5))
  have zd_6 : w5.heap.size < w6.heap.size := by omega
  obtain ⟨d0_6, d1_6, d2_6⟩ := keep3 hb6 (w5.heap.size) (.int .i64 (chV t o g n t (-n))) (.int .i64 o) (.bool g) (by simp [go_sem])
  have fd_6 := keepf hb6 (w5.heap.size) (by first | (simp; done) | (simp; omega)) (fun j => by simp [go_sem])
  clear p0_5 p1_5 p2_5 zp_5 q0_5 q1_5 q2_5 zq_5 a0_5 a1_5 a2_5 za_5 fa_5 b0_5 b1_5 b2_5 zb_5 fb_5 c0_5 c1_5 c2_5 zc_5 fc_5 hB5 hs6 hb6
  go_wp2_with (fail)
  refine (earn_ref _ _ _ _ _).mono ?_
  rintro e w7 ⟨rfl, hb7⟩
  have hs7 := hb7.size
  try simp only [World.size_setCell] at hs7
  try simp only [World.size_alloc] at hs7
  have hB7 : Below w.heap.size w w7 := over hb7 (by go_grown)
  have zp_7 : w.heap.size < w7.heap.size := by omega
  obtain ⟨p0_7, p1_7, p2_7⟩ := keep3 hb7 (w.heap.size) (.int .i64 t) (.int .i64 o) (.bool g) (by simp [go_sem, p0_6, p1_6, p2_6])
  have zq_7 : w.heap.size + 1 < w7.heap.size := by omega
  obtain ⟨q0_7, q1_7, q2_7⟩ := keep3 hb7 (w.heap.size + 1) (.int .i64 t') (.int .i64 o') (.bool g') (by simp [go_sem, q0_6, q1_6, q2_6])
  have za_7 : w2.heap.size < w7.heap.size := by omega
  obtain ⟨a0_7, a1_7, a2_7⟩ := keep3 hb7 (w2.heap.size) (.int .i64 t) (.int .i64 (chV t o g n o n)) (.bool g) (by simp [go_sem, a0_6, a1_6, a2_6])
  have fa_7 := keepf hb7 (w2.heap.size) (by first | (simp; done) | (simp; omega)) (fun j => by simp [go_sem, fa_6])
  have zb_7 : w3.heap.size < w7.heap.size := by omega
  obtain ⟨b0_7, b1_7, b2_7⟩ := keep3 hb7 (w3.heap.size) (.int .i64 (chV t o g n t n)) (.int .i64 o) (.bool g) (by simp [go_sem, b0_6, b1_6, b2_6])
  have fb_7 := keepf hb7 (w3.heap.size) (by first | (simp; done) | (simp; omega)) (fun j => by simp [go_sem, fb_6])
  have zc_7 : w4.heap.size < w7.heap.size := by omega
  obtain ⟨c0_7, c1_7, c2_7⟩ := keep3 hb7 (w4.heap.size) (.int .i64 (chV t o g n t (-n))) (.int .i64 o) (.bool g) (by simp [go_sem, c0_6, c1_6, c2_6])
  have fc_7 := keepf hb7 (w4.heap.size) (by first | (simp; done) | (simp; omega)) (fun j => by simp [go_sem, fc_6])
  have zd_7 : w5.heap.size < w7.heap.size := by omega
  obtain ⟨d0_7, d1_7, d2_7⟩ := keep3 hb7 (w5.heap.size) (.int .i64 (chV t o g n t (-n))) (.int .i64 o) (.bool g) (by simp [go_sem, d0_6, d1_6, d2_6])
  have fd_7 := keepf hb7 (w5.heap.size) (by first | (simp; done) | (simp; omega)) (fun j => by simp [go_sem, fd_6])
  clear p0_6 p1_6 p2_6 zp_6 q0_6 q1_6 q2_6 zq_6 a0_6 a1_6 a2_6 za_6 fa_6 b0_6 b1_6 b2_6 zb_6 fb_6 c0_6 c1_6 c2_6 zc_6 fc_6 d0_6 d1_6 d2_6 zd_6 fd_6 hB6 hs7 hb7
  go_wp2_with (fail)
  refine (spend_any _ _ _ _ _).mono ?_
  rintro e w8 ⟨rfl, hb8⟩
  have hs8 := hb8.size
  try simp only [World.size_setCell] at hs8
  try simp only [World.size_alloc] at hs8
  have hB8 : Below w.heap.size w w8 := over hb8 (by go_grown)
  have zp_8 : w.heap.size < w8.heap.size := by omega
  obtain ⟨p0_8, p1_8, p2_8⟩ := keep3 hb8 (w.heap.size) (.int .i64 t) (.int .i64 o) (.bool g) (by simp [go_sem, p0_7, p1_7, p2_7])
  have zq_8 : w.heap.size + 1 < w8.heap.size := by omega
  obtain ⟨q0_8, q1_8, q2_8⟩ := keep3 hb8 (w.heap.size + 1) (.int .i64 t') (.int .i64 o') (.bool g') (by simp [go_sem, q0_7, q1_7, q2_7])
  have za_8 : w2.heap.size < w8.heap.size := by omega
  obtain ⟨a0_8, a1_8, a2_8⟩ := keep3 hb8 (w2.heap.size) (.int .i64 t) (.int .i64 (chV t o g n o n)) (.bool g) (by simp [go_sem, a0_7, a1_7, a2_7])
  have fa_8 := keepf hb8 (w2.heap.size) (by first | (simp; done) | (simp; omega)) (fun j => by simp [go_sem, fa_7])
  have zb_8 : w3.heap.size < w8.heap.size := by omega
  obtain ⟨b0_8, b1_8, b2_8⟩ := keep3 hb8 (w3.heap.size) (.int .i64 t) (.int .i64 (chV t o g n o n)) (.bool g) (by simp [go_sem, b0_7, b1_7, b2_7])
  have fb_8 := keepf hb8 (w3.heap.size) (by first | (simp; done) | (simp; omega)) (fun j => by simp [go_sem, fb_7])
  have zc_8 : w4.heap.size < w8.heap.size := by omega
  obtain ⟨c0_8, c1_8, c2_8⟩ := keep3 hb8 (w4.heap.size) (.int .i64 (chV t o g n t (-n))) (.int .i64 o) (.bool g) (by simp [go_sem, c0_7, c1_7, c2_7])
  have fc_8 := keepf hb8 (w4.heap.size) (by first | (simp; done) | (simp; omega)) (fun j => by simp [go_sem, fc_7])
  have zd_8 : w5.heap.size < w8.heap.size := by omega
  obtain ⟨d0_8, d1_8, d2_8⟩ := keep3 hb8 (w5.heap.size) (.int .i64 (chV t o g n t (-n))) (.int .i64 o) (.bool g) (by simp [go_sem, d0_7, d1_7, d2_7])
  have fd_8 := keepf hb8 (w5.heap.size) (by first | (simp; done) | (simp; omega)) (fun j => by simp [go_sem, fd_7])
  clear p0_7 p1_7 p2_7 zp_7 q0_7 q1_7 q2_7 zq_7 a0_7 a1_7 a2_7 za_7 fa_7 b0_7 b1_7 b2_7 zb_7 fb_7 c0_7 c1_7 c2_7 zc_7 fc_7 d0_7 d1_7 d2_7 zd_7 fd_7 hB7 hs8 hb8
  go_wp2_with (fail)
  refine (spend_ref _ _ _ _ _).mono ?_
  rintro e w9 ⟨rfl, hb9⟩
  have hs9 := hb9.size
  try simp only [World.size_setCell] at hs9
  try simp only [World.size_alloc] at hs9
  have hB9 : Below w.heap.size w w9 := over hb9 (by go_grown)
  have zp_9 : w.heap.size < w9.heap.size := by omega
  obtain ⟨p0_9, p1_9, p2_9⟩ := keep3 hb9 (w.heap.size) (.int .i64 t) (.int .i64 o) (.bool g) (by simp [go_sem, p0_8, p1_8, p2_8])
  have zq_9 : w.heap.size + 1 < w9.heap.size := by omega
  obtain ⟨q0_9, q1_9, q2_9⟩ := keep3 hb9 (w.heap.size + 1) (.int .i64 t') (.int .i64 o') (.bool g') (by simp [go_sem, q0_8, q1_8, q2_8])
  have za_9 : w2.heap.size < w9.heap.size := by omega
  obtain ⟨a0_9, a1_9, a2_9⟩ := keep3 hb9 (w2.heap.size) (.int .i64 t) (.int .i64 (chV t o g n o n)) (.bool g) (by simp [go_sem, a0_8, a1_8, a2_8])
  have fa_9 := keepf hb9 (w2.heap.size) (by first | (simp; done) | (simp; omega)) (fun j => by simp [go_sem, fa_8])
  have zb_9 : w3.heap.size < w9.heap.size := by omega
  obtain ⟨b0_9, b1_9, b2_9⟩ := keep3 hb9 (w3.heap.size) (.int .i64 t) (.int .i64 (chV t o g n o n)) (.bool g) (by simp [go_sem, b0_8, b1_8, b2_8])
  have fb_9 := keepf hb9 (w3.heap.size) (by first | (simp; done) | (simp; omega)) (fun j => by simp [go_sem, fb_8])
  have zc_9 : w4.heap.size < w9.heap.size := by omega
  obtain ⟨c0_9, c1_9, c2_9⟩ := keep3 hb9 (w4.heap.size) (.int .i64 t) (.int .i64 (chV t o g n o (-n))) (.bool g) (by simp [go_sem, c0_8, c1_8, c2_8])
  have fc_9 := keepf hb9 (w4.heap.size) (by first | (simp; done) | (simp; omega)) (fun j => by simp [go_sem, fc_8])
  have zd_9 : w5.heap.size < w9.heap.size := by omega
  obtain ⟨d0_9, d1_9, d2_9⟩ := keep3 hb9 (w5.heap.size) (.int .i64 (chV t o g n t (-n))) (.int .i64 o) (.bool g) (by simp [go_sem, d0_8, d1_8, d2_8])
  have fd_9 := keepf hb9 (w5.heap.size) (by first | (simp; done) | (simp; omega)) (fun j => by simp [go_sem, fd_8])
  clear p0_8 p1_8 p2_8 zp_8 q0_8 q1_8 q2_8 zq_8 a0_8 a1_8 a2_8 za_8 fa_8 b0_8 b1_8 b2_8 zb_8 fb_8 c0_8 c1_8 c2_8 zc_8 fc_8 d0_8 d1_8 d2_8 zd_8 fd_8 hB8 hs9 hb9
  go_wp2_with (fail)
  refine (pass_any _ _ _ _ _ _ _ _).mono ?_
  rintro e w10 ⟨rfl, hb10⟩
  have hs10 := hb10.size
  try simp only [World.size_setCell] at hs10
  try simp only [World.size_alloc] at hs10
  have hB10 : Below w.heap.size w w10 := over hb10 (by go_grown)
  have zp_10 : w.heap.size < w10.heap.size := by omega
  obtain ⟨p0_10, p1_10, p2_10⟩ := keep3 hb10 (w.heap.size) (.int .i64 t) (.int .i64 o) (.bool g) (by simp [go_sem, p0_9, p1_9, p2_9])
  have zq_10 : w.heap.size + 1 < w10.heap.size := by omega
  obtain ⟨q0_10, q1_10, q2_10⟩ := keep3 hb10 (w.heap.size + 1) (.int .i64 t') (.int .i64 o') (.bool g') (by simp [go_sem, q0_9, q1_9, q2_9])
  have za_10 : w2.heap.size < w10.heap.size := by omega
  obtain ⟨a0_10, a1_10, a2_10⟩ := keep3 hb10 (w2.heap.size) (.int .i64 t) (.int .i64 (chV t o g n o n)) (.bool g) (by simp [go_sem, a0_9, a1_9, a2_9])
  have fa_10 := keepf hb10 (w2.heap.size) (by first | (simp; done) | (simp; omega)) (fun j => by simp [go_sem, fa_9])
  have zb_10 : w3.heap.size < w10.heap.size := by omega
  obtain ⟨b0_10, b1_10, b2_10⟩ := keep3 hb10 (w3.heap.size) (.int .i64 t) (.int .i64 (chV t o g n o n)) (.bool g) (by simp [go_sem, b0_9, b1_9, b2_9])
  have fb_10 := keepf hb10 (w3.heap.size) (by first | (simp; done) | (simp; omega)) (fun j => by simp [go_sem, fb_9])
  have zc_10 : w4.heap.size < w10.heap.size := by omega
  obtain ⟨c0_10, c1_10, c2_10⟩ := keep3 hb10 (w4.heap.size) (.int .i64 t) (.int .i64 (chV t o g n o (-n))) (.bool g) (by simp [go_sem, c0_9, c1_9, c2_9])
  have fc_10 := keepf hb10 (w4.heap.size) (by first | (simp; done) | (simp; omega)) (fun j => by simp [go_sem, fc_9])
  have zd_10 : w5.heap.size < w10.heap.size := by omega
  obtain ⟨d0_10, d1_10, d2_10⟩ := keep3 hb10 (w5.heap.size) (.int .i64 t) (.int .i64 (chV t o g n o (-n))) (.bool g) (by simp [go_sem, d0_9, d1_9, d2_9])
  have fd_10 := keepf hb10 (w5.heap.size) (by first | (simp; done) | (simp; omega)) (fun j => by simp [go_sem, fd_9])
  clear p0_9 p1_9 p2_9 zp_9 q0_9 q1_9 q2_9 zq_9 a0_9 a1_9 a2_9 za_9 fa_9 b0_9 b1_9 b2_9 zb_9 fb_9 c0_9 c1_9 c2_9 zc_9 fc_9 d0_9 d1_9 d2_9 zd_9 fd_9 hB9 hs10 hb10
  go_wp2_with (fail)
  refine (pass_ref _ _ _ _ _ _ _ _).mono ?_
  rintro e w11 ⟨rfl, hb11⟩
  have hs11 := hb11.size
  try simp only [World.size_setCell] at hs11
  try simp only [World.size_alloc] at hs11
  have hB11 : Below w.heap.size w w11 := over hb11 (by go_grown)
  have zp_11 : w.heap.size < w11.heap.size := by omega
  obtain ⟨p0_11, p1_11, p2_11⟩ := keep3 hb11 (w.heap.size) (.int .i64 t) (.int .i64 o) (.bool g) (by simp [go_sem, p0_10, p1_10, p2_10])
  have zq_11 : w.heap.size + 1 < w11.heap.size := by omega
  obtain ⟨q0_11, q1_11, q2_11⟩ := keep3 hb11 (w.heap.size + 1) (.int .i64 t') (.int .i64 o') (.bool g') (by simp [go_sem, q0_10, q1_10, q2_10])
  have za_11 : w2.heap.size < w11.heap.size := by omega
  obtain ⟨a0_11, a1_11, a2_11⟩ := keep3 hb11 (w2.heap.size) (.int .i64 (psV t o g t' o' g' n)) (.int .i64 o) (.bool g) (by simp [go_sem, a0_10, a1_10, a2_10])
  have fa_11 := keepf hb11 (w2.heap.size) (by first | (simp; done) | (simp; omega)) (fun j => by simp [go_sem, fa_10])
  have zb_11 : w3.heap.size < w11.heap.size := by omega
  obtain ⟨b0_11, b1_11, b2_11⟩ := keep3 hb11 (w3.heap.size) (.int .i64 t) (.int .i64 (chV t o g n o n)) (.bool g) (by simp [go_sem, b0_10, b1_10, b2_10])
  have fb_11 := keepf hb11 (w3.heap.size) (by first | (simp; done) | (simp; omega)) (fun j => by simp [go_sem, fb_10])
  have zc_11 : w4.heap.size < w11.heap.size := by omega
  obtain ⟨c0_11, c1_11, c2_11⟩ := keep3 hb11 (w4.heap.size) (.int .i64 (psW t o g t' o' g' n)) (.int .i64 o') (.bool g') (by simp [go_sem, c0_10, c1_10, c2_10])
  have fc_11 := keepf hb11 (w4.heap.size) (by first | (simp; done) | (simp; omega)) (fun j => by simp [go_sem, fc_10])
  have zd_11 : w5.heap.size < w11.heap.size := by omega
  obtain ⟨d0_11, d1_11, d2_11⟩ := keep3 hb11 (w5.heap.size) (.int .i64 t) (.int .i64 (chV t o g n o (-n))) (.bool g) (by simp [go_sem, d0_10, d1_10, d2_10])
  have fd_11 := keepf hb11 (w5.heap.size) (by first | (simp; done) | (simp; omega)) (fun j => by simp [go_sem, fd_10])
  clear p0_10 p1_10 p2_10 zp_10 q0_10 q1_10 q2_10 zq_10 a0_10 a1_10 a2_10 za_10 fa_10 b0_10 b1_10 b2_10 zb_10 fb_10 c0_10 c1_10 c2_10 zc_10 fc_10 d0_10 d1_10 d2_10 zd_10 fd_10 hB10 hs11 hb11
  go_wp2_with (fail)
  refine (break_any _ _ _ _).mono ?_
  rintro e w12 ⟨rfl, hb12⟩
  have hs12 := hb12.size
  try simp only [World.size_setCell] at hs12
  try simp only [World.size_alloc] at hs12
  have hB12 : Below w.heap.size w w12 := over hb12 (by go_grown)
  have zp_12 : w.heap.size < w12.heap.size := by omega
  obtain ⟨p0_12, p1_12, p2_12⟩ := keep3 hb12 (w.heap.size) (.int .i64 t) (.int .i64 o) (.bool g) (by simp [go_sem, p0_11, p1_11, p2_11])
  have zq_12 : w.heap.size + 1 < w12.heap.size := by omega
  obtain ⟨q0_12, q1_12, q2_12⟩ := keep3 hb12 (w.heap.size + 1) (.int .i64 t') (.int .i64 o') (.bool g') (by simp [go_sem, q0_11, q1_11, q2_11])
  have za_12 : w2.heap.size < w12.heap.size := by omega
  obtain ⟨a0_12, a1_12, a2_12⟩ := keep3 hb12 (w2.heap.size) (.int .i64 (psV t o g t' o' g' n)) (.int .i64 o) (.bool g) (by simp [go_sem, a0_11, a1_11, a2_11])
  have fa_12 := keepf hb12 (w2.heap.size) (by first | (simp; done) | (simp; omega)) (fun j => by simp [go_sem, fa_11])
  have zb_12 : w3.heap.size < w12.heap.size := by omega
  obtain ⟨b0_12, b1_12, b2_12⟩ := keep3 hb12 (w3.heap.size) (.int .i64 (psV t o g t' o' g' n)) (.int .i64 o) (.bool g) (by simp [go_sem, b0_11, b1_11, b2_11])
  have fb_12 := keepf hb12 (w3.heap.size) (by first | (simp; done) | (simp; omega)) (fun j => by simp [go_sem, fb_11])
  have zc_12 : w4.heap.size < w12.heap.size := by omega
  obtain ⟨c0_12, c1_12, c2_12⟩ := keep3 hb12 (w4.heap.size) (.int .i64 (psW t o g t' o' g' n)) (.int .i64 o') (.bool g') (by simp [go_sem, c0_11, c1_11, c2_11])
  have fc_12 := keepf hb12 (w4.heap.size) (by first | (simp; done) | (simp; omega)) (fun j => by simp [go_sem, fc_11])
  have zd_12 : w5.heap.size < w12.heap.size := by omega
  obtain ⟨d0_12, d1_12, d2_12⟩ := keep3 hb12 (w5.heap.size) (.int .i64 (psW t o g t' o' g' n)) (.int .i64 o') (.bool g') (by simp [go_sem, d0_11, d1_11, d2_11])
  have fd_12 := keepf hb12 (w5.heap.size) (by first | (simp; done) | (simp; omega)) (fun j => by simp [go_sem, fd_11])
  clear p0_11 p1_11 p2_11 zp_11 q0_11 q1_11 q2_11 zq_11 a0_11 a1_11 a2_11 za_11 fa_11 b0_11 b1_11 b2_11 zb_11 fb_11 c0_11 c1_11 c2_11 zc_11 fc_11 d0_11 d1_11 d2_11 zd_11 fd_11 hB11 hs12 hb12
  clear q0_12 q1_12 q2_12 zq_12
  clear c0_12 c1_12 c2_12 fc_12 zc_12
  clear d0_12 d1_12 d2_12 fd_12 zd_12
  go_wp2_with (fail)
  refine (break_ref _ _ _ _).mono ?_
  rintro e w13 ⟨rfl, hb13⟩
  have hs13 := hb13.size
  try simp only [World.size_setCell] at hs13
  try simp only [World.size_alloc] at hs13
  have hB13 : Below w.heap.size w w13 := over hb13 (by go_grown)
  have zp_13 : w.heap.size < w13.heap.size := by omega
  obtain ⟨p0_13, p1_13, p2_13⟩ := keep3 hb13 (w.heap.size) (.int .i64 t) (.int .i64 o) (.bool g) (by simp [go_sem, p0_12, p1_12, p2_12])
  have za_13 : w2.heap.size < w13.heap.size := by omega
  obtain ⟨a0_13, a1_13, a2_13⟩ := keep3 hb13 (w2.heap.size) (.int .i64 (brT t o g)) (.int .i64 o) (.bool (brG t o g)) (by simp [go_sem, a0_12, a1_12, a2_12])
  have fa_13 := keepf hb13 (w2.heap.size) (by first | (simp; done) | (simp; omega)) (fun j => by simp [go_sem, fa_12])
  have zb_13 : w3.heap.size < w13.heap.size := by omega
  obtain ⟨b0_13, b1_13, b2_13⟩ := keep3 hb13 (w3.heap.size) (.int .i64 (psV t o g t' o' g' n)) (.int .i64 o) (.bool g) (by simp [go_sem, b0_12, b1_12, b2_12])
  have fb_13 := keepf hb13 (w3.heap.size) (by first | (simp; done) | (simp; omega)) (fun j => by simp [go_sem, fb_12])
  clear p0_12 p1_12 p2_12 zp_12 a0_12 a1_12 a2_12 za_12 fa_12 b0_12 b1_12 b2_12 zb_12 fb_12 hB12 hs13 hb13
  go_wp2_with (fail)
  have R : Below w.heap.size w (((w13.setCell ⟨w3.heap.size, 0, none⟩ (.int .i64 (brT t o g))).setCell ⟨w3.heap.size, 1, none⟩ (.int .i64 o)).setCell ⟨w3.heap.size, 2, none⟩ (.bool (brG t o g))) := by go_grown
  have R1 : ∀ j v, w13.cell? ⟨w.heap.size, j, none⟩ = some v → (((w13.setCell ⟨w3.heap.size, 0, none⟩ (.int .i64 (brT t o g))).setCell ⟨w3.heap.size, 1, none⟩ (.int .i64 o)).setCell ⟨w3.heap.size, 2, none⟩ (.bool (brG t o g))).cell? ⟨w.heap.size, j, none⟩ = some v := fun j v h => by simp [go_sem, h]
  have R2 : ∀ j v, w13.cell? ⟨w2.heap.size, j, none⟩ = some v → (((w13.setCell ⟨w3.heap.size, 0, none⟩ (.int .i64 (brT t o g))).setCell ⟨w3.heap.size, 1, none⟩ (.int .i64 o)).setCell ⟨w3.heap.size, 2, none⟩ (.bool (brG t o g))).cell? ⟨w2.heap.size, j, none⟩ = some v := fun j v h => by simp [go_sem, h]
  have P0 := R1 0 _ p0_13
  have P1 := R1 1 _ p1_13
  have P2 := R1 2 _ p2_13
  have A0 := R2 0 _ a0_13
  have A1 := R2 1 _ a1_13
  have A2 := R2 2 _ a2_13
  have B0 : (((w13.setCell ⟨w3.heap.size, 0, none⟩ (.int .i64 (brT t o g))).setCell ⟨w3.heap.size, 1, none⟩ (.int .i64 o)).setCell ⟨w3.heap.size, 2, none⟩ (.bool (brG t o g))).cell? ⟨w3.heap.size, 0, none⟩ = some (.int .i64 (brT t o g)) := by simp [go_sem, b0_13]
  have B1 : (((w13.setCell ⟨w3.heap.size, 0, none⟩ (.int .i64 (brT t o g))).setCell ⟨w3.heap.size, 1, none⟩ (.int .i64 o)).setCell ⟨w3.heap.size, 2, none⟩ (.bool (brG t o g))).cell? ⟨w3.heap.size, 1, none⟩ = some (.int .i64 o) := by simp [go_sem, b1_13]
  have B2 : (((w13.setCell ⟨w3.heap.size, 0, none⟩ (.int .i64 (brT t o g))).setCell ⟨w3.heap.size, 1, none⟩ (.int .i64 o)).setCell ⟨w3.heap.size, 2, none⟩ (.bool (brG t o g))).cell? ⟨w3.heap.size, 2, none⟩ = some (.bool (brG t o g)) := by simp [go_sem, b2_13]
  clear R1 R2
  generalize (((w13.setCell ⟨w3.heap.size, 0, none⟩ (.int .i64 (brT t o g))).setCell ⟨w3.heap.size, 1, none⟩ (.int .i64 o)).setCell ⟨w3.heap.size, 2, none⟩ (.bool (brG t o g))) = X at R P0 P1 P2 A0 A1 A2 B0 B1 B2 ⊢
  clear p0_13 p1_13 p2_13 a0_13 a1_13 a2_13 b0_13 b1_13 b2_13 zp_13 za_13 zb_13 fa_13 fb_13 hB13 la nap map naq maq lb nbp mbp nbq mbq nba mba
  clear lc ncp mcp ncq mcq nca mca ncb mcb ld ndp mdp ndq mdq nda mda ndb mdb ndc mdc
  go_region_held3 (fun W' => Below w.heap.size w W' ∧ W'.cell? ⟨w.heap.size, 0, none⟩ = some (.int .i64 t) ∧ W'.cell? ⟨w.heap.size, 1, none⟩ = some (.int .i64 o) ∧ W'.cell? ⟨w.heap.size, 2, none⟩ = some (.bool g) ∧ W'.cell? ⟨w2.heap.size, 0, none⟩ = some (.int .i64 (brT t o g)) ∧ W'.cell? ⟨w2.heap.size, 1, none⟩ = some (.int .i64 o) ∧ W'.cell? ⟨w2.heap.size, 2, none⟩ = some (.bool (brG t o g)) ∧ W'.cell? ⟨w3.heap.size, 0, none⟩ = some (.int .i64 (brT t o g)) ∧ W'.cell? ⟨w3.heap.size, 1, none⟩ = some (.int .i64 o) ∧ W'.cell? ⟨w3.heap.size, 2, none⟩ = some (.bool (brG t o g)))
    (first | exact ⟨R.drew, P0, P1, P2, A0, A1, A2, B0, B1, B2⟩ | exact held_on (by assumption) (by assumption))
    (first | (go_at_call 30; refine (right_any t o g _).mono ?_; rintro e w' ⟨rfl, hb'⟩) | (go_at_call 31; refine (right_ref t o g _).mono ?_; rintro e w' ⟨rfl, hb'⟩))
  rename_i hH
  have hZ := hH.1
  clear hH P0 P1 P2 A0 A1 A2 B0 B1 B2
  go_wp2
  go_ret
  exact ⟨rfl, hZ⟩
end Go.Proofs.Ytblegaclcpoonab.Agent
