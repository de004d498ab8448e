/- The example of the agent's statements, 'small', returns true. -/
import Derived.Test.YtblegaclcpoonabPass
namespace Go.Proofs.Ytblegaclcpoonab.Agent
open Go.ChangeShapes Go.WideShapes Go.ChangeAt Go.RowKit
set_option linter.unusedVariables false

theorem al {w : World} {o : Obj} {b j : Nat} {v : Value} (h : w.cell? ⟨b, j, none⟩ = some v) : (w.alloc o).cell? ⟨b, j, none⟩ = some v :=
  (World.cell?_alloc_lt w o ⟨b, j, none⟩ (World.block_lt_of_cell? w ⟨b, j, none⟩ h)).trans h
theorem alf {w : World} {c : Array Value} {t : TypeId} {b : Nat} (h : ∀ j, w.frozen? ⟨b, j, none⟩ = false) : ∀ j, (w.alloc (.cells c t)).frozen? ⟨b, j, none⟩ = false :=
  fun j => (frozen?_alloc_cells w c t ⟨b, j, none⟩).trans (h j)
theorem keepf {W w1 : World} (hb : Below W.heap.size W w1) (b : Nat) (h : b < W.heap.size) (hf : ∀ j, W.frozen? ⟨b, j, none⟩ = false) : ∀ j, w1.frozen? ⟨b, j, none⟩ = false :=
  fun j => (hb.frozen (p := ⟨b, j, none⟩) h).trans (hf j)

theorem s_take (w : World) : Calls Try.prog 18 #[pv 10 3 false, .int .i64 5] w fun e w' => e = .returned (.tuple #[pv 15 3 false, .int .i64 0]) ∧ Below w.heap.size w w' := by
  have e0 : chV 10 3 false 5 10 5 = 15 := by decide
  have e1 : chE 10 3 false 5 10 5 = 0 := by decide
  have h := take_any 10 3 false 5 w
  rw [e0, e1] at h
  exact h

theorem s_pay (w : World) : Calls Try.prog 20 #[pv 10 3 false, .int .i64 4] w fun e w' => e = .returned (.tuple #[pv 6 3 false, .int .i64 0]) ∧ Below w.heap.size w w' := by
  have e0 : chV 10 3 false 4 10 (-4) = 6 := by decide
  have e1 : chE 10 3 false 4 10 (-4) = 0 := by decide
  have h := pay_any 10 3 false 4 w
  rw [e0, e1] at h
  exact h

theorem s_pay2 (w : World) : Calls Try.prog 20 #[pv 10 3 false, .int .i64 11] w fun e w' => e = .returned (.tuple #[pv 10 3 false, .int .i64 22]) ∧ Below w.heap.size w w' := by
  have e0 : chV 10 3 false 11 10 (-11) = 10 := by decide
  have e1 : chE 10 3 false 11 10 (-11) = 22 := by decide
  have h := pay_any 10 3 false 11 w
  rw [e0, e1] at h
  exact h

theorem s_spend (w : World) : Calls Try.prog 24 #[pv 10 3 false, .int .i64 4] w fun e w' => e = .returned (.tuple #[pv 10 3 false, .int .i64 22]) ∧ Below w.heap.size w w' := by
  have e0 : chV 10 3 false 4 3 (-4) = 3 := by decide
  have e1 : chE 10 3 false 4 3 (-4) = 22 := by decide
  have h := spend_any 10 3 false 4 w
  rw [e0, e1] at h
  exact h

theorem s_break (w : World) : Calls Try.prog 28 #[pv 10 3 false] w fun e w' => e = .returned (.tuple #[pv 0 3 true, .int .i64 10, .int .i64 0]) ∧ Below w.heap.size w w' := by
  have e0 : brT 10 3 false = 0 := by decide
  have e1 : brG 10 3 false = true := by decide
  have e2 : brN 10 3 false = 10 := by decide
  have e3 : brE 10 3 false = 0 := by decide
  have h := break_any 10 3 false w
  rw [e0, e1, e2, e3] at h
  exact h

theorem s_earn (w : World) : Calls Try.prog 22 #[pv 0 3 true, .int .i64 1] w fun e w' => e = .returned (.tuple #[pv 0 3 true, .int .i64 7]) ∧ Below w.heap.size w w' := by
  have e0 : chV 0 3 true 1 3 1 = 3 := by decide
  have e1 : chE 0 3 true 1 3 1 = 7 := by decide
  have h := earn_any 0 3 true 1 w
  rw [e0, e1] at h
  exact h

theorem s_right (w : World) : Calls Try.prog 30 #[pv 10 3 false] w fun e w' => e = .returned (.bool true) ∧ Below w.heap.size w w' := by
  have h := right_any 10 3 false w
  have e0 : okB 10 3 = true := by decide
  rw [e0] at h
  exact h

set_option maxHeartbeats 2000000 in
theorem small_any (w : World) : Calls Try.prog 17 #[] w fun e w' => e = .returned (.bool true) ∧ Below w.heap.size w w' := by
  go_enter Try.func17, Try.ntmps17
  go_wp2_with (fail)
  refine (s_take _).mono ?_
  rintro e w1 ⟨rfl, hb1⟩
  have hs1 := hb1.size
  try simp only [World.size_setCell] at hs1
  try simp only [World.size_alloc] at hs1
  have hB1 : Below w.heap.size w w1 := over hb1 (by go_grown)
  have zp_1 : w.heap.size < w1.heap.size := by omega
  obtain ⟨p0_1, p1_1, p2_1⟩ := keep3 hb1 (w.heap.size) (.int .i64 10) (.int .i64 3) (.bool false) (by simp [go_sem])
  clear hs1 hb1
  go_wp2_with (fail)
  refine (s_pay _).mono ?_
  rintro e w2 ⟨rfl, hb2⟩
  have hs2 := hb2.size
  try simp only [World.size_setCell] at hs2
  try simp only [World.size_alloc] at hs2
  have hB2 : Below w.heap.size w w2 := over hb2 (by go_grown)
  have zp_2 : w.heap.size < w2.heap.size := by omega
  obtain ⟨p0_2, p1_2, p2_2⟩ := keep3 hb2 (w.heap.size) (.int .i64 10) (.int .i64 3) (.bool false) (by first | exact ⟨p0_1, p1_1, p2_1⟩ | exact ⟨al p0_1, al p1_1, al p2_1⟩ | exact ⟨al (al p0_1), al (al p1_1), al (al p2_1)⟩)
  have za_2 : w1.heap.size < w2.heap.size := by omega
  obtain ⟨a0_2, a1_2, a2_2⟩ := keep3 hb2 (w1.heap.size) (.int .i64 15) (.int .i64 3) (.bool false) (by simp [go_sem])
  clear p0_1 p1_1 p2_1 zp_1 hB1 hs2 hb2
  go_wp2_with (fail)
  refine (s_pay2 _).mono ?_
  rintro e w3 ⟨rfl, hb3⟩
  have hs3 := hb3.size
  try simp only [World.size_setCell] at hs3
  try simp only [World.size_alloc] at hs3
  have hB3 : Below w.heap.size w w3 := over hb3 (by go_grown)
  have zp_3 : w.heap.size < w3.heap.size := by omega
  obtain ⟨p0_3, p1_3, p2_3⟩ := keep3 hb3 (w.heap.size) (.int .i64 10) (.int .i64 3) (.bool false) (by first | exact ⟨p0_2, p1_2, p2_2⟩ | exact ⟨al p0_2, al p1_2, al p2_2⟩ | exact ⟨al (al p0_2), al (al p1_2), al (al p2_2)⟩)
  have za_3 : w1.heap.size < w3.heap.size := by omega
  obtain ⟨a0_3, a1_3, a2_3⟩ := keep3 hb3 (w1.heap.size) (.int .i64 15) (.int .i64 3) (.bool false) (by first | exact ⟨a0_2, a1_2, a2_2⟩ | exact ⟨al a0_2, al a1_2, al a2_2⟩ | exact ⟨al (al a0_2), al (al a1_2), al (al a2_2)⟩)
  have zb_3 : w2.heap.size < w3.heap.size := by omega
  obtain ⟨b0_3, b1_3, b2_3⟩ := keep3 hb3 (w2.heap.size) (.int .i64 6) (.int .i64 3) (.bool false) (by simp [go_sem])
  clear p0_2 p1_2 p2_2 zp_2 a0_2 a1_2 a2_2 za_2 hB2 hs3 hb3
  go_wp2_with (fail)
  refine (s_spend _).mono ?_
  rintro e w4 ⟨rfl, hb4⟩
  have hs4 := hb4.size
  try simp only [World.size_setCell] at hs4
  try simp only [World.size_alloc] at hs4
  have hB4 : Below w.heap.size w w4 := over hb4 (by go_grown)
  have zp_4 : w.heap.size < w4.heap.size := by omega
  obtain ⟨p0_4, p1_4, p2_4⟩ := keep3 hb4 (w.heap.size) (.int .i64 10) (.int .i64 3) (.bool false) (by first | exact ⟨p0_3, p1_3, p2_3⟩ | exact ⟨al p0_3, al p1_3, al p2_3⟩ | exact ⟨al (al p0_3), al (al p1_3), al (al p2_3)⟩)
  have za_4 : w1.heap.size < w4.heap.size := by omega
  obtain ⟨a0_4, a1_4, a2_4⟩ := keep3 hb4 (w1.heap.size) (.int .i64 15) (.int .i64 3) (.bool false) (by first | exact ⟨a0_3, a1_3, a2_3⟩ | exact ⟨al a0_3, al a1_3, al a2_3⟩ | exact ⟨al (al a0_3), al (al a1_3), al (al a2_3)⟩)
  have zb_4 : w2.heap.size < w4.heap.size := by omega
  obtain ⟨b0_4, b1_4, b2_4⟩ := keep3 hb4 (w2.heap.size) (.int .i64 6) (.int .i64 3) (.bool false) (by first | exact ⟨b0_3, b1_3, b2_3⟩ | exact ⟨al b0_3, al b1_3, al b2_3⟩ | exact ⟨al (al b0_3), al (al b1_3), al (al b2_3)⟩)
  clear p0_3 p1_3 p2_3 zp_3 a0_3 a1_3 a2_3 za_3 b0_3 b1_3 b2_3 zb_3 hB3 hs4 hb4
  go_wp2_with (fail)
  refine (s_break _).mono ?_
  rintro e w5 ⟨rfl, hb5⟩
  have hs5 := hb5.size
  try simp only [World.size_setCell] at hs5
  try simp only [World.size_alloc] at hs5
  have hB5 : Below w.heap.size w w5 := over hb5 (by go_grown)
  have zp_5 : w.heap.size < w5.heap.size := by omega
  obtain ⟨p0_5, p1_5, p2_5⟩ := keep3 hb5 (w.heap.size) (.int .i64 10) (.int .i64 3) (.bool false) (by first | exact ⟨p0_4, p1_4, p2_4⟩ | exact ⟨al p0_4, al p1_4, al p2_4⟩ | exact ⟨al (al p0_4), al (al p1_4), al (al p2_4)⟩)
  have za_5 : w1.heap.size < w5.heap.size := by omega
  obtain ⟨a0_5, a1_5, a2_5⟩ := keep3 hb5 (w1.heap.size) (.int .i64 15) (.int .i64 3) (.bool false) (by first | exact ⟨a0_4, a1_4, a2_4⟩ | exact ⟨al a0_4, al a1_4, al a2_4⟩ | exact ⟨al (al a0_4), al (al a1_4), al (al a2_4)⟩)
  have zb_5 : w2.heap.size < w5.heap.size := by omega
  obtain ⟨b0_5, b1_5, b2_5⟩ := keep3 hb5 (w2.heap.size) (.int .i64 6) (.int .i64 3) (.bool false) (by first | exact ⟨b0_4, b1_4, b2_4⟩ | exact ⟨al b0_4, al b1_4, al b2_4⟩ | exact ⟨al (al b0_4), al (al b1_4), al (al b2_4)⟩)
  clear p0_4 p1_4 p2_4 zp_4 a0_4 a1_4 a2_4 za_4 b0_4 b1_4 b2_4 zb_4 hB4 hs5 hb5
  go_wp2_with (fail)
  refine (s_earn _).mono ?_
  rintro e w6 ⟨rfl, hb6⟩
  have hs6 := hb6.size
  try simp only [World.size_setCell] at hs6
  try simp only [World.size_alloc] at hs6
  have hB6 : Below w.heap.size w w6 := over hb6 (by go_grown)
  have zp_6 : w.heap.size < w6.heap.size := by omega
  obtain ⟨p0_6, p1_6, p2_6⟩ := keep3 hb6 (w.heap.size) (.int .i64 10) (.int .i64 3) (.bool false) (by first | exact ⟨p0_5, p1_5, p2_5⟩ | exact ⟨al p0_5, al p1_5, al p2_5⟩ | exact ⟨al (al p0_5), al (al p1_5), al (al p2_5)⟩)
  have za_6 : w1.heap.size < w6.heap.size := by omega
  obtain ⟨a0_6, a1_6, a2_6⟩ := keep3 hb6 (w1.heap.size) (.int .i64 15) (.int .i64 3) (.bool false) (by first | exact ⟨a0_5, a1_5, a2_5⟩ | exact ⟨al a0_5, al a1_5, al a2_5⟩ | exact ⟨al (al a0_5), al (al a1_5), al (al a2_5)⟩)
  have zb_6 : w2.heap.size < w6.heap.size := by omega
  obtain ⟨b0_6, b1_6, b2_6⟩ := keep3 hb6 (w2.heap.size) (.int .i64 6) (.int .i64 3) (.bool false) (by first | exact ⟨b0_5, b1_5, b2_5⟩ | exact ⟨al b0_5, al b1_5, al b2_5⟩ | exact ⟨al (al b0_5), al (al b1_5), al (al b2_5)⟩)
  have zc_6 : w5.heap.size < w6.heap.size := by omega
  obtain ⟨c0_6, c1_6, c2_6⟩ := keep3 hb6 (w5.heap.size) (.int .i64 0) (.int .i64 3) (.bool true) (by simp [go_sem])
  clear p0_5 p1_5 p2_5 zp_5 a0_5 a1_5 a2_5 za_5 b0_5 b1_5 b2_5 zb_5 hB5 hs6 hb6
  go_wp2_with (fail)
  refine (s_right _).mono ?_
  rintro e w7 ⟨rfl, hb7⟩
  have hs7 := hb7.size
  try simp only [World.size_setCell] at hs7
  try simp only [World.size_alloc] at hs7
  have hB7 : Below w.heap.size w w7 := over hb7 (by go_grown)
  have zp_7 : w.heap.size < w7.heap.size := by omega
  obtain ⟨p0_7, p1_7, p2_7⟩ := keep3 hb7 (w.heap.size) (.int .i64 10) (.int .i64 3) (.bool false) (by first | exact ⟨p0_6, p1_6, p2_6⟩ | exact ⟨al p0_6, al p1_6, al p2_6⟩ | exact ⟨al (al p0_6), al (al p1_6), al (al p2_6)⟩)
  have za_7 : w1.heap.size < w7.heap.size := by omega
  obtain ⟨a0_7, a1_7, a2_7⟩ := keep3 hb7 (w1.heap.size) (.int .i64 15) (.int .i64 3) (.bool false) (by first | exact ⟨a0_6, a1_6, a2_6⟩ | exact ⟨al a0_6, al a1_6, al a2_6⟩ | exact ⟨al (al a0_6), al (al a1_6), al (al a2_6)⟩)
  have zb_7 : w2.heap.size < w7.heap.size := by omega
  obtain ⟨b0_7, b1_7, b2_7⟩ := keep3 hb7 (w2.heap.size) (.int .i64 6) (.int .i64 3) (.bool false) (by first | exact ⟨b0_6, b1_6, b2_6⟩ | exact ⟨al b0_6, al b1_6, al b2_6⟩ | exact ⟨al (al b0_6), al (al b1_6), al (al b2_6)⟩)
  have zc_7 : w5.heap.size < w7.heap.size := by omega
  obtain ⟨c0_7, c1_7, c2_7⟩ := keep3 hb7 (w5.heap.size) (.int .i64 0) (.int .i64 3) (.bool true) (by first | exact ⟨c0_6, c1_6, c2_6⟩ | exact ⟨al c0_6, al c1_6, al c2_6⟩ | exact ⟨al (al c0_6), al (al c1_6), al (al c2_6)⟩)
  clear p0_6 p1_6 p2_6 zp_6 a0_6 a1_6 a2_6 za_6 b0_6 b1_6 b2_6 zb_6 c0_6 c1_6 c2_6 zc_6 hB6 hs7 hb7
  go_wp2
  go_ret
  exact ⟨rfl, by go_grown⟩
end Go.Proofs.Ytblegaclcpoonab.Agent
