/- The example of the breach's statements, 'small', returns true. -/
import Derived.Test.YtblegaclcpoonaaBrC
namespace Go.Proofs.Ytblegaclcpoonaa.Br
open Go.ChangeShapes Go.WideShapes Go.ChangeAt Go.RowKit
set_option linter.unusedVariables false

theorem al {w : World} {o : Obj} {b j : Nat} {v : Value} (h : w.cell? ⟨b, j, none⟩ = some v) : (w.alloc o).cell? ⟨b, j, none⟩ = some v :=
  (World.cell?_alloc_lt w o ⟨b, j, none⟩ (World.block_lt_of_cell? w ⟨b, j, none⟩ h)).trans h
theorem rowAtD (w : World) (t : TypeId) (cs : Array Value) {g : Nat} (h : g = w.heap.size) : Vote.Row (w.alloc (.cells cs t)).drew g t cs := rowAt w t cs h
theorem e_a (w : World) : Calls Try.prog 16 #[bv 0 0, .int .i64 0, .int .i64 3, .int .i64 10] w fun e w' => e = .returned (.tuple #[bv 1 10, .int .i64 0]) ∧ Below w.heap.size w w' := by
  have h := next_any 0 0 0 3 10 w
  rw [show nx 0 0 0 3 10 = (1, 10, 0) from by decide] at h
  exact h
theorem e_b (w : World) : Calls Try.prog 16 #[bv 1 10, .int .i64 2, .int .i64 3, .int .i64 12] w fun e w' => e = .returned (.tuple #[bv 1 10, .int .i64 0]) ∧ Below w.heap.size w w' := by
  have h := next_any 1 10 2 3 12 w
  rw [show nx 1 10 2 3 12 = (1, 10, 0) from by decide] at h
  exact h
theorem e_c (w : World) : Calls Try.prog 16 #[bv 1 10, .int .i64 0, .int .i64 3, .int .i64 13] w fun e w' => e = .returned (.tuple #[bv 2 13, .int .i64 0]) ∧ Below w.heap.size w w' := by
  have h := next_any 1 10 0 3 13 w
  rw [show nx 1 10 0 3 13 = (2, 13, 0) from by decide] at h
  exact h
theorem e_d (w : World) : Calls Try.prog 16 #[bv 1 10, .int .i64 1, .int .i64 3, .int .i64 12] w fun e w' => e = .returned (.tuple #[bv 0 0, .int .i64 0]) ∧ Below w.heap.size w w' := by
  have h := next_any 1 10 1 3 12 w
  rw [show nx 1 10 1 3 12 = (0, 0, 0) from by decide] at h
  exact h
theorem e_n (w : World) : Calls Try.prog 18 #[bv 2 13, .int .i64 14] w fun e w' => e = .returned (.tuple #[bv 3 14, .int .i64 0]) ∧ Below w.heap.size w w' := by
  have h := notice_any 2 13 14 w
  rw [show nt 2 13 14 = (3, 14, 0) from by decide] at h
  exact h
theorem e_w (w : World) : Calls Try.prog 20 #[bv 2 13, .int .i64 14] w fun e w' => e = .returned (.tuple #[bv 0 0, .int .i64 0]) ∧ Below w.heap.size w w' := by
  have h := waive_any 2 13 14 w
  rw [show wv 2 13 14 = (0, 0, 0) from by decide] at h
  exact h
theorem e_r (w : World) : Calls Try.prog 22 #[bv 2 13] w fun e w' => e = .returned (.bool true) ∧ Below w.heap.size w w' := by
  have h := right_any 2 13 w
  rw [show okB 2 13 = true from by decide] at h
  exact h
theorem e_z (w : World) : Calls Try.prog 22 #[bv 0 1] w fun e w' => e = .returned (.bool false) ∧ Below w.heap.size w w' := by
  have h := right_any 0 1 w
  rw [show okB 0 1 = false from by decide] at h
  exact h
theorem e_l {w : World} {g : Nat} (h : Vote.Row w g 25 #[.int .i64 1, .int .i64 10, .int .i64 2, .int .i64 13, .int .i64 0, .int .i64 0]) : Brs w (some ⟨g, 0, none⟩) [(1, 10), (2, 13), (0, 0)] := fun _ =>
  ⟨g, 0, rfl, fun j p hp => by
    have hj : j < 3 := (List.getElem?_eq_some_iff.1 hp).1
    match j, hj, hp with
    | 0, _, hp => simp at hp; subst hp; exact ⟨by rw [h.cell]; rfl, by rw [h.cell]; rfl⟩
    | 1, _, hp => simp at hp; subst hp; exact ⟨by rw [h.cell]; rfl, by rw [h.cell]; rfl⟩
    | 2, _, hp => simp at hp; subst hp; exact ⟨by rw [h.cell]; rfl, by rw [h.cell]; rfl⟩⟩
theorem e_x (g : Nat) (w : World) (h : Vote.Row w g 25 #[.int .i64 1, .int .i64 10, .int .i64 2, .int .i64 13, .int .i64 0, .int .i64 0]) :
    Calls Try.prog 24 #[.slice (some ⟨g, 0, none⟩) 3 3] w fun e w' => e = .returned (bv 2 13) ∧ Below w.heap.size w w' := by
  have hh := worst_any (some ⟨g, 0, none⟩) 3 3 [(1, 10), (2, 13), (0, 0)] w rfl (e_l h) (by omega)
  rw [show wrs [(1, 10), (2, 13), (0, 0)] = (2, 13) from by decide] at hh
  exact hh
theorem held_e {w W W' : World} {pa pc pd pn pv : Nat} (hb : Below W.heap.size W W') (h : Below w.heap.size w W ∧ W.cell? ⟨pa, 0, none⟩ = some (.int .i64 1) ∧ W.cell? ⟨pa, 1, none⟩ = some (.int .i64 10) ∧ W.cell? ⟨pc, 0, none⟩ = some (.int .i64 2) ∧ W.cell? ⟨pc, 1, none⟩ = some (.int .i64 13) ∧ W.cell? ⟨pd, 0, none⟩ = some (.int .i64 0) ∧ W.cell? ⟨pd, 1, none⟩ = some (.int .i64 0) ∧ W.cell? ⟨pn, 0, none⟩ = some (.int .i64 3) ∧ W.cell? ⟨pn, 1, none⟩ = some (.int .i64 14) ∧ W.cell? ⟨pv, 0, none⟩ = some (.int .i64 0) ∧ W.cell? ⟨pv, 1, none⟩ = some (.int .i64 0)) : Below w.heap.size w W' ∧ W'.cell? ⟨pa, 0, none⟩ = some (.int .i64 1) ∧ W'.cell? ⟨pa, 1, none⟩ = some (.int .i64 10) ∧ W'.cell? ⟨pc, 0, none⟩ = some (.int .i64 2) ∧ W'.cell? ⟨pc, 1, none⟩ = some (.int .i64 13) ∧ W'.cell? ⟨pd, 0, none⟩ = some (.int .i64 0) ∧ W'.cell? ⟨pd, 1, none⟩ = some (.int .i64 0) ∧ W'.cell? ⟨pn, 0, none⟩ = some (.int .i64 3) ∧ W'.cell? ⟨pn, 1, none⟩ = some (.int .i64 14) ∧ W'.cell? ⟨pv, 0, none⟩ = some (.int .i64 0) ∧ W'.cell? ⟨pv, 1, none⟩ = some (.int .i64 0) := by
  obtain ⟨h0, h1, h2, h3, h4, h5, h6, h7, h8, h9, h10⟩ := h
  exact ⟨over hb h0, keep hb _ _ _ h1, keep hb _ _ _ h2, keep hb _ _ _ h3, keep hb _ _ _ h4, keep hb _ _ _ h5, keep hb _ _ _ h6, keep hb _ _ _ h7, keep hb _ _ _ h8, keep hb _ _ _ h9, keep hb _ _ _ h10⟩
theorem held_al {w W : World} {o : Obj} {pa pc pd pn pv : Nat} (h : Below w.heap.size w W ∧ W.cell? ⟨pa, 0, none⟩ = some (.int .i64 1) ∧ W.cell? ⟨pa, 1, none⟩ = some (.int .i64 10) ∧ W.cell? ⟨pc, 0, none⟩ = some (.int .i64 2) ∧ W.cell? ⟨pc, 1, none⟩ = some (.int .i64 13) ∧ W.cell? ⟨pd, 0, none⟩ = some (.int .i64 0) ∧ W.cell? ⟨pd, 1, none⟩ = some (.int .i64 0) ∧ W.cell? ⟨pn, 0, none⟩ = some (.int .i64 3) ∧ W.cell? ⟨pn, 1, none⟩ = some (.int .i64 14) ∧ W.cell? ⟨pv, 0, none⟩ = some (.int .i64 0) ∧ W.cell? ⟨pv, 1, none⟩ = some (.int .i64 0)) : Below w.heap.size w (W.alloc o) ∧ (W.alloc o).cell? ⟨pa, 0, none⟩ = some (.int .i64 1) ∧ (W.alloc o).cell? ⟨pa, 1, none⟩ = some (.int .i64 10) ∧ (W.alloc o).cell? ⟨pc, 0, none⟩ = some (.int .i64 2) ∧ (W.alloc o).cell? ⟨pc, 1, none⟩ = some (.int .i64 13) ∧ (W.alloc o).cell? ⟨pd, 0, none⟩ = some (.int .i64 0) ∧ (W.alloc o).cell? ⟨pd, 1, none⟩ = some (.int .i64 0) ∧ (W.alloc o).cell? ⟨pn, 0, none⟩ = some (.int .i64 3) ∧ (W.alloc o).cell? ⟨pn, 1, none⟩ = some (.int .i64 14) ∧ (W.alloc o).cell? ⟨pv, 0, none⟩ = some (.int .i64 0) ∧ (W.alloc o).cell? ⟨pv, 1, none⟩ = some (.int .i64 0) := by
  obtain ⟨h0, h1, h2, h3, h4, h5, h6, h7, h8, h9, h10⟩ := h
  exact ⟨h0.alloc h0.size _, al h1, al h2, al h3, al h4, al h5, al h6, al h7, al h8, al h9, al h10⟩

set_option maxRecDepth 100000 in
set_option maxHeartbeats 4000000 in
theorem small_any (w : World) : Calls Try.prog 15 #[] w fun e w' => e = .returned (.bool true) ∧ Below w.heap.size w w' := by
  go_enter Try.func15, Try.ntmps15
  go_wp2_with (fail)
  refine (e_a _).mono ?_
  rintro e w1 ⟨rfl, hb1⟩
  have hB1 : Below w.heap.size w w1 := over hb1 (by go_grown)
  have y_1 : w.heap.size ≤ w1.heap.size := hB1.size
  clear hb1
  go_wp2_with (fail)
  refine (e_b _).mono ?_
  rintro e w2 ⟨rfl, hb2⟩
  have hs2 := hb2.size
  try simp only [World.size_setCell] at hs2
  try simp only [World.size_alloc] at hs2
  have hB2 : Below w.heap.size w w2 := over hb2 (by go_grown)
  have y_2 : w.heap.size ≤ w2.heap.size := hB2.size
  have za_2 : w1.heap.size < w2.heap.size := by omega
  obtain ⟨a0_2, a1_2⟩ := keep2 hb2 (w1.heap.size) (.int .i64 1) (.int .i64 10) (by simp [go_sem])
  clear hB1 y_1 hs2 hb2
  go_wp2_with (fail)
  refine (e_c _).mono ?_
  rintro e w3 ⟨rfl, hb3⟩
  have hs3 := hb3.size
  try simp only [World.size_setCell] at hs3
  try simp only [World.size_alloc] at hs3
  have hB3 : Below w.heap.size w w3 := over hb3 (by go_grown)
  have y_3 : w.heap.size ≤ w3.heap.size := hB3.size
  have za_3 : w1.heap.size < w3.heap.size := by omega
  obtain ⟨a0_3, a1_3⟩ := keep2 hb3 (w1.heap.size) (.int .i64 1) (.int .i64 10) (by first | exact ⟨a0_2, a1_2⟩ | exact ⟨al a0_2, al a1_2⟩ | exact ⟨al (al a0_2), al (al a1_2)⟩)
  have zb_3 : w2.heap.size < w3.heap.size := by omega
  obtain ⟨b0_3, b1_3⟩ := keep2 hb3 (w2.heap.size) (.int .i64 1) (.int .i64 10) (by simp [go_sem])
  clear a0_2 a1_2 za_2 hB2 y_2 hs3 hb3
  go_wp2_with (fail)
  refine (e_d _).mono ?_
  rintro e w4 ⟨rfl, hb4⟩
  have hs4 := hb4.size
  try simp only [World.size_setCell] at hs4
  try simp only [World.size_alloc] at hs4
  have hB4 : Below w.heap.size w w4 := over hb4 (by go_grown)
  have y_4 : w.heap.size ≤ w4.heap.size := hB4.size
  have za_4 : w1.heap.size < w4.heap.size := by omega
  obtain ⟨a0_4, a1_4⟩ := keep2 hb4 (w1.heap.size) (.int .i64 1) (.int .i64 10) (by first | exact ⟨a0_3, a1_3⟩ | exact ⟨al a0_3, al a1_3⟩ | exact ⟨al (al a0_3), al (al a1_3)⟩)
  have zb_4 : w2.heap.size < w4.heap.size := by omega
  obtain ⟨b0_4, b1_4⟩ := keep2 hb4 (w2.heap.size) (.int .i64 1) (.int .i64 10) (by first | exact ⟨b0_3, b1_3⟩ | exact ⟨al b0_3, al b1_3⟩ | exact ⟨al (al b0_3), al (al b1_3)⟩)
  have zc_4 : w3.heap.size < w4.heap.size := by omega
  obtain ⟨c0_4, c1_4⟩ := keep2 hb4 (w3.heap.size) (.int .i64 2) (.int .i64 13) (by simp [go_sem])
  clear a0_3 a1_3 za_3 b0_3 b1_3 zb_3 hB3 y_3 hs4 hb4
  go_wp2_with (fail)
  refine (e_n _).mono ?_
  rintro e w5 ⟨rfl, hb5⟩
  have hs5 := hb5.size
  try simp only [World.size_setCell] at hs5
  try simp only [World.size_alloc] at hs5
  have hB5 : Below w.heap.size w w5 := over hb5 (by go_grown)
  have y_5 : w.heap.size ≤ w5.heap.size := hB5.size
  have za_5 : w1.heap.size < w5.heap.size := by omega
  obtain ⟨a0_5, a1_5⟩ := keep2 hb5 (w1.heap.size) (.int .i64 1) (.int .i64 10) (by first | exact ⟨a0_4, a1_4⟩ | exact ⟨al a0_4, al a1_4⟩ | exact ⟨al (al a0_4), al (al a1_4)⟩)
  have zb_5 : w2.heap.size < w5.heap.size := by omega
  obtain ⟨b0_5, b1_5⟩ := keep2 hb5 (w2.heap.size) (.int .i64 1) (.int .i64 10) (by first | exact ⟨b0_4, b1_4⟩ | exact ⟨al b0_4, al b1_4⟩ | exact ⟨al (al b0_4), al (al b1_4)⟩)
  have zc_5 : w3.heap.size < w5.heap.size := by omega
  obtain ⟨c0_5, c1_5⟩ := keep2 hb5 (w3.heap.size) (.int .i64 2) (.int .i64 13) (by first | exact ⟨c0_4, c1_4⟩ | exact ⟨al c0_4, al c1_4⟩ | exact ⟨al (al c0_4), al (al c1_4)⟩)
  have zd_5 : w4.heap.size < w5.heap.size := by omega
  obtain ⟨d0_5, d1_5⟩ := keep2 hb5 (w4.heap.size) (.int .i64 0) (.int .i64 0) (by simp [go_sem])
  clear a0_4 a1_4 za_4 b0_4 b1_4 zb_4 c0_4 c1_4 zc_4 hB4 y_4 hs5 hb5
  go_wp2_with (fail)
  refine (e_w _).mono ?_
  rintro e w6 ⟨rfl, hb6⟩
  have hs6 := hb6.size
  try simp only [World.size_setCell] at hs6
  try simp only [World.size_alloc] at hs6
  have hB6 : Below w.heap.size w w6 := over hb6 (by go_grown)
  have y_6 : w.heap.size ≤ w6.heap.size := hB6.size
  have za_6 : w1.heap.size < w6.heap.size := by omega
  obtain ⟨a0_6, a1_6⟩ := keep2 hb6 (w1.heap.size) (.int .i64 1) (.int .i64 10) (by first | exact ⟨a0_5, a1_5⟩ | exact ⟨al a0_5, al a1_5⟩ | exact ⟨al (al a0_5), al (al a1_5)⟩)
  have zb_6 : w2.heap.size < w6.heap.size := by omega
  obtain ⟨b0_6, b1_6⟩ := keep2 hb6 (w2.heap.size) (.int .i64 1) (.int .i64 10) (by first | exact ⟨b0_5, b1_5⟩ | exact ⟨al b0_5, al b1_5⟩ | exact ⟨al (al b0_5), al (al b1_5)⟩)
  have zc_6 : w3.heap.size < w6.heap.size := by omega
  obtain ⟨c0_6, c1_6⟩ := keep2 hb6 (w3.heap.size) (.int .i64 2) (.int .i64 13) (by first | exact ⟨c0_5, c1_5⟩ | exact ⟨al c0_5, al c1_5⟩ | exact ⟨al (al c0_5), al (al c1_5)⟩)
  have zd_6 : w4.heap.size < w6.heap.size := by omega
  obtain ⟨d0_6, d1_6⟩ := keep2 hb6 (w4.heap.size) (.int .i64 0) (.int .i64 0) (by first | exact ⟨d0_5, d1_5⟩ | exact ⟨al d0_5, al d1_5⟩ | exact ⟨al (al d0_5), al (al d1_5)⟩)
  have zn_6 : w5.heap.size < w6.heap.size := by omega
  obtain ⟨n0_6, n1_6⟩ := keep2 hb6 (w5.heap.size) (.int .i64 3) (.int .i64 14) (by simp [go_sem])
  clear a0_5 a1_5 za_5 b0_5 b1_5 zb_5 c0_5 c1_5 zc_5 d0_5 d1_5 zd_5 hB5 y_5 hs6 hb6
  go_wp2_with (fail)
  have R : Below w.heap.size w ((w6.alloc (.cells #[.int .i64 0, .int .i64 0] 25)).alloc (.cells #[.int .i64 1, .int .i64 10] 25)) := by go_grown
  have A0 := al (o := .cells #[.int .i64 1, .int .i64 10] 25) (al (o := .cells #[.int .i64 0, .int .i64 0] 25) a0_6)
  have A1 := al (o := .cells #[.int .i64 1, .int .i64 10] 25) (al (o := .cells #[.int .i64 0, .int .i64 0] 25) a1_6)
  have C0 := al (o := .cells #[.int .i64 1, .int .i64 10] 25) (al (o := .cells #[.int .i64 0, .int .i64 0] 25) c0_6)
  have C1 := al (o := .cells #[.int .i64 1, .int .i64 10] 25) (al (o := .cells #[.int .i64 0, .int .i64 0] 25) c1_6)
  have D0 := al (o := .cells #[.int .i64 1, .int .i64 10] 25) (al (o := .cells #[.int .i64 0, .int .i64 0] 25) d0_6)
  have D1 := al (o := .cells #[.int .i64 1, .int .i64 10] 25) (al (o := .cells #[.int .i64 0, .int .i64 0] 25) d1_6)
  have N0 := al (o := .cells #[.int .i64 1, .int .i64 10] 25) (al (o := .cells #[.int .i64 0, .int .i64 0] 25) n0_6)
  have N1 := al (o := .cells #[.int .i64 1, .int .i64 10] 25) (al (o := .cells #[.int .i64 0, .int .i64 0] 25) n1_6)
  have V0 : ((w6.alloc (.cells #[.int .i64 0, .int .i64 0] 25)).alloc (.cells #[.int .i64 1, .int .i64 10] 25)).cell? ⟨w6.heap.size, 0, none⟩ = some (.int .i64 0) := by simp [go_sem]
  have V1 : ((w6.alloc (.cells #[.int .i64 0, .int .i64 0] 25)).alloc (.cells #[.int .i64 1, .int .i64 10] 25)).cell? ⟨w6.heap.size, 1, none⟩ = some (.int .i64 0) := by simp [go_sem]
  clear a0_6 a1_6 b0_6 b1_6 c0_6 c1_6 d0_6 d1_6 n0_6 n1_6 za_6 zb_6 zc_6 zd_6 zn_6 hB6 y_6
  generalize ((w6.alloc (.cells #[.int .i64 0, .int .i64 0] 25)).alloc (.cells #[.int .i64 1, .int .i64 10] 25)) = X at R A0 A1 C0 C1 D0 D1 N0 N1 V0 V1 ⊢
  generalize w1.heap.size = pa at *
  generalize w3.heap.size = pc at *
  generalize w4.heap.size = pd at *
  generalize w5.heap.size = pn at *
  generalize w6.heap.size = pv at *
  go_region_held3 (fun W' => Below w.heap.size w W' ∧ W'.cell? ⟨pa, 0, none⟩ = some (.int .i64 1) ∧ W'.cell? ⟨pa, 1, none⟩ = some (.int .i64 10) ∧ W'.cell? ⟨pc, 0, none⟩ = some (.int .i64 2) ∧ W'.cell? ⟨pc, 1, none⟩ = some (.int .i64 13) ∧ W'.cell? ⟨pd, 0, none⟩ = some (.int .i64 0) ∧ W'.cell? ⟨pd, 1, none⟩ = some (.int .i64 0) ∧ W'.cell? ⟨pn, 0, none⟩ = some (.int .i64 3) ∧ W'.cell? ⟨pn, 1, none⟩ = some (.int .i64 14) ∧ W'.cell? ⟨pv, 0, none⟩ = some (.int .i64 0) ∧ W'.cell? ⟨pv, 1, none⟩ = some (.int .i64 0))
    (first | exact ⟨R.drew, A0, A1, C0, C1, D0, D1, N0, N1, V0, V1⟩ | exact held_al (by assumption) | exact held_e (by assumption) (by assumption))
    (first | (go_at_call 24; ((refine (e_x _ _ (rowAtD _ _ _ rfl)).mono ?_); rintro e w' ⟨rfl, hb'⟩)) | (go_at_call 22; first | ((with_reducible refine (e_r _).mono ?_); rintro e w' ⟨rfl, hb'⟩) | ((with_reducible refine (e_z _).mono ?_); rintro e w' ⟨rfl, hb'⟩)))
  rename_i hH
  have hZ := hH.1
  clear hH A0 A1 C0 C1 D0 D1 N0 N1 V0 V1
  go_wp2
  go_ret
  exact ⟨rfl, hZ⟩
end Go.Proofs.Ytblegaclcpoonaa.Br
