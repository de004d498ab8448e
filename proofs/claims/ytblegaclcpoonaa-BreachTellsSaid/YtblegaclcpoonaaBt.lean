/- BreachTells returns true: every function of package breach returns what the reference returns. -/
import Derived.Test.YtblegaclcpoonaaBrU
import Derived.Test.YtblegaclcpoonaaBrV
import Derived.Test.YtblegaclcpoonaaWor
namespace Go.Proofs.Ytblegaclcpoonaa.Br
open Go.ChangeShapes Go.WideShapes Go.ChangeAt Go.RowKit
set_option linter.unusedVariables false

theorem next_is {s d kept grace day x y z : Int} (h : nx s d kept grace day = (x, y, z)) (w : World) : Calls Try.prog 16 #[bv s d, .int .i64 kept, .int .i64 grace, .int .i64 day] w fun e w' => e = .returned (.tuple #[bv x y, .int .i64 z]) ∧ Below w.heap.size w w' := by
  have hh := next_any s d kept grace day w
  rw [h] at hh
  exact hh
theorem rnext_is {s d kept grace day x y z : Int} (h : nx s d kept grace day = (x, y, z)) (w : World) : Calls Try.prog 17 #[bv s d, .int .i64 kept, .int .i64 grace, .int .i64 day] w fun e w' => e = .returned (.tuple #[bv x y, .int .i64 z]) ∧ Below w.heap.size w w' := by
  have hh := rnext_any s d kept grace day w
  rw [h] at hh
  exact hh
theorem notice_is {s d day x y z : Int} (h : nt s d day = (x, y, z)) (w : World) : Calls Try.prog 18 #[bv s d, .int .i64 day] w fun e w' => e = .returned (.tuple #[bv x y, .int .i64 z]) ∧ Below w.heap.size w w' := by
  have hh := notice_any s d day w
  rw [h] at hh
  exact hh
theorem rnotice_is {s d day x y z : Int} (h : nt s d day = (x, y, z)) (w : World) : Calls Try.prog 19 #[bv s d, .int .i64 day] w fun e w' => e = .returned (.tuple #[bv x y, .int .i64 z]) ∧ Below w.heap.size w w' := by
  have hh := rnotice_any s d day w
  rw [h] at hh
  exact hh
theorem waive_is {s d day x y z : Int} (h : wv s d day = (x, y, z)) (w : World) : Calls Try.prog 20 #[bv s d, .int .i64 day] w fun e w' => e = .returned (.tuple #[bv x y, .int .i64 z]) ∧ Below w.heap.size w w' := by
  have hh := waive_any s d day w
  rw [h] at hh
  exact hh
theorem rwaive_is {s d day x y z : Int} (h : wv s d day = (x, y, z)) (w : World) : Calls Try.prog 21 #[bv s d, .int .i64 day] w fun e w' => e = .returned (.tuple #[bv x y, .int .i64 z]) ∧ Below w.heap.size w w' := by
  have hh := rwaive_any s d day w
  rw [h] at hh
  exact hh
theorem held_t {w W W' : World} {pp pa pb pc pd pu pv : Nat} {s d x1 y1 x2 y2 x3 y3 : Int} (hb : Below W.heap.size W W') (h : Below w.heap.size w W ∧ W.cell? ⟨pp, 0, none⟩ = some (.int .i64 s) ∧ W.cell? ⟨pp, 1, none⟩ = some (.int .i64 d) ∧ W.cell? ⟨pa, 0, none⟩ = some (.int .i64 x1) ∧ W.cell? ⟨pa, 1, none⟩ = some (.int .i64 y1) ∧ W.cell? ⟨pb, 0, none⟩ = some (.int .i64 x1) ∧ W.cell? ⟨pb, 1, none⟩ = some (.int .i64 y1) ∧ W.cell? ⟨pc, 0, none⟩ = some (.int .i64 x2) ∧ W.cell? ⟨pc, 1, none⟩ = some (.int .i64 y2) ∧ W.cell? ⟨pd, 0, none⟩ = some (.int .i64 x2) ∧ W.cell? ⟨pd, 1, none⟩ = some (.int .i64 y2) ∧ W.cell? ⟨pu, 0, none⟩ = some (.int .i64 x3) ∧ W.cell? ⟨pu, 1, none⟩ = some (.int .i64 y3) ∧ W.cell? ⟨pv, 0, none⟩ = some (.int .i64 x3) ∧ W.cell? ⟨pv, 1, none⟩ = some (.int .i64 y3)) : Below w.heap.size w W' ∧ W'.cell? ⟨pp, 0, none⟩ = some (.int .i64 s) ∧ W'.cell? ⟨pp, 1, none⟩ = some (.int .i64 d) ∧ W'.cell? ⟨pa, 0, none⟩ = some (.int .i64 x1) ∧ W'.cell? ⟨pa, 1, none⟩ = some (.int .i64 y1) ∧ W'.cell? ⟨pb, 0, none⟩ = some (.int .i64 x1) ∧ W'.cell? ⟨pb, 1, none⟩ = some (.int .i64 y1) ∧ W'.cell? ⟨pc, 0, none⟩ = some (.int .i64 x2) ∧ W'.cell? ⟨pc, 1, none⟩ = some (.int .i64 y2) ∧ W'.cell? ⟨pd, 0, none⟩ = some (.int .i64 x2) ∧ W'.cell? ⟨pd, 1, none⟩ = some (.int .i64 y2) ∧ W'.cell? ⟨pu, 0, none⟩ = some (.int .i64 x3) ∧ W'.cell? ⟨pu, 1, none⟩ = some (.int .i64 y3) ∧ W'.cell? ⟨pv, 0, none⟩ = some (.int .i64 x3) ∧ W'.cell? ⟨pv, 1, none⟩ = some (.int .i64 y3) := by
  obtain ⟨h0, h1, h2, h3, h4, h5, h6, h7, h8, h9, h10, h11, h12, h13, h14⟩ := h
  exact ⟨over hb h0, keep hb _ _ _ h1, keep hb _ _ _ h2, keep hb _ _ _ h3, keep hb _ _ _ h4, keep hb _ _ _ h5, keep hb _ _ _ h6, keep hb _ _ _ h7, keep hb _ _ _ h8, keep hb _ _ _ h9, keep hb _ _ _ h10, keep hb _ _ _ h11, keep hb _ _ _ h12, keep hb _ _ _ h13, keep hb _ _ _ h14⟩
theorem w_h {w W : World} {Q : Prop} {A : Option Addr} {n cap : Nat} {l : List (Int × Int)} {x y : Int} (h : Below w.heap.size w W ∧ Q) (hn : l.length = n) (hc : Brs w A l) (hbig : n ≤ 1000000) (hx : wrs l = (x, y)) :
    Calls Try.prog 24 #[.slice A n cap] W fun e w' => e = .returned (bv x y) ∧ Below W.heap.size W w' := w_of W hn (hc.keep h.1) hbig hx
theorem rw_h {w W : World} {Q : Prop} {A : Option Addr} {n cap : Nat} {l : List (Int × Int)} {x y : Int} (h : Below w.heap.size w W ∧ Q) (hn : l.length = n) (hc : Brs w A l) (hbig : n ≤ 1000000) (hx : wrs l = (x, y)) :
    Calls Try.prog 25 #[.slice A n cap] W fun e w' => e = .returned (bv x y) ∧ Below W.heap.size W w' := by
  have hh := rworst_any A n cap l W hn (hc.keep h.1) hbig
  rw [hx] at hh
  exact hh

set_option maxRecDepth 100000 in
set_option maxHeartbeats 1000000 in
theorem bt_a (s d kept grace day : Int) (A : Option Addr) (n cap : Nat) (w : World) (h0 : 40 < n) :
    Calls Try.prog 3 #[.int .i64 s, .int .i64 d, .int .i64 kept, .int .i64 grace, .int .i64 day, .slice A n cap] w fun e w' => e = .returned (.bool true) ∧ Below w.heap.size w w' := by
  go_enter Try.func3, Try.ntmps3
  go_wp2_with (fail)
  refine (small_any _).mono ?_
  rintro e w1 ⟨rfl, hb1⟩
  go_wp2
  go_ret
  exact ⟨rfl, hb1⟩

set_option maxRecDepth 100000 in
set_option maxHeartbeats 8000000 in
theorem bt_b (s d kept grace day : Int) (A : Option Addr) (n cap : Nat) (l : List (Int × Int)) (w : World) (hn : l.length = n) (hc : Brs w A l) (h0 : n ≤ 40) :
    Calls Try.prog 3 #[.int .i64 s, .int .i64 d, .int .i64 kept, .int .i64 grace, .int .i64 day, .slice A n cap] w fun e w' => e = .returned (.bool true) ∧ Below w.heap.size w w' := by
  have HN := Lib.hid hn
  obtain ⟨x1, y1, z1, h1⟩ : ∃ x y z, nx s d kept grace day = (x, y, z) := ⟨_, _, _, rfl⟩
  obtain ⟨x2, y2, z2, h2⟩ : ∃ x y z, nt s d day = (x, y, z) := ⟨_, _, _, rfl⟩
  obtain ⟨x3, y3, z3, h3⟩ : ∃ x y z, wv s d day = (x, y, z) := ⟨_, _, _, rfl⟩
  obtain ⟨x4, y4, h4⟩ : ∃ x y, wrs l = (x, y) := ⟨_, _, rfl⟩
  obtain ⟨q, hq⟩ : ∃ q, okB s d = q := ⟨_, rfl⟩
  have H1 := Lib.hid h1
  have H2 := Lib.hid h2
  have H3 := Lib.hid h3
  have H4 := Lib.hid h4
  have HQ := Lib.hid hq
  clear hn h1 h2 h3 h4 hq
  go_enter Try.func3, Try.ntmps3
  go_wp2_with (fail)
  refine (small_any _).mono ?_
  rintro e w1 ⟨rfl, hb1⟩
  have hB1 : Below w.heap.size w w1 := over hb1 (by go_grown)
  have y_1 : w.heap.size ≤ w1.heap.size := hB1.size
  clear hb1
  go_wp2_with (fail)
  refine (next_is H1.out _).mono ?_
  rintro e w2 ⟨rfl, hb2⟩
  have hs2 := hb2.size
  try simp only [World.size_setCell] at hs2
  try simp only [World.size_alloc] at hs2
  have hB2 : Below w.heap.size w w2 := over hb2 (by go_grown)
  have y_2 : w.heap.size ≤ w2.heap.size := hB2.size
  have zp_2 : w1.heap.size < w2.heap.size := by omega
  obtain ⟨p0_2, p1_2⟩ := keep2 hb2 (w1.heap.size) (.int .i64 s) (.int .i64 d) (by simp [go_sem])
  clear hB1 y_1 hs2 hb2
  go_wp2_with (fail)
  refine (rnext_is H1.out _).mono ?_
  rintro e w3 ⟨rfl, hb3⟩
  have hs3 := hb3.size
  try simp only [World.size_setCell] at hs3
  try simp only [World.size_alloc] at hs3
  have hB3 : Below w.heap.size w w3 := over hb3 (by go_grown)
  have y_3 : w.heap.size ≤ w3.heap.size := hB3.size
  have zp_3 : w1.heap.size < w3.heap.size := by omega
  obtain ⟨p0_3, p1_3⟩ := keep2 hb3 (w1.heap.size) (.int .i64 s) (.int .i64 d) (by first | exact ⟨p0_2, p1_2⟩ | exact ⟨al p0_2, al p1_2⟩ | exact ⟨al (al p0_2), al (al p1_2)⟩)
  have za_3 : w2.heap.size < w3.heap.size := by omega
  obtain ⟨a0_3, a1_3⟩ := keep2 hb3 (w2.heap.size) (.int .i64 x1) (.int .i64 y1) (by simp [go_sem])
  clear p0_2 p1_2 zp_2 hB2 y_2 hs3 hb3
  go_wp2_with (fail)
  refine (notice_is H2.out _).mono ?_
  rintro e w4 ⟨rfl, hb4⟩
  have hs4 := hb4.size
  try simp only [World.size_setCell] at hs4
  try simp only [World.size_alloc] at hs4
  have hB4 : Below w.heap.size w w4 := over hb4 (by go_grown)
  have y_4 : w.heap.size ≤ w4.heap.size := hB4.size
  have zp_4 : w1.heap.size < w4.heap.size := by omega
  obtain ⟨p0_4, p1_4⟩ := keep2 hb4 (w1.heap.size) (.int .i64 s) (.int .i64 d) (by first | exact ⟨p0_3, p1_3⟩ | exact ⟨al p0_3, al p1_3⟩ | exact ⟨al (al p0_3), al (al p1_3)⟩)
  have za_4 : w2.heap.size < w4.heap.size := by omega
  obtain ⟨a0_4, a1_4⟩ := keep2 hb4 (w2.heap.size) (.int .i64 x1) (.int .i64 y1) (by first | exact ⟨a0_3, a1_3⟩ | exact ⟨al a0_3, al a1_3⟩ | exact ⟨al (al a0_3), al (al a1_3)⟩)
  have zb_4 : w3.heap.size < w4.heap.size := by omega
  obtain ⟨b0_4, b1_4⟩ := keep2 hb4 (w3.heap.size) (.int .i64 x1) (.int .i64 y1) (by simp [go_sem])
  clear p0_3 p1_3 zp_3 a0_3 a1_3 za_3 hB3 y_3 hs4 hb4
  go_wp2_with (fail)
  refine (rnotice_is H2.out _).mono ?_
  rintro e w5 ⟨rfl, hb5⟩
  have hs5 := hb5.size
  try simp only [World.size_setCell] at hs5
  try simp only [World.size_alloc] at hs5
  have hB5 : Below w.heap.size w w5 := over hb5 (by go_grown)
  have y_5 : w.heap.size ≤ w5.heap.size := hB5.size
  have zp_5 : w1.heap.size < w5.heap.size := by omega
  obtain ⟨p0_5, p1_5⟩ := keep2 hb5 (w1.heap.size) (.int .i64 s) (.int .i64 d) (by first | exact ⟨p0_4, p1_4⟩ | exact ⟨al p0_4, al p1_4⟩ | exact ⟨al (al p0_4), al (al p1_4)⟩)
  have za_5 : w2.heap.size < w5.heap.size := by omega
  obtain ⟨a0_5, a1_5⟩ := keep2 hb5 (w2.heap.size) (.int .i64 x1) (.int .i64 y1) (by first | exact ⟨a0_4, a1_4⟩ | exact ⟨al a0_4, al a1_4⟩ | exact ⟨al (al a0_4), al (al a1_4)⟩)
  have zb_5 : w3.heap.size < w5.heap.size := by omega
  obtain ⟨b0_5, b1_5⟩ := keep2 hb5 (w3.heap.size) (.int .i64 x1) (.int .i64 y1) (by first | exact ⟨b0_4, b1_4⟩ | exact ⟨al b0_4, al b1_4⟩ | exact ⟨al (al b0_4), al (al b1_4)⟩)
  have zc_5 : w4.heap.size < w5.heap.size := by omega
  obtain ⟨c0_5, c1_5⟩ := keep2 hb5 (w4.heap.size) (.int .i64 x2) (.int .i64 y2) (by simp [go_sem])
  clear p0_4 p1_4 zp_4 a0_4 a1_4 za_4 b0_4 b1_4 zb_4 hB4 y_4 hs5 hb5
  go_wp2_with (fail)
  refine (waive_is H3.out _).mono ?_
  rintro e w6 ⟨rfl, hb6⟩
  have hs6 := hb6.size
  try simp only [World.size_setCell] at hs6
  try simp only [World.size_alloc] at hs6
  have hB6 : Below w.heap.size w w6 := over hb6 (by go_grown)
  have y_6 : w.heap.size ≤ w6.heap.size := hB6.size
  have zp_6 : w1.heap.size < w6.heap.size := by omega
  obtain ⟨p0_6, p1_6⟩ := keep2 hb6 (w1.heap.size) (.int .i64 s) (.int .i64 d) (by first | exact ⟨p0_5, p1_5⟩ | exact ⟨al p0_5, al p1_5⟩ | exact ⟨al (al p0_5), al (al p1_5)⟩)
  have za_6 : w2.heap.size < w6.heap.size := by omega
  obtain ⟨a0_6, a1_6⟩ := keep2 hb6 (w2.heap.size) (.int .i64 x1) (.int .i64 y1) (by first | exact ⟨a0_5, a1_5⟩ | exact ⟨al a0_5, al a1_5⟩ | exact ⟨al (al a0_5), al (al a1_5)⟩)
  have zb_6 : w3.heap.size < w6.heap.size := by omega
  obtain ⟨b0_6, b1_6⟩ := keep2 hb6 (w3.heap.size) (.int .i64 x1) (.int .i64 y1) (by first | exact ⟨b0_5, b1_5⟩ | exact ⟨al b0_5, al b1_5⟩ | exact ⟨al (al b0_5), al (al b1_5)⟩)
  have zc_6 : w4.heap.size < w6.heap.size := by omega
  obtain ⟨c0_6, c1_6⟩ := keep2 hb6 (w4.heap.size) (.int .i64 x2) (.int .i64 y2) (by first | exact ⟨c0_5, c1_5⟩ | exact ⟨al c0_5, al c1_5⟩ | exact ⟨al (al c0_5), al (al c1_5)⟩)
  have zd_6 : w5.heap.size < w6.heap.size := by omega
  obtain ⟨d0_6, d1_6⟩ := keep2 hb6 (w5.heap.size) (.int .i64 x2) (.int .i64 y2) (by simp [go_sem])
  clear p0_5 p1_5 zp_5 a0_5 a1_5 za_5 b0_5 b1_5 zb_5 c0_5 c1_5 zc_5 hB5 y_5 hs6 hb6
  go_wp2_with (fail)
  refine (rwaive_is H3.out _).mono ?_
  rintro e w7 ⟨rfl, hb7⟩
  have hs7 := hb7.size
  try simp only [World.size_setCell] at hs7
  try simp only [World.size_alloc] at hs7
  have hB7 : Below w.heap.size w w7 := over hb7 (by go_grown)
  have y_7 : w.heap.size ≤ w7.heap.size := hB7.size
  have zp_7 : w1.heap.size < w7.heap.size := by omega
  obtain ⟨p0_7, p1_7⟩ := keep2 hb7 (w1.heap.size) (.int .i64 s) (.int .i64 d) (by first | exact ⟨p0_6, p1_6⟩ | exact ⟨al p0_6, al p1_6⟩ | exact ⟨al (al p0_6), al (al p1_6)⟩)
  have za_7 : w2.heap.size < w7.heap.size := by omega
  obtain ⟨a0_7, a1_7⟩ := keep2 hb7 (w2.heap.size) (.int .i64 x1) (.int .i64 y1) (by first | exact ⟨a0_6, a1_6⟩ | exact ⟨al a0_6, al a1_6⟩ | exact ⟨al (al a0_6), al (al a1_6)⟩)
  have zb_7 : w3.heap.size < w7.heap.size := by omega
  obtain ⟨b0_7, b1_7⟩ := keep2 hb7 (w3.heap.size) (.int .i64 x1) (.int .i64 y1) (by first | exact ⟨b0_6, b1_6⟩ | exact ⟨al b0_6, al b1_6⟩ | exact ⟨al (al b0_6), al (al b1_6)⟩)
  have zc_7 : w4.heap.size < w7.heap.size := by omega
  obtain ⟨c0_7, c1_7⟩ := keep2 hb7 (w4.heap.size) (.int .i64 x2) (.int .i64 y2) (by first | exact ⟨c0_6, c1_6⟩ | exact ⟨al c0_6, al c1_6⟩ | exact ⟨al (al c0_6), al (al c1_6)⟩)
  have zd_7 : w5.heap.size < w7.heap.size := by omega
  obtain ⟨d0_7, d1_7⟩ := keep2 hb7 (w5.heap.size) (.int .i64 x2) (.int .i64 y2) (by first | exact ⟨d0_6, d1_6⟩ | exact ⟨al d0_6, al d1_6⟩ | exact ⟨al (al d0_6), al (al d1_6)⟩)
  have zu_7 : w6.heap.size < w7.heap.size := by omega
  obtain ⟨u0_7, u1_7⟩ := keep2 hb7 (w6.heap.size) (.int .i64 x3) (.int .i64 y3) (by simp [go_sem])
  clear p0_6 p1_6 zp_6 a0_6 a1_6 za_6 b0_6 b1_6 zb_6 c0_6 c1_6 zc_6 d0_6 d1_6 zd_6 hB6 y_6 hs7 hb7
  go_wp2_with (fail)
  have R : Below w.heap.size w (w7.alloc (.cells #[.int .i64 x3, .int .i64 y3] 25)) := by go_grown
  have P0 := al (o := .cells #[.int .i64 x3, .int .i64 y3] 25) p0_7
  have P1 := al (o := .cells #[.int .i64 x3, .int .i64 y3] 25) p1_7
  have A0 := al (o := .cells #[.int .i64 x3, .int .i64 y3] 25) a0_7
  have A1 := al (o := .cells #[.int .i64 x3, .int .i64 y3] 25) a1_7
  have B0 := al (o := .cells #[.int .i64 x3, .int .i64 y3] 25) b0_7
  have B1 := al (o := .cells #[.int .i64 x3, .int .i64 y3] 25) b1_7
  have C0 := al (o := .cells #[.int .i64 x3, .int .i64 y3] 25) c0_7
  have C1 := al (o := .cells #[.int .i64 x3, .int .i64 y3] 25) c1_7
  have D0 := al (o := .cells #[.int .i64 x3, .int .i64 y3] 25) d0_7
  have D1 := al (o := .cells #[.int .i64 x3, .int .i64 y3] 25) d1_7
  have U0 := al (o := .cells #[.int .i64 x3, .int .i64 y3] 25) u0_7
  have U1 := al (o := .cells #[.int .i64 x3, .int .i64 y3] 25) u1_7
  have V0 : (w7.alloc (.cells #[.int .i64 x3, .int .i64 y3] 25)).cell? ⟨w7.heap.size, 0, none⟩ = some (.int .i64 x3) := by simp [go_sem]
  have V1 : (w7.alloc (.cells #[.int .i64 x3, .int .i64 y3] 25)).cell? ⟨w7.heap.size, 1, none⟩ = some (.int .i64 y3) := by simp [go_sem]
  clear p0_7 p1_7 a0_7 a1_7 b0_7 b1_7 c0_7 c1_7 d0_7 d1_7 u0_7 u1_7 zp_7 za_7 zb_7 zc_7 zd_7 zu_7 hB7 y_7
  generalize (w7.alloc (.cells #[.int .i64 x3, .int .i64 y3] 25)) = X at R P0 P1 A0 A1 B0 B1 C0 C1 D0 D1 U0 U1 V0 V1 ⊢
  generalize w1.heap.size = pp at *
  generalize w2.heap.size = pa at *
  generalize w3.heap.size = pb at *
  generalize w4.heap.size = pc at *
  generalize w5.heap.size = pd at *
  generalize w6.heap.size = pu at *
  generalize w7.heap.size = pv at *
  go_region_held3 (fun W' => Below w.heap.size w W' ∧ W'.cell? ⟨pp, 0, none⟩ = some (.int .i64 s) ∧ W'.cell? ⟨pp, 1, none⟩ = some (.int .i64 d) ∧ W'.cell? ⟨pa, 0, none⟩ = some (.int .i64 x1) ∧ W'.cell? ⟨pa, 1, none⟩ = some (.int .i64 y1) ∧ W'.cell? ⟨pb, 0, none⟩ = some (.int .i64 x1) ∧ W'.cell? ⟨pb, 1, none⟩ = some (.int .i64 y1) ∧ W'.cell? ⟨pc, 0, none⟩ = some (.int .i64 x2) ∧ W'.cell? ⟨pc, 1, none⟩ = some (.int .i64 y2) ∧ W'.cell? ⟨pd, 0, none⟩ = some (.int .i64 x2) ∧ W'.cell? ⟨pd, 1, none⟩ = some (.int .i64 y2) ∧ W'.cell? ⟨pu, 0, none⟩ = some (.int .i64 x3) ∧ W'.cell? ⟨pu, 1, none⟩ = some (.int .i64 y3) ∧ W'.cell? ⟨pv, 0, none⟩ = some (.int .i64 x3) ∧ W'.cell? ⟨pv, 1, none⟩ = some (.int .i64 y3))
    (first | exact ⟨R.drew, P0, P1, A0, A1, B0, B1, C0, C1, D0, D1, U0, U1, V0, V1⟩ | exact held_t (by assumption) (by assumption))
    (first
      | (go_at_call 22; (with_reducible refine (r_is HQ.out _).mono ?_); rintro e w' ⟨rfl, hb'⟩)
      | (go_at_call 23; (with_reducible refine (rr_is HQ.out _).mono ?_); rintro e w' ⟨rfl, hb'⟩)
      | (go_at_call 24; (with_reducible refine (w_h (by assumption) HN.out hc (by omega) H4.out).mono ?_); rintro e w' ⟨rfl, hb'⟩)
      | (go_at_call 25; (with_reducible refine (rw_h (by assumption) HN.out hc (by omega) H4.out).mono ?_); rintro e w' ⟨rfl, hb'⟩))
  rename_i hH
  have hZ := hH.1
  clear hH P0 P1 A0 A1 B0 B1 C0 C1 D0 D1 U0 U1 V0 V1
  go_wp2
  go_ret
  exact ⟨rfl, hZ⟩
end Go.Proofs.Ytblegaclcpoonaa.Br
