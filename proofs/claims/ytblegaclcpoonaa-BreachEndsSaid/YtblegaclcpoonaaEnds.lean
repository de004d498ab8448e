/- BreachEnds returns true: every stage, day, news and grace; no condition. -/
import Derived.Test.YtblegaclcpoonaaBrS
namespace Go.Proofs.Ytblegaclcpoonaa.Br
open Go.ChangeShapes Go.WideShapes Go.ChangeAt Go.RowKit
set_option linter.unusedVariables false

theorem nx_ok {s d kept grace day : Int} (q : 0 ≤ kept ∧ kept < 3 ∧ 0 ≤ grace ∧ grace ≤ 1000) (hr : rdy s d day = 0) : (nx s d kept grace day).2.2 = 0 := by
  unfold nx
  rw [if_neg (fun h => h q), if_neg (fun h => h hr)]
  split
  · rfl
  · split
    · rfl
    · split
      · rfl
      · split <;> rfl
theorem n_ok {s d kept grace day : Int} (q : 0 ≤ kept ∧ kept < 3 ∧ 0 ≤ grace ∧ grace ≤ 1000) (hr : rdy s d day = 0) (w : World) :
    Calls Try.prog 16 #[bv s d, .int .i64 kept, .int .i64 grace, .int .i64 day] w fun e w' => e = .returned (.tuple #[bv (nx s d kept grace day).1 (nx s d kept grace day).2.1, .int .i64 0]) ∧ Below w.heap.size w w' := by
  have h := next_any s d kept grace day w
  rw [nx_ok q hr] at h
  exact h
theorem n_same {s d kept grace day : Int} (q : 0 ≤ kept ∧ kept < 3 ∧ 0 ≤ grace ∧ grace ≤ 1000) (hr : rdy s d day = 0) (hs : s = 2 ∨ s = 3) (w : World) :
    Calls Try.prog 16 #[bv s d, .int .i64 kept, .int .i64 grace, .int .i64 day] w fun e w' => e = .returned (.tuple #[bv s d, .int .i64 0]) ∧ Below w.heap.size w w' := by
  have h := next_any s d kept grace day w
  rw [show nx s d kept grace day = (s, d, 0) from by
    unfold nx
    rw [if_neg (fun h => h q), if_neg (fun h => h hr), if_neg (by omega), if_neg (by omega), if_neg (by omega), if_neg (by omega)]] at h
  exact h
theorem n_again {grace day : Int} (q : 1 ≤ grace ∧ grace ≤ 1000) (hr : rdy 0 0 day = 0) (w : World) :
    Calls Try.prog 16 #[bv 0 0, .int .i64 0, .int .i64 grace, .int .i64 day] w fun e w' => e = .returned (.tuple #[bv 1 day, .int .i64 0]) ∧ Below w.heap.size w w' := by
  have h := next_any 0 0 0 grace day w
  rw [show nx 0 0 0 grace day = (1, day, 0) from by
    unfold nx
    rw [if_neg (fun h => h ⟨by omega, by omega, by omega, by omega⟩), if_neg (fun h => h hr), if_neg (by omega), if_pos ⟨rfl, rfl⟩]] at h
  exact h
theorem r_of {s d : Int} {b : Bool} (h : okB s d = b) (w : World) : Calls Try.prog 22 #[bv s d] w fun e w' => e = .returned (.bool b) ∧ Below w.heap.size w w' := by
  have hh := right_any s d w
  rw [h] at hh
  exact hh
theorem nt_2 {d day : Int} (hr : rdy 2 d day = 0) (w : World) : Calls Try.prog 18 #[bv 2 d, .int .i64 day] w fun e w' => e = .returned (.tuple #[bv 3 day, .int .i64 0]) ∧ Below w.heap.size w w' := by
  have h := notice_any 2 d day w
  rw [show nt 2 d day = (3, day, 0) from by unfold nt; rw [if_neg (fun h => h hr), if_pos rfl]] at h
  exact h
theorem nt_x {s d day : Int} (hr : rdy s d day = 0) (hs : s ≠ 2) (w : World) : Calls Try.prog 18 #[bv s d, .int .i64 day] w fun e w' => e = .returned (.tuple #[bv s d, .int .i64 7]) ∧ Below w.heap.size w w' := by
  have h := notice_any s d day w
  rw [show nt s d day = (s, d, 7) from by unfold nt; rw [if_neg (fun h => h hr), if_neg hs]] at h
  exact h
theorem wv_ok {s d day : Int} (hr : rdy s d day = 0) (hs : s = 1 ∨ s = 2) (w : World) : Calls Try.prog 20 #[bv s d, .int .i64 day] w fun e w' => e = .returned (.tuple #[bv 0 0, .int .i64 0]) ∧ Below w.heap.size w w' := by
  have h := waive_any s d day w
  rw [show wv s d day = (0, 0, 0) from by unfold wv; rw [if_neg (fun h => h hr), if_neg (by omega)]] at h
  exact h
theorem wv_x {s d day : Int} (hr : rdy s d day = 0) (hs : s = 0 ∨ s = 3) (w : World) : Calls Try.prog 20 #[bv s d, .int .i64 day] w fun e w' => e = .returned (.tuple #[bv s d, .int .i64 7]) ∧ Below w.heap.size w w' := by
  have h := waive_any s d day w
  rw [show wv s d day = (s, d, 7) from by unfold wv; rw [if_neg (fun h => h hr), if_pos hs]] at h
  exact h

set_option maxRecDepth 100000 in
set_option maxHeartbeats 4000000 in
theorem ends_a (s d kept grace day : Int) (w : World) (k0 : 0 ≤ kept) (k1 : kept ≤ 255) (g0 : 0 ≤ grace) (g1 : grace ≤ 255) (hb : Hid (okB s d = false)) :
    Calls Try.prog 6 #[.int .i64 s, .int .i64 d, .int .u8 kept, .int .u8 grace, .int .i64 day] w fun e w' => e = .returned (.bool true) ∧ Below w.heap.size w w' := by
  go_enter Try.func6, Try.ntmps6
  go_wp2_with (fail)
  refine (small_any _).mono ?_
  rintro e w1 ⟨rfl, hb1⟩
  have hB1 : Below w.heap.size w w1 := over hb1 (by go_grown)
  have y_1 : w.heap.size ≤ w1.heap.size := hB1.size
  clear hb1
  go_wp2_with (fail)
  refine (r_of hb.out _).mono ?_
  rintro e w2 ⟨rfl, hb2⟩
  have hs2 := hb2.size
  try simp only [World.size_setCell] at hs2
  try simp only [World.size_alloc] at hs2
  have hB2 : Below w.heap.size w w2 := over hb2 (by go_grown)
  have y_2 : w.heap.size ≤ w2.heap.size := hB2.size
  have zb_2 : w1.heap.size < w2.heap.size := by omega
  obtain ⟨b0_2, b1_2⟩ := keep2 hb2 (w1.heap.size) (.int .i64 s) (.int .i64 d) (by simp [go_sem])
  clear hB1 y_1 hs2 hb2
  go_wp2
  go_ret
  exact ⟨rfl, by go_grown⟩

set_option maxRecDepth 100000 in
set_option maxHeartbeats 4000000 in
theorem ends_b (s d kept grace day : Int) (w : World) (k0 : 0 ≤ kept) (k1 : kept ≤ 255) (g0 : 0 ≤ grace) (g1 : grace ≤ 255) (hb : Hid (okB s d = true)) (hd : day < d) :
    Calls Try.prog 6 #[.int .i64 s, .int .i64 d, .int .u8 kept, .int .u8 grace, .int .i64 day] w fun e w' => e = .returned (.bool true) ∧ Below w.heap.size w w' := by
  go_enter Try.func6, Try.ntmps6
  go_wp2_with (fail)
  refine (small_any _).mono ?_
  rintro e w1 ⟨rfl, hb1⟩
  have hB1 : Below w.heap.size w w1 := over hb1 (by go_grown)
  have y_1 : w.heap.size ≤ w1.heap.size := hB1.size
  clear hb1
  go_wp2_with (fail)
  refine (r_of hb.out _).mono ?_
  rintro e w2 ⟨rfl, hb2⟩
  have hs2 := hb2.size
  try simp only [World.size_setCell] at hs2
  try simp only [World.size_alloc] at hs2
  have hB2 : Below w.heap.size w w2 := over hb2 (by go_grown)
  have y_2 : w.heap.size ≤ w2.heap.size := hB2.size
  have zb_2 : w1.heap.size < w2.heap.size := by omega
  obtain ⟨b0_2, b1_2⟩ := keep2 hb2 (w1.heap.size) (.int .i64 s) (.int .i64 d) (by simp [go_sem])
  clear hB1 y_1 hs2 hb2
  go_wp2
  go_ret
  exact ⟨rfl, by go_grown⟩

set_option maxRecDepth 100000 in
set_option maxHeartbeats 4000000 in
theorem ends_c (s d kept grace day : Int) (w : World) (k0 : 0 ≤ kept) (k1 : kept ≤ 255) (g0 : 0 ≤ grace) (g1 : grace ≤ 255) (hb : Hid (okB s d = true)) (hd0 : d ≤ day) (hd : 200000 < day) :
    Calls Try.prog 6 #[.int .i64 s, .int .i64 d, .int .u8 kept, .int .u8 grace, .int .i64 day] w fun e w' => e = .returned (.bool true) ∧ Below w.heap.size w w' := by
  go_enter Try.func6, Try.ntmps6
  go_wp2_with (fail)
  refine (small_any _).mono ?_
  rintro e w1 ⟨rfl, hb1⟩
  have hB1 : Below w.heap.size w w1 := over hb1 (by go_grown)
  have y_1 : w.heap.size ≤ w1.heap.size := hB1.size
  clear hb1
  go_wp2_with (fail)
  refine (r_of hb.out _).mono ?_
  rintro e w2 ⟨rfl, hb2⟩
  have hs2 := hb2.size
  try simp only [World.size_setCell] at hs2
  try simp only [World.size_alloc] at hs2
  have hB2 : Below w.heap.size w w2 := over hb2 (by go_grown)
  have y_2 : w.heap.size ≤ w2.heap.size := hB2.size
  have zb_2 : w1.heap.size < w2.heap.size := by omega
  obtain ⟨b0_2, b1_2⟩ := keep2 hb2 (w1.heap.size) (.int .i64 s) (.int .i64 d) (by simp [go_sem])
  clear hB1 y_1 hs2 hb2
  go_wp2
  go_ret
  exact ⟨rfl, by go_grown⟩

set_option maxRecDepth 100000 in
set_option maxHeartbeats 4000000 in
theorem ends_0 (d kept grace day : Int) (w : World) (k0 : 0 ≤ kept) (k1 : kept ≤ 255) (g0 : 0 ≤ grace) (g1 : grace ≤ 255) (hb : Hid (okB 0 d = true)) (hd0 : d ≤ day) (hd : day ≤ 200000) (hr : Hid (rdy 0 d day = 0)) (h00 : Hid (rdy 0 0 day = 0)) (m0 : 0 ≤ kept % 3) (m1 : kept % 3 < 3) :
    Calls Try.prog 6 #[.int .i64 0, .int .i64 d, .int .u8 kept, .int .u8 grace, .int .i64 day] w fun e w' => e = .returned (.bool true) ∧ Below w.heap.size w w' := by
  go_enter Try.func6, Try.ntmps6
  go_wp2_with (fail)
  refine (small_any _).mono ?_
  rintro e w1 ⟨rfl, hb1⟩
  have hB1 : Below w.heap.size w w1 := over hb1 (by go_grown)
  have y_1 : w.heap.size ≤ w1.heap.size := hB1.size
  clear hb1
  go_wp2_with (fail)
  refine (r_of hb.out _).mono ?_
  rintro e w2 ⟨rfl, hb2⟩
  have hs2 := hb2.size
  try simp only [World.size_setCell] at hs2
  try simp only [World.size_alloc] at hs2
  have hB2 : Below w.heap.size w w2 := over hb2 (by go_grown)
  have y_2 : w.heap.size ≤ w2.heap.size := hB2.size
  have zb_2 : w1.heap.size < w2.heap.size := by omega
  obtain ⟨b0_2, b1_2⟩ := keep2 hb2 (w1.heap.size) (.int .i64 0) (.int .i64 d) (by simp [go_sem])
  clear hB1 y_1 hs2 hb2
  go_wp2_with (fail)
  refine (n_ok ⟨by omega, by omega, by omega, by omega⟩ hr.out _).mono ?_
  rintro e w3 ⟨rfl, hb3⟩
  have hs3 := hb3.size
  try simp only [World.size_setCell] at hs3
  try simp only [World.size_alloc] at hs3
  have hB3 : Below w.heap.size w w3 := over hb3 (by go_grown)
  have y_3 : w.heap.size ≤ w3.heap.size := hB3.size
  have zb_3 : w1.heap.size < w3.heap.size := by omega
  obtain ⟨b0_3, b1_3⟩ := keep2 hb3 (w1.heap.size) (.int .i64 0) (.int .i64 d) (by first | exact ⟨b0_2, b1_2⟩ | exact ⟨al b0_2, al b1_2⟩ | exact ⟨al (al b0_2), al (al b1_2)⟩)
  clear b0_2 b1_2 zb_2 hB2 y_2 hs3 hb3
  go_wp2_with (fail)
  refine (nt_x hr.out (by omega) _).mono ?_
  rintro e w4 ⟨rfl, hb4⟩
  have hs4 := hb4.size
  try simp only [World.size_setCell] at hs4
  try simp only [World.size_alloc] at hs4
  have hB4 : Below w.heap.size w w4 := over hb4 (by go_grown)
  have y_4 : w.heap.size ≤ w4.heap.size := hB4.size
  have zb_4 : w1.heap.size < w4.heap.size := by omega
  obtain ⟨b0_4, b1_4⟩ := keep2 hb4 (w1.heap.size) (.int .i64 0) (.int .i64 d) (by first | exact ⟨b0_3, b1_3⟩ | exact ⟨al b0_3, al b1_3⟩ | exact ⟨al (al b0_3), al (al b1_3)⟩)
  have zx_4 : w3.heap.size < w4.heap.size := by omega
  obtain ⟨x0_4, x1_4⟩ := keep2 hb4 (w3.heap.size) (.int .i64 (nx 0 d (kept % 3) grace day).1) (.int .i64 (nx 0 d (kept % 3) grace day).2.1) (by simp [go_sem])
  clear b0_3 b1_3 zb_3 hB3 y_3 hs4 hb4
  go_wp2_with (fail)
  refine (wv_x hr.out (by omega) _).mono ?_
  rintro e w5 ⟨rfl, hb5⟩
  have hs5 := hb5.size
  try simp only [World.size_setCell] at hs5
  try simp only [World.size_alloc] at hs5
  have hB5 : Below w.heap.size w w5 := over hb5 (by go_grown)
  have y_5 : w.heap.size ≤ w5.heap.size := hB5.size
  have zb_5 : w1.heap.size < w5.heap.size := by omega
  obtain ⟨b0_5, b1_5⟩ := keep2 hb5 (w1.heap.size) (.int .i64 0) (.int .i64 d) (by first | exact ⟨b0_4, b1_4⟩ | exact ⟨al b0_4, al b1_4⟩ | exact ⟨al (al b0_4), al (al b1_4)⟩)
  have zx_5 : w3.heap.size < w5.heap.size := by omega
  obtain ⟨x0_5, x1_5⟩ := keep2 hb5 (w3.heap.size) (.int .i64 (nx 0 d (kept % 3) grace day).1) (.int .i64 (nx 0 d (kept % 3) grace day).2.1) (by first | exact ⟨x0_4, x1_4⟩ | exact ⟨al x0_4, al x1_4⟩ | exact ⟨al (al x0_4), al (al x1_4)⟩)
  have zf_5 : w4.heap.size < w5.heap.size := by omega
  obtain ⟨f0_5, f1_5⟩ := keep2 hb5 (w4.heap.size) (.int .i64 0) (.int .i64 d) (by simp [go_sem])
  clear b0_4 b1_4 zb_4 x0_4 x1_4 zx_4 hB4 y_4 hs5 hb5
  go_wp2
  go_ret
  exact ⟨rfl, by go_grown⟩

set_option maxRecDepth 100000 in
set_option maxHeartbeats 4000000 in
theorem ends_1 (d kept grace day : Int) (w : World) (k0 : 0 ≤ kept) (k1 : kept ≤ 255) (g0 : 0 ≤ grace) (g1 : grace ≤ 255) (hb : Hid (okB 1 d = true)) (hd0 : d ≤ day) (hd : day ≤ 200000) (hr : Hid (rdy 1 d day = 0)) (h00 : Hid (rdy 0 0 day = 0)) (m0 : 0 ≤ kept % 3) (m1 : kept % 3 < 3) :
    Calls Try.prog 6 #[.int .i64 1, .int .i64 d, .int .u8 kept, .int .u8 grace, .int .i64 day] w fun e w' => e = .returned (.bool true) ∧ Below w.heap.size w w' := by
  go_enter Try.func6, Try.ntmps6
  go_wp2_with (fail)
  refine (small_any _).mono ?_
  rintro e w1 ⟨rfl, hb1⟩
  have hB1 : Below w.heap.size w w1 := over hb1 (by go_grown)
  have y_1 : w.heap.size ≤ w1.heap.size := hB1.size
  clear hb1
  go_wp2_with (fail)
  refine (r_of hb.out _).mono ?_
  rintro e w2 ⟨rfl, hb2⟩
  have hs2 := hb2.size
  try simp only [World.size_setCell] at hs2
  try simp only [World.size_alloc] at hs2
  have hB2 : Below w.heap.size w w2 := over hb2 (by go_grown)
  have y_2 : w.heap.size ≤ w2.heap.size := hB2.size
  have zb_2 : w1.heap.size < w2.heap.size := by omega
  obtain ⟨b0_2, b1_2⟩ := keep2 hb2 (w1.heap.size) (.int .i64 1) (.int .i64 d) (by simp [go_sem])
  clear hB1 y_1 hs2 hb2
  go_wp2_with (fail)
  refine (n_ok ⟨by omega, by omega, by omega, by omega⟩ hr.out _).mono ?_
  rintro e w3 ⟨rfl, hb3⟩
  have hs3 := hb3.size
  try simp only [World.size_setCell] at hs3
  try simp only [World.size_alloc] at hs3
  have hB3 : Below w.heap.size w w3 := over hb3 (by go_grown)
  have y_3 : w.heap.size ≤ w3.heap.size := hB3.size
  have zb_3 : w1.heap.size < w3.heap.size := by omega
  obtain ⟨b0_3, b1_3⟩ := keep2 hb3 (w1.heap.size) (.int .i64 1) (.int .i64 d) (by first | exact ⟨b0_2, b1_2⟩ | exact ⟨al b0_2, al b1_2⟩ | exact ⟨al (al b0_2), al (al b1_2)⟩)
  clear b0_2 b1_2 zb_2 hB2 y_2 hs3 hb3
  go_wp2_with (fail)
  refine (nt_x hr.out (by omega) _).mono ?_
  rintro e w4 ⟨rfl, hb4⟩
  have hs4 := hb4.size
  try simp only [World.size_setCell] at hs4
  try simp only [World.size_alloc] at hs4
  have hB4 : Below w.heap.size w w4 := over hb4 (by go_grown)
  have y_4 : w.heap.size ≤ w4.heap.size := hB4.size
  have zb_4 : w1.heap.size < w4.heap.size := by omega
  obtain ⟨b0_4, b1_4⟩ := keep2 hb4 (w1.heap.size) (.int .i64 1) (.int .i64 d) (by first | exact ⟨b0_3, b1_3⟩ | exact ⟨al b0_3, al b1_3⟩ | exact ⟨al (al b0_3), al (al b1_3)⟩)
  have zx_4 : w3.heap.size < w4.heap.size := by omega
  obtain ⟨x0_4, x1_4⟩ := keep2 hb4 (w3.heap.size) (.int .i64 (nx 1 d (kept % 3) grace day).1) (.int .i64 (nx 1 d (kept % 3) grace day).2.1) (by simp [go_sem])
  clear b0_3 b1_3 zb_3 hB3 y_3 hs4 hb4
  go_wp2_with (fail)
  refine (wv_ok hr.out (by omega) _).mono ?_
  rintro e w5 ⟨rfl, hb5⟩
  have hs5 := hb5.size
  try simp only [World.size_setCell] at hs5
  try simp only [World.size_alloc] at hs5
  have hB5 : Below w.heap.size w w5 := over hb5 (by go_grown)
  have y_5 : w.heap.size ≤ w5.heap.size := hB5.size
  have zb_5 : w1.heap.size < w5.heap.size := by omega
  obtain ⟨b0_5, b1_5⟩ := keep2 hb5 (w1.heap.size) (.int .i64 1) (.int .i64 d) (by first | exact ⟨b0_4, b1_4⟩ | exact ⟨al b0_4, al b1_4⟩ | exact ⟨al (al b0_4), al (al b1_4)⟩)
  have zx_5 : w3.heap.size < w5.heap.size := by omega
  obtain ⟨x0_5, x1_5⟩ := keep2 hb5 (w3.heap.size) (.int .i64 (nx 1 d (kept % 3) grace day).1) (.int .i64 (nx 1 d (kept % 3) grace day).2.1) (by first | exact ⟨x0_4, x1_4⟩ | exact ⟨al x0_4, al x1_4⟩ | exact ⟨al (al x0_4), al (al x1_4)⟩)
  have zf_5 : w4.heap.size < w5.heap.size := by omega
  obtain ⟨f0_5, f1_5⟩ := keep2 hb5 (w4.heap.size) (.int .i64 1) (.int .i64 d) (by simp [go_sem])
  clear b0_4 b1_4 zb_4 x0_4 x1_4 zx_4 hB4 y_4 hs5 hb5
  go_wp2_with (fail)
  refine (n_again ⟨by omega, by omega⟩ h00.out _).mono ?_
  rintro e w6 ⟨rfl, hb6⟩
  have hs6 := hb6.size
  try simp only [World.size_setCell] at hs6
  try simp only [World.size_alloc] at hs6
  have hB6 : Below w.heap.size w w6 := over hb6 (by go_grown)
  have y_6 : w.heap.size ≤ w6.heap.size := hB6.size
  have zb_6 : w1.heap.size < w6.heap.size := by omega
  obtain ⟨b0_6, b1_6⟩ := keep2 hb6 (w1.heap.size) (.int .i64 1) (.int .i64 d) (by first | exact ⟨b0_5, b1_5⟩ | exact ⟨al b0_5, al b1_5⟩ | exact ⟨al (al b0_5), al (al b1_5)⟩)
  have zx_6 : w3.heap.size < w6.heap.size := by omega
  obtain ⟨x0_6, x1_6⟩ := keep2 hb6 (w3.heap.size) (.int .i64 (nx 1 d (kept % 3) grace day).1) (.int .i64 (nx 1 d (kept % 3) grace day).2.1) (by first | exact ⟨x0_5, x1_5⟩ | exact ⟨al x0_5, al x1_5⟩ | exact ⟨al (al x0_5), al (al x1_5)⟩)
  have zf_6 : w4.heap.size < w6.heap.size := by omega
  obtain ⟨f0_6, f1_6⟩ := keep2 hb6 (w4.heap.size) (.int .i64 1) (.int .i64 d) (by first | exact ⟨f0_5, f1_5⟩ | exact ⟨al f0_5, al f1_5⟩ | exact ⟨al (al f0_5), al (al f1_5)⟩)
  have zv_6 : w5.heap.size < w6.heap.size := by omega
  obtain ⟨v0_6, v1_6⟩ := keep2 hb6 (w5.heap.size) (.int .i64 0) (.int .i64 0) (by simp [go_sem])
  clear b0_5 b1_5 zb_5 x0_5 x1_5 zx_5 f0_5 f1_5 zf_5 hB5 y_5 hs6 hb6
  go_wp2
  go_ret
  exact ⟨rfl, by go_grown⟩

set_option maxRecDepth 100000 in
set_option maxHeartbeats 4000000 in
theorem ends_2 (d kept grace day : Int) (w : World) (k0 : 0 ≤ kept) (k1 : kept ≤ 255) (g0 : 0 ≤ grace) (g1 : grace ≤ 255) (hb : Hid (okB 2 d = true)) (hd0 : d ≤ day) (hd : day ≤ 200000) (hr : Hid (rdy 2 d day = 0)) (h00 : Hid (rdy 0 0 day = 0)) (m0 : 0 ≤ kept % 3) (m1 : kept % 3 < 3) :
    Calls Try.prog 6 #[.int .i64 2, .int .i64 d, .int .u8 kept, .int .u8 grace, .int .i64 day] w fun e w' => e = .returned (.bool true) ∧ Below w.heap.size w w' := by
  go_enter Try.func6, Try.ntmps6
  go_wp2_with (fail)
  refine (small_any _).mono ?_
  rintro e w1 ⟨rfl, hb1⟩
  have hB1 : Below w.heap.size w w1 := over hb1 (by go_grown)
  have y_1 : w.heap.size ≤ w1.heap.size := hB1.size
  clear hb1
  go_wp2_with (fail)
  refine (r_of hb.out _).mono ?_
  rintro e w2 ⟨rfl, hb2⟩
  have hs2 := hb2.size
  try simp only [World.size_setCell] at hs2
  try simp only [World.size_alloc] at hs2
  have hB2 : Below w.heap.size w w2 := over hb2 (by go_grown)
  have y_2 : w.heap.size ≤ w2.heap.size := hB2.size
  have zb_2 : w1.heap.size < w2.heap.size := by omega
  obtain ⟨b0_2, b1_2⟩ := keep2 hb2 (w1.heap.size) (.int .i64 2) (.int .i64 d) (by simp [go_sem])
  clear hB1 y_1 hs2 hb2
  go_wp2_with (fail)
  refine (n_same ⟨by omega, by omega, by omega, by omega⟩ hr.out (by omega) _).mono ?_
  rintro e w3 ⟨rfl, hb3⟩
  have hs3 := hb3.size
  try simp only [World.size_setCell] at hs3
  try simp only [World.size_alloc] at hs3
  have hB3 : Below w.heap.size w w3 := over hb3 (by go_grown)
  have y_3 : w.heap.size ≤ w3.heap.size := hB3.size
  have zb_3 : w1.heap.size < w3.heap.size := by omega
  obtain ⟨b0_3, b1_3⟩ := keep2 hb3 (w1.heap.size) (.int .i64 2) (.int .i64 d) (by first | exact ⟨b0_2, b1_2⟩ | exact ⟨al b0_2, al b1_2⟩ | exact ⟨al (al b0_2), al (al b1_2)⟩)
  clear b0_2 b1_2 zb_2 hB2 y_2 hs3 hb3
  go_wp2_with (fail)
  refine (nt_2 hr.out _).mono ?_
  rintro e w4 ⟨rfl, hb4⟩
  have hs4 := hb4.size
  try simp only [World.size_setCell] at hs4
  try simp only [World.size_alloc] at hs4
  have hB4 : Below w.heap.size w w4 := over hb4 (by go_grown)
  have y_4 : w.heap.size ≤ w4.heap.size := hB4.size
  have zb_4 : w1.heap.size < w4.heap.size := by omega
  obtain ⟨b0_4, b1_4⟩ := keep2 hb4 (w1.heap.size) (.int .i64 2) (.int .i64 d) (by first | exact ⟨b0_3, b1_3⟩ | exact ⟨al b0_3, al b1_3⟩ | exact ⟨al (al b0_3), al (al b1_3)⟩)
  have zx_4 : w3.heap.size < w4.heap.size := by omega
  obtain ⟨x0_4, x1_4⟩ := keep2 hb4 (w3.heap.size) (.int .i64 2) (.int .i64 d) (by simp [go_sem])
  clear b0_3 b1_3 zb_3 hB3 y_3 hs4 hb4
  go_wp2_with (fail)
  refine (wv_ok hr.out (by omega) _).mono ?_
  rintro e w5 ⟨rfl, hb5⟩
  have hs5 := hb5.size
  try simp only [World.size_setCell] at hs5
  try simp only [World.size_alloc] at hs5
  have hB5 : Below w.heap.size w w5 := over hb5 (by go_grown)
  have y_5 : w.heap.size ≤ w5.heap.size := hB5.size
  have zb_5 : w1.heap.size < w5.heap.size := by omega
  obtain ⟨b0_5, b1_5⟩ := keep2 hb5 (w1.heap.size) (.int .i64 2) (.int .i64 d) (by first | exact ⟨b0_4, b1_4⟩ | exact ⟨al b0_4, al b1_4⟩ | exact ⟨al (al b0_4), al (al b1_4)⟩)
  have zx_5 : w3.heap.size < w5.heap.size := by omega
  obtain ⟨x0_5, x1_5⟩ := keep2 hb5 (w3.heap.size) (.int .i64 2) (.int .i64 d) (by first | exact ⟨x0_4, x1_4⟩ | exact ⟨al x0_4, al x1_4⟩ | exact ⟨al (al x0_4), al (al x1_4)⟩)
  have zf_5 : w4.heap.size < w5.heap.size := by omega
  obtain ⟨f0_5, f1_5⟩ := keep2 hb5 (w4.heap.size) (.int .i64 3) (.int .i64 day) (by simp [go_sem])
  clear b0_4 b1_4 zb_4 x0_4 x1_4 zx_4 hB4 y_4 hs5 hb5
  go_wp2_with (fail)
  refine (n_again ⟨by omega, by omega⟩ h00.out _).mono ?_
  rintro e w6 ⟨rfl, hb6⟩
  have hs6 := hb6.size
  try simp only [World.size_setCell] at hs6
  try simp only [World.size_alloc] at hs6
  have hB6 : Below w.heap.size w w6 := over hb6 (by go_grown)
  have y_6 : w.heap.size ≤ w6.heap.size := hB6.size
  have zb_6 : w1.heap.size < w6.heap.size := by omega
  obtain ⟨b0_6, b1_6⟩ := keep2 hb6 (w1.heap.size) (.int .i64 2) (.int .i64 d) (by first | exact ⟨b0_5, b1_5⟩ | exact ⟨al b0_5, al b1_5⟩ | exact ⟨al (al b0_5), al (al b1_5)⟩)
  have zx_6 : w3.heap.size < w6.heap.size := by omega
  obtain ⟨x0_6, x1_6⟩ := keep2 hb6 (w3.heap.size) (.int .i64 2) (.int .i64 d) (by first | exact ⟨x0_5, x1_5⟩ | exact ⟨al x0_5, al x1_5⟩ | exact ⟨al (al x0_5), al (al x1_5)⟩)
  have zf_6 : w4.heap.size < w6.heap.size := by omega
  obtain ⟨f0_6, f1_6⟩ := keep2 hb6 (w4.heap.size) (.int .i64 3) (.int .i64 day) (by first | exact ⟨f0_5, f1_5⟩ | exact ⟨al f0_5, al f1_5⟩ | exact ⟨al (al f0_5), al (al f1_5)⟩)
  have zv_6 : w5.heap.size < w6.heap.size := by omega
  obtain ⟨v0_6, v1_6⟩ := keep2 hb6 (w5.heap.size) (.int .i64 0) (.int .i64 0) (by simp [go_sem])
  clear b0_5 b1_5 zb_5 x0_5 x1_5 zx_5 f0_5 f1_5 zf_5 hB5 y_5 hs6 hb6
  go_wp2
  go_ret
  exact ⟨rfl, by go_grown⟩

set_option maxRecDepth 100000 in
set_option maxHeartbeats 4000000 in
theorem ends_3 (d kept grace day : Int) (w : World) (k0 : 0 ≤ kept) (k1 : kept ≤ 255) (g0 : 0 ≤ grace) (g1 : grace ≤ 255) (hb : Hid (okB 3 d = true)) (hd0 : d ≤ day) (hd : day ≤ 200000) (hr : Hid (rdy 3 d day = 0)) (h00 : Hid (rdy 0 0 day = 0)) (m0 : 0 ≤ kept % 3) (m1 : kept % 3 < 3) :
    Calls Try.prog 6 #[.int .i64 3, .int .i64 d, .int .u8 kept, .int .u8 grace, .int .i64 day] w fun e w' => e = .returned (.bool true) ∧ Below w.heap.size w w' := by
  go_enter Try.func6, Try.ntmps6
  go_wp2_with (fail)
  refine (small_any _).mono ?_
  rintro e w1 ⟨rfl, hb1⟩
  have hB1 : Below w.heap.size w w1 := over hb1 (by go_grown)
  have y_1 : w.heap.size ≤ w1.heap.size := hB1.size
  clear hb1
  go_wp2_with (fail)
  refine (r_of hb.out _).mono ?_
  rintro e w2 ⟨rfl, hb2⟩
  have hs2 := hb2.size
  try simp only [World.size_setCell] at hs2
  try simp only [World.size_alloc] at hs2
  have hB2 : Below w.heap.size w w2 := over hb2 (by go_grown)
  have y_2 : w.heap.size ≤ w2.heap.size := hB2.size
  have zb_2 : w1.heap.size < w2.heap.size := by omega
  obtain ⟨b0_2, b1_2⟩ := keep2 hb2 (w1.heap.size) (.int .i64 3) (.int .i64 d) (by simp [go_sem])
  clear hB1 y_1 hs2 hb2
  go_wp2_with (fail)
  refine (n_same ⟨by omega, by omega, by omega, by omega⟩ hr.out (by omega) _).mono ?_
  rintro e w3 ⟨rfl, hb3⟩
  have hs3 := hb3.size
  try simp only [World.size_setCell] at hs3
  try simp only [World.size_alloc] at hs3
  have hB3 : Below w.heap.size w w3 := over hb3 (by go_grown)
  have y_3 : w.heap.size ≤ w3.heap.size := hB3.size
  have zb_3 : w1.heap.size < w3.heap.size := by omega
  obtain ⟨b0_3, b1_3⟩ := keep2 hb3 (w1.heap.size) (.int .i64 3) (.int .i64 d) (by first | exact ⟨b0_2, b1_2⟩ | exact ⟨al b0_2, al b1_2⟩ | exact ⟨al (al b0_2), al (al b1_2)⟩)
  clear b0_2 b1_2 zb_2 hB2 y_2 hs3 hb3
  go_wp2_with (fail)
  refine (nt_x hr.out (by omega) _).mono ?_
  rintro e w4 ⟨rfl, hb4⟩
  have hs4 := hb4.size
  try simp only [World.size_setCell] at hs4
  try simp only [World.size_alloc] at hs4
  have hB4 : Below w.heap.size w w4 := over hb4 (by go_grown)
  have y_4 : w.heap.size ≤ w4.heap.size := hB4.size
  have zb_4 : w1.heap.size < w4.heap.size := by omega
  obtain ⟨b0_4, b1_4⟩ := keep2 hb4 (w1.heap.size) (.int .i64 3) (.int .i64 d) (by first | exact ⟨b0_3, b1_3⟩ | exact ⟨al b0_3, al b1_3⟩ | exact ⟨al (al b0_3), al (al b1_3)⟩)
  have zx_4 : w3.heap.size < w4.heap.size := by omega
  obtain ⟨x0_4, x1_4⟩ := keep2 hb4 (w3.heap.size) (.int .i64 3) (.int .i64 d) (by simp [go_sem])
  clear b0_3 b1_3 zb_3 hB3 y_3 hs4 hb4
  go_wp2_with (fail)
  refine (wv_x hr.out (by omega) _).mono ?_
  rintro e w5 ⟨rfl, hb5⟩
  have hs5 := hb5.size
  try simp only [World.size_setCell] at hs5
  try simp only [World.size_alloc] at hs5
  have hB5 : Below w.heap.size w w5 := over hb5 (by go_grown)
  have y_5 : w.heap.size ≤ w5.heap.size := hB5.size
  have zb_5 : w1.heap.size < w5.heap.size := by omega
  obtain ⟨b0_5, b1_5⟩ := keep2 hb5 (w1.heap.size) (.int .i64 3) (.int .i64 d) (by first | exact ⟨b0_4, b1_4⟩ | exact ⟨al b0_4, al b1_4⟩ | exact ⟨al (al b0_4), al (al b1_4)⟩)
  have zx_5 : w3.heap.size < w5.heap.size := by omega
  obtain ⟨x0_5, x1_5⟩ := keep2 hb5 (w3.heap.size) (.int .i64 3) (.int .i64 d) (by first | exact ⟨x0_4, x1_4⟩ | exact ⟨al x0_4, al x1_4⟩ | exact ⟨al (al x0_4), al (al x1_4)⟩)
  have zf_5 : w4.heap.size < w5.heap.size := by omega
  obtain ⟨f0_5, f1_5⟩ := keep2 hb5 (w4.heap.size) (.int .i64 3) (.int .i64 d) (by simp [go_sem])
  clear b0_4 b1_4 zb_4 x0_4 x1_4 zx_4 hB4 y_4 hs5 hb5
  go_wp2
  go_ret
  exact ⟨rfl, by go_grown⟩

theorem ends_any (s d kept grace day : Int) (w : World) (k0 : 0 ≤ kept) (k1 : kept ≤ 255) (g0 : 0 ≤ grace) (g1 : grace ≤ 255) :
    Calls Try.prog 6 #[.int .i64 s, .int .i64 d, .int .u8 kept, .int .u8 grace, .int .i64 day] w fun e w' => e = .returned (.bool true) ∧ Below w.heap.size w w' := by
  cases hb : okB s d
  case false => exact ends_a s d kept grace day w k0 k1 g0 g1 hb
  by_cases hd0 : d ≤ day
  case neg => exact ends_b s d kept grace day w k0 k1 g0 g1 hb (by omega)
  by_cases hd : day ≤ 200000
  case neg => exact ends_c s d kept grace day w k0 k1 g0 g1 hb hd0 (by omega)
  have bb := okB_in hb
  have hD : okD day = true := decide_eq_true ⟨by omega, hd⟩
  have hr := rdy_mk hb hD hd0
  have h00 : rdy 0 0 day = 0 := rdy_mk (by decide) hD (by omega)
  have h4 : s = 0 ∨ s = 1 ∨ s = 2 ∨ s = 3 := by omega
  rcases h4 with rfl | rfl | rfl | rfl
  · exact ends_0 d kept grace day w k0 k1 g0 g1 hb hd0 hd hr h00 (by omega) (by omega)
  · exact ends_1 d kept grace day w k0 k1 g0 g1 hb hd0 hd hr h00 (by omega) (by omega)
  · exact ends_2 d kept grace day w k0 k1 g0 g1 hb hd0 hd hr h00 (by omega) (by omega)
  · exact ends_3 d kept grace day w k0 k1 g0 g1 hb hd0 hd hr h00 (by omega) (by omega)
end Go.Proofs.Ytblegaclcpoonaa.Br
