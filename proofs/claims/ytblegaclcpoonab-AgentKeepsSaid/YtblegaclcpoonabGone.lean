/- AgentGone returns true: every purse, every other one, every amount; no condition. -/
import Derived.Test.YtblegaclcpoonabSmall
namespace Go.Proofs.Ytblegaclcpoonab.Agent
open Go.ChangeShapes Go.WideShapes Go.ChangeAt Go.RowKit
set_option linter.unusedVariables false

theorem okB_in {t o : Int} (h : okB t o = true) : 0 ≤ t ∧ t ≤ 1000000000000000 ∧ 0 ≤ o ∧ o ≤ 1000000000000000 := of_decide_eq_true h
theorem okB_mk {t o : Int} (h : 0 ≤ t ∧ t ≤ 1000000000000000 ∧ 0 ≤ o ∧ o ≤ 1000000000000000) : okB t o = true := decide_eq_true h

/-- somebody insolvent: nothing is ready -/
theorem rdy_gone {o n : Int} (h0 : 0 ≤ o) (h1 : o ≤ 1000000000000000) (n0 : 1 ≤ n) (n1 : n ≤ 1000000000000000) : rdy 0 o true n = 7 := by
  unfold rdy
  rw [if_pos ⟨okB_mk ⟨by omega, by omega, h0, h1⟩, n0, n1⟩]
  rfl
section
variable {o n : Int} (h0 : 0 ≤ o) (h1 : o ≤ 1000000000000000) (n0 : 1 ≤ n) (n1 : n ≤ 1000000000000000)
include h0 h1 n0 n1
theorem chE_gone (s c : Int) : chE 0 o true n s c = 7 := by
  unfold chE; rw [rdy_gone h0 h1 n0 n1]; rfl
theorem chV_gone (s c : Int) : chV 0 o true n s c = s := by
  unfold chV; rw [rdy_gone h0 h1 n0 n1]; rfl
theorem g_take (w : World) : Calls Try.prog 18 #[pv 0 o true, .int .i64 n] w fun e w' => e = .returned (.tuple #[pv 0 o true, .int .i64 7]) ∧ Below w.heap.size w w' := by
  have h := take_any 0 o true n w
  rw [chV_gone h0 h1 n0 n1, chE_gone h0 h1 n0 n1] at h
  exact h

theorem g_pay (w : World) : Calls Try.prog 20 #[pv 0 o true, .int .i64 n] w fun e w' => e = .returned (.tuple #[pv 0 o true, .int .i64 7]) ∧ Below w.heap.size w w' := by
  have h := pay_any 0 o true n w
  rw [chV_gone h0 h1 n0 n1, chE_gone h0 h1 n0 n1] at h
  exact h

theorem g_earn (w : World) : Calls Try.prog 22 #[pv 0 o true, .int .i64 n] w fun e w' => e = .returned (.tuple #[pv 0 o true, .int .i64 7]) ∧ Below w.heap.size w w' := by
  have h := earn_any 0 o true n w
  rw [chV_gone h0 h1 n0 n1, chE_gone h0 h1 n0 n1] at h
  exact h

theorem g_spend (w : World) : Calls Try.prog 24 #[pv 0 o true, .int .i64 n] w fun e w' => e = .returned (.tuple #[pv 0 o true, .int .i64 7]) ∧ Below w.heap.size w w' := by
  have h := spend_any 0 o true n w
  rw [chV_gone h0 h1 n0 n1, chE_gone h0 h1 n0 n1] at h
  exact h

theorem g_pass (t' o' : Int) (g' : Bool) (w : World) : Calls Try.prog 26 #[pv 0 o true, pv t' o' g', .int .i64 n] w fun e w' => e = .returned (.tuple #[pv 0 o true, pv t' o' g', .int .i64 7]) ∧ Below w.heap.size w w' := by
  have h := pass_any 0 o true t' o' g' n w
  have e0 : psE 0 o true t' o' g' n = 7 := by unfold psE; rw [chE_gone h0 h1 n0 n1]; rfl
  have e1 : psV 0 o true t' o' g' n = 0 := by unfold psV; rw [e0]; rfl
  have e2 : psW 0 o true t' o' g' n = t' := by unfold psW; rw [e0]; rfl
  rw [e0, e1, e2] at h
  exact h
theorem psE_gone (t' o' : Int) (g' : Bool) : psE t' o' g' 0 o true n ≠ 0 := by
  unfold psE
  split
  · rw [chE_gone h0 h1 n0 n1]; decide
  · assumption
theorem g_pass2 (t' o' : Int) (g' : Bool) (w : World) : Calls Try.prog 26 #[pv t' o' g', pv 0 o true, .int .i64 n] w fun e w' => e = .returned (.tuple #[pv t' o' g', pv 0 o true, .int .i64 (psE t' o' g' 0 o true n)]) ∧ Below w.heap.size w w' := by
  have h := pass_any t' o' g' 0 o true n w
  have e0 := psE_gone h0 h1 n0 n1 t' o' g'
  have e1 : psV t' o' g' 0 o true n = t' := by unfold psV; rw [if_neg e0]
  have e2 : psW t' o' g' 0 o true n = 0 := by unfold psW; rw [if_neg e0]
  rw [e1, e2] at h
  exact h
end
theorem g_break {o : Int} (h0 : 0 ≤ o) (h1 : o ≤ 1000000000000000) (w : World) : Calls Try.prog 28 #[pv 0 o true] w fun e w' => e = .returned (.tuple #[pv 0 o true, .int .i64 0, .int .i64 7]) ∧ Below w.heap.size w w' := by
  have h := break_any 0 o true w
  have e0 : brE 0 o true = 7 := by unfold brE; rw [if_pos (okB_mk ⟨by omega, by omega, h0, h1⟩)]; rfl
  have e1 : brT 0 o true = 0 := by unfold brT; rw [e0]; rfl
  have e2 : brG 0 o true = true := by unfold brG; rw [e0]; rfl
  have e3 : brN 0 o true = 0 := by unfold brN; rw [e0]; rfl
  rw [e0, e1, e2, e3] at h
  exact h
theorem b_gone {t o : Int} (hk : okB t o = true) (w : World) : Calls Try.prog 28 #[pv t o true] w fun e w' => e = .returned (.tuple #[pv t o true, .int .i64 0, .int .i64 7]) ∧ Below w.heap.size w w' := by
  have h := break_any t o true w
  have e0 : brE t o true = 7 := by unfold brE; rw [if_pos hk]; rfl
  have e1 : brT t o true = t := by unfold brT; rw [e0]; rfl
  have e2 : brG t o true = true := by unfold brG; rw [e0]; rfl
  have e3 : brN t o true = 0 := by unfold brN; rw [e0]; rfl
  rw [e0, e1, e2, e3] at h
  exact h
theorem b_live {t o : Int} (hk : okB t o = true) (w : World) : Calls Try.prog 28 #[pv t o false] w fun e w' => e = .returned (.tuple #[pv 0 o true, .int .i64 t, .int .i64 0]) ∧ Below w.heap.size w w' := by
  have h := break_any t o false w
  have e0 : brE t o false = 0 := by unfold brE; rw [if_pos hk]; rfl
  have e1 : brT t o false = 0 := by unfold brT; rw [e0]; rfl
  have e2 : brG t o false = true := by unfold brG; rw [e0]; rfl
  have e3 : brN t o false = t := by unfold brN; rw [e0]; rfl
  rw [e0, e1, e2, e3] at h
  exact h
theorem r_yes {t o : Int} (hk : okB t o = true) (g : Bool) (w : World) : Calls Try.prog 30 #[pv t o g] w fun e w' => e = .returned (.bool true) ∧ Below w.heap.size w w' := by
  have h := right_any t o g w
  rw [hk] at h
  exact h
theorem r_no {t o : Int} (hk : okB t o = false) (g : Bool) (w : World) : Calls Try.prog 30 #[pv t o g] w fun e w' => e = .returned (.bool false) ∧ Below w.heap.size w w' := by
  have h := right_any t o g w
  rw [hk] at h
  exact h

set_option maxRecDepth 100000 in
set_option maxHeartbeats 4000000 in
theorem gone_a (t o : Int) (g : Bool) (t' o' : Int) (g' : Bool) (n : Int) (w : World) (hp : okB t o = false) :
    Calls Try.prog 7 #[pv t o g, pv t' o' g', .int .i64 n] w fun e w' => e = .returned (.bool true) ∧ Below w.heap.size w w' := by
  go_enter Try.func7, Try.ntmps7
  go_wp2_with (fail)
  refine (small_any _).mono ?_
  rintro e w1 ⟨rfl, hb1⟩
  have hs1 := hb1.size
  try simp only [World.size_setCell] at hs1
  try simp only [World.size_alloc] at hs1
  have hB1 : Below w.heap.size w w1 := over hb1 (by go_grown)
  have zp_1 : w.heap.size < w1.heap.size := by omega
  obtain ⟨p0_1, p1_1, p2_1⟩ := keep3 hb1 (w.heap.size) (.int .i64 t) (.int .i64 o) (.bool g) (by simp [go_sem])
  have zq_1 : w.heap.size + 1 < w1.heap.size := by omega
  obtain ⟨q0_1, q1_1, q2_1⟩ := keep3 hb1 (w.heap.size + 1) (.int .i64 t') (.int .i64 o') (.bool g') (by simp [go_sem])
  clear hs1 hb1
  go_wp2_with (fail)
  refine (r_no hp _ _).mono ?_
  rintro e w2 ⟨rfl, hb2⟩
  have hs2 := hb2.size
  try simp only [World.size_setCell] at hs2
  try simp only [World.size_alloc] at hs2
  have hB2 : Below w.heap.size w w2 := over hb2 (by go_grown)
  have zp_2 : w.heap.size < w2.heap.size := by omega
  obtain ⟨p0_2, p1_2, p2_2⟩ := keep3 hb2 (w.heap.size) (.int .i64 t) (.int .i64 o) (.bool g) (by first | exact ⟨p0_1, p1_1, p2_1⟩ | exact ⟨al p0_1, al p1_1, al p2_1⟩ | exact ⟨al (al p0_1), al (al p1_1), al (al p2_1)⟩)
  have zq_2 : w.heap.size + 1 < w2.heap.size := by omega
  obtain ⟨q0_2, q1_2, q2_2⟩ := keep3 hb2 (w.heap.size + 1) (.int .i64 t') (.int .i64 o') (.bool g') (by first | exact ⟨q0_1, q1_1, q2_1⟩ | exact ⟨al q0_1, al q1_1, al q2_1⟩ | exact ⟨al (al q0_1), al (al q1_1), al (al q2_1)⟩)
  clear p0_1 p1_1 p2_1 zp_1 q0_1 q1_1 q2_1 zq_1 hB1 hs2 hb2
  go_wp2
  go_ret
  exact ⟨rfl, by go_grown⟩

set_option maxRecDepth 100000 in
set_option maxHeartbeats 4000000 in
theorem gone_b (t o : Int) (g : Bool) (t' o' : Int) (g' : Bool) (n : Int) (w : World) (hp : okB t o = true) (hq : okB t' o' = false) :
    Calls Try.prog 7 #[pv t o g, pv t' o' g', .int .i64 n] w fun e w' => e = .returned (.bool true) ∧ Below w.heap.size w w' := by
  go_enter Try.func7, Try.ntmps7
  go_wp2_with (fail)
  refine (small_any _).mono ?_
  rintro e w1 ⟨rfl, hb1⟩
  have hs1 := hb1.size
  try simp only [World.size_setCell] at hs1
  try simp only [World.size_alloc] at hs1
  have hB1 : Below w.heap.size w w1 := over hb1 (by go_grown)
  have zp_1 : w.heap.size < w1.heap.size := by omega
  obtain ⟨p0_1, p1_1, p2_1⟩ := keep3 hb1 (w.heap.size) (.int .i64 t) (.int .i64 o) (.bool g) (by simp [go_sem])
  have zq_1 : w.heap.size + 1 < w1.heap.size := by omega
  obtain ⟨q0_1, q1_1, q2_1⟩ := keep3 hb1 (w.heap.size + 1) (.int .i64 t') (.int .i64 o') (.bool g') (by simp [go_sem])
  clear hs1 hb1
  go_wp2_with (fail)
  refine (r_yes hp _ _).mono ?_
  rintro e w2 ⟨rfl, hb2⟩
  have hs2 := hb2.size
  try simp only [World.size_setCell] at hs2
  try simp only [World.size_alloc] at hs2
  have hB2 : Below w.heap.size w w2 := over hb2 (by go_grown)
  have zp_2 : w.heap.size < w2.heap.size := by omega
  obtain ⟨p0_2, p1_2, p2_2⟩ := keep3 hb2 (w.heap.size) (.int .i64 t) (.int .i64 o) (.bool g) (by first | exact ⟨p0_1, p1_1, p2_1⟩ | exact ⟨al p0_1, al p1_1, al p2_1⟩ | exact ⟨al (al p0_1), al (al p1_1), al (al p2_1)⟩)
  have zq_2 : w.heap.size + 1 < w2.heap.size := by omega
  obtain ⟨q0_2, q1_2, q2_2⟩ := keep3 hb2 (w.heap.size + 1) (.int .i64 t') (.int .i64 o') (.bool g') (by first | exact ⟨q0_1, q1_1, q2_1⟩ | exact ⟨al q0_1, al q1_1, al q2_1⟩ | exact ⟨al (al q0_1), al (al q1_1), al (al q2_1)⟩)
  clear p0_1 p1_1 p2_1 zp_1 q0_1 q1_1 q2_1 zq_1 hB1 hs2 hb2
  go_wp2_with (fail)
  refine (r_no hq _ _).mono ?_
  rintro e w3 ⟨rfl, hb3⟩
  have hs3 := hb3.size
  try simp only [World.size_setCell] at hs3
  try simp only [World.size_alloc] at hs3
  have hB3 : Below w.heap.size w w3 := over hb3 (by go_grown)
  have zp_3 : w.heap.size < w3.heap.size := by omega
  obtain ⟨p0_3, p1_3, p2_3⟩ := keep3 hb3 (w.heap.size) (.int .i64 t) (.int .i64 o) (.bool g) (by first | exact ⟨p0_2, p1_2, p2_2⟩ | exact ⟨al p0_2, al p1_2, al p2_2⟩ | exact ⟨al (al p0_2), al (al p1_2), al (al p2_2)⟩)
  have zq_3 : w.heap.size + 1 < w3.heap.size := by omega
  obtain ⟨q0_3, q1_3, q2_3⟩ := keep3 hb3 (w.heap.size + 1) (.int .i64 t') (.int .i64 o') (.bool g') (by first | exact ⟨q0_2, q1_2, q2_2⟩ | exact ⟨al q0_2, al q1_2, al q2_2⟩ | exact ⟨al (al q0_2), al (al q1_2), al (al q2_2)⟩)
  clear p0_2 p1_2 p2_2 zp_2 q0_2 q1_2 q2_2 zq_2 hB2 hs3 hb3
  go_wp2
  go_ret
  exact ⟨rfl, by go_grown⟩

set_option maxRecDepth 100000 in
set_option maxHeartbeats 4000000 in
theorem gone_c (t o : Int) (g : Bool) (t' o' : Int) (g' : Bool) (n : Int) (w : World) (hp : okB t o = true) (hq : okB t' o' = true) (hn : n < 1) :
    Calls Try.prog 7 #[pv t o g, pv t' o' g', .int .i64 n] w fun e w' => e = .returned (.bool true) ∧ Below w.heap.size w w' := by
  go_enter Try.func7, Try.ntmps7
  go_wp2_with (fail)
  refine (small_any _).mono ?_
  rintro e w1 ⟨rfl, hb1⟩
  have hs1 := hb1.size
  try simp only [World.size_setCell] at hs1
  try simp only [World.size_alloc] at hs1
  have hB1 : Below w.heap.size w w1 := over hb1 (by go_grown)
  have zp_1 : w.heap.size < w1.heap.size := by omega
  obtain ⟨p0_1, p1_1, p2_1⟩ := keep3 hb1 (w.heap.size) (.int .i64 t) (.int .i64 o) (.bool g) (by simp [go_sem])
  have zq_1 : w.heap.size + 1 < w1.heap.size := by omega
  obtain ⟨q0_1, q1_1, q2_1⟩ := keep3 hb1 (w.heap.size + 1) (.int .i64 t') (.int .i64 o') (.bool g') (by simp [go_sem])
  clear hs1 hb1
  go_wp2_with (fail)
  refine (r_yes hp _ _).mono ?_
  rintro e w2 ⟨rfl, hb2⟩
  have hs2 := hb2.size
  try simp only [World.size_setCell] at hs2
  try simp only [World.size_alloc] at hs2
  have hB2 : Below w.heap.size w w2 := over hb2 (by go_grown)
  have zp_2 : w.heap.size < w2.heap.size := by omega
  obtain ⟨p0_2, p1_2, p2_2⟩ := keep3 hb2 (w.heap.size) (.int .i64 t) (.int .i64 o) (.bool g) (by first | exact ⟨p0_1, p1_1, p2_1⟩ | exact ⟨al p0_1, al p1_1, al p2_1⟩ | exact ⟨al (al p0_1), al (al p1_1), al (al p2_1)⟩)
  have zq_2 : w.heap.size + 1 < w2.heap.size := by omega
  obtain ⟨q0_2, q1_2, q2_2⟩ := keep3 hb2 (w.heap.size + 1) (.int .i64 t') (.int .i64 o') (.bool g') (by first | exact ⟨q0_1, q1_1, q2_1⟩ | exact ⟨al q0_1, al q1_1, al q2_1⟩ | exact ⟨al (al q0_1), al (al q1_1), al (al q2_1)⟩)
  clear p0_1 p1_1 p2_1 zp_1 q0_1 q1_1 q2_1 zq_1 hB1 hs2 hb2
  go_wp2_with (fail)
  refine (r_yes hq _ _).mono ?_
  rintro e w3 ⟨rfl, hb3⟩
  have hs3 := hb3.size
  try simp only [World.size_setCell] at hs3
  try simp only [World.size_alloc] at hs3
  have hB3 : Below w.heap.size w w3 := over hb3 (by go_grown)
  have zp_3 : w.heap.size < w3.heap.size := by omega
  obtain ⟨p0_3, p1_3, p2_3⟩ := keep3 hb3 (w.heap.size) (.int .i64 t) (.int .i64 o) (.bool g) (by first | exact ⟨p0_2, p1_2, p2_2⟩ | exact ⟨al p0_2, al p1_2, al p2_2⟩ | exact ⟨al (al p0_2), al (al p1_2), al (al p2_2)⟩)
  have zq_3 : w.heap.size + 1 < w3.heap.size := by omega
  obtain ⟨q0_3, q1_3, q2_3⟩ := keep3 hb3 (w.heap.size + 1) (.int .i64 t') (.int .i64 o') (.bool g') (by first | exact ⟨q0_2, q1_2, q2_2⟩ | exact ⟨al q0_2, al q1_2, al q2_2⟩ | exact ⟨al (al q0_2), al (al q1_2), al (al q2_2)⟩)
  clear p0_2 p1_2 p2_2 zp_2 q0_2 q1_2 q2_2 zq_2 hB2 hs3 hb3
  go_wp2
  go_ret
  exact ⟨rfl, by go_grown⟩

set_option maxRecDepth 100000 in
set_option maxHeartbeats 4000000 in
theorem gone_d (t o : Int) (g : Bool) (t' o' : Int) (g' : Bool) (n : Int) (w : World) (hp : okB t o = true) (hq : okB t' o' = true) (hn0 : 1 ≤ n) (hn : 1000000000000000 < n) :
    Calls Try.prog 7 #[pv t o g, pv t' o' g', .int .i64 n] w fun e w' => e = .returned (.bool true) ∧ Below w.heap.size w w' := by
  go_enter Try.func7, Try.ntmps7
  go_wp2_with (fail)
  refine (small_any _).mono ?_
  rintro e w1 ⟨rfl, hb1⟩
  have hs1 := hb1.size
  try simp only [World.size_setCell] at hs1
  try simp only [World.size_alloc] at hs1
  have hB1 : Below w.heap.size w w1 := over hb1 (by go_grown)
  have zp_1 : w.heap.size < w1.heap.size := by omega
  obtain ⟨p0_1, p1_1, p2_1⟩ := keep3 hb1 (w.heap.size) (.int .i64 t) (.int .i64 o) (.bool g) (by simp [go_sem])
  have zq_1 : w.heap.size + 1 < w1.heap.size := by omega
  obtain ⟨q0_1, q1_1, q2_1⟩ := keep3 hb1 (w.heap.size + 1) (.int .i64 t') (.int .i64 o') (.bool g') (by simp [go_sem])
  clear hs1 hb1
  go_wp2_with (fail)
  refine (r_yes hp _ _).mono ?_
  rintro e w2 ⟨rfl, hb2⟩
  have hs2 := hb2.size
  try simp only [World.size_setCell] at hs2
  try simp only [World.size_alloc] at hs2
  have hB2 : Below w.heap.size w w2 := over hb2 (by go_grown)
  have zp_2 : w.heap.size < w2.heap.size := by omega
  obtain ⟨p0_2, p1_2, p2_2⟩ := keep3 hb2 (w.heap.size) (.int .i64 t) (.int .i64 o) (.bool g) (by first | exact ⟨p0_1, p1_1, p2_1⟩ | exact ⟨al p0_1, al p1_1, al p2_1⟩ | exact ⟨al (al p0_1), al (al p1_1), al (al p2_1)⟩)
  have zq_2 : w.heap.size + 1 < w2.heap.size := by omega
  obtain ⟨q0_2, q1_2, q2_2⟩ := keep3 hb2 (w.heap.size + 1) (.int .i64 t') (.int .i64 o') (.bool g') (by first | exact ⟨q0_1, q1_1, q2_1⟩ | exact ⟨al q0_1, al q1_1, al q2_1⟩ | exact ⟨al (al q0_1), al (al q1_1), al (al q2_1)⟩)
  clear p0_1 p1_1 p2_1 zp_1 q0_1 q1_1 q2_1 zq_1 hB1 hs2 hb2
  go_wp2_with (fail)
  refine (r_yes hq _ _).mono ?_
  rintro e w3 ⟨rfl, hb3⟩
  have hs3 := hb3.size
  try simp only [World.size_setCell] at hs3
  try simp only [World.size_alloc] at hs3
  have hB3 : Below w.heap.size w w3 := over hb3 (by go_grown)
  have zp_3 : w.heap.size < w3.heap.size := by omega
  obtain ⟨p0_3, p1_3, p2_3⟩ := keep3 hb3 (w.heap.size) (.int .i64 t) (.int .i64 o) (.bool g) (by first | exact ⟨p0_2, p1_2, p2_2⟩ | exact ⟨al p0_2, al p1_2, al p2_2⟩ | exact ⟨al (al p0_2), al (al p1_2), al (al p2_2)⟩)
  have zq_3 : w.heap.size + 1 < w3.heap.size := by omega
  obtain ⟨q0_3, q1_3, q2_3⟩ := keep3 hb3 (w.heap.size + 1) (.int .i64 t') (.int .i64 o') (.bool g') (by first | exact ⟨q0_2, q1_2, q2_2⟩ | exact ⟨al q0_2, al q1_2, al q2_2⟩ | exact ⟨al (al q0_2), al (al q1_2), al (al q2_2)⟩)
  clear p0_2 p1_2 p2_2 zp_2 q0_2 q1_2 q2_2 zq_2 hB2 hs3 hb3
  go_wp2
  go_ret
  exact ⟨rfl, by go_grown⟩

set_option maxRecDepth 100000 in
set_option maxHeartbeats 4000000 in
theorem gone_e (t o : Int) (t' o' : Int) (g' : Bool) (n : Int) (w : World) (hp : okB t o = true) (hq : okB t' o' = true) (hn0 : 1 ≤ n) (hn : n ≤ 1000000000000000) :
    Calls Try.prog 7 #[pv t o true, pv t' o' g', .int .i64 n] w fun e w' => e = .returned (.bool true) ∧ Below w.heap.size w w' := by
  go_enter Try.func7, Try.ntmps7
  go_wp2_with (fail)
  refine (small_any _).mono ?_
  rintro e w1 ⟨rfl, hb1⟩
  have hs1 := hb1.size
  try simp only [World.size_setCell] at hs1
  try simp only [World.size_alloc] at hs1
  have hB1 : Below w.heap.size w w1 := over hb1 (by go_grown)
  have zp_1 : w.heap.size < w1.heap.size := by omega
  obtain ⟨p0_1, p1_1, p2_1⟩ := keep3 hb1 (w.heap.size) (.int .i64 t) (.int .i64 o) (.bool true) (by simp [go_sem])
  have zq_1 : w.heap.size + 1 < w1.heap.size := by omega
  obtain ⟨q0_1, q1_1, q2_1⟩ := keep3 hb1 (w.heap.size + 1) (.int .i64 t') (.int .i64 o') (.bool g') (by simp [go_sem])
  clear hs1 hb1
  go_wp2_with (fail)
  refine (r_yes hp _ _).mono ?_
  rintro e w2 ⟨rfl, hb2⟩
  have hs2 := hb2.size
  try simp only [World.size_setCell] at hs2
  try simp only [World.size_alloc] at hs2
  have hB2 : Below w.heap.size w w2 := over hb2 (by go_grown)
  have zp_2 : w.heap.size < w2.heap.size := by omega
  obtain ⟨p0_2, p1_2, p2_2⟩ := keep3 hb2 (w.heap.size) (.int .i64 t) (.int .i64 o) (.bool true) (by first | exact ⟨p0_1, p1_1, p2_1⟩ | exact ⟨al p0_1, al p1_1, al p2_1⟩ | exact ⟨al (al p0_1), al (al p1_1), al (al p2_1)⟩)
  have zq_2 : w.heap.size + 1 < w2.heap.size := by omega
  obtain ⟨q0_2, q1_2, q2_2⟩ := keep3 hb2 (w.heap.size + 1) (.int .i64 t') (.int .i64 o') (.bool g') (by first | exact ⟨q0_1, q1_1, q2_1⟩ | exact ⟨al q0_1, al q1_1, al q2_1⟩ | exact ⟨al (al q0_1), al (al q1_1), al (al q2_1)⟩)
  clear p0_1 p1_1 p2_1 zp_1 q0_1 q1_1 q2_1 zq_1 hB1 hs2 hb2
  go_wp2_with (fail)
  refine (r_yes hq _ _).mono ?_
  rintro e w3 ⟨rfl, hb3⟩
  have hs3 := hb3.size
  try simp only [World.size_setCell] at hs3
  try simp only [World.size_alloc] at hs3
  have hB3 : Below w.heap.size w w3 := over hb3 (by go_grown)
  have zp_3 : w.heap.size < w3.heap.size := by omega
  obtain ⟨p0_3, p1_3, p2_3⟩ := keep3 hb3 (w.heap.size) (.int .i64 t) (.int .i64 o) (.bool true) (by first | exact ⟨p0_2, p1_2, p2_2⟩ | exact ⟨al p0_2, al p1_2, al p2_2⟩ | exact ⟨al (al p0_2), al (al p1_2), al (al p2_2)⟩)
  have zq_3 : w.heap.size + 1 < w3.heap.size := by omega
  obtain ⟨q0_3, q1_3, q2_3⟩ := keep3 hb3 (w.heap.size + 1) (.int .i64 t') (.int .i64 o') (.bool g') (by first | exact ⟨q0_2, q1_2, q2_2⟩ | exact ⟨al q0_2, al q1_2, al q2_2⟩ | exact ⟨al (al q0_2), al (al q1_2), al (al q2_2)⟩)
  clear p0_2 p1_2 p2_2 zp_2 q0_2 q1_2 q2_2 zq_2 hB2 hs3 hb3
  go_wp2_with (fail)
  refine (b_gone hp _).mono ?_
  rintro e w4 ⟨rfl, hb4⟩
  have hs4 := hb4.size
  try simp only [World.size_setCell] at hs4
  try simp only [World.size_alloc] at hs4
  have hB4 : Below w.heap.size w w4 := over hb4 (by go_grown)
  have zp_4 : w.heap.size < w4.heap.size := by omega
  obtain ⟨p0_4, p1_4, p2_4⟩ := keep3 hb4 (w.heap.size) (.int .i64 t) (.int .i64 o) (.bool true) (by first | exact ⟨p0_3, p1_3, p2_3⟩ | exact ⟨al p0_3, al p1_3, al p2_3⟩ | exact ⟨al (al p0_3), al (al p1_3), al (al p2_3)⟩)
  have zq_4 : w.heap.size + 1 < w4.heap.size := by omega
  obtain ⟨q0_4, q1_4, q2_4⟩ := keep3 hb4 (w.heap.size + 1) (.int .i64 t') (.int .i64 o') (.bool g') (by first | exact ⟨q0_3, q1_3, q2_3⟩ | exact ⟨al q0_3, al q1_3, al q2_3⟩ | exact ⟨al (al q0_3), al (al q1_3), al (al q2_3)⟩)
  clear p0_3 p1_3 p2_3 zp_3 q0_3 q1_3 q2_3 zq_3 hB3 hs4 hb4
  go_wp2
  go_ret
  exact ⟨rfl, by go_grown⟩

set_option maxRecDepth 100000 in
set_option maxHeartbeats 4000000 in
theorem gone_f (t o : Int) (t' o' : Int) (g' : Bool) (n : Int) (w : World) (hp : okB t o = true) (hq : okB t' o' = true) (hn0 : 1 ≤ n) (hn : n ≤ 1000000000000000) (h0 : 0 ≤ o) (h1 : o ≤ 1000000000000000) (he : (psE t' o' g' 0 o true n != 0) = true) :
    Calls Try.prog 7 #[pv t o false, pv t' o' g', .int .i64 n] w fun e w' => e = .returned (.bool true) ∧ Below w.heap.size w w' := by
  go_enter Try.func7, Try.ntmps7
  go_wp2_with (fail)
  refine (small_any _).mono ?_
  rintro e w1 ⟨rfl, hb1⟩
  have hs1 := hb1.size
  try simp only [World.size_setCell] at hs1
  try simp only [World.size_alloc] at hs1
  have hB1 : Below w.heap.size w w1 := over hb1 (by go_grown)
  have zp_1 : w.heap.size < w1.heap.size := by omega
  obtain ⟨p0_1, p1_1, p2_1⟩ := keep3 hb1 (w.heap.size) (.int .i64 t) (.int .i64 o) (.bool false) (by simp [go_sem])
  have zq_1 : w.heap.size + 1 < w1.heap.size := by omega
  obtain ⟨q0_1, q1_1, q2_1⟩ := keep3 hb1 (w.heap.size + 1) (.int .i64 t') (.int .i64 o') (.bool g') (by simp [go_sem])
  clear hs1 hb1
  go_wp2_with (fail)
  refine (r_yes hp _ _).mono ?_
  rintro e w2 ⟨rfl, hb2⟩
  have hs2 := hb2.size
  try simp only [World.size_setCell] at hs2
  try simp only [World.size_alloc] at hs2
  have hB2 : Below w.heap.size w w2 := over hb2 (by go_grown)
  have zp_2 : w.heap.size < w2.heap.size := by omega
  obtain ⟨p0_2, p1_2, p2_2⟩ := keep3 hb2 (w.heap.size) (.int .i64 t) (.int .i64 o) (.bool false) (by first | exact ⟨p0_1, p1_1, p2_1⟩ | exact ⟨al p0_1, al p1_1, al p2_1⟩ | exact ⟨al (al p0_1), al (al p1_1), al (al p2_1)⟩)
  have zq_2 : w.heap.size + 1 < w2.heap.size := by omega
  obtain ⟨q0_2, q1_2, q2_2⟩ := keep3 hb2 (w.heap.size + 1) (.int .i64 t') (.int .i64 o') (.bool g') (by first | exact ⟨q0_1, q1_1, q2_1⟩ | exact ⟨al q0_1, al q1_1, al q2_1⟩ | exact ⟨al (al q0_1), al (al q1_1), al (al q2_1)⟩)
  clear p0_1 p1_1 p2_1 zp_1 q0_1 q1_1 q2_1 zq_1 hB1 hs2 hb2
  go_wp2_with (fail)
  refine (r_yes hq _ _).mono ?_
  rintro e w3 ⟨rfl, hb3⟩
  have hs3 := hb3.size
  try simp only [World.size_setCell] at hs3
  try simp only [World.size_alloc] at hs3
  have hB3 : Below w.heap.size w w3 := over hb3 (by go_grown)
  have zp_3 : w.heap.size < w3.heap.size := by omega
  obtain ⟨p0_3, p1_3, p2_3⟩ := keep3 hb3 (w.heap.size) (.int .i64 t) (.int .i64 o) (.bool false) (by first | exact ⟨p0_2, p1_2, p2_2⟩ | exact ⟨al p0_2, al p1_2, al p2_2⟩ | exact ⟨al (al p0_2), al (al p1_2), al (al p2_2)⟩)
  have zq_3 : w.heap.size + 1 < w3.heap.size := by omega
  obtain ⟨q0_3, q1_3, q2_3⟩ := keep3 hb3 (w.heap.size + 1) (.int .i64 t') (.int .i64 o') (.bool g') (by first | exact ⟨q0_2, q1_2, q2_2⟩ | exact ⟨al q0_2, al q1_2, al q2_2⟩ | exact ⟨al (al q0_2), al (al q1_2), al (al q2_2)⟩)
  clear p0_2 p1_2 p2_2 zp_2 q0_2 q1_2 q2_2 zq_2 hB2 hs3 hb3
  go_wp2_with (fail)
  refine (b_live hp _).mono ?_
  rintro e w4 ⟨rfl, hb4⟩
  have hs4 := hb4.size
  try simp only [World.size_setCell] at hs4
  try simp only [World.size_alloc] at hs4
  have hB4 : Below w.heap.size w w4 := over hb4 (by go_grown)
  have zp_4 : w.heap.size < w4.heap.size := by omega
  obtain ⟨p0_4, p1_4, p2_4⟩ := keep3 hb4 (w.heap.size) (.int .i64 t) (.int .i64 o) (.bool false) (by first | exact ⟨p0_3, p1_3, p2_3⟩ | exact ⟨al p0_3, al p1_3, al p2_3⟩ | exact ⟨al (al p0_3), al (al p1_3), al (al p2_3)⟩)
  have zq_4 : w.heap.size + 1 < w4.heap.size := by omega
  obtain ⟨q0_4, q1_4, q2_4⟩ := keep3 hb4 (w.heap.size + 1) (.int .i64 t') (.int .i64 o') (.bool g') (by first | exact ⟨q0_3, q1_3, q2_3⟩ | exact ⟨al q0_3, al q1_3, al q2_3⟩ | exact ⟨al (al q0_3), al (al q1_3), al (al q2_3)⟩)
  clear p0_3 p1_3 p2_3 zp_3 q0_3 q1_3 q2_3 zq_3 hB3 hs4 hb4
  go_wp2_with (fail)
  refine (g_take h0 h1 hn0 hn _).mono ?_
  rintro e w5 ⟨rfl, hb5⟩
  have hs5 := hb5.size
  try simp only [World.size_setCell] at hs5
  try simp only [World.size_alloc] at hs5
  have hB5 : Below w.heap.size w w5 := over hb5 (by go_grown)
  have zp_5 : w.heap.size < w5.heap.size := by omega
  obtain ⟨p0_5, p1_5, p2_5⟩ := keep3 hb5 (w.heap.size) (.int .i64 t) (.int .i64 o) (.bool false) (by first | exact ⟨p0_4, p1_4, p2_4⟩ | exact ⟨al p0_4, al p1_4, al p2_4⟩ | exact ⟨al (al p0_4), al (al p1_4), al (al p2_4)⟩)
  have zq_5 : w.heap.size + 1 < w5.heap.size := by omega
  obtain ⟨q0_5, q1_5, q2_5⟩ := keep3 hb5 (w.heap.size + 1) (.int .i64 t') (.int .i64 o') (.bool g') (by first | exact ⟨q0_4, q1_4, q2_4⟩ | exact ⟨al q0_4, al q1_4, al q2_4⟩ | exact ⟨al (al q0_4), al (al q1_4), al (al q2_4)⟩)
  have zx_5 : w4.heap.size < w5.heap.size := by omega
  obtain ⟨x0_5, x1_5, x2_5⟩ := keep3 hb5 (w4.heap.size) (.int .i64 0) (.int .i64 o) (.bool true) (by simp [go_sem])
  clear p0_4 p1_4 p2_4 zp_4 q0_4 q1_4 q2_4 zq_4 hB4 hs5 hb5
  go_wp2_with (fail)
  refine (g_pay h0 h1 hn0 hn _).mono ?_
  rintro e w6 ⟨rfl, hb6⟩
  have hs6 := hb6.size
  try simp only [World.size_setCell] at hs6
  try simp only [World.size_alloc] at hs6
  have hB6 : Below w.heap.size w w6 := over hb6 (by go_grown)
  have zp_6 : w.heap.size < w6.heap.size := by omega
  obtain ⟨p0_6, p1_6, p2_6⟩ := keep3 hb6 (w.heap.size) (.int .i64 t) (.int .i64 o) (.bool false) (by first | exact ⟨p0_5, p1_5, p2_5⟩ | exact ⟨al p0_5, al p1_5, al p2_5⟩ | exact ⟨al (al p0_5), al (al p1_5), al (al p2_5)⟩)
  have zq_6 : w.heap.size + 1 < w6.heap.size := by omega
  obtain ⟨q0_6, q1_6, q2_6⟩ := keep3 hb6 (w.heap.size + 1) (.int .i64 t') (.int .i64 o') (.bool g') (by first | exact ⟨q0_5, q1_5, q2_5⟩ | exact ⟨al q0_5, al q1_5, al q2_5⟩ | exact ⟨al (al q0_5), al (al q1_5), al (al q2_5)⟩)
  have zx_6 : w4.heap.size < w6.heap.size := by omega
  obtain ⟨x0_6, x1_6, x2_6⟩ := keep3 hb6 (w4.heap.size) (.int .i64 0) (.int .i64 o) (.bool true) (by first | exact ⟨x0_5, x1_5, x2_5⟩ | exact ⟨al x0_5, al x1_5, al x2_5⟩ | exact ⟨al (al x0_5), al (al x1_5), al (al x2_5)⟩)
  have za_6 : w5.heap.size < w6.heap.size := by omega
  obtain ⟨a0_6, a1_6, a2_6⟩ := keep3 hb6 (w5.heap.size) (.int .i64 0) (.int .i64 o) (.bool true) (by simp [go_sem])
  clear p0_5 p1_5 p2_5 zp_5 q0_5 q1_5 q2_5 zq_5 x0_5 x1_5 x2_5 zx_5 hB5 hs6 hb6
  go_wp2_with (fail)
  refine (g_earn h0 h1 hn0 hn _).mono ?_
  rintro e w7 ⟨rfl, hb7⟩
  have hs7 := hb7.size
  try simp only [World.size_setCell] at hs7
  try simp only [World.size_alloc] at hs7
  have hB7 : Below w.heap.size w w7 := over hb7 (by go_grown)
  have zp_7 : w.heap.size < w7.heap.size := by omega
  obtain ⟨p0_7, p1_7, p2_7⟩ := keep3 hb7 (w.heap.size) (.int .i64 t) (.int .i64 o) (.bool false) (by first | exact ⟨p0_6, p1_6, p2_6⟩ | exact ⟨al p0_6, al p1_6, al p2_6⟩ | exact ⟨al (al p0_6), al (al p1_6), al (al p2_6)⟩)
  have zq_7 : w.heap.size + 1 < w7.heap.size := by omega
  obtain ⟨q0_7, q1_7, q2_7⟩ := keep3 hb7 (w.heap.size + 1) (.int .i64 t') (.int .i64 o') (.bool g') (by first | exact ⟨q0_6, q1_6, q2_6⟩ | exact ⟨al q0_6, al q1_6, al q2_6⟩ | exact ⟨al (al q0_6), al (al q1_6), al (al q2_6)⟩)
  have zx_7 : w4.heap.size < w7.heap.size := by omega
  obtain ⟨x0_7, x1_7, x2_7⟩ := keep3 hb7 (w4.heap.size) (.int .i64 0) (.int .i64 o) (.bool true) (by first | exact ⟨x0_6, x1_6, x2_6⟩ | exact ⟨al x0_6, al x1_6, al x2_6⟩ | exact ⟨al (al x0_6), al (al x1_6), al (al x2_6)⟩)
  have za_7 : w5.heap.size < w7.heap.size := by omega
  obtain ⟨a0_7, a1_7, a2_7⟩ := keep3 hb7 (w5.heap.size) (.int .i64 0) (.int .i64 o) (.bool true) (by first | exact ⟨a0_6, a1_6, a2_6⟩ | exact ⟨al a0_6, al a1_6, al a2_6⟩ | exact ⟨al (al a0_6), al (al a1_6), al (al a2_6)⟩)
  have zb_7 : w6.heap.size < w7.heap.size := by omega
  obtain ⟨b0_7, b1_7, b2_7⟩ := keep3 hb7 (w6.heap.size) (.int .i64 0) (.int .i64 o) (.bool true) (by simp [go_sem])
  clear p0_6 p1_6 p2_6 zp_6 q0_6 q1_6 q2_6 zq_6 x0_6 x1_6 x2_6 zx_6 a0_6 a1_6 a2_6 za_6 hB6 hs7 hb7
  go_wp2_with (fail)
  refine (g_spend h0 h1 hn0 hn _).mono ?_
  rintro e w8 ⟨rfl, hb8⟩
  have hs8 := hb8.size
  try simp only [World.size_setCell] at hs8
  try simp only [World.size_alloc] at hs8
  have hB8 : Below w.heap.size w w8 := over hb8 (by go_grown)
  have zp_8 : w.heap.size < w8.heap.size := by omega
  obtain ⟨p0_8, p1_8, p2_8⟩ := keep3 hb8 (w.heap.size) (.int .i64 t) (.int .i64 o) (.bool false) (by first | exact ⟨p0_7, p1_7, p2_7⟩ | exact ⟨al p0_7, al p1_7, al p2_7⟩ | exact ⟨al (al p0_7), al (al p1_7), al (al p2_7)⟩)
  have zq_8 : w.heap.size + 1 < w8.heap.size := by omega
  obtain ⟨q0_8, q1_8, q2_8⟩ := keep3 hb8 (w.heap.size + 1) (.int .i64 t') (.int .i64 o') (.bool g') (by first | exact ⟨q0_7, q1_7, q2_7⟩ | exact ⟨al q0_7, al q1_7, al q2_7⟩ | exact ⟨al (al q0_7), al (al q1_7), al (al q2_7)⟩)
  have zx_8 : w4.heap.size < w8.heap.size := by omega
  obtain ⟨x0_8, x1_8, x2_8⟩ := keep3 hb8 (w4.heap.size) (.int .i64 0) (.int .i64 o) (.bool true) (by first | exact ⟨x0_7, x1_7, x2_7⟩ | exact ⟨al x0_7, al x1_7, al x2_7⟩ | exact ⟨al (al x0_7), al (al x1_7), al (al x2_7)⟩)
  have za_8 : w5.heap.size < w8.heap.size := by omega
  obtain ⟨a0_8, a1_8, a2_8⟩ := keep3 hb8 (w5.heap.size) (.int .i64 0) (.int .i64 o) (.bool true) (by first | exact ⟨a0_7, a1_7, a2_7⟩ | exact ⟨al a0_7, al a1_7, al a2_7⟩ | exact ⟨al (al a0_7), al (al a1_7), al (al a2_7)⟩)
  have zb_8 : w6.heap.size < w8.heap.size := by omega
  obtain ⟨b0_8, b1_8, b2_8⟩ := keep3 hb8 (w6.heap.size) (.int .i64 0) (.int .i64 o) (.bool true) (by first | exact ⟨b0_7, b1_7, b2_7⟩ | exact ⟨al b0_7, al b1_7, al b2_7⟩ | exact ⟨al (al b0_7), al (al b1_7), al (al b2_7)⟩)
  have zc_8 : w7.heap.size < w8.heap.size := by omega
  obtain ⟨c0_8, c1_8, c2_8⟩ := keep3 hb8 (w7.heap.size) (.int .i64 0) (.int .i64 o) (.bool true) (by simp [go_sem])
  clear p0_7 p1_7 p2_7 zp_7 q0_7 q1_7 q2_7 zq_7 x0_7 x1_7 x2_7 zx_7 a0_7 a1_7 a2_7 za_7 b0_7 b1_7 b2_7 zb_7 hB7 hs8 hb8
  go_wp2_with (fail)
  refine (g_pass h0 h1 hn0 hn _ _ _ _).mono ?_
  rintro e w9 ⟨rfl, hb9⟩
  have hs9 := hb9.size
  try simp only [World.size_setCell] at hs9
  try simp only [World.size_alloc] at hs9
  have hB9 : Below w.heap.size w w9 := over hb9 (by go_grown)
  have zp_9 : w.heap.size < w9.heap.size := by omega
  obtain ⟨p0_9, p1_9, p2_9⟩ := keep3 hb9 (w.heap.size) (.int .i64 t) (.int .i64 o) (.bool false) (by first | exact ⟨p0_8, p1_8, p2_8⟩ | exact ⟨al p0_8, al p1_8, al p2_8⟩ | exact ⟨al (al p0_8), al (al p1_8), al (al p2_8)⟩)
  have zq_9 : w.heap.size + 1 < w9.heap.size := by omega
  obtain ⟨q0_9, q1_9, q2_9⟩ := keep3 hb9 (w.heap.size + 1) (.int .i64 t') (.int .i64 o') (.bool g') (by first | exact ⟨q0_8, q1_8, q2_8⟩ | exact ⟨al q0_8, al q1_8, al q2_8⟩ | exact ⟨al (al q0_8), al (al q1_8), al (al q2_8)⟩)
  have zx_9 : w4.heap.size < w9.heap.size := by omega
  obtain ⟨x0_9, x1_9, x2_9⟩ := keep3 hb9 (w4.heap.size) (.int .i64 0) (.int .i64 o) (.bool true) (by first | exact ⟨x0_8, x1_8, x2_8⟩ | exact ⟨al x0_8, al x1_8, al x2_8⟩ | exact ⟨al (al x0_8), al (al x1_8), al (al x2_8)⟩)
  have za_9 : w5.heap.size < w9.heap.size := by omega
  obtain ⟨a0_9, a1_9, a2_9⟩ := keep3 hb9 (w5.heap.size) (.int .i64 0) (.int .i64 o) (.bool true) (by first | exact ⟨a0_8, a1_8, a2_8⟩ | exact ⟨al a0_8, al a1_8, al a2_8⟩ | exact ⟨al (al a0_8), al (al a1_8), al (al a2_8)⟩)
  have zb_9 : w6.heap.size < w9.heap.size := by omega
  obtain ⟨b0_9, b1_9, b2_9⟩ := keep3 hb9 (w6.heap.size) (.int .i64 0) (.int .i64 o) (.bool true) (by first | exact ⟨b0_8, b1_8, b2_8⟩ | exact ⟨al b0_8, al b1_8, al b2_8⟩ | exact ⟨al (al b0_8), al (al b1_8), al (al b2_8)⟩)
  have zc_9 : w7.heap.size < w9.heap.size := by omega
  obtain ⟨c0_9, c1_9, c2_9⟩ := keep3 hb9 (w7.heap.size) (.int .i64 0) (.int .i64 o) (.bool true) (by first | exact ⟨c0_8, c1_8, c2_8⟩ | exact ⟨al c0_8, al c1_8, al c2_8⟩ | exact ⟨al (al c0_8), al (al c1_8), al (al c2_8)⟩)
  have zd_9 : w8.heap.size < w9.heap.size := by omega
  obtain ⟨d0_9, d1_9, d2_9⟩ := keep3 hb9 (w8.heap.size) (.int .i64 0) (.int .i64 o) (.bool true) (by simp [go_sem])
  clear p0_8 p1_8 p2_8 zp_8 q0_8 q1_8 q2_8 zq_8 x0_8 x1_8 x2_8 zx_8 a0_8 a1_8 a2_8 za_8 b0_8 b1_8 b2_8 zb_8 c0_8 c1_8 c2_8 zc_8 hB8 hs9 hb9
  go_wp2_with (fail)
  refine (g_break h0 h1 _).mono ?_
  rintro e w10 ⟨rfl, hb10⟩
  have hs10 := hb10.size
  try simp only [World.size_setCell] at hs10
  try simp only [World.size_alloc] at hs10
  have hB10 : Below w.heap.size w w10 := over hb10 (by go_grown)
  have zp_10 : w.heap.size < w10.heap.size := by omega
  obtain ⟨p0_10, p1_10, p2_10⟩ := keep3 hb10 (w.heap.size) (.int .i64 t) (.int .i64 o) (.bool false) (by first | exact ⟨p0_9, p1_9, p2_9⟩ | exact ⟨al p0_9, al p1_9, al p2_9⟩ | exact ⟨al (al p0_9), al (al p1_9), al (al p2_9)⟩)
  have zq_10 : w.heap.size + 1 < w10.heap.size := by omega
  obtain ⟨q0_10, q1_10, q2_10⟩ := keep3 hb10 (w.heap.size + 1) (.int .i64 t') (.int .i64 o') (.bool g') (by first | exact ⟨q0_9, q1_9, q2_9⟩ | exact ⟨al q0_9, al q1_9, al q2_9⟩ | exact ⟨al (al q0_9), al (al q1_9), al (al q2_9)⟩)
  have zx_10 : w4.heap.size < w10.heap.size := by omega
  obtain ⟨x0_10, x1_10, x2_10⟩ := keep3 hb10 (w4.heap.size) (.int .i64 0) (.int .i64 o) (.bool true) (by first | exact ⟨x0_9, x1_9, x2_9⟩ | exact ⟨al x0_9, al x1_9, al x2_9⟩ | exact ⟨al (al x0_9), al (al x1_9), al (al x2_9)⟩)
  have za_10 : w5.heap.size < w10.heap.size := by omega
  obtain ⟨a0_10, a1_10, a2_10⟩ := keep3 hb10 (w5.heap.size) (.int .i64 0) (.int .i64 o) (.bool true) (by first | exact ⟨a0_9, a1_9, a2_9⟩ | exact ⟨al a0_9, al a1_9, al a2_9⟩ | exact ⟨al (al a0_9), al (al a1_9), al (al a2_9)⟩)
  have zb_10 : w6.heap.size < w10.heap.size := by omega
  obtain ⟨b0_10, b1_10, b2_10⟩ := keep3 hb10 (w6.heap.size) (.int .i64 0) (.int .i64 o) (.bool true) (by first | exact ⟨b0_9, b1_9, b2_9⟩ | exact ⟨al b0_9, al b1_9, al b2_9⟩ | exact ⟨al (al b0_9), al (al b1_9), al (al b2_9)⟩)
  have zc_10 : w7.heap.size < w10.heap.size := by omega
  obtain ⟨c0_10, c1_10, c2_10⟩ := keep3 hb10 (w7.heap.size) (.int .i64 0) (.int .i64 o) (.bool true) (by first | exact ⟨c0_9, c1_9, c2_9⟩ | exact ⟨al c0_9, al c1_9, al c2_9⟩ | exact ⟨al (al c0_9), al (al c1_9), al (al c2_9)⟩)
  have zd_10 : w8.heap.size < w10.heap.size := by omega
  obtain ⟨d0_10, d1_10, d2_10⟩ := keep3 hb10 (w8.heap.size) (.int .i64 0) (.int .i64 o) (.bool true) (by first | exact ⟨d0_9, d1_9, d2_9⟩ | exact ⟨al d0_9, al d1_9, al d2_9⟩ | exact ⟨al (al d0_9), al (al d1_9), al (al d2_9)⟩)
  have zu_10 : w9.heap.size < w10.heap.size := by omega
  obtain ⟨u0_10, u1_10, u2_10⟩ := keep3 hb10 (w9.heap.size) (.int .i64 0) (.int .i64 o) (.bool true) (by simp [go_sem])
  have zv_10 : w9.heap.size + 1 < w10.heap.size := by omega
  obtain ⟨v0_10, v1_10, v2_10⟩ := keep3 hb10 (w9.heap.size + 1) (.int .i64 t') (.int .i64 o') (.bool g') (by simp [go_sem])
  clear p0_9 p1_9 p2_9 zp_9 q0_9 q1_9 q2_9 zq_9 x0_9 x1_9 x2_9 zx_9 a0_9 a1_9 a2_9 za_9 b0_9 b1_9 b2_9 zb_9 c0_9 c1_9 c2_9 zc_9 d0_9 d1_9 d2_9 zd_9 hB9 hs10 hb10
  go_wp2_with (fail)
  refine (g_pass2 h0 h1 hn0 hn _ _ _ _).mono ?_
  rintro e w11 ⟨rfl, hb11⟩
  have hs11 := hb11.size
  try simp only [World.size_setCell] at hs11
  try simp only [World.size_alloc] at hs11
  have hB11 : Below w.heap.size w w11 := over hb11 (by go_grown)
  have zp_11 : w.heap.size < w11.heap.size := by omega
  obtain ⟨p0_11, p1_11, p2_11⟩ := keep3 hb11 (w.heap.size) (.int .i64 t) (.int .i64 o) (.bool false) (by first | exact ⟨p0_10, p1_10, p2_10⟩ | exact ⟨al p0_10, al p1_10, al p2_10⟩ | exact ⟨al (al p0_10), al (al p1_10), al (al p2_10)⟩)
  have zq_11 : w.heap.size + 1 < w11.heap.size := by omega
  obtain ⟨q0_11, q1_11, q2_11⟩ := keep3 hb11 (w.heap.size + 1) (.int .i64 t') (.int .i64 o') (.bool g') (by first | exact ⟨q0_10, q1_10, q2_10⟩ | exact ⟨al q0_10, al q1_10, al q2_10⟩ | exact ⟨al (al q0_10), al (al q1_10), al (al q2_10)⟩)
  have zx_11 : w4.heap.size < w11.heap.size := by omega
  obtain ⟨x0_11, x1_11, x2_11⟩ := keep3 hb11 (w4.heap.size) (.int .i64 0) (.int .i64 o) (.bool true) (by first | exact ⟨x0_10, x1_10, x2_10⟩ | exact ⟨al x0_10, al x1_10, al x2_10⟩ | exact ⟨al (al x0_10), al (al x1_10), al (al x2_10)⟩)
  have za_11 : w5.heap.size < w11.heap.size := by omega
  obtain ⟨a0_11, a1_11, a2_11⟩ := keep3 hb11 (w5.heap.size) (.int .i64 0) (.int .i64 o) (.bool true) (by first | exact ⟨a0_10, a1_10, a2_10⟩ | exact ⟨al a0_10, al a1_10, al a2_10⟩ | exact ⟨al (al a0_10), al (al a1_10), al (al a2_10)⟩)
  have zb_11 : w6.heap.size < w11.heap.size := by omega
  obtain ⟨b0_11, b1_11, b2_11⟩ := keep3 hb11 (w6.heap.size) (.int .i64 0) (.int .i64 o) (.bool true) (by first | exact ⟨b0_10, b1_10, b2_10⟩ | exact ⟨al b0_10, al b1_10, al b2_10⟩ | exact ⟨al (al b0_10), al (al b1_10), al (al b2_10)⟩)
  have zc_11 : w7.heap.size < w11.heap.size := by omega
  obtain ⟨c0_11, c1_11, c2_11⟩ := keep3 hb11 (w7.heap.size) (.int .i64 0) (.int .i64 o) (.bool true) (by first | exact ⟨c0_10, c1_10, c2_10⟩ | exact ⟨al c0_10, al c1_10, al c2_10⟩ | exact ⟨al (al c0_10), al (al c1_10), al (al c2_10)⟩)
  have zd_11 : w8.heap.size < w11.heap.size := by omega
  obtain ⟨d0_11, d1_11, d2_11⟩ := keep3 hb11 (w8.heap.size) (.int .i64 0) (.int .i64 o) (.bool true) (by first | exact ⟨d0_10, d1_10, d2_10⟩ | exact ⟨al d0_10, al d1_10, al d2_10⟩ | exact ⟨al (al d0_10), al (al d1_10), al (al d2_10)⟩)
  have zu_11 : w9.heap.size < w11.heap.size := by omega
  obtain ⟨u0_11, u1_11, u2_11⟩ := keep3 hb11 (w9.heap.size) (.int .i64 0) (.int .i64 o) (.bool true) (by first | exact ⟨u0_10, u1_10, u2_10⟩ | exact ⟨al u0_10, al u1_10, al u2_10⟩ | exact ⟨al (al u0_10), al (al u1_10), al (al u2_10)⟩)
  have zv_11 : w9.heap.size + 1 < w11.heap.size := by omega
  obtain ⟨v0_11, v1_11, v2_11⟩ := keep3 hb11 (w9.heap.size + 1) (.int .i64 t') (.int .i64 o') (.bool g') (by first | exact ⟨v0_10, v1_10, v2_10⟩ | exact ⟨al v0_10, al v1_10, al v2_10⟩ | exact ⟨al (al v0_10), al (al v1_10), al (al v2_10)⟩)
  clear p0_10 p1_10 p2_10 zp_10 q0_10 q1_10 q2_10 zq_10 x0_10 x1_10 x2_10 zx_10 a0_10 a1_10 a2_10 za_10 b0_10 b1_10 b2_10 zb_10 c0_10 c1_10 c2_10 zc_10 d0_10 d1_10 d2_10 zd_10 u0_10 u1_10 u2_10 zu_10 v0_10 v1_10 v2_10 zv_10 hB10 hs11 hb11
  go_wp2
  go_ret
  exact ⟨rfl, by go_grown⟩

theorem gone_any (t o : Int) (g : Bool) (t' o' : Int) (g' : Bool) (n : Int) (w : World) : Calls Try.prog 7 #[pv t o g, pv t' o' g', .int .i64 n] w fun e w' => e = .returned (.bool true) ∧ Below w.heap.size w w' := by
  cases hp : okB t o
  · exact gone_a t o g t' o' g' n w hp
  · cases hq : okB t' o'
    · exact gone_b t o g t' o' g' n w hp hq
    · by_cases n0 : 1 ≤ n
      · by_cases n1 : n ≤ 1000000000000000
        · obtain ⟨_, _, h0, h1⟩ := okB_in hp
          cases g
          · exact gone_f t o t' o' g' n w hp hq n0 n1 h0 h1 (by simpa using psE_gone h0 h1 n0 n1 t' o' g')
          · exact gone_e t o t' o' g' n w hp hq n0 n1
        · exact gone_d t o g t' o' g' n w hp hq n0 (by omega)
      · exact gone_c t o g t' o' g' n w hp hq (by omega)
end Go.Proofs.Ytblegaclcpoonab.Agent
