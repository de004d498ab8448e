/- The reference of breach: the contracts of 'Right', 'Notice', 'Waive', 'Next'. -/
import Derived.Test.YtblegaclcpoonaaBrB
namespace Go.Proofs.Ytblegaclcpoonaa.Br
open Go.ChangeShapes Go.WideShapes Go.ChangeAt Go.RowKit
set_option linter.unusedVariables false

set_option maxHeartbeats 1000000 in
theorem rright_any (s d : Int) (w : World) : Calls Try.prog 23 #[bv s d] w fun e w' => e = .returned (.bool (okB s d)) ∧ Below w.heap.size w w' := by
  by_cases hs : s = 0
  · subst hs
    have HK := Lib.hid (show okB 0 d = decide (d = 0) from by unfold okB; by_cases h : d = 0 <;> simp [h])
    go_enter Try.func23, Try.ntmps23
    go_wp2
    all_goals
      go_ret
      exact ⟨ret_bool (by rw [HK.out]; first | rfl | (simp; done) | (simp; omega)), by go_grown⟩
  · have HK := Lib.hid (show okB s d = decide (0 < s ∧ s < 4 ∧ 0 ≤ d ∧ d ≤ 200000) from by unfold okB; rw [decide_eq_decide]; omega)
    have hsb : (s == 0) = false := by rw [beq_eq_false_iff_ne]; exact hs
    go_enter Try.func23, Try.ntmps23
    go_wp2
    all_goals
      go_ret
      exact ⟨ret_bool (by rw [HK.out]; first | rfl | (simp [*]; done) | (simp; omega)), by go_grown⟩

set_option maxHeartbeats 1000000 in
theorem rnotice_1 (s d day : Int) (w : World) (hok : okB s d = false)  :
    Calls Try.prog 19 #[bv s d, .int .i64 day] w fun e w' => e = .returned (.tuple #[bv s d, .int .i64 1]) ∧ Below w.heap.size w w' := by
  go_enter Try.func19, Try.ntmps19
  go_wp2_with (fail)
  refine (rright_any _ _ _).mono ?_
  rw [hok]
  rintro e w1 ⟨rfl, hb⟩
  have hB : Below w.heap.size w w1 := over hb (by go_grown)
  have z1 : w.heap.size + 1 < w1.heap.size := by (have := hb.size; simp at this; omega)
  have z0 : w.heap.size < w1.heap.size := by omega
  obtain ⟨k0, k1⟩ := keep2 hb w.heap.size (.int .i64 s) (.int .i64 d) (by simp [go_sem])
  obtain ⟨m0, m1⟩ := keep2 hb (w.heap.size + 1) (.int .i64 0) (.int .i64 0) (by simp [go_sem])
  have fm := keepf hb (w.heap.size + 1) (by first | (simp; done) | (simp; omega)) (fun j => by simp [go_sem])
  clear hb hok
  go_wp2
  refine bodyPost_ret (v := .tuple #[bv (s) (d), .int .i64 (1)]) (by simp [results, Try.results19, go_sem, m0, m1]) rfl ⟨rfl, ?_⟩
  go_grown

set_option maxHeartbeats 1000000 in
theorem rnotice_2 (s d day : Int) (w : World) (hok : okB s d = true) (q0 : day < 0) :
    Calls Try.prog 19 #[bv s d, .int .i64 day] w fun e w' => e = .returned (.tuple #[bv s d, .int .i64 1]) ∧ Below w.heap.size w w' := by
  go_enter Try.func19, Try.ntmps19
  go_wp2_with (fail)
  refine (rright_any _ _ _).mono ?_
  rw [hok]
  rintro e w1 ⟨rfl, hb⟩
  have hB : Below w.heap.size w w1 := over hb (by go_grown)
  have z1 : w.heap.size + 1 < w1.heap.size := by (have := hb.size; simp at this; omega)
  have z0 : w.heap.size < w1.heap.size := by omega
  obtain ⟨k0, k1⟩ := keep2 hb w.heap.size (.int .i64 s) (.int .i64 d) (by simp [go_sem])
  obtain ⟨m0, m1⟩ := keep2 hb (w.heap.size + 1) (.int .i64 0) (.int .i64 0) (by simp [go_sem])
  have fm := keepf hb (w.heap.size + 1) (by first | (simp; done) | (simp; omega)) (fun j => by simp [go_sem])
  clear hb hok
  go_wp2
  refine bodyPost_ret (v := .tuple #[bv (s) (d), .int .i64 (1)]) (by simp [results, Try.results19, go_sem, m0, m1]) rfl ⟨rfl, ?_⟩
  go_grown

set_option maxHeartbeats 1000000 in
theorem rnotice_3 (s d day : Int) (w : World) (hok : okB s d = true) (q0 : 0 ≤ day) (q1 : 200000 < day) :
    Calls Try.prog 19 #[bv s d, .int .i64 day] w fun e w' => e = .returned (.tuple #[bv s d, .int .i64 1]) ∧ Below w.heap.size w w' := by
  go_enter Try.func19, Try.ntmps19
  go_wp2_with (fail)
  refine (rright_any _ _ _).mono ?_
  rw [hok]
  rintro e w1 ⟨rfl, hb⟩
  have hB : Below w.heap.size w w1 := over hb (by go_grown)
  have z1 : w.heap.size + 1 < w1.heap.size := by (have := hb.size; simp at this; omega)
  have z0 : w.heap.size < w1.heap.size := by omega
  obtain ⟨k0, k1⟩ := keep2 hb w.heap.size (.int .i64 s) (.int .i64 d) (by simp [go_sem])
  obtain ⟨m0, m1⟩ := keep2 hb (w.heap.size + 1) (.int .i64 0) (.int .i64 0) (by simp [go_sem])
  have fm := keepf hb (w.heap.size + 1) (by first | (simp; done) | (simp; omega)) (fun j => by simp [go_sem])
  clear hb hok
  go_wp2
  refine bodyPost_ret (v := .tuple #[bv (s) (d), .int .i64 (1)]) (by simp [results, Try.results19, go_sem, m0, m1]) rfl ⟨rfl, ?_⟩
  go_grown

set_option maxHeartbeats 1000000 in
theorem rnotice_4 (s d day : Int) (w : World) (hok : okB s d = true) (q0 : 0 ≤ day) (q1 : day ≤ 200000) (q2 : day < d) :
    Calls Try.prog 19 #[bv s d, .int .i64 day] w fun e w' => e = .returned (.tuple #[bv s d, .int .i64 20]) ∧ Below w.heap.size w w' := by
  go_enter Try.func19, Try.ntmps19
  go_wp2_with (fail)
  refine (rright_any _ _ _).mono ?_
  rw [hok]
  rintro e w1 ⟨rfl, hb⟩
  have hB : Below w.heap.size w w1 := over hb (by go_grown)
  have z1 : w.heap.size + 1 < w1.heap.size := by (have := hb.size; simp at this; omega)
  have z0 : w.heap.size < w1.heap.size := by omega
  obtain ⟨k0, k1⟩ := keep2 hb w.heap.size (.int .i64 s) (.int .i64 d) (by simp [go_sem])
  obtain ⟨m0, m1⟩ := keep2 hb (w.heap.size + 1) (.int .i64 0) (.int .i64 0) (by simp [go_sem])
  have fm := keepf hb (w.heap.size + 1) (by first | (simp; done) | (simp; omega)) (fun j => by simp [go_sem])
  clear hb hok
  go_wp2
  refine bodyPost_ret (v := .tuple #[bv (s) (d), .int .i64 (20)]) (by simp [results, Try.results19, go_sem, m0, m1]) rfl ⟨rfl, ?_⟩
  go_grown

set_option maxHeartbeats 1000000 in
theorem rnotice_5 (d day : Int) (w : World) (hok : okB 2 d = true) (q0 : 0 ≤ day) (q1 : day ≤ 200000) (q2 : d ≤ day) :
    Calls Try.prog 19 #[bv 2 d, .int .i64 day] w fun e w' => e = .returned (.tuple #[bv 3 day, .int .i64 0]) ∧ Below w.heap.size w w' := by
  go_enter Try.func19, Try.ntmps19
  go_wp2_with (fail)
  refine (rright_any _ _ _).mono ?_
  rw [hok]
  rintro e w1 ⟨rfl, hb⟩
  have hB : Below w.heap.size w w1 := over hb (by go_grown)
  have z1 : w.heap.size + 1 < w1.heap.size := by (have := hb.size; simp at this; omega)
  have z0 : w.heap.size < w1.heap.size := by omega
  obtain ⟨k0, k1⟩ := keep2 hb w.heap.size (.int .i64 2) (.int .i64 d) (by simp [go_sem])
  obtain ⟨m0, m1⟩ := keep2 hb (w.heap.size + 1) (.int .i64 0) (.int .i64 0) (by simp [go_sem])
  have fm := keepf hb (w.heap.size + 1) (by first | (simp; done) | (simp; omega)) (fun j => by simp [go_sem])
  clear hb hok
  go_wp2
  refine bodyPost_ret (v := .tuple #[bv (3) (day), .int .i64 (0)]) (by simp [results, Try.results19, go_sem, m0, m1]) rfl ⟨rfl, ?_⟩
  go_grown

set_option maxHeartbeats 1000000 in
theorem rnotice_6 (s d day : Int) (w : World) (hok : okB s d = true) (q0 : 0 ≤ day) (q1 : day ≤ 200000) (q2 : d ≤ day) (q3 : (s != 2) = true) :
    Calls Try.prog 19 #[bv s d, .int .i64 day] w fun e w' => e = .returned (.tuple #[bv s d, .int .i64 7]) ∧ Below w.heap.size w w' := by
  go_enter Try.func19, Try.ntmps19
  go_wp2_with (fail)
  refine (rright_any _ _ _).mono ?_
  rw [hok]
  rintro e w1 ⟨rfl, hb⟩
  have hB : Below w.heap.size w w1 := over hb (by go_grown)
  have z1 : w.heap.size + 1 < w1.heap.size := by (have := hb.size; simp at this; omega)
  have z0 : w.heap.size < w1.heap.size := by omega
  obtain ⟨k0, k1⟩ := keep2 hb w.heap.size (.int .i64 s) (.int .i64 d) (by simp [go_sem])
  obtain ⟨m0, m1⟩ := keep2 hb (w.heap.size + 1) (.int .i64 0) (.int .i64 0) (by simp [go_sem])
  have fm := keepf hb (w.heap.size + 1) (by first | (simp; done) | (simp; omega)) (fun j => by simp [go_sem])
  clear hb hok
  go_wp2
  refine bodyPost_ret (v := .tuple #[bv (s) (d), .int .i64 (7)]) (by simp [results, Try.results19, go_sem, m0, m1]) rfl ⟨rfl, ?_⟩
  go_grown

set_option maxHeartbeats 1000000 in
theorem rwaive_1 (s d day : Int) (w : World) (hok : okB s d = false)  :
    Calls Try.prog 21 #[bv s d, .int .i64 day] w fun e w' => e = .returned (.tuple #[bv s d, .int .i64 1]) ∧ Below w.heap.size w w' := by
  go_enter Try.func21, Try.ntmps21
  go_wp2_with (fail)
  refine (rright_any _ _ _).mono ?_
  rw [hok]
  rintro e w1 ⟨rfl, hb⟩
  have hB : Below w.heap.size w w1 := over hb (by go_grown)
  have z1 : w.heap.size + 1 < w1.heap.size := by (have := hb.size; simp at this; omega)
  have z0 : w.heap.size < w1.heap.size := by omega
  obtain ⟨k0, k1⟩ := keep2 hb w.heap.size (.int .i64 s) (.int .i64 d) (by simp [go_sem])
  obtain ⟨m0, m1⟩ := keep2 hb (w.heap.size + 1) (.int .i64 0) (.int .i64 0) (by simp [go_sem])
  have fm := keepf hb (w.heap.size + 1) (by first | (simp; done) | (simp; omega)) (fun j => by simp [go_sem])
  clear hb hok
  go_wp2
  refine bodyPost_ret (v := .tuple #[bv (s) (d), .int .i64 (1)]) (by simp [results, Try.results21, go_sem, m0, m1]) rfl ⟨rfl, ?_⟩
  go_grown

set_option maxHeartbeats 1000000 in
theorem rwaive_2 (s d day : Int) (w : World) (hok : okB s d = true) (q0 : day < 0) :
    Calls Try.prog 21 #[bv s d, .int .i64 day] w fun e w' => e = .returned (.tuple #[bv s d, .int .i64 1]) ∧ Below w.heap.size w w' := by
  go_enter Try.func21, Try.ntmps21
  go_wp2_with (fail)
  refine (rright_any _ _ _).mono ?_
  rw [hok]
  rintro e w1 ⟨rfl, hb⟩
  have hB : Below w.heap.size w w1 := over hb (by go_grown)
  have z1 : w.heap.size + 1 < w1.heap.size := by (have := hb.size; simp at this; omega)
  have z0 : w.heap.size < w1.heap.size := by omega
  obtain ⟨k0, k1⟩ := keep2 hb w.heap.size (.int .i64 s) (.int .i64 d) (by simp [go_sem])
  obtain ⟨m0, m1⟩ := keep2 hb (w.heap.size + 1) (.int .i64 0) (.int .i64 0) (by simp [go_sem])
  have fm := keepf hb (w.heap.size + 1) (by first | (simp; done) | (simp; omega)) (fun j => by simp [go_sem])
  clear hb hok
  go_wp2
  refine bodyPost_ret (v := .tuple #[bv (s) (d), .int .i64 (1)]) (by simp [results, Try.results21, go_sem, m0, m1]) rfl ⟨rfl, ?_⟩
  go_grown

set_option maxHeartbeats 1000000 in
theorem rwaive_3 (s d day : Int) (w : World) (hok : okB s d = true) (q0 : 0 ≤ day) (q1 : 200000 < day) :
    Calls Try.prog 21 #[bv s d, .int .i64 day] w fun e w' => e = .returned (.tuple #[bv s d, .int .i64 1]) ∧ Below w.heap.size w w' := by
  go_enter Try.func21, Try.ntmps21
  go_wp2_with (fail)
  refine (rright_any _ _ _).mono ?_
  rw [hok]
  rintro e w1 ⟨rfl, hb⟩
  have hB : Below w.heap.size w w1 := over hb (by go_grown)
  have z1 : w.heap.size + 1 < w1.heap.size := by (have := hb.size; simp at this; omega)
  have z0 : w.heap.size < w1.heap.size := by omega
  obtain ⟨k0, k1⟩ := keep2 hb w.heap.size (.int .i64 s) (.int .i64 d) (by simp [go_sem])
  obtain ⟨m0, m1⟩ := keep2 hb (w.heap.size + 1) (.int .i64 0) (.int .i64 0) (by simp [go_sem])
  have fm := keepf hb (w.heap.size + 1) (by first | (simp; done) | (simp; omega)) (fun j => by simp [go_sem])
  clear hb hok
  go_wp2
  refine bodyPost_ret (v := .tuple #[bv (s) (d), .int .i64 (1)]) (by simp [results, Try.results21, go_sem, m0, m1]) rfl ⟨rfl, ?_⟩
  go_grown

set_option maxHeartbeats 1000000 in
theorem rwaive_4 (s d day : Int) (w : World) (hok : okB s d = true) (q0 : 0 ≤ day) (q1 : day ≤ 200000) (q2 : day < d) :
    Calls Try.prog 21 #[bv s d, .int .i64 day] w fun e w' => e = .returned (.tuple #[bv s d, .int .i64 20]) ∧ Below w.heap.size w w' := by
  go_enter Try.func21, Try.ntmps21
  go_wp2_with (fail)
  refine (rright_any _ _ _).mono ?_
  rw [hok]
  rintro e w1 ⟨rfl, hb⟩
  have hB : Below w.heap.size w w1 := over hb (by go_grown)
  have z1 : w.heap.size + 1 < w1.heap.size := by (have := hb.size; simp at this; omega)
  have z0 : w.heap.size < w1.heap.size := by omega
  obtain ⟨k0, k1⟩ := keep2 hb w.heap.size (.int .i64 s) (.int .i64 d) (by simp [go_sem])
  obtain ⟨m0, m1⟩ := keep2 hb (w.heap.size + 1) (.int .i64 0) (.int .i64 0) (by simp [go_sem])
  have fm := keepf hb (w.heap.size + 1) (by first | (simp; done) | (simp; omega)) (fun j => by simp [go_sem])
  clear hb hok
  go_wp2
  refine bodyPost_ret (v := .tuple #[bv (s) (d), .int .i64 (20)]) (by simp [results, Try.results21, go_sem, m0, m1]) rfl ⟨rfl, ?_⟩
  go_grown

set_option maxHeartbeats 1000000 in
theorem rwaive_5 (d day : Int) (w : World) (hok : okB 0 d = true) (q0 : 0 ≤ day) (q1 : day ≤ 200000) (q2 : d ≤ day) :
    Calls Try.prog 21 #[bv 0 d, .int .i64 day] w fun e w' => e = .returned (.tuple #[bv 0 d, .int .i64 7]) ∧ Below w.heap.size w w' := by
  go_enter Try.func21, Try.ntmps21
  go_wp2_with (fail)
  refine (rright_any _ _ _).mono ?_
  rw [hok]
  rintro e w1 ⟨rfl, hb⟩
  have hB : Below w.heap.size w w1 := over hb (by go_grown)
  have z1 : w.heap.size + 1 < w1.heap.size := by (have := hb.size; simp at this; omega)
  have z0 : w.heap.size < w1.heap.size := by omega
  obtain ⟨k0, k1⟩ := keep2 hb w.heap.size (.int .i64 0) (.int .i64 d) (by simp [go_sem])
  obtain ⟨m0, m1⟩ := keep2 hb (w.heap.size + 1) (.int .i64 0) (.int .i64 0) (by simp [go_sem])
  have fm := keepf hb (w.heap.size + 1) (by first | (simp; done) | (simp; omega)) (fun j => by simp [go_sem])
  clear hb hok
  go_wp2
  refine bodyPost_ret (v := .tuple #[bv (0) (d), .int .i64 (7)]) (by simp [results, Try.results21, go_sem, m0, m1]) rfl ⟨rfl, ?_⟩
  go_grown

set_option maxHeartbeats 1000000 in
theorem rwaive_6 (d day : Int) (w : World) (hok : okB 3 d = true) (q0 : 0 ≤ day) (q1 : day ≤ 200000) (q2 : d ≤ day) :
    Calls Try.prog 21 #[bv 3 d, .int .i64 day] w fun e w' => e = .returned (.tuple #[bv 3 d, .int .i64 7]) ∧ Below w.heap.size w w' := by
  go_enter Try.func21, Try.ntmps21
  go_wp2_with (fail)
  refine (rright_any _ _ _).mono ?_
  rw [hok]
  rintro e w1 ⟨rfl, hb⟩
  have hB : Below w.heap.size w w1 := over hb (by go_grown)
  have z1 : w.heap.size + 1 < w1.heap.size := by (have := hb.size; simp at this; omega)
  have z0 : w.heap.size < w1.heap.size := by omega
  obtain ⟨k0, k1⟩ := keep2 hb w.heap.size (.int .i64 3) (.int .i64 d) (by simp [go_sem])
  obtain ⟨m0, m1⟩ := keep2 hb (w.heap.size + 1) (.int .i64 0) (.int .i64 0) (by simp [go_sem])
  have fm := keepf hb (w.heap.size + 1) (by first | (simp; done) | (simp; omega)) (fun j => by simp [go_sem])
  clear hb hok
  go_wp2
  refine bodyPost_ret (v := .tuple #[bv (3) (d), .int .i64 (7)]) (by simp [results, Try.results21, go_sem, m0, m1]) rfl ⟨rfl, ?_⟩
  go_grown

set_option maxHeartbeats 1000000 in
theorem rwaive_7 (s d day : Int) (w : World) (hok : okB s d = true) (q0 : 0 ≤ day) (q1 : day ≤ 200000) (q2 : d ≤ day) (q3 : (s == 0) = false) (q4 : (s == 3) = false) :
    Calls Try.prog 21 #[bv s d, .int .i64 day] w fun e w' => e = .returned (.tuple #[bv 0 0, .int .i64 0]) ∧ Below w.heap.size w w' := by
  go_enter Try.func21, Try.ntmps21
  go_wp2_with (fail)
  refine (rright_any _ _ _).mono ?_
  rw [hok]
  rintro e w1 ⟨rfl, hb⟩
  have hB : Below w.heap.size w w1 := over hb (by go_grown)
  have z1 : w.heap.size + 1 < w1.heap.size := by (have := hb.size; simp at this; omega)
  have z0 : w.heap.size < w1.heap.size := by omega
  obtain ⟨k0, k1⟩ := keep2 hb w.heap.size (.int .i64 s) (.int .i64 d) (by simp [go_sem])
  obtain ⟨m0, m1⟩ := keep2 hb (w.heap.size + 1) (.int .i64 0) (.int .i64 0) (by simp [go_sem])
  have fm := keepf hb (w.heap.size + 1) (by first | (simp; done) | (simp; omega)) (fun j => by simp [go_sem])
  clear hb hok
  go_wp2
  refine bodyPost_ret (v := .tuple #[bv (0) (0), .int .i64 (0)]) (by simp [results, Try.results21, go_sem, m0, m1]) rfl ⟨rfl, ?_⟩
  go_grown

set_option maxHeartbeats 1000000 in
theorem rnext_1 (s d kept grace day : Int) (w : World) (hok : okB s d = false)  :
    Calls Try.prog 17 #[bv s d, .int .i64 kept, .int .i64 grace, .int .i64 day] w fun e w' => e = .returned (.tuple #[bv s d, .int .i64 1]) ∧ Below w.heap.size w w' := by
  go_enter Try.func17, Try.ntmps17
  go_wp2_with (fail)
  refine (rright_any _ _ _).mono ?_
  rw [hok]
  rintro e w1 ⟨rfl, hb⟩
  have hB : Below w.heap.size w w1 := over hb (by go_grown)
  have z1 : w.heap.size + 1 < w1.heap.size := by (have := hb.size; simp at this; omega)
  have z0 : w.heap.size < w1.heap.size := by omega
  obtain ⟨k0, k1⟩ := keep2 hb w.heap.size (.int .i64 s) (.int .i64 d) (by simp [go_sem])
  obtain ⟨m0, m1⟩ := keep2 hb (w.heap.size + 1) (.int .i64 0) (.int .i64 0) (by simp [go_sem])
  have fm := keepf hb (w.heap.size + 1) (by first | (simp; done) | (simp; omega)) (fun j => by simp [go_sem])
  clear hb hok
  go_wp2
  refine bodyPost_ret (v := .tuple #[bv (s) (d), .int .i64 (1)]) (by simp [results, Try.results17, go_sem, m0, m1]) rfl ⟨rfl, ?_⟩
  go_grown

set_option maxHeartbeats 1000000 in
theorem rnext_2a (s d kept grace day : Int) (w : World) (hok : okB s d = true) (q0 : kept < 0) :
    Calls Try.prog 17 #[bv s d, .int .i64 kept, .int .i64 grace, .int .i64 day] w fun e w' => e = .returned (.tuple #[bv s d, .int .i64 1]) ∧ Below w.heap.size w w' := by
  go_enter Try.func17, Try.ntmps17
  go_wp2_with (fail)
  refine (rright_any _ _ _).mono ?_
  rw [hok]
  rintro e w1 ⟨rfl, hb⟩
  have hB : Below w.heap.size w w1 := over hb (by go_grown)
  have z1 : w.heap.size + 1 < w1.heap.size := by (have := hb.size; simp at this; omega)
  have z0 : w.heap.size < w1.heap.size := by omega
  obtain ⟨k0, k1⟩ := keep2 hb w.heap.size (.int .i64 s) (.int .i64 d) (by simp [go_sem])
  obtain ⟨m0, m1⟩ := keep2 hb (w.heap.size + 1) (.int .i64 0) (.int .i64 0) (by simp [go_sem])
  have fm := keepf hb (w.heap.size + 1) (by first | (simp; done) | (simp; omega)) (fun j => by simp [go_sem])
  clear hb hok
  go_wp2
  refine bodyPost_ret (v := .tuple #[bv (s) (d), .int .i64 (1)]) (by simp [results, Try.results17, go_sem, m0, m1]) rfl ⟨rfl, ?_⟩
  go_grown

set_option maxHeartbeats 1000000 in
theorem rnext_2b (s d kept grace day : Int) (w : World) (hok : okB s d = true) (q0 : 0 ≤ kept) (q1 : 3 ≤ kept) :
    Calls Try.prog 17 #[bv s d, .int .i64 kept, .int .i64 grace, .int .i64 day] w fun e w' => e = .returned (.tuple #[bv s d, .int .i64 1]) ∧ Below w.heap.size w w' := by
  go_enter Try.func17, Try.ntmps17
  go_wp2_with (fail)
  refine (rright_any _ _ _).mono ?_
  rw [hok]
  rintro e w1 ⟨rfl, hb⟩
  have hB : Below w.heap.size w w1 := over hb (by go_grown)
  have z1 : w.heap.size + 1 < w1.heap.size := by (have := hb.size; simp at this; omega)
  have z0 : w.heap.size < w1.heap.size := by omega
  obtain ⟨k0, k1⟩ := keep2 hb w.heap.size (.int .i64 s) (.int .i64 d) (by simp [go_sem])
  obtain ⟨m0, m1⟩ := keep2 hb (w.heap.size + 1) (.int .i64 0) (.int .i64 0) (by simp [go_sem])
  have fm := keepf hb (w.heap.size + 1) (by first | (simp; done) | (simp; omega)) (fun j => by simp [go_sem])
  clear hb hok
  go_wp2
  refine bodyPost_ret (v := .tuple #[bv (s) (d), .int .i64 (1)]) (by simp [results, Try.results17, go_sem, m0, m1]) rfl ⟨rfl, ?_⟩
  go_grown

set_option maxHeartbeats 1000000 in
theorem rnext_2c (s d kept grace day : Int) (w : World) (hok : okB s d = true) (q0 : 0 ≤ kept) (q1 : kept < 3) (q2 : grace < 0) :
    Calls Try.prog 17 #[bv s d, .int .i64 kept, .int .i64 grace, .int .i64 day] w fun e w' => e = .returned (.tuple #[bv s d, .int .i64 1]) ∧ Below w.heap.size w w' := by
  go_enter Try.func17, Try.ntmps17
  go_wp2_with (fail)
  refine (rright_any _ _ _).mono ?_
  rw [hok]
  rintro e w1 ⟨rfl, hb⟩
  have hB : Below w.heap.size w w1 := over hb (by go_grown)
  have z1 : w.heap.size + 1 < w1.heap.size := by (have := hb.size; simp at this; omega)
  have z0 : w.heap.size < w1.heap.size := by omega
  obtain ⟨k0, k1⟩ := keep2 hb w.heap.size (.int .i64 s) (.int .i64 d) (by simp [go_sem])
  obtain ⟨m0, m1⟩ := keep2 hb (w.heap.size + 1) (.int .i64 0) (.int .i64 0) (by simp [go_sem])
  have fm := keepf hb (w.heap.size + 1) (by first | (simp; done) | (simp; omega)) (fun j => by simp [go_sem])
  clear hb hok
  go_wp2
  refine bodyPost_ret (v := .tuple #[bv (s) (d), .int .i64 (1)]) (by simp [results, Try.results17, go_sem, m0, m1]) rfl ⟨rfl, ?_⟩
  go_grown

set_option maxHeartbeats 1000000 in
theorem rnext_2d (s d kept grace day : Int) (w : World) (hok : okB s d = true) (q0 : 0 ≤ kept) (q1 : kept < 3) (q2 : 0 ≤ grace) (q3 : 1000 < grace) :
    Calls Try.prog 17 #[bv s d, .int .i64 kept, .int .i64 grace, .int .i64 day] w fun e w' => e = .returned (.tuple #[bv s d, .int .i64 1]) ∧ Below w.heap.size w w' := by
  go_enter Try.func17, Try.ntmps17
  go_wp2_with (fail)
  refine (rright_any _ _ _).mono ?_
  rw [hok]
  rintro e w1 ⟨rfl, hb⟩
  have hB : Below w.heap.size w w1 := over hb (by go_grown)
  have z1 : w.heap.size + 1 < w1.heap.size := by (have := hb.size; simp at this; omega)
  have z0 : w.heap.size < w1.heap.size := by omega
  obtain ⟨k0, k1⟩ := keep2 hb w.heap.size (.int .i64 s) (.int .i64 d) (by simp [go_sem])
  obtain ⟨m0, m1⟩ := keep2 hb (w.heap.size + 1) (.int .i64 0) (.int .i64 0) (by simp [go_sem])
  have fm := keepf hb (w.heap.size + 1) (by first | (simp; done) | (simp; omega)) (fun j => by simp [go_sem])
  clear hb hok
  go_wp2
  refine bodyPost_ret (v := .tuple #[bv (s) (d), .int .i64 (1)]) (by simp [results, Try.results17, go_sem, m0, m1]) rfl ⟨rfl, ?_⟩
  go_grown

set_option maxHeartbeats 1000000 in
theorem rnext_2e (s d kept grace day : Int) (w : World) (hok : okB s d = true) (q0 : 0 ≤ kept) (q1 : kept < 3) (q2 : 0 ≤ grace) (q3 : grace ≤ 1000) (q4 : day < 0) :
    Calls Try.prog 17 #[bv s d, .int .i64 kept, .int .i64 grace, .int .i64 day] w fun e w' => e = .returned (.tuple #[bv s d, .int .i64 1]) ∧ Below w.heap.size w w' := by
  go_enter Try.func17, Try.ntmps17
  go_wp2_with (fail)
  refine (rright_any _ _ _).mono ?_
  rw [hok]
  rintro e w1 ⟨rfl, hb⟩
  have hB : Below w.heap.size w w1 := over hb (by go_grown)
  have z1 : w.heap.size + 1 < w1.heap.size := by (have := hb.size; simp at this; omega)
  have z0 : w.heap.size < w1.heap.size := by omega
  obtain ⟨k0, k1⟩ := keep2 hb w.heap.size (.int .i64 s) (.int .i64 d) (by simp [go_sem])
  obtain ⟨m0, m1⟩ := keep2 hb (w.heap.size + 1) (.int .i64 0) (.int .i64 0) (by simp [go_sem])
  have fm := keepf hb (w.heap.size + 1) (by first | (simp; done) | (simp; omega)) (fun j => by simp [go_sem])
  clear hb hok
  go_wp2
  refine bodyPost_ret (v := .tuple #[bv (s) (d), .int .i64 (1)]) (by simp [results, Try.results17, go_sem, m0, m1]) rfl ⟨rfl, ?_⟩
  go_grown

set_option maxHeartbeats 1000000 in
theorem rnext_2f (s d kept grace day : Int) (w : World) (hok : okB s d = true) (q0 : 0 ≤ kept) (q1 : kept < 3) (q2 : 0 ≤ grace) (q3 : grace ≤ 1000) (q4 : 0 ≤ day) (q5 : 200000 < day) :
    Calls Try.prog 17 #[bv s d, .int .i64 kept, .int .i64 grace, .int .i64 day] w fun e w' => e = .returned (.tuple #[bv s d, .int .i64 1]) ∧ Below w.heap.size w w' := by
  go_enter Try.func17, Try.ntmps17
  go_wp2_with (fail)
  refine (rright_any _ _ _).mono ?_
  rw [hok]
  rintro e w1 ⟨rfl, hb⟩
  have hB : Below w.heap.size w w1 := over hb (by go_grown)
  have z1 : w.heap.size + 1 < w1.heap.size := by (have := hb.size; simp at this; omega)
  have z0 : w.heap.size < w1.heap.size := by omega
  obtain ⟨k0, k1⟩ := keep2 hb w.heap.size (.int .i64 s) (.int .i64 d) (by simp [go_sem])
  obtain ⟨m0, m1⟩ := keep2 hb (w.heap.size + 1) (.int .i64 0) (.int .i64 0) (by simp [go_sem])
  have fm := keepf hb (w.heap.size + 1) (by first | (simp; done) | (simp; omega)) (fun j => by simp [go_sem])
  clear hb hok
  go_wp2
  refine bodyPost_ret (v := .tuple #[bv (s) (d), .int .i64 (1)]) (by simp [results, Try.results17, go_sem, m0, m1]) rfl ⟨rfl, ?_⟩
  go_grown

set_option maxHeartbeats 1000000 in
theorem rnext_3 (s d kept grace day : Int) (w : World) (hok : okB s d = true) (q0 : 0 ≤ kept) (q1 : kept < 3) (q2 : 0 ≤ grace) (q3 : grace ≤ 1000) (q4 : 0 ≤ day) (q5 : day ≤ 200000) (q6 : day < d) :
    Calls Try.prog 17 #[bv s d, .int .i64 kept, .int .i64 grace, .int .i64 day] w fun e w' => e = .returned (.tuple #[bv s d, .int .i64 20]) ∧ Below w.heap.size w w' := by
  go_enter Try.func17, Try.ntmps17
  go_wp2_with (fail)
  refine (rright_any _ _ _).mono ?_
  rw [hok]
  rintro e w1 ⟨rfl, hb⟩
  have hB : Below w.heap.size w w1 := over hb (by go_grown)
  have z1 : w.heap.size + 1 < w1.heap.size := by (have := hb.size; simp at this; omega)
  have z0 : w.heap.size < w1.heap.size := by omega
  obtain ⟨k0, k1⟩ := keep2 hb w.heap.size (.int .i64 s) (.int .i64 d) (by simp [go_sem])
  obtain ⟨m0, m1⟩ := keep2 hb (w.heap.size + 1) (.int .i64 0) (.int .i64 0) (by simp [go_sem])
  have fm := keepf hb (w.heap.size + 1) (by first | (simp; done) | (simp; omega)) (fun j => by simp [go_sem])
  clear hb hok
  go_wp2
  refine bodyPost_ret (v := .tuple #[bv (s) (d), .int .i64 (20)]) (by simp [results, Try.results17, go_sem, m0, m1]) rfl ⟨rfl, ?_⟩
  go_grown

set_option maxHeartbeats 1000000 in
theorem rnext_4 (d day : Int) (w : World) (hok : okB 0 d = true) (q0 : 0 ≤ day) (q1 : day ≤ 200000) (q2 : d ≤ day) :
    Calls Try.prog 17 #[bv 0 d, .int .i64 0, .int .i64 0, .int .i64 day] w fun e w' => e = .returned (.tuple #[bv 2 day, .int .i64 0]) ∧ Below w.heap.size w w' := by
  go_enter Try.func17, Try.ntmps17
  go_wp2_with (fail)
  refine (rright_any _ _ _).mono ?_
  rw [hok]
  rintro e w1 ⟨rfl, hb⟩
  have hB : Below w.heap.size w w1 := over hb (by go_grown)
  have z1 : w.heap.size + 1 < w1.heap.size := by (have := hb.size; simp at this; omega)
  have z0 : w.heap.size < w1.heap.size := by omega
  obtain ⟨k0, k1⟩ := keep2 hb w.heap.size (.int .i64 0) (.int .i64 d) (by simp [go_sem])
  obtain ⟨m0, m1⟩ := keep2 hb (w.heap.size + 1) (.int .i64 0) (.int .i64 0) (by simp [go_sem])
  have fm := keepf hb (w.heap.size + 1) (by first | (simp; done) | (simp; omega)) (fun j => by simp [go_sem])
  clear hb hok
  go_wp2
  refine bodyPost_ret (v := .tuple #[bv (2) (day), .int .i64 (0)]) (by simp [results, Try.results17, go_sem, m0, m1]) rfl ⟨rfl, ?_⟩
  go_grown

set_option maxHeartbeats 1000000 in
theorem rnext_5 (d grace day : Int) (w : World) (hok : okB 0 d = true) (q0 : 0 ≤ grace) (q1 : grace ≤ 1000) (q2 : 0 ≤ day) (q3 : day ≤ 200000) (q4 : d ≤ day) (q5 : (grace == 0) = false) :
    Calls Try.prog 17 #[bv 0 d, .int .i64 0, .int .i64 grace, .int .i64 day] w fun e w' => e = .returned (.tuple #[bv 1 day, .int .i64 0]) ∧ Below w.heap.size w w' := by
  go_enter Try.func17, Try.ntmps17
  go_wp2_with (fail)
  refine (rright_any _ _ _).mono ?_
  rw [hok]
  rintro e w1 ⟨rfl, hb⟩
  have hB : Below w.heap.size w w1 := over hb (by go_grown)
  have z1 : w.heap.size + 1 < w1.heap.size := by (have := hb.size; simp at this; omega)
  have z0 : w.heap.size < w1.heap.size := by omega
  obtain ⟨k0, k1⟩ := keep2 hb w.heap.size (.int .i64 0) (.int .i64 d) (by simp [go_sem])
  obtain ⟨m0, m1⟩ := keep2 hb (w.heap.size + 1) (.int .i64 0) (.int .i64 0) (by simp [go_sem])
  have fm := keepf hb (w.heap.size + 1) (by first | (simp; done) | (simp; omega)) (fun j => by simp [go_sem])
  clear hb hok
  go_wp2
  refine bodyPost_ret (v := .tuple #[bv (1) (day), .int .i64 (0)]) (by simp [results, Try.results17, go_sem, m0, m1]) rfl ⟨rfl, ?_⟩
  go_grown

set_option maxHeartbeats 1000000 in
theorem rnext_6 (d kept grace day : Int) (w : World) (hok : okB 0 d = true) (q0 : 0 ≤ kept) (q1 : kept < 3) (q2 : 0 ≤ grace) (q3 : grace ≤ 1000) (q4 : 0 ≤ day) (q5 : day ≤ 200000) (q6 : d ≤ day) (q7 : (kept == 0) = false) :
    Calls Try.prog 17 #[bv 0 d, .int .i64 kept, .int .i64 grace, .int .i64 day] w fun e w' => e = .returned (.tuple #[bv 0 d, .int .i64 0]) ∧ Below w.heap.size w w' := by
  go_enter Try.func17, Try.ntmps17
  go_wp2_with (fail)
  refine (rright_any _ _ _).mono ?_
  rw [hok]
  rintro e w1 ⟨rfl, hb⟩
  have hB : Below w.heap.size w w1 := over hb (by go_grown)
  have z1 : w.heap.size + 1 < w1.heap.size := by (have := hb.size; simp at this; omega)
  have z0 : w.heap.size < w1.heap.size := by omega
  obtain ⟨k0, k1⟩ := keep2 hb w.heap.size (.int .i64 0) (.int .i64 d) (by simp [go_sem])
  obtain ⟨m0, m1⟩ := keep2 hb (w.heap.size + 1) (.int .i64 0) (.int .i64 0) (by simp [go_sem])
  have fm := keepf hb (w.heap.size + 1) (by first | (simp; done) | (simp; omega)) (fun j => by simp [go_sem])
  clear hb hok
  go_wp2
  refine bodyPost_ret (v := .tuple #[bv (0) (d), .int .i64 (0)]) (by simp [results, Try.results17, go_sem, m0, m1]) rfl ⟨rfl, ?_⟩
  go_grown

set_option maxHeartbeats 1000000 in
theorem rnext_7 (d grace day : Int) (w : World) (hok : okB 1 d = true) (q0 : 0 ≤ grace) (q1 : grace ≤ 1000) (q2 : 0 ≤ day) (q3 : day ≤ 200000) (q4 : d ≤ day) :
    Calls Try.prog 17 #[bv 1 d, .int .i64 1, .int .i64 grace, .int .i64 day] w fun e w' => e = .returned (.tuple #[bv 0 0, .int .i64 0]) ∧ Below w.heap.size w w' := by
  go_enter Try.func17, Try.ntmps17
  go_wp2_with (fail)
  refine (rright_any _ _ _).mono ?_
  rw [hok]
  rintro e w1 ⟨rfl, hb⟩
  have hB : Below w.heap.size w w1 := over hb (by go_grown)
  have z1 : w.heap.size + 1 < w1.heap.size := by (have := hb.size; simp at this; omega)
  have z0 : w.heap.size < w1.heap.size := by omega
  obtain ⟨k0, k1⟩ := keep2 hb w.heap.size (.int .i64 1) (.int .i64 d) (by simp [go_sem])
  obtain ⟨m0, m1⟩ := keep2 hb (w.heap.size + 1) (.int .i64 0) (.int .i64 0) (by simp [go_sem])
  have fm := keepf hb (w.heap.size + 1) (by first | (simp; done) | (simp; omega)) (fun j => by simp [go_sem])
  clear hb hok
  go_wp2
  refine bodyPost_ret (v := .tuple #[bv (0) (0), .int .i64 (0)]) (by simp [results, Try.results17, go_sem, m0, m1]) rfl ⟨rfl, ?_⟩
  go_grown

set_option maxHeartbeats 1000000 in
theorem rnext_8 (d kept grace day : Int) (w : World) (hok : okB 1 d = true) (q0 : 0 ≤ kept) (q1 : kept < 3) (q2 : 0 ≤ grace) (q3 : grace ≤ 1000) (q4 : 0 ≤ day) (q5 : day ≤ 200000) (q6 : 0 ≤ d) (q7 : d ≤ 200000) (q8 : d ≤ day) (q9 : (kept == 1) = false) (q10 : d + grace ≤ day) :
    Calls Try.prog 17 #[bv 1 d, .int .i64 kept, .int .i64 grace, .int .i64 day] w fun e w' => e = .returned (.tuple #[bv 2 day, .int .i64 0]) ∧ Below w.heap.size w w' := by
  go_enter Try.func17, Try.ntmps17
  go_wp2_with (fail)
  refine (rright_any _ _ _).mono ?_
  rw [hok]
  rintro e w1 ⟨rfl, hb⟩
  have hB : Below w.heap.size w w1 := over hb (by go_grown)
  have z1 : w.heap.size + 1 < w1.heap.size := by (have := hb.size; simp at this; omega)
  have z0 : w.heap.size < w1.heap.size := by omega
  obtain ⟨k0, k1⟩ := keep2 hb w.heap.size (.int .i64 1) (.int .i64 d) (by simp [go_sem])
  obtain ⟨m0, m1⟩ := keep2 hb (w.heap.size + 1) (.int .i64 0) (.int .i64 0) (by simp [go_sem])
  have fm := keepf hb (w.heap.size + 1) (by first | (simp; done) | (simp; omega)) (fun j => by simp [go_sem])
  clear hb hok
  go_wp2
  refine bodyPost_ret (v := .tuple #[bv (2) (day), .int .i64 (0)]) (by simp [results, Try.results17, go_sem, m0, m1]) rfl ⟨rfl, ?_⟩
  go_grown

set_option maxHeartbeats 1000000 in
theorem rnext_9 (d kept grace day : Int) (w : World) (hok : okB 1 d = true) (q0 : 0 ≤ kept) (q1 : kept < 3) (q2 : 0 ≤ grace) (q3 : grace ≤ 1000) (q4 : 0 ≤ day) (q5 : day ≤ 200000) (q6 : 0 ≤ d) (q7 : d ≤ 200000) (q8 : d ≤ day) (q9 : (kept == 1) = false) (q10 : day < d + grace) :
    Calls Try.prog 17 #[bv 1 d, .int .i64 kept, .int .i64 grace, .int .i64 day] w fun e w' => e = .returned (.tuple #[bv 1 d, .int .i64 0]) ∧ Below w.heap.size w w' := by
  go_enter Try.func17, Try.ntmps17
  go_wp2_with (fail)
  refine (rright_any _ _ _).mono ?_
  rw [hok]
  rintro e w1 ⟨rfl, hb⟩
  have hB : Below w.heap.size w w1 := over hb (by go_grown)
  have z1 : w.heap.size + 1 < w1.heap.size := by (have := hb.size; simp at this; omega)
  have z0 : w.heap.size < w1.heap.size := by omega
  obtain ⟨k0, k1⟩ := keep2 hb w.heap.size (.int .i64 1) (.int .i64 d) (by simp [go_sem])
  obtain ⟨m0, m1⟩ := keep2 hb (w.heap.size + 1) (.int .i64 0) (.int .i64 0) (by simp [go_sem])
  have fm := keepf hb (w.heap.size + 1) (by first | (simp; done) | (simp; omega)) (fun j => by simp [go_sem])
  clear hb hok
  go_wp2
  refine bodyPost_ret (v := .tuple #[bv (1) (d), .int .i64 (0)]) (by simp [results, Try.results17, go_sem, m0, m1]) rfl ⟨rfl, ?_⟩
  go_grown

set_option maxHeartbeats 1000000 in
theorem rnext_10 (s d kept grace day : Int) (w : World) (hok : okB s d = true) (q0 : 0 ≤ kept) (q1 : kept < 3) (q2 : 0 ≤ grace) (q3 : grace ≤ 1000) (q4 : 0 ≤ day) (q5 : day ≤ 200000) (q6 : d ≤ day) (q7 : (s == 0) = false) (q8 : (s == 1) = false) :
    Calls Try.prog 17 #[bv s d, .int .i64 kept, .int .i64 grace, .int .i64 day] w fun e w' => e = .returned (.tuple #[bv s d, .int .i64 0]) ∧ Below w.heap.size w w' := by
  go_enter Try.func17, Try.ntmps17
  go_wp2_with (fail)
  refine (rright_any _ _ _).mono ?_
  rw [hok]
  rintro e w1 ⟨rfl, hb⟩
  have hB : Below w.heap.size w w1 := over hb (by go_grown)
  have z1 : w.heap.size + 1 < w1.heap.size := by (have := hb.size; simp at this; omega)
  have z0 : w.heap.size < w1.heap.size := by omega
  obtain ⟨k0, k1⟩ := keep2 hb w.heap.size (.int .i64 s) (.int .i64 d) (by simp [go_sem])
  obtain ⟨m0, m1⟩ := keep2 hb (w.heap.size + 1) (.int .i64 0) (.int .i64 0) (by simp [go_sem])
  have fm := keepf hb (w.heap.size + 1) (by first | (simp; done) | (simp; omega)) (fun j => by simp [go_sem])
  clear hb hok
  go_wp2
  refine bodyPost_ret (v := .tuple #[bv (s) (d), .int .i64 (0)]) (by simp [results, Try.results17, go_sem, m0, m1]) rfl ⟨rfl, ?_⟩
  go_grown

end Go.Proofs.Ytblegaclcpoonaa.Br
