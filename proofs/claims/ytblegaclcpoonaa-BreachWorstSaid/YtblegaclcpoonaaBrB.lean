/- Package breach: the contracts of 'Notice', 'Waive' and 'Next'. -/
import Derived.Test.YtblegaclcpoonaaBrA
namespace Go.Proofs.Ytblegaclcpoonaa.Br
open Go.ChangeShapes Go.WideShapes Go.ChangeAt Go.RowKit
set_option linter.unusedVariables false

theorem ret_t {a b c : Int} {f : Int × Int × Int} (h : f = (a, b, c)) : Ending.returned (.tuple #[bv a b, .int .i64 c]) = .returned (.tuple #[bv f.1 f.2.1, .int .i64 f.2.2]) := by rw [h]

def nt (s d day : Int) : Int × Int × Int := if rdy s d day ≠ 0 then (s, d, rdy s d day) else if s = 2 then (3, day, 0) else (s, d, 7)
def wv (s d day : Int) : Int × Int × Int := if rdy s d day ≠ 0 then (s, d, rdy s d day) else if s = 0 ∨ s = 3 then (s, d, 7) else (0, 0, 0)
def nx (s d kept grace day : Int) : Int × Int × Int :=
  if ¬ (0 ≤ kept ∧ kept < 3 ∧ 0 ≤ grace ∧ grace ≤ 1000) then (s, d, 1)
  else if rdy s d day ≠ 0 then (s, d, rdy s d day)
  else if s = 0 ∧ kept = 0 ∧ grace = 0 then (2, day, 0)
  else if s = 0 ∧ kept = 0 then (1, day, 0)
  else if s = 1 ∧ kept = 1 then (0, 0, 0)
  else if s = 1 ∧ d + grace ≤ day then (2, day, 0)
  else (s, d, 0)

set_option maxHeartbeats 1000000 in
theorem notice_1 (s d day : Int) (w : World) (hr : (rdy s d day != 0) = true) (hr2 : Hid (rdy s d day ≠ 0)) :
    Calls Try.prog 18 #[bv s d, .int .i64 day] w fun e w' => e = .returned (.tuple #[bv (nt s d day).1 (nt s d day).2.1, .int .i64 (nt s d day).2.2]) ∧ Below w.heap.size w w' := by
  have HF := Lib.hid (show nt s d day = (s, d, rdy s d day) from by unfold nt; rw [if_pos hr2.out])
  go_enter Try.func18, Try.ntmps18
  go_wp2_with (fail)
  refine (ready_any _ _ _ _).mono ?_
  rintro e w1 ⟨rfl, hb⟩
  have hB : Below w.heap.size w w1 := over hb (by go_grown)
  have z1 : w.heap.size + 1 < w1.heap.size := by (have := hb.size; simp at this; omega)
  have z0 : w.heap.size < w1.heap.size := by omega
  obtain ⟨k0, k1⟩ := keep2 hb w.heap.size (.int .i64 s) (.int .i64 d) (by simp [go_sem])
  obtain ⟨m0, m1⟩ := keep2 hb (w.heap.size + 1) (.int .i64 0) (.int .i64 0) (by simp [go_sem])
  have fm := keepf hb (w.heap.size + 1) (by first | (simp; done) | (simp; omega)) (fun j => by simp [go_sem])
  clear hb
  go_wp2
  refine bodyPost_ret (v := .tuple #[bv (s) (d), .int .i64 (rdy s d day)]) (by simp [results, Try.results18, go_sem, m0, m1]) rfl ⟨ret_t HF.out, ?_⟩
  go_grown

set_option maxHeartbeats 1000000 in
theorem notice_2 (d day : Int) (w : World) (hr : (rdy 2 d day != 0) = false) (hr2 : Hid (rdy 2 d day = 0)) :
    Calls Try.prog 18 #[bv 2 d, .int .i64 day] w fun e w' => e = .returned (.tuple #[bv (nt 2 d day).1 (nt 2 d day).2.1, .int .i64 (nt 2 d day).2.2]) ∧ Below w.heap.size w w' := by
  have HF := Lib.hid (show nt 2 d day = (3, day, 0) from by unfold nt; rw [if_neg (fun h => h hr2.out), if_pos rfl])
  go_enter Try.func18, Try.ntmps18
  go_wp2_with (fail)
  refine (ready_any _ _ _ _).mono ?_
  rintro e w1 ⟨rfl, hb⟩
  have hB : Below w.heap.size w w1 := over hb (by go_grown)
  have z1 : w.heap.size + 1 < w1.heap.size := by (have := hb.size; simp at this; omega)
  have z0 : w.heap.size < w1.heap.size := by omega
  obtain ⟨k0, k1⟩ := keep2 hb w.heap.size (.int .i64 2) (.int .i64 d) (by simp [go_sem])
  obtain ⟨m0, m1⟩ := keep2 hb (w.heap.size + 1) (.int .i64 0) (.int .i64 0) (by simp [go_sem])
  have fm := keepf hb (w.heap.size + 1) (by first | (simp; done) | (simp; omega)) (fun j => by simp [go_sem])
  clear hb
  go_wp2
  refine bodyPost_ret (v := .tuple #[bv (3) (day), .int .i64 (0)]) (by simp [results, Try.results18, go_sem, m0, m1]) rfl ⟨ret_t HF.out, ?_⟩
  go_grown

set_option maxHeartbeats 1000000 in
theorem notice_3 (s d day : Int) (w : World) (hr : (rdy s d day != 0) = false) (hr2 : Hid (rdy s d day = 0)) (hs : (s != 2) = true) (hs2 : Hid (s ≠ 2)) :
    Calls Try.prog 18 #[bv s d, .int .i64 day] w fun e w' => e = .returned (.tuple #[bv (nt s d day).1 (nt s d day).2.1, .int .i64 (nt s d day).2.2]) ∧ Below w.heap.size w w' := by
  have HF := Lib.hid (show nt s d day = (s, d, 7) from by unfold nt; rw [if_neg (fun h => h hr2.out), if_neg hs2.out])
  go_enter Try.func18, Try.ntmps18
  go_wp2_with (fail)
  refine (ready_any _ _ _ _).mono ?_
  rintro e w1 ⟨rfl, hb⟩
  have hB : Below w.heap.size w w1 := over hb (by go_grown)
  have z1 : w.heap.size + 1 < w1.heap.size := by (have := hb.size; simp at this; omega)
  have z0 : w.heap.size < w1.heap.size := by omega
  obtain ⟨k0, k1⟩ := keep2 hb w.heap.size (.int .i64 s) (.int .i64 d) (by simp [go_sem])
  obtain ⟨m0, m1⟩ := keep2 hb (w.heap.size + 1) (.int .i64 0) (.int .i64 0) (by simp [go_sem])
  have fm := keepf hb (w.heap.size + 1) (by first | (simp; done) | (simp; omega)) (fun j => by simp [go_sem])
  clear hb
  go_wp2
  refine bodyPost_ret (v := .tuple #[bv (s) (d), .int .i64 (7)]) (by simp [results, Try.results18, go_sem, m0, m1]) rfl ⟨ret_t HF.out, ?_⟩
  go_grown

theorem notice_any (s d day : Int) (w : World) :
    Calls Try.prog 18 #[bv s d, .int .i64 day] w fun e w' => e = .returned (.tuple #[bv (nt s d day).1 (nt s d day).2.1, .int .i64 (nt s d day).2.2]) ∧ Below w.heap.size w w' := by
  by_cases hr : rdy s d day = 0
  · by_cases hs : s = 2
    · subst hs; exact notice_2 d day w (by simp [hr]) hr
    · exact notice_3 s d day w (by simp [hr]) hr (by simp [hs]) hs
  · exact notice_1 s d day w (by simp [hr]) hr

set_option maxHeartbeats 1000000 in
theorem waive_1 (s d day : Int) (w : World) (hr : (rdy s d day != 0) = true) (hr2 : Hid (rdy s d day ≠ 0)) :
    Calls Try.prog 20 #[bv s d, .int .i64 day] w fun e w' => e = .returned (.tuple #[bv (wv s d day).1 (wv s d day).2.1, .int .i64 (wv s d day).2.2]) ∧ Below w.heap.size w w' := by
  have HF := Lib.hid (show wv s d day = (s, d, rdy s d day) from by unfold wv; rw [if_pos hr2.out])
  go_enter Try.func20, Try.ntmps20
  go_wp2_with (fail)
  refine (ready_any _ _ _ _).mono ?_
  rintro e w1 ⟨rfl, hb⟩
  have hB : Below w.heap.size w w1 := over hb (by go_grown)
  have z1 : w.heap.size + 1 < w1.heap.size := by (have := hb.size; simp at this; omega)
  have z0 : w.heap.size < w1.heap.size := by omega
  obtain ⟨k0, k1⟩ := keep2 hb w.heap.size (.int .i64 s) (.int .i64 d) (by simp [go_sem])
  obtain ⟨m0, m1⟩ := keep2 hb (w.heap.size + 1) (.int .i64 0) (.int .i64 0) (by simp [go_sem])
  have fm := keepf hb (w.heap.size + 1) (by first | (simp; done) | (simp; omega)) (fun j => by simp [go_sem])
  clear hb
  go_wp2
  refine bodyPost_ret (v := .tuple #[bv (s) (d), .int .i64 (rdy s d day)]) (by simp [results, Try.results20, go_sem, m0, m1]) rfl ⟨ret_t HF.out, ?_⟩
  go_grown

set_option maxHeartbeats 1000000 in
theorem waive_2 (d day : Int) (w : World) (hr : (rdy 0 d day != 0) = false) (hr2 : Hid (rdy 0 d day = 0)) :
    Calls Try.prog 20 #[bv 0 d, .int .i64 day] w fun e w' => e = .returned (.tuple #[bv (wv 0 d day).1 (wv 0 d day).2.1, .int .i64 (wv 0 d day).2.2]) ∧ Below w.heap.size w w' := by
  have HF := Lib.hid (show wv 0 d day = (0, d, 7) from by unfold wv; rw [if_neg (fun h => h hr2.out), if_pos (.inl rfl)])
  go_enter Try.func20, Try.ntmps20
  go_wp2_with (fail)
  refine (ready_any _ _ _ _).mono ?_
  rintro e w1 ⟨rfl, hb⟩
  have hB : Below w.heap.size w w1 := over hb (by go_grown)
  have z1 : w.heap.size + 1 < w1.heap.size := by (have := hb.size; simp at this; omega)
  have z0 : w.heap.size < w1.heap.size := by omega
  obtain ⟨k0, k1⟩ := keep2 hb w.heap.size (.int .i64 0) (.int .i64 d) (by simp [go_sem])
  obtain ⟨m0, m1⟩ := keep2 hb (w.heap.size + 1) (.int .i64 0) (.int .i64 0) (by simp [go_sem])
  have fm := keepf hb (w.heap.size + 1) (by first | (simp; done) | (simp; omega)) (fun j => by simp [go_sem])
  clear hb
  go_wp2
  refine bodyPost_ret (v := .tuple #[bv (0) (d), .int .i64 (7)]) (by simp [results, Try.results20, go_sem, m0, m1]) rfl ⟨ret_t HF.out, ?_⟩
  go_grown

set_option maxHeartbeats 1000000 in
theorem waive_3 (d day : Int) (w : World) (hr : (rdy 3 d day != 0) = false) (hr2 : Hid (rdy 3 d day = 0)) :
    Calls Try.prog 20 #[bv 3 d, .int .i64 day] w fun e w' => e = .returned (.tuple #[bv (wv 3 d day).1 (wv 3 d day).2.1, .int .i64 (wv 3 d day).2.2]) ∧ Below w.heap.size w w' := by
  have HF := Lib.hid (show wv 3 d day = (3, d, 7) from by unfold wv; rw [if_neg (fun h => h hr2.out), if_pos (.inr rfl)])
  go_enter Try.func20, Try.ntmps20
  go_wp2_with (fail)
  refine (ready_any _ _ _ _).mono ?_
  rintro e w1 ⟨rfl, hb⟩
  have hB : Below w.heap.size w w1 := over hb (by go_grown)
  have z1 : w.heap.size + 1 < w1.heap.size := by (have := hb.size; simp at this; omega)
  have z0 : w.heap.size < w1.heap.size := by omega
  obtain ⟨k0, k1⟩ := keep2 hb w.heap.size (.int .i64 3) (.int .i64 d) (by simp [go_sem])
  obtain ⟨m0, m1⟩ := keep2 hb (w.heap.size + 1) (.int .i64 0) (.int .i64 0) (by simp [go_sem])
  have fm := keepf hb (w.heap.size + 1) (by first | (simp; done) | (simp; omega)) (fun j => by simp [go_sem])
  clear hb
  go_wp2
  refine bodyPost_ret (v := .tuple #[bv (3) (d), .int .i64 (7)]) (by simp [results, Try.results20, go_sem, m0, m1]) rfl ⟨ret_t HF.out, ?_⟩
  go_grown

set_option maxHeartbeats 1000000 in
theorem waive_4 (s d day : Int) (w : World) (hr : (rdy s d day != 0) = false) (hr2 : Hid (rdy s d day = 0)) (hs0 : (s == 0) = false) (hs3 : (s == 3) = false) (hs2 : Hid (¬ (s = 0 ∨ s = 3))) :
    Calls Try.prog 20 #[bv s d, .int .i64 day] w fun e w' => e = .returned (.tuple #[bv (wv s d day).1 (wv s d day).2.1, .int .i64 (wv s d day).2.2]) ∧ Below w.heap.size w w' := by
  have HF := Lib.hid (show wv s d day = (0, 0, 0) from by unfold wv; rw [if_neg (fun h => h hr2.out), if_neg hs2.out])
  go_enter Try.func20, Try.ntmps20
  go_wp2_with (fail)
  refine (ready_any _ _ _ _).mono ?_
  rintro e w1 ⟨rfl, hb⟩
  have hB : Below w.heap.size w w1 := over hb (by go_grown)
  have z1 : w.heap.size + 1 < w1.heap.size := by (have := hb.size; simp at this; omega)
  have z0 : w.heap.size < w1.heap.size := by omega
  obtain ⟨k0, k1⟩ := keep2 hb w.heap.size (.int .i64 s) (.int .i64 d) (by simp [go_sem])
  obtain ⟨m0, m1⟩ := keep2 hb (w.heap.size + 1) (.int .i64 0) (.int .i64 0) (by simp [go_sem])
  have fm := keepf hb (w.heap.size + 1) (by first | (simp; done) | (simp; omega)) (fun j => by simp [go_sem])
  clear hb
  go_wp2
  refine bodyPost_ret (v := .tuple #[bv (0) (0), .int .i64 (0)]) (by simp [results, Try.results20, go_sem, m0, m1]) rfl ⟨ret_t HF.out, ?_⟩
  go_grown

theorem waive_any (s d day : Int) (w : World) :
    Calls Try.prog 20 #[bv s d, .int .i64 day] w fun e w' => e = .returned (.tuple #[bv (wv s d day).1 (wv s d day).2.1, .int .i64 (wv s d day).2.2]) ∧ Below w.heap.size w w' := by
  by_cases hr : rdy s d day = 0
  · by_cases hs : s = 0
    · subst hs; exact waive_2 d day w (by simp [hr]) hr
    · by_cases hs3 : s = 3
      · subst hs3; exact waive_3 d day w (by simp [hr]) hr
      · exact waive_4 s d day w (by simp [hr]) hr (by simp [hs]) (by simp [hs3]) (fun h => h.elim hs hs3)
  · exact waive_1 s d day w (by simp [hr]) hr

set_option maxHeartbeats 1000000 in
theorem next_0a (s d kept grace day : Int) (w : World) (q0 : kept < 0) :
    Calls Try.prog 16 #[bv s d, .int .i64 kept, .int .i64 grace, .int .i64 day] w fun e w' => e = .returned (.tuple #[bv (nx s d kept grace day).1 (nx s d kept grace day).2.1, .int .i64 (nx s d kept grace day).2.2]) ∧ Below w.heap.size w w' := by
  have HF := Lib.hid (show nx s d kept grace day = (s, d, 1) from by unfold nx; rw [if_pos (by omega)])
  go_enter Try.func16, Try.ntmps16
  go_wp2
  · refine bodyPost_ret (v := .tuple #[bv (s) (d), .int .i64 (1)]) (by simp [results, Try.results16, go_sem]) rfl ⟨ret_t HF.out, ?_⟩
    go_grown

set_option maxHeartbeats 1000000 in
theorem next_0b (s d kept grace day : Int) (w : World) (q0 : 0 ≤ kept) (q1 : 3 ≤ kept) :
    Calls Try.prog 16 #[bv s d, .int .i64 kept, .int .i64 grace, .int .i64 day] w fun e w' => e = .returned (.tuple #[bv (nx s d kept grace day).1 (nx s d kept grace day).2.1, .int .i64 (nx s d kept grace day).2.2]) ∧ Below w.heap.size w w' := by
  have HF := Lib.hid (show nx s d kept grace day = (s, d, 1) from by unfold nx; rw [if_pos (by omega)])
  go_enter Try.func16, Try.ntmps16
  go_wp2
  · refine bodyPost_ret (v := .tuple #[bv (s) (d), .int .i64 (1)]) (by simp [results, Try.results16, go_sem]) rfl ⟨ret_t HF.out, ?_⟩
    go_grown

set_option maxHeartbeats 1000000 in
theorem next_0c (s d kept grace day : Int) (w : World) (q0 : 0 ≤ kept) (q1 : kept < 3) (q2 : grace < 0) :
    Calls Try.prog 16 #[bv s d, .int .i64 kept, .int .i64 grace, .int .i64 day] w fun e w' => e = .returned (.tuple #[bv (nx s d kept grace day).1 (nx s d kept grace day).2.1, .int .i64 (nx s d kept grace day).2.2]) ∧ Below w.heap.size w w' := by
  have HF := Lib.hid (show nx s d kept grace day = (s, d, 1) from by unfold nx; rw [if_pos (by omega)])
  go_enter Try.func16, Try.ntmps16
  go_wp2
  · refine bodyPost_ret (v := .tuple #[bv (s) (d), .int .i64 (1)]) (by simp [results, Try.results16, go_sem]) rfl ⟨ret_t HF.out, ?_⟩
    go_grown

set_option maxHeartbeats 1000000 in
theorem next_0d (s d kept grace day : Int) (w : World) (q0 : 0 ≤ kept) (q1 : kept < 3) (q2 : 0 ≤ grace) (q3 : 1000 < grace) :
    Calls Try.prog 16 #[bv s d, .int .i64 kept, .int .i64 grace, .int .i64 day] w fun e w' => e = .returned (.tuple #[bv (nx s d kept grace day).1 (nx s d kept grace day).2.1, .int .i64 (nx s d kept grace day).2.2]) ∧ Below w.heap.size w w' := by
  have HF := Lib.hid (show nx s d kept grace day = (s, d, 1) from by unfold nx; rw [if_pos (by omega)])
  go_enter Try.func16, Try.ntmps16
  go_wp2
  · refine bodyPost_ret (v := .tuple #[bv (s) (d), .int .i64 (1)]) (by simp [results, Try.results16, go_sem]) rfl ⟨ret_t HF.out, ?_⟩
    go_grown

set_option maxHeartbeats 1000000 in
theorem next_1 (s d kept grace day : Int) (w : World) (q0 : 0 ≤ kept) (q1 : kept < 3) (q2 : 0 ≤ grace) (q3 : grace ≤ 1000) (hr : (rdy s d day != 0) = true) (hr2 : Hid (rdy s d day ≠ 0)) :
    Calls Try.prog 16 #[bv s d, .int .i64 kept, .int .i64 grace, .int .i64 day] w fun e w' => e = .returned (.tuple #[bv (nx s d kept grace day).1 (nx s d kept grace day).2.1, .int .i64 (nx s d kept grace day).2.2]) ∧ Below w.heap.size w w' := by
  have HF := Lib.hid (show nx s d kept grace day = (s, d, rdy s d day) from by unfold nx; rw [if_neg (fun h => h ⟨by omega, by omega, by omega, by omega⟩), if_pos hr2.out])
  go_enter Try.func16, Try.ntmps16
  go_wp2_with (fail)
  refine (ready_any _ _ _ _).mono ?_
  rintro e w1 ⟨rfl, hb⟩
  have hB : Below w.heap.size w w1 := over hb (by go_grown)
  have z1 : w.heap.size + 1 < w1.heap.size := by (have := hb.size; simp at this; omega)
  have z0 : w.heap.size < w1.heap.size := by omega
  obtain ⟨k0, k1⟩ := keep2 hb w.heap.size (.int .i64 s) (.int .i64 d) (by simp [go_sem])
  obtain ⟨m0, m1⟩ := keep2 hb (w.heap.size + 1) (.int .i64 0) (.int .i64 0) (by simp [go_sem])
  have fm := keepf hb (w.heap.size + 1) (by first | (simp; done) | (simp; omega)) (fun j => by simp [go_sem])
  clear hb
  go_wp2
  refine bodyPost_ret (v := .tuple #[bv (s) (d), .int .i64 (rdy s d day)]) (by simp [results, Try.results16, go_sem, m0, m1]) rfl ⟨ret_t HF.out, ?_⟩
  go_grown

set_option maxHeartbeats 1000000 in
theorem next_2 (d day : Int) (w : World) (hr : (rdy 0 d day != 0) = false) (hr2 : Hid (rdy 0 d day = 0)) :
    Calls Try.prog 16 #[bv 0 d, .int .i64 0, .int .i64 0, .int .i64 day] w fun e w' => e = .returned (.tuple #[bv (nx 0 d 0 0 day).1 (nx 0 d 0 0 day).2.1, .int .i64 (nx 0 d 0 0 day).2.2]) ∧ Below w.heap.size w w' := by
  have HF := Lib.hid (show nx 0 d 0 0 day = (2, day, 0) from by unfold nx; rw [if_neg (fun h => h ⟨by omega, by omega, by omega, by omega⟩), if_neg (fun h => h hr2.out), if_pos ⟨rfl, rfl, rfl⟩])
  go_enter Try.func16, Try.ntmps16
  go_wp2_with (fail)
  refine (ready_any _ _ _ _).mono ?_
  rintro e w1 ⟨rfl, hb⟩
  have hB : Below w.heap.size w w1 := over hb (by go_grown)
  have z1 : w.heap.size + 1 < w1.heap.size := by (have := hb.size; simp at this; omega)
  have z0 : w.heap.size < w1.heap.size := by omega
  obtain ⟨k0, k1⟩ := keep2 hb w.heap.size (.int .i64 0) (.int .i64 d) (by simp [go_sem])
  obtain ⟨m0, m1⟩ := keep2 hb (w.heap.size + 1) (.int .i64 0) (.int .i64 0) (by simp [go_sem])
  have fm := keepf hb (w.heap.size + 1) (by first | (simp; done) | (simp; omega)) (fun j => by simp [go_sem])
  clear hb
  go_wp2
  refine bodyPost_ret (v := .tuple #[bv (2) (day), .int .i64 (0)]) (by simp [results, Try.results16, go_sem, m0, m1]) rfl ⟨ret_t HF.out, ?_⟩
  go_grown

set_option maxHeartbeats 1000000 in
theorem next_3 (d grace day : Int) (w : World) (q2 : 0 ≤ grace) (q3 : grace ≤ 1000) (hr : (rdy 0 d day != 0) = false) (hr2 : Hid (rdy 0 d day = 0)) (hg : (grace == 0) = false) (hg2 : Hid (grace ≠ 0)) :
    Calls Try.prog 16 #[bv 0 d, .int .i64 0, .int .i64 grace, .int .i64 day] w fun e w' => e = .returned (.tuple #[bv (nx 0 d 0 grace day).1 (nx 0 d 0 grace day).2.1, .int .i64 (nx 0 d 0 grace day).2.2]) ∧ Below w.heap.size w w' := by
  have HF := Lib.hid (show nx 0 d 0 grace day = (1, day, 0) from by unfold nx; rw [if_neg (fun h => h ⟨by omega, by omega, by omega, by omega⟩), if_neg (fun h => h hr2.out), if_neg (fun h => hg2.out h.2.2), if_pos ⟨rfl, rfl⟩])
  go_enter Try.func16, Try.ntmps16
  go_wp2_with (fail)
  refine (ready_any _ _ _ _).mono ?_
  rintro e w1 ⟨rfl, hb⟩
  have hB : Below w.heap.size w w1 := over hb (by go_grown)
  have z1 : w.heap.size + 1 < w1.heap.size := by (have := hb.size; simp at this; omega)
  have z0 : w.heap.size < w1.heap.size := by omega
  obtain ⟨k0, k1⟩ := keep2 hb w.heap.size (.int .i64 0) (.int .i64 d) (by simp [go_sem])
  obtain ⟨m0, m1⟩ := keep2 hb (w.heap.size + 1) (.int .i64 0) (.int .i64 0) (by simp [go_sem])
  have fm := keepf hb (w.heap.size + 1) (by first | (simp; done) | (simp; omega)) (fun j => by simp [go_sem])
  clear hb
  go_wp2
  refine bodyPost_ret (v := .tuple #[bv (1) (day), .int .i64 (0)]) (by simp [results, Try.results16, go_sem, m0, m1]) rfl ⟨ret_t HF.out, ?_⟩
  go_grown

set_option maxHeartbeats 1000000 in
theorem next_4 (d kept grace day : Int) (w : World) (q0 : 0 ≤ kept) (q1 : kept < 3) (q2 : 0 ≤ grace) (q3 : grace ≤ 1000) (hr : (rdy 0 d day != 0) = false) (hr2 : Hid (rdy 0 d day = 0)) (hk : (kept == 0) = false) (hk2 : Hid (kept ≠ 0)) :
    Calls Try.prog 16 #[bv 0 d, .int .i64 kept, .int .i64 grace, .int .i64 day] w fun e w' => e = .returned (.tuple #[bv (nx 0 d kept grace day).1 (nx 0 d kept grace day).2.1, .int .i64 (nx 0 d kept grace day).2.2]) ∧ Below w.heap.size w w' := by
  have HF := Lib.hid (show nx 0 d kept grace day = (0, d, 0) from by unfold nx; rw [if_neg (fun h => h ⟨by omega, by omega, by omega, by omega⟩), if_neg (fun h => h hr2.out), if_neg (fun h => hk2.out h.2.1), if_neg (fun h => hk2.out h.2), if_neg (fun h => absurd h.1 (by decide)), if_neg (fun h => absurd h.1 (by decide))])
  go_enter Try.func16, Try.ntmps16
  go_wp2_with (fail)
  refine (ready_any _ _ _ _).mono ?_
  rintro e w1 ⟨rfl, hb⟩
  have hB : Below w.heap.size w w1 := over hb (by go_grown)
  have z1 : w.heap.size + 1 < w1.heap.size := by (have := hb.size; simp at this; omega)
  have z0 : w.heap.size < w1.heap.size := by omega
  obtain ⟨k0, k1⟩ := keep2 hb w.heap.size (.int .i64 0) (.int .i64 d) (by simp [go_sem])
  obtain ⟨m0, m1⟩ := keep2 hb (w.heap.size + 1) (.int .i64 0) (.int .i64 0) (by simp [go_sem])
  have fm := keepf hb (w.heap.size + 1) (by first | (simp; done) | (simp; omega)) (fun j => by simp [go_sem])
  clear hb
  go_wp2
  refine bodyPost_ret (v := .tuple #[bv (0) (d), .int .i64 (0)]) (by simp [results, Try.results16, go_sem, m0, m1]) rfl ⟨ret_t HF.out, ?_⟩
  go_grown

set_option maxHeartbeats 1000000 in
theorem next_5 (d grace day : Int) (w : World) (q2 : 0 ≤ grace) (q3 : grace ≤ 1000) (hr : (rdy 1 d day != 0) = false) (hr2 : Hid (rdy 1 d day = 0)) :
    Calls Try.prog 16 #[bv 1 d, .int .i64 1, .int .i64 grace, .int .i64 day] w fun e w' => e = .returned (.tuple #[bv (nx 1 d 1 grace day).1 (nx 1 d 1 grace day).2.1, .int .i64 (nx 1 d 1 grace day).2.2]) ∧ Below w.heap.size w w' := by
  have HF := Lib.hid (show nx 1 d 1 grace day = (0, 0, 0) from by unfold nx; rw [if_neg (fun h => h ⟨by omega, by omega, by omega, by omega⟩), if_neg (fun h => h hr2.out), if_neg (fun h => absurd h.1 (by decide)), if_neg (fun h => absurd h.1 (by decide)), if_pos ⟨rfl, rfl⟩])
  go_enter Try.func16, Try.ntmps16
  go_wp2_with (fail)
  refine (ready_any _ _ _ _).mono ?_
  rintro e w1 ⟨rfl, hb⟩
  have hB : Below w.heap.size w w1 := over hb (by go_grown)
  have z1 : w.heap.size + 1 < w1.heap.size := by (have := hb.size; simp at this; omega)
  have z0 : w.heap.size < w1.heap.size := by omega
  obtain ⟨k0, k1⟩ := keep2 hb w.heap.size (.int .i64 1) (.int .i64 d) (by simp [go_sem])
  obtain ⟨m0, m1⟩ := keep2 hb (w.heap.size + 1) (.int .i64 0) (.int .i64 0) (by simp [go_sem])
  have fm := keepf hb (w.heap.size + 1) (by first | (simp; done) | (simp; omega)) (fun j => by simp [go_sem])
  clear hb
  go_wp2
  refine bodyPost_ret (v := .tuple #[bv (0) (0), .int .i64 (0)]) (by simp [results, Try.results16, go_sem, m0, m1]) rfl ⟨ret_t HF.out, ?_⟩
  go_grown

set_option maxHeartbeats 1000000 in
theorem next_6 (d kept grace day : Int) (w : World) (q0 : 0 ≤ kept) (q1 : kept < 3) (q2 : 0 ≤ grace) (q3 : grace ≤ 1000) (hr : (rdy 1 d day != 0) = false) (hr2 : Hid (rdy 1 d day = 0)) (d0 : 0 ≤ d) (d1 : d ≤ 200000) (hk : (kept == 1) = false) (hk2 : Hid (kept ≠ 1)) (hd : d + grace ≤ day) :
    Calls Try.prog 16 #[bv 1 d, .int .i64 kept, .int .i64 grace, .int .i64 day] w fun e w' => e = .returned (.tuple #[bv (nx 1 d kept grace day).1 (nx 1 d kept grace day).2.1, .int .i64 (nx 1 d kept grace day).2.2]) ∧ Below w.heap.size w w' := by
  have HF := Lib.hid (show nx 1 d kept grace day = (2, day, 0) from by unfold nx; rw [if_neg (fun h => h ⟨by omega, by omega, by omega, by omega⟩), if_neg (fun h => h hr2.out), if_neg (fun h => absurd h.1 (by decide)), if_neg (fun h => absurd h.1 (by decide)), if_neg (fun h => hk2.out h.2), if_pos ⟨rfl, hd⟩])
  go_enter Try.func16, Try.ntmps16
  go_wp2_with (fail)
  refine (ready_any _ _ _ _).mono ?_
  rintro e w1 ⟨rfl, hb⟩
  have hB : Below w.heap.size w w1 := over hb (by go_grown)
  have z1 : w.heap.size + 1 < w1.heap.size := by (have := hb.size; simp at this; omega)
  have z0 : w.heap.size < w1.heap.size := by omega
  obtain ⟨k0, k1⟩ := keep2 hb w.heap.size (.int .i64 1) (.int .i64 d) (by simp [go_sem])
  obtain ⟨m0, m1⟩ := keep2 hb (w.heap.size + 1) (.int .i64 0) (.int .i64 0) (by simp [go_sem])
  have fm := keepf hb (w.heap.size + 1) (by first | (simp; done) | (simp; omega)) (fun j => by simp [go_sem])
  clear hb
  go_wp2
  refine bodyPost_ret (v := .tuple #[bv (2) (day), .int .i64 (0)]) (by simp [results, Try.results16, go_sem, m0, m1]) rfl ⟨ret_t HF.out, ?_⟩
  go_grown

set_option maxHeartbeats 1000000 in
theorem next_7 (d kept grace day : Int) (w : World) (q0 : 0 ≤ kept) (q1 : kept < 3) (q2 : 0 ≤ grace) (q3 : grace ≤ 1000) (hr : (rdy 1 d day != 0) = false) (hr2 : Hid (rdy 1 d day = 0)) (d0 : 0 ≤ d) (d1 : d ≤ 200000) (hk : (kept == 1) = false) (hk2 : Hid (kept ≠ 1)) (hd : day < d + grace) :
    Calls Try.prog 16 #[bv 1 d, .int .i64 kept, .int .i64 grace, .int .i64 day] w fun e w' => e = .returned (.tuple #[bv (nx 1 d kept grace day).1 (nx 1 d kept grace day).2.1, .int .i64 (nx 1 d kept grace day).2.2]) ∧ Below w.heap.size w w' := by
  have HF := Lib.hid (show nx 1 d kept grace day = (1, d, 0) from by unfold nx; rw [if_neg (fun h => h ⟨by omega, by omega, by omega, by omega⟩), if_neg (fun h => h hr2.out), if_neg (fun h => absurd h.1 (by decide)), if_neg (fun h => absurd h.1 (by decide)), if_neg (fun h => hk2.out h.2), if_neg (fun h => by have := h.2; omega)])
  go_enter Try.func16, Try.ntmps16
  go_wp2_with (fail)
  refine (ready_any _ _ _ _).mono ?_
  rintro e w1 ⟨rfl, hb⟩
  have hB : Below w.heap.size w w1 := over hb (by go_grown)
  have z1 : w.heap.size + 1 < w1.heap.size := by (have := hb.size; simp at this; omega)
  have z0 : w.heap.size < w1.heap.size := by omega
  obtain ⟨k0, k1⟩ := keep2 hb w.heap.size (.int .i64 1) (.int .i64 d) (by simp [go_sem])
  obtain ⟨m0, m1⟩ := keep2 hb (w.heap.size + 1) (.int .i64 0) (.int .i64 0) (by simp [go_sem])
  have fm := keepf hb (w.heap.size + 1) (by first | (simp; done) | (simp; omega)) (fun j => by simp [go_sem])
  clear hb
  go_wp2
  refine bodyPost_ret (v := .tuple #[bv (1) (d), .int .i64 (0)]) (by simp [results, Try.results16, go_sem, m0, m1]) rfl ⟨ret_t HF.out, ?_⟩
  go_grown

set_option maxHeartbeats 1000000 in
theorem next_8 (s d kept grace day : Int) (w : World) (q0 : 0 ≤ kept) (q1 : kept < 3) (q2 : 0 ≤ grace) (q3 : grace ≤ 1000) (hr : (rdy s d day != 0) = false) (hr2 : Hid (rdy s d day = 0)) (hs0 : (s == 0) = false) (hs1 : (s == 1) = false) (hs2 : Hid (s ≠ 0 ∧ s ≠ 1)) :
    Calls Try.prog 16 #[bv s d, .int .i64 kept, .int .i64 grace, .int .i64 day] w fun e w' => e = .returned (.tuple #[bv (nx s d kept grace day).1 (nx s d kept grace day).2.1, .int .i64 (nx s d kept grace day).2.2]) ∧ Below w.heap.size w w' := by
  have HF := Lib.hid (show nx s d kept grace day = (s, d, 0) from by unfold nx; rw [if_neg (fun h => h ⟨by omega, by omega, by omega, by omega⟩), if_neg (fun h => h hr2.out), if_neg (fun h => hs2.out.1 h.1), if_neg (fun h => hs2.out.1 h.1), if_neg (fun h => hs2.out.2 h.1), if_neg (fun h => hs2.out.2 h.1)])
  go_enter Try.func16, Try.ntmps16
  go_wp2_with (fail)
  refine (ready_any _ _ _ _).mono ?_
  rintro e w1 ⟨rfl, hb⟩
  have hB : Below w.heap.size w w1 := over hb (by go_grown)
  have z1 : w.heap.size + 1 < w1.heap.size := by (have := hb.size; simp at this; omega)
  have z0 : w.heap.size < w1.heap.size := by omega
  obtain ⟨k0, k1⟩ := keep2 hb w.heap.size (.int .i64 s) (.int .i64 d) (by simp [go_sem])
  obtain ⟨m0, m1⟩ := keep2 hb (w.heap.size + 1) (.int .i64 0) (.int .i64 0) (by simp [go_sem])
  have fm := keepf hb (w.heap.size + 1) (by first | (simp; done) | (simp; omega)) (fun j => by simp [go_sem])
  clear hb
  go_wp2
  refine bodyPost_ret (v := .tuple #[bv (s) (d), .int .i64 (0)]) (by simp [results, Try.results16, go_sem, m0, m1]) rfl ⟨ret_t HF.out, ?_⟩
  go_grown

theorem next_any (s d kept grace day : Int) (w : World) :
    Calls Try.prog 16 #[bv s d, .int .i64 kept, .int .i64 grace, .int .i64 day] w fun e w' => e = .returned (.tuple #[bv (nx s d kept grace day).1 (nx s d kept grace day).2.1, .int .i64 (nx s d kept grace day).2.2]) ∧ Below w.heap.size w w' := by
  by_cases hq : 0 ≤ kept ∧ kept < 3 ∧ 0 ≤ grace ∧ grace ≤ 1000
  case neg =>
    by_cases q0 : 0 ≤ kept
    case neg => exact next_0a s d kept grace day w (by omega)
    by_cases q1 : kept < 3
    case neg => exact next_0b s d kept grace day w q0 (by omega)
    by_cases q2 : 0 ≤ grace
    case neg => exact next_0c s d kept grace day w q0 q1 (by omega)
    exact next_0d s d kept grace day w q0 q1 q2 (by omega)
  obtain ⟨q0, q1, q2, q3⟩ := hq
  by_cases hr : rdy s d day = 0
  case neg => exact next_1 s d kept grace day w q0 q1 q2 q3 (by simp [hr]) hr
  have b := okB_in (rdy_0 hr).1
  by_cases hs : s = 0
  · subst hs
    by_cases hk : kept = 0
    · subst hk
      by_cases hg : grace = 0
      · subst hg; exact next_2 d day w (by simp [hr]) hr
      · exact next_3 d grace day w q2 q3 (by simp [hr]) hr (by simp [hg]) hg
    · exact next_4 d kept grace day w q0 q1 q2 q3 (by simp [hr]) hr (by simp [hk]) hk
  · by_cases hs1 : s = 1
    · subst hs1
      by_cases hk : kept = 1
      · subst hk; exact next_5 d grace day w q2 q3 (by simp [hr]) hr
      · by_cases hd : d + grace ≤ day
        · exact next_6 d kept grace day w q0 q1 q2 q3 (by simp [hr]) hr (by omega) (by omega) (by simp [hk]) hk hd
        · exact next_7 d kept grace day w q0 q1 q2 q3 (by simp [hr]) hr (by omega) (by omega) (by simp [hk]) hk (by omega)
    · exact next_8 s d kept grace day w q0 q1 q2 q3 (by simp [hr]) hr (by simp [hs]) (by simp [hs1]) ⟨hs, hs1⟩

end Go.Proofs.Ytblegaclcpoonaa.Br
