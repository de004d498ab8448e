/- The contracts of the reference of package agent: the same plain functions as those of the package itself. -/
import Derived.Test.YtblegaclcpoonabPass
namespace Go.Proofs.Ytblegaclcpoonab.Agent
open Go.ChangeShapes Go.WideShapes Go.ChangeAt Go.RowKit

def in0B (n : Int) : Bool := decide (0 ≤ n ∧ n ≤ 1000000000000000)
set_option maxHeartbeats 400000 in
theorem in0 (n : Int) (w : World) : Calls Try.prog 44 #[.int .i64 n, .int .i64 0, .int .i64 1000000000000000] w fun e w' => e = .returned (.bool (in0B n)) ∧ w = w' := by
  by_cases h : 0 ≤ n ∧ n ≤ 1000000000000000
  · rw [show in0B n = true from decide_eq_true h]
    obtain ⟨h0, h1⟩ := h
    go_enter Try.func44, Try.ntmps44
    go_wp2
    go_ret
    exact ⟨rfl, rfl⟩
  · rw [show in0B n = false from decide_eq_false h]
    by_cases h0 : 0 ≤ n
    · have h1 : 1000000000000000 < n := by omega
      clear h
      go_enter Try.func44, Try.ntmps44
      go_wp2
      go_ret
      exact ⟨ret_bool (decide_eq_false (by omega)), rfl⟩
    · have h1 : n < 0 := by omega
      clear h h0
      go_enter Try.func44, Try.ntmps44
      go_wp2
      go_ret
      exact ⟨rfl, rfl⟩

def in1B (n : Int) : Bool := decide (1 ≤ n ∧ n ≤ 1000000000000000)
set_option maxHeartbeats 400000 in
theorem in1 (n : Int) (w : World) : Calls Try.prog 44 #[.int .i64 n, .int .i64 1, .int .i64 1000000000000000] w fun e w' => e = .returned (.bool (in1B n)) ∧ w = w' := by
  by_cases h : 1 ≤ n ∧ n ≤ 1000000000000000
  · rw [show in1B n = true from decide_eq_true h]
    obtain ⟨h0, h1⟩ := h
    go_enter Try.func44, Try.ntmps44
    go_wp2
    go_ret
    exact ⟨rfl, rfl⟩
  · rw [show in1B n = false from decide_eq_false h]
    by_cases h0 : 1 ≤ n
    · have h1 : 1000000000000000 < n := by omega
      clear h
      go_enter Try.func44, Try.ntmps44
      go_wp2
      go_ret
      exact ⟨ret_bool (decide_eq_false (by omega)), rfl⟩
    · have h1 : n < 1 := by omega
      clear h h0
      go_enter Try.func44, Try.ntmps44
      go_wp2
      go_ret
      exact ⟨rfl, rfl⟩

set_option maxHeartbeats 400000 in
theorem right_ref (t o : Int) (g : Bool) (w : World) : Calls Try.prog 31 #[pv t o g] w fun e w' => e = .returned (.bool (okB t o)) ∧ Below w.heap.size w w' := by
  rw [okB_eq, show mon t = in0B t from rfl, show mon o = in0B o from rfl]
  cases ht : in0B t
  · go_enter Try.func31, Try.ntmps31
    go_wp2_with (go_at_call 44; refine (in0 _ _).mono ?_; rintro e w' ⟨rfl, rfl⟩)
    go_ret
    exact ⟨rfl, by go_grown⟩
  · go_enter Try.func31, Try.ntmps31
    go_wp2_with (go_at_call 44; refine (in0 _ _).mono ?_; rintro e w' ⟨rfl, rfl⟩)
    go_ret
    exact ⟨rfl, by go_grown⟩

set_option maxHeartbeats 400000 in
theorem ready_ref (t o : Int) (g : Bool) (n : Int) (w : World) : Calls Try.prog 49 #[pv t o g, .int .i64 n] w fun e w' => e = .returned (.int .i64 (rdy t o g n)) ∧ Below w.heap.size w w' := by
  cases hk : okB t o
  · have hr : rdy t o g n = 1 := by unfold rdy; rw [if_neg (by simp [hk])]
    rw [hr]
    clear hr
    go_enter Try.func49, Try.ntmps49
    go_wp2_with (first | (go_at_call 31; refine (right_ref _ _ _ _).mono ?_; rintro e w1 ⟨rfl, hb⟩; have hc := (bcell hb).1; have hf := (bcell hb).2) | (go_at_call 44; refine (in1 _ _).mono ?_; rintro e w1 ⟨rfl, rfl⟩))
    go_ret
    exact ⟨rfl, over (by assumption) (by go_grown)⟩
  · by_cases h1 : 1 ≤ n
    · by_cases h2 : n ≤ 1000000000000000
      · cases g
        · have hr : rdy t o false n = 0 := by unfold rdy; rw [if_pos ⟨hk, h1, h2⟩]; rfl
          rw [hr]
          have HI : in1B n = true := decide_eq_true ⟨h1, h2⟩
          clear hr
          go_enter Try.func49, Try.ntmps49
          go_wp2_with (first | (go_at_call 31; refine (right_ref _ _ _ _).mono ?_; rintro e w1 ⟨rfl, hb⟩; have hc := (bcell hb).1; have hf := (bcell hb).2) | (go_at_call 44; refine (in1 _ _).mono ?_; rintro e w1 ⟨rfl, rfl⟩))
          go_ret
          exact ⟨rfl, over (by assumption) (by go_grown)⟩
        · have hr : rdy t o true n = 7 := by unfold rdy; rw [if_pos ⟨hk, h1, h2⟩]; rfl
          rw [hr]
          have HI : in1B n = true := decide_eq_true ⟨h1, h2⟩
          clear hr
          go_enter Try.func49, Try.ntmps49
          go_wp2_with (first | (go_at_call 31; refine (right_ref _ _ _ _).mono ?_; rintro e w1 ⟨rfl, hb⟩; have hc := (bcell hb).1; have hf := (bcell hb).2) | (go_at_call 44; refine (in1 _ _).mono ?_; rintro e w1 ⟨rfl, rfl⟩))
          go_ret
          exact ⟨rfl, over (by assumption) (by go_grown)⟩
      · have hr : rdy t o g n = 1 := by unfold rdy; rw [if_neg (by omega)]
        rw [hr]
        have HI : in1B n = false := decide_eq_false (by omega)
        clear hr
        have h3 : 1000000000000000 < n := by omega
        clear h2
        go_enter Try.func49, Try.ntmps49
        go_wp2_with (first | (go_at_call 31; refine (right_ref _ _ _ _).mono ?_; rintro e w1 ⟨rfl, hb⟩; have hc := (bcell hb).1; have hf := (bcell hb).2) | (go_at_call 44; refine (in1 _ _).mono ?_; rintro e w1 ⟨rfl, rfl⟩))
        go_ret
        exact ⟨rfl, over (by assumption) (by go_grown)⟩
    · have hr : rdy t o g n = 1 := by unfold rdy; rw [if_neg (by omega)]
      rw [hr]
      have HI : in1B n = false := decide_eq_false (by omega)
      clear hr
      have h3 : n < 1 := by omega
      clear h1
      go_enter Try.func49, Try.ntmps49
      go_wp2_with (first | (go_at_call 31; refine (right_ref _ _ _ _).mono ?_; rintro e w1 ⟨rfl, hb⟩; have hc := (bcell hb).1; have hf := (bcell hb).2) | (go_at_call 44; refine (in1 _ _).mono ?_; rintro e w1 ⟨rfl, rfl⟩))
      go_ret
      exact ⟨rfl, over (by assumption) (by go_grown)⟩

set_option maxHeartbeats 400000 in
theorem add_ref (s c : Int) (w : World) (h0 : 0 ≤ s) (h1 : s ≤ 1000000000000000) (h2 : -1000000000000000 ≤ c) (h3 : c ≤ 1000000000000000) :
    Calls Try.prog 50 #[.int .i64 s, .int .i64 c] w fun e w' => e = .returned (.tuple #[.int .i64 (addV s c), .int .i64 (addE s c)]) ∧ w = w' := by
  by_cases ha : 1000000000000000 < s + c
  · have e1 : addV s c = s := by unfold addV; rw [if_pos ha]
    have e2 : addE s c = 6 := by unfold addE; rw [if_pos ha]
    rw [e1, e2]
    clear e1 e2
    go_enter Try.func50, Try.ntmps50
    go_wp2
    go_ret2
    exact ⟨rfl, rfl⟩
  · have ha' : s + c ≤ 1000000000000000 := by omega
    by_cases hn : s + c < 0
    · have e1 : addV s c = s := by unfold addV; rw [if_neg ha, if_pos hn]
      have e2 : addE s c = 22 := by unfold addE; rw [if_neg ha, if_pos hn]
      rw [e1, e2]
      clear e1 e2 ha
      go_enter Try.func50, Try.ntmps50
      go_wp2
      go_ret2
      exact ⟨rfl, rfl⟩
    · have hn' : 0 ≤ s + c := by omega
      have e1 : addV s c = s + c := by unfold addV; rw [if_neg ha, if_neg hn]
      have e2 : addE s c = 0 := by unfold addE; rw [if_neg ha, if_neg hn]
      rw [e1, e2]
      clear e1 e2 ha hn
      go_enter Try.func50, Try.ntmps50
      go_wp2
      go_ret2
      exact ⟨rfl, rfl⟩

set_option maxHeartbeats 400000 in
theorem trust_ref (t o : Int) (g : Bool) (n c : Int) (w : World) (h2 : rdy t o g n = 0 → -1000000000000000 ≤ c) (h3 : rdy t o g n = 0 → c ≤ 1000000000000000) :
    Calls Try.prog 40 #[pv t o g, .int .i64 n, .int .i64 c] w fun e w' => e = .returned (.tuple #[pv (chV t o g n t c) o g, .int .i64 (chE t o g n t c)]) ∧ Below w.heap.size w w' := by
  by_cases hr : rdy t o g n = 0
  · have e1 : chV t o g n t c = addV t c := by unfold chV; rw [if_pos hr]
    have e2 : chE t o g n t c = addE t c := by unfold chE; rw [if_pos hr]
    rw [e1, e2]
    obtain ⟨a1, a2, a3, a4, a5, a6, a7⟩ := rdy_0 hr
    have a8 := h2 hr
    have a9 := h3 hr
    clear e1 e2 h2 h3
    have hq : (rdy t o g n != 0) = false := by rw [hr]; rfl
    have HR := Lib.hid hr
    clear hr a7
    go_enter Try.func40, Try.ntmps40
    go_wp2_with (fail)
    refine (ready_ref _ _ _ _ _).mono ?_
    rintro e w1 ⟨rfl, hb⟩
    have hc := (bcell hb).1
    have hf := (bcell hb).2
    have hz : w.heap.size + 1 < w1.heap.size := by (have := hb.size; simp at this; omega)
    have k0 := keep hb w.heap.size 0 (.int .i64 t) (by simp [go_sem])
    have m0 := keep hb (w.heap.size + 1) 0 (.int .i64 0) (by simp [go_sem])
    have m1 := keep hb (w.heap.size + 1) 1 (.int .i64 0) (by simp [go_sem])
    have m2 := keep hb (w.heap.size + 1) 2 (.bool false) (by simp [go_sem])
    go_wp2_with (go_at_call 50; refine (add_ref _ _ _ (by omega) (by omega) (by omega) (by omega)).mono ?_; rintro e w' ⟨rfl, rfl⟩)
    have hB : Below w.heap.size w w1 := over hb (by go_grown)
    refine bodyPost_ret (v := .tuple #[pv (addV t c) o g, .int .i64 (addE t c)]) (by simp [results, Try.results40, go_sem, m0, m1, m2]) rfl ⟨rfl, ?_⟩
    go_grown
  · have e1 : chV t o g n t c = t := by unfold chV; rw [if_neg hr]
    have e2 : chE t o g n t c = rdy t o g n := by unfold chE; rw [if_neg hr]
    rw [e1, e2]
    have hq : (rdy t o g n != 0) = true := by simp [hr]
    clear e1 e2 h2 h3 hr
    go_enter Try.func40, Try.ntmps40
    go_wp2_with (fail)
    refine (ready_ref _ _ _ _ _).mono ?_
    rintro e w1 ⟨rfl, hb⟩
    have hc := (bcell hb).1
    have hf := (bcell hb).2
    have hz : w.heap.size + 1 < w1.heap.size := by (have := hb.size; simp at this; omega)
    have k0 := keep hb w.heap.size 0 (.int .i64 t) (by simp [go_sem])
    have m0 := keep hb (w.heap.size + 1) 0 (.int .i64 0) (by simp [go_sem])
    have m1 := keep hb (w.heap.size + 1) 1 (.int .i64 0) (by simp [go_sem])
    have m2 := keep hb (w.heap.size + 1) 2 (.bool false) (by simp [go_sem])
    go_wp2
    have hB : Below w.heap.size w w1 := over hb (by go_grown)
    refine bodyPost_ret (v := .tuple #[pv t o g, .int .i64 (rdy t o g n)]) (by simp [results, Try.results40, go_sem, m0, m1, m2]) rfl ⟨rfl, ?_⟩
    go_grown

set_option maxHeartbeats 400000 in
theorem own_ref (t o : Int) (g : Bool) (n c : Int) (w : World) (h2 : rdy t o g n = 0 → -1000000000000000 ≤ c) (h3 : rdy t o g n = 0 → c ≤ 1000000000000000) :
    Calls Try.prog 42 #[pv t o g, .int .i64 n, .int .i64 c] w fun e w' => e = .returned (.tuple #[pv t (chV t o g n o c) g, .int .i64 (chE t o g n o c)]) ∧ Below w.heap.size w w' := by
  by_cases hr : rdy t o g n = 0
  · have e1 : chV t o g n o c = addV o c := by unfold chV; rw [if_pos hr]
    have e2 : chE t o g n o c = addE o c := by unfold chE; rw [if_pos hr]
    rw [e1, e2]
    obtain ⟨a1, a2, a3, a4, a5, a6, a7⟩ := rdy_0 hr
    have a8 := h2 hr
    have a9 := h3 hr
    clear e1 e2 h2 h3
    have hq : (rdy t o g n != 0) = false := by rw [hr]; rfl
    have HR := Lib.hid hr
    clear hr a7
    go_enter Try.func42, Try.ntmps42
    go_wp2_with (fail)
    refine (ready_ref _ _ _ _ _).mono ?_
    rintro e w1 ⟨rfl, hb⟩
    have hc := (bcell hb).1
    have hf := (bcell hb).2
    have hz : w.heap.size + 1 < w1.heap.size := by (have := hb.size; simp at this; omega)
    have k0 := keep hb w.heap.size 1 (.int .i64 o) (by simp [go_sem])
    have m0 := keep hb (w.heap.size + 1) 0 (.int .i64 0) (by simp [go_sem])
    have m1 := keep hb (w.heap.size + 1) 1 (.int .i64 0) (by simp [go_sem])
    have m2 := keep hb (w.heap.size + 1) 2 (.bool false) (by simp [go_sem])
    go_wp2_with (go_at_call 50; refine (add_ref _ _ _ (by omega) (by omega) (by omega) (by omega)).mono ?_; rintro e w' ⟨rfl, rfl⟩)
    have hB : Below w.heap.size w w1 := over hb (by go_grown)
    refine bodyPost_ret (v := .tuple #[pv t (addV o c) g, .int .i64 (addE o c)]) (by simp [results, Try.results42, go_sem, m0, m1, m2]) rfl ⟨rfl, ?_⟩
    go_grown
  · have e1 : chV t o g n o c = o := by unfold chV; rw [if_neg hr]
    have e2 : chE t o g n o c = rdy t o g n := by unfold chE; rw [if_neg hr]
    rw [e1, e2]
    have hq : (rdy t o g n != 0) = true := by simp [hr]
    clear e1 e2 h2 h3 hr
    go_enter Try.func42, Try.ntmps42
    go_wp2_with (fail)
    refine (ready_ref _ _ _ _ _).mono ?_
    rintro e w1 ⟨rfl, hb⟩
    have hc := (bcell hb).1
    have hf := (bcell hb).2
    have hz : w.heap.size + 1 < w1.heap.size := by (have := hb.size; simp at this; omega)
    have k0 := keep hb w.heap.size 1 (.int .i64 o) (by simp [go_sem])
    have m0 := keep hb (w.heap.size + 1) 0 (.int .i64 0) (by simp [go_sem])
    have m1 := keep hb (w.heap.size + 1) 1 (.int .i64 0) (by simp [go_sem])
    have m2 := keep hb (w.heap.size + 1) 2 (.bool false) (by simp [go_sem])
    go_wp2
    have hB : Below w.heap.size w w1 := over hb (by go_grown)
    refine bodyPost_ret (v := .tuple #[pv t o g, .int .i64 (rdy t o g n)]) (by simp [results, Try.results42, go_sem, m0, m1, m2]) rfl ⟨rfl, ?_⟩
    go_grown

set_option maxHeartbeats 400000 in
theorem take_ref (t o : Int) (g : Bool) (n : Int) (w : World) :
    Calls Try.prog 19 #[pv t o g, .int .i64 n] w fun e w' => e = .returned (.tuple #[pv (chV t o g n t n) o g, .int .i64 (chE t o g n t n)]) ∧ Below w.heap.size w w' := by
  go_enter Try.func19, Try.ntmps19
  go_wp2_with (fail)
  refine (trust_ref _ _ _ _ _ _ (fun h => by have := rdy_0 h; omega) (fun h => by have := rdy_0 h; omega)).mono ?_
  rintro e w1 ⟨rfl, hb⟩
  have hc := (bcell hb).1
  have hf := (bcell hb).2
  have hz : w.heap.size + 1 < w1.heap.size := by (have := hb.size; simp at this; omega)
  have m0 := keep hb (w.heap.size + 1) 0 (.int .i64 0) (by simp [go_sem])
  have m1 := keep hb (w.heap.size + 1) 1 (.int .i64 0) (by simp [go_sem])
  have m2 := keep hb (w.heap.size + 1) 2 (.bool false) (by simp [go_sem])
  go_wp2
  have hB : Below w.heap.size w w1 := over hb (by go_grown)
  refine bodyPost_ret (v := .tuple #[pv (chV t o g n t n) o g, .int .i64 (chE t o g n t n)]) (by simp [results, Try.results19, go_sem, m0, m1, m2]) rfl ⟨rfl, ?_⟩
  go_grown

set_option maxHeartbeats 400000 in
theorem pay_ref (t o : Int) (g : Bool) (n : Int) (w : World) :
    Calls Try.prog 21 #[pv t o g, .int .i64 n] w fun e w' => e = .returned (.tuple #[pv (chV t o g n t (-n)) o g, .int .i64 (chE t o g n t (-n))]) ∧ Below w.heap.size w w' := by
  by_cases hr : rdy t o g n = 0
  · obtain ⟨a1, a2, a3, a4, a5, a6, a7⟩ := rdy_0 hr
    clear hr a7
    go_enter Try.func21, Try.ntmps21
    go_wp2_with (fail)
    refine (trust_ref _ _ _ _ _ _ (fun _ => by omega) (fun _ => by omega)).mono ?_
    rintro e w1 ⟨rfl, hb⟩
    have hc := (bcell hb).1
    have hf := (bcell hb).2
    have hz : w.heap.size + 1 < w1.heap.size := by (have := hb.size; simp at this; omega)
    have m0 := keep hb (w.heap.size + 1) 0 (.int .i64 0) (by simp [go_sem])
    have m1 := keep hb (w.heap.size + 1) 1 (.int .i64 0) (by simp [go_sem])
    have m2 := keep hb (w.heap.size + 1) 2 (.bool false) (by simp [go_sem])
    go_wp2
    have hB : Below w.heap.size w w1 := over hb (by go_grown)
    refine bodyPost_ret (v := .tuple #[pv (chV t o g n t (-n)) o g, .int .i64 (chE t o g n t (-n))]) (by simp [results, Try.results21, go_sem, m0, m1, m2]) rfl ⟨rfl, ?_⟩
    go_grown
  · have e1 : ∀ c, chV t o g n t c = t := fun c => by unfold chV; rw [if_neg hr]
    have e2 : ∀ c, chE t o g n t c = rdy t o g n := fun c => by unfold chE; rw [if_neg hr]
    rw [e1, e2]
    have E1 := Lib.hid e1
    have E2 := Lib.hid e2
    clear e1 e2
    go_enter Try.func21, Try.ntmps21
    go_wp2_with (fail)
    refine (trust_ref _ _ _ _ _ _ (fun h => absurd h hr) (fun h => absurd h hr)).mono ?_
    rintro e w1 ⟨rfl, hb⟩
    have hc := (bcell hb).1
    have hf := (bcell hb).2
    have hz : w.heap.size + 1 < w1.heap.size := by (have := hb.size; simp at this; omega)
    have m0 := keep hb (w.heap.size + 1) 0 (.int .i64 0) (by simp [go_sem])
    have m1 := keep hb (w.heap.size + 1) 1 (.int .i64 0) (by simp [go_sem])
    have m2 := keep hb (w.heap.size + 1) 2 (.bool false) (by simp [go_sem])
    rw [E1.out, E2.out]
    go_wp2
    have hB : Below w.heap.size w w1 := over hb (by go_grown)
    refine bodyPost_ret (v := .tuple #[pv t o g, .int .i64 (rdy t o g n)]) (by simp [results, Try.results21, go_sem, m0, m1, m2]) rfl ⟨rfl, ?_⟩
    go_grown

set_option maxHeartbeats 400000 in
theorem earn_ref (t o : Int) (g : Bool) (n : Int) (w : World) :
    Calls Try.prog 23 #[pv t o g, .int .i64 n] w fun e w' => e = .returned (.tuple #[pv t (chV t o g n o n) g, .int .i64 (chE t o g n o n)]) ∧ Below w.heap.size w w' := by
  go_enter Try.func23, Try.ntmps23
  go_wp2_with (fail)
  refine (own_ref _ _ _ _ _ _ (fun h => by have := rdy_0 h; omega) (fun h => by have := rdy_0 h; omega)).mono ?_
  rintro e w1 ⟨rfl, hb⟩
  have hc := (bcell hb).1
  have hf := (bcell hb).2
  have hz : w.heap.size + 1 < w1.heap.size := by (have := hb.size; simp at this; omega)
  have m0 := keep hb (w.heap.size + 1) 0 (.int .i64 0) (by simp [go_sem])
  have m1 := keep hb (w.heap.size + 1) 1 (.int .i64 0) (by simp [go_sem])
  have m2 := keep hb (w.heap.size + 1) 2 (.bool false) (by simp [go_sem])
  go_wp2
  have hB : Below w.heap.size w w1 := over hb (by go_grown)
  refine bodyPost_ret (v := .tuple #[pv t (chV t o g n o n) g, .int .i64 (chE t o g n o n)]) (by simp [results, Try.results23, go_sem, m0, m1, m2]) rfl ⟨rfl, ?_⟩
  go_grown

set_option maxHeartbeats 400000 in
theorem spend_ref (t o : Int) (g : Bool) (n : Int) (w : World) :
    Calls Try.prog 25 #[pv t o g, .int .i64 n] w fun e w' => e = .returned (.tuple #[pv t (chV t o g n o (-n)) g, .int .i64 (chE t o g n o (-n))]) ∧ Below w.heap.size w w' := by
  by_cases hr : rdy t o g n = 0
  · obtain ⟨a1, a2, a3, a4, a5, a6, a7⟩ := rdy_0 hr
    clear hr a7
    go_enter Try.func25, Try.ntmps25
    go_wp2_with (fail)
    refine (own_ref _ _ _ _ _ _ (fun _ => by omega) (fun _ => by omega)).mono ?_
    rintro e w1 ⟨rfl, hb⟩
    have hc := (bcell hb).1
    have hf := (bcell hb).2
    have hz : w.heap.size + 1 < w1.heap.size := by (have := hb.size; simp at this; omega)
    have m0 := keep hb (w.heap.size + 1) 0 (.int .i64 0) (by simp [go_sem])
    have m1 := keep hb (w.heap.size + 1) 1 (.int .i64 0) (by simp [go_sem])
    have m2 := keep hb (w.heap.size + 1) 2 (.bool false) (by simp [go_sem])
    go_wp2
    have hB : Below w.heap.size w w1 := over hb (by go_grown)
    refine bodyPost_ret (v := .tuple #[pv t (chV t o g n o (-n)) g, .int .i64 (chE t o g n o (-n))]) (by simp [results, Try.results25, go_sem, m0, m1, m2]) rfl ⟨rfl, ?_⟩
    go_grown
  · have e1 : ∀ c, chV t o g n o c = o := fun c => by unfold chV; rw [if_neg hr]
    have e2 : ∀ c, chE t o g n o c = rdy t o g n := fun c => by unfold chE; rw [if_neg hr]
    rw [e1, e2]
    have E1 := Lib.hid e1
    have E2 := Lib.hid e2
    clear e1 e2
    go_enter Try.func25, Try.ntmps25
    go_wp2_with (fail)
    refine (own_ref _ _ _ _ _ _ (fun h => absurd h hr) (fun h => absurd h hr)).mono ?_
    rintro e w1 ⟨rfl, hb⟩
    have hc := (bcell hb).1
    have hf := (bcell hb).2
    have hz : w.heap.size + 1 < w1.heap.size := by (have := hb.size; simp at this; omega)
    have m0 := keep hb (w.heap.size + 1) 0 (.int .i64 0) (by simp [go_sem])
    have m1 := keep hb (w.heap.size + 1) 1 (.int .i64 0) (by simp [go_sem])
    have m2 := keep hb (w.heap.size + 1) 2 (.bool false) (by simp [go_sem])
    rw [E1.out, E2.out]
    go_wp2
    have hB : Below w.heap.size w w1 := over hb (by go_grown)
    refine bodyPost_ret (v := .tuple #[pv t o g, .int .i64 (rdy t o g n)]) (by simp [results, Try.results25, go_sem, m0, m1, m2]) rfl ⟨rfl, ?_⟩
    go_grown
end Go.Proofs.Ytblegaclcpoonab.Agent
