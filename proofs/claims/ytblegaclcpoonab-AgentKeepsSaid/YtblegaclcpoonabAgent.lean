/- The contracts of package agent: what each function returns, as plain functions on ints; of the memory that was there nothing turns. -/
import Derived.Test.YtblegaclcpoonabRows
import Derived.WalkKit
import Derived.ProofKit
import Derived.OpenShut
import Derived.Outline
import Derived.Handy
import Derived.Lib.Hide
namespace Go.Proofs.Ytblegaclcpoonab.Agent
open Go.ChangeShapes Go.WideShapes Go.ChangeAt Go.RowKit

theorem bcell {W w1 : World} (hb : Below W.heap.size W w1) : (∀ b o, b < W.heap.size → w1.cell? ⟨b, o, none⟩ = W.cell? ⟨b, o, none⟩) ∧ (∀ b o, b < W.heap.size → w1.frozen? ⟨b, o, none⟩ = W.frozen? ⟨b, o, none⟩) :=
  ⟨fun b o h => hb.cell (p := ⟨b, o, none⟩) h, fun b o h => hb.frozen (p := ⟨b, o, none⟩) h⟩

theorem keep {W w1 : World} (hb : Below W.heap.size W w1) (b o : Nat) (v : Value) (h : W.cell? ⟨b, o, none⟩ = some v) : w1.cell? ⟨b, o, none⟩ = some v :=
  (hb.cell (p := ⟨b, o, none⟩) (World.block_lt_of_cell? W ⟨b, o, none⟩ h)).trans h

/-- a step behind a step: of what was there at first nothing has turned -/
theorem over {a W w1 : World} (hb : Below W.heap.size W w1) (hW : Below a.heap.size a W) : Below a.heap.size a w1 := hW.trans (hb.mono hW.size)

/-- a purse as a value -/
abbrev pv (t o : Int) (g : Bool) : Value := .agg #[.int .i64 t, .int .i64 o, .bool g]

theorem ret_bool {a b : Bool} (h : a = b) : Ending.returned (.bool a) = .returned (.bool b) := by rw [h]
theorem ret_int {k : IntKind} {a b : Int} (h : a = b) : Ending.returned (.int k a) = .returned (.int k b) := by rw [h]

def mon (n : Int) : Bool := decide (0 ≤ n ∧ n ≤ 1000000000000000)
theorem mon_yes {n : Int} (h0 : 0 ≤ n) (h1 : n ≤ 1000000000000000) : mon n = true := decide_eq_true ⟨h0, h1⟩
theorem mon_no {n : Int} (h : ¬ (0 ≤ n ∧ n ≤ 1000000000000000)) : mon n = false := decide_eq_false h

set_option maxHeartbeats 400000 in
theorem money_any (n : Int) (w : World) : Calls Try.prog 43 #[.int .i64 n] w fun e w' => e = .returned (.bool (mon n)) ∧ w = w' := by
  by_cases h : 0 ≤ n ∧ n ≤ 1000000000000000
  · rw [mon_yes h.1 h.2]
    obtain ⟨h0, h1⟩ := h
    go_enter Try.func43, Try.ntmps43
    go_wp2
    go_ret
    exact ⟨rfl, rfl⟩
  · rw [mon_no h]
    by_cases h0 : 0 ≤ n
    · have h1 : 1000000000000000 < n := by omega
      clear h
      go_enter Try.func43, Try.ntmps43
      go_wp2
      go_ret
      exact ⟨ret_bool (decide_eq_false (by omega)), rfl⟩
    · have h1 : n < 0 := by omega
      clear h h0
      go_enter Try.func43, Try.ntmps43
      go_wp2
      go_ret
      exact ⟨rfl, rfl⟩

/-- a purse is right -/
def okB (t o : Int) : Bool := decide (0 ≤ t ∧ t ≤ 1000000000000000 ∧ 0 ≤ o ∧ o ≤ 1000000000000000)

theorem okB_eq (t o : Int) : okB t o = (mon t && mon o) := by
  unfold okB mon
  rw [Bool.eq_iff_iff]
  simp
  omega

set_option maxHeartbeats 400000 in
theorem right_any (t o : Int) (g : Bool) (w : World) : Calls Try.prog 30 #[pv t o g] w fun e w' => e = .returned (.bool (okB t o)) ∧ Below w.heap.size w w' := by
  rw [okB_eq]
  cases ht : mon t
  · go_enter Try.func30, Try.ntmps30
    go_wp2_with (go_at_call 43; refine (money_any _ _).mono ?_; rintro e w' ⟨rfl, rfl⟩)
    go_ret
    exact ⟨rfl, by go_grown⟩
  · go_enter Try.func30, Try.ntmps30
    go_wp2_with (go_at_call 43; refine (money_any _ _).mono ?_; rintro e w' ⟨rfl, rfl⟩)
    go_ret
    exact ⟨rfl, by go_grown⟩

/-- what 'ready' returns -/
def rdy (t o : Int) (g : Bool) (n : Int) : Int := if okB t o = true ∧ 1 ≤ n ∧ n ≤ 1000000000000000 then (if g = true then 7 else 0) else 1

set_option maxHeartbeats 400000 in
theorem ready_any (t o : Int) (g : Bool) (n : Int) (w : World) : Calls Try.prog 47 #[pv t o g, .int .i64 n] w fun e w' => e = .returned (.int .i64 (rdy t o g n)) ∧ Below w.heap.size w w' := by
  cases hk : okB t o
  · have hr : rdy t o g n = 1 := by unfold rdy; rw [if_neg (by simp [hk])]
    rw [hr]
    clear hr
    go_enter Try.func47, Try.ntmps47
    go_wp2_with (go_at_call 30; refine (right_any _ _ _ _).mono ?_; rintro e w1 ⟨rfl, hb⟩; have hc := (bcell hb).1; have hf := (bcell hb).2)
    go_ret
    exact ⟨rfl, over (by assumption) (by go_grown)⟩
  · by_cases h1 : 1 ≤ n
    · by_cases h2 : n ≤ 1000000000000000
      · cases g
        · have hr : rdy t o false n = 0 := by unfold rdy; rw [if_pos ⟨hk, h1, h2⟩]; rfl
          rw [hr]
          clear hr
          go_enter Try.func47, Try.ntmps47
          go_wp2_with (go_at_call 30; refine (right_any _ _ _ _).mono ?_; rintro e w1 ⟨rfl, hb⟩; have hc := (bcell hb).1; have hf := (bcell hb).2)
          go_ret
          exact ⟨rfl, over (by assumption) (by go_grown)⟩
        · have hr : rdy t o true n = 7 := by unfold rdy; rw [if_pos ⟨hk, h1, h2⟩]; rfl
          rw [hr]
          clear hr
          go_enter Try.func47, Try.ntmps47
          go_wp2_with (go_at_call 30; refine (right_any _ _ _ _).mono ?_; rintro e w1 ⟨rfl, hb⟩; have hc := (bcell hb).1; have hf := (bcell hb).2)
          go_ret
          exact ⟨rfl, over (by assumption) (by go_grown)⟩
      · have hr : rdy t o g n = 1 := by unfold rdy; rw [if_neg (by omega)]
        rw [hr]
        clear hr
        have h3 : 1000000000000000 < n := by omega
        clear h2
        go_enter Try.func47, Try.ntmps47
        go_wp2_with (go_at_call 30; refine (right_any _ _ _ _).mono ?_; rintro e w1 ⟨rfl, hb⟩; have hc := (bcell hb).1; have hf := (bcell hb).2)
        go_ret
        exact ⟨rfl, over (by assumption) (by go_grown)⟩
    · have hr : rdy t o g n = 1 := by unfold rdy; rw [if_neg (by omega)]
      rw [hr]
      clear hr
      have h3 : n < 1 := by omega
      clear h1
      go_enter Try.func47, Try.ntmps47
      go_wp2_with (go_at_call 30; refine (right_any _ _ _ _).mono ?_; rintro e w1 ⟨rfl, hb⟩; have hc := (bcell hb).1; have hf := (bcell hb).2)
      go_ret
      exact ⟨rfl, over (by assumption) (by go_grown)⟩

/-- the sum of a purse after a change, and the error -/
def addV (s c : Int) : Int := if 1000000000000000 < s + c then s else if s + c < 0 then s else s + c
def addE (s c : Int) : Int := if 1000000000000000 < s + c then 6 else if s + c < 0 then 22 else 0

set_option maxHeartbeats 400000 in
theorem add_any (s c : Int) (w : World) (h0 : 0 ≤ s) (h1 : s ≤ 1000000000000000) (h2 : -1000000000000000 ≤ c) (h3 : c ≤ 1000000000000000) :
    Calls Try.prog 48 #[.int .i64 s, .int .i64 c] w fun e w' => e = .returned (.tuple #[.int .i64 (addV s c), .int .i64 (addE s c)]) ∧ w = w' := by
  by_cases ha : 1000000000000000 < s + c
  · have e1 : addV s c = s := by unfold addV; rw [if_pos ha]
    have e2 : addE s c = 6 := by unfold addE; rw [if_pos ha]
    rw [e1, e2]
    clear e1 e2
    go_enter Try.func48, Try.ntmps48
    go_wp2
    go_ret2
    exact ⟨rfl, rfl⟩
  · have ha' : s + c ≤ 1000000000000000 := by omega
    by_cases hn : s + c < 0
    · have e1 : addV s c = s := by unfold addV; rw [if_neg ha, if_pos hn]
      have e2 : addE s c = 22 := by unfold addE; rw [if_neg ha, if_pos hn]
      rw [e1, e2]
      clear e1 e2 ha
      go_enter Try.func48, Try.ntmps48
      go_wp2
      go_ret2
      exact ⟨rfl, rfl⟩
    · have hn' : 0 ≤ s + c := by omega
      have e1 : addV s c = s + c := by unfold addV; rw [if_neg ha, if_neg hn]
      have e2 : addE s c = 0 := by unfold addE; rw [if_neg ha, if_neg hn]
      rw [e1, e2]
      clear e1 e2 ha hn
      go_enter Try.func48, Try.ntmps48
      go_wp2
      go_ret2
      exact ⟨rfl, rfl⟩

theorem rdy_0 {t o : Int} {g : Bool} {n : Int} (h : rdy t o g n = 0) : 0 ≤ t ∧ t ≤ 1000000000000000 ∧ 0 ≤ o ∧ o ≤ 1000000000000000 ∧ 1 ≤ n ∧ n ≤ 1000000000000000 ∧ g = false := by
  unfold rdy at h
  split at h
  · rename_i hh
    obtain ⟨h1, h2, h3⟩ := hh
    have := of_decide_eq_true h1
    cases g
    · exact ⟨by omega, by omega, by omega, by omega, h2, h3, rfl⟩
    · simp at h
  · simp at h

/-- what 'trust' and 'own' do to one of the sums -/
def chV (t o : Int) (g : Bool) (n s c : Int) : Int := if rdy t o g n = 0 then addV s c else s
def chE (t o : Int) (g : Bool) (n s c : Int) : Int := if rdy t o g n = 0 then addE s c else rdy t o g n

set_option maxHeartbeats 400000 in
theorem trust_any (t o : Int) (g : Bool) (n c : Int) (w : World) (h2 : rdy t o g n = 0 → -1000000000000000 ≤ c) (h3 : rdy t o g n = 0 → c ≤ 1000000000000000) :
    Calls Try.prog 39 #[pv t o g, .int .i64 n, .int .i64 c] w fun e w' => e = .returned (.tuple #[pv (chV t o g n t c) o g, .int .i64 (chE t o g n t c)]) ∧ Below w.heap.size w w' := by
  by_cases hr : rdy t o g n = 0
  · have e1 : chV t o g n t c = addV t c := by unfold chV; rw [if_pos hr]
    have e2 : chE t o g n t c = addE t c := by unfold chE; rw [if_pos hr]
    rw [e1, e2]
    obtain ⟨a1, a2, a3, a4, a5, a6, a7⟩ := rdy_0 hr
    have a8 := h2 hr
    have a9 := h3 hr
    clear e1 e2 h2 h3
    have hq : (rdy t o g n == 0) = true := by rw [hr]; rfl
    have HR := Lib.hid hr
    clear hr a7
    go_enter Try.func39, Try.ntmps39
    go_wp2_with (fail)
    refine (ready_any _ _ _ _ _).mono ?_
    rintro e w1 ⟨rfl, hb⟩
    have hc := (bcell hb).1
    have hf := (bcell hb).2
    have hz : w.heap.size + 1 < w1.heap.size := by (have := hb.size; simp at this; omega)
    have k0 := keep hb w.heap.size 0 (.int .i64 t) (by simp [go_sem])
    have m0 := keep hb (w.heap.size + 1) 0 (.int .i64 0) (by simp [go_sem])
    have m1 := keep hb (w.heap.size + 1) 1 (.int .i64 0) (by simp [go_sem])
    have m2 := keep hb (w.heap.size + 1) 2 (.bool false) (by simp [go_sem])
    go_wp2_with (go_at_call 48; refine (add_any _ _ _ (by omega) (by omega) (by omega) (by omega)).mono ?_; rintro e w' ⟨rfl, rfl⟩)
    have hB : Below w.heap.size w w1 := over hb (by go_grown)
    refine bodyPost_ret (v := .tuple #[pv (addV t c) o g, .int .i64 (addE t c)]) (by simp [results, Try.results39, go_sem, m0, m1, m2]) rfl ⟨rfl, ?_⟩
    go_grown
  · have e1 : chV t o g n t c = t := by unfold chV; rw [if_neg hr]
    have e2 : chE t o g n t c = rdy t o g n := by unfold chE; rw [if_neg hr]
    rw [e1, e2]
    have hq : (rdy t o g n == 0) = false := by simp [hr]
    clear e1 e2 h2 h3 hr
    go_enter Try.func39, Try.ntmps39
    go_wp2_with (fail)
    refine (ready_any _ _ _ _ _).mono ?_
    rintro e w1 ⟨rfl, hb⟩
    have hc := (bcell hb).1
    have hf := (bcell hb).2
    have hz : w.heap.size + 1 < w1.heap.size := by (have := hb.size; simp at this; omega)
    have k0 := keep hb w.heap.size 0 (.int .i64 t) (by simp [go_sem])
    have m0 := keep hb (w.heap.size + 1) 0 (.int .i64 0) (by simp [go_sem])
    have m1 := keep hb (w.heap.size + 1) 1 (.int .i64 0) (by simp [go_sem])
    have m2 := keep hb (w.heap.size + 1) 2 (.bool false) (by simp [go_sem])
    go_wp2
    have hB : Below w.heap.size w w1 := over hb (by go_grown)
    refine bodyPost_ret (v := .tuple #[pv t o g, .int .i64 (rdy t o g n)]) (by simp [results, Try.results39, go_sem, m0, m1, m2]) rfl ⟨rfl, ?_⟩
    go_grown

set_option maxHeartbeats 400000 in
theorem own_any (t o : Int) (g : Bool) (n c : Int) (w : World) (h2 : rdy t o g n = 0 → -1000000000000000 ≤ c) (h3 : rdy t o g n = 0 → c ≤ 1000000000000000) :
    Calls Try.prog 41 #[pv t o g, .int .i64 n, .int .i64 c] w fun e w' => e = .returned (.tuple #[pv t (chV t o g n o c) g, .int .i64 (chE t o g n o c)]) ∧ Below w.heap.size w w' := by
  by_cases hr : rdy t o g n = 0
  · have e1 : chV t o g n o c = addV o c := by unfold chV; rw [if_pos hr]
    have e2 : chE t o g n o c = addE o c := by unfold chE; rw [if_pos hr]
    rw [e1, e2]
    obtain ⟨a1, a2, a3, a4, a5, a6, a7⟩ := rdy_0 hr
    have a8 := h2 hr
    have a9 := h3 hr
    clear e1 e2 h2 h3
    have hq : (rdy t o g n == 0) = true := by rw [hr]; rfl
    have HR := Lib.hid hr
    clear hr a7
    go_enter Try.func41, Try.ntmps41
    go_wp2_with (fail)
    refine (ready_any _ _ _ _ _).mono ?_
    rintro e w1 ⟨rfl, hb⟩
    have hc := (bcell hb).1
    have hf := (bcell hb).2
    have hz : w.heap.size + 1 < w1.heap.size := by (have := hb.size; simp at this; omega)
    have k0 := keep hb w.heap.size 1 (.int .i64 o) (by simp [go_sem])
    have m0 := keep hb (w.heap.size + 1) 0 (.int .i64 0) (by simp [go_sem])
    have m1 := keep hb (w.heap.size + 1) 1 (.int .i64 0) (by simp [go_sem])
    have m2 := keep hb (w.heap.size + 1) 2 (.bool false) (by simp [go_sem])
    go_wp2_with (go_at_call 48; refine (add_any _ _ _ (by omega) (by omega) (by omega) (by omega)).mono ?_; rintro e w' ⟨rfl, rfl⟩)
    have hB : Below w.heap.size w w1 := over hb (by go_grown)
    refine bodyPost_ret (v := .tuple #[pv t (addV o c) g, .int .i64 (addE o c)]) (by simp [results, Try.results41, go_sem, m0, m1, m2]) rfl ⟨rfl, ?_⟩
    go_grown
  · have e1 : chV t o g n o c = o := by unfold chV; rw [if_neg hr]
    have e2 : chE t o g n o c = rdy t o g n := by unfold chE; rw [if_neg hr]
    rw [e1, e2]
    have hq : (rdy t o g n == 0) = false := by simp [hr]
    clear e1 e2 h2 h3 hr
    go_enter Try.func41, Try.ntmps41
    go_wp2_with (fail)
    refine (ready_any _ _ _ _ _).mono ?_
    rintro e w1 ⟨rfl, hb⟩
    have hc := (bcell hb).1
    have hf := (bcell hb).2
    have hz : w.heap.size + 1 < w1.heap.size := by (have := hb.size; simp at this; omega)
    have k0 := keep hb w.heap.size 1 (.int .i64 o) (by simp [go_sem])
    have m0 := keep hb (w.heap.size + 1) 0 (.int .i64 0) (by simp [go_sem])
    have m1 := keep hb (w.heap.size + 1) 1 (.int .i64 0) (by simp [go_sem])
    have m2 := keep hb (w.heap.size + 1) 2 (.bool false) (by simp [go_sem])
    go_wp2
    have hB : Below w.heap.size w w1 := over hb (by go_grown)
    refine bodyPost_ret (v := .tuple #[pv t o g, .int .i64 (rdy t o g n)]) (by simp [results, Try.results41, go_sem, m0, m1, m2]) rfl ⟨rfl, ?_⟩
    go_grown

set_option maxHeartbeats 400000 in
theorem take_any (t o : Int) (g : Bool) (n : Int) (w : World) :
    Calls Try.prog 18 #[pv t o g, .int .i64 n] w fun e w' => e = .returned (.tuple #[pv (chV t o g n t n) o g, .int .i64 (chE t o g n t n)]) ∧ Below w.heap.size w w' := by
  go_enter Try.func18, Try.ntmps18
  go_wp2_with (fail)
  refine (trust_any _ _ _ _ _ _ (fun h => by have := rdy_0 h; omega) (fun h => by have := rdy_0 h; omega)).mono ?_
  rintro e w1 ⟨rfl, hb⟩
  have hc := (bcell hb).1
  have hf := (bcell hb).2
  have hz : w.heap.size + 1 < w1.heap.size := by (have := hb.size; simp at this; omega)
  have m0 := keep hb (w.heap.size + 1) 0 (.int .i64 0) (by simp [go_sem])
  have m1 := keep hb (w.heap.size + 1) 1 (.int .i64 0) (by simp [go_sem])
  have m2 := keep hb (w.heap.size + 1) 2 (.bool false) (by simp [go_sem])
  go_wp2
  have hB : Below w.heap.size w w1 := over hb (by go_grown)
  refine bodyPost_ret (v := .tuple #[pv (chV t o g n t n) o g, .int .i64 (chE t o g n t n)]) (by simp [results, Try.results18, go_sem, m0, m1, m2]) rfl ⟨rfl, ?_⟩
  go_grown

set_option maxHeartbeats 400000 in
theorem pay_any (t o : Int) (g : Bool) (n : Int) (w : World) :
    Calls Try.prog 20 #[pv t o g, .int .i64 n] w fun e w' => e = .returned (.tuple #[pv (chV t o g n t (-n)) o g, .int .i64 (chE t o g n t (-n))]) ∧ Below w.heap.size w w' := by
  by_cases hr : rdy t o g n = 0
  · obtain ⟨a1, a2, a3, a4, a5, a6, a7⟩ := rdy_0 hr
    clear hr a7
    go_enter Try.func20, Try.ntmps20
    go_wp2_with (fail)
    refine (trust_any _ _ _ _ _ _ (fun _ => by omega) (fun _ => by omega)).mono ?_
    rintro e w1 ⟨rfl, hb⟩
    have hc := (bcell hb).1
    have hf := (bcell hb).2
    have hz : w.heap.size + 1 < w1.heap.size := by (have := hb.size; simp at this; omega)
    have m0 := keep hb (w.heap.size + 1) 0 (.int .i64 0) (by simp [go_sem])
    have m1 := keep hb (w.heap.size + 1) 1 (.int .i64 0) (by simp [go_sem])
    have m2 := keep hb (w.heap.size + 1) 2 (.bool false) (by simp [go_sem])
    go_wp2
    have hB : Below w.heap.size w w1 := over hb (by go_grown)
    refine bodyPost_ret (v := .tuple #[pv (chV t o g n t (-n)) o g, .int .i64 (chE t o g n t (-n))]) (by simp [results, Try.results20, go_sem, m0, m1, m2]) rfl ⟨rfl, ?_⟩
    go_grown
  · have e1 : ∀ c, chV t o g n t c = t := fun c => by unfold chV; rw [if_neg hr]
    have e2 : ∀ c, chE t o g n t c = rdy t o g n := fun c => by unfold chE; rw [if_neg hr]
    rw [e1, e2]
    have E1 := Lib.hid e1
    have E2 := Lib.hid e2
    clear e1 e2
    go_enter Try.func20, Try.ntmps20
    go_wp2_with (fail)
    refine (trust_any _ _ _ _ _ _ (fun h => absurd h hr) (fun h => absurd h hr)).mono ?_
    rintro e w1 ⟨rfl, hb⟩
    have hc := (bcell hb).1
    have hf := (bcell hb).2
    have hz : w.heap.size + 1 < w1.heap.size := by (have := hb.size; simp at this; omega)
    have m0 := keep hb (w.heap.size + 1) 0 (.int .i64 0) (by simp [go_sem])
    have m1 := keep hb (w.heap.size + 1) 1 (.int .i64 0) (by simp [go_sem])
    have m2 := keep hb (w.heap.size + 1) 2 (.bool false) (by simp [go_sem])
    rw [E1.out, E2.out]
    go_wp2
    have hB : Below w.heap.size w w1 := over hb (by go_grown)
    refine bodyPost_ret (v := .tuple #[pv t o g, .int .i64 (rdy t o g n)]) (by simp [results, Try.results20, go_sem, m0, m1, m2]) rfl ⟨rfl, ?_⟩
    go_grown

set_option maxHeartbeats 400000 in
theorem earn_any (t o : Int) (g : Bool) (n : Int) (w : World) :
    Calls Try.prog 22 #[pv t o g, .int .i64 n] w fun e w' => e = .returned (.tuple #[pv t (chV t o g n o n) g, .int .i64 (chE t o g n o n)]) ∧ Below w.heap.size w w' := by
  go_enter Try.func22, Try.ntmps22
  go_wp2_with (fail)
  refine (own_any _ _ _ _ _ _ (fun h => by have := rdy_0 h; omega) (fun h => by have := rdy_0 h; omega)).mono ?_
  rintro e w1 ⟨rfl, hb⟩
  have hc := (bcell hb).1
  have hf := (bcell hb).2
  have hz : w.heap.size + 1 < w1.heap.size := by (have := hb.size; simp at this; omega)
  have m0 := keep hb (w.heap.size + 1) 0 (.int .i64 0) (by simp [go_sem])
  have m1 := keep hb (w.heap.size + 1) 1 (.int .i64 0) (by simp [go_sem])
  have m2 := keep hb (w.heap.size + 1) 2 (.bool false) (by simp [go_sem])
  go_wp2
  have hB : Below w.heap.size w w1 := over hb (by go_grown)
  refine bodyPost_ret (v := .tuple #[pv t (chV t o g n o n) g, .int .i64 (chE t o g n o n)]) (by simp [results, Try.results22, go_sem, m0, m1, m2]) rfl ⟨rfl, ?_⟩
  go_grown

set_option maxHeartbeats 400000 in
theorem spend_any (t o : Int) (g : Bool) (n : Int) (w : World) :
    Calls Try.prog 24 #[pv t o g, .int .i64 n] w fun e w' => e = .returned (.tuple #[pv t (chV t o g n o (-n)) g, .int .i64 (chE t o g n o (-n))]) ∧ Below w.heap.size w w' := by
  by_cases hr : rdy t o g n = 0
  · obtain ⟨a1, a2, a3, a4, a5, a6, a7⟩ := rdy_0 hr
    clear hr a7
    go_enter Try.func24, Try.ntmps24
    go_wp2_with (fail)
    refine (own_any _ _ _ _ _ _ (fun _ => by omega) (fun _ => by omega)).mono ?_
    rintro e w1 ⟨rfl, hb⟩
    have hc := (bcell hb).1
    have hf := (bcell hb).2
    have hz : w.heap.size + 1 < w1.heap.size := by (have := hb.size; simp at this; omega)
    have m0 := keep hb (w.heap.size + 1) 0 (.int .i64 0) (by simp [go_sem])
    have m1 := keep hb (w.heap.size + 1) 1 (.int .i64 0) (by simp [go_sem])
    have m2 := keep hb (w.heap.size + 1) 2 (.bool false) (by simp [go_sem])
    go_wp2
    have hB : Below w.heap.size w w1 := over hb (by go_grown)
    refine bodyPost_ret (v := .tuple #[pv t (chV t o g n o (-n)) g, .int .i64 (chE t o g n o (-n))]) (by simp [results, Try.results24, go_sem, m0, m1, m2]) rfl ⟨rfl, ?_⟩
    go_grown
  · have e1 : ∀ c, chV t o g n o c = o := fun c => by unfold chV; rw [if_neg hr]
    have e2 : ∀ c, chE t o g n o c = rdy t o g n := fun c => by unfold chE; rw [if_neg hr]
    rw [e1, e2]
    have E1 := Lib.hid e1
    have E2 := Lib.hid e2
    clear e1 e2
    go_enter Try.func24, Try.ntmps24
    go_wp2_with (fail)
    refine (own_any _ _ _ _ _ _ (fun h => absurd h hr) (fun h => absurd h hr)).mono ?_
    rintro e w1 ⟨rfl, hb⟩
    have hc := (bcell hb).1
    have hf := (bcell hb).2
    have hz : w.heap.size + 1 < w1.heap.size := by (have := hb.size; simp at this; omega)
    have m0 := keep hb (w.heap.size + 1) 0 (.int .i64 0) (by simp [go_sem])
    have m1 := keep hb (w.heap.size + 1) 1 (.int .i64 0) (by simp [go_sem])
    have m2 := keep hb (w.heap.size + 1) 2 (.bool false) (by simp [go_sem])
    rw [E1.out, E2.out]
    go_wp2
    have hB : Below w.heap.size w w1 := over hb (by go_grown)
    refine bodyPost_ret (v := .tuple #[pv t o g, .int .i64 (rdy t o g n)]) (by simp [results, Try.results24, go_sem, m0, m1, m2]) rfl ⟨rfl, ?_⟩
    go_grown
end Go.Proofs.Ytblegaclcpoonab.Agent
