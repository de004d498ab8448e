/- The contracts of agent.Break. -/
import Derived.Test.YtblegaclcpoonabAgent
import Derived.RegionTactic
import Derived.ChangeAlike
import Derived.BigRegion
namespace Go.Proofs.Ytblegaclcpoonab.Agent
open Go.ChangeShapes Go.WideShapes Go.ChangeAt Go.RowKit

/-- three cells of a block, kept over a step -/
theorem keep3 {W w1 : World} (hb : Below W.heap.size W w1) (b : Nat) (x y z : Value) (h : W.cell? ⟨b, 0, none⟩ = some x ∧ W.cell? ⟨b, 1, none⟩ = some y ∧ W.cell? ⟨b, 2, none⟩ = some z) :
    w1.cell? ⟨b, 0, none⟩ = some x ∧ w1.cell? ⟨b, 1, none⟩ = some y ∧ w1.cell? ⟨b, 2, none⟩ = some z :=
  ⟨keep hb b 0 x h.1, keep hb b 1 y h.2.1, keep hb b 2 z h.2.2⟩

/-- what 'Break' returns -/
def brE (t o : Int) (g : Bool) : Int := if okB t o = true then (if g = true then 7 else 0) else 1
def brT (t o : Int) (g : Bool) : Int := if brE t o g = 0 then 0 else t
def brG (t o : Int) (g : Bool) : Bool := if brE t o g = 0 then true else g
def brN (t o : Int) (g : Bool) : Int := if brE t o g = 0 then t else 0

set_option maxHeartbeats 400000 in
theorem break_any (t o : Int) (g : Bool) (w : World) :
    Calls Try.prog 28 #[pv t o g] w fun e w' => e = .returned (.tuple #[pv (brT t o g) o (brG t o g), .int .i64 (brN t o g), .int .i64 (brE t o g)]) ∧ Below w.heap.size w w' := by
  cases hk : okB t o
  · have e0 : brE t o g = 1 := by unfold brE; rw [if_neg (by simp [hk])]
    have e1 : brT t o g = t := by unfold brT; rw [if_neg (by simp [e0])]
    have e2 : brG t o g = g := by unfold brG; rw [if_neg (by simp [e0])]
    have e3 : brN t o g = 0 := by unfold brN; rw [if_neg (by simp [e0])]
    rw [e0, e1, e2, e3]
    clear e0 e1 e2 e3
    go_enter Try.func28, Try.ntmps28
    go_wp2_with (fail)
    refine (right_any _ _ _ _).mono ?_
    rintro e w1 ⟨rfl, hb⟩
    have hc := (bcell hb).1
    have hf := (bcell hb).2
    have hz : w.heap.size + 1 < w1.heap.size := by (have := hb.size; simp at this; omega)
    have m0 := keep hb (w.heap.size + 1) 0 (.int .i64 0) (by simp [go_sem])
    have m1 := keep hb (w.heap.size + 1) 1 (.int .i64 0) (by simp [go_sem])
    have m2 := keep hb (w.heap.size + 1) 2 (.bool false) (by simp [go_sem])
    go_wp2
    have hB : Below w.heap.size w w1 := over hb (by go_grown)
    refine bodyPost_ret (v := .tuple #[pv t o g, .int .i64 0, .int .i64 1]) (by simp [results, Try.results28, go_sem, m0, m1, m2]) rfl ⟨rfl, ?_⟩
    go_grown
  · cases g
    · have e0 : brE t o false = 0 := by unfold brE; rw [if_pos hk]; rfl
      have e1 : brT t o false = 0 := by unfold brT; rw [if_pos e0]
      have e2 : brG t o false = true := by unfold brG; rw [if_pos e0]
      have e3 : brN t o false = t := by unfold brN; rw [if_pos e0]
      rw [e0, e1, e2, e3]
      clear e0 e1 e2 e3
      go_enter Try.func28, Try.ntmps28
      go_wp2_with (fail)
      refine (right_any _ _ _ _).mono ?_
      rintro e w1 ⟨rfl, hb⟩
      have hc := (bcell hb).1
      have hf := (bcell hb).2
      have hz : w.heap.size + 1 < w1.heap.size := by (have := hb.size; simp at this; omega)
      have k0 := keep hb w.heap.size 0 (.int .i64 t) (by simp [go_sem])
      have k1 := keep hb w.heap.size 1 (.int .i64 o) (by simp [go_sem])
      have k2 := keep hb w.heap.size 2 (.bool false) (by simp [go_sem])
      have m0 := keep hb (w.heap.size + 1) 0 (.int .i64 0) (by simp [go_sem])
      have m1 := keep hb (w.heap.size + 1) 1 (.int .i64 0) (by simp [go_sem])
      have m2 := keep hb (w.heap.size + 1) 2 (.bool false) (by simp [go_sem])
      have hB : Below w.heap.size w w1 := over hb (by go_grown)
      go_wp2
      go_region
      all_goals go_wp2
      all_goals
        refine bodyPost_ret (v := .tuple #[pv 0 o true, .int .i64 t, .int .i64 0]) (by simp [results, Try.results28, go_sem, m0, m1, m2]) rfl ⟨rfl, ?_⟩
        go_grown
    · have e0 : brE t o true = 7 := by unfold brE; rw [if_pos hk]; rfl
      have e1 : brT t o true = t := by unfold brT; rw [if_neg (by simp [e0])]
      have e2 : brG t o true = true := by unfold brG; rw [if_neg (by simp [e0])]
      have e3 : brN t o true = 0 := by unfold brN; rw [if_neg (by simp [e0])]
      rw [e0, e1, e2, e3]
      clear e0 e1 e2 e3
      go_enter Try.func28, Try.ntmps28
      go_wp2_with (fail)
      refine (right_any _ _ _ _).mono ?_
      rintro e w1 ⟨rfl, hb⟩
      have hc := (bcell hb).1
      have hf := (bcell hb).2
      have hz : w.heap.size + 1 < w1.heap.size := by (have := hb.size; simp at this; omega)
      have m0 := keep hb (w.heap.size + 1) 0 (.int .i64 0) (by simp [go_sem])
      have m1 := keep hb (w.heap.size + 1) 1 (.int .i64 0) (by simp [go_sem])
      have m2 := keep hb (w.heap.size + 1) 2 (.bool false) (by simp [go_sem])
      go_wp2
      have hB : Below w.heap.size w w1 := over hb (by go_grown)
      refine bodyPost_ret (v := .tuple #[pv t o true, .int .i64 0, .int .i64 7]) (by simp [results, Try.results28, go_sem, m0, m1, m2]) rfl ⟨rfl, ?_⟩
      go_grown
end Go.Proofs.Ytblegaclcpoonab.Agent
