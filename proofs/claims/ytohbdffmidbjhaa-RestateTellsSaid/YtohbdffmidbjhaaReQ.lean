/- Restatements: money, add (a sum that is too much stays so), shares. -/
import Derived.Test.YtohbdffmidbjhaaReO
namespace Go.Proofs.Ytohbdffmidbjhaa.Re
open Go.ChangeShapes Go.WideShapes Go.ChangeAt Go.RowKit Go.Maps Go.Proofs.Ytohbdffmidbjhaa.Cell
set_option linter.unusedVariables false
set_option linter.unusedSimpArgs false
def mon (x : Int) : Prop := 0 ≤ x ∧ x ≤ 1000000000000000
instance (x : Int) : Decidable (mon x) := by unfold mon; infer_instance
theorem money_any (x : Int) (w : World) : Calls Try.prog 22 #[.int .i64 x] w fun e w' => e = .returned (.bool (decide (mon x))) ∧ w' = w := by
  by_cases h0 : 0 ≤ x
  · by_cases h1 : x ≤ 1000000000000000
    · rw [decide_eq_true (show mon x from ⟨h0, h1⟩)]
      go_enter Try.func22, Try.ntmps22
      go_wp2
      go_ret
      exact ⟨rfl, rfl⟩
    · rw [decide_eq_false (show ¬ mon x from fun h => h1 h.2)]
      go_enter Try.func22, Try.ntmps22
      go_wp2
      go_ret
      exact ⟨rfl, rfl⟩
  · rw [decide_eq_false (show ¬ mon x from fun h => h0 h.1)]
    go_enter Try.func22, Try.ntmps22
    go_wp2
    go_ret
    exact ⟨rfl, rfl⟩
/-- the sum of a seat, with what is added -/
def sumA (f : Int → Option Int) (s x : Int) : Int := min ((f s).getD 0 + x) 1000000000000001
/-- a map, with what is added -/
def addA (f : Int → Option Int) (s x : Int) : Int → Option Int := fun y => if y = s then some (sumA f s x) else f y
/-- sums that are right: from 0 to one more than all money -/
def okM (f : Int → Option Int) : Prop := ∀ y v, f y = some v → 0 ≤ v ∧ v ≤ 1000000000000001
theorem okM.get {f : Int → Option Int} (h : okM f) (s : Int) : 0 ≤ (f s).getD 0 ∧ (f s).getD 0 ≤ 1000000000000001 := by
  cases e : f s with
  | none => simp
  | some v => simpa using h s v e
theorem okM.sum {f : Int → Option Int} (h : okM f) {s x : Int} (hx : 0 ≤ x) : 0 ≤ sumA f s x ∧ sumA f s x ≤ 1000000000000001 := by
  have := h.get s
  unfold sumA
  omega
theorem okM.add {f : Int → Option Int} (h : okM f) {s x : Int} (hx : 0 ≤ x) : okM (addA f s x) := fun y v hv => by
  unfold addA at hv
  split at hv
  · injection hv with hv
    rw [← hv]
    exact h.sum hx
  · exact h y v hv
set_option maxRecDepth 100000 in
set_option maxHeartbeats 4000000 in
theorem add_any {w : World} {g b n : Nat} {f : Int → Option Int} {full : Bool} (hm : MI w b n f) (hg : Row w g 4 #[.bool full]) (hn : n ≤ 1000000) (hf : okM f) {s x : Int} (hs : wfI s) (h0 : 0 ≤ x) (h1 : x ≤ 1000000000000000) :
    Calls Try.prog 23 #[.map (some b), .int .i64 s, .int .i64 x, .pointer (some ⟨g, 0, none⟩)] w fun e w' => e = .returned (.tuple #[]) ∧ MI w' b (n + 1) (addA f s x) ∧ Row w' g 4 #[.bool (full || decide (1000000000000000 < sumA f s x))] ∧
      (∀ q, q < w.heap.size → q ≠ b → q ≠ g → w'.heap[q]? = w.heap[q]?) ∧ (∀ B, B ≤ b → B ≤ g → Below B w w') ∧ w.heap.size ≤ w'.heap.size := by
  have hvv := hf.get s
  have hl := hm.look hs
  have hgb : g ≠ b := fun e => by
    subst e
    obtain ⟨D, h1, _⟩ := hm
    obtain ⟨es, clock, h2, _⟩ := h1
    have := hg.symm.trans h2
    injection this with this
    cases this
  obtain ⟨v, hv⟩ : ∃ v, (f s).getD 0 = v := ⟨_, rfl⟩
  rw [hv] at hl hvv
  obtain ⟨hv0, hv1⟩ := hvv
  by_cases hle : v + x ≤ 1000000000000001
  · have hS : sumA f s x = v + x := by unfold sumA; rw [hv]; omega
    obtain ⟨w1, hrun, hm1, hg1⟩ := hm.put (x := s) (v := v + x) (by simp only [maxLen]; omega) hs (wf_of (by omega) (by omega))
    have hmin : min (v + x) 1000000000000001 = v + x := by omega
    have hm1 : MI w1 b (n + 1) (addA f s x) := by unfold addA; rw [hS]; exact hm1
    clear hv
    have hrun2 := hm1.look hs
    rw [show (addA f s x s).getD 0 = v + x from by unfold addA; rw [if_pos rfl, hS]; rfl] at hrun2
    have r1 : Row w1 g 4 #[.bool full] := (hg1.block g hg.lt (fun e => by injection e with e; exact hgb e)).trans hg
    have e0 := r1.cell 0
    have e1 := r1.frozen 0
    have hK : ∀ z : Bool, MI (w1.setCell ⟨g, 0, none⟩ (.bool z)) b (n + 1) (addA f s x) ∧ Row (w1.setCell ⟨g, 0, none⟩ (.bool z)) g 4 #[.bool z] ∧
      (∀ q, q < w.heap.size → q ≠ b → q ≠ g → (w1.setCell ⟨g, 0, none⟩ (.bool z)).heap[q]? = w.heap[q]?) ∧ (∀ B, B ≤ b → B ≤ g → Below B w (w1.setCell ⟨g, 0, none⟩ (.bool z))) ∧ w.heap.size ≤ (w1.setCell ⟨g, 0, none⟩ (.bool z)).heap.size := fun z => by
      refine ⟨hm1.at (Below.heap_setCell w1 ⟨g, 0, none⟩ (.bool z) b (fun e => hgb e.symm)), r1.set 0 (.bool z), fun q hq q1 q2 => (Below.heap_setCell w1 ⟨g, 0, none⟩ (.bool z) q q2).trans (hg1.block q hq (fun e => q1 (Option.some.inj e))), fun B h1 h2 => ?_, ?_⟩
      · have hBw : B ≤ w.heap.size := Nat.le_trans h2 (Nat.le_of_lt hg.lt)
        exact Below.setCell (p := ⟨g, 0, none⟩) ((Below.refl B w).grown hg1 hBw (fun q e => by injection e with e; omega)) h2 (.bool z)
      · rw [World.size_setCell]; exact hg1.size
    have HK := Lib.hid hK
    clear hm hg hg1 hm1 hK r1
    cases full
    · by_cases hb : (1000000000000000 : Int) < v + x
      · have hE := Lib.hid (show (false || decide ((1000000000000000 : Int) < sumA f s x)) = true by rw [hS, decide_eq_true hb]; rfl)
        clear hS hf
        go_enter Try.func23, Try.ntmps23
        go_wp2
        exact bodyPost_end (v := .tuple #[]) (by simp [results, Try.results23, go_sem]) rfl ⟨rfl, (HK.out true).1, by first | (rw [hE.out]; exact (HK.out true).2.1) | (have e := hE.out; rw [Bool.false_or] at e; rw [e]; exact (HK.out true).2.1), (HK.out true).2.2⟩
      · have hE := Lib.hid (show (false || decide ((1000000000000000 : Int) < sumA f s x)) = false by rw [hS, decide_eq_false hb]; rfl)
        clear hS hf
        go_enter Try.func23, Try.ntmps23
        go_wp2
        exact bodyPost_end (v := .tuple #[]) (by simp [results, Try.results23, go_sem]) rfl ⟨rfl, (HK.out false).1, by first | (rw [hE.out]; exact (HK.out false).2.1) | (have e := hE.out; rw [Bool.false_or] at e; rw [e]; exact (HK.out false).2.1), (HK.out false).2.2⟩
    · clear hS hf
      go_enter Try.func23, Try.ntmps23
      go_wp2
      exact bodyPost_end (v := .tuple #[]) (by simp [results, Try.results23, go_sem]) rfl ⟨rfl, (HK.out true).1, (HK.out true).2.1, (HK.out true).2.2⟩
  · have hS : sumA f s x = 1000000000000001 := by unfold sumA; rw [hv]; omega
    obtain ⟨w1, hrun, hm1, hg1⟩ := hm.put (x := s) (v := 1000000000000001) (by simp only [maxLen]; omega) hs (wf_of (by omega) (by omega))
    have hmin : min (v + x) 1000000000000001 = 1000000000000001 := by omega
    have hm1 : MI w1 b (n + 1) (addA f s x) := by unfold addA; rw [hS]; exact hm1
    clear hv
    have hrun2 := hm1.look hs
    rw [show (addA f s x s).getD 0 = 1000000000000001 from by unfold addA; rw [if_pos rfl, hS]; rfl] at hrun2
    have r1 : Row w1 g 4 #[.bool full] := (hg1.block g hg.lt (fun e => by injection e with e; exact hgb e)).trans hg
    have e0 := r1.cell 0
    have e1 := r1.frozen 0
    have hK : ∀ z : Bool, MI (w1.setCell ⟨g, 0, none⟩ (.bool z)) b (n + 1) (addA f s x) ∧ Row (w1.setCell ⟨g, 0, none⟩ (.bool z)) g 4 #[.bool z] ∧
      (∀ q, q < w.heap.size → q ≠ b → q ≠ g → (w1.setCell ⟨g, 0, none⟩ (.bool z)).heap[q]? = w.heap[q]?) ∧ (∀ B, B ≤ b → B ≤ g → Below B w (w1.setCell ⟨g, 0, none⟩ (.bool z))) ∧ w.heap.size ≤ (w1.setCell ⟨g, 0, none⟩ (.bool z)).heap.size := fun z => by
      refine ⟨hm1.at (Below.heap_setCell w1 ⟨g, 0, none⟩ (.bool z) b (fun e => hgb e.symm)), r1.set 0 (.bool z), fun q hq q1 q2 => (Below.heap_setCell w1 ⟨g, 0, none⟩ (.bool z) q q2).trans (hg1.block q hq (fun e => q1 (Option.some.inj e))), fun B h1 h2 => ?_, ?_⟩
      · have hBw : B ≤ w.heap.size := Nat.le_trans h2 (Nat.le_of_lt hg.lt)
        exact Below.setCell (p := ⟨g, 0, none⟩) ((Below.refl B w).grown hg1 hBw (fun q e => by injection e with e; omega)) h2 (.bool z)
      · rw [World.size_setCell]; exact hg1.size
    have HK := Lib.hid hK
    clear hm hg hg1 hm1 hK r1
    cases full
    · by_cases hb : (1000000000000000 : Int) < 1000000000000001
      · have hE := Lib.hid (show (false || decide ((1000000000000000 : Int) < sumA f s x)) = true by rw [hS, decide_eq_true hb]; rfl)
        clear hS hf
        go_enter Try.func23, Try.ntmps23
        go_wp2
        exact bodyPost_end (v := .tuple #[]) (by simp [results, Try.results23, go_sem]) rfl ⟨rfl, (HK.out true).1, by first | (rw [hE.out]; exact (HK.out true).2.1) | (have e := hE.out; rw [Bool.false_or] at e; rw [e]; exact (HK.out true).2.1), (HK.out true).2.2⟩
      · exact absurd (show (1000000000000000 : Int) < 1000000000000001 by omega) hb
    · clear hS hf
      go_enter Try.func23, Try.ntmps23
      go_wp2
      exact bodyPost_end (v := .tuple #[]) (by simp [results, Try.results23, go_sem]) rfl ⟨rfl, (HK.out true).1, (HK.out true).2.1, (HK.out true).2.2⟩
end Go.Proofs.Ytohbdffmidbjhaa.Re
