/- Rings of signatures: an entry is added. -/
import Derived.Test.YtblegaclcpoonabSelC
import Derived.BigRegion
import Derived.Deep.RegionLaw
namespace Go.Proofs.Ytblegaclcpoonab.Seal
open Go.ChangeShapes Go.WideShapes Go.ChangeAt Go.RowKit Go.Joins Go.Maps Go.WideMaps Go.Proofs.Ytblegaclcpoonab.Cell
set_option linter.unusedVariables false
set_option linter.unusedSimpArgs false

theorem infoE : (Try.prog.info? 24).map (fun i => (i.zero, i.size, i.bytes)) = some (some (.agg #[.int .i64 0, .string ByteArray.empty]), 2, 24) := by kernel_rfl
theorem info_parts' {o : Option TypeInfo} {z : Value} {a b : Nat} (h : o.map (fun i => (i.zero, i.size, i.bytes)) = some (some z, a, b)) : ∃ i, o = some i ∧ i.zero = some z ∧ i.size = a ∧ i.bytes = b := by
  cases o with
  | none => cases h
  | some i =>
    simp only [Option.map_some, Option.some.injEq, Prod.mk.injEq] at h
    exact ⟨i, rfl, h.1, h.2.1, h.2.2⟩
set_option maxRecDepth 100000 in
set_option maxHeartbeats 8000000 in
theorem add_any {W0 W : World} {g gm : Nat} {eb : Option Nat} {L : List En} {k : Int} {s : ByteArray} (h : Rg W g gm eb L) (hx : okE (k, s)) (hi : (k, s) ∉ L) (hL : L.length ≤ 1000) (hB : Below W0.heap.size W0 W) (hgm : W0.heap.size ≤ gm) :
    Calls Try.prog 34 #[.pointer (some ⟨g, 0, none⟩), .agg #[.int .i64 k, .string s]] W fun e w' => e = .returned (.tuple #[]) ∧ ∃ eb', Rg w' g gm eb' (L ++ [(k, s)]) ∧ (eb' = eb ∨ ∃ b, eb' = some b ∧ W.heap.size ≤ b) ∧ Below W0.heap.size W0 w' ∧ W.heap.size ≤ w'.heap.size ∧ ∀ q, q < W.heap.size → q ≠ g → q ≠ gm → eb ≠ some q → w'.heap[q]? = W.heap[q]? := by
  obtain ⟨i0, hi0, hz0, hz1, hz2⟩ := info_parts' infoE
  have hb1 : Below W.heap.size W (W.alloc (.cells #[.int .i64 k, .string s] 24)) := Gen.b_alloc (Below.refl _ _)
  have h1 := h.keep hb1
  obtain ⟨A, c, hr0, ho0, heb⟩ := h.x
  have hr := hr0.keep hb1
  have ho := Gen.own_keep ho0 hb1
  have hgp := hr0.lt
  have hmp := h.m.lt
  have hbx : Row (W.alloc (.cells #[.int .i64 k, .string s] 24)) W.heap.size 24 #[.int .i64 k, .string s] := Row.new _ _ _
  obtain ⟨w1, hrun, hm1, hg1⟩ := (h1.m.drew).update keyedE Try.underlying60 (by simp only [maxLen]; omega) (keyE hx) (plainElem_int (a := (L.length : Int)) Try.underlying3 (by simp [Lit.wf, IntKind.min, IntKind.max, IntKind.signed, IntKind.bits]; omega))
  simp only [ev] at hrun
  have c0 := hr.cell 0
  have c1 := hr.cell 1
  go_enter Try.func34, Try.ntmps34
  go_wp2
  go_region
  all_goals
    have hlg := h.lt
    have hgs : g < (W.alloc (.cells #[.int .i64 k, .string s] 24)).heap.size := hr.lt
    have hr1 : Row w1 g 62 #[.slice A L.length c, .map (some gm)] := (hg1.block g hgs (fun e => by injection e with e; omega)).trans hr
    have hx1 : Row w1 W.heap.size 24 #[.int .i64 k, .string s] := (hg1.block W.heap.size (by simp) (fun e => by injection e with e; omega)).trans hbx
    have ho1 : w1.ownsRow (g + 1) 24 2 (.slice A L.length c) L.length (L.flatMap ecs) := World.ownsRow.kept (w := ((W.alloc (.cells #[.int .i64 k, .string s] 24)).drew)) ho hg1 (.inr (fun e => by have := (ho.lt gm e).1; omega))
    have hB1 : Below W0.heap.size W0 w1 := (Gen.b_alloc hB).drew.grown hg1 (Gen.b_alloc (x := .cells #[.int .i64 k, .string s] 24) hB).drew.size (fun q e => by injection e with e; omega)
    have hs1 : W.heap.size + 1 ≤ w1.heap.size := by have := hg1.size; simp at this; omega
    have hgw : g + 1 ≤ w1.heap.size := by have := hr.lt; simp at this; omega
    clear c0 c1 hrun hr hbx h1
    have c0 := hr1.cell 0
    have b0 := hx1.cell 0
    have b1 := hx1.cell 1
    have d0 := (hr1.alloc (.cells #[.int .i64 k, .string s] 24)).cell 0
    have e0 := (hx1.alloc (.cells #[.int .i64 k, .string s] 24)).cell 0
    have e1 := (hx1.alloc (.cells #[.int .i64 k, .string s] 24)).cell 1
    have N1 := Lib.hid (show L.length + 1 ≤ maxLen from by simp only [maxLen]; omega)
    have N2 := Lib.hid (show (L.length + 1) * 24 ≤ 140737488355328 from by omega)
    go_wp2
    go_region_law (refine App.step_append_any _ (by rfl) (.tmp 18) (.tmp 20) 22 (by rfl) (g + 1) 24 i0 _ 2 24 Try.underlying22 hi0 hz0 hz1 hz2 rfl (by omega) (.slice A L.length c) L.length (L.flatMap ecs) (by simp [Act.eval, Act.put]) (Gen.own_keep ho1 (Gen.b_alloc (x := (.cells #[.int .i64 k, .string s] 24)) (Below.refl _ _)).drew) (w1.heap.size + 1) (some ⟨w1.heap.size, 0, none⟩) 1 1 (ecs (k, s)) (by simp [Act.eval, Act.put]) (App.Reads.drew (Gen.reads_blk (W := w1) (cs := #[.int .i64 k, .string s]) rfl rfl)) (by simp [ecs, Value.oneCell']) N1.out N2.out (by simp; omega) ?_; intro v7 w7 hown7 hg7 hat7; have hR7 : Row w7 g 62 #[.slice A L.length c, .map (some gm)] := Gen.g_row ho1 hg7 (Nat.lt_succ_self _) ((hr1.alloc _).keep (Below.refl _ _).drew); have f0 := hR7.cell 0; have f1 := hR7.frozen 0; have hm7 := World.ownsMap.kept (w := (w1.alloc (.cells #[.int .i64 k, .string s] 24)).drew) (hm1.alloc _) hg7 (fun e => by have := (ho1.lt gm e.symm).1; omega); have hB7 : Below W0.heap.size W0 w7 := Gen.g_below ho1 hg7 (Gen.b_alloc hB1).drew (by omega); obtain ⟨A5, c5, rfl, _⟩ := Gen.own_slice hown7)
    all_goals
      have eL : (L ++ [(k, s)]).length = L.length + 1 := by simp
      have eF : (L ++ [(k, s)]).flatMap ecs = L.flatMap ecs ++ ecs (k, s) := by simp
      have hRF : Rg (w7.setCell ⟨g, 0, none⟩ (.slice A5 (L.length + 1) c5)) g gm (Value.slice A5 (L.length + 1) c5).ownBlock (L ++ [(k, s)]) := by
        refine ⟨⟨A5, c5, by rw [eL]; exact hR7.set 0 _, by rw [eL, eF]; exact ownsRow_setCell_below (a := ⟨g, 0, none⟩) hown7 (Nat.lt_succ_self _) _, by rw [eL]⟩, by rw [mD_snoc, eL]; exact hm7.setCell (a := ⟨g, 0, none⟩) (fun e => by have : gm = g := e; omega) _, ?_, ?_, h.lt⟩
        · rw [List.nodup_append]
          exact ⟨h.nd, by simp, fun a ha b hb => by rw [List.mem_singleton.1 hb]; exact fun e => hi (e ▸ ha)⟩
        · intro y hy
          rcases List.mem_append.1 hy with hy | hy
          · exact h.ok y hy
          · rw [List.mem_singleton.1 hy]; exact hx
      have hBF := hB7.setCell (p := ⟨g, 0, none⟩) (show W0.heap.size ≤ g by omega) (.slice A5 (L.length + 1) c5)
      have hEB : (Value.slice A5 (L.length + 1) c5).ownBlock = eb ∨ ∃ b, (Value.slice A5 (L.length + 1) c5).ownBlock = some b ∧ W.heap.size ≤ b := by
        rcases hat7 with e | e
        · exact .inl (e.trans heb)
        · exact .inr ⟨_, e, by simp only [World.size_drew, World.size_alloc]; omega⟩
      have hs7 : W.heap.size ≤ (w7.setCell ⟨g, 0, none⟩ (.slice A5 (L.length + 1) c5)).heap.size := by have := hg7.size; simp at this ⊢; omega
      have hKP : ∀ q, q < W.heap.size → q ≠ g → q ≠ gm → eb ≠ some q → (w7.setCell ⟨g, 0, none⟩ (.slice A5 (L.length + 1) c5)).heap[q]? = W.heap[q]? := fun q hq q1 q2 q3 => by
        have a1 : w1.heap[q]? = W.heap[q]? := (hg1.block q (by simp; omega) (fun e => by injection e with e; omega)).trans (Below.heap_alloc W _ q hq)
        have a2 : w7.heap[q]? = W.heap[q]? := ((hg7.block q (by simp; omega) (fun e => q3 (heb.symm.trans e.symm))).trans (Below.heap_alloc w1 _ q (by omega))).trans a1
        exact (Below.heap_setCell w7 ⟨g, 0, none⟩ _ q (by show q ≠ g; omega)).trans a2
      go_wp2
      exact bodyPost_end (v := .tuple #[]) (by simp [results, Try.results34, go_sem]) rfl ⟨rfl, _, hRF, hEB, hBF, hs7, hKP⟩
end Go.Proofs.Ytblegaclcpoonab.Seal
