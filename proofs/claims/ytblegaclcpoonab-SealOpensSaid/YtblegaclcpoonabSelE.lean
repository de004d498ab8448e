/- Rings of signatures: the contracts of Sign and New. -/
import Derived.Test.YtblegaclcpoonabSelD
namespace Go.Proofs.Ytblegaclcpoonab.Seal
open Go.ChangeShapes Go.WideShapes Go.ChangeAt Go.RowKit Go.Joins Go.Maps Go.WideMaps Go.Proofs.Ytblegaclcpoonab.Cell
set_option linter.unusedVariables false
set_option linter.unusedSimpArgs false

abbrev sv (k : Int) (s : ByteArray) (m : Int) : Value := .agg #[.int .i64 k, .string s, .int .i64 m]
set_option maxRecDepth 100000 in
set_option maxHeartbeats 4000000 in
theorem new_any (W : World) : Calls Try.prog 9 #[] W fun e w' => e = .returned (.pointer (some ⟨W.heap.size + 1, 0, none⟩)) ∧ Rg w' (W.heap.size + 1) W.heap.size none [] ∧ Below W.heap.size W w' := by
  have hmm := @run_makeMap Try.prog
  go_enter Try.func9, Try.ntmps9
  go_wp2
  go_ret
  refine ⟨by first | rfl | simp, ⟨⟨none, 0, Gen.rowAt _ _ _ (by simp), ⟨rfl, .inl ⟨rfl, rfl⟩⟩, rfl⟩, ?_, List.nodup_nil, fun y hy => by simp at hy, Nat.lt_succ_self _⟩, by go_grown⟩
  exact (World.ownsMap_made W Try.prog 24 (plainElem Try.prog 3)).alloc _
set_option maxRecDepth 100000 in
set_option maxHeartbeats 4000000 in
theorem sign_bad {W : World} {k : Int} {s : ByteArray} (g : Nat) (hk : isK k = false) :
    Calls Try.prog 11 #[.pointer (some ⟨g, 0, none⟩), .int .i64 k, .string s] W fun e w' => e = .returned (sv 0 ⟨#[]⟩ 0) ∧ Below W.heap.size W w' := by
  go_enter Try.func11, Try.ntmps11
  go_wp2_with (fail)
  go_must (refine (isKey_any k _).mono ?_)
  rintro e w1 ⟨rfl, rfl⟩
  rw [hk]
  go_wp2
  exact bodyPost_ret (v := sv 0 ⟨#[]⟩ 0) (by simp [results, Try.results11, go_sem, sv]) rfl ⟨rfl, by go_grown⟩
set_option maxRecDepth 100000 in
set_option maxHeartbeats 8000000 in
theorem sign_old {W : World} {g gm : Nat} {eb : Option Nat} {L : List En} {k : Int} {s : ByteArray} (h : Rg W g gm eb L) (hk : isK k = true) (hx : okE (k, s)) {i : Nat} (hi : L[i]? = some (k, s)) :
    Calls Try.prog 11 #[.pointer (some ⟨g, 0, none⟩), .int .i64 k, .string s] W fun e w' => e = .returned (sv k s i) ∧ Below W.heap.size W w' := by
  have hb : Below W.heap.size W ((W.alloc (.cells #[.int .i64 0, .string ⟨#[]⟩, .int .i64 0] 31)).alloc (.cells #[.int .i64 k, .string s] 24)) := Gen.b_alloc (Gen.b_alloc (Below.refl _ _))
  have h1 := h.keep hb
  obtain ⟨A, c, hr, _⟩ := h1.x
  have c1 := hr.cell 1
  have l0 := (h1.yes hx hi).1
  have l1 := fun (q : Nat) => ((h1.keep (Gen.dN (Below.refl _ _) q)).yes hx hi).1
  have m0 := (h1.yes hx hi).2
  have m1 := fun (q : Nat) => ((h1.keep (Gen.dN (Below.refl _ _) q)).yes hx hi).2
  simp only [ev] at l0 l1 m0 m1
  clear h1 hr
  go_enter Try.func11, Try.ntmps11
  go_wp2_with (fail)
  go_must (refine (isKey_any k _).mono ?_)
  rintro e w1 ⟨rfl, rfl⟩
  rw [hk]
  go_wp2
  go_quiet (fail)
  go_wp2
  go_region
  all_goals
    go_wp2
    exact bodyPost_ret (v := sv k s i) (by simp [results, Try.results11, go_sem, sv]) rfl ⟨rfl, Gen.b_set (Gen.b_set (Gen.b_set (Gen.dN hb _) (Nat.le_refl _)) (Nat.le_refl _)) (Nat.le_refl _)⟩
theorem dN_size (w : World) (k : Nat) : (w.drewN k).heap.size = w.heap.size := rfl
theorem Rg.setC {W : World} {g gm : Nat} {eb : Option Nat} {L : List En} (h : Rg W g gm eb L) {q : Nat} (h0 : g ≠ q) (h1 : gm ≠ q) (h2 : eb ≠ some q) (i : Nat) (u : Value) : Rg (W.setCell ⟨q, i, none⟩ u) g gm eb L := by
  obtain ⟨A, c, hr, ho, he⟩ := h.x
  exact ⟨⟨A, c, (Below.heap_setCell W ⟨q, i, none⟩ u g h0).trans hr, ownsRow_setCell_other ho (fun c => h2 (he.symm.trans c)) u, he⟩, h.m.setCell (a := ⟨q, i, none⟩) h1 u, h.nd, h.ok, h.lt⟩
set_option maxRecDepth 100000 in
set_option maxHeartbeats 8000000 in
theorem sign_new {W0 W : World} {g gm : Nat} {eb : Option Nat} {L : List En} {k : Int} {s : ByteArray} (h : Rg W g gm eb L) (hk : isK k = true) (hx : okE (k, s)) (hi : (k, s) ∉ L) (hL : L.length ≤ 1000) (hB : Below W0.heap.size W0 W) (hgm : W0.heap.size ≤ gm) :
    Calls Try.prog 11 #[.pointer (some ⟨g, 0, none⟩), .int .i64 k, .string s] W fun e w' => e = .returned (sv k s L.length) ∧ ∃ eb', Rg w' g gm eb' (L ++ [(k, s)]) ∧ (eb' = eb ∨ ∃ b, eb' = some b ∧ W.heap.size ≤ b) ∧ Below W0.heap.size W0 w' ∧ W.heap.size ≤ w'.heap.size ∧ ∀ q, q < W.heap.size → q ≠ g → q ≠ gm → eb ≠ some q → w'.heap[q]? = W.heap[q]? := by
  have hb : Below W.heap.size W ((W.alloc (.cells #[.int .i64 0, .string ⟨#[]⟩, .int .i64 0] 31)).alloc (.cells #[.int .i64 k, .string s] 24)) := Gen.b_alloc (Gen.b_alloc (Below.refl _ _))
  have h1 := h.keep hb
  obtain ⟨A, c, hr, _⟩ := h1.x
  obtain ⟨A0, c0, hr0, ho0, he0⟩ := h.x
  have z1 := hr0.lt
  have z2 := h.lt
  have z3 : ∀ q, W.heap.size ≤ q → eb ≠ some q := fun q hq e => by have := (ho0.lt q (he0.trans e)).2; omega
  have r6 : Row ((W.alloc (.cells #[.int .i64 0, .string ⟨#[]⟩, .int .i64 0] 31)).alloc (.cells #[.int .i64 k, .string s] 24)) W.heap.size 31 #[.int .i64 0, .string ⟨#[]⟩, .int .i64 0] := (Row.new _ _ _).alloc _
  have r7 : Row ((W.alloc (.cells #[.int .i64 0, .string ⟨#[]⟩, .int .i64 0] 31)).alloc (.cells #[.int .i64 k, .string s] 24)) (W.heap.size + 1) 24 #[.int .i64 k, .string s] := Gen.rowAt _ _ _ (by simp)
  have c1 := hr.cell 1
  have l0 := h1.no hx hi
  have l1 := fun (q : Nat) => (h1.keep (Gen.dN (Below.refl _ _) q)).no hx hi
  simp only [ev] at l0 l1
  have H1 := Lib.hid h1
  clear h1 hr
  go_enter Try.func11, Try.ntmps11
  go_wp2_with (fail)
  go_must (refine (isKey_any k _).mono ?_)
  rintro e w1 ⟨rfl, rfl⟩
  rw [hk]
  go_wp2
  go_quiet (fail)
  go_wp2_with (fail)
  go_must (refine (add_any (W0 := W0) (H1.out.keep (Gen.dN (Below.refl _ _) _)) hx hi hL (Gen.dN (Gen.b_alloc (Gen.b_alloc hB)) _) hgm).mono ?_)
  rintro e w5 ⟨rfl, eb', hR5, hEB, hB5, hs5, hK5⟩
  have hsz : W.heap.size + 2 ≤ w5.heap.size := by have := hs5; simp only [dN_size, World.size_alloc] at this; omega
  have r6' : Row w5 W.heap.size 31 #[.int .i64 0, .string ⟨#[]⟩, .int .i64 0] := (hK5 W.heap.size (by simp only [dN_size, World.size_alloc]; omega) (by omega) (by omega) (z3 _ (Nat.le_refl _))).trans r6
  have r7' : Row w5 (W.heap.size + 1) 24 #[.int .i64 k, .string s] := (hK5 (W.heap.size + 1) (by simp only [dN_size, World.size_alloc]; omega) (by omega) (by omega) (z3 _ (by omega))).trans r7
  have hi5 : (L ++ [(k, s)])[L.length]? = some (k, s) := by simp
  obtain ⟨A5, c5, hr5, _⟩ := hR5.x
  have d1 := hr5.cell 1
  have m0 := (hR5.yes hx hi5).2
  have m1 := ((hR5.keep (Below.refl _ _).drew).yes hx hi5).2
  simp only [ev] at m0 m1
  have s0 := r7'.cell 0
  have s1 := r7'.cell 1
  have t0 := r6'.cell 0
  have t1 := r6'.cell 1
  have t2 := r6'.cell 2
  have f0 := r6'.frozen 0
  have f1 := r6'.frozen 1
  have f2 := r6'.frozen 2
  have z4 : eb' ≠ some W.heap.size := by
    rcases hEB with e | ⟨b, e, hbb⟩
    · rw [e]; exact z3 _ (Nat.le_refl _)
    · rw [e]; intro c; injection c with c; simp only [dN_size, World.size_alloc] at hbb; omega
  have rf := ((r6'.set 0 (.int .i64 k)).set 1 (.string s)).set 2 (.int .i64 (L.length : Int))
  have q0 : _ = some (Value.int .i64 k) := rf.cell 0
  have q1 : _ = some (Value.string s) := rf.cell 1
  have q2 : _ = some (Value.int .i64 (L.length : Int)) := rf.cell 2
  have hRF := (((hR5.setC (q := W.heap.size) (by omega) (by omega) z4 0 (.int .i64 k)).setC (q := W.heap.size) (by omega) (by omega) z4 1 (.string s)).setC (q := W.heap.size) (by omega) (by omega) z4 2 (.int .i64 (L.length : Int))).keep (Below.refl _ _).drew
  have hEB2 : eb' = eb ∨ ∃ b, eb' = some b ∧ W.heap.size ≤ b := by
    rcases hEB with e | ⟨b, e, hbb⟩
    · exact .inl e
    · exact .inr ⟨b, e, by simp only [dN_size, World.size_alloc] at hbb; omega⟩
  have hBF := (((hB5.setCell (p := ⟨W.heap.size, 0, none⟩) (show W0.heap.size ≤ W.heap.size from hB.size) (.int .i64 k)).setCell (p := ⟨W.heap.size, 1, none⟩) (show W0.heap.size ≤ W.heap.size from hB.size) (.string s)).setCell (p := ⟨W.heap.size, 2, none⟩) (show W0.heap.size ≤ W.heap.size from hB.size) (.int .i64 (L.length : Int))).drew
  have hKF : ∀ q, q < W.heap.size → q ≠ g → q ≠ gm → eb ≠ some q → (((w5.setCell ⟨W.heap.size, 0, none⟩ (.int .i64 k)).setCell ⟨W.heap.size, 1, none⟩ (.string s)).setCell ⟨W.heap.size, 2, none⟩ (.int .i64 (L.length : Int))).drew.heap[q]? = W.heap[q]? := fun q hq a b c => by
    have a1 : w5.heap[q]? = W.heap[q]? := (hK5 q (by simp only [dN_size, World.size_alloc]; omega) a b c).trans (hb.block q hq)
    exact ((Below.heap_setCell _ ⟨W.heap.size, 2, none⟩ _ q (by show q ≠ W.heap.size; omega)).trans ((Below.heap_setCell _ ⟨W.heap.size, 1, none⟩ _ q (by show q ≠ W.heap.size; omega)).trans (Below.heap_setCell _ ⟨W.heap.size, 0, none⟩ _ q (by show q ≠ W.heap.size; omega)))).trans a1
  have hSF : W.heap.size ≤ (((w5.setCell ⟨W.heap.size, 0, none⟩ (.int .i64 k)).setCell ⟨W.heap.size, 1, none⟩ (.string s)).setCell ⟨W.heap.size, 2, none⟩ (.int .i64 (L.length : Int))).drew.heap.size := by simp; omega
  have HF := Lib.hid (show _ ∧ _ ∧ _ ∧ _ ∧ _ from ⟨hRF, hEB2, hBF, hSF, hKF⟩)
  clear hRF hBF hSF hKF hEB2 rf
  clear l0 l1 c1 hR5 hr5
  go_wp2
  go_region
  all_goals
    go_wp2
    exact bodyPost_ret (v := sv k s L.length) (by simp [results, Try.results11, go_sem, sv, q0, q1, q2]) rfl ⟨rfl, eb', HF.out⟩
end Go.Proofs.Ytblegaclcpoonab.Seal
