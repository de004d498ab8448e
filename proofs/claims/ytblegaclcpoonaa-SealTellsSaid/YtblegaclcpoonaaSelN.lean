/- The reference's ring: Sign and Valid. -/
import Derived.Test.YtblegaclcpoonaaSelM
namespace Go.Proofs.Ytblegaclcpoonaa.Seal
open Go.ChangeShapes Go.WideShapes Go.ChangeAt Go.RowKit Go.Joins Go.Maps Go.WideMaps Go.Proofs.Ytblegaclcpoonaa.Cell
set_option linter.unusedVariables false
set_option linter.unusedSimpArgs false

theorem Rf.setC {W : World} {g : Nat} {eb : Option Nat} {L : List En} (h : Rf W g eb L) {q : Nat} (h0 : g ≠ q) (h2 : eb ≠ some q) (i : Nat) (u : Value) : Rf (W.setCell ⟨q, i, none⟩ u) g eb L := by
  obtain ⟨A, c, hr, ho, he⟩ := h.x
  exact ⟨⟨A, c, (Below.heap_setCell W ⟨q, i, none⟩ u g h0).trans hr, ownsRow_setCell_other ho (fun c => h2 (he.symm.trans c)) u, he⟩⟩
/-- an answer that holds if the signature's entry stands at its mark -/
def Hol (L : List En) (k : Int) (s : ByteArray) (mk : Int) (b : Bool) : Prop := b = true ↔ ∃ p : Nat, L[p]? = some (k, s) ∧ mk = p
set_option maxRecDepth 100000 in
set_option maxHeartbeats 4000000 in
theorem rsign_bad {W : World} {k : Int} {s : ByteArray} (g : Nat) (hk : isK k = false) :
    Calls Try.prog 46 #[.pointer (some ⟨g, 0, none⟩), .int .i64 k, .string s] W fun e w' => e = .returned (sv 0 ⟨#[]⟩ 0) ∧ Below W.heap.size W w' := by
  by_cases h0 : k < 0
  · go_enter Try.func46, Try.ntmps46
    go_wp2
    exact bodyPost_ret (v := sv 0 ⟨#[]⟩ 0) (by simp [results, Try.results46, go_sem, sv]) rfl ⟨rfl, by go_grown⟩
  · have h1 : (200 : Int) ≤ k := by
      by_cases h : (200 : Int) ≤ k
      · exact h
      · have := isK_yes (k := k) (by omega) (by omega)
        rw [hk] at this; cases this
    go_enter Try.func46, Try.ntmps46
    go_wp2
    exact bodyPost_ret (v := sv 0 ⟨#[]⟩ 0) (by simp [results, Try.results46, go_sem, sv]) rfl ⟨rfl, by go_grown⟩
set_option maxRecDepth 100000 in
set_option maxHeartbeats 4000000 in
theorem rsign_old {W : World} {g : Nat} {eb : Option Nat} {L : List En} {k : Int} {s : ByteArray} (h : Rf W g eb L) (hL : L.length ≤ 1000) (hnd : L.Nodup) (hk : isK k = true) {p : Nat} (hp : L[p]? = some (k, s)) :
    Calls Try.prog 46 #[.pointer (some ⟨g, 0, none⟩), .int .i64 k, .string s] W fun e w' => e = .returned (sv k s p) ∧ Below W.heap.size W w' := by
  obtain ⟨h0, h1⟩ := isK_in hk
  have hb : Below W.heap.size W (W.alloc (.cells #[.int .i64 0, .string ⟨#[]⟩, .int .i64 0] 62)) := Gen.b_alloc (Below.refl _ _)
  have hp0 : (0 : Int) ≤ (p : Int) := by omega
  have HP := Lib.hid hp
  clear hp
  go_enter Try.func46, Try.ntmps46
  go_wp2_with (fail)
  go_must (refine (rfind_any (h.keep hb) (by omega)).mono ?_)
  rintro e w1 ⟨v, rfl, hv, rfl⟩
  obtain rfl : (p : Int) = v := by
    rcases hv with ⟨_, hv⟩ | ⟨q, rfl, hq⟩
    · exact absurd (List.mem_of_getElem? HP.out) hv
    · rw [at_inj hnd HP.out hq]
  clear hv
  go_wp2
  exact bodyPost_ret (v := sv k s p) (by simp [results, Try.results46, go_sem, sv]) rfl ⟨rfl, by go_grown⟩
set_option maxRecDepth 100000 in
set_option maxHeartbeats 8000000 in
theorem rsign_new {W0 W : World} {g : Nat} {eb : Option Nat} {L : List En} {k : Int} {s : ByteArray} (h : Rf W g eb L) (hL : L.length ≤ 1000) (hk : isK k = true) (hx : (k, s) ∉ L) (hB : Below W0.heap.size W0 W) (hg : W0.heap.size ≤ g) :
    Calls Try.prog 46 #[.pointer (some ⟨g, 0, none⟩), .int .i64 k, .string s] W fun e w' => e = .returned (sv k s L.length) ∧ ∃ eb', Rf w' g eb' (L ++ [(k, s)]) ∧ (eb' = eb ∨ ∃ b, eb' = some b ∧ W.heap.size ≤ b) ∧ Below W0.heap.size W0 w' ∧ W.heap.size ≤ w'.heap.size ∧ ∀ q, q < W.heap.size → q ≠ g → eb ≠ some q → w'.heap[q]? = W.heap[q]? := by
  obtain ⟨h0, h1⟩ := isK_in hk
  obtain ⟨i0, hi0, hz0, hz1, hz2⟩ := info_parts' infoE
  have hb : Below W.heap.size W (W.alloc (.cells #[.int .i64 0, .string ⟨#[]⟩, .int .i64 0] 62)) := Gen.b_alloc (Below.refl _ _)
  have hlt := h.lt
  have hub := h.eb_lt (Nat.le_refl W.heap.size)
  have H1 := Lib.hid (h.keep hb)
  obtain ⟨A, c, hr, ho, he⟩ := (h.keep hb).x
  have hrz : Row (W.alloc (.cells #[.int .i64 0, .string ⟨#[]⟩, .int .i64 0] 62)) W.heap.size 62 #[.int .i64 0, .string ⟨#[]⟩, .int .i64 0] := Row.new _ _ _
  have c0 := hr.cell 0
  have L0 : (0 : Int) ≤ (L.length : Int) := by omega
  have L1 : ((L.length : Nat) : Int) ≤ 1000 := by omega
  go_enter Try.func46, Try.ntmps46
  go_wp2_with (fail)
  go_must (refine (rfind_any H1.out (by omega)).mono ?_)
  rintro e w1 ⟨v, rfl, hv, rfl⟩
  obtain rfl : (-1 : Int) = v := by
    rcases hv with ⟨hv, _⟩ | ⟨q, rfl, hq⟩
    · exact hv.symm
    · exact absurd (List.mem_of_getElem? hq) hx
  clear hv
  go_wp2_with (first
    | (at_builtin
       go_must (refine App.wpList_append_any _ rfl (.tmp 30) (.tmp 34) _ rfl (g + 1) 70 i0 _ 2 24 Try.underlying60 hi0 hz0 hz1 hz2 rfl (by omega) (.slice A L.length c) L.length (L.flatMap ecs) rfl (Gen.own_keep ho (Gen.b_alloc (Below.refl _ _))) (W.heap.size + 1 + 1) (some ⟨W.heap.size + 1, 0, none⟩) 1 1 (ecs (k, s)) rfl (Gen.reads_blk (W := W.alloc (.cells #[.int .i64 0, .string ⟨#[]⟩, .int .i64 0] 62)) (by simp) rfl) (by simp [ecs, Value.oneCell']) (by simp only [maxLen]; omega) (by omega) (by simp; omega) ?_
                intro v7 w7 ho7 hg7 ha7
                obtain ⟨A7, c7, hv7, _⟩ := Gen.own_slice ho7
                subst hv7
                have r7 : Row w7 g 95 #[.slice A L.length c] := Gen.g_row ho hg7 (Nat.lt_succ_self _) (hr.alloc _)
                have z7 : Row w7 W.heap.size 62 #[.int .i64 0, .string ⟨#[]⟩, .int .i64 0] := (hg7.block W.heap.size (by simp; omega) (fun e => hub (he.symm.trans e.symm))).trans (hrz.alloc _)
                have f0 := r7.frozen 0
                have d0 := r7.cell 0
                have z0 := z7.cell 0
                have z1 := z7.cell 1
                have z2 := z7.cell 2
                have y0 := z7.frozen 0
                have y1 := z7.frozen 1
                have y2 := z7.frozen 2
                have eL : (L ++ [(k, s)]).length = L.length + 1 := by simp
                have eF : (L ++ [(k, s)]).flatMap ecs = L.flatMap ecs ++ ecs (k, s) := by simp
                have hs7 : W.heap.size + 2 ≤ w7.heap.size := by have := hg7.size; simp at this; omega
                have hB7 : Below W0.heap.size W0 w7 := Gen.g_below ho hg7 (Gen.b_alloc (Gen.b_alloc hB)) (by omega)
                have hEB : (Value.slice A7 (L.length + 1) c7).ownBlock = eb ∨ ∃ b, (Value.slice A7 (L.length + 1) c7).ownBlock = some b ∧ W.heap.size ≤ b := by
                  rcases ha7 with e | e
                  · exact .inl (e.trans he)
                  · exact .inr ⟨_, e, by simp only [World.size_alloc]; omega⟩
                have hn7 : (Value.slice A7 (L.length + 1) c7).ownBlock ≠ some W.heap.size := by
                  rcases ha7 with e | e
                  · rw [e, he]; exact hub
                  · rw [e]; intro c; injection c with c; simp only [World.size_alloc] at c; omega
                have hRF : Rf (w7.setCell ⟨g, 0, none⟩ (.slice A7 (L.length + 1) c7)) g (Value.slice A7 (L.length + 1) c7).ownBlock (L ++ [(k, s)]) :=
                  ⟨⟨A7, c7, by rw [eL]; exact r7.set 0 _, by rw [eL, eF]; exact ownsRow_setCell_below (a := ⟨g, 0, none⟩) ho7 (Nat.lt_succ_self _) _, by rw [eL]⟩⟩
                have hBF := hB7.setCell (p := ⟨g, 0, none⟩) (show W0.heap.size ≤ g by omega) (.slice A7 (L.length + 1) c7)
                have hKP : ∀ q, q < W.heap.size → q ≠ g → eb ≠ some q → (w7.setCell ⟨g, 0, none⟩ (.slice A7 (L.length + 1) c7)).heap[q]? = W.heap[q]? := fun q hq q1 q3 =>
                  (Below.heap_setCell w7 ⟨g, 0, none⟩ _ q (by show q ≠ g; omega)).trans ((hg7.block q (by simp; omega) (fun e => q3 (he.symm.trans e.symm))).trans ((Below.heap_alloc _ _ q (by simp; omega)).trans (Below.heap_alloc W _ q hq)))
                have zF : Row (w7.setCell ⟨g, 0, none⟩ (.slice A7 (L.length + 1) c7)) W.heap.size 62 #[.int .i64 0, .string ⟨#[]⟩, .int .i64 0] := (Below.heap_setCell w7 ⟨g, 0, none⟩ _ W.heap.size (by show W.heap.size ≠ g; omega)).trans z7
                have x0 := zF.cell 0
                have x1 := zF.cell 1
                have x2 := zF.cell 2
                have HRF := Lib.hid (show _ ∧ _ ∧ _ ∧ _ from ⟨hRF, hBF, hKP, hn7⟩)
                have HEB := Lib.hid hEB
                clear hRF hBF hKP hEB ho7 hg7 ha7 hn7))
    | fail)
  have HQ := Lib.hid (show Rf _ g _ (L ++ [(k, s)]) from ((HRF.out.1.setC (q := W.heap.size) (by omega) HRF.out.2.2.2 0 (.int .i64 k)).setC (q := W.heap.size) (by omega) HRF.out.2.2.2 1 (.string s)).setC (q := W.heap.size) (by omega) HRF.out.2.2.2 2 (.int .i64 (L.length : Int)))
  have HB9 := Lib.hid (((HRF.out.2.1.setCell (p := ⟨W.heap.size, 0, none⟩) (show W0.heap.size ≤ W.heap.size from hB.size) (.int .i64 k)).setCell (p := ⟨W.heap.size, 1, none⟩) (show W0.heap.size ≤ W.heap.size from hB.size) (.string s)).setCell (p := ⟨W.heap.size, 2, none⟩) (show W0.heap.size ≤ W.heap.size from hB.size) (.int .i64 (L.length : Int)))
  have HK9 : Hid (∀ q, q < W.heap.size → q ≠ g → eb ≠ some q → ((((w7.setCell ⟨g, 0, none⟩ (.slice A7 (L.length + 1) c7)).setCell ⟨W.heap.size, 0, none⟩ (.int .i64 k)).setCell ⟨W.heap.size, 1, none⟩ (.string s)).setCell ⟨W.heap.size, 2, none⟩ (.int .i64 (L.length : Int))).heap[q]? = W.heap[q]?) := Lib.hid fun q hq a b =>
    ((Below.heap_setCell _ ⟨W.heap.size, 2, none⟩ _ q (by show q ≠ W.heap.size; omega)).trans ((Below.heap_setCell _ ⟨W.heap.size, 1, none⟩ _ q (by show q ≠ W.heap.size; omega)).trans (Below.heap_setCell _ ⟨W.heap.size, 0, none⟩ _ q (by show q ≠ W.heap.size; omega)))).trans (HRF.out.2.2.1 q hq a b)
  have rf := ((zF.set 0 (.int .i64 k)).set 1 (.string s)).set 2 (.int .i64 (L.length : Int))
  have q0 : _ = some (Value.int .i64 k) := rf.cell 0
  have q1 : _ = some (Value.string s) := rf.cell 1
  have q2 : _ = some (Value.int .i64 (L.length : Int)) := rf.cell 2
  clear rf
  go_wp2
  exact bodyPost_ret (v := sv k s L.length) (by simp [results, Try.results46, go_sem, sv, q0, q1, q2]) rfl ⟨rfl, _, HQ.out, HEB.out, HB9.out, by simp; omega, HK9.out⟩
end Go.Proofs.Ytblegaclcpoonaa.Seal
