/- Post: what PostAgain keeps. -/
import Derived.Test.YtefikmfogbdhpaaPoQ
namespace Go.Proofs.Ytefikmfogbdhpaa.Po
open Go.ChangeShapes Go.WideShapes Go.ChangeAt Go.RowKit Go.Proofs.Ytefikmfogbdhpaa.Cell
set_option linter.unusedVariables false
set_option linter.unusedSimpArgs false
theorem ints_lt {W : World} {A : Option Addr} {l : List Int} (h : Ints W A l) (h0 : 0 < l.length) : ∀ a, A = some a → a.block < W.heap.size := fun a e => by
  obtain ⟨b, off, e', hc⟩ := h h0
  obtain ⟨z, hz⟩ := at_ l 0 h0
  rw [e'] at e
  injection e with e
  subst e
  exact World.block_lt_of_cell? W ⟨b, off + 0, none⟩ (hc 0 z hz)
theorem ens_lt {W : World} {A : Option Addr} {l : List En} (h : Ens W A l) (h0 : 0 < l.length) : ∀ a, A = some a → a.block < W.heap.size := fun a e => by
  obtain ⟨b, off, e', hc⟩ := h h0
  obtain ⟨z, hz⟩ := at_ l 0 h0
  rw [e'] at e
  injection e with e
  subst e
  exact World.block_lt_of_cell? W ⟨b, off + 0 * 5, none⟩ (hc 0 z hz).c0
theorem ints_set3 {W : World} {g : Nat} {v0 v1 v2 : Value} {A : Option Addr} {l : List Int} (h : Ints W A l) (hA : ∀ a, A = some a → a.block ≠ g) : Ints (((W.setCell ⟨g, 0, none⟩ v0).setCell ⟨g, 1, none⟩ v1).setCell ⟨g, 2, none⟩ v2) A l :=
  ints_put (p := ⟨g, 2, none⟩) (ints_put (p := ⟨g, 1, none⟩) (ints_put (p := ⟨g, 0, none⟩) h hA v0) hA v1) hA v2
/-- while things happen -/
structure Lf (w wr : World) (g k : Nat) (A : Option Addr) (n c q : Nat) (A2 : Option Addr) (n2 c2 : Nat) (S : List En) (H : List Bool) : Prop where
  wq : Wq wr A n c q A2 n2 c2 S H
  r : Row wr g 27 #[.slice A n c, .int .i64 (q : Int), .slice A2 n2 c2]
  nk : n ≤ k
  bl : Below w.heap.size w wr
  wg : w.heap.size ≤ g
section
variable {w wr wx : World} {g k : Nat} {A : Option Addr} {n c q : Nat} {A2 : Option Addr} {n2 c2 : Nat} {S : List En} {H : List Bool} {A' : Option Addr} {c' q' : Nat} {B' : Option Addr} {n' k' : Nat}
theorem Lf.keep (h : Lf w wr g k A n c q A2 n2 c2 S H) (hb : Below wr.heap.size wr wx) : Lf w wx g k A n c q A2 n2 c2 S H := ⟨h.wq.keep hb, h.r.keep hb, h.nk, Gen.over hb h.bl, h.wg⟩
theorem Lf.next (h : Lf w wr g k A n c q A2 n2 c2 S H) : Lf w wr g (k + 1) A n c q A2 n2 c2 S H := ⟨h.wq, h.r, by have := h.nk; omega, h.bl, h.wg⟩
theorem Lf.put {N : Nat} {S' : List En} {H' : List Bool} (h : Lf w wr g k A n c q A2 n2 c2 S H) (hN : N ≤ k + 1) (hb : Below wr.heap.size wr wx) (hw : Wq wx A' N c' q' B' n' k' S' H') (ha : ∀ a, A' = some a → wr.heap.size ≤ a.block) (hb' : ∀ a, B' = some a → wr.heap.size ≤ a.block) :
    Lf w (((wx.setCell ⟨g, 0, none⟩ (.slice A' N c')).setCell ⟨g, 1, none⟩ (.int .i64 (q' : Int))).setCell ⟨g, 2, none⟩ (.slice B' n' k')) g (k + 1) A' N c' q' B' n' k' S' H' := by
  have hg := h.r.lt
  exact ⟨wq_set3 hw (fun a e => by have := ha a e; omega) (fun a e => by have := hb' a e; omega), row_set3 (h.r.keep hb), hN, below_set3' (Gen.over hb h.bl) h.wg, h.wg⟩
end
/-- while they arrive again -/
structure Lg (w wr : World) (g B : Nat) (A : Option Addr) (n c q : Nat) (A2 : Option Addr) (n2 c2 : Nat) (S : List En) (H H0 : List Bool) (t i q0 : Nat) (Ag Af A5 : Option Addr) (gl c5 : Nat) : Prop where
  wq : Wq wr A n c q A2 n2 c2 S H
  r : Row wr g 27 #[.slice A n c, .int .i64 (q : Int), .slice A2 n2 c2]
  o5 : wr.ownsRow B 36 5 (.slice A5 gl c5) gl (((S.take q).drop q0).flatMap ecs)
  gl : q = q0 + gl
  tn : Tn H0 H t i
  ia : Ints wr Ag (ag H0)
  ef : Ens wr Af (S.drop q0)
  aa : 0 < (ag H0).length → ∀ a, Ag = some a → a.block ≠ g ∧ a.block < B
  af : 0 < (S.drop q0).length → ∀ a, Af = some a → a.block ≠ g ∧ a.block < B
  bl : Below w.heap.size w wr
  wg : w.heap.size ≤ g
  gB : g < B
section
variable {w wr wx w5 : World} {g B p : Nat} {A : Option Addr} {n c q : Nat} {A2 : Option Addr} {n2 c2 : Nat} {S : List En} {H H0 : List Bool} {t i q0 : Nat} {Ag Af A5 : Option Addr} {gl c5 : Nat} {A' : Option Addr} {c' q' : Nat} {B' : Option Addr} {n' k' : Nat} {A7 : Option Addr} {c7 m : Nat}
theorem Lg.keep (h : Lg w wr g B A n c q A2 n2 c2 S H H0 t i q0 Ag Af A5 gl c5) (hb : Below wr.heap.size wr wx) : Lg w wx g B A n c q A2 n2 c2 S H H0 t i q0 Ag Af A5 gl c5 :=
  ⟨h.wq.keep hb, h.r.keep hb, Gen.own_keep h.o5 hb, h.gl, h.tn, h.ia.keep hb, h.ef.keep hb, h.aa, h.af, Gen.over hb h.bl, h.wg, h.gB⟩
theorem Lg.got (h : Lg w wr g B A n c q A2 n2 c2 S H H0 t i q0 Ag Af A5 gl c5) (hp : H[p]? = some false) (ht : Tn H0 (H.set p true) t (i + 1)) (hb : Below wr.heap.size wr wx) (hw : Wq wx A' n c' q' B' n' k' S (H.set p true)) (ha : ∀ a, A' = some a → wr.heap.size ≤ a.block) (hb' : ∀ a, B' = some a → wr.heap.size ≤ a.block)
    (ho : w5.ownsRow B 36 5 (.slice A7 (gl + m) c7) (gl + m) (((S.take q).drop q0).flatMap ecs ++ (dlv S H p).flatMap ecs)) (hm : (dlv S H p).length = m) (hg : wx.grownBy w5 (Value.slice A5 gl c5).ownBlock) :
    Lg w (((w5.setCell ⟨g, 0, none⟩ (.slice A' n c')).setCell ⟨g, 1, none⟩ (.int .i64 (q' : Int))).setCell ⟨g, 2, none⟩ (.slice B' n' k')) g B A' n c' q' B' n' k' S (H.set p true) H0 t (i + 1) q0 Ag Af A7 (gl + m) c7 := by
  have hgB := h.gB
  have hwg := h.wg
  have hgl := h.gl
  obtain ⟨d1, d2, d3⟩ := dlv_ends (S := S) (by rw [h.wq.hl, h.wq.hn]) hp
  rw [h.wq.hq, hw.hq] at d1 d2 d3
  have hgw := h.r.lt
  have hlt5 := fun k hk => (h.o5.lt k hk)
  have hne5 : ∀ a : Addr, wr.heap.size ≤ a.block → (Value.slice A5 gl c5).ownBlock ≠ some a.block := fun a h1 h2 => by have := (hlt5 _ h2).2; omega
  have hne6 : ∀ a : Addr, a.block < B → (Value.slice A5 gl c5).ownBlock ≠ some a.block := fun a h1 h2 => by have := (hlt5 _ h2).1; omega
  have hg5 : (Value.slice A5 gl c5).ownBlock ≠ some g := fun e => by have := (hlt5 _ e).1; omega
  have hq' : q ≤ (S.take q).length := by
    have := nx_le H
    rw [List.length_take, h.wq.hn]
    rw [h.wq.hq, h.wq.hl] at this
    omega
  have hls : ((S.take q).drop q0).flatMap ecs ++ (dlv S H p).flatMap ecs = ((S.take q').drop q0).flatMap ecs := by
    rw [← List.flatMap_append, ← d1, List.drop_append_of_le_length (by omega)]
  rw [hls] at ho
  refine ⟨wq_set3 (hw.grown hg (fun a e => hne5 a (ha a e)) (fun a e => hne5 a (hb' a e))) (fun a e => by have := ha a e; omega) (fun a e => by have := hb' a e; omega), row_set3 (row_grown (h.r.keep hb) hg hg5), own_set3 ho (fun e => by have := (ho.lt _ e).1; omega), by omega, ht, ?_, ?_, h.aa, h.af, below_set3' (hb := Gen.g_below h.o5 hg (Gen.over hb h.bl) (by omega)) hwg, hwg, hgB⟩
  · exact fun h0 => ints_set3 (ints_grown (h.ia.keep hb) hg (fun a e => hne6 a (h.aa h0 a e).2)) (fun a e => (h.aa h0 a e).1) h0
  · exact fun h0 => ens_set3 (ens_grown (h.ef.keep hb) hg (fun a e => hne6 a (h.af h0 a e).2)) (fun a e => (h.af h0 a e).1) h0
/-- when all have arrived -/
theorem Lg.stop (h : Lg w wr g B A n c q A2 n2 c2 S H H0 t (ag H0).length q0 Ag Af A5 gl c5) : q = n ∧ ag H = [] ∧ (S.take q).drop q0 = S.drop q0 ∧ n = q0 + gl := by
  obtain ⟨h1, h2⟩ := h.tn.stop
  have h3 := h.wq.hq
  have h4 := h.wq.hl
  have h5 := h.gl
  have hq : q = n := by omega
  refine ⟨hq, h2, ?_, by omega⟩
  rw [hq, ← h.wq.hn, List.take_length]
end
end Go.Proofs.Ytefikmfogbdhpaa.Po
