/- Post: what the laws keep. -/
import Derived.Test.YtefikmfogbdhpaaPoJ
import Derived.Test.YtefikmfogbdhpaaPoM
namespace Go.Proofs.Ytefikmfogbdhpaa.Po
open Go.ChangeShapes Go.WideShapes Go.ChangeAt Go.RowKit Go.Proofs.Ytefikmfogbdhpaa.Cell
set_option linter.unusedVariables false
set_option linter.unusedSimpArgs false
theorem keep_set3 {W : World} {g p j : Nat} {u v0 v1 v2 : Value} (h : W.cell? ⟨p, j, none⟩ = some u) (hp : p < g) : (((W.setCell ⟨g, 0, none⟩ v0).setCell ⟨g, 1, none⟩ v1).setCell ⟨g, 2, none⟩ v2).cell? ⟨p, j, none⟩ = some u := by
  have hne : ∀ i, (⟨g, i, none⟩ : Addr) ≠ ⟨p, j, none⟩ := fun i e => by injection e with e; omega
  rw [World.cell?_setCell_other _ _ _ _ (hne 2), World.cell?_setCell_other _ _ _ _ (hne 1), World.cell?_setCell_other _ _ _ _ (hne 0)]
  exact h
theorem below_set3 {W X : World} {g : Nat} {v0 v1 v2 : Value} (h : Below W.heap.size W X) (hg : W.heap.size ≤ g) : Below W.heap.size W (((X.setCell ⟨g, 0, none⟩ v0).setCell ⟨g, 1, none⟩ v1).setCell ⟨g, 2, none⟩ v2) := Gen.b_set (Gen.b_set (Gen.b_set h hg) hg) hg
theorem below_set3' {w X : World} {g : Nat} {v0 v1 v2 : Value} (hb : Below w.heap.size w X) (hg : w.heap.size ≤ g) : Below w.heap.size w (((X.setCell ⟨g, 0, none⟩ v0).setCell ⟨g, 1, none⟩ v1).setCell ⟨g, 2, none⟩ v2) := Gen.b_set (Gen.b_set (Gen.b_set hb hg) hg) hg
theorem row_set3 {W : World} {g : Nat} {t : TypeId} {a b d v0 v1 v2 : Value} (h : Row W g t #[a, b, d]) : Row (((W.setCell ⟨g, 0, none⟩ v0).setCell ⟨g, 1, none⟩ v1).setCell ⟨g, 2, none⟩ v2) g t #[v0, v1, v2] := ((h.set 0 v0).set 1 v1).set 2 v2
theorem row_set3_ne {W : World} {g p : Nat} {t : TypeId} {cs : Array Value} {v0 v1 v2 : Value} (h : Row W p t cs) (hp : g ≠ p) : Row (((W.setCell ⟨g, 0, none⟩ v0).setCell ⟨g, 1, none⟩ v1).setCell ⟨g, 2, none⟩ v2) p t cs := row_put (row_put (row_put h hp _) hp _) hp _
theorem own_set3 {W : World} {B n size g : Nat} {e : TypeId} {v : Value} {xs : List Value} {v0 v1 v2 : Value} (h : W.ownsRow B e size v n xs) (hp : v.ownBlock ≠ some g) : (((W.setCell ⟨g, 0, none⟩ v0).setCell ⟨g, 1, none⟩ v1).setCell ⟨g, 2, none⟩ v2).ownsRow B e size v n xs := own_put_ne (own_put_ne (own_put_ne h hp _) hp _) hp _
theorem rowd (w : World) (t : TypeId) (cs : Array Value) : Row (w.alloc (.cells cs t)).drew w.heap.size t cs := Row.new w t cs
theorem ens_set3 {W : World} {g : Nat} {v0 v1 v2 : Value} {A : Option Addr} {l : List En} (h : Ens W A l) (hA : ∀ a, A = some a → a.block ≠ g) : Ens (((W.setCell ⟨g, 0, none⟩ v0).setCell ⟨g, 1, none⟩ v1).setCell ⟨g, 2, none⟩ v2) A l :=
  ens_put (p := ⟨g, 2, none⟩) (ens_put (p := ⟨g, 1, none⟩) (ens_put (p := ⟨g, 0, none⟩) h hA v0) hA v1) hA v2
theorem wq_set3 {W : World} {g : Nat} {v0 v1 v2 : Value} {A : Option Addr} {n c q : Nat} {A2 : Option Addr} {n2 c2 : Nat} {S : List En} {H : List Bool} (h : Wq W A n c q A2 n2 c2 S H) (hA : ∀ a, A = some a → a.block ≠ g) (hB : ∀ a, A2 = some a → a.block ≠ g) :
    Wq (((W.setCell ⟨g, 0, none⟩ v0).setCell ⟨g, 1, none⟩ v1).setCell ⟨g, 2, none⟩ v2) A n c q A2 n2 c2 S H :=
  ⟨h.hn, h.hq, h.hn2, ens_set3 h.he hA, ints_put (p := ⟨g, 2, none⟩) (ints_put (p := ⟨g, 1, none⟩) (ints_put (p := ⟨g, 0, none⟩) h.hi hB v0) hB v1) hB v2, h.hl, h.hb, h.hc⟩
theorem ens_grown {X W : World} {A : Option Addr} {l : List En} {r : Option Nat} (h : Ens X A l) (hg : X.grownBy W r) (hne : ∀ a, A = some a → r ≠ some a.block) : Ens W A l := fun h0 => by
  obtain ⟨b, off, e, hc⟩ := h h0
  have key : ∀ o v, X.cell? ⟨b, o, none⟩ = some v → W.cell? ⟨b, o, none⟩ = some v := fun o v hv => hg.cell hv (fun c => hne _ e c.symm)
  exact ⟨b, off, e, fun j x hx => by
    obtain ⟨a0, a1, a2, a3, a4⟩ := hc j x hx
    exact ⟨key _ _ a0, key _ _ a1, key _ _ a2, key _ _ a3, key _ _ a4⟩⟩
theorem ints_grown {X W : World} {A : Option Addr} {l : List Int} {r : Option Nat} (h : Ints X A l) (hg : X.grownBy W r) (hne : ∀ a, A = some a → r ≠ some a.block) : Ints W A l := fun h0 => by
  obtain ⟨b, off, e, hc⟩ := h h0
  exact ⟨b, off, e, fun j z hz => hg.cell (hc j z hz) (fun c => hne _ e c.symm)⟩
theorem Wq.grown {X W : World} {A : Option Addr} {n c q : Nat} {A2 : Option Addr} {n2 c2 : Nat} {S : List En} {H : List Bool} {r : Option Nat} (h : Wq X A n c q A2 n2 c2 S H) (hg : X.grownBy W r) (hA : ∀ a, A = some a → r ≠ some a.block) (hB : ∀ a, A2 = some a → r ≠ some a.block) : Wq W A n c q A2 n2 c2 S H :=
  ⟨h.hn, h.hq, h.hn2, ens_grown h.he hg hA, ints_grown h.hi hg hB, h.hl, h.hb, h.hc⟩
theorem ens_pre {w : World} {A : Option Addr} {l : List En} (h : Ens w A l) (k : Nat) : Ens w A (l.take k) := fun h0 => by
  obtain ⟨b, off, e, hc⟩ := h (by rw [List.length_take] at h0; omega)
  refine ⟨b, off, e, fun j x hx => ?_⟩
  rw [List.getElem?_take] at hx
  split at hx
  · exact hc j x hx
  · cases hx
theorem ens_rest {w : World} {A : Option Addr} {l : List En} (h : Ens w A l) (k : Nat) : Ens w (A.map fun x => x.add (k * 5)) (l.drop k) := fun h0 => by
  obtain ⟨b, off, e, hc⟩ := h (by rw [List.length_drop] at h0; omega)
  subst e
  refine ⟨b, off + k * 5, by simp [Addr.add_lit], fun j x hx => ?_⟩
  rw [List.getElem?_drop] at hx
  have := hc (k + j) x hx
  rwa [show off + (k + j) * 5 = off + k * 5 + j * 5 by omega] at this
theorem dlv_ends {S : List En} {H : List Bool} {p : Nat} (hl : H.length = S.length) (hp : H[p]? = some false) : S.take (nx H) ++ dlv S H p = S.take (nx (H.set p true)) ∧ nx H ≤ nx (H.set p true) ∧ (dlv S H p).length = nx (H.set p true) - nx H := by
  have h1 : nx H ≤ nx (H.set p true) := by
    rcases Nat.lt_or_ge (nx (H.set p true)) (nx H) with h | h
    · exfalso
      have h2 := nx_at (H.set p true)
      have h3 := nx_lo H _ h
      exact h2 ((get_set (lt_of_at hp)).2 (.inr h3))
    · exact h
  have h2 := nx_le (H.set p true)
  rw [List.length_set] at h2
  refine ⟨?_, h1, ?_⟩
  · unfold dlv
    have : (S.take (nx (H.set p true))).take (nx H) = S.take (nx H) := by rw [List.take_take]; congr 1; omega
    rw [← this, List.take_append_drop]
  · unfold dlv
    rw [List.length_drop, List.length_take]
    omega
/-- what PostOnce keeps -/
structure Lo (w wr : World) (g B k : Nat) (A : Option Addr) (n c q : Nat) (A2 : Option Addr) (n2 c2 : Nat) (S : List En) (H : List Bool) (A5 : Option Addr) (c5 : Nat) (A6 : Option Addr) (c6 : Nat) : Prop where
  wq : Wq wr A n c q A2 n2 c2 S H
  r : Row wr g 27 #[.slice A n c, .int .i64 (q : Int), .slice A2 n2 c2]
  o5 : wr.ownsRow B 36 5 (.slice A5 n c5) n (S.flatMap ecs)
  o6 : wr.ownsRow B 36 5 (.slice A6 q c6) q ((S.take q).flatMap ecs)
  ne : ∀ g, (Value.slice A5 n c5).ownBlock = some g → (Value.slice A6 q c6).ownBlock ≠ some g
  nk : n ≤ k
  bl : Below w.heap.size w wr
  gB : g < B
  wg : w.heap.size ≤ g
theorem Lo.keep {w wr W : World} {g B k : Nat} {A : Option Addr} {n c q : Nat} {A2 : Option Addr} {n2 c2 : Nat} {S : List En} {H : List Bool} {A5 : Option Addr} {c5 : Nat} {A6 : Option Addr} {c6 : Nat} (h : Lo w wr g B k A n c q A2 n2 c2 S H A5 c5 A6 c6) (hb : Below wr.heap.size wr W) : Lo w W g B k A n c q A2 n2 c2 S H A5 c5 A6 c6 :=
  ⟨h.wq.keep hb, h.r.keep hb, Gen.own_keep h.o5 hb, Gen.own_keep h.o6 hb, h.ne, h.nk, Gen.over hb h.bl, h.gB, h.wg⟩
theorem Lo.next {w wr : World} {g B k : Nat} {A : Option Addr} {n c q : Nat} {A2 : Option Addr} {n2 c2 : Nat} {S : List En} {H : List Bool} {A5 : Option Addr} {c5 : Nat} {A6 : Option Addr} {c6 : Nat} (h : Lo w wr g B k A n c q A2 n2 c2 S H A5 c5 A6 c6) : Lo w wr g B (k + 1) A n c q A2 n2 c2 S H A5 c5 A6 c6 :=
  ⟨h.wq, h.r, h.o5, h.o6, h.ne, by have := h.nk; omega, h.bl, h.gB, h.wg⟩
theorem Lo.qn {w wr : World} {g B k : Nat} {A : Option Addr} {n c q : Nat} {A2 : Option Addr} {n2 c2 : Nat} {S : List En} {H : List Bool} {A5 : Option Addr} {c5 : Nat} {A6 : Option Addr} {c6 : Nat} (h : Lo w wr g B k A n c q A2 n2 c2 S H A5 c5 A6 c6) : q ≤ n := by
  have := nx_le H
  rw [h.wq.hq, h.wq.hl] at this
  exact this
/-- the entry more that was sent -/
theorem Lo.sent {w wr wx w5 : World} {g B k : Nat} {A : Option Addr} {n c q : Nat} {A2 : Option Addr} {n2 c2 : Nat} {S : List En} {H : List Bool} {A5 : Option Addr} {c5 : Nat} {A6 : Option Addr} {c6 : Nat} {x : En} {A' : Option Addr} {c' q' : Nat} {B' : Option Addr} {n' k' : Nat} {A7 : Option Addr} {c7 : Nat} {o : Obj}
    (h : Lo w wr g B k A n c q A2 n2 c2 S H A5 c5 A6 c6) (hb : Below wr.heap.size wr wx) (hw : Wq wx A' (n + 1) c' q' B' n' k' (S ++ [x]) (H ++ [false])) (ha : ∀ a, A' = some a → wr.heap.size ≤ a.block) (hb' : ∀ a, B' = some a → wr.heap.size ≤ a.block)
    (ho : w5.ownsRow B 36 5 (.slice A7 (n + 1) c7) (n + 1) (S.flatMap ecs ++ ecs x)) (hg : (wx.alloc o).grownBy w5 (Value.slice A5 n c5).ownBlock) (hat : (Value.slice A7 (n + 1) c7).ownBlock = (Value.slice A5 n c5).ownBlock ∨ (Value.slice A7 (n + 1) c7).ownBlock = some (wx.alloc o).heap.size) :
    Lo w (((w5.setCell ⟨g, 0, none⟩ (.slice A' (n + 1) c')).setCell ⟨g, 1, none⟩ (.int .i64 (q' : Int))).setCell ⟨g, 2, none⟩ (.slice B' n' k')) g B (k + 1) A' (n + 1) c' q' B' n' k' (S ++ [x]) (H ++ [false]) A7 c7 A6 c6 := by
  have hgB := h.gB
  have hwg := h.wg
  have hq : q' = q := by rw [← hw.hq, nx_send, h.wq.hq]
  subst hq
  have hgw := h.r.lt
  have hlt5 := fun k hk => (h.o5.lt k hk)
  have hX : Below wr.heap.size wr (wx.alloc o) := Gen.b_alloc hb
  have hrX := h.r.keep hX
  have h6X := Gen.own_keep h.o6 hX
  have hwX := hw.keep (Gen.b_alloc (x := o) (Below.refl _ _))
  have hne5 : ∀ a : Addr, wr.heap.size ≤ a.block → (Value.slice A5 n c5).ownBlock ≠ some a.block := fun a h1 h2 => by have := (hlt5 _ h2).2; omega
  have hg5 : (Value.slice A5 n c5).ownBlock ≠ some g := fun e => by have := (hlt5 _ e).1; omega
  have h65 := h6X.kept hg (ne_of h.ne)
  have hs := hb.size
  refine ⟨wq_set3 (hwX.grown hg (fun a e => hne5 a (ha a e)) (fun a e => hne5 a (hb' a e))) (fun a e => by have := ha a e; omega) (fun a e => by have := hb' a e; omega), row_set3 (row_grown hrX hg hg5), own_set3 (by rw [List.flatMap_append]; simpa using ho) (fun e => by have := (ho.lt _ e).1; omega), ?_, ?_, by have := h.nk; omega, below_set3' (hb := Gen.g_below h.o5 hg (Gen.over hX h.bl) (by omega)) hwg, hgB, hwg⟩
  · rw [List.take_append_of_le_length (by rw [h.wq.hn]; exact h.qn)]
    exact own_set3 h65 (fun e => by have := (h65.lt _ e).1; omega)
  · intro p e1 e2
    rcases hat with hat | hat
    · exact h.ne p (hat.symm.trans e1) e2
    · rw [hat] at e1
      have := (h.o6.lt _ e2).2
      injection e1 with e1
      simp at e1
      omega
/-- what a message brings -/
theorem Lo.got {w wr wx w5 : World} {g B k p : Nat} {A : Option Addr} {n c q : Nat} {A2 : Option Addr} {n2 c2 : Nat} {S : List En} {H : List Bool} {A5 : Option Addr} {c5 : Nat} {A6 : Option Addr} {c6 : Nat} {A' : Option Addr} {c' q' : Nat} {B' : Option Addr} {n' k' : Nat} {A7 : Option Addr} {c7 m : Nat}
    (h : Lo w wr g B k A n c q A2 n2 c2 S H A5 c5 A6 c6) (hp : H[p]? = some false) (hb : Below wr.heap.size wr wx) (hw : Wq wx A' n c' q' B' n' k' S (H.set p true)) (ha : ∀ a, A' = some a → wr.heap.size ≤ a.block) (hb' : ∀ a, B' = some a → wr.heap.size ≤ a.block)
    (ho : w5.ownsRow B 36 5 (.slice A7 (q + m) c7) (q + m) ((S.take q).flatMap ecs ++ (dlv S H p).flatMap ecs)) (hm : (dlv S H p).length = m) (hg : wx.grownBy w5 (Value.slice A6 q c6).ownBlock) (hat : (Value.slice A7 (q + m) c7).ownBlock = (Value.slice A6 q c6).ownBlock ∨ (Value.slice A7 (q + m) c7).ownBlock = some wx.heap.size) :
    q + m = q' ∧ Lo w (((w5.setCell ⟨g, 0, none⟩ (.slice A' n c')).setCell ⟨g, 1, none⟩ (.int .i64 (q' : Int))).setCell ⟨g, 2, none⟩ (.slice B' n' k')) g B k A' n c' q' B' n' k' S (H.set p true) A5 c5 A7 c7 := by
  have hgB := h.gB
  have hwg := h.wg
  obtain ⟨d1, d2, d3⟩ := dlv_ends (S := S) (by rw [h.wq.hl, h.wq.hn]) hp
  rw [h.wq.hq, hw.hq] at d1 d2 d3
  have hq : q + m = q' := by omega
  subst hq
  refine ⟨rfl, ?_⟩
  have hgw := h.r.lt
  have hlt6 := fun k hk => (h.o6.lt k hk)
  have hrX := h.r.keep hb
  have h5X := Gen.own_keep h.o5 hb
  have hne6 : ∀ a : Addr, wr.heap.size ≤ a.block → (Value.slice A6 q c6).ownBlock ≠ some a.block := fun a h1 h2 => by have := (hlt6 _ h2).2; omega
  have hg6 : (Value.slice A6 q c6).ownBlock ≠ some g := fun e => by have := (hlt6 _ e).1; omega
  have h55 := h5X.kept hg (ne_of' h.ne)
  have hs := hb.size
  refine ⟨wq_set3 (hw.grown hg (fun a e => hne6 a (ha a e)) (fun a e => hne6 a (hb' a e))) (fun a e => by have := ha a e; omega) (fun a e => by have := hb' a e; omega), row_set3 (row_grown hrX hg hg6), own_set3 h55 (fun e => by have := (h55.lt _ e).1; omega), own_set3 (by rw [← d1, List.flatMap_append]; exact ho) (fun e => by have := (ho.lt _ e).1; omega), ?_, h.nk, below_set3' (hb := Gen.g_below h.o6 hg (Gen.over hb h.bl) (by omega)) hwg, hgB, hwg⟩
  intro p e1 e2
  rcases hat with hat | hat
  · exact h.ne p e1 (hat.symm.trans e2)
  · rw [hat] at e2
    have := (h.o5.lt _ e1).2
    injection e2 with e2
    omega
end Go.Proofs.Ytefikmfogbdhpaa.Po
