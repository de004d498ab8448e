/- Post: what PostLater keeps. -/
import Derived.Test.YtefikmfogbdhpaaPoR
namespace Go.Proofs.Ytefikmfogbdhpaa.Po
open Go.ChangeShapes Go.WideShapes Go.ChangeAt Go.RowKit Go.Proofs.Ytefikmfogbdhpaa.Cell
set_option linter.unusedVariables false
set_option linter.unusedSimpArgs false
def fa (m : Nat) : List Bool := List.replicate m false
theorem fa_len (m : Nat) : (fa m).length = m := by simp [fa]
theorem nx_more (H : List Bool) : ∀ m, nx (H ++ fa m) = nx H
  | 0 => by simp [fa]
  | m + 1 => by
    have : H ++ fa (m + 1) = (H ++ fa m) ++ [false] := by simp [fa, List.replicate_succ']
    rw [this, nx_send, nx_more H m]
theorem ea_more (H : List Bool) : ∀ m, ea (H ++ fa m) = ea H
  | 0 => by simp [fa]
  | m + 1 => by
    have : H ++ fa (m + 1) = (H ++ fa m) ++ [false] := by simp [fa, List.replicate_succ']
    rw [this, ea_send, ea_more H m]
theorem set_more {H : List Bool} {p : Nat} (hp : p < H.length) (m : Nat) : (H ++ fa m).set p true = H.set p true ++ fa m := List.set_append_left _ _ hp
theorem at_more {H : List Bool} {p : Nat} {b : Bool} (h : H[p]? = some b) (m : Nat) : (H ++ fa m)[p]? = some b := by
  rw [List.getElem?_append_left (lt_of_at h)]
  exact h
theorem dlv_more {S M : List En} {H : List Bool} {p : Nat} (hl : H.length = S.length) (hp : p < H.length) (m : Nat) : dlv (S ++ M) (H ++ fa m) p = dlv S H p := by
  unfold dlv
  rw [set_more hp, nx_more, nx_more, List.take_append_of_le_length]
  have := nx_le (H.set p true)
  rw [List.length_set] at this
  omega
theorem nx_fa (n : Nat) : nx (fa n) = 0 := by have := nx_more [] n; simpa [nx] using this
theorem ea_fa (n : Nat) : ea (fa n) = [] := by have := ea_more [] n; simpa [ea, ms] using this
theorem Wq.start {W : World} {A : Option Addr} {n c : Nat} {S : List En} (hn : S.length = n) (he : Ens W A S) (hb : n ≤ 10000) (hc : n ≤ c) : Wq W A n c 0 none 0 0 S (fa n) :=
  ⟨hn, nx_fa n, by rw [ea_fa]; rfl, he, by rw [ea_fa]; exact fun h => by simp at h, fa_len n, hb, hc⟩
theorem own_made {w : World} (t : TypeId) (size : Nat) : (w.alloc (.cells #[] t)).ownsRow w.heap.size t size (.slice (some ⟨w.heap.size, 0, none⟩) 0 0) 0 [] :=
  ⟨by simp, .inr ⟨w.heap.size, 0, #[], rfl, Nat.le_refl _, Row.new _ _ _, Nat.le_refl _, Nat.zero_le _, by simp, by simp⟩⟩
/-- the two ways -/
structure Ll (w wr : World) (g1 g2 : Nat) (A : Option Addr) (n c q : Nat) (A2 : Option Addr) (n2 c2 : Nat) (B : Option Addr) (mm cb : Nat) (B2 : Option Addr) (d2 : Nat) (S M : List En) (H : List Bool) : Prop where
  wa : Wq wr A n c q A2 n2 c2 S H
  wb : Wq wr B (n + mm) cb q B2 n2 d2 (S ++ M) (H ++ fa mm)
  ra : Row wr g1 27 #[.slice A n c, .int .i64 (q : Int), .slice A2 n2 c2]
  rb : Row wr g2 27 #[.slice B (n + mm) cb, .int .i64 (q : Int), .slice B2 n2 d2]
  ne : g1 < g2
  bl : Below w.heap.size w wr
  wg : w.heap.size ≤ g1
section
variable {w wr wx wy : World} {g1 g2 : Nat} {A : Option Addr} {n c q : Nat} {A2 : Option Addr} {n2 c2 : Nat} {B : Option Addr} {mm cb : Nat} {B2 : Option Addr} {d2 : Nat} {S M : List En} {H : List Bool} {p : Nat} {A' : Option Addr} {c' q' : Nat} {A2' : Option Addr} {n2' c2' : Nat} {B' : Option Addr} {cb' r' : Nat} {B2' : Option Addr} {n3' d2' : Nat}
theorem Ll.keep (h : Ll w wr g1 g2 A n c q A2 n2 c2 B mm cb B2 d2 S M H) (hb : Below wr.heap.size wr wx) : Ll w wx g1 g2 A n c q A2 n2 c2 B mm cb B2 d2 S M H :=
  ⟨h.wa.keep hb, h.wb.keep hb, h.ra.keep hb, h.rb.keep hb, h.ne, Gen.over hb h.bl, h.wg⟩
theorem Ll.put (h : Ll w wr g1 g2 A n c q A2 n2 c2 B mm cb B2 d2 S M H) (hp : p < n) (hb : Below wr.heap.size wr wx) (ha : Wq wx A' n c' q' A2' n2' c2' S (H.set p true)) (h1 : ∀ a, A' = some a → wr.heap.size ≤ a.block) (h2 : ∀ a, A2' = some a → wr.heap.size ≤ a.block)
    (hbq : Wq wx B' (n + mm) cb' r' B2' n3' d2' (S ++ M) ((H ++ fa mm).set p true)) (h3 : ∀ a, B' = some a → wr.heap.size ≤ a.block) (h4 : ∀ a, B2' = some a → wr.heap.size ≤ a.block) :
    r' = q' ∧ n3' = n2' ∧ Ll w ((((((wx.setCell ⟨g1, 0, none⟩ (.slice A' n c')).setCell ⟨g1, 1, none⟩ (.int .i64 (q' : Int))).setCell ⟨g1, 2, none⟩ (.slice A2' n2' c2')).setCell ⟨g2, 0, none⟩ (.slice B' (n + mm) cb')).setCell ⟨g2, 1, none⟩ (.int .i64 (r' : Int))).setCell ⟨g2, 2, none⟩ (.slice B2' n3' d2')) g1 g2 A' n c' q' A2' n2' c2' B' mm cb' B2' d2' S M (H.set p true) := by
  have hg1 := h.ra.lt
  have hg2 := h.rb.lt
  have hne := h.ne
  have hwg := h.wg
  have hs := set_more (H := H) (p := p) (by rw [h.wa.hl]; exact hp) mm
  rw [hs] at hbq
  have hq : r' = q' := by rw [← ha.hq, ← hbq.hq, nx_more]
  have hn : n3' = n2' := by rw [← ha.hn2, ← hbq.hn2, ea_more]
  subst hq hn
  refine ⟨rfl, rfl, wq_set3 (wq_set3 ha (fun a e => by have := h1 a e; omega) (fun a e => by have := h2 a e; omega)) (fun a e => by have := h1 a e; omega) (fun a e => by have := h2 a e; omega),
    wq_set3 (wq_set3 hbq (fun a e => by have := h3 a e; omega) (fun a e => by have := h4 a e; omega)) (fun a e => by have := h3 a e; omega) (fun a e => by have := h4 a e; omega),
    row_set3_ne (row_set3 (h.ra.keep hb)) (by omega), row_set3 (row_set3_ne (h.rb.keep hb) (by omega)), hne, below_set3' (below_set3' (Gen.over hb h.bl) hwg) (by omega), hwg⟩
theorem Ll.qn (h : Ll w wr g1 g2 A n c q A2 n2 c2 B mm cb B2 d2 S M H) : q ≤ n := by
  have := nx_le H
  rw [h.wa.hq, h.wa.hl] at this
  exact this
end
theorem ky {v W W1 : World} {g b1 o1 : Nat} {a b d e1 : Value} (h : Below v.heap.size v W ∧ W.cell? ⟨g, 0, none⟩ = some a ∧ W.cell? ⟨g, 1, none⟩ = some b ∧ W.cell? ⟨g, 2, none⟩ = some d ∧ W.cell? ⟨b1, o1, none⟩ = some e1) (hb : Below W.heap.size W W1) :
    Below v.heap.size v W1 ∧ W1.cell? ⟨g, 0, none⟩ = some a ∧ W1.cell? ⟨g, 1, none⟩ = some b ∧ W1.cell? ⟨g, 2, none⟩ = some d ∧ W1.cell? ⟨b1, o1, none⟩ = some e1 := by
  obtain ⟨h0, h1, h2, h3, h4⟩ := h
  exact ⟨Gen.over hb h0, Gen.keep hb h1, Gen.keep hb h2, Gen.keep hb h3, Gen.keep hb h4⟩
theorem ky_set {v W : World} {g b1 o1 gg : Nat} {a b d e1 v0 v1 v2 : Value} (h : Below v.heap.size v W ∧ W.cell? ⟨g, 0, none⟩ = some a ∧ W.cell? ⟨g, 1, none⟩ = some b ∧ W.cell? ⟨g, 2, none⟩ = some d ∧ W.cell? ⟨b1, o1, none⟩ = some e1) (hg : v.heap.size ≤ gg) (h1 : g < v.heap.size) (h2 : b1 < v.heap.size) :
    Below v.heap.size v (((W.setCell ⟨gg, 0, none⟩ v0).setCell ⟨gg, 1, none⟩ v1).setCell ⟨gg, 2, none⟩ v2) ∧ (((W.setCell ⟨gg, 0, none⟩ v0).setCell ⟨gg, 1, none⟩ v1).setCell ⟨gg, 2, none⟩ v2).cell? ⟨g, 0, none⟩ = some a ∧ (((W.setCell ⟨gg, 0, none⟩ v0).setCell ⟨gg, 1, none⟩ v1).setCell ⟨gg, 2, none⟩ v2).cell? ⟨g, 1, none⟩ = some b ∧ (((W.setCell ⟨gg, 0, none⟩ v0).setCell ⟨gg, 1, none⟩ v1).setCell ⟨gg, 2, none⟩ v2).cell? ⟨g, 2, none⟩ = some d ∧ (((W.setCell ⟨gg, 0, none⟩ v0).setCell ⟨gg, 1, none⟩ v1).setCell ⟨gg, 2, none⟩ v2).cell? ⟨b1, o1, none⟩ = some e1 := by
  obtain ⟨h0, h3, h4, h5, h6⟩ := h
  have c1 : g < gg := by omega
  have c2 : b1 < gg := by omega
  exact ⟨below_set3 h0 hg, keep_set3 h3 c1, keep_set3 h4 c1, keep_set3 h5 c1, keep_set3 h6 c2⟩
theorem ens_nil {w : World} {A : Option Addr} : Ens w A [] := fun h => by simp at h
end Go.Proofs.Ytefikmfogbdhpaa.Po
