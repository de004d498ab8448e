/- Post: what PostTells keeps. -/
import Derived.Test.YtefikmfogbdhpaaPoX
import Derived.Test.YtefikmfogbdhpaaPoY
namespace Go.Proofs.Ytefikmfogbdhpaa.Po
open Go.ChangeShapes Go.WideShapes Go.ChangeAt Go.RowKit Go.Proofs.Ytefikmfogbdhpaa.Cell
set_option linter.unusedVariables false
set_option linter.unusedSimpArgs false
theorem fr_is (H : List Bool) : fr H.length (nx H) (ea H) = H := by
  refine bool_ext (fr_len ..) fun j => ?_
  rw [fr_at]
  constructor
  · rintro ⟨h1, h2 | h2⟩
    · exact nx_lo H j (by omega)
    · obtain ⟨i, e, _, h3⟩ := mem_ea.1 h2
      have : j = i := by omega
      rw [this]
      exact h3
  · intro h
    refine ⟨lt_of_at h, ?_⟩
    by_cases h1 : j < nx H
    · exact .inl (by omega)
    · refine .inr (mem_ea.2 ⟨j, rfl, ?_, h⟩)
      rcases Nat.lt_or_ge (nx H) j with h2 | h2
      · exact h2
      · have : j = nx H := by omega
        rw [this] at h
        exact absurd h (nx_at H)
section
variable {w wr wx w9 W : World} {g lo gm k : Nat} {A : Option Addr} {n c q : Nat} {A2 : Option Addr} {n2 c2 : Nat} {S : List En} {H : List Bool} {Am : Option Addr} {cm : Nat} {Ah : Option Addr} {ch : Nat}
theorem Mw.rb (h : Mw W lo gm Am n cm Ah ch S H) {b : Nat} (hb : Rb gm Am Ah b) : lo ≤ b ∧ b < W.heap.size := by
  rcases hb with hb | hb | hb
  · subst hb; exact ⟨h.lg, h.r.lt⟩
  · exact h.os.lt _ (mem_ob hb)
  · exact h.oh.lt _ (mem_ob hb)
theorem Mw.set3 (h : Mw W lo gm Am n cm Ah ch S H) (hg : g < lo) {v0 v1 v2 : Value} : Mw (((W.setCell ⟨g, 0, none⟩ v0).setCell ⟨g, 1, none⟩ v1).setCell ⟨g, 2, none⟩ v2) lo gm Am n cm Ah ch S H :=
  ⟨row_set3_ne h.r (by have := h.lg; omega), own_set3 h.os (fun e => by have := (h.os.lt _ e).1; omega), own_set3 h.oh (fun e => by have := (h.oh.lt _ e).1; omega), h.hn, h.hl, h.lg, h.n1, h.n2, h.ne⟩
/-- what PostTells keeps -/
structure Lt (w wr : World) (g lo gm k : Nat) (A : Option Addr) (n c q : Nat) (A2 : Option Addr) (n2 c2 : Nat) (S : List En) (H : List Bool) (Am : Option Addr) (cm : Nat) (Ah : Option Addr) (ch : Nat) : Prop where
  wq : Wq wr A n c q A2 n2 c2 S H
  r : Row wr g 27 #[.slice A n c, .int .i64 (q : Int), .slice A2 n2 c2]
  mw : Mw wr lo gm Am n cm Ah ch S H
  dA : 0 < n → ∀ a, A = some a → ¬ Rb gm Am Ah a.block
  dB : 0 < n2 → ∀ a, A2 = some a → ¬ Rb gm Am Ah a.block
  bl : Below w.heap.size w wr
  wg : w.heap.size ≤ g
  gl : g < lo
  nk : n ≤ 30 + k
  ls : lo ≤ wr.heap.size
theorem Lt.keep (h : Lt w wr g lo gm k A n c q A2 n2 c2 S H Am cm Ah ch) (hb : Below wr.heap.size wr wx) : Lt w wx g lo gm k A n c q A2 n2 c2 S H Am cm Ah ch :=
  ⟨h.wq.keep hb, h.r.keep hb, h.mw.keep hb, h.dA, h.dB, Gen.over hb h.bl, h.wg, h.gl, h.nk, Nat.le_trans h.ls hb.size⟩
theorem Lt.next (h : Lt w wr g lo gm k A n c q A2 n2 c2 S H Am cm Ah ch) : Lt w wr g lo gm (k + 1) A n c q A2 n2 c2 S H Am cm Ah ch :=
  ⟨h.wq, h.r, h.mw, h.dA, h.dB, h.bl, h.wg, h.gl, by have := h.nk; omega, h.ls⟩
theorem Lt.nrb (h : Lt w wr g lo gm k A n c q A2 n2 c2 S H Am cm Ah ch) {b : Nat} (hb : wr.heap.size ≤ b) : ¬ Rb gm Am Ah b := fun e => by have := (h.mw.rb e).2; omega
theorem Lt.nrg (h : Lt w wr g lo gm k A n c q A2 n2 c2 S H Am cm Ah ch) : ¬ Rb gm Am Ah g := fun e => by have := (h.mw.rb e).1; have := h.gl; omega
theorem Lt.put {N : Nat} {S' : List En} {H' : List Bool} {A' : Option Addr} {c' q' : Nat} {B' : Option Addr} {n' k' : Nat} {Am' : Option Addr} {cm' : Nat} {Ah' : Option Addr} {ch' : Nat} (h : Lt w wr g lo gm k A n c q A2 n2 c2 S H Am cm Ah ch) (hN : N ≤ 30 + (k + 1)) (hb : Below wr.heap.size wr wx) (hw : Wq wx A' N c' q' B' n' k' S' H') (ha : ∀ a, A' = some a → wr.heap.size ≤ a.block) (hb' : ∀ a, B' = some a → wr.heap.size ≤ a.block)
    (hm : Mw w9 lo gm Am' N cm' Ah' ch' S' H') (ho : Only wx w9 (Rb gm Am Ah)) (hr : ∀ b, Rb gm Am' Ah' b → Rb gm Am Ah b ∨ wx.heap.size ≤ b) :
    Lt w (((w9.setCell ⟨g, 0, none⟩ (.slice A' N c')).setCell ⟨g, 1, none⟩ (.int .i64 (q' : Int))).setCell ⟨g, 2, none⟩ (.slice B' n' k')) g lo gm (k + 1) A' N c' q' B' n' k' S' H' Am' cm' Ah' ch' := by
  have hgl := h.r.lt
  have hlo := h.ls
  have hg := h.gl
  have hws := h.wg
  have hs := hb.size
  have hs9 := ho.size
  have dA : 0 < N → ∀ a, A' = some a → ¬ Rb gm Am' Ah' a.block := fun h0 a e c => by
    have h1 := ha a e
    have h2 := ens_lt hw.he (by rw [hw.hn]; exact h0) a e
    rcases hr _ c with h3 | h3
    · exact h.nrb h1 h3
    · omega
  have dB : 0 < n' → ∀ a, B' = some a → ¬ Rb gm Am' Ah' a.block := fun h0 a e c => by
    have h1 := hb' a e
    have h2 := ints_lt hw.hi (by rw [hw.hn2]; exact h0) a e
    rcases hr _ c with h3 | h3
    · exact h.nrb h1 h3
    · omega
  exact ⟨wq_set3 (hw.only ho (fun _ a e => h.nrb (ha a e)) (fun _ a e => h.nrb (hb' a e))) (fun a e => by have := ha a e; omega) (fun a e => by have := hb' a e; omega), row_set3 (ho.row (h.r.keep hb) h.nrg), hm.set3 hg, dA, dB, below_set3' (ho.below (Gen.over hb h.bl) (fun b e => by have := (h.mw.rb e).1; omega)) hws, hws, hg, hN, by simp; omega⟩
theorem Lt.qn (h : Lt w wr g lo gm k A n c q A2 n2 c2 S H Am cm Ah ch) : q ≤ n := by
  have := nx_le H
  rw [h.wq.hq, h.wq.hl] at this
  exact this
end
theorem k4 {v W W1 : World} {g h : Nat} {a b d a' : Value} (H : Below v.heap.size v W ∧ W.cell? ⟨g, 0, none⟩ = some a ∧ W.cell? ⟨g, 1, none⟩ = some b ∧ W.cell? ⟨g, 2, none⟩ = some d ∧ W.cell? ⟨h, 0, none⟩ = some a') (hb : Below W.heap.size W W1) : Below v.heap.size v W1 ∧ W1.cell? ⟨g, 0, none⟩ = some a ∧ W1.cell? ⟨g, 1, none⟩ = some b ∧ W1.cell? ⟨g, 2, none⟩ = some d ∧ W1.cell? ⟨h, 0, none⟩ = some a' := by
  obtain ⟨h0, h1, h2, h3, h4⟩ := H
  exact ⟨Gen.over hb h0, Gen.keep hb h1, Gen.keep hb h2, Gen.keep hb h3, Gen.keep hb h4⟩
end Go.Proofs.Ytefikmfogbdhpaa.Po
