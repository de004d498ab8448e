/- What a period of a schedule is, for SchedPays. -/
import Derived.Test.YtdndlipenjkfpaaLCalM
import Derived.Test.YtdndlipenjkfpaaLScM
import Derived.Test.YtdndlipenjkfpaaSchQ
namespace Go.Proofs.Ytdndlipenjkfpaa.Dat
open Go.ChangeShapes Go.WideShapes Go.ChangeAt Go.RowKit Go.Proofs.Ytdndlipenjkfpaa.Cell
set_option linter.unusedVariables false

/-- a period's payment and record days -/
structure PayF (pB : Int → Bool) (ad re : Int) (u p r : Int) : Prop where
  u0 : 0 ≤ u
  u1 : u ≤ 200000
  p0 : 0 ≤ p
  p1 : p ≤ 200000
  r0 : 0 ≤ r
  rp : r ≤ p
  a0 : ad = 0 → p = u
  bus : ad ≠ 0 → pB p = true
  a1 : ad = 1 → u ≤ p
  a3 : ad = 3 → p ≤ u
  a2 : ad = 2 → ∀ q, nx pB u = (q, 0) → sm u q = true → p = q
  rcd : r < p → pB r = true
  cnt : cnt pB r (p - r).toNat = re
theorem pay_of {rs ds : List Int} {fr to ev ad re : Int} {l : List Pr} (ok : PerOk rs ds fr to ev ad re l) {k : Nat} {t : Pr} (ht : l[k]? = some t) : PayF (bd rs ds) ad re t.2.1 t.2.2.1 t.2.2.2 := by
  obtain ⟨fr0, frt, to0, ev0, ev1, ad0, ad1, re0, re1⟩ := vl_in ok.v
  obtain ⟨i1, i2, i3⟩ := ok.in_ ht
  obtain ⟨_, _, a, b⟩ := ok.each k t ht
  have u0 : 0 ≤ t.2.1 := by omega
  have u1 : t.2.1 ≤ 200000 := by omega
  have p01 : 0 ≤ t.2.2.1 ∧ t.2.2.1 ≤ 200000 := by
    rcases adj_01 u0 u1 a with h | h
    · exact h.2
    · omega
  have r01 : 0 ≤ t.2.2.2 ∧ t.2.2.2 ≤ t.2.2.1 ∧ (0 < re.toNat → bd rs ds t.2.2.2 = true) ∧ (re.toNat = 0 → t.2.2.2 = t.2.2.1) := by
    rcases bk_01 p01.1 p01.2 b with h | h
    · exact h.2
    · omega
  have c := bk_cnt p01.1 p01.2 b
  have h0 : ad = 0 → t.2.2.1 = t.2.1 := fun h => by
    rw [h, adj, if_pos rfl] at a
    injection a with a _
    exact a.symm
  have h1 : ad = 1 → nx (bd rs ds) t.2.1 = (t.2.2.1, 0) := fun h => by rw [h, adj_1] at a; exact a
  have h3 : ad = 3 → bf (bd rs ds) t.2.1 = (t.2.2.1, 0) := fun h => by rw [h, adj_3] at a; exact a
  have h2 : ad = 2 → (∃ q, nx (bd rs ds) t.2.1 = (q, 0) ∧ sm t.2.1 q = true ∧ t.2.2.1 = q) ∨ ((∀ q, nx (bd rs ds) t.2.1 = (q, 0) → sm t.2.1 q = false) ∧ bf (bd rs ds) t.2.1 = (t.2.2.1, 0)) := fun h => by
    obtain ⟨q, e, hq⟩ : ∃ q e, nx (bd rs ds) t.2.1 = (q, e) := ⟨_, _, rfl⟩
    have hr := ok.r
    rw [h] at a
    rw [← adO_in hr u0 u1] at a
    rcases nx_01 hq with ⟨rfl, _⟩ | ⟨rfl, _⟩
    · cases hs : sm t.2.1 q
      · obtain ⟨y, g, hy⟩ : ∃ y g, bf (bd rs ds) t.2.1 = (y, g) := ⟨_, _, rfl⟩
        rw [adO_2n hr u0 u1 hq hs hy] at a
        refine .inr ⟨fun q' h' => ?_, by rw [hy, a]⟩
        rw [hq] at h'
        obtain rfl : q = q' := by injection h'
        exact hs
      · rw [adO_2y hr u0 u1 hq hs] at a
        exact .inl ⟨q, hq, hs, by injection a with a _; exact a.symm⟩
    · obtain ⟨y, g, hy⟩ : ∃ y g, bf (bd rs ds) t.2.1 = (y, g) := ⟨_, _, rfl⟩
      rw [adO_23 hr u0 u1 (by have := nx_01 hq; rcases this with h | h; (have := h.1; omega); rw [hq]) hy] at a
      refine .inr ⟨fun q' h' => ?_, by rw [hy, a]⟩
      rw [hq] at h'
      injection h' with _ h'
      omega
  refine ⟨u0, u1, p01.1, p01.2, r01.1, r01.2.1, h0, fun hn => ?_, fun h => ?_, fun h => ?_, fun h q hq hs => ?_, fun h => ?_, ?_⟩
  · rcases (show ad = 1 ∨ ad = 2 ∨ ad = 3 by omega) with h | h | h
    · rcases nx_01 (h1 h) with g | g
      · exact g.2.2.2.1
      · have := g.1; omega
    · rcases h2 h with ⟨q, hq, _, e⟩ | ⟨_, hb⟩
      · rcases nx_01 hq with g | g
        · rw [e]; exact g.2.2.2.1
        · have := g.1; omega
      · rcases bf_01 hb with g | g
        · exact g.2.2.2.1
        · have := g.1; omega
    · rcases bf_01 (h3 h) with g | g
      · exact g.2.2.2.1
      · have := g.1; omega
  · rcases nx_01 (h1 h) with g | g
    · exact g.2.1
    · have := g.1; omega
  · rcases bf_01 (h3 h) with g | g
    · exact g.2.2.1
    · have := g.1; omega
  · rcases h2 h with ⟨q', hq', _, e⟩ | ⟨hn, _⟩
    · rw [hq] at hq'
      obtain rfl : q = q' := by injection hq'
      exact e
    · rw [hn q hq] at hs
      exact absurd hs (by simp)
  · by_cases g : re.toNat = 0
    · have := r01.2.2.2 g; omega
    · exact r01.2.2.1 (by omega)
  · rw [c]; exact Int.toNat_of_nonneg re0
end Go.Proofs.Ytdndlipenjkfpaa.Dat
