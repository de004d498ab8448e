/- Two schedules that differ in the end alone: the shorter one's entries. -/
import Derived.Test.YtdndlipenjkfpaaLScM
namespace Go.Proofs.Ytdndlipenjkfpaa.Dat
open Go.ChangeShapes Go.WideShapes Go.ChangeAt Go.RowKit Go.Proofs.Ytdndlipenjkfpaa.Cell
set_option linter.unusedVariables false

section
variable {rs ds : List Int} {fr to to' ev ad re : Int} {l l' : List Pr} {M i : Nat}
theorem am_ex (fr n : Int) : ∃ x h, amO fr n = (x, h) := ⟨_, _, rfl⟩
/-- an entry of the shorter one that is not its last is the longer one's -/
theorem cut_go (ok : PerOk rs ds fr to ev ad re l) (ok' : PerOk rs ds fr to' ev ad re l') (hM : l.length = M + 1) (hi : l'.length = i + 1) (hto : to' ≤ to) :
    ∀ j, j ≤ i → j ≤ M ∧ ∀ k, k < j → ∃ t, l[k]? = some t ∧ l'[k]? = some t ∧ t.2.1 < to'
  | 0, _ => ⟨by omega, fun k hk => absurd hk (by omega)⟩
  | j + 1, hj => by
    obtain ⟨hjM, IH⟩ := cut_go ok ok' hM hi hto j (by omega)
    obtain ⟨t', ht'⟩ := Cell.at_ l' j (by omega)
    obtain ⟨u', hu'⟩ := Cell.at_ l' (j + 1) (by omega)
    obtain ⟨t, ht⟩ := Cell.at_ l j (by omega)
    obtain ⟨x, h, hx⟩ := am_ex fr (((j : Int) + 1) * ev)
    have e1 := ok'.then_ hi ht' hx
    have e2 := ok.then_ hM ht hx
    have n1 := ok'.next ht' hu'
    have n2 := ok'.in_ hu'
    have n3 := ok'.in_ ht'
    have n4 := ok.in_ ht
    obtain ⟨c1, c2, c3⟩ : j < i ∧ h = 0 ∧ x = t'.2.1 := by
      rcases e1 with e | ⟨e, _⟩
      · exact e
      · omega
    obtain ⟨d1, d2, d3⟩ : j < M ∧ h = 0 ∧ x = t.2.1 := by
      rcases e2 with e | ⟨e, ⟨_, e'⟩ | e'⟩
      · exact e
      · have : t.2.1 = to := by subst e; exact ok.last hM ht
        omega
      · omega
    refine ⟨by omega, fun k hk => ?_⟩
    by_cases hkj : k < j
    · exact IH k hkj
    obtain rfl : k = j := by omega
    have f : t.1 = t'.1 := by
      match k, IH, ht, ht' with
      | 0, _, ht, ht' => rw [ok.first ht, ok'.first ht']
      | p + 1, IH, ht, ht' =>
        obtain ⟨s, s1, s2, _⟩ := IH p (by omega)
        rw [ok.next s1 ht, ok'.next s2 ht']
    obtain ⟨_, _, a1, b1⟩ := ok.each k t ht
    obtain ⟨_, _, a2, b2⟩ := ok'.each k t' ht'
    have g : t.2.1 = t'.2.1 := by omega
    rw [g, a2] at a1
    have g2 : t'.2.2.1 = t.2.2.1 := by injection a1
    rw [← g2, b2] at b1
    have g3 : t'.2.2.2 = t.2.2.2 := by injection b1
    refine ⟨t, ht, ?_, by omega⟩
    rw [ht']
    obtain ⟨p1, p2, p3, p4⟩ := t
    obtain ⟨q1, q2, q3, q4⟩ := t'
    dsimp only at f g g2 g3
    subst f g g2 g3
    rfl
theorem cut_take {α : Type} {l l' : List α} {i : Nat} (h : ∀ k, k < i → ∃ t, l[k]? = some t ∧ l'[k]? = some t) : l'.take i = l.take i := by
  refine List.ext_getElem? fun k => ?_
  by_cases hk : k < i
  · obtain ⟨t, a, b⟩ := h k hk
    rw [List.getElem?_take_of_lt hk, List.getElem?_take_of_lt hk, a, b]
  · rw [List.getElem?_eq_none (by rw [List.length_take]; omega), List.getElem?_eq_none (by rw [List.length_take]; omega)]
/-- what the cut at an entry says -/
structure Cut (l l' : List Pr) (to' : Int) (i : Nat) : Prop where
  lt : i < l.length
  before : ∀ (k : Nat) (t : Pr), k < i → l[k]? = some t → t.2.1 < to'
  take : l'.take i = l.take i
  at_ : ∀ t : Pr, l[i]? = some t → to' ≤ t.2.1
  here : ∀ t t' : Pr, l[i]? = some t → l'[i]? = some t' → t'.1 = t.1 ∧ t'.2.1 = to'
theorem cut_of (ok : PerOk rs ds fr to ev ad re l) (ok' : PerOk rs ds fr to' ev ad re l') (hi : l'.length = i + 1) (hto : to' ≤ to) : Cut l l' to' i := by
  obtain ⟨M, hM⟩ : ∃ M, l.length = M + 1 := ⟨l.length - 1, by have := ok.pos; omega⟩
  obtain ⟨hiM, IH⟩ := cut_go ok ok' hM hi hto i (Nat.le_refl _)
  obtain ⟨t', ht'⟩ := Cell.at_ l' i (by omega)
  have la := ok'.last hi ht'
  obtain ⟨x, h, hx⟩ := am_ex fr (((i : Int) + 1) * ev)
  refine ⟨by omega, fun k t hk ht => ?_, cut_take fun k hk => ?_, fun t ht => ?_, fun t u ht hu => ?_⟩
  · obtain ⟨s, s1, _, s3⟩ := IH k hk
    rw [s1] at ht
    injection ht with ht
    rw [← ht]; exact s3
  · obtain ⟨s, s1, s2, _⟩ := IH k hk
    exact ⟨s, s1, s2⟩
  · have e1 := ok'.then_ hi ht' hx
    have e2 := ok.then_ hM ht hx
    rcases e2 with ⟨_, e, e'⟩ | ⟨e, _⟩
    · omega
    · subst e
      rw [ok.last hM ht]; exact hto
  · rw [ht'] at hu
    injection hu with hu
    subst hu
    refine ⟨?_, la⟩
    match i, IH, ht, ht' with
    | 0, _, ht, ht' => rw [ok.first ht, ok'.first ht']
    | p + 1, IH, ht, ht' =>
      obtain ⟨s, s1, s2, _⟩ := IH p (by omega)
      rw [ok.next s1 ht, ok'.next s2 ht']
theorem Cut.before_le (c : Cut l l' to' i) {k : Nat} {t : Pr} (hk : k ≤ i) (ht : l[k]? = some t) : (t.2.1 < to' ↔ k < i) := by
  by_cases h : k < i
  · exact ⟨fun _ => h, fun _ => c.before k t h ht⟩
  · obtain rfl : k = i := by omega
    have := c.at_ t ht
    exact ⟨fun h => by omega, fun h => by omega⟩
end

/-- every cell of a row that is well is one cell -/
theorem one_of_ok {P : Program} {W : World} {r : Reach} {b : Nat} {t : TypeId} {v : Value} (h : Cell.okWide P W r b t v) : v.oneCell' = true := by
  cases v with
  | agg cs => 
    unfold Cell.okWide Cell.ok at h
    split at h <;> simp_all
  | tuple cs =>
    unfold Cell.okWide Cell.ok at h
    split at h <;> simp_all
  | _ => rfl
theorem all_one {P : Program} {W : World} {r : Reach} {b : Nat} {t : TypeId} {fs : Array Field} {cs : Array Value} (ht : P.underlying t = some (.struct fs)) (h : Value.okWide P W r b t (.agg cs)) : cs.all (·.oneCell') = true := by
  simp only [Value.okWide, ht] at h
  obtain ⟨cs', e, _, hr⟩ := h
  injection e with e
  subst e
  obtain ⟨ts, _, _, hc⟩ := hr
  rw [Array.all_eq_true]
  intro k hk
  obtain ⟨u, _, hu⟩ := hc k cs[k] (Array.getElem?_eq_getElem hk)
  exact one_of_ok hu
end Go.Proofs.Ytdndlipenjkfpaa.Dat
