/- Restatements, in plain words: one more payment in good faith. -/
import Derived.Test.YtohbdffmidbjhaaReV
namespace Go.Proofs.Ytohbdffmidbjhaa.Re
open Go.ChangeShapes Go.WideShapes Go.ChangeAt Go.RowKit Go.Maps Go.Proofs.Ytohbdffmidbjhaa.Cell Go.Proofs.Ytohbdffmidbjhaa.Rk
set_option linter.unusedVariables false
set_option linter.unusedSimpArgs false
/-- what is owed back with one more payment in good faith, beside what is without -/
structure FR (t t' : Ls) (s : Int) : Prop where
  p : t.1.Pairwise (fun a b => a.1 < b.1)
  p' : t'.1.Pairwise (fun a b => a.1 < b.1)
  a : ∀ y, (lk t'.1 y).getD 0 ≤ (lk t.1 y).getD 0
  b : ∀ y, y ≠ s → lk t'.1 y = lk t.1 y
  c : ∀ y, lk t.1 y = none → lk t'.1 y = none
  d : t'.2 = t.2
theorem FR.same {t t' : Ls} {s : Int} (h : FR t t' s) (x : Py) (d : Int) (g : Bool) : FR (stL t x d g) (stL t' x d g) s := by
  unfold stL
  by_cases h1 : d < x.pa ∧ g = false
  · rw [if_pos h1, if_pos h1]
    refine ⟨addL_asc h.p, addL_asc h.p', fun y => ?_, fun y hy => ?_, fun y hy => ?_, h.d⟩
    · dsimp only
      rw [lk_add h.p, lk_add h.p']
      by_cases e : y = x.se
      · rw [if_pos e, if_pos e]
        have := h.a x.se
        simp only [Option.getD_some]
        omega
      · rw [if_neg e, if_neg e]
        exact h.a y
    · dsimp only
      rw [lk_add h.p, lk_add h.p']
      by_cases e : y = x.se
      · rw [if_pos e, if_pos e, h.b x.se (by rw [← e]; exact hy)]
      · rw [if_neg e, if_neg e]
        exact h.b y hy
    · dsimp only at hy ⊢
      rw [lk_add h.p] at hy
      rw [lk_add h.p']
      by_cases e : y = x.se
      · rw [if_pos e] at hy
        cases hy
      · rw [if_neg e] at hy ⊢
        exact h.c y hy
  · rw [if_neg h1, if_neg h1]
    by_cases h2 : x.pa < d
    · rw [if_pos h2, if_pos h2]
      refine ⟨h.p, h.p', h.a, h.b, h.c, ?_⟩
      dsimp only
      rw [h.d]
    · rw [if_neg h2, if_neg h2]
      exact h
theorem FR.more {t t' : Ls} {x : Py} (h : FR t t' x.se) (d : Int) (g : Bool) : FR (stL t x d g) (stL t' x d true) x.se := by
  by_cases h1 : d < x.pa ∧ g = false
  · have e : stL t' x d true = t' := by
      unfold stL
      rw [if_neg (by simp), if_neg (by omega)]
    rw [e]
    unfold stL
    rw [if_pos h1]
    refine ⟨addL_asc h.p, h.p', fun y => ?_, fun y hy => ?_, fun y hy => ?_, h.d⟩
    · dsimp only
      rw [lk_add h.p]
      by_cases e : y = x.se
      · rw [if_pos e]
        have := h.a y
        subst e
        simp only [Option.getD_some]
        omega
      · rw [if_neg e]
        exact h.a y
    · dsimp only
      rw [lk_add h.p, if_neg hy]
      exact h.b y hy
    · dsimp only at hy
      rw [lk_add h.p] at hy
      by_cases e : y = x.se
      · rw [if_pos e] at hy
        cases hy
      · rw [if_neg e] at hy
        exact h.c y hy
  · have e : stL t x d g = stL t x d true := by
      have h2 : ¬(d < x.pa ∧ true = false) := by simp
      unfold stL
      rw [if_neg h1, if_neg h2]
    rw [e]
    exact h.same x d true
theorem fr_all {l : List Py} {due : List Int} {good : List Bool} {k : Nat} {x : Py} (hx : l[k]? = some x) : ∀ j, FR (rL l due good j) (rL l due (good.set k true) j) x.se
  | 0 => ⟨by simp [rL], by simp [rL], fun y => Int.le_refl _, fun y _ => rfl, fun y _ => rfl, rfl⟩
  | j + 1 => by
    have ih := fr_all (due := due) (good := good) hx j
    by_cases e : j = k
    · subst e
      rw [rL, rL, hx]
      cases hd : due[j]? with
      | none => exact ih
      | some d =>
        cases hg : good[j]? with
        | none =>
          have : (good.set j true)[j]? = none := by
            rw [List.getElem?_eq_none_iff] at hg ⊢
            rw [List.length_set]; exact hg
          rw [this]
          exact ih
        | some g =>
          rw [List.getElem?_set_self (lt_of_at hg)]
          exact ih.more d g
    · rw [rL, rL, List.getElem?_set_ne (fun h => e h.symm)]
      cases l[j]? with
      | none => exact ih
      | some y =>
        cases due[j]? with
        | none => exact ih
        | some d =>
          cases good[j]? with
          | none => exact ih
          | some g => exact ih.same y d g
theorem FR.ovr {t t' : Ls} {s : Int} (h : FR t t' s) (ho : ovr t.1 = false) : ovr t'.1 = false := by
  unfold Re.ovr at ho ⊢
  rw [List.any_eq_false] at ho ⊢
  intro p hp
  have h1 := lk_of h.p' hp
  have h2 := h.a p.1
  rw [h1, Option.getD_some] at h2
  cases e : lk t.1 p.1 with
  | none => rw [h.c _ e] at h1; cases h1
  | some z =>
    rw [e, Option.getD_some] at h2
    have := ho _ (lk_mem e)
    simp only [decide_eq_true_eq] at this ⊢
    omega
theorem asc_len : ∀ {a b : List Int}, a.Pairwise (· < ·) → b.Pairwise (· < ·) → (∀ x ∈ a, x ∈ b) → a.length ≤ b.length
  | [], b, _, _, _ => by simp
  | x :: a, [], _, _, h => by have := h x (by simp); simp at this
  | x :: a, y :: b, ha, hb, h => by
    rw [List.pairwise_cons] at ha hb
    by_cases e : x = y
    · subst e
      have := asc_len ha.2 hb.2 (fun z hz => by
        rcases List.mem_cons.1 (h z (by simp [hz])) with e | e
        · subst e; have := ha.1 z hz; omega
        · exact e)
      simp only [List.length_cons]
      omega
    · have hxy : x ∈ b := by
        rcases List.mem_cons.1 (h x (by simp)) with e' | e'
        · exact absurd e' e
        · exact e'
      have := asc_len (a := x :: a) (List.pairwise_cons.2 ha) hb.2 (fun z hz => by
        rcases List.mem_cons.1 hz with rfl | hz
        · exact hxy
        · rcases List.mem_cons.1 (h z (by simp [hz])) with e' | e'
          · subst e'; have := ha.1 z hz; have := hb.1 x hxy; omega
          · exact e')
      simp only [List.length_cons] at this ⊢
      omega
  termination_by a b => b.length
theorem FR.len {t t' : Ls} {s : Int} (h : FR t t' s) : t'.1.length ≤ t.1.length := by
  have h1 : (t'.1.map (·.1)).Pairwise (· < ·) := List.pairwise_map.2 h.p'
  have h2 : (t.1.map (·.1)).Pairwise (· < ·) := List.pairwise_map.2 h.p
  have := asc_len h1 h2 (fun x hx => by
    obtain ⟨p, hp, rfl⟩ := List.mem_map.1 hx
    have h3 := lk_of h.p' hp
    cases e : lk t.1 p.1 with
    | none => rw [h.c _ e] at h3; cases h3
    | some z => exact List.mem_map.2 ⟨_, lk_mem e, rfl⟩)
  rwa [List.length_map, List.length_map] at this
theorem ofA_le {t t' : Ls} {s : Int} (h : FR t t' s) (y : Int) : ofA t'.1 y ≤ ofA t.1 y := by rw [lk_ofA, lk_ofA]; exact h.a y
theorem ofA_eq {t t' : Ls} {s : Int} (h : FR t t' s) {y : Int} (hy : y ≠ s) : ofA t'.1 y = ofA t.1 y := by rw [lk_ofA, lk_ofA, h.b y hy]
theorem rL_len (l : List Py) (due : List Int) (good : List Bool) : ∀ k, (rL l due good k).1.length ≤ k ∧ (rL l due good k).2.length ≤ k := by
  have ha : ∀ (q : List (Int × Int)) s x, (addL q s x).length ≤ q.length + 1 := fun q s x => by
    induction q with
    | nil => simp [addL]
    | cons p q ih =>
      unfold addL
      split
      · simp only [List.length_cons]; omega
      · split <;> simp
  intro k
  induction k with
  | zero => simp [rL]
  | succ k ih =>
    rw [rL]
    cases l[k]? with
    | none => dsimp only; omega
    | some x =>
      cases due[k]? with
      | none => dsimp only; omega
      | some d =>
        cases good[k]? with
        | none => dsimp only; omega
        | some g =>
          dsimp only
          unfold stL
          split
          · have := ha (rL l due good k).1 x.se (x.pa - d); dsimp only; omega
          · split
            · have := ha (rL l due good k).2 x.se (d - x.pa); dsimp only; omega
            · omega
end Go.Proofs.Ytohbdffmidbjhaa.Re
