/- Restatements, in plain words: what each seat was paid, owes back and is owed. -/
import Derived.Test.YtohbdffmidbjhaaReY
namespace Go.Proofs.Ytohbdffmidbjhaa.Re
open Go.ChangeShapes Go.WideShapes Go.ChangeAt Go.RowKit Go.Maps Go.Proofs.Ytohbdffmidbjhaa.Cell Go.Proofs.Ytohbdffmidbjhaa.Rk
set_option linter.unusedVariables false
set_option linter.unusedSimpArgs false
def mxI (a b : Int) : Int := if a < b then b else a
/-- what a seat was paid, and what it should have been, by the first payments -/
def pdS (l : List Py) (s : Int) : Nat → Int
  | 0 => 0
  | k + 1 => match l[k]? with | some x => pdS l s k + (if x.se = s then x.pa else 0) | none => pdS l s k
def wtS (l : List Py) (due : List Int) (good : List Bool) (s : Int) : Nat → Int
  | 0 => 0
  | k + 1 => match l[k]?, due[k]?, good[k]? with
    | some x, some d, some g => wtS l due good s k + (if x.se = s then (if g = true then mxI x.pa d else d) else 0)
    | _, _, _ => wtS l due good s k
theorem pdS_next {l : List Py} {s : Int} {k : Nat} {x : Py} (hx : l[k]? = some x) : pdS l s (k + 1) = pdS l s k + (if x.se = s then x.pa else 0) := by rw [pdS, hx]
theorem wtS_next {l : List Py} {due : List Int} {good : List Bool} {s : Int} {k : Nat} {x : Py} {d : Int} {g : Bool} (hx : l[k]? = some x) (hd : due[k]? = some d) (hg : good[k]? = some g) :
    wtS l due good s (k + 1) = wtS l due good s k + (if x.se = s then (if g = true then mxI x.pa d else d) else 0) := by rw [wtS, hx, hd, hg]
theorem rL_asc (l : List Py) (due : List Int) (good : List Bool) : ∀ k, (rL l due good k).1.Pairwise (fun a b => a.1 < b.1) ∧ (rL l due good k).2.Pairwise (fun a b => a.1 < b.1) := fun k => ⟨(repB l due good k).a.asc, (repB l due good k).b.asc⟩
theorem st_bal {t : Ls} (h1 : t.1.Pairwise (fun a b => a.1 < b.1)) (h2 : t.2.Pairwise (fun a b => a.1 < b.1)) (x : Py) (d : Int) (g : Bool) (s P W : Int) (h : P - (lk t.1 s).getD 0 + (lk t.2 s).getD 0 = W) :
    (P + if x.se = s then x.pa else 0) - (lk (stL t x d g).1 s).getD 0 + (lk (stL t x d g).2 s).getD 0 = W + if x.se = s then (if g = true then mxI x.pa d else d) else 0 := by
  unfold stL mxI
  by_cases c1 : d < x.pa ∧ g = false
  · rw [if_pos c1]
    dsimp only
    rw [lk_add h1]
    by_cases e : s = x.se
    · rw [if_pos e, if_pos e.symm, if_pos e.symm, if_neg (by rw [c1.2]; decide)]
      rw [← e]
      simp only [Option.getD_some]
      omega
    · rw [if_neg e, if_neg (fun h => e h.symm), if_neg (fun h => e h.symm)]
      omega
  · rw [if_neg c1]
    by_cases c2 : x.pa < d
    · rw [if_pos c2, if_pos c2]
      dsimp only
      rw [lk_add h2]
      by_cases e : s = x.se
      · rw [if_pos e, if_pos e.symm, if_pos e.symm]
        rw [← e]
        simp only [Option.getD_some]
        split <;> omega
      · rw [if_neg e, if_neg (fun h => e h.symm), if_neg (fun h => e h.symm)]
        omega
    · rw [if_neg c2, if_neg c2]
      by_cases e : x.se = s
      · rw [if_pos e, if_pos e]
        cases g
        · simp only [Bool.false_eq_true, if_false]
          have : ¬ d < x.pa := fun h => c1 ⟨h, rfl⟩
          omega
        · simp only [if_true]
          omega
      · rw [if_neg e, if_neg e]
        omega
theorem bal {l : List Py} {due : List Int} {good : List Bool} {n : Nat} (hn : l.length = n) (hn1 : due.length = n) (hn2 : good.length = n) (s : Int) : ∀ k, k ≤ n → pdS l s k - ofA (rL l due good k).1 s + ofA (rL l due good k).2 s = wtS l due good s k
  | 0, _ => rfl
  | k + 1, hk => by
    have ih := bal hn hn1 hn2 s k (by omega)
    obtain ⟨x, hx⟩ := at_ l k (by omega)
    obtain ⟨d, hd⟩ := at_ due k (by omega)
    obtain ⟨g, hg⟩ := at_ good k (by omega)
    rw [lk_ofA, lk_ofA] at ih ⊢
    rw [pdS_next hx, wtS_next hx hd hg, rL_next hx hd hg]
    exact st_bal (rL_asc l due good k).1 (rL_asc l due good k).2 x d g s _ _ ih
theorem bal_in {l : List Py} {due : List Int} {good : List Bool} (h : bkOk l due good = true) (s : Int) : ∀ k, (0 ≤ pdS l s k ∧ pdS l s k ≤ k * 1000000000000000) ∧ 0 ≤ wtS l due good s k ∧ wtS l due good s k ≤ k * 1000000000000000
  | 0 => by simp [pdS, wtS]
  | k + 1 => by
    obtain ⟨⟨i1, i2⟩, i3, i4⟩ := bal_in h s k
    unfold bkOk at h
    simp only [Bool.and_eq_true, decide_eq_true_eq] at h
    obtain ⟨⟨e1, e2⟩, h⟩ := h
    cases hx : l[k]? with
    | none => rw [pdS, wtS, hx]; dsimp only; omega
    | some x =>
      have hk := lt_of_at hx
      obtain ⟨d, hd⟩ := at_ due k (by omega)
      obtain ⟨g, hg⟩ := at_ good k (by omega)
      have hok := pysOk_at h hx hd
      unfold pyOk at hok
      simp only [Bool.and_eq_true, decide_eq_true_eq] at hok
      obtain ⟨⟨o1, o2, o3⟩, o4, o5⟩ := hok
      rw [pdS_next hx, wtS_next hx hd hg]
      unfold mxI
      refine ⟨?_, ?_⟩
      · split <;> omega
      · split
        · split
          · split <;> omega
          · omega
        · omega
theorem rL_pos (l : List Py) (due : List Int) (good : List Bool) : ∀ k, (∀ p ∈ (rL l due good k).1, 1 ≤ p.2) ∧ ∀ p ∈ (rL l due good k).2, 1 ≤ p.2
  | 0 => ⟨by simp [rL], by simp [rL]⟩
  | k + 1 => by
    have ih := rL_pos l due good k
    unfold rL
    cases l[k]? with
    | none => exact ih
    | some x =>
      cases due[k]? with
      | none => exact ih
      | some d =>
        cases good[k]? with
        | none => exact ih
        | some g =>
          dsimp only
          unfold stL
          split
          · exact ⟨addL_mem (P := fun _ z => 1 ≤ z) ih.1 (fun p hp e => by have := ih.1 p hp; omega) (by omega), ih.2⟩
          · split
            · exact ⟨ih.1, addL_mem (P := fun _ z => 1 ≤ z) ih.2 (fun p hp e => by have := ih.2 p hp; omega) (by omega)⟩
            · exact ih
/-- a list of shares that is right -/
structure ShOk (M : List (Int × Int)) (seats : List Int) : Prop where
  asc : M.Pairwise (fun a b => a.1 < b.1)
  am : ∀ p ∈ M, 1 ≤ p.2 ∧ p.2 ≤ 1000000000000000 ∧ seats.contains p.1 = true
theorem sh_ok {l : List Py} {due : List Int} {good : List Bool} (ho : (ovr (rL l due good l.length).1 || ovr (rL l due good l.length).2) = false) : ShOk (rL l due good l.length).1 (l.map (·.se)) ∧ ShOk (rL l due good l.length).2 (l.map (·.se)) := by
  obtain ⟨o1, o2⟩ := Bool.or_eq_false_iff.1 ho
  have hp := rL_pos l due good l.length
  have ha := rL_asc l due good l.length
  have hs := rL_seats l due good (fun s => (l.map (·.se)).contains s = true) (fun x hx => by rw [List.contains_iff_mem]; exact List.mem_map.2 ⟨x, hx, rfl⟩) l.length
  unfold ovr at o1 o2
  rw [List.any_eq_false] at o1 o2
  exact ⟨⟨ha.1, fun p h => ⟨hp.1 p h, by have := o1 p h; simp only [decide_eq_true_eq] at this; omega, hs.1 p h⟩⟩,
    ⟨ha.2, fun p h => ⟨hp.2 p h, by have := o2 p h; simp only [decide_eq_true_eq] at this; omega, hs.2 p h⟩⟩⟩
theorem sh_lt {M : List (Int × Int)} {seats : List Int} (h : ShOk M seats) {p : Nat} {x y : Int × Int} (hy : M[p]? = some y) (hx : M[p + 1]? = some x) : y.1 < x.1 := by
  obtain ⟨h1, rfl⟩ := List.getElem?_eq_some_iff.1 hx
  obtain ⟨h2, rfl⟩ := List.getElem?_eq_some_iff.1 hy
  exact List.pairwise_iff_getElem.1 h.asc p (p + 1) h2 h1 (by omega)
end Go.Proofs.Ytohbdffmidbjhaa.Re
