/- Facts, plain: what FactMore says. -/
import Derived.Test.YtcnfonhcgcblgaaFcH
namespace Go.Proofs.Ytcnfonhcgcblgaa.Fc
open Go.Lib Go.ChangeShapes Go.WideShapes Go.ChangeAt Go.RowKit Go.Proofs.Ytcnfonhcgcblgaa.Cell
set_option linter.unusedVariables false
set_option linter.unusedSimpArgs false
/-- a report of the account between two days -/
def frsE (i : Int) (n : List UInt8) (a b : Int) (x : Fa) : Bool := decide (x.is = i) && decide (x.nm = n) && decide (a < x.dy) && decide (x.dy ≤ b)
theorem more_1 {l : List Fa} {i p a b : Int} {n : List UInt8} (hab : a ≤ b) (h : (valF l i n p a).isSome = true) : (valF l i n p b).isSome = true := by
  unfold valF at h ⊢
  split at h
  · rename_i hr
    rw [if_pos hr]
    rw [lat_some, List.any_eq_true] at h ⊢
    obtain ⟨x, hx, hc⟩ := h
    refine ⟨x, hx, ?_⟩
    unfold cnt at hc ⊢
    simp only [Bool.and_eq_true, decide_eq_true_eq] at hc ⊢
    refine ⟨⟨⟨hc.1.1.1, by omega⟩, hc.1.2⟩, hc.2⟩
  · cases h
theorem more_2 {l : List Fa} {i p a b : Int} {n : List UInt8} (hab : a ≤ b) (h : l.any (frsE i n a b) = false) : valF l i n p a = valF l i n p b := by
  unfold valF
  rw [lat_same]
  intro x hx hn
  rw [List.any_eq_false] at h
  have := h x hx
  unfold frsE at this
  unfold cnt
  by_cases hi : x.is = i
  · simp [hi, hn] at this
    have e : decide (x.dy ≤ a) = decide (x.dy ≤ b) := by
      by_cases h1 : x.dy ≤ a
      · rw [decide_eq_true h1, decide_eq_true (by omega)]
      · rw [decide_eq_false h1, decide_eq_false (by have := this (by omega); omega)]
    rw [e]
  · simp [hi]
/-- two neighbours change places -/
def swp : List Fa → Nat → List Fa
  | x :: y :: l, 0 => y :: x :: l
  | x :: l, k + 1 => x :: swp l k
  | l, _ => l
theorem swp_set : ∀ {l : List Fa} {k : Nat} {x y : Fa}, l[k]? = some x → l[k + 1]? = some y → (l.set k y).set (k + 1) x = swp l k
  | [], k, x, y, h, _ => by simp at h
  | [z], k, x, y, h, h' => by simp at h'
  | z :: u :: l, 0, x, y, h, h' => by
    simp at h h'
    subst h h'
    rfl
  | z :: u :: l, k + 1, x, y, h, h' => by
    rw [List.set_cons_succ, List.set_cons_succ, swp_set (l := u :: l) (k := k) (by simpa using h) (by simpa using h')]
    rfl
theorem swp_len : ∀ (l : List Fa) (k : Nat), (swp l k).length = l.length
  | [], k => by cases k <;> rfl
  | [z], k => by cases k with | zero => rfl | succ k => simp [swp, swp_len [] k]
  | z :: u :: l, 0 => rfl
  | z :: u :: l, k + 1 => by simp [swp, swp_len (u :: l) k]
theorem swp_mem : ∀ {l : List Fa} {k : Nat} {x : Fa}, x ∈ swp l k → x ∈ l
  | [], k, x, h => by cases k <;> exact h
  | [z], k, x, h => by
    cases k with
    | zero => exact h
    | succ k =>
      unfold swp at h
      rcases List.mem_cons.1 h with rfl | h
      · simp
      · exact List.mem_cons_of_mem _ (swp_mem h)
  | z :: u :: l, 0, x, h => by
    unfold swp at h
    simp at h ⊢
    rcases h with h | h | h
    · exact .inr (.inl h)
    · exact .inl h
    · exact .inr (.inr h)
  | z :: u :: l, k + 1, x, h => by
    unfold swp at h
    rcases List.mem_cons.1 h with rfl | h
    · simp
    · exact List.mem_cons_of_mem _ (swp_mem h)
theorem swp_oks : ∀ {l : List Fa} {k : Nat} {b : Int} {x y : Fa}, l[k]? = some x → l[k + 1]? = some y → x.dy = y.dy → oksF b (swp l k) = oksF b l
  | [], k, b, x, y, h, _, _ => by simp at h
  | [z], k, b, x, y, h, h', _ => by simp at h'
  | z :: u :: l, 0, b, x, y, h, h', e => by
    simp at h h'
    subst h h'
    unfold swp oksF
    unfold oksF
    rw [e]
    cases okF z <;> cases okF u <;> cases decide (b ≤ u.dy) <;> cases oksF u.dy l <;> simp
  | z :: u :: l, k + 1, b, x, y, h, h', e => by
    unfold swp
    rw [oksF, oksF, swp_oks (l := u :: l) (k := k) (by simpa using h) (by simpa using h') e]
theorem stF_swap {i p d : Int} {n : List UInt8} {x y : Fa} (g : Option Fa) (h : ¬ (x.is = y.is ∧ x.nm = y.nm ∧ x.pe = y.pe)) : stF i p d n (stF i p d n g x) y = stF i p d n (stF i p d n g y) x := by
  by_cases hx : cnt i p d x = true ∧ x.nm = n
  · by_cases hy : cnt i p d y = true ∧ y.nm = n
    · have h1 := hx.1
      have h2 := hy.1
      unfold cnt at h1 h2
      simp only [Bool.and_eq_true, decide_eq_true_eq] at h1 h2
      have hp : x.pe ≠ y.pe := fun e => h ⟨by rw [h1.1.1, h2.1.1], by rw [hx.2, hy.2], e⟩
      unfold stF
      rw [if_pos hx, if_pos hy, if_pos hx, if_pos hy]
      cases g with
      | none =>
        dsimp only
        by_cases c : x.pe ≤ y.pe
        · rw [if_pos c, if_neg (by omega)]
        · rw [if_neg c, if_pos (by omega)]
      | some b =>
        dsimp only
        by_cases c1 : b.pe ≤ x.pe
        · rw [if_pos c1]
          by_cases c2 : b.pe ≤ y.pe
          · rw [if_pos c2]
            dsimp only
            by_cases c : x.pe ≤ y.pe
            · rw [if_pos c, if_neg (by omega)]
            · rw [if_neg c, if_pos (by omega)]
          · rw [if_neg c2]
            dsimp only
            rw [if_neg (by omega), if_pos c1]
        · rw [if_neg c1]
          by_cases c2 : b.pe ≤ y.pe
          · rw [if_pos c2]
            dsimp only
            rw [if_pos c2, if_neg (by omega)]
          · rw [if_neg c2]
            dsimp only
            rw [if_neg c2, if_neg c1]
    · have e : ∀ g, stF i p d n g y = g := fun g => by unfold stF; rw [if_neg hy]
      rw [e, e]
  · have e : ∀ g, stF i p d n g x = g := fun g => by unfold stF; rw [if_neg hx]
    rw [e, e]
theorem swp_lat {i p d : Int} {n : List UInt8} : ∀ {l : List Fa} {k : Nat} {x y : Fa} (g : Option Fa), l[k]? = some x → l[k + 1]? = some y → ¬ (x.is = y.is ∧ x.nm = y.nm ∧ x.pe = y.pe) → (swp l k).foldl (stF i p d n) g = l.foldl (stF i p d n) g
  | [], k, x, y, g, h, _, _ => by simp at h
  | [z], k, x, y, g, h, h', _ => by simp at h'
  | z :: u :: l, 0, x, y, g, h, h', e => by
    simp at h h'
    subst h h'
    unfold swp
    rw [List.foldl_cons, List.foldl_cons, List.foldl_cons, List.foldl_cons, stF_swap g e]
  | z :: u :: l, k + 1, x, y, g, h, h', e => by
    unfold swp
    rw [List.foldl_cons, List.foldl_cons, swp_lat (l := u :: l) (k := k) _ (by simpa using h) (by simpa using h') e]
theorem more_3 {l : List Fa} {k : Nat} {x y : Fa} {i p d : Int} {n : List UInt8} (h : l[k]? = some x) (h' : l[k + 1]? = some y) (hd : x.dy = y.dy) (e : ¬ (x.is = y.is ∧ x.nm = y.nm ∧ x.pe = y.pe)) : valF (swp l k) i n p d = valF l i n p d := by
  unfold valF rgF
  rw [swp_len, swp_oks h h' hd]
  unfold lat
  rw [swp_lat none h h' e]
end Go.Proofs.Ytcnfonhcgcblgaa.Fc
