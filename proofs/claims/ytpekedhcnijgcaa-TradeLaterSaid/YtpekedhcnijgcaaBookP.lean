/- Seats, in plain words: levels, roots, which seats are right. -/
import Derived.Test.YtpekedhcnijgcaaBase
namespace Go.Proofs.Ytpekedhcnijgcaa.Book
open Go.RowKit Go.Proofs.Ytpekedhcnijgcaa.Cell
set_option linter.unusedVariables false
section
variable {α β : Type}
/-- a list made element by element, each out of those before it -/
def acc (f : List β → α → β) (xs : List α) : List β := xs.foldl (fun l s => l ++ [f l s]) []
variable (f : List β → α → β)
theorem acc_snoc (xs : List α) (x : α) : acc f (xs ++ [x]) = acc f xs ++ [f (acc f xs) x] := by simp [acc]
theorem acc_length (xs : List α) : (acc f xs).length = xs.length := by
  unfold acc
  have : ∀ (xs : List α) (l : List β), (xs.foldl (fun l s => l ++ [f l s]) l).length = l.length + xs.length := by
    intro xs
    induction xs with
    | nil => intro l; rfl
    | cons x xs ih => intro l; rw [List.foldl_cons, ih]; simp; omega
  rw [this]; simp
theorem acc_pre (ys : List α) : ∀ l : List β, ∃ t, ys.foldl (fun l s => l ++ [f l s]) l = l ++ t := by
  induction ys with
  | nil => intro l; exact ⟨[], by simp⟩
  | cons y ys ih =>
    intro l
    obtain ⟨t, ht⟩ := ih (l ++ [f l y])
    exact ⟨f l y :: t, by rw [List.foldl_cons, ht]; simp⟩
theorem acc_take (xs : List α) (k : Nat) (hk : k ≤ xs.length) : (acc f xs).take k = acc f (xs.take k) := by
  have e : acc f xs = (xs.drop k).foldl (fun l s => l ++ [f l s]) (acc f (xs.take k)) := by
    unfold acc
    rw [← List.foldl_append, List.take_append_drop]
  obtain ⟨t, ht⟩ := acc_pre f (xs.drop k) (acc f (xs.take k))
  rw [e, ht, List.take_append_of_le_length (by rw [acc_length, List.length_take]; omega), List.take_of_length_le (by rw [acc_length, List.length_take]; omega)]
theorem acc_at {xs : List α} {k : Nat} {x : α} (h : xs[k]? = some x) : (acc f xs)[k]? = some (f (acc f (xs.take k)) x) := by
  have hk := lt_of_at h
  have e : (acc f xs)[k]? = ((acc f xs).take (k + 1))[k]? := by rw [List.getElem?_take_of_lt (by omega)]
  rw [e, acc_take f xs (k + 1) (by omega), take_snoc h, acc_snoc, List.getElem?_append_right (by rw [acc_length, List.length_take]; omega)]
  rw [acc_length, List.length_take]
  simp [Nat.min_eq_left (Nat.le_of_lt hk)]
theorem acc_old {xs : List α} {k p : Nat} (hk : k ≤ xs.length) (hp : p < k) : (acc f (xs.take k))[p]? = (acc f xs)[p]? := by
  rw [← acc_take f xs k hk, List.getElem?_take_of_lt hp]
end

/-- the level of a seat, out of those of the seats before it -/
def lv0 (l : List Int) (s : Int × Int) : Int := if 0 ≤ s.1 then l.getD s.1.toNat 0 + 1 else 0
def rt0 (l : List Int) (s : Int × Int) : Int := if 0 ≤ s.1 then l.getD s.1.toNat 0 else l.length
theorem lv0_pos {l : List Int} {s : Int × Int} (h : 0 ≤ s.1) : lv0 l s = l.getD s.1.toNat 0 + 1 := if_pos h
theorem lv0_neg {l : List Int} {s : Int × Int} (h : s.1 < 0) : lv0 l s = 0 := if_neg (by omega)
theorem rt0_pos {l : List Int} {s : Int × Int} (h : 0 ≤ s.1) : rt0 l s = l.getD s.1.toNat 0 := if_pos h
theorem rt0_neg {l : List Int} {s : Int × Int} (h : s.1 < 0) : rt0 l s = l.length := if_neg (by omega)
def okS (k : Nat) (s : Int × Int) : Bool := decide (-1 ≤ s.1 ∧ s.1 < k ∧ -1 ≤ s.2 ∧ s.2 < 60)
theorem okS_in {k : Nat} {s : Int × Int} (h : okS k s = true) : -1 ≤ s.1 ∧ s.1 < k ∧ -1 ≤ s.2 ∧ s.2 < 60 := of_decide_eq_true h
/-- the seats that are right, so far -/
def okF : List (Int × Int) → Bool
  | ss => ((List.range ss.length).all fun k => match ss[k]? with | some s => okS k s && decide (lv0 (acc lv0 (ss.take k)) s ≤ 4) | none => true)
def rg (ss : List (Int × Int)) : Bool := decide (ss.length ≤ 20000) && okF ss
theorem okF_iff (ss : List (Int × Int)) : okF ss = true ↔ ∀ (k : Nat) (s : Int × Int), ss[k]? = some s → okS k s = true ∧ lv0 (acc lv0 (ss.take k)) s ≤ 4 := by
  unfold okF
  rw [List.all_eq_true]
  constructor
  · intro h k s hs
    have := h k (List.mem_range.2 (lt_of_at hs))
    rw [hs] at this
    simpa using this
  · intro h k hk
    have hk := List.mem_range.1 hk
    rw [List.getElem?_eq_getElem hk]
    have := h k _ (List.getElem?_eq_getElem hk)
    simpa using this
theorem okF_no {ss : List (Int × Int)} {k : Nat} {s : Int × Int} (hs : ss[k]? = some s) (h : okS k s = false ∨ 4 < lv0 (acc lv0 (ss.take k)) s) : okF ss = false := by
  cases ho : okF ss
  · rfl
  · have := (okF_iff ss).1 ho k s hs
    rcases h with h | h
    · rw [this.1] at h; cases h
    · omega
theorem rg_no {ss : List (Int × Int)} (h : 20000 < ss.length ∨ okF ss = false) : rg ss = false := by
  unfold rg
  rcases h with h | h
  · rw [decide_eq_false (by omega)]; rfl
  · rw [h]; simp
theorem rg_ok {ss : List (Int × Int)} (h : rg ss = true) : ss.length ≤ 20000 ∧ okF ss = true := by
  unfold rg at h
  rw [Bool.and_eq_true] at h
  exact ⟨of_decide_eq_true h.1, h.2⟩
theorem rg_yes {ss : List (Int × Int)} (h : ss.length ≤ 20000) (h2 : okF ss = true) : rg ss = true := by
  unfold rg
  rw [decide_eq_true h, h2]; rfl
theorem okF_take {ss : List (Int × Int)} {k : Nat} (h : okF ss = true) (hk : k ≤ ss.length) : okF (ss.take k) = true := by
  rw [okF_iff] at h ⊢
  intro j s hj
  have hjk : j < k := by have := lt_of_at hj; rw [List.length_take] at this; omega
  rw [List.getElem?_take_of_lt hjk] at hj
  have := h j s hj
  rwa [List.take_take, Nat.min_eq_left (by omega)]
theorem okF_snoc {ss : List (Int × Int)} {k : Nat} {s : Int × Int} (hs : ss[k]? = some s) (h : okF (ss.take k) = true) (h1 : okS k s = true) (h2 : lv0 (acc lv0 (ss.take k)) s ≤ 4) : okF (ss.take (k + 1)) = true := by
  rw [okF_iff] at h ⊢
  intro j x hj
  have hk := lt_of_at hs
  have hjk : j < k + 1 := by have := lt_of_at hj; rw [List.length_take] at this; omega
  rw [List.getElem?_take_of_lt hjk] at hj
  rw [List.take_take, Nat.min_eq_left (by omega)]
  by_cases e : j = k
  · subst e
    rw [hs] at hj
    rw [← Option.some.inj hj]
    exact ⟨h1, h2⟩
  · have := h j x (by rw [List.getElem?_take_of_lt (by omega)]; exact hj)
    rwa [List.take_take, Nat.min_eq_left (by omega)] at this
/-- levels are from 0 to 4 -/
theorem lev_in {ss : List (Int × Int)} (h : okF ss = true) {k : Nat} {x : Int} (hx : (acc lv0 ss)[k]? = some x) : 0 ≤ x ∧ x ≤ 4 := by
  have hk := lt_of_at hx
  rw [acc_length] at hk
  have hs := List.getElem?_eq_getElem hk
  rw [acc_at lv0 hs] at hx
  have h4 := ((okF_iff ss).1 h k _ hs).2
  have : ∀ (k : Nat) (s : Int × Int) (x : Int), ss[k]? = some s → (acc lv0 ss)[k]? = some x → 0 ≤ x := by
    intro k
    induction k using Nat.strongRecOn with
    | ind k ih =>
      intro s x hs hx
      have e := hx
      rw [acc_at lv0 hs] at hx
      have ho := okS_in ((okF_iff ss).1 h k s hs).1
      have hk := lt_of_at hs
      by_cases hp : 0 ≤ s.1
      · rw [lv0_pos hp] at hx
        have hpk : s.1.toNat < k := by omega
        have hq := acc_old lv0 (xs := ss) (Nat.le_of_lt hk) hpk
        have hqs := List.getElem?_eq_getElem (l := ss) (i := s.1.toNat) (by omega)
        have hq2 := acc_at lv0 hqs
        rw [hq2] at hq
        have := ih _ hpk _ _ hqs hq2
        rw [List.getD_eq_getElem?_getD] at hx
        rw [hq] at hx
        simp only [Option.getD_some] at hx
        have := Option.some.inj hx
        omega
      · rw [lv0_neg (by omega)] at hx
        have := Option.some.inj hx
        omega
  have := this k _ _ hs (acc_at lv0 hs)
  have := Option.some.inj hx
  omega
/-- the level of the seat above -/
theorem lev_up {ss : List (Int × Int)} (h : okF ss = true) {k : Nat} {s : Int × Int} (hs : ss[k]? = some s) {x : Int} (hx : (acc lv0 ss)[k]? = some x) (hp : 0 ≤ s.1) :
    s.1.toNat < k ∧ ∃ y, (acc lv0 ss)[s.1.toNat]? = some y ∧ x = y + 1 := by
  have ho := okS_in ((okF_iff ss).1 h k s hs).1
  have hk := lt_of_at hs
  have hpk : s.1.toNat < k := by omega
  refine ⟨hpk, ?_⟩
  have hl : s.1.toNat < (acc lv0 ss).length := by rw [acc_length]; omega
  refine ⟨(acc lv0 ss)[s.1.toNat], List.getElem?_eq_getElem hl, ?_⟩
  rw [acc_at lv0 hs] at hx
  rw [lv0_pos hp, List.getD_eq_getElem?_getD, acc_old lv0 (Nat.le_of_lt hk) hpk, List.getElem?_eq_getElem hl] at hx
  exact (Option.some.inj hx).symm
theorem lev_top {ss : List (Int × Int)} {k : Nat} {s : Int × Int} (hs : ss[k]? = some s) {x : Int} (hx : (acc lv0 ss)[k]? = some x) (hp : s.1 < 0) : x = 0 := by
  rw [acc_at lv0 hs] at hx
  rw [lv0_neg hp] at hx
  exact (Option.some.inj hx).symm
theorem root_up {ss : List (Int × Int)} (h : okF ss = true) {k : Nat} {s : Int × Int} (hs : ss[k]? = some s) {x : Int} (hx : (acc rt0 ss)[k]? = some x) (hp : 0 ≤ s.1) :
    s.1.toNat < k ∧ (acc rt0 ss)[s.1.toNat]? = some x := by
  have ho := okS_in ((okF_iff ss).1 h k s hs).1
  have hk := lt_of_at hs
  have hpk : s.1.toNat < k := by omega
  refine ⟨hpk, ?_⟩
  have hl : s.1.toNat < (acc rt0 ss).length := by rw [acc_length]; omega
  rw [acc_at rt0 hs] at hx
  rw [rt0_pos hp, List.getD_eq_getElem?_getD, acc_old rt0 (Nat.le_of_lt hk) hpk, List.getElem?_eq_getElem hl] at hx
  rw [List.getElem?_eq_getElem hl]
  exact hx
theorem root_top {ss : List (Int × Int)} {k : Nat} {s : Int × Int} (hs : ss[k]? = some s) {x : Int} (hx : (acc rt0 ss)[k]? = some x) (hp : s.1 < 0) : x = k := by
  have hk := lt_of_at hs
  rw [acc_at rt0 hs] at hx
  rw [rt0_neg hp, acc_length, List.length_take, Nat.min_eq_left (Nat.le_of_lt hk)] at hx
  exact (Option.some.inj hx).symm
/-- the levels so far, and zeros -/
def arr (l : List Int) (n : Nat) : List Int := l ++ List.replicate (n - l.length) 0
theorem arr_length {l : List Int} {n : Nat} (h : l.length ≤ n) : (arr l n).length = n := by simp [arr]; omega
theorem arr_set {l : List Int} {n : Nat} (h : l.length < n) (x : Int) : (arr l n).set l.length x = arr (l ++ [x]) n := by
  unfold arr
  obtain ⟨m, hm⟩ : ∃ m, n - l.length = m + 1 := ⟨n - l.length - 1, by omega⟩
  rw [hm, List.set_append_right _ _ (Nat.le_refl _), Nat.sub_self, List.replicate_succ, List.set_cons_zero]
  have : n - (l ++ [x]).length = m := by simp; omega
  rw [this]
  simp
theorem arr_zero {l : List Int} {n : Nat} (h : l.length < n) : arr l n = arr (l ++ [0]) n := by
  unfold arr
  obtain ⟨m, hm⟩ : ∃ m, n - l.length = m + 1 := ⟨n - l.length - 1, by omega⟩
  have : n - (l ++ [0]).length = m := by simp; omega
  rw [hm, this, List.replicate_succ]
  simp
theorem arr_at {l : List Int} {n j : Nat} {x : Int} (h : l[j]? = some x) : (arr l n)[j]? = some x := by
  unfold arr
  rw [List.getElem?_append_left (lt_of_at h)]
  exact h
theorem arr_last {l : List Int} {n : Nat} (h : l.length < n) : (arr l n)[l.length]? = some 0 := by
  unfold arr
  rw [List.getElem?_append_right (Nat.le_refl _), Nat.sub_self, List.getElem?_replicate, if_pos (by omega)]
/-- what Level, Root and Leaf return -/
def isS (ss : List (Int × Int)) (i : Int) : Bool := decide (0 ≤ i ∧ i < ss.length) && rg ss
def lvO (ss : List (Int × Int)) (i : Int) : Int := if isS ss i = true then (acc lv0 ss).getD i.toNat 0 else -1
def rtO (ss : List (Int × Int)) (i : Int) : Int := if isS ss i = true then (acc rt0 ss).getD i.toNat 0 else -1
def lf (ss : List (Int × Int)) (i : Int) : Bool := decide (0 ≤ i ∧ i < ss.length) && !ss.any fun s => s.1 == i
end Go.Proofs.Ytpekedhcnijgcaa.Book
