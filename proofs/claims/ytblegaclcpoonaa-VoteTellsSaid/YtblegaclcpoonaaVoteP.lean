/- Votes, in plain words: what the votes until a day come to, and what leaving some out, or saying one twice, does. -/
import Derived.Test.YtblegaclcpoonaaVoteD
namespace Go.Proofs.Ytblegaclcpoonaa.Vote
open Go.RowKit
set_option linter.unusedVariables false
set_option linter.unusedSectionVars false

theorem if_iff {A B : Prop} [Decidable A] [Decidable B] {α : Type} {x y : α} (h : A ↔ B) : (if A then x else y) = if B then x else y := by
  by_cases a : A
  · rw [if_pos a, if_pos (h.1 a)]
  · rw [if_neg a, if_neg (fun b => a (h.2 b))]
theorem rV_iff (n : Int) : ∀ (vs : List V) (b : Int), rV n b vs = true ↔ (∀ v ∈ vs, 0 ≤ v.s ∧ v.s < n ∧ b ≤ v.d ∧ v.d ≤ 200000) ∧ vs.Pairwise (fun a b => a.d ≤ b.d)
  | [], b => by simp [rV]
  | v :: vs, b => by
    rw [rV, Bool.and_eq_true, rV_iff n vs v.d, List.pairwise_cons]
    unfold okV
    rw [decide_eq_true_iff]
    constructor
    · rintro ⟨h1, h2, h3⟩
      refine ⟨fun x hx => ?_, fun x hx => (h2 x hx).2.2.1, h3⟩
      rcases List.mem_cons.1 hx with rfl | hx
      · exact h1
      · have := h2 x hx
        omega
    · rintro ⟨h1, h2, h3⟩
      exact ⟨h1 v (by simp), fun x hx => by have := h1 x (by simp [hx]); have := h2 x hx; omega, h3⟩
theorem rV_sub {n b : Int} {l vs : List V} (hs : l.Sublist vs) (h : rV n b vs = true) : rV n b l = true := by
  rw [rV_iff] at h ⊢
  exact ⟨fun v hv => h.1 v (hs.subset hv), h.2.sublist hs⟩
theorem rgt_sub {n : Int} {l vs : List V} (hs : l.Sublist vs) (h : rgt n vs = true) : rgt n l = true := by
  unfold rgt at h ⊢
  rw [Bool.and_eq_true, decide_eq_true_iff] at h ⊢
  exact ⟨Nat.le_trans hs.length_le h.1, rV_sub hs h.2⟩
theorem rgt_in {n : Int} {vs : List V} (h : rgt n vs = true) {v : V} (hv : v ∈ vs) : 0 ≤ v.s ∧ v.s < n ∧ 0 ≤ v.d ∧ v.d ≤ 200000 := by
  unfold rgt at h
  rw [Bool.and_eq_true] at h
  exact ((rV_iff n vs 0).1 h.2).1 v hv

/-- the last vote of one seat -/
def lst (u : Int) (i : Nat) (vs : List V) (b : Bool) : Bool := vs.foldl (fun (b : Bool) (v : V) => if v.s = (i : Int) ∧ v.d ≤ u then v.y else b) b
theorem foldl_at {n u : Int} {i : Nat} (hi : (i : Int) < n) : ∀ (vs : List V) (l : List Bool) (b : Bool), l[i]? = some b → (vs.foldl (updV n u) l)[i]? = some (lst u i vs b)
  | [], l, b, h => h
  | v :: vs, l, b, h => by
    rw [List.foldl_cons]
    refine (foldl_at hi vs (updV n u l v) (if v.s = i ∧ v.d ≤ u then v.y else b) ?_).trans rfl
    have hl : i < l.length := (List.getElem?_eq_some_iff.1 h).1
    unfold updV
    by_cases hc : v.s = i ∧ v.d ≤ u
    · rw [if_pos hc, if_pos (by omega)]
      have : v.s.toNat = i := by omega
      rw [this, List.getElem?_set_self hl]
    · rw [if_neg hc]
      split
      · rw [List.getElem?_set_ne (by omega)]
        exact h
      · exact h
theorem lastV_at {n u : Int} {i : Nat} (hi : (i : Int) < n) (vs : List V) : (lastV n u vs)[i]? = some (lst u i vs false) :=
  foldl_at hi vs _ false (by rw [List.getElem?_replicate, if_pos (by omega)])
theorem lastV_ext {n u u' : Int} {vs vs' : List V} (h : ∀ i : Nat, (i : Int) < n → lst u i vs false = lst u' i vs' false) : lastV n u vs = lastV n u' vs' := by
  apply List.ext_getElem?
  intro i
  by_cases hi : (i : Int) < n
  · rw [lastV_at hi, lastV_at hi, h i hi]
  · rw [List.getElem?_eq_none (by rw [lastV_length]; omega), List.getElem?_eq_none (by rw [lastV_length]; omega)]
theorem lst_append (u : Int) (i : Nat) (a b : List V) (x : Bool) : lst u i (a ++ b) x = lst u i b (lst u i a x) := by simp [lst]
theorem lst_cons (u : Int) (i : Nat) (v : V) (b : List V) (x : Bool) : lst u i (v :: b) x = lst u i b (if v.s = i ∧ v.d ≤ u then v.y else x) := rfl

/-! until -/
def early (u : Int) (vs : List V) : List V := vs.filter fun v => decide (v.d ≤ u)
theorem early_sub (u : Int) (vs : List V) : (early u vs).Sublist vs := List.filter_sublist
theorem early_snoc (u : Int) (vs : List V) (v : V) : early u (vs ++ [v]) = early u vs ++ if v.d ≤ u then [v] else [] := by
  unfold early
  rw [List.filter_append]
  by_cases h : v.d ≤ u <;> simp [h]
theorem lst_early (u u' : Int) (hu : u ≤ u') (i : Nat) : ∀ (vs : List V) (b : Bool), lst u' i (early u vs) b = lst u i vs b
  | [], b => rfl
  | v :: vs, b => by
    unfold early
    rw [List.filter_cons, lst_cons u]
    by_cases h : v.d ≤ u
    · rw [if_pos (by simpa using h), lst_cons]
      rw [if_iff (show (v.s = (i : Int) ∧ v.d ≤ u') ↔ (v.s = (i : Int) ∧ v.d ≤ u) from ⟨fun a => ⟨a.1, h⟩, fun a => ⟨a.1, by omega⟩⟩)]
      exact lst_early u u' hu i vs _
    · rw [if_neg (by simpa using h), if_neg (by omega)]
      exact lst_early u u' hu i vs _
theorem last_early {n u u' : Int} (hu : u ≤ u') (vs : List V) : lastV n u' (early u vs) = lastV n u vs := lastV_ext fun i _ => lst_early u u' hu i vs false
def mov (u u' : Int) (l : List Bool) (v : V) : List Bool := if u < v.d ∧ v.d ≤ u' then l.set v.s.toNat true else l
def moved (n : Nat) (u u' : Int) (vs : List V) : List Bool := vs.foldl (mov u u') (List.replicate n false)
theorem moved_snoc (n : Nat) (u u' : Int) (vs : List V) (v : V) : moved n u u' (vs ++ [v]) = mov u u' (moved n u u' vs) v := by simp [moved]
theorem mov_length (u u' : Int) (l : List Bool) (v : V) : (mov u u' l v).length = l.length := by unfold mov; split <;> simp
theorem moved_length (n : Nat) (u u' : Int) (vs : List V) : (moved n u u' vs).length = n := by
  unfold moved
  have : ∀ (vs : List V) (l : List Bool), (vs.foldl (mov u u') l).length = l.length := by
    intro vs
    induction vs with
    | nil => intro l; rfl
    | cons v vs ih => intro l; rw [List.foldl_cons, ih, mov_length]
  rw [this]; simp
theorem mov_up {u u' : Int} {i : Nat} : ∀ (vs : List V) (l : List Bool), (vs.foldl (mov u u') l)[i]? = some false → l[i]? = some false ∧ ∀ v ∈ vs, u < v.d ∧ v.d ≤ u' → v.s.toNat ≠ i
  | [], l, h => ⟨h, fun v hv => absurd hv (by simp)⟩
  | v :: vs, l, h => by
    rw [List.foldl_cons] at h
    obtain ⟨h1, h2⟩ := mov_up vs _ h
    have hl : i < l.length := by
      have := (List.getElem?_eq_some_iff.1 h1).1
      rwa [mov_length] at this
    unfold mov at h1
    by_cases hc : u < v.d ∧ v.d ≤ u'
    · rw [if_pos hc] at h1
      by_cases hi : v.s.toNat = i
      · rw [hi, List.getElem?_set_self hl] at h1
        simp at h1
      · rw [List.getElem?_set_ne hi] at h1
        exact ⟨h1, fun x hx => by rcases List.mem_cons.1 hx with rfl | hx; exact fun _ => hi; exact h2 x hx⟩
    · rw [if_neg hc] at h1
      exact ⟨h1, fun x hx => by rcases List.mem_cons.1 hx with rfl | hx; exact fun hh => absurd hh hc; exact h2 x hx⟩
theorem lst_still {u u' : Int} (hu : u ≤ u') {i : Nat} : ∀ (vs : List V) (b : Bool), (∀ v ∈ vs, u < v.d ∧ v.d ≤ u' → v.s ≠ i) → lst u i vs b = lst u' i vs b
  | [], b, _ => rfl
  | v :: vs, b, h => by
    rw [lst_cons, lst_cons]
    have h1 := h v (by simp)
    rw [if_iff (show (v.s = (i : Int) ∧ v.d ≤ u') ↔ (v.s = (i : Int) ∧ v.d ≤ u) from by
      constructor
      · rintro ⟨a, b⟩
        refine ⟨a, ?_⟩
        rcases Int.lt_or_le u v.d with c | c
        · exact absurd a (h1 ⟨c, b⟩)
        · exact c
      · rintro ⟨a, b⟩
        exact ⟨a, by omega⟩)]
    exact lst_still hu vs _ fun x hx => h x (by simp [hx])
theorem last_still {n u u' : Int} (hu : u ≤ u') {vs : List V} (hr : rgt n vs = true) {i : Nat} (hi : (i : Int) < n) (hm : (moved n.toNat u u' vs)[i]? = some false) :
    (lastV n u vs)[i]? = (lastV n u' vs)[i]? := by
  rw [lastV_at hi, lastV_at hi]
  obtain ⟨_, h⟩ := mov_up vs _ hm
  rw [lst_still hu vs false fun v hv hd e => h v hv hd (by omega)]

/-! last -/
def bld (g : Nat → V → List V) : Nat → List V → List V
  | _, [] => []
  | i, v :: vs => g i v ++ bld g (i + 1) vs
theorem bld_append (g : Nat → V → List V) : ∀ (xs ys : List V) (i : Nat), bld g i (xs ++ ys) = bld g i xs ++ bld g (i + xs.length) ys
  | [], ys, i => by simp [bld]
  | x :: xs, ys, i => by
    rw [List.cons_append, bld, bld, bld_append g xs ys (i + 1), List.append_assoc]
    congr 3
    simp; omega
theorem bld_snoc (g : Nat → V → List V) (xs : List V) (x : V) : bld g 0 (xs ++ [x]) = bld g 0 xs ++ g xs.length x := by
  rw [bld_append]
  simp [bld]
theorem bld_congr {g h : Nat → V → List V} : ∀ (xs : List V) (i : Nat), (∀ j v, i ≤ j → j < i + xs.length → v ∈ xs → g j v = h j v) → bld g i xs = bld h i xs
  | [], i, _ => rfl
  | x :: xs, i, H => by
    rw [bld, bld, H i x (by omega) (by simp) (by simp), bld_congr xs (i + 1) fun j v a b hv => H j v (by omega) (by simp; omega) (by simp [hv])]
theorem bld_all : ∀ (xs : List V) (i : Nat), bld (fun _ v => [v]) i xs = xs
  | [], _ => rfl
  | x :: xs, i => by rw [bld, bld_all]; rfl
theorem bld_filter (p : V → Bool) : ∀ (xs : List V) (i : Nat), bld (fun _ v => if p v = true then [v] else []) i xs = xs.filter p
  | [], _ => rfl
  | x :: xs, i => by rw [bld, bld_filter, List.filter_cons]; split <;> rfl
/-- of one seat nothing before its last vote -/
def gSome (s last : Int) (i : Nat) (v : V) : List V := if v.s ≠ s ∨ last ≤ i then [v] else []
def gNone (s : Int) (_ : Nat) (v : V) : List V := if v.s ≠ s then [v] else []
def gTwice (last : Int) (i : Nat) (v : V) : List V := if (i : Int) = last then [v, v] else [v]
/-- the place of the last vote of a seat until a day -/
def IsLast (s u : Int) (vs : List V) (last : Int) : Prop :=
  (last = -1 ∧ ∀ v ∈ vs, ¬ (v.s = s ∧ v.d ≤ u)) ∨ ∃ P v S, vs = P ++ v :: S ∧ last = P.length ∧ v.s = s ∧ v.d ≤ u ∧ ∀ x ∈ S, ¬ (x.s = s ∧ x.d ≤ u)
theorem isLast_snoc {s u : Int} {vs : List V} {last : Int} (h : IsLast s u vs last) (v : V) : IsLast s u (vs ++ [v]) (if v.s = s ∧ v.d ≤ u then vs.length else last) := by
  by_cases hv : v.s = s ∧ v.d ≤ u
  · rw [if_pos hv]
    exact .inr ⟨vs, v, [], rfl, rfl, hv.1, hv.2, fun x hx => absurd hx (by simp)⟩
  · rw [if_neg hv]
    rcases h with ⟨h1, h2⟩ | ⟨P, x, S, rfl, h2, h3, h4, h5⟩
    · refine .inl ⟨h1, fun x hx => ?_⟩
      rcases List.mem_append.1 hx with hx | hx
      · exact h2 x hx
      · rw [List.mem_singleton.1 hx]; exact hv
    · refine .inr ⟨P, x, S ++ [v], by simp, h2, h3, h4, fun y hy => ?_⟩
      rcases List.mem_append.1 hy with hy | hy
      · exact h5 y hy
      · rw [List.mem_singleton.1 hy]; exact hv
theorem lst_none {u : Int} {i : Nat} : ∀ (vs : List V) (b : Bool), (∀ v ∈ vs, ¬ (v.s = i ∧ v.d ≤ u)) → lst u i vs b = b
  | [], b, _ => rfl
  | v :: vs, b, h => by rw [lst_cons, if_neg (h v (by simp))]; exact lst_none vs b fun x hx => h x (by simp [hx])
theorem lst_drop {u : Int} {i : Nat} {s : Int} (hs : s ≠ i) : ∀ (vs : List V) (b : Bool), lst u i (vs.filter fun v => decide (v.s ≠ s)) b = lst u i vs b
  | [], b => rfl
  | v :: vs, b => by
    rw [List.filter_cons]
    by_cases h : v.s = s
    · rw [if_neg (by simp [h]), lst_cons, if_neg (by omega)]
      exact lst_drop hs vs b
    · rw [if_pos (by simpa using h), lst_cons, lst_cons]
      exact lst_drop hs vs _
section
variable {n : Int} {s u last : Int} {vs : List V} (h : IsLast s u vs last)
theorem some_sub : (bld (gSome s last) 0 vs).Sublist vs := by
  have : ∀ (xs : List V) (i : Nat), (bld (gSome s last) i xs).Sublist xs := by
    intro xs
    induction xs with
    | nil => intro i; exact List.Sublist.refl _
    | cons x xs ih =>
      intro i
      rw [bld]
      unfold gSome
      split
      · exact (ih _).cons_cons x
      · exact (ih _).cons x
  exact this vs 0
include h
theorem some_is : (last = -1 ∧ bld (gSome s last) 0 vs = vs ∧ bld (gTwice last) 0 vs = vs) ∨ ∃ P v S, vs = P ++ v :: S ∧ last = P.length ∧ v.s = s ∧ v.d ≤ u ∧ (∀ x ∈ S, ¬ (x.s = s ∧ x.d ≤ u)) ∧
    bld (gSome s last) 0 vs = (P.filter fun v => decide (v.s ≠ s)) ++ v :: S ∧ bld (gTwice last) 0 vs = P ++ v :: v :: S := by
  rcases h with ⟨h1, h2⟩ | ⟨P, v, S, rfl, h2, h3, h4, h5⟩
  · refine .inl ⟨h1, ?_, ?_⟩
    · rw [bld_congr (g := gSome s last) (h := fun _ v => [v]) vs 0 fun j v _ _ _ => if_pos (Or.inr (by omega)), bld_all]
    · rw [bld_congr (g := gTwice last) (h := fun _ v => [v]) vs 0 fun j v _ _ _ => if_neg (by omega), bld_all]
  · refine .inr ⟨P, v, S, rfl, h2, h3, h4, h5, ?_, ?_⟩
    · rw [bld_append, bld]
      rw [bld_congr (g := gSome s last) (h := fun _ v => if decide (v.s ≠ s) = true then [v] else []) P 0 fun j x _ hj _ => by
        unfold gSome
        by_cases hx : x.s = s
        · rw [if_neg (by omega), if_neg (by simp [hx])]
        · rw [if_pos (.inl hx), if_pos (by simpa using hx)], bld_filter]
      rw [bld_congr (g := gSome s last) (h := fun _ v => [v]) S _ fun j v hj _ _ => if_pos (Or.inr (by omega)), bld_all]
      rw [gSome, if_pos (.inr (by omega))]
      rfl
    · rw [bld_append, bld]
      rw [bld_congr (g := gTwice last) (h := fun _ v => [v]) P 0 fun j x _ hj _ => if_neg (by omega), bld_all]
      rw [bld_congr (g := gTwice last) (h := fun _ v => [v]) S _ fun j v hj _ _ => if_neg (by omega), bld_all]
      rw [gTwice, if_pos (by omega)]
      rfl
theorem none_is : bld (gNone s) 0 vs = vs.filter fun v => decide (v.s ≠ s) := by
  rw [← bld_filter (fun v => decide (v.s ≠ s)) vs 0]
  refine bld_congr vs 0 fun j x _ _ _ => ?_
  unfold gNone
  by_cases hx : x.s = s
  · rw [if_neg (by simp [hx]), if_neg (by simp [hx])]
  · rw [if_pos hx, if_pos (by simpa using hx)]
theorem last_some : lastV n u (bld (gSome s last) 0 vs) = lastV n u vs := by
  rcases some_is h with ⟨_, h1, _⟩ | ⟨P, v, S, rfl, _, h3, h4, h5, h6, _⟩
  · rw [h1]
  · rw [h6]
    refine lastV_ext fun i hi => ?_
    rw [lst_append, lst_append, lst_cons, lst_cons]
    by_cases hs : v.s = i
    · rw [if_pos ⟨hs, h4⟩, if_pos ⟨hs, h4⟩]
    · rw [lst_drop (by omega)]
theorem last_twice : lastV n u (bld (gTwice last) 0 vs) = lastV n u vs := by
  rcases some_is h with ⟨_, _, h1⟩ | ⟨P, v, S, rfl, _, h3, h4, h5, _, h6⟩
  · rw [h1]
  · rw [h6]
    refine lastV_ext fun i hi => ?_
    rw [lst_append, lst_append, lst_cons, lst_cons, lst_cons]
    by_cases hs : v.s = i
    · rw [if_pos ⟨hs, h4⟩, if_pos ⟨hs, h4⟩]
    · rw [if_neg (fun h => hs h.1), if_neg (fun h => hs h.1)]
theorem twice_length : (bld (gTwice last) 0 vs).length ≤ vs.length + 1 := by
  rcases some_is h with ⟨_, _, h1⟩ | ⟨P, v, S, rfl, _, h3, h4, h5, _, h6⟩
  · rw [h1]; omega
  · rw [h6]; simp; omega
theorem twice_right (hr : rgt n vs = true) (hl : vs.length ≤ 60) : rgt n (bld (gTwice last) 0 vs) = true := by
  have hlen := twice_length h
  unfold rgt at hr ⊢
  rw [Bool.and_eq_true, decide_eq_true_iff] at hr ⊢
  refine ⟨by omega, ?_⟩
  rcases some_is h with ⟨_, _, h1⟩ | ⟨P, v, S, rfl, _, h3, h4, h5, _, h6⟩
  · rw [h1]; exact hr.2
  · rw [h6]
    have h2 := (rV_iff n _ 0).1 hr.2
    rw [rV_iff]
    refine ⟨fun x hx => h2.1 x (by simp at hx ⊢; omega), ?_⟩
    have h3 := h2.2
    rw [List.pairwise_append] at h3 ⊢
    refine ⟨h3.1, ?_, fun a ha b hb => h3.2.2 a ha b (by simp at hb ⊢; omega)⟩
    rw [List.pairwise_cons]
    refine ⟨fun b hb => ?_, h3.2.1⟩
    rcases List.mem_cons.1 hb with rfl | hb
    · exact Int.le_refl _
    · exact (List.pairwise_cons.1 h3.2.1).1 b hb
end
theorem yesR_set : ∀ (zs : List Int) (bs : List Bool) (i : Nat) (z : Int), zs.length = bs.length → zs[i]? = some z → yesR zs (bs.set i true) = yesR zs (bs.set i false) + z
  | [], bs, i, z, _, h => by simp at h
  | a :: zs, [], i, z, hl, _ => by simp at hl
  | a :: zs, b :: bs, 0, z, hl, h => by
    simp at h
    subst h
    simp [yesR]
    omega
  | a :: zs, b :: bs, i + 1, z, hl, h => by
    have := yesR_set zs bs i z (by simpa using hl) (by simpa using h)
    simp only [List.set_cons_succ, yesR, this]
    omega
theorem set_self {α : Type} : ∀ (l : List α) (i : Nat) (x : α), l[i]? = some x → l.set i x = l
  | [], _, _, h => by simp at h
  | y :: l, 0, x, h => by simp at h; simp [h]
  | y :: l, i + 1, x, h => by simp at h; simp [set_self l i x h]
theorem last_none {n s u last : Int} {vs : List V} (h : IsLast s u vs last) {i : Nat} (hsi : s = i) (hi : (i : Int) < n) : lastV n u (bld (gNone s) 0 vs) = (lastV n u vs).set i false := by
  rw [none_is h]
  apply List.ext_getElem?
  intro j
  by_cases hj : (j : Int) < n
  · rw [lastV_at hj]
    by_cases hij : i = j
    · subst hij
      rw [List.getElem?_set_self (by rw [lastV_length]; omega), lst_none]
      intro v hv
      have := (List.mem_filter.1 hv).2
      have : v.s ≠ s := by simpa using this
      omega
    · rw [List.getElem?_set_ne hij, lastV_at hj, lst_drop (by omega)]
  · rw [List.getElem?_eq_none (by rw [lastV_length]; omega), List.getElem?_eq_none (by rw [List.length_set, lastV_length]; omega)]
/-- what the last vote of a seat adds -/
theorem yes_none {n s u last : Int} {vs : List V} {zs : List Int} (h : IsLast s u vs last) {i : Nat} {z : Int} (hsi : s = i) (hn : (zs.length : Int) = n) (hz : zs[i]? = some z) :
    (last = -1 ∧ yesR zs (lastV n u vs) = yesR zs (lastV n u (bld (gNone s) 0 vs))) ∨
    ∃ (k : Nat) (v : V), last = k ∧ vs[k]? = some v ∧ yesR zs (lastV n u vs) = yesR zs (lastV n u (bld (gNone s) 0 vs)) + if v.y = true then z else 0 := by
  have hi : (i : Int) < n := by
    have := (List.getElem?_eq_some_iff.1 hz).1
    omega
  rw [last_none h hsi hi]
  have hat := lastV_at (u := u) hi vs
  rcases h with ⟨h1, h2⟩ | ⟨P, v, S, rfl, h2, h3, h4, h5⟩
  · left
    refine ⟨h1, ?_⟩
    rw [lst_none vs false (by rw [← hsi]; exact h2)] at hat
    rw [set_self _ _ _ hat]
  · right
    refine ⟨P.length, v, h2, by simp, ?_⟩
    rw [lst_append, lst_cons, if_pos ⟨by omega, h4⟩, lst_none S v.y (by rw [← hsi]; exact h5)] at hat
    have hs := yesR_set zs (lastV n u (P ++ v :: S)) i z (by rw [lastV_length]; omega) hz
    cases hy : v.y
    · rw [hy] at hat
      rw [set_self _ _ _ hat]; simp
    · rw [hy] at hat
      rw [set_self _ _ _ hat] at hs
      simpa using hs
end Go.Proofs.Ytblegaclcpoonaa.Vote
