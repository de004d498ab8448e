/- Units after a move, in plain words. -/
import Derived.Test.YtpekedhcnijgcaaEntG
namespace Go.Proofs.Ytpekedhcnijgcaa.Book
open Go.ChangeShapes Go.WideShapes Go.ChangeAt Go.RowKit Go.Proofs.Ytpekedhcnijgcaa.Cell
set_option linter.unusedVariables false
set_option linter.unusedSimpArgs false

theorem sm_nn {f : Nat → Int} {n : Nat} (h : ∀ i, i < n → 0 ≤ f i) : 0 ≤ sm f n := by
  induction n with
  | zero => simp [sm]
  | succ n ih =>
    have a := ih fun i hi => h i (by omega)
    have b := h n (by omega)
    rw [sm_succ]; omega
theorem sm_one {f : Nat → Int} {n j : Nat} (h : ∀ i, i < n → 0 ≤ f i) (hj : j < n) : f j ≤ sm f n := by
  induction n with
  | zero => omega
  | succ n ih =>
    have a : 0 ≤ sm f n := sm_nn fun i hi => h i (by omega)
    have b := h n (by omega)
    rw [sm_succ]
    by_cases e : j = n
    · subst e; omega
    · have := ih (fun i hi => h i (by omega)) (by omega)
      omega
/-- units after a move -/
theorem mvL_len (us : List Int) (f t : Nat) (x : Int) : (mvL us f t x).length = us.length := by simp [mvL]
theorem mvL_at {us : List Int} {f t : Nat} (x : Int) (hf : f < us.length) (ht : t < us.length) (j : Nat) (hj : j < us.length) :
    (mvL us f t x).getD j 0 = us.getD j 0 + (if j = f then -x else 0) + (if j = t then x else 0) := by
  unfold mvL
  simp only [List.getD_eq_getElem?_getD]
  by_cases e : j = t
  · subst e
    rw [List.getElem?_set_self (by simpa using hj), if_pos rfl]
    by_cases e2 : j = f
    · subst e2
      rw [List.getElem?_set_self hj, if_pos rfl]
      simp only [Option.getD_some]; omega
    · rw [List.getElem?_set_ne (fun h => e2 h.symm), if_neg e2]
      simp only [Option.getD_some]; omega
  · rw [List.getElem?_set_ne (fun h => e h.symm), if_neg e]
    by_cases e2 : j = f
    · subst e2
      rw [List.getElem?_set_self hj, if_pos rfl]
      simp only [Option.getD_some]; omega
    · rw [List.getElem?_set_ne (fun h => e2 h.symm), if_neg e2]
      omega
theorem mvL_total {us : List Int} {f t : Nat} (x : Int) (hf : f < us.length) (ht : t < us.length) : total (mvL us f t x) = total us := by
  rw [total_sm, total_sm, mvL_len, sm_congr (fun j hj => mvL_at x hf ht j hj), sm_add, sm_add, sm_point _ hf, sm_point _ ht]
  omega
theorem mvL_has {ss : List (Int × Int)} {us : List Int} {f t : Nat} (x : Int) (hl : us.length = ss.length) (hf : f < us.length) (ht : t < us.length) (i : Nat) :
    hN ss (mvL us f t x) i = hN ss us i + (if bB ss i f = true then -x else 0) + (if bB ss i t = true then x else 0) := by
  rw [hN_sm (by rw [mvL_len, hl]), hN_sm hl, ← sm_point (n := ss.length) (if bB ss i f = true then -x else 0) (show f < ss.length by omega), ← sm_point (n := ss.length) (if bB ss i t = true then x else 0) (show t < ss.length by omega), ← sm_add, ← sm_add]
  refine sm_congr fun j hj => ?_
  rw [mvL_at x hf ht j (by omega)]
  by_cases e : j = f
  · by_cases e2 : j = t
    · subst e; subst e2
      cases bB ss i j <;> simp
    · subst e
      rw [if_pos rfl, if_pos rfl, if_neg e2, if_neg e2]
      cases bB ss i j <;> simp
  · by_cases e2 : j = t
    · subst e2
      rw [if_neg e, if_neg e, if_pos rfl, if_pos rfl]
      cases bB ss i j <;> simp
    · rw [if_neg e, if_neg e, if_neg e2, if_neg e2]; simp
theorem mvL_vd {ss : List (Int × Int)} {us : List Int} {f t : Nat} {x : Int} (hv : vd ss us = true) (hlf : lf ss f = true) (hlt : lf ss t = true) (hx : 1 ≤ x) (hu : x ≤ us.getD f 0) : vd ss (mvL us f t x) = true := by
  have hd := vd_in hv
  have hf : f < us.length := by have := (lf_in hlf).2; omega
  have ht : t < us.length := by have := (lf_in hlt).2; omega
  have nn : ∀ j, j < us.length → 0 ≤ (mvL us f t x).getD j 0 := fun j hj => by
    rw [mvL_at x hf ht j hj]
    obtain ⟨u, hu2⟩ := at_ us j hj
    have := vd_all hv u (mem_of_at hu2)
    have e : us.getD j 0 = u := by rw [List.getD_eq_getElem?_getD, hu2]; rfl
    by_cases e1 : j = f
    · subst e1
      rw [if_pos rfl]
      split <;> omega
    · rw [if_neg e1]
      split <;> omega
  have tot := mvL_total x hf ht
  rw [vd_R hd.1 (by rw [mvL_len, hd.2.1]), tot]
  · exact decide_eq_true hd.2.2.2
  · intro k hk
    rw [mvL_len] at hk
    obtain ⟨y, hy⟩ := at_ (mvL us f t x) k (by rw [mvL_len]; exact hk)
    have e : (mvL us f t x).getD k 0 = y := by rw [List.getD_eq_getElem?_getD, hy]; rfl
    have y0 := nn k hk
    have y1 : (mvL us f t x).getD k 0 ≤ total (mvL us f t x) := by
      rw [total_sm]
      exact sm_one (f := fun j => (mvL us f t x).getD j 0) (fun i hi => nn i (by rw [mvL_len] at hi; exact hi)) (by rw [mvL_len]; exact hk)
    have h4 := hd.2.2.2
    rw [okR_at hy, decide_eq_true (show 0 ≤ y ∧ y ≤ 1000000000 by omega), Bool.true_and]
    by_cases e1 : k = f
    · subst e1; rw [hlf, Bool.or_true]
    · by_cases e2 : k = t
      · subst e2; rw [hlt, Bool.or_true]
      · rw [mvL_at x hf ht k hk, if_neg e1, if_neg e2] at e
        obtain ⟨u, hu2⟩ := at_ us k hk
        have h1 := okR_of_U hd.2.1 hd.2.2.1 k hk
        have e3 : us.getD k 0 = u := by rw [List.getD_eq_getElem?_getD, hu2]; rfl
        rw [okR_at hu2, Bool.and_eq_true] at h1
        have : y = u := by omega
        rw [this]; exact h1.2
section
variable {ss : List (Int × Int)} {us : List Int} {f t x : Int}
theorem mvR_no (h : mvE ss us f t x ≠ 0) : mvR ss us f t x = [] := if_neg h
theorem mvE_leafF (hv : vd ss us = true) (hx : 1 ≤ x) (h : lf ss f = false) : mvE ss us f t x = 4 := by
  unfold mvE; rw [if_neg (by rw [hv]; simp; omega), if_pos (.inl h)]
theorem mvE_leafT (hv : vd ss us = true) (hx : 1 ≤ x) (h : lf ss t = false) : mvE ss us f t x = 4 := by
  unfold mvE; rw [if_neg (by rw [hv]; simp; omega), if_pos (.inr h)]
theorem mvE_few (hv : vd ss us = true) (hx : 1 ≤ x) (h : lf ss f = true) (h2 : lf ss t = true) (hu : us.getD f.toNat 0 < x) : mvE ss us f t x = 22 := by
  unfold mvE; rw [if_neg (by rw [hv]; simp; omega), if_neg (by rw [h, h2]; simp), if_pos hu]
theorem mvE_ok (hv : vd ss us = true) (hx : 1 ≤ x) (h : lf ss f = true) (h2 : lf ss t = true) (hu : x ≤ us.getD f.toNat 0) : mvE ss us f t x = 0 := by
  unfold mvE; rw [if_neg (by rw [hv]; simp; omega), if_neg (by rw [h, h2]; simp), if_neg (by omega)]
theorem mvR_ok (h : mvE ss us f t x = 0) : mvR ss us f t x = mvL us f.toNat t.toNat x := if_pos h
end
theorem lfO_of {ss : List (Int × Int)} {i : Int} {b : Bool} (hr : rg ss = true) (h : lf ss i = b) : lfO ss i = b := by unfold lfO; rw [hr, h]; rfl

theorem ext_getD {xs ys : List Int} (h : xs.length = ys.length) (he : ∀ j, j < xs.length → xs.getD j 0 = ys.getD j 0) : xs = ys := by
  refine List.ext_getElem h fun j h1 h2 => ?_
  have := he j h1
  rw [List.getD_eq_getElem?_getD, List.getD_eq_getElem?_getD, List.getElem?_eq_getElem h1, List.getElem?_eq_getElem h2] at this
  simpa using this
section
variable {ss : List (Int × Int)} {us : List Int}
theorem nn_at (hv : vd ss us = true) (j : Nat) : 0 ≤ us.getD j 0 := by
  rw [List.getD_eq_getElem?_getD]
  cases h : us[j]? with
  | none => simp
  | some u => have := vd_all hv u (mem_of_at h); simpa using this.1
end
end Go.Proofs.Ytpekedhcnijgcaa.Book
