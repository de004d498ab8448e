/- Sums over seats, in plain words: what a seat has is the sum of what is right below it. -/
import Derived.Test.YtpekedhcnijgcaaBookU
namespace Go.Proofs.Ytpekedhcnijgcaa.Book
open Go.ChangeShapes Go.WideShapes Go.ChangeAt Go.RowKit Go.Proofs.Ytpekedhcnijgcaa.Cell
set_option linter.unusedVariables false
set_option linter.unusedSimpArgs false

def sm (f : Nat → Int) : Nat → Int
  | 0 => 0
  | n + 1 => sm f n + f n
theorem sm_succ (f : Nat → Int) (n : Nat) : sm f (n + 1) = sm f n + f n := rfl
theorem sm_congr {f g : Nat → Int} {n : Nat} (h : ∀ j, j < n → f j = g j) : sm f n = sm g n := by
  induction n with
  | zero => rfl
  | succ n ih => rw [sm_succ, sm_succ, ih fun j hj => h j (by omega), h n (by omega)]
theorem sm_zero {f : Nat → Int} {n : Nat} (h : ∀ j, j < n → f j = 0) : sm f n = 0 := by
  induction n with
  | zero => rfl
  | succ n ih => rw [sm_succ, ih fun j hj => h j (by omega), h n (by omega)]; rfl
theorem sm_add (f g : Nat → Int) (n : Nat) : sm (fun j => f j + g j) n = sm f n + sm g n := by
  induction n with
  | zero => rfl
  | succ n ih => rw [sm_succ, sm_succ, sm_succ, ih]; omega
theorem sm_point {n j : Nat} (x : Int) (h : j < n) : sm (fun c => if c = j then x else 0) n = x := by
  induction n with
  | zero => omega
  | succ n ih =>
    rw [sm_succ]
    by_cases e : n = j
    · rw [if_pos e, sm_zero fun c hc => if_neg (by omega)]; omega
    · rw [if_neg e, ih (by omega)]; omega
theorem sm_in {f : Nat → Int} {n : Nat} {M : Int} (h : ∀ j, j < n → 0 ≤ f j ∧ f j ≤ M) : 0 ≤ sm f n ∧ sm f n ≤ n * M := by
  induction n with
  | zero => simp [sm]
  | succ n ih =>
    have a := ih fun j hj => h j (by omega)
    have b := h n (by omega)
    rw [sm_succ]
    have : ((n + 1 : Nat) : Int) * M = n * M + M := by rw [Int.natCast_add, Int.add_mul]; simp
    omega
theorem yesR_sm {us : List Int} {bs : List Bool} (h : us.length = bs.length) : yesR us bs = sm (fun j => if bs.getD j false = true then us.getD j 0 else 0) us.length := by
  have key : ∀ k, k ≤ us.length → yesR (us.take k) (bs.take k) = sm (fun j => if bs.getD j false = true then us.getD j 0 else 0) k := by
    intro k
    induction k with
    | zero => intro _; rfl
    | succ k ih =>
      intro hk
      obtain ⟨u, hu⟩ := at_ us k (by omega)
      obtain ⟨b, hb⟩ := at_ bs k (by omega)
      rw [take_snoc hu, take_snoc hb, yesR_snoc u b (by simp; omega), ih (by omega), sm_succ, List.getD_eq_getElem?_getD, List.getD_eq_getElem?_getD, hu, hb]
      rfl
  have := key us.length (Nat.le_refl _)
  rwa [List.take_length, h, List.take_length, ← h] at this
theorem total_sm (us : List Int) : total us = sm (fun j => us.getD j 0) us.length := by
  have key : ∀ k, k ≤ us.length → total (us.take k) = sm (fun j => us.getD j 0) k := by
    intro k
    induction k with
    | zero => intro _; rfl
    | succ k ih =>
      intro hk
      obtain ⟨u, hu⟩ := at_ us k (by omega)
      rw [take_snoc hu, total_snoc, ih (by omega), sm_succ, List.getD_eq_getElem?_getD, hu]
      rfl
  have := key us.length (Nat.le_refl _)
  rwa [List.take_length] at this

/-- a seat's parent; whether a seat is another one or below it; what a seat has -/
def par (ss : List (Int × Int)) (k : Nat) : Int := (ss.getD k (-1, -1)).1
def bB (ss : List (Int × Int)) (t j : Nat) : Bool := (acc (bl0 t) ss).getD j false
def hN (ss : List (Int × Int)) (us : List Int) (t : Nat) : Int := yesR us (acc (bl0 t) ss)
def cP (ss : List (Int × Int)) (P : Nat → Bool) (j : Nat) : Int := sm (fun c => if (P c && bB ss c j) = true then 1 else 0) ss.length
theorem par_at {ss : List (Int × Int)} {k : Nat} {s : Int × Int} (h : ss[k]? = some s) : par ss k = s.1 := by
  unfold par
  rw [List.getD_eq_getElem?_getD, h]; rfl
theorem bB_at {ss : List (Int × Int)} {t j : Nat} {b : Bool} (h : (acc (bl0 t) ss)[j]? = some b) : bB ss t j = b := by
  unfold bB
  rw [List.getD_eq_getElem?_getD, h]; rfl
theorem bB_self {ss : List (Int × Int)} {t : Nat} (h : t < ss.length) : bB ss t t = true := bB_at (bl_at h)
theorem bB_lo {ss : List (Int × Int)} {t j : Nat} (h : j < t) (hj : j < ss.length) : bB ss t j = false := bB_at (bl_lo h hj)
theorem bB_top {ss : List (Int × Int)} {t j : Nat} (hj : j < ss.length) (hp : par ss j < 0) : bB ss t j = decide (j = t) := by
  obtain ⟨s, hs⟩ := at_ ss j hj
  rw [par_at hs] at hp
  exact bB_at (bl_top hs hp)
theorem bB_up {ss : List (Int × Int)} (h : pre ss) {t j : Nat} (hj : j < ss.length) (hne : j ≠ t) (hp : 0 ≤ par ss j) : (par ss j).toNat < j ∧ bB ss t j = bB ss t (par ss j).toNat := by
  obtain ⟨s, hs⟩ := at_ ss j hj
  rw [par_at hs] at hp ⊢
  obtain ⟨a, b⟩ := bl_up (t := t) h hs hne hp
  refine ⟨a, ?_⟩
  unfold bB
  rw [List.getD_eq_getElem?_getD, List.getD_eq_getElem?_getD, b]
theorem hN_sm {ss : List (Int × Int)} {us : List Int} (h : us.length = ss.length) (t : Nat) : hN ss us t = sm (fun j => if bB ss t j = true then us.getD j 0 else 0) ss.length := by
  unfold hN
  rw [yesR_sm (by rw [acc_length, h]), h]; rfl
theorem cP_top {ss : List (Int × Int)} {P : Nat → Bool} {j : Nat} (hj : j < ss.length) (hp : par ss j < 0) : cP ss P j = if P j = true then 1 else 0 := by
  unfold cP
  rw [← sm_point (n := ss.length) (if P j = true then (1 : Int) else 0) hj]
  refine sm_congr fun c _ => ?_
  rw [bB_top hj hp]
  by_cases e : c = j
  · subst e; simp
  · rw [if_neg e, decide_eq_false (fun h => e h.symm)]; simp
theorem cP_up {ss : List (Int × Int)} (h : pre ss) {P : Nat → Bool} {j : Nat} (hj : j < ss.length) (hp : 0 ≤ par ss j) : cP ss P j = cP ss P (par ss j).toNat + if P j = true then 1 else 0 := by
  have hq : (par ss j).toNat < j := by
    obtain ⟨s, hs⟩ := at_ ss j hj
    have := okS_in (h j s hs)
    rw [par_at hs] at hp ⊢
    omega
  unfold cP
  rw [← sm_point (n := ss.length) (if P j = true then (1 : Int) else 0) hj, ← sm_add]
  refine sm_congr fun c hc => ?_
  by_cases e : c = j
  · subst e
    rw [bB_self hj, bB_lo hq (by omega), if_pos rfl]; simp
  · rw [(bB_up h hj (fun x => e x.symm) hp).2, if_neg e]; simp
/-- the sum of what some seats have is the sum of all units, each as often as it is below one of them -/
theorem sum_exch {ss : List (Int × Int)} {us : List Int} (h : us.length = ss.length) (P : Nat → Bool) : sm (fun c => if P c = true then hN ss us c else 0) ss.length = sm (fun j => cP ss P j * us.getD j 0) ss.length := by
  have key : ∀ k, sm (fun c => if P c = true then hN ss us c else 0) k = sm (fun j => sm (fun c => if (P c && bB ss c j) = true then 1 else 0) k * us.getD j 0) ss.length := by
    intro k
    induction k with
    | zero => exact (sm_zero fun j _ => by simp [sm]).symm
    | succ k ih =>
      rw [sm_succ, ih]
      have e : (if P k = true then hN ss us k else 0) = sm (fun j => if (P k && bB ss k j) = true then us.getD j 0 else 0) ss.length := by
        cases hP : P k
        · exact (sm_zero fun j _ => by simp).symm
        · rw [if_pos rfl, hN_sm h]
          exact sm_congr fun j _ => by simp
      rw [e, ← sm_add]
      refine sm_congr fun j _ => ?_
      rw [sm_succ, Int.add_mul]
      cases (P k && bB ss k j) <;> simp
  exact key ss.length
theorem cP_kids {ss : List (Int × Int)} (h : pre ss) (i : Nat) : ∀ j, j < ss.length → cP ss (fun c => par ss c == (i : Int)) j = if (bB ss i j && j != i) = true then 1 else 0 := by
  intro j
  induction j using Nat.strongRecOn with
  | ind j ih =>
    intro hj
    by_cases hp : par ss j < 0
    · rw [cP_top hj hp, bB_top hj hp, if_neg (by simp; omega), if_neg (by simp)]
    · have hp' : 0 ≤ par ss j := by omega
      have hq : (par ss j).toNat < j := by
        obtain ⟨s, hs⟩ := at_ ss j hj
        have := okS_in (h j s hs)
        rw [par_at hs] at hp' ⊢
        omega
      rw [cP_up h hj hp', ih _ hq (by omega)]
      by_cases e : j = i
      · subst e
        rw [bB_lo hq (by omega), if_neg (by simp), if_neg (by simp; omega), if_neg (by simp)]; rfl
      · rw [(bB_up h (t := i) hj e hp').2]
        by_cases e2 : (par ss j).toNat = i
        · have e3 : par ss j = (i : Int) := by omega
          rw [e2, if_neg (by simp), if_pos (by simp [e3]), bB_self (by omega), if_pos (by simp [e])]; rfl
        · have e3 : ¬ par ss j = (i : Int) := by omega
          rw [if_neg (show ¬ (par ss j == (i : Int)) = true by simp [e3])]
          cases bB ss i (par ss j).toNat <;> simp [e, e2]
theorem cP_roots {ss : List (Int × Int)} (h : pre ss) : ∀ j, j < ss.length → cP ss (fun c => decide (par ss c < 0)) j = 1 := by
  intro j
  induction j using Nat.strongRecOn with
  | ind j ih =>
    intro hj
    by_cases hp : par ss j < 0
    · rw [cP_top hj hp, if_pos (by simpa using hp)]
    · have hp' : 0 ≤ par ss j := by omega
      have hq : (par ss j).toNat < j := by
        obtain ⟨s, hs⟩ := at_ ss j hj
        have := okS_in (h j s hs)
        rw [par_at hs] at hp' ⊢
        omega
      rw [cP_up h hj hp', ih _ hq (by omega), if_neg (by simpa using hp)]; rfl
/-- what is right below a seat, together -/
def kids (ss : List (Int × Int)) (us : List Int) (i : Nat) (k : Nat) : Int := sm (fun c => if (par ss c == (i : Int)) = true then hN ss us c else 0) k
def rootS (ss : List (Int × Int)) (us : List Int) (k : Nat) : Int := sm (fun c => if decide (par ss c < 0) = true then hN ss us c else 0) k
theorem has_kids {ss : List (Int × Int)} {us : List Int} (h : pre ss) (hl : us.length = ss.length) {i : Nat} (hi : i < ss.length) : hN ss us i = kids ss us i ss.length + us.getD i 0 := by
  unfold kids
  rw [sum_exch hl (fun c => par ss c == (i : Int)), hN_sm hl, ← sm_point (n := ss.length) (us.getD i 0) hi, ← sm_add]
  refine sm_congr fun j hj => ?_
  rw [cP_kids h i j hj]
  by_cases e : j = i
  · subst e
    rw [bB_self hj]; simp
  · rw [if_neg e]
    cases bB ss i j <;> simp [e]
theorem roots_all {ss : List (Int × Int)} {us : List Int} (h : pre ss) (hl : us.length = ss.length) : rootS ss us ss.length = total us := by
  unfold rootS
  rw [sum_exch hl (fun c => decide (par ss c < 0)), total_sm, hl]
  exact sm_congr fun j hj => by rw [cP_roots h j hj]; omega
theorem kids_leaf {ss : List (Int × Int)} {us : List Int} {i : Nat} (hi : i < ss.length) (h : lf ss i = true) : kids ss us i ss.length = 0 := by
  refine sm_zero fun c hc => if_neg fun e => ?_
  obtain ⟨s, hs⟩ := at_ ss c hc
  have e := eq_of_beq e
  rw [par_at hs] at e
  rw [(lf_no hi).2 ⟨c, s, hs, e⟩] at h
  cases h
theorem hN_leaf {ss : List (Int × Int)} {us : List Int} (hv : vd ss us = true) {i : Nat} (hi : i < ss.length) (h : lf ss i = true) : hN ss us i = us.getD i 0 := by
  have hd := vd_in hv
  rw [has_kids (pre_of hd.1) hd.2.1 hi, kids_leaf hi h]; omega
theorem hN_node {ss : List (Int × Int)} {us : List Int} (hv : vd ss us = true) {i : Nat} (hi : i < ss.length) (h : lf ss i = false) : hN ss us i = kids ss us i ss.length := by
  have hd := vd_in hv
  rw [has_kids (pre_of hd.1) hd.2.1 hi]
  obtain ⟨u, hu⟩ := at_ us i (by rw [hd.2.1]; exact hi)
  have h1 := okR_of_U hd.2.1 hd.2.2.1 i (by rw [hd.2.1]; exact hi)
  rw [okR_at hu, h, Bool.or_false, Bool.and_eq_true] at h1
  have a := of_decide_eq_true h1.1
  have b := of_decide_eq_true h1.2
  rw [List.getD_eq_getElem?_getD, hu]
  simp only [Option.getD_some]
  omega
theorem hN_in {ss : List (Int × Int)} {us : List Int} (hv : vd ss us = true) (i : Nat) : 0 ≤ hN ss us i ∧ hN ss us i ≤ 1000000000 := by
  have hd := vd_in hv
  have := yesR_in (acc (bl0 i) ss) (vd_all hv)
  unfold hN
  omega
theorem kids_in {ss : List (Int × Int)} {us : List Int} (hv : vd ss us = true) (i k : Nat) : 0 ≤ kids ss us i k ∧ kids ss us i k ≤ k * 1000000000 := sm_in fun c _ => by
  have := hN_in hv c
  split <;> omega
theorem roots_in {ss : List (Int × Int)} {us : List Int} (hv : vd ss us = true) (k : Nat) : 0 ≤ rootS ss us k ∧ rootS ss us k ≤ k * 1000000000 := sm_in fun c _ => by
  have := hN_in hv c
  split <;> omega
theorem hO_is {ss : List (Int × Int)} {us : List Int} (hv : vd ss us = true) {i : Nat} (hi : i < ss.length) : hO ss us i = hN ss us i := by
  unfold hO
  rw [if_pos ⟨by omega, by omega, hv⟩, Int.toNat_natCast]; rfl
theorem kids_yes {ss : List (Int × Int)} {us : List Int} {i k : Nat} {s : Int × Int} (hs : ss[k]? = some s) (h : (s.1 == (i : Int)) = true) : kids ss us i (k + 1) = kids ss us i k + hN ss us k := by
  unfold kids
  rw [sm_succ, par_at hs, if_pos h]
theorem kids_no {ss : List (Int × Int)} {us : List Int} {i k : Nat} {s : Int × Int} (hs : ss[k]? = some s) (h : (s.1 == (i : Int)) = false) : kids ss us i (k + 1) = kids ss us i k := by
  unfold kids
  rw [sm_succ, par_at hs, h, if_neg (by simp)]; omega
theorem roots_yes {ss : List (Int × Int)} {us : List Int} {k : Nat} {s : Int × Int} (hs : ss[k]? = some s) (h : s.1 < 0) : rootS ss us (k + 1) = rootS ss us k + hN ss us k := by
  unfold rootS
  rw [sm_succ, par_at hs, if_pos (by simpa using h)]
theorem roots_no {ss : List (Int × Int)} {us : List Int} {k : Nat} {s : Int × Int} (hs : ss[k]? = some s) (h : 0 ≤ s.1) : rootS ss us (k + 1) = rootS ss us k := by
  unfold rootS
  rw [sm_succ, par_at hs, if_neg (by simp; omega)]; omega
end Go.Proofs.Ytpekedhcnijgcaa.Book
