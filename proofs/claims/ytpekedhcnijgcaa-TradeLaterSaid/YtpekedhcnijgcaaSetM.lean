/- What settling keeps, in plain words. -/
import Derived.Test.YtpekedhcnijgcaaTrdY
import Derived.Test.YtpekedhcnijgcaaEntM
namespace Go.Proofs.Ytpekedhcnijgcaa.Book
open Go.ChangeShapes Go.WideShapes Go.ChangeAt Go.RowKit Go.Proofs.Ytpekedhcnijgcaa.Cell
set_option linter.unusedVariables false
set_option linter.unusedSimpArgs false

/-- what every step keeps holds at last -/
theorem stlW_ind {ss : List (Int × Int)} {N : Nat} {day : Int} {P : List Int → List Tr → Prop} (d0 : 0 ≤ day) (d1 : day ≤ 200000)
    (hs : ∀ H L (i : Nat) x, Gd ss N H L → P H L → L[i]? = some x → can day H x = true → (∀ y ∈ L.take i, can day H y = false) → P (stH H x) (stL day L i x)) :
    ∀ (k : Nat) (H : List Int) (L : List Tr), wt L ≤ k → Gd ss N H L → P H L → Gd ss N (stlW day H L).1 (stlW day H L).2 ∧ P (stlW day H L).1 (stlW day H L).2 ∧ ∀ y ∈ (stlW day H L).2, can day (stlW day H L).1 y = false := by
  intro k
  induction k with
  | zero =>
    intro H L hk g p
    rcases idx_cases (can day H) L with ⟨hno, _⟩ | ⟨i, x, hx, hc, _, _⟩
    · rw [stlW_stop hno]; exact ⟨g, p, hno⟩
    · have := wt_pos d0 hx hc; omega
  | succ k ih =>
    intro H L hk g p
    rcases idx_cases (can day H) L with ⟨hno, _⟩ | ⟨i, x, hx, hc, ht, _⟩
    · rw [stlW_stop hno]; exact ⟨g, p, hno⟩
    · rw [stlW_go d0 ht hx hc]
      have hw := wt_step (l := L) (i := i) d0 hx (can_in hc).1
      exact ih _ _ (by omega) (g.step d0 d1 hx hc) (hs H L i x g p hx hc ht)
def dsum (day j : Int) : List Tr → Int
  | [] => 0
  | x :: l => dlt day x j + dsum day j l
theorem dsum_app (day j : Int) (a b : List Tr) : dsum day j (a ++ b) = dsum day j a + dsum day j b := by
  induction a with
  | nil => simp [dsum]
  | cons x a ih => simp only [List.cons_append, dsum, ih]; omega
theorem dsum_set {day j : Int} {l : List Tr} {i : Nat} {x : Tr} (y : Tr) (h : l[i]? = some x) : dsum day j (l.set i y) + dlt day x j = dsum day j l + dlt day y j := by
  induction l generalizing i with
  | nil => simp at h
  | cons z l ih =>
    cases i with
    | zero => simp at h; subst h; simp only [List.set_cons_zero, dsum]; omega
    | succ i => simp at h; have := ih h; simp only [List.set_cons_succ, dsum]; omega
theorem sums_at {day : Int} {j : Nat} : ∀ (l : List Tr) (us : List Int), (∀ x ∈ l, (0 ≤ x.f ∧ x.f < us.length) ∧ (0 ≤ x.t ∧ x.t < us.length)) → (sums day us l).getD j 0 = us.getD j 0 + dsum day j l
  | [], us, _ => by simp [sums, dsum]
  | x :: l, us, h => by
    obtain ⟨m1, m2⟩ := h x (by simp)
    have ih := sums_at (day := day) (j := j) l (stp day us x) (fun y hy => by rw [stp_length]; exact h y (by simp [hy]))
    have hs := stp_at (day := day) (us := us) (x := x) (j := (j : Int)) m1 m2 (by omega)
    rw [Int.toNat_natCast] at hs
    show (sums day (stp day us x) l).getD j 0 = _
    rw [ih, hs, dsum]
    omega
theorem Rt.bounds {ss : List (Int × Int)} {us : List Int} {l : List Tr} (h : Rt ss us l) : ∀ x ∈ l, (0 ≤ x.f ∧ x.f < us.length) ∧ (0 ≤ x.t ∧ x.t < us.length) := fun x hx => by
  obtain ⟨k, hk⟩ := List.getElem?_of_mem hx
  obtain ⟨a, b, _⟩ := h.mem hk
  exact ⟨a, b⟩
theorem dlt_sale {day j : Int} {x : Tr} (hk : x.k = 0) (ho : x.o = -1) (hd : x.d ≤ day) (h0 : 0 ≤ day) : dlt day x j = (if x.f = j then -x.u else 0) + (if x.t = j then x.u else 0) ∧ dlt day (setl day x) j = 0 := by
  have e1 : late day x = true := decide_eq_true ⟨hk, hd, .inl ho⟩
  have e2 : late day (setl day x) = false := decide_eq_false (by unfold setl; dsimp only; omega)
  have e3 : runs day (setl day x) = false := decide_eq_false (by unfold setl; dsimp only; omega)
  refine ⟨by unfold dlt; rw [if_pos e1], ?_⟩
  unfold dlt
  rw [if_neg (by rw [e2]; simp), if_neg (by rw [e3]; simp)]
theorem dlt_loan {day j : Int} {x : Tr} (hk : x.k = 1) (ho : x.o = -1) (hd : x.d ≤ day) (h0 : 0 ≤ day) : dlt day x j = 0 ∧ dlt day (setl day x) j + dlt day (bck day x) j = (if x.f = j then x.u else 0) + (if x.t = j then -x.u else 0) := by
  have e1 : late day x = false := decide_eq_false (by omega)
  have e2 : runs day x = false := decide_eq_false (by omega)
  have e3 : late day (setl day x) = false := decide_eq_false (by unfold setl; dsimp only; omega)
  have e4 : runs day (bck day x) = false := decide_eq_false (by unfold bck; dsimp only; omega)
  refine ⟨by unfold dlt; rw [if_neg (by rw [e1]; simp), if_neg (by rw [e2]; simp)], ?_⟩
  by_cases hb : day < x.b
  · have e5 : runs day (setl day x) = true := decide_eq_true (by unfold setl; dsimp only; omega)
    have e6 : late day (bck day x) = false := decide_eq_false (by unfold bck; dsimp only; omega)
    have q1 : dlt day (setl day x) j = (if x.f = j then x.u else 0) + (if x.t = j then -x.u else 0) := by unfold dlt; rw [if_neg (by rw [e3]; simp), if_pos e5]; rfl
    have q2 : dlt day (bck day x) j = 0 := by unfold dlt; rw [if_neg (by rw [e6]; simp), if_neg (by rw [e4]; simp)]
    rw [q1, q2]; omega
  · have e5 : runs day (setl day x) = false := decide_eq_false (by unfold setl; dsimp only; omega)
    have e6 : late day (bck day x) = true := decide_eq_true (by unfold bck; dsimp only; omega)
    have q1 : dlt day (setl day x) j = 0 := by unfold dlt; rw [if_neg (by rw [e3]; simp), if_neg (by rw [e5]; simp)]
    have q2 : dlt day (bck day x) j = (if x.t = j then -x.u else 0) + (if x.f = j then x.u else 0) := by unfold dlt; rw [if_pos e6]; rfl
    rw [q1, q2]; omega
theorem sums_step {ss : List (Int × Int)} {N : Nat} {day : Int} {H : List Int} {L : List Tr} {i : Nat} {x : Tr} (g : Gd ss N H L) (d0 : 0 ≤ day) (d1 : day ≤ 200000) (hx : L[i]? = some x) (hc : can day H x = true) : sums day (stH H x) (stL day L i x) = sums day H L := by
  have g2 := g.step d0 d1 hx hc
  obtain ⟨c1, c2, c3⟩ := can_in hc
  obtain ⟨m1, m2, m3, _, _⟩ := g.rt.mem hx
  have c := of_decide_eq_true m3
  have hl : (stH H x).length = H.length := mvL_len _ _ _ _
  refine ext_getD (by rw [sums_length, sums_length, hl]) fun j hj => ?_
  rw [sums_length, hl] at hj
  rw [sums_at _ _ g2.rt.bounds, sums_at _ _ g.rt.bounds]
  have hm := mvL_at (us := H) (f := x.f.toNat) (t := x.t.toNat) x.u (by omega) (by omega) j hj
  have hs := dsum_set (day := day) (j := (j : Int)) (setl day x) hx
  show (mvL H x.f.toNat x.t.toNat x.u).getD j 0 + _ = _
  rw [hm]
  have a1 : (j = x.f.toNat) = (x.f = (j : Int)) := propext ⟨fun h => by omega, fun h => by omega⟩
  have a2 : (j = x.t.toNat) = (x.t = (j : Int)) := propext ⟨fun h => by omega, fun h => by omega⟩
  simp only [a1, a2]
  rcases (show x.k = 0 ∨ x.k = 1 by omega) with hk | hk
  · obtain ⟨q1, q2⟩ := dlt_sale (j := (j : Int)) hk c1 c2 d0
    have e : stL day L i x = L.set i (setl day x) := if_neg (by omega)
    rw [e]
    rw [q1, q2] at hs
    omega
  · obtain ⟨q1, q2⟩ := dlt_loan (j := (j : Int)) hk c1 c2 d0
    have e : stL day L i x = L.set i (setl day x) ++ [bck day x] := if_pos hk
    rw [e, dsum_app]
    rw [q1] at hs
    have q3 : dsum day (j : Int) [bck day x] = dlt day (bck day x) (j : Int) := by simp [dsum]
    rw [q3]
    have q4 : (if x.f = (j : Int) then -x.u else 0) = -(if x.f = (j : Int) then x.u else 0) := by split <;> omega
    have q5 : (if x.t = (j : Int) then -x.u else 0) = -(if x.t = (j : Int) then x.u else 0) := by split <;> omega
    rw [q5] at q2
    rw [q4]
    omega
theorem pd_settled {ss : List (Int × Int)} {us : List Int} {l : List Tr} {day : Int} {R : List Int × List Tr} {L : List (Int × Int)} (hl : l.length ≤ 12) (h : stO ss us l day = (R, 0)) (hp : pdO ss us l day = (L, 0)) : pdO ss R.1 R.2 day = (L, 0) ∧ R.1.length = ss.length ∧ R.2.length ≤ 36 := by
  unfold stO at h
  split at h
  · rename_i c
    obtain ⟨hv, hr, d0, d1⟩ := c
    obtain rfl : stlW day us l = R := by injection h
    have g : Gd ss 36 us l := ⟨⟨hv, hr⟩, by have := wt_le l; omega, by omega⟩
    obtain ⟨g2, e, _⟩ := stlW_ind (P := fun H L => sums day H L = sums day us l) d0 d1 (fun H L i x g p hx hc _ => by rw [sums_step g d0 d1 hx hc, p]) (wt l) us l (Nat.le_refl _) g rfl
    refine ⟨?_, g2.rt.len, by have := g2.len; omega⟩
    unfold pdO at hp ⊢
    rw [if_pos ⟨hv, hr, d0, d1⟩] at hp
    rw [if_pos ⟨g2.rt.v, g2.rt.r, d0, d1⟩, e]
    exact hp
  · cases h
theorem both_err {ss : List (Int × Int)} {us : List Int} {l : List Tr} {day E F : Int} {R : List Int × List Tr} {L : List (Int × Int)} (h : stO ss us l day = (R, F)) (hp : pdO ss us l day = (L, E)) : (E = 0 ∧ F = 0) ∨ (E = 1 ∧ F = 1) := by
  unfold stO at h
  unfold pdO at hp
  split at h
  · rename_i c
    rw [if_pos c] at hp
    injection h with _ h2
    injection hp with _ h3
    exact .inl ⟨h3.symm, h2.symm⟩
  · rename_i c
    rw [if_neg c] at hp
    injection h with _ h2
    injection hp with _ h3
    exact .inr ⟨h3.symm, h2.symm⟩
/-- no trade counts on the day -/
def plT (day : Int) (x : Tr) : Bool := !late day x && !runs day x
def plB (day : Int) (l : List Tr) : Bool := l.all (plT day)
theorem plB_snoc (day : Int) (l : List Tr) (x : Tr) : plB day (l ++ [x]) = (plB day l && plT day x) := by simp [plB]
theorem plain_sums {ss : List (Int × Int)} {us : List Int} {l : List Tr} {day : Int} (h : Rt ss us l) (hp : plB day l = true) : sums day us l = us := by
  refine ext_getD (by rw [sums_length]) fun j hj => ?_
  rw [sums_at _ _ h.bounds]
  have key : ∀ m : List Tr, plB day m = true → dsum day (j : Int) m = 0 := by
    intro m
    induction m with
    | nil => intro _; rfl
    | cons x m ih =>
      intro hm
      unfold plB at hm
      rw [List.all_cons, Bool.and_eq_true] at hm
      have hx := hm.1
      unfold plT at hx
      rw [Bool.and_eq_true] at hx
      rw [dsum, ih hm.2]
      unfold dlt
      rw [if_neg (by intro c; rw [c] at hx; cases hx.1), if_neg (by intro c; rw [c] at hx; cases hx.2)]
      rfl
  rw [key l hp]; omega
theorem pd_plain {ss : List (Int × Int)} {us : List Int} {l : List Tr} {day : Int} {L : List (Int × Int)} (h : pdO ss us l day = (L, 0)) (hp : plB day l = true) : sel (pf us) ss.length = L ∧ us.length = ss.length := by
  unfold pdO at h
  split at h
  · rename_i c
    have R : Rt ss us l := ⟨c.1, c.2.1⟩
    rw [plain_sums R hp] at h
    exact ⟨by injection h, R.len⟩
  · cases h
end Go.Proofs.Ytpekedhcnijgcaa.Book
