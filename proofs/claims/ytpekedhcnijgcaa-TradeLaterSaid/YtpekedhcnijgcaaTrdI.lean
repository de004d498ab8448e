/- A further trade that cannot settle changes nothing else; what seats have changes by what settles; in plain words. -/
import Derived.Test.YtpekedhcnijgcaaSetM
namespace Go.Proofs.Ytpekedhcnijgcaa.Book
open Go.ChangeShapes Go.WideShapes Go.ChangeAt Go.RowKit Go.Proofs.Ytpekedhcnijgcaa.Cell
set_option linter.unusedVariables false
set_option linter.unusedSimpArgs false

def sft (p i : Nat) : Nat := if i < p then i else i + 1
theorem later_at {P Q : List Tr} {t x : Tr} {i : Nat} (hx : (P ++ Q)[i]? = some x) : (P ++ t :: Q)[sft P.length i]? = some x := by
  unfold sft
  by_cases h : i < P.length
  · rw [if_pos h]
    rw [List.getElem?_append_left h] at hx ⊢
    exact hx
  · rw [if_neg h]
    rw [List.getElem?_append_right (by omega)] at hx ⊢
    rw [show i + 1 - P.length = (i - P.length) + 1 by omega, List.getElem?_cons_succ]
    exact hx
theorem later_take {P Q : List Tr} {t y : Tr} {i : Nat} (hy : y ∈ (P ++ t :: Q).take (sft P.length i)) : y = t ∨ y ∈ (P ++ Q).take i := by
  unfold sft at hy
  by_cases h : i < P.length
  · rw [if_pos h, List.take_append_of_le_length (by omega)] at hy
    rw [List.take_append_of_le_length (by omega)]
    exact .inr hy
  · rw [if_neg h, List.take_append, show i + 1 - P.length = (i - P.length) + 1 by omega, List.take_succ_cons, List.mem_append, List.mem_cons, List.take_of_length_le (by omega)] at hy
    rw [List.take_append, List.mem_append, List.take_of_length_le (by omega)]
    rcases hy with h | h | h
    · exact .inr (.inl h)
    · exact .inl h
    · exact .inr (.inr h)
theorem later_set {P Q : List Tr} {i : Nat} (z : Tr) (hi : i < (P ++ Q).length) : ∃ P' Q', P'.length = P.length ∧ (P ++ Q).set i z = P' ++ Q' ∧ ∀ t : Tr, (P ++ t :: Q).set (sft P.length i) z = P' ++ t :: Q' := by
  unfold sft
  by_cases h : i < P.length
  · refine ⟨P.set i z, Q, by simp, List.set_append_left _ _ h, fun t => ?_⟩
    rw [if_pos h, List.set_append_left _ _ h]
  · refine ⟨P, Q.set (i - P.length) z, rfl, List.set_append_right _ _ (by omega), fun t => ?_⟩
    rw [if_neg h, List.set_append_right _ _ (by omega), show i + 1 - P.length = (i - P.length) + 1 by omega, List.set_cons_succ]
theorem later_step {day : Int} {P Q : List Tr} {i : Nat} {x : Tr} (hx : (P ++ Q)[i]? = some x) : ∃ P' Q', P'.length = P.length ∧ stL day (P ++ Q) i x = P' ++ Q' ∧ ∀ t : Tr, stL day (P ++ t :: Q) (sft P.length i) x = P' ++ t :: Q' := by
  obtain ⟨P', Q', h1, h2, h3⟩ := later_set (setl day x) (lt_of_at hx)
  unfold stL
  by_cases hk : x.k = 1
  · refine ⟨P', Q' ++ [bck day x], h1, by rw [if_pos hk, h2, List.append_assoc], fun t => ?_⟩
    rw [if_pos hk, h3 t, List.append_assoc, List.cons_append]
  · exact ⟨P', Q', h1, by rw [if_neg hk, h2], fun t => by rw [if_neg hk, h3 t]⟩
theorem later {day : Int} (d0 : 0 ≤ day) {t : Tr} (ht : ∀ H, can day H t = false) : ∀ (k : Nat) (P Q : List Tr) (H : List Int), wt (P ++ Q) ≤ k → ∃ H' P' Q', P'.length = P.length ∧ stlW day H (P ++ Q) = (H', P' ++ Q') ∧ stlW day H (P ++ t :: Q) = (H', P' ++ t :: Q') := by
  intro k
  induction k with
  | zero =>
    intro P Q H hk
    rcases idx_cases (can day H) (P ++ Q) with ⟨hno, _⟩ | ⟨i, x, hx, hc, _, _⟩
    · refine ⟨H, P, Q, rfl, stlW_stop hno, stlW_stop fun y hy => ?_⟩
      rw [List.mem_append, List.mem_cons] at hy
      rcases hy with h | h | h
      · exact hno y (List.mem_append.2 (.inl h))
      · rw [h]; exact ht H
      · exact hno y (List.mem_append.2 (.inr h))
    · have := wt_pos d0 hx hc; omega
  | succ k ih =>
    intro P Q H hk
    rcases idx_cases (can day H) (P ++ Q) with ⟨hno, _⟩ | ⟨i, x, hx, hc, htk, _⟩
    · refine ⟨H, P, Q, rfl, stlW_stop hno, stlW_stop fun y hy => ?_⟩
      rw [List.mem_append, List.mem_cons] at hy
      rcases hy with h | h | h
      · exact hno y (List.mem_append.2 (.inl h))
      · rw [h]; exact ht H
      · exact hno y (List.mem_append.2 (.inr h))
    · obtain ⟨P', Q', e1, e2, e3⟩ := later_step (day := day) hx
      have hw := wt_step (l := P ++ Q) (i := i) d0 hx (can_in hc).1
      rw [e2] at hw
      obtain ⟨H2, P2, Q2, a1, a2, a3⟩ := ih P' Q' (stH H x) (by omega)
      refine ⟨H2, P2, Q2, by rw [a1, e1], ?_, ?_⟩
      · rw [stlW_go d0 htk hx hc, e2, a2]
      · rw [stlW_go (i := sft P.length i) d0 (fun y hy => ?_) (later_at hx) hc, e3 t, a3]
        rcases later_take hy with h | h
        · rw [h]; exact ht H
        · exact htk y h
/-- what a trade that settles changes for a seat -/
def cg (ss : List (Int × Int)) (s : Nat) (x : Tr) : Int := (if bB ss s x.t.toNat = true then x.u else 0) + (if bB ss s x.f.toNat = true then -x.u else 0)
def skp (day : Int) (l0 : List Tr) (k : Nat) (x : Tr) : Bool := decide (x.o ≠ day) || (match l0[k]? with | some y => decide (y.o ≠ -1) | none => false)
def trm (day : Int) (ss : List (Int × Int)) (s : Nat) (l0 m : List Tr) (k : Nat) : Int := match m[k]? with
  | some x => if skp day l0 k x = true then 0 else cg ss s x
  | none => 0
theorem trm_at {day : Int} {ss : List (Int × Int)} {s : Nat} {l0 m : List Tr} {k : Nat} {x : Tr} (h : m[k]? = some x) : trm day ss s l0 m k = if skp day l0 k x = true then 0 else cg ss s x := by
  unfold trm; rw [h]
def cgs (day : Int) (ss : List (Int × Int)) (s : Nat) (l0 m : List Tr) (k : Nat) : Int := sm (trm day ss s l0 m) k
theorem cgs_0 (day : Int) (ss : List (Int × Int)) (l : List Tr) (s : Nat) (hd : 0 ≤ day) : cgs day ss s l l l.length = 0 := by
  refine sm_zero fun j hj => ?_
  obtain ⟨x, hx⟩ := at_ l j hj
  rw [trm_at hx]
  by_cases h : x.o = day
  · have : skp day l j x = true := by unfold skp; rw [hx]; simp; omega
    rw [if_pos this]
  · have : skp day l j x = true := by unfold skp; rw [decide_eq_true h]; rfl
    rw [if_pos this]
theorem skp_open {day : Int} {l0 : List Tr} {k : Nat} {x : Tr} (hd : 0 ≤ day) (h : x.o = -1) : skp day l0 k x = true := by
  unfold skp
  rw [decide_eq_true (show x.o ≠ day by omega)]; rfl
/-- every trade that was there is there, and was open if it is -/
def Was (l0 m : List Tr) : Prop := ∀ (i : Nat) (x y : Tr), m[i]? = some x → l0[i]? = some y → x.o = -1 → y.o = -1
theorem Was.refl (l : List Tr) : Was l l := fun i x y h1 h2 h => by
  rw [h1] at h2; injection h2 with h2; rw [← h2]; exact h
theorem stL_at {day : Int} {L : List Tr} {i : Nat} {x : Tr} (hx : L[i]? = some x) {k : Nat} (hk : k < L.length) : (stL day L i x)[k]? = if k = i then some (setl day x) else L[k]? := by
  have hi := lt_of_at hx
  unfold stL
  by_cases hq : x.k = 1
  · rw [if_pos hq, List.getElem?_append_left (by simpa using hk), List.getElem?_set]
    by_cases e : i = k
    · rw [if_pos e, if_pos hi, if_pos e.symm]
    · rw [if_neg e, if_neg (Ne.symm e)]
  · rw [if_neg hq, List.getElem?_set]
    by_cases e : i = k
    · rw [if_pos e, if_pos hi, if_pos e.symm]
    · rw [if_neg e, if_neg (Ne.symm e)]
theorem stL_new {day : Int} {L : List Tr} {i : Nat} {x y : Tr} {k : Nat} (hk : L.length ≤ k) (h : (stL day L i x)[k]? = some y) : y = bck day x := by
  unfold stL at h
  by_cases hq : x.k = 1
  · rw [if_pos hq, List.getElem?_append_right (by simpa using hk)] at h
    exact List.mem_singleton.1 (mem_of_at h)
  · rw [if_neg hq, List.getElem?_eq_none (by simpa using hk)] at h
    cases h
theorem Was.step {l0 L : List Tr} {day : Int} {i : Nat} {x : Tr} (h : Was l0 L) (hd : 0 ≤ day) (hl : l0.length ≤ L.length) (hx : L[i]? = some x) : Was l0 (stL day L i x) := fun k y z h1 h2 h3 => by
  have hk : k < L.length := by have := lt_of_at h2; omega
  rw [stL_at hx hk] at h1
  split at h1
  · injection h1 with h1
    rw [← h1] at h3
    have : day = -1 := h3
    omega
  · exact h k y z h1 h2 h3
theorem cgs_step {day : Int} {ss : List (Int × Int)} {s : Nat} {l0 L : List Tr} {i : Nat} {x : Tr} (hd : 0 ≤ day) (hw : Was l0 L) (hx : L[i]? = some x) (ho : x.o = -1) : cgs day ss s l0 (stL day L i x) (stL day L i x).length = cgs day ss s l0 L L.length + cg ss s x := by
  have hi := lt_of_at hx
  have e1 : cgs day ss s l0 (stL day L i x) (stL day L i x).length = cgs day ss s l0 (stL day L i x) L.length := by
    have hn : ∀ k y, L.length ≤ k → (stL day L i x)[k]? = some y → trm day ss s l0 (stL day L i x) k = 0 := fun k y hk hy => by
      rw [trm_at hy, if_pos]
      rw [stL_new hk hy]
      exact skp_open hd rfl
    unfold stL at hn ⊢
    by_cases hq : x.k = 1
    · rw [if_pos hq] at hn ⊢
      have : (L.set i (setl day x) ++ [bck day x]).length = L.length + 1 := by simp
      unfold cgs
      rw [this, sm_succ, hn L.length (bck day x) (Nat.le_refl _) (by rw [List.getElem?_append_right (by simp)]; simp)]
      omega
    · rw [if_neg hq]; unfold cgs; rw [List.length_set]
  rw [e1]
  unfold cgs
  rw [← sm_point (cg ss s x) hi, ← sm_add]
  refine sm_congr fun j hj => ?_
  obtain ⟨y, hy⟩ := at_ L j hj
  rw [trm_at hy]
  by_cases e : j = i
  · subst e
    rw [hx] at hy; injection hy with hy; subst hy
    rw [trm_at (x := setl day x) (by rw [stL_at hx hj, if_pos rfl]), if_pos (skp_open hd ho), if_pos rfl]
    have : skp day l0 j (setl day x) = false := by
      unfold skp
      have a : decide ((setl day x).o ≠ day) = false := decide_eq_false (fun c => c rfl)
      rw [a, Bool.false_or]
      cases e : l0[j]? with
      | none => rfl
      | some z => exact decide_eq_false (fun c => c (hw j x z hx e ho))
    rw [this]
    simp only [Bool.false_eq_true, if_false]
    show cg ss s x = _
    omega
  · rw [trm_at (x := y) (by rw [stL_at hx hj, if_neg e]; exact hy), if_neg e]
    omega
theorem cg_has {ss : List (Int × Int)} {N : Nat} {H : List Int} {L : List Tr} {i : Nat} {x : Tr} (g : Gd ss N H L) (hx : L[i]? = some x) (s : Nat) : hN ss (stH H x) s = hN ss H s + cg ss s x ∧ total (stH H x) = total H := by
  obtain ⟨m1, m2, _⟩ := g.rt.mem hx
  have hl := g.rt.len
  unfold stH cg
  refine ⟨?_, mvL_total _ (by omega) (by omega)⟩
  rw [mvL_has _ hl (by omega) (by omega)]
  omega
/-- what settling changes -/
structure Mvd (day : Int) (ss : List (Int × Int)) (us : List Int) (l : List Tr) (H : List Int) (L : List Tr) : Prop where
  ch : ∀ s, hN ss H s = hN ss us s + cgs day ss s l L L.length
  tt : total H = total us
  ln : l.length ≤ L.length
  ws : Was l L
theorem settled {ss : List (Int × Int)} {us : List Int} {l : List Tr} {day : Int} {R : List Int × List Tr} (hq : l.length ≤ 12) (h : stO ss us l day = (R, 0)) : Mvd day ss us l R.1 R.2 ∧ vd ss R.1 = true ∧ rtT ss R.2 = true ∧ (∀ y ∈ R.2, can day R.1 y = false) ∧ R.2.length ≤ 36 ∧ vd ss us = true ∧ rtT ss l = true ∧ 0 ≤ day ∧ day ≤ 200000 := by
  unfold stO at h
  by_cases c : vd ss us = true ∧ rtT ss l = true ∧ 0 ≤ day ∧ day ≤ 200000
  · rw [if_pos c] at h
    injection h with h _
    obtain ⟨hv, hr, d0, d1⟩ := c
    have hw := wt_le l
    obtain ⟨g, p, f⟩ := stlW_ind (ss := ss) (N := 36) (day := day) (P := Mvd day ss us l) d0 d1 (fun H L i x g p hx hc _ => by
      refine ⟨fun s => ?_, ?_, by have := len_step (day := day) (l := L) (i := i) (x := x); have := p.ln; omega, p.ws.step d0 p.ln hx⟩
      · rw [(cg_has g hx s).1, cgs_step d0 p.ws hx (can_in hc).1, p.ch s]; omega
      · rw [(cg_has g hx 0).2, p.tt]) (wt l) us l (Nat.le_refl _) ⟨⟨hv, hr⟩, by omega, by omega⟩ ⟨fun s => by rw [cgs_0 day ss l s d0]; omega, rfl, Nat.le_refl _, Was.refl l⟩
    rw [h] at g p f
    exact ⟨p, g.rt.v, g.rt.r, f, by have := g.len; omega, hv, hr, d0, d1⟩
  · rw [if_neg c] at h
    injection h with _ h
    cases h
theorem cg_in {ss : List (Int × Int)} {s : Nat} {x : Tr} (h : okD x = true) : -1000000000 ≤ cg ss s x ∧ cg ss s x ≤ 1000000000 := by
  obtain ⟨u0, u1, _⟩ := okD_u h
  unfold cg
  split <;> split <;> omega
theorem cgs_in {day : Int} {ss : List (Int × Int)} {s : Nat} {l0 m : List Tr} (h : ∀ x ∈ m, okD x = true) (k : Nat) : -(k * 1000000000) ≤ cgs day ss s l0 m k ∧ cgs day ss s l0 m k ≤ k * 1000000000 := by
  refine sm_abs fun j _ => ?_
  cases e : m[j]? with
  | none => unfold trm; rw [e]; simp
  | some x =>
    rw [trm_at e]
    have := cg_in (ss := ss) (s := s) (h x (mem_of_at e))
    split <;> omega
/-- the numbers of the trades that are open -/
theorem opL_mem {day : Int} {l : List Tr} : ∀ (k : Nat) (j : Int), j ∈ opL day l k → ∃ (i : Nat) (x : Tr), j = (i : Int) ∧ l[i]? = some x ∧ opn day x = true
  | 0, j, h => by simp [opL] at h
  | k + 1, j, h => by
    rw [opL, List.mem_append] at h
    rcases h with h | h
    · exact opL_mem k j h
    · cases e : l[k]? with
      | none => rw [e] at h; simp at h
      | some x =>
        rw [e] at h
        by_cases c : opn day x = true
        · simp only [c, if_true, List.mem_singleton] at h
          exact ⟨k, x, h, e, c⟩
        · simp [c] at h
end Go.Proofs.Ytpekedhcnijgcaa.Book
