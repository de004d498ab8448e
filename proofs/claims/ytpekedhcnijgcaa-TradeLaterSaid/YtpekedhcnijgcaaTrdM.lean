/- Trades that settle, in plain words. -/
import Derived.Test.YtpekedhcnijgcaaMovM
namespace Go.Proofs.Ytpekedhcnijgcaa.Book
open Go.ChangeShapes Go.WideShapes Go.ChangeAt Go.RowKit Go.Proofs.Ytpekedhcnijgcaa.Cell
set_option linter.unusedVariables false
set_option linter.unusedSimpArgs false

def opn (day : Int) (x : Tr) : Bool := decide (x.o = -1 ∧ x.d ≤ day)
def can (day : Int) (H : List Int) (x : Tr) : Bool := opn day x && decide (x.u ≤ H.getD x.f.toNat 0)
def bck (day : Int) (x : Tr) : Tr := ⟨0, x.t, x.f, x.u, day, max x.b day, -1, 0⟩
def setl (day : Int) (x : Tr) : Tr := ⟨x.k, x.f, x.t, x.u, x.m, x.d, day, x.b⟩
def stH (H : List Int) (x : Tr) : List Int := mvL H x.f.toNat x.t.toNat x.u
def stL (day : Int) (l : List Tr) (i : Nat) (x : Tr) : List Tr := if x.k = 1 then l.set i (setl day x) ++ [bck day x] else l.set i (setl day x)
def wt1 (x : Tr) : Nat := if x.o = -1 then (if x.k = 1 then 2 else 1) else 0
def wt : List Tr → Nat
  | [] => 0
  | x :: l => wt1 x + wt l
def stl (day : Int) : Nat → List Int → List Tr → List Int × List Tr
  | 0, H, l => (H, l)
  | n + 1, H, l => match l.findIdx? (can day H) with
    | none => (H, l)
    | some i => match l[i]? with
      | none => (H, l)
      | some x => stl day n (stH H x) (stL day l i x)
def stlW (day : Int) (H : List Int) (l : List Tr) : List Int × List Tr := stl day (wt l) H l
theorem wt_app (a b : List Tr) : wt (a ++ b) = wt a + wt b := by
  induction a with
  | nil => simp [wt]
  | cons x a ih => simp only [List.cons_append, wt, ih]; omega
theorem wt_set {l : List Tr} {i : Nat} {x : Tr} (y : Tr) (h : l[i]? = some x) : wt (l.set i y) + wt1 x = wt l + wt1 y := by
  induction l generalizing i with
  | nil => simp at h
  | cons z l ih =>
    cases i with
    | zero => simp at h; subst h; simp only [List.set_cons_zero, wt]; omega
    | succ i => simp at h; have := ih h; simp only [List.set_cons_succ, wt]; omega
theorem wt_le (l : List Tr) : wt l ≤ 2 * l.length := by
  induction l with
  | nil => simp [wt]
  | cons x l ih =>
    have : wt1 x ≤ 2 := by unfold wt1; split; split <;> omega; omega
    simp only [wt, List.length_cons]; omega
theorem can_in {day : Int} {H : List Int} {x : Tr} (h : can day H x = true) : x.o = -1 ∧ x.d ≤ day ∧ x.u ≤ H.getD x.f.toNat 0 := by
  unfold can opn at h
  rw [Bool.and_eq_true] at h
  have a := of_decide_eq_true h.1
  exact ⟨a.1, a.2, of_decide_eq_true h.2⟩
theorem wt_step {day : Int} {l : List Tr} {i : Nat} {x : Tr} (hd : 0 ≤ day) (h : l[i]? = some x) (ho : x.o = -1) : wt (stL day l i x) + 1 = wt l := by
  have hs := wt_set (setl day x) h
  have e1 : wt1 (setl day x) = 0 := by unfold wt1 setl; rw [if_neg (show ¬ day = -1 by omega)]
  unfold stL
  by_cases hk : x.k = 1
  · rw [if_pos hk, wt_app]
    have e2 : wt1 x = 2 := by unfold wt1; rw [if_pos ho, if_pos hk]
    have e3 : wt [bck day x] = 1 := by simp [wt, wt1, bck]
    omega
  · rw [if_neg hk]
    have e2 : wt1 x = 1 := by unfold wt1; rw [if_pos ho, if_neg hk]
    omega
theorem len_step {day : Int} {l : List Tr} {i : Nat} {x : Tr} : l.length ≤ (stL day l i x).length ∧ (stL day l i x).length ≤ l.length + 1 := by
  unfold stL
  split <;> simp
theorem stl_stop {day : Int} {n : Nat} {H : List Int} {l : List Tr} (h : ∀ y ∈ l, can day H y = false) : stl day n H l = (H, l) := by
  cases n with
  | zero => rfl
  | succ n => rw [stl, List.findIdx?_eq_none_iff.2 h]
theorem stl_go {day : Int} {n : Nat} {H : List Int} {l : List Tr} {i : Nat} {x : Tr} (h : ∀ y ∈ l.take i, can day H y = false) (hx : l[i]? = some x) (hc : can day H x = true) : stl day (n + 1) H l = stl day n (stH H x) (stL day l i x) := by
  have hk := lt_of_at hx
  have : l.findIdx? (can day H) = some i := by
    rw [List.findIdx?_eq_some_iff_getElem]
    refine ⟨hk, by rw [(List.getElem?_eq_some_iff.1 hx).2]; exact hc, fun j hj => ?_⟩
    have := h l[j] (List.mem_of_getElem? (i := j) (by rw [List.getElem?_take_of_lt hj]; exact List.getElem?_eq_getElem (by omega)))
    simp [this]
  rw [stl, this]
  simp only [hx]
theorem stlW_stop {day : Int} {H : List Int} {l : List Tr} (h : ∀ y ∈ l, can day H y = false) : stlW day H l = (H, l) := stl_stop h
theorem stlW_go {day : Int} {H : List Int} {l : List Tr} {i : Nat} {x : Tr} (hd : 0 ≤ day) (h : ∀ y ∈ l.take i, can day H y = false) (hx : l[i]? = some x) (hc : can day H x = true) : stlW day H l = stlW day (stH H x) (stL day l i x) := by
  have := wt_step hd hx (can_in hc).1
  unfold stlW
  rw [← this, stl_go h hx hc]
theorem wt_pos {day : Int} {l : List Tr} {H : List Int} {i : Nat} {x : Tr} (hd : 0 ≤ day) (hx : l[i]? = some x) (hc : can day H x = true) : 0 < wt l := by
  have := wt_step hd hx (can_in hc).1
  omega
/-- what the loop keeps -/
structure Gd (ss : List (Int × Int)) (N : Nat) (H : List Int) (l : List Tr) : Prop where
  rt : Rt ss H l
  len : l.length + wt l ≤ N
  n : N ≤ 10000
theorem set_mem {α : Type} {l : List α} {i : Nat} {y z : α} (h : z ∈ l.set i y) : z = y ∨ z ∈ l := by
  rcases List.mem_or_eq_of_mem_set h with h | h
  · exact .inr h
  · exact .inl h
theorem okT_setl {ss : List (Int × Int)} {day : Int} {x : Tr} (h : okT ss x = true) (d0 : 0 ≤ day) (d1 : day ≤ 200000) (hx : x.d ≤ day) : okT ss (setl day x) = true := by
  obtain ⟨a, b, c⟩ := okT_in h
  unfold okT
  have c' := of_decide_eq_true c
  rw [show lf ss (setl day x).f = true from a, show lf ss (setl day x).t = true from b]
  show okD (setl day x) = true
  exact decide_eq_true (by unfold setl; dsimp only; omega)
theorem okT_bck {ss : List (Int × Int)} {day : Int} {x : Tr} (h : okT ss x = true) (d0 : 0 ≤ day) (d1 : day ≤ 200000) (hk : x.k = 1) : okT ss (bck day x) = true := by
  obtain ⟨a, b, c⟩ := okT_in h
  unfold okT
  have c' := of_decide_eq_true c
  rw [show lf ss (bck day x).f = true from b, show lf ss (bck day x).t = true from a]
  show okD (bck day x) = true
  exact decide_eq_true (by unfold bck; dsimp only; omega)
theorem Gd.step {ss : List (Int × Int)} {N : Nat} {H : List Int} {l : List Tr} {day : Int} {i : Nat} {x : Tr} (g : Gd ss N H l) (d0 : 0 ≤ day) (d1 : day ≤ 200000) (hx : l[i]? = some x) (hc : can day H x = true) : Gd ss N (stH H x) (stL day l i x) := by
  obtain ⟨c1, c2, c3⟩ := can_in hc
  obtain ⟨m1, m2, m3, m4, m5⟩ := g.rt.mem hx
  obtain ⟨u0, u1, une⟩ := okD_u m3
  have hr := rtT_in g.rt.r
  have hok := hr.2.2 x (mem_of_at hx)
  have hw := wt_step d0 hx c1
  have hl := len_step (day := day) (l := l) (i := i) (x := x)
  have hN := g.len
  have hN2 := g.n
  refine ⟨⟨?_, ?_⟩, by omega, hN2⟩
  · unfold stH
    exact mvL_vd g.rt.v (by rw [show ((x.f.toNat : Nat) : Int) = x.f by omega]; exact m4) (by rw [show ((x.t.toNat : Nat) : Int) = x.t by omega]; exact m5) u0 c3
  · refine rtT_on hr.1 (by omega) fun y hy => ?_
    unfold stL at hy
    split at hy
    · next hk =>
      rw [List.mem_append] at hy
      rcases hy with hy | hy
      · rcases set_mem hy with rfl | hy
        · exact okT_setl hok d0 d1 c2
        · exact hr.2.2 y hy
      · rw [List.mem_singleton.1 hy]
        exact okT_bck hok d0 d1 hk
    · rcases set_mem hy with rfl | hy
      · exact okT_setl hok d0 d1 c2
      · exact hr.2.2 y hy
/-- what Settle returns -/
def stO (ss : List (Int × Int)) (us : List Int) (l : List Tr) (day : Int) : (List Int × List Tr) × Int :=
  if vd ss us = true ∧ rtT ss l = true ∧ 0 ≤ day ∧ day ≤ 200000 then (stlW day us l, 0) else (([], []), 1)
/-- what Add returns -/
def adT (ss : List (Int × Int)) (l : List Tr) (x : Tr) : List Tr × Int :=
  if rtT ss l = true ∧ okT ss x = true ∧ x.o = -1 then (if 5000 ≤ l.length then ([], 6) else (l ++ [x], 0)) else ([], 1)
/-- what Open returns -/
def opL (day : Int) (l : List Tr) : Nat → List Int
  | 0 => []
  | k + 1 => opL day l k ++ (match l[k]? with | some x => if opn day x = true then [(k : Int)] else [] | none => [])
theorem opL_yes {day : Int} {l : List Tr} {k : Nat} {x : Tr} (hx : l[k]? = some x) (h : opn day x = true) : opL day l (k + 1) = opL day l k ++ [(k : Int)] := by
  rw [opL, hx]; simp only [h, if_true]
theorem opL_no {day : Int} {l : List Tr} {k : Nat} {x : Tr} (hx : l[k]? = some x) (h : opn day x = false) : opL day l (k + 1) = opL day l k := by
  rw [opL, hx]; simp [h]
theorem opL_len (day : Int) (l : List Tr) : ∀ k, (opL day l k).length ≤ k
  | 0 => by simp [opL]
  | k + 1 => by
    have := opL_len day l k
    rw [opL, List.length_append]
    split
    · split <;> simp <;> omega
    · simp; omega
theorem getD_mem {H : List Int} (h : ∀ u ∈ H, 0 ≤ u ∧ u ≤ 1000000000) (j : Nat) : 0 ≤ H.getD j 0 ∧ H.getD j 0 ≤ 1000000000 := by
  rw [List.getD_eq_getElem?_getD]
  cases e : H[j]? with
  | none => simp
  | some u => exact h u (mem_of_at e)
theorem tcs_flat_len (l : List Tr) : (l.flatMap tcs).length = l.length * 8 := by
  induction l with
  | nil => rfl
  | cons x l ih => rw [List.flatMap_cons, List.length_append, ih, List.length_cons]; simp [tcs]; omega
theorem tcs_flat_set {l : List Tr} {i : Nat} {x : Tr} (day : Int) (h : l[i]? = some x) : (l.flatMap tcs).set (i * 8 + 6) (.int .i64 day) = (l.set i (setl day x)).flatMap tcs := by
  induction l generalizing i with
  | nil => simp at h
  | cons z l ih =>
    cases i with
    | zero =>
      simp at h; subst h
      simp [tcs, setl]
    | succ i =>
      simp at h
      rw [List.set_cons_succ, List.flatMap_cons, List.flatMap_cons, ← ih h, List.set_append_right _ _ (by simp [tcs]; omega)]
      congr 2
      simp [tcs]; omega
theorem tcs_flat_at {l : List Tr} {i : Nat} {x : Tr} (h : l[i]? = some x) {j : Nat} (hj : j < 8) : (l.flatMap tcs)[i * 8 + j]? = (tcs x)[j]? := by
  induction l generalizing i with
  | nil => simp at h
  | cons z l ih =>
    cases i with
    | zero => simp at h; subst h; rw [List.flatMap_cons, Nat.zero_mul, Nat.zero_add, List.getElem?_append_left (by simp [tcs]; omega)]
    | succ i =>
      simp at h
      rw [List.flatMap_cons, List.getElem?_append_right (by simp [tcs]; omega), ← ih h]
      congr 1
      simp [tcs]; omega
end Go.Proofs.Ytpekedhcnijgcaa.Book
