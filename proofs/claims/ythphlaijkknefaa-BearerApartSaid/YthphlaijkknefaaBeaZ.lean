/- What is paid, and what is open: bounds. -/
import Derived.Test.YthphlaijkknefaaBeaY
namespace Go.Proofs.Ythphlaijkknefaa.Bea
open Go.ChangeShapes Go.WideShapes Go.ChangeAt Go.RowKit Go.Proofs.Ythphlaijkknefaa.Cell
set_option linter.unusedVariables false
set_option linter.unusedSimpArgs false
theorem total_in {α : Type} (f : α → Int) (b : Int) (hb : 0 ≤ b) : ∀ l : List α, (∀ x ∈ l, 0 ≤ f x ∧ f x ≤ b) → 0 ≤ total (l.map f) ∧ total (l.map f) ≤ l.length * b
  | [], _ => by
    show (0 : Int) ≤ 0 ∧ (0 : Int) ≤ _
    simp
  | x :: t, h => by
    have h1 := total_in f b hb t (fun y hy => h y (List.mem_cons_of_mem _ hy))
    have h2 := h x (List.mem_cons_self ..)
    have e : (((x :: t).length : Nat) : Int) * b = (t.length : Int) * b + b := by
      rw [List.length_cons, Int.natCast_add, Int.add_mul]
      omega
    rw [List.map_cons, tot_cons, e]
    omega
theorem opn_in {l : List Pc} (h : rgtL l = true) (hn : l.length ≤ 12) (is c : Int) : 0 ≤ opn l is c ∧ opn l is c ≤ 12000000000 := by
  have h1 := total_in (opt is c) 1000000000 (by omega) l (fun x hx => opt_in ((rgtL_in h).2 x hx))
  unfold opn
  omega
theorem pay1_at {l C : List Pc} {P : List Ac} (h : Inv l C P) (hr : rgtL l = true) (is c : Int) {a : Ac} (ha : a ∈ P) :
    ∃ (p : Nat) (x : Pc), a.pi = p ∧ l[p]? = some x ∧ pay1 l is c a = (if x.is = is ∧ a.co = c then x.un else 0) ∧ 1 ≤ x.un ∧ x.un ≤ 1000000000 := by
  obtain ⟨p, c', x, y, h1, h2, hx, hy, h3, h4⟩ := h.paid a ha
  have hu := (of_decide_eq_true ((rgtL_in hr).2 x (mem_of_at hx))).2.1
  refine ⟨p, x, h1, hx, ?_, hu.1, hu.2⟩
  have hpx : pieceAt l a.pi = some x := by
    unfold pieceAt
    rw [h1, if_neg (by omega), Int.toNat_natCast]
    exact hx
  unfold pay1
  rw [hpx]
theorem pay1_in {l C : List Pc} {P : List Ac} (h : Inv l C P) (hr : rgtL l = true) (is c : Int) (k : Nat) (hk : k ≤ P.length) : 0 ≤ total ((P.take k).map (pay1 l is c)) ∧ total ((P.take k).map (pay1 l is c)) ≤ k * 1000000000 := by
  have h1 := total_in (pay1 l is c) 1000000000 (by omega) (P.take k) (fun a ha => by
    obtain ⟨p, x, _, _, e, h2, h3⟩ := pay1_at h hr is c (List.mem_of_mem_take ha)
    rw [e]
    split <;> omega)
  rw [List.length_take, Nat.min_eq_left hk] at h1
  exact h1
theorem pay1_snoc {l : List Pc} {P : List Ac} (is c : Int) {k : Nat} {a : Ac} (h : P[k]? = some a) : total ((P.take (k + 1)).map (pay1 l is c)) = total ((P.take k).map (pay1 l is c)) + pay1 l is c a := by
  rw [take_snoc h, List.map_append, List.map_cons, List.map_nil, total_snoc]
end Go.Proofs.Ythphlaijkknefaa.Bea
