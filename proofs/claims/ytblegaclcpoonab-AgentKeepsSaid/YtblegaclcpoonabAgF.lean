/- play.did, whatever the operation. -/
import Derived.Test.YtblegaclcpoonabAgE0
import Derived.Test.YtblegaclcpoonabAgE1
import Derived.Test.YtblegaclcpoonabAgE2
import Derived.Test.YtblegaclcpoonabAgE3
import Derived.Test.YtblegaclcpoonabAgE4a
import Derived.Test.YtblegaclcpoonabAgE4b
import Derived.Test.YtblegaclcpoonabAgE5
import Derived.Test.YtblegaclcpoonabAgEx
namespace Go.Proofs.Ytblegaclcpoonab.Agent
open Go.ChangeShapes Go.WideShapes Go.ChangeAt Go.RowKit Go.Proofs.Ytblegaclcpoonab.Cell
set_option linter.unusedVariables false
section
variable {w0 w : World} {gx gp : Nat} {L : List Pu} {a b c d e kind who dst n : Int} {k : Nat}
theorem did_any (h : Pl w0 w gx gp L a b c d e) (iv : IV k L a b c d e) (hk : k < 60) :
    Calls Try.prog 32 #[.pointer (some ⟨gx, 0, none⟩), .agg #[.int .i64 kind, .int .i64 who, .int .i64 dst, .int .i64 n]] w fun e' w' => e' = .returned (.bool true) ∧ ∃ L' a' b' c' d' e', IV (k + 1) L' a' b' c' d' e' ∧ Pl w0 w' gx gp L' a' b' c' d' e' := by
  have B : ∀ {p q : Int}, ¬ p = q → (p == q) = false := fun h => by rw [beq_eq_false_iff_ne]; exact h
  by_cases h0 : who < 0
  · exact did_a h iv hk h0
  by_cases h1 : 3 ≤ who
  · exact did_b h iv hk (by omega) h1
  by_cases h2 : dst < 0
  · exact did_c h iv hk (by omega) (by omega) h2
  by_cases h3 : 3 ≤ dst
  · exact did_d h iv hk (by omega) (by omega) (by omega) h3
  obtain ⟨i, rfl⟩ := Int.eq_ofNat_of_zero_le (show 0 ≤ who by omega)
  obtain ⟨j, rfl⟩ := Int.eq_ofNat_of_zero_le (show 0 ≤ dst by omega)
  have hi : i < 3 := by omega
  have hj : j < 3 := by omega
  by_cases k0 : kind = 0
  · subst k0; exact did_k0 h iv hk hi hj
  by_cases k1 : kind = 1
  · subst k1; exact did_k1 h iv hk hi hj
  by_cases k2 : kind = 2
  · subst k2; exact did_k2 h iv hk hi hj
  by_cases k3 : kind = 3
  · subst k3; exact did_k3 h iv hk hi hj
  by_cases k4 : kind = 4
  · by_cases hij : i = j
    · exact did_self h iv hk hi hj hij k4
    · subst k4
      obtain ⟨x, hx⟩ : ∃ x, L[i]? = some x := ⟨L[i]'(by rw [iv.len]; exact hi), List.getElem?_eq_getElem _⟩
      obtain ⟨y, hy⟩ : ∃ y, L[j]? = some y := ⟨L[j]'(by rw [iv.len]; exact hj), List.getElem?_eq_getElem _⟩
      by_cases hE : psE x.t x.o x.g y.t y.o y.g n = 0
      · exact did_k4a h iv hk hi hj hij (fun x' y' hx' hy' => by
          rw [hx] at hx'; rw [hy] at hy'
          injection hx' with hx'; injection hy' with hy'
          subst hx' hy'; exact hE)
      · exact did_k4b h iv hk hi hj hij (fun x' y' hx' hy' => by
          rw [hx] at hx'; rw [hy] at hy'
          injection hx' with hx'; injection hy' with hy'
          subst hx' hy'; exact hE)
  by_cases k5 : kind = 5
  · subst k5; exact did_k5 h iv hk hi hj
  exact did_kx h iv hk hi hj (B k0) (B k1) (B k2) (B k3) (B k4) (B k5)
end
end Go.Proofs.Ytblegaclcpoonab.Agent
