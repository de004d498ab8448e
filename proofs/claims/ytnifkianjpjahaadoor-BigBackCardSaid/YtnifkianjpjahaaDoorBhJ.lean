/- Big integers: decimal digits, plain facts. -/
import Derived.Test.YtnifkianjpjahaaDoorBhI
import Derived.Lib.ItoaMem
namespace Go.Proofs.YtnifkianjpjahaaDoor.Bg
open Go.RowKit Go.Proofs.YtnifkianjpjahaaDoor.Cell
set_option linter.unusedVariables false

def dg1 (n : Nat) : UInt8 := UInt8.ofNat (48 + n)
/-- k decimal digits of r -/
def fx : Nat → Nat → List UInt8
  | 0, _ => []
  | k + 1, r => fx k (r / 10) ++ [dg1 (r % 10)]
theorem fx_length : ∀ k r, (fx k r).length = k
  | 0, _ => rfl
  | k + 1, r => by rw [fx, List.length_append, fx_length k]; rfl
theorem fx_zero : ∀ k, fx k 0 = List.replicate k 48
  | 0 => rfl
  | k + 1 => by
    rw [fx, Nat.zero_div, fx_zero k, List.replicate_succ']
    rfl
theorem dec_lt {n : Nat} (h : n < 10) : Lib.decDigits n = [dg1 n] := by rw [Lib.decDigits, dif_pos h]; rfl
theorem dec_ge {n : Nat} (h : 10 ≤ n) : Lib.decDigits n = Lib.decDigits (n / 10) ++ [dg1 (n % 10)] := by
  rw [Lib.decDigits, dif_neg (by omega)]; rfl
theorem dec_split : ∀ (k V : Nat), 10 ^ k ≤ V → Lib.decDigits V = Lib.decDigits (V / 10 ^ k) ++ fx k (V % 10 ^ k)
  | 0, V, h => by simp [fx]
  | k + 1, V, h => by
    have hp : 0 < 10 ^ k := Nat.pow_pos (by omega)
    have h1 : 10 ^ (k + 1) = 10 * 10 ^ k := by rw [Nat.pow_succ, Nat.mul_comm]
    have h10 : 10 ≤ V := by omega
    have h2 : 10 ^ k ≤ V / 10 := (Nat.le_div_iff_mul_le (by omega)).2 (by omega)
    rw [dec_ge h10, dec_split k (V / 10) h2, fx, h1, Nat.div_div_eq_div_mul]
    have e1 : V % (10 * 10 ^ k) / 10 = V / 10 % 10 ^ k := Nat.mod_mul_right_div_self V 10 (10 ^ k)
    have e2 : V % (10 * 10 ^ k) % 10 = V % 10 := Nat.mod_mul_right_mod V 10 (10 ^ k)
    rw [e1, e2, List.append_assoc]
theorem dec_len : ∀ (k r : Nat), r < 10 ^ (k + 1) → (Lib.decDigits r).length ≤ k + 1
  | 0, r, h => by rw [dec_lt (by omega)]; simp
  | k + 1, r, h => by
    by_cases h1 : r < 10
    · rw [dec_lt h1]; simp
    · have h2 : r / 10 < 10 ^ (k + 1) := by
        rw [Nat.pow_succ] at h
        exact Nat.div_lt_of_lt_mul (by omega)
      have := dec_len k (r / 10) h2
      rw [dec_ge (by omega), List.length_append]
      simp
      omega
theorem dec_pos (r : Nat) : 1 ≤ (Lib.decDigits r).length := by
  by_cases h1 : r < 10
  · rw [dec_lt h1]; simp
  · rw [dec_ge (by omega), List.length_append]; simp
/-- zeros before a numeral -/
theorem pad_fx : ∀ (k r : Nat), r < 10 ^ (k + 1) → List.replicate (k + 1 - (Lib.decDigits r).length) 48 ++ Lib.decDigits r = fx (k + 1) r
  | 0, r, h => by rw [dec_lt (by omega), fx, Nat.mod_eq_of_lt (by omega)]; rfl
  | k + 1, r, h => by
    by_cases h1 : r < 10
    · rw [dec_lt h1, fx, Nat.div_eq_of_lt h1, fx_zero, Nat.mod_eq_of_lt h1]; rfl
    · have h2 : r / 10 < 10 ^ (k + 1) := by
        rw [Nat.pow_succ] at h
        exact Nat.div_lt_of_lt_mul (by omega)
      have ih := pad_fx k (r / 10) h2
      rw [dec_ge (by omega), fx, ← ih, List.length_append]
      simp only [List.length_singleton, List.append_assoc]
      rw [show k + 1 + 1 - ((Lib.decDigits (r / 10)).length + 1) = k + 1 - (Lib.decDigits (r / 10)).length by omega]
/-- the text of a big integer -/
def txt (z : Int) : List UInt8 := if z < 0 then 45 :: Lib.decDigits z.natAbs else Lib.decDigits z.natAbs
/-- how far the text has come: V is to be written yet, P are the parts, the last ones first -/
def Tx (Z V : Nat) (P : List (List UInt8)) : Prop := Lib.decDigits Z = (if V = 0 then [] else Lib.decDigits V) ++ P.reverse.flatten
theorem Tx.start {Z : Nat} (h : Z ≠ 0) : Tx Z Z [] := by simp [Tx, h]
theorem Tx.more {Z V : Nat} {P : List (List UInt8)} (h : Tx Z V P) (hV : 1000000 ≤ V) : Tx Z (V / 1000000) (P ++ [fx 6 (V % 1000000)]) := by
  have h1 : V / 1000000 ≠ 0 := by omega
  have h2 := dec_split 6 V (by omega)
  unfold Tx at h ⊢
  rw [if_neg (by omega)] at h
  rw [if_neg h1, h, h2]
  simp
theorem Tx.last {Z V : Nat} {P : List (List UInt8)} (h : Tx Z V P) (hV : V < 1000000) (h0 : V ≠ 0) : Tx Z 0 (P ++ [Lib.decDigits V]) := by
  unfold Tx at h ⊢
  rw [if_neg h0] at h
  rw [if_pos rfl, h]
  simp
theorem Tx.done {Z : Nat} {P : List (List UInt8)} (h : Tx Z 0 P) : P.reverse.flatten = Lib.decDigits Z := by
  unfold Tx at h
  rw [if_pos rfl] at h
  exact h.symm
end Go.Proofs.YtnifkianjpjahaaDoor.Bg
