/- Big integers: Lehmer's steps, plain facts. -/
import Derived.Test.YtnifkianjpjahaaDoorBgZ
namespace Go.Proofs.YtnifkianjpjahaaDoor.Bg
open Go.RowKit Go.Proofs.YtnifkianjpjahaaDoor.Cell
set_option linter.unusedVariables false

/-- signs that are opposite -/
def Opp (m n : Int) : Prop := (0 ≤ m ∧ n ≤ 0) ∨ (m ≤ 0 ∧ 0 ≤ n)
theorem row_ge {x m n P r s c : Int} (h : Opp m n) (hm : c ≤ x + m) (hn : c ≤ x + n) (hr : 0 ≤ r ∧ r ≤ P) (hs : 0 ≤ s ∧ s ≤ P) : c * P ≤ x * P + m * r + n * s := by
  have hP : 0 ≤ P := by omega
  rcases h with ⟨h1, h2⟩ | ⟨h1, h2⟩
  · have e1 : 0 ≤ m * r := Int.mul_nonneg h1 hr.1
    have e2 : n * P ≤ n * s := Int.mul_le_mul_of_nonpos_left h2 hs.2
    have e3 : c * P ≤ (x + n) * P := Int.mul_le_mul_of_nonneg_right hn hP
    rw [Int.add_mul] at e3
    omega
  · have e1 : 0 ≤ n * s := Int.mul_nonneg h2 hs.1
    have e2 : m * P ≤ m * r := Int.mul_le_mul_of_nonpos_left h1 hr.2
    have e3 : c * P ≤ (x + m) * P := Int.mul_le_mul_of_nonneg_right hm hP
    rw [Int.add_mul] at e3
    omega
/-- how far the steps have come -/
structure Le (a b P ra rb x y m0 m1 m2 m3 : Int) (d : Bool) : Prop where
  fa : x * P + m0 * ra + m1 * rb = m0 * a + m1 * b
  fb : y * P + m2 * ra + m3 * rb = m2 * a + m3 * b
  ra : 0 ≤ ra ∧ ra < P
  rb : 0 ≤ rb ∧ rb < P
  sgn : (0 ≤ m0 ∧ m1 ≤ 0 ∧ m2 ≤ 0 ∧ 0 ≤ m3) ∨ (m0 ≤ 0 ∧ 0 ≤ m1 ∧ 0 ≤ m2 ∧ m3 ≤ 0)
  p0 : 0 ≤ x + m0
  p1 : 0 ≤ x + m1
  p2 : 0 ≤ y + m2
  p3 : 0 ≤ y + m3
  g : Int.gcd (m0 * a + m1 * b) (m2 * a + m3 * b) = Int.gcd a b
  bx : x < 1152921504606846976
  by_ : y < 1152921504606846976
  b0 : -1073741824 ≤ m0 ∧ m0 ≤ 1073741824
  b1 : -1073741824 ≤ m1 ∧ m1 ≤ 1073741824
  b2 : -1073741824 ≤ m2 ∧ m2 ≤ 1073741824
  b3 : -1073741824 ≤ m3 ∧ m3 ≤ 1073741824
  le : m2 * a + m3 * b ≤ b
  dn : d = true → m2 * a + m3 * b < m0 * a + m1 * b ∧ m0 * a + m1 * b ≤ b
section
variable {a b P ra rb x y m0 m1 m2 m3 : Int} {d : Bool}
theorem Le.start (hP : 0 < P) (ha : 0 ≤ a ∧ a / P < 1152921504606846976) (hb : 0 ≤ b ∧ b / P < 1152921504606846976) : Le a b P (a % P) (b % P) (a / P) (b / P) 1 0 0 1 false := by
  have e1 := Int.mul_ediv_add_emod a P
  have e2 := Int.mul_ediv_add_emod b P
  have q1 : 0 ≤ a / P := Int.ediv_nonneg ha.1 (by omega)
  have q2 : 0 ≤ b / P := Int.ediv_nonneg hb.1 (by omega)
  rw [Int.mul_comm] at e1 e2
  refine ⟨by omega, by omega, ⟨Int.emod_nonneg _ (by omega), Int.emod_lt_of_pos _ hP⟩, ⟨Int.emod_nonneg _ (by omega), Int.emod_lt_of_pos _ hP⟩, Or.inl (by omega), by omega, by omega, by omega, by omega, ?_, ha.2, hb.2, by omega, by omega, by omega, by omega, by omega, fun h => by cases h⟩
  simp
theorem Le.x0 (h : Le a b P ra rb x y m0 m1 m2 m3 d) : 0 ≤ x := by
  have := h.sgn; have := h.p0; have := h.p1; omega
theorem Le.y0 (h : Le a b P ra rb x y m0 m1 m2 m3 d) : 0 ≤ y := by
  have := h.sgn; have := h.p2; have := h.p3; omega
theorem Le.posA (h : Le a b P ra rb x y m0 m1 m2 m3 d) : 0 ≤ m0 * a + m1 * b := by
  have h1 := h.ra; have h2 := h.rb
  have := row_ge (c := 0) (P := P) (r := ra) (s := rb) (show Opp m0 m1 by have := h.sgn; unfold Opp; omega) h.p0 h.p1 (by omega) (by omega)
  rw [h.fa] at this
  omega
theorem Le.posB (h : Le a b P ra rb x y m0 m1 m2 m3 d) : 0 ≤ m2 * a + m3 * b := by
  have h1 := h.ra; have h2 := h.rb
  have := row_ge (c := 0) (P := P) (r := ra) (s := rb) (show Opp m2 m3 by have := h.sgn; unfold Opp; omega) h.p2 h.p3 (by omega) (by omega)
  rw [h.fb] at this
  omega
/-- what a quotient yields -/
structure Qt (x y m0 m1 m2 m3 q : Int) : Prop where
  q0 : 0 ≤ q
  l2 : q * (y + m2) ≤ x + m0
  u2 : x + m0 < q * (y + m2) + (y + m2)
  l3 : q * (y + m3) ≤ x + m1
  u3 : x + m1 < q * (y + m3) + (y + m3)
theorem Le.qt (h : Le a b P ra rb x y m0 m1 m2 m3 d) (h2 : y + m2 ≠ 0) (h3 : y + m3 ≠ 0) (he : (x + m0) / (y + m2) = (x + m1) / (y + m3)) : Qt x y m0 m1 m2 m3 ((x + m0) / (y + m2)) := by
  have := h.p0; have := h.p1; have := h.p2; have := h.p3
  have e1 := Int.mul_ediv_add_emod (x + m0) (y + m2)
  have e2 := Int.mul_ediv_add_emod (x + m1) (y + m3)
  have r1 := Int.emod_nonneg (x + m0) h2
  have r2 := Int.emod_lt_of_pos (x + m0) (show 0 < y + m2 by omega)
  have r3 := Int.emod_nonneg (x + m1) h3
  have r4 := Int.emod_lt_of_pos (x + m1) (show 0 < y + m3 by omega)
  have q0 : 0 ≤ (x + m0) / (y + m2) := Int.ediv_nonneg (by omega) (by omega)
  rw [← he, Int.mul_comm] at e2
  rw [Int.mul_comm] at e1
  exact ⟨q0, by omega, by omega, by omega, by omega⟩
/-- nothing runs over -/
theorem Le.bounds {q : Int} (h : Le a b P ra rb x y m0 m1 m2 m3 d) (k : Qt x y m0 m1 m2 m3 q) (h2 : y + m2 ≠ 0) (h3 : y + m3 ≠ 0) :
    (0 ≤ q * y ∧ q * y ≤ 1152921505680588800) ∧ (-1152921505680588800 ≤ q * m2 ∧ q * m2 ≤ 1152921505680588800) ∧ (-1152921505680588800 ≤ q * m3 ∧ q * m3 ≤ 1152921505680588800) := by
  have hs := h.sgn; have := h.p0; have := h.p1; have := h.p2; have := h.p3; have hx := h.bx; have b0 := h.b0; have b1 := h.b1
  have l2 := k.l2; have l3 := k.l3
  rw [Int.mul_add] at l2 l3
  have e1 : 0 ≤ q * y := Int.mul_nonneg k.q0 h.y0
  have s2 : 0 ≤ q * (y + m2) := Int.mul_nonneg k.q0 (by omega)
  have s3 : 0 ≤ q * (y + m3) := Int.mul_nonneg k.q0 (by omega)
  rw [Int.mul_add] at s2 s3
  rcases hs with hs | hs
  · have e3 : 0 ≤ q * m3 := Int.mul_nonneg k.q0 (by omega)
    have e2 : q * m2 ≤ q * 0 := Int.mul_le_mul_of_nonneg_left (by omega) k.q0
    omega
  · have e3 : 0 ≤ q * m2 := Int.mul_nonneg k.q0 (by omega)
    have e2 : q * m3 ≤ q * 0 := Int.mul_le_mul_of_nonneg_left (by omega) k.q0
    omega
theorem gcd_step (u v q : Int) : Int.gcd v (u - q * v) = Int.gcd u v := by
  rw [Int.gcd_comm v, Int.mul_comm q v, Int.gcd_sub_mul_left_left]
theorem Le.step {q : Int} (h : Le a b P ra rb x y m0 m1 m2 m3 d) (k : Qt x y m0 m1 m2 m3 q) (h2 : y + m2 ≠ 0) (h3 : y + m3 ≠ 0)
    (f2 : -1073741824 ≤ m0 - q * m2 ∧ m0 - q * m2 ≤ 1073741824) (f3 : -1073741824 ≤ m1 - q * m3 ∧ m1 - q * m3 ≤ 1073741824) :
    Le a b P ra rb y (x - q * y) m2 m3 (m0 - q * m2) (m1 - q * m3) true ∧ x - q * y < y := by
  have hs := h.sgn; have p0 := h.p0; have p1 := h.p1; have p2 := h.p2; have p3 := h.p3
  have l2 := k.l2; have l3 := k.l3; have u2 := k.u2; have u3 := k.u3
  rw [Int.mul_add] at l2 l3 u2 u3
  have e1 : 0 ≤ q * y := Int.mul_nonneg k.q0 h.y0
  have hsn : (0 ≤ m2 ∧ m3 ≤ 0 ∧ m0 - q * m2 ≤ 0 ∧ 0 ≤ m1 - q * m3) ∨ (m2 ≤ 0 ∧ 0 ≤ m3 ∧ 0 ≤ m0 - q * m2 ∧ m1 - q * m3 ≤ 0) := by
    rcases hs with hs | hs
    · have e3 : 0 ≤ q * m3 := Int.mul_nonneg k.q0 (by omega)
      have e2 : q * m2 ≤ q * 0 := Int.mul_le_mul_of_nonneg_left (by omega) k.q0
      exact Or.inr (by omega)
    · have e3 : 0 ≤ q * m2 := Int.mul_nonneg k.q0 (by omega)
      have e2 : q * m3 ≤ q * 0 := Int.mul_le_mul_of_nonneg_left (by omega) k.q0
      exact Or.inl (by omega)
  have hA := h.posA
  have hl : x - q * y < y := by omega
  have hv : (m0 - q * m2) * a + (m1 - q * m3) * b = (m0 * a + m1 * b) - q * (m2 * a + m3 * b) := by grind
  have fb : (x - q * y) * P + (m0 - q * m2) * ra + (m1 - q * m3) * rb = (m0 - q * m2) * a + (m1 - q * m3) * b := by
    have fa := h.fa
    have fb := h.fb
    rw [hv, ← fa, ← fb]
    grind
  have hlt : (m0 - q * m2) * a + (m1 - q * m3) * b < m2 * a + m3 * b := by
    have h1 := h.ra; have h4 := h.rb
    have hr := row_ge (x := y - (x - q * y)) (m := m2 - (m0 - q * m2)) (n := m3 - (m1 - q * m3)) (c := 1) (P := P) (r := ra) (s := rb) (by unfold Opp; omega) (by omega) (by omega) (by omega) (by omega)
    rw [← fb, ← h.fb]
    have : (y - (x - q * y)) * P + (m2 - (m0 - q * m2)) * ra + (m3 - (m1 - q * m3)) * rb = (y * P + m2 * ra + m3 * rb) - ((x - q * y) * P + (m0 - q * m2) * ra + (m1 - q * m3) * rb) := by grind
    omega
  have hle := h.le
  refine ⟨⟨h.fb, fb, h.ra, h.rb, hsn, p2, p3, by omega, by omega, ?_, h.by_, ?_, h.b2, h.b3, f2, f3, by omega, fun _ => ⟨hlt, hle⟩⟩, hl⟩
  · rw [hv, gcd_step, h.g]
  · have := h.by_; omega
end
end Go.Proofs.YtnifkianjpjahaaDoor.Bg
