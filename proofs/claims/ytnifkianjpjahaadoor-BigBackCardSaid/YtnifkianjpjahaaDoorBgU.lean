/- Long division, digit by digit: plain facts. -/
import Derived.Test.YtnifkianjpjahaaDoorBgT
namespace Go.Proofs.YtnifkianjpjahaaDoor.Bg
open Go.RowKit Go.Proofs.YtnifkianjpjahaaDoor.Cell
set_option linter.unusedVariables false

/-- the first digits of both -/
structure Kn (V v1 v2 v3 R U top u2 u3 : Int) : Prop where
  hV : V = v1 * (1048576 * R) + v2 * R + v3
  hU : U = top * (1048576 * R) + u2 * R + u3
  r1 : 1 ≤ R
  a1 : 1 ≤ v1 ∧ v1 < 1048576
  a2 : 0 ≤ v2 ∧ v2 < 1048576
  a3 : 0 ≤ v3 ∧ v3 < R
  b0 : 0 ≤ top
  b2 : 0 ≤ u2 ∧ u2 < 1048576
  b3 : 0 ≤ u3 ∧ u3 < R
  lt : U < 1048576 * V
section
variable {V v1 v2 v3 R U top u2 u3 g : Int}
theorem Kn.uLt (h : Kn V v1 v2 v3 R U top u2 u3) : U < (top + 1) * (1048576 * R) := by
  have h1 : u2 * R ≤ 1048575 * R := Int.mul_le_mul_of_nonneg_right (by have := h.b2; omega) (by have := h.r1; omega)
  have h2 : (top + 1) * (1048576 * R) = top * (1048576 * R) + 1048576 * R := by rw [Int.add_mul, Int.one_mul]
  have h3 := h.hU
  have h4 := h.b3
  omega
theorem Kn.vGe (h : Kn V v1 v2 v3 R U top u2 u3) : v1 * (1048576 * R) ≤ V := by
  have h1 : 0 ≤ v2 * R := Int.mul_nonneg h.a2.1 (by have := h.r1; omega)
  have h2 := h.hV
  have h3 := h.a3
  omega
theorem Kn.vPos (h : Kn V v1 v2 v3 R U top u2 u3) : 1048576 * R ≤ V := by
  have h1 := h.vGe
  have h2 : 1 * (1048576 * R) ≤ v1 * (1048576 * R) := Int.mul_le_mul_of_nonneg_right h.a1.1 (by have := h.r1; omega)
  omega
theorem Kn.init (h : Kn V v1 v2 v3 R U top u2 u3) (hg : g = min (top / v1) 1048575) : U < (g + 1) * V ∧ (0 ≤ g ∧ g ≤ 1048575) ∧ 0 ≤ top - g * v1 := by
  have h1 := Int.mul_ediv_add_emod top v1
  have h2 := Int.emod_nonneg top (show v1 ≠ 0 by have := h.a1; omega)
  have h3 := Int.emod_lt_of_pos top (show 0 < v1 by have := h.a1; omega)
  have h4 := Int.ediv_nonneg h.b0 (show 0 ≤ v1 by have := h.a1; omega)
  obtain ⟨q, hq⟩ : ∃ q, top / v1 = q := ⟨_, rfl⟩
  rw [hq] at h1 h4 hg
  have hgq : g ≤ q := by omega
  have h5 : v1 * g ≤ v1 * q := Int.mul_le_mul_of_nonneg_left hgq (by have := h.a1; omega)
  rw [Int.mul_comm g v1]
  refine ⟨?_, by omega, by omega⟩
  by_cases hb : g = 1048575
  · rw [hb]
    exact h.lt
  · have e : g = q := by omega
    subst e
    have h6 : v1 * (g + 1) = v1 * g + v1 := by rw [Int.mul_add, Int.mul_one]
    have h7 : (top + 1) * (1048576 * R) ≤ (v1 * (g + 1)) * (1048576 * R) := Int.mul_le_mul_of_nonneg_right (by omega) (by have := h.r1; omega)
    have h8 : (g + 1) * (v1 * (1048576 * R)) ≤ (g + 1) * V := Int.mul_le_mul_of_nonneg_left h.vGe (by omega)
    have h9 : (v1 * (g + 1)) * (1048576 * R) = (g + 1) * (v1 * (1048576 * R)) := by rw [Int.mul_comm v1 (g + 1), Int.mul_assoc]
    have := h.uLt
    omega
theorem Kn.dec (h : Kn V v1 v2 v3 R U top u2 u3) {rest : Int} (hg : 0 ≤ g) (hr : rest = top - g * v1) (h0 : 0 ≤ rest) (ht : rest * 1048576 + u2 < g * v2) : U < g * V ∧ 1 ≤ g := by
  have h1 : (rest * 1048576 + u2 + 1) * R ≤ (g * v2) * R := Int.mul_le_mul_of_nonneg_right (by omega) (by have := h.r1; omega)
  have h2 : 0 ≤ g * v3 := Int.mul_nonneg hg h.a3.1
  have e1 : g * V = (g * v1) * (1048576 * R) + (g * v2) * R + g * v3 := by rw [h.hV]; grind
  have e2 : (rest * 1048576 + u2 + 1) * R = rest * (1048576 * R) + u2 * R + R := by grind
  have e3 : top * (1048576 * R) = rest * (1048576 * R) + (g * v1) * (1048576 * R) := by rw [hr]; grind
  have h3 := h.hU
  have h4 := h.b3
  refine ⟨by omega, ?_⟩
  by_cases hg0 : g = 0
  · subst hg0
    have := h.b2
    rw [Int.zero_mul] at ht
    omega
  · omega
theorem Kn.exit (h : Kn V v1 v2 v3 R U top u2 u3) {rest : Int} (hg : 0 ≤ g ∧ g ≤ 1048575) (hr : rest = top - g * v1) (ht : 1048575 < rest ∨ g * v2 ≤ rest * 1048576 + u2) : g * V ≤ U + V := by
  have e1 : g * V = (g * v1) * (1048576 * R) + (g * v2) * R + g * v3 := by rw [h.hV]; grind
  have e3 : top * (1048576 * R) = rest * (1048576 * R) + (g * v1) * (1048576 * R) := by rw [hr]; grind
  have h3 := h.hU
  have h4 := h.b3
  have h5 := h.vPos
  have h6 : g * v3 ≤ 1048575 * v3 := Int.mul_le_mul_of_nonneg_right hg.2 h.a3.1
  have h7 := h.a3
  have h8 : 0 ≤ u2 * R := Int.mul_nonneg h.b2.1 (by have := h.r1; omega)
  rcases ht with ht | ht
  · have h9 : (g * v2) * R ≤ (1048575 * 1048575) * R := Int.mul_le_mul_of_nonneg_right (by
      have a : g * v2 ≤ 1048575 * v2 := Int.mul_le_mul_of_nonneg_right hg.2 h.a2.1
      have := h.a2
      omega) (by have := h.r1; omega)
    have h10 : 1048576 * (1048576 * R) ≤ rest * (1048576 * R) := Int.mul_le_mul_of_nonneg_right (by omega) (by have := h.r1; omega)
    omega
  · have h9 : (g * v2) * R ≤ (rest * 1048576 + u2) * R := Int.mul_le_mul_of_nonneg_right ht (by have := h.r1; omega)
    have e2 : (rest * 1048576 + u2) * R = rest * (1048576 * R) + u2 * R := by grind
    omega
end
end Go.Proofs.YtnifkianjpjahaaDoor.Bg
