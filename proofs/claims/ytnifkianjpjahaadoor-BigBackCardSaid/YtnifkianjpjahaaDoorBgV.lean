/- Long division of lists of digits: plain facts. -/
import Derived.Test.YtnifkianjpjahaaDoorBgU
namespace Go.Proofs.YtnifkianjpjahaaDoor.Bg
open Go.RowKit Go.Proofs.YtnifkianjpjahaaDoor.Cell
set_option linter.unusedVariables false

/-- how far the division has come: the quotient's digits from k on are known -/
structure Dv (a V : Int) (n : Nat) (U Q : List Int) (k : Nat) : Prop where
  dU : Dg U
  dQ : Dg Q
  lu : U.length = Q.length + n
  le : k ≤ Q.length
  lt : val (U.drop k) < V
  eq : val U + pw k * (val (Q.drop k) * V) = a
section
variable {a V : Int} {n j : Nat} {U Q : List Int}
theorem val_drop {l : List Int} {k : Nat} {d : Int} (h : l[k]? = some d) : val (l.drop k) = d + 1048576 * val (l.drop (k + 1)) := by rw [drop_at h, val_cons]
/-- what lies above the digits at hand is 0 -/
theorem Dv.seg (h : Dv a V n U Q (j + 1)) (hV : V < pw n) : val (U.drop j) = val ((U.drop j).take (n + 1)) ∧ val (U.drop (j + (n + 1))) = 0 ∧ val (U.drop j) < 1048576 * V := by
  obtain ⟨d, hd⟩ := at_ U j (by have := h.lu; have := h.le; omega)
  have h1 := h.dU.at_ hd
  have h2 := val_drop hd
  have h3 := h.lt
  have h4 := val_split (U.drop j) (n + 1) (by rw [List.length_drop]; have := h.lu; have := h.le; omega)
  rw [List.drop_drop] at h4
  have h5 := val_nonneg ((h.dU.drop j).take (n + 1))
  have h6 := val_nonneg (h.dU.drop (j + (n + 1)))
  have h7 := pw_succ n
  have h8 : val (U.drop (j + (n + 1))) = 0 := by
    by_cases h9 : val (U.drop (j + (n + 1))) = 0
    · exact h9
    · have : pw (n + 1) * 1 ≤ pw (n + 1) * val (U.drop (j + (n + 1))) := Int.mul_le_mul_of_nonneg_left (by omega) (by have := pw_pos (n + 1); omega)
      omega
  refine ⟨?_, h8, by omega⟩
  rw [h8, Int.mul_zero] at h4
  omega
theorem val_three {l : List Int} {k : Nat} {x y z : Int} (hx : l[k]? = some x) (hy : l[k + 1]? = some y) (hz : l[k + 2]? = some z) : val (l.take (k + 3)) = (z * 1048576 + y) * (1048576 * pw k) + x * pw k + val (l.take k) := by
  have h1 := val_take_succ hx
  have h2 := val_take_succ hy
  have h3 : val (l.take (k + 3)) = val (l.take (k + 2)) + pw (k + 2) * z := val_take_succ hz
  have h4 : val (l.take (k + 2)) = val (l.take (k + 1)) + pw (k + 1) * y := h2
  have e1 := pw_succ k
  have e2 : pw (k + 2) = pw (k + 1) * 1048576 := pw_succ (k + 1)
  rw [h3, h4, h1, e2, e1]
  grind
theorem val_two {l : List Int} {k : Nat} {x y : Int} (hx : l[k]? = some x) (hy : l[k + 1]? = some y) : val (l.take (k + 2)) = y * (1048576 * pw k) + x * pw k + val (l.take k) := by
  have h1 := val_take_succ hx
  have h2 : val (l.take (k + 2)) = val (l.take (k + 1)) + pw (k + 1) * y := val_take_succ hy
  have e1 := pw_succ k
  rw [h2, h1, e1]
  grind
/-- the digits that the guess goes by -/
theorem Dv.kn {p : Nat} {v : List Int} {x y z v1 v2 : Int} (h : Dv a V (p + 2) U Q (j + 1)) (hv : Dg v) (hl : v.length = p + 2) (hV : val v = V) (h1 : v[p + 1]? = some v1) (h2 : v[p]? = some v2) (hv1 : v1 ≠ 0)
    (hx : U[j + p]? = some x) (hy : U[j + (p + 1)]? = some y) (hz : U[j + (p + 2)]? = some z) :
    Kn V v1 v2 (val (v.take p)) (pw p) (val ((U.drop j).take (p + 3))) (z * 1048576 + y) x (val ((U.drop j).take p)) := by
  have hVlt : V < pw (p + 2) := by
    have := val_lt hv
    rw [hl, hV] at this
    exact this
  obtain ⟨s1, s2, s3⟩ := h.seg hVlt
  have e1 := val_two h2 h1
  rw [List.take_of_length_le (by omega), hV] at e1
  have e2 := val_three (l := U.drop j) (k := p) (by rw [List.getElem?_drop]; exact hx) (by rw [List.getElem?_drop]; exact hy) (by rw [List.getElem?_drop]; exact hz)
  have b1 := hv.at_ h1
  have b2 := hv.at_ h2
  have b3 := val_nonneg (hv.take p)
  have b4 := val_lt (hv.take p)
  rw [List.length_take, Nat.min_eq_left (by omega)] at b4
  have c1 := h.dU.at_ hx
  have c2 := h.dU.at_ hy
  have c3 := h.dU.at_ hz
  have c4 := val_nonneg ((h.dU.drop j).take p)
  have c5 := val_lt ((h.dU.drop j).take p)
  rw [List.length_take, Nat.min_eq_left (by rw [List.length_drop]; have := lt_of_at hz; omega)] at c5
  exact ⟨e1, e2, pw_pos p, by omega, b2, ⟨b3, b4⟩, by omega, c1, ⟨c4, c5⟩, by rw [← s1]; exact s3⟩
theorem Dv.step (h : Dv a V n U Q (j + 1)) (hV : V < pw n) {out : List Int} {q : Int} (dO : Dg out) (lO : out.length = n + 1) (hq : 0 ≤ q ∧ q < 1048576) (hr : val out = val ((U.drop j).take (n + 1)) - q * V) (hlt : val out < V) :
    Dv a V n (U.take j ++ out ++ U.drop (j + (n + 1))) (Q.set j q) j := by
  obtain ⟨s1, s2, s3⟩ := h.seg hV
  have hj := h.le
  have hlu := h.lu
  have htj : (U.take j).length = j := by rw [List.length_take]; omega
  obtain ⟨d, hd⟩ := at_ Q j (by omega)
  refine ⟨((h.dU.take j).append dO).append (h.dU.drop _), fun x hx => ?_, ?_, by rw [List.length_set]; omega, ?_, ?_⟩
  · rcases List.mem_or_eq_of_mem_set hx with hx | rfl
    · exact h.dQ x hx
    · exact hq
  · rw [List.length_append, List.length_append, htj, lO, List.length_drop, List.length_set]
    omega
  · rw [List.append_assoc, List.drop_append, htj, Nat.sub_self, List.drop_zero, List.drop_of_length_le (by omega), List.nil_append, val_append, s2]
    omega
  · have e1 : val (U.take j ++ out ++ U.drop (j + (n + 1))) = val (U.take j) + pw j * val out := by
      rw [val_append, s2, val_append, htj]
      omega
    have e2 := val_split U j (by omega)
    have e3 : val ((Q.set j q).drop j) = q + 1048576 * val (Q.drop (j + 1)) := by
      rw [val_drop (List.getElem?_set_self (by omega)), List.drop_set, if_pos (by omega)]
    have e4 := h.eq
    rw [s1] at e2
    rw [e1, e3, hr, ← e4, e2, pw_succ]
    grind
/-- the end -/
theorem Dv.done (h : Dv a V n U Q 0) (hV : V < pw n) : val (U.take n) = val U ∧ 0 ≤ val U ∧ val U < V ∧ val U + val Q * V = a := by
  have h1 := h.lt
  have h2 := h.eq
  rw [List.drop_zero] at h1 h2
  rw [pw_zero, Int.one_mul] at h2
  have h3 := val_split U n (by have := h.lu; omega)
  have h4 := val_nonneg (h.dU.take n)
  have h5 := val_nonneg (h.dU.drop n)
  refine ⟨?_, val_nonneg h.dU, h1, h2⟩
  by_cases h6 : val (U.drop n) = 0
  · rw [h6] at h3; omega
  · have : pw n * 1 ≤ pw n * val (U.drop n) := Int.mul_le_mul_of_nonneg_left (by omega) (by have := pw_pos n; omega)
    omega
/-- the beginning -/
theorem Dv.start {x y P : Int} {m n : Nat} {U : List Int} (dU : Dg U) (hn : n ≤ m) (hn0 : 0 < n) (lU : U.length = m + 1) (hU : val U = x * P) (hx : x < pw m) (hy : pw (n - 1) ≤ y) (hP : 1 ≤ P) :
    Dv (x * P) (y * P) n U (List.replicate (m - n + 1) 0) (m - n + 1) := by
  refine ⟨dU, fun d hd => by have := List.eq_of_mem_replicate hd; omega, by rw [List.length_replicate]; omega, by rw [List.length_replicate]; exact Nat.le_refl _, ?_, ?_⟩
  · have h1 := val_split U (m - n + 1) (by omega)
    have h2 := val_nonneg (dU.take (m - n + 1))
    have h3 : pw (m - n + 1) * val (U.drop (m - n + 1)) ≤ x * P := by omega
    have h4 : x * P < pw m * P := Int.mul_lt_mul_of_pos_right hx (by omega)
    have h5 : pw m = pw (m - n + 1) * pw (n - 1) := by rw [← pw_add]; congr 1; omega
    rw [h5, Int.mul_assoc] at h4
    have h6 : pw (n - 1) * P ≤ y * P := Int.mul_le_mul_of_nonneg_right hy (by omega)
    have h7 : val (U.drop (m - n + 1)) < pw (n - 1) * P := Int.lt_of_mul_lt_mul_left (a := pw (m - n + 1)) (by omega) (by have := pw_pos (m - n + 1); omega)
    omega
  · rw [List.drop_of_length_le (by rw [List.length_replicate]; exact Nat.le_refl _), val_nil, hU]
    simp
/-- what remains when too much was taken off -/
theorem neg_one {V g U o M cy : Int} (h1 : o + M * cy = U - g * V) (h2 : 0 ≤ o ∧ o < M) (h3 : g * V ≤ U + V) (h4 : V < M) (h5 : cy < 0) : cy = -1 ∧ o + V = M + (U - (g - 1) * V) ∧ U < g * V := by
  have e : (g - 1) * V = g * V - V := by rw [Int.sub_mul, Int.one_mul]
  have h6 : M * cy ≤ M * (-1) := Int.mul_le_mul_of_nonneg_left (by omega) (by omega)
  have h7 : cy = -1 := by
    by_cases h : cy = -1
    · exact h
    · have : M * cy ≤ M * (-2) := Int.mul_le_mul_of_nonneg_left (by omega) (by omega)
      omega
  subst h7
  refine ⟨rfl, by omega, by omega⟩
end
end Go.Proofs.YtnifkianjpjahaaDoor.Bg
