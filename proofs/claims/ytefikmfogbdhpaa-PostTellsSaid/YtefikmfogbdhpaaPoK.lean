/- Post: the examples. -/
import Derived.Test.YtefikmfogbdhpaaPoJ
namespace Go.Proofs.Ytefikmfogbdhpaa.Po
open Go.ChangeShapes Go.WideShapes Go.ChangeAt Go.RowKit Go.Proofs.Ytefikmfogbdhpaa.Cell
set_option linter.unusedVariables false
set_option linter.unusedSimpArgs false
def S4 : List En := [ent 0, ent 1, ent 2, ent 3]
abbrev F4 (a b c d : Bool) : List Bool := [a, b, c, d]
theorem send_nil (W : World) (a b c d x : Int) :
    Calls Try.prog 10 #[.agg #[.slice none 0 0, .int .i64 0, .slice none 0 0], .agg #[.int .i64 a, .int .i64 b, .int .i64 c, .int .i64 d, .int .i64 x]] W fun e w' =>
      ∃ A' c' q' A2' n2' c2', e = .returned (.tuple #[.agg #[.slice A' 1 c', .int .i64 ((q' : Nat) : Int), .slice A2' n2' c2'], .int .i64 0]) ∧ Wq w' A' 1 c' q' A2' n2' c2' [⟨a, b, c, d, x⟩] [false] ∧ Below W.heap.size W w' ∧ (∀ a, A' = some a → W.heap.size ≤ a.block) ∧ ∀ a, A2' = some a → W.heap.size ≤ a.block := wq_send ⟨a, b, c, d, x⟩ (Wq.nil W) (by omega)
theorem ag_a : ag (F4 false true true false) = [0, 3] := by decide
theorem ag_b : ag (F4 true true true false) = [3] := by decide
theorem len2 : ([0, 3] : List Int).length = 2 := rfl
theorem len1 : ([3] : List Int).length = 1 := rfl
theorem kk {v W W1 : World} {g1 g5 g11 : Nat} {a b0 b1 b2 d0 d1 d2 : Value} (h : Below v.heap.size v W ∧ W.cell? ⟨g1, 0, none⟩ = some a ∧ W.cell? ⟨g5, 0, none⟩ = some b0 ∧ W.cell? ⟨g5, 1, none⟩ = some b1 ∧ W.cell? ⟨g5, 2, none⟩ = some b2 ∧ W.cell? ⟨g11, 0, none⟩ = some d0 ∧ W.cell? ⟨g11, 1, none⟩ = some d1 ∧ W.cell? ⟨g11, 2, none⟩ = some d2) (hb : Below W.heap.size W W1) :
    Below v.heap.size v W1 ∧ W1.cell? ⟨g1, 0, none⟩ = some a ∧ W1.cell? ⟨g5, 0, none⟩ = some b0 ∧ W1.cell? ⟨g5, 1, none⟩ = some b1 ∧ W1.cell? ⟨g5, 2, none⟩ = some b2 ∧ W1.cell? ⟨g11, 0, none⟩ = some d0 ∧ W1.cell? ⟨g11, 1, none⟩ = some d1 ∧ W1.cell? ⟨g11, 2, none⟩ = some d2 := by
  obtain ⟨h0, h1, h2, h3, h4, h5, h6, h7⟩ := h
  exact ⟨Gen.over hb h0, Gen.keep hb h1, Gen.keep hb h2, Gen.keep hb h3, Gen.keep hb h4, Gen.keep hb h5, Gen.keep hb h6, Gen.keep hb h7⟩
set_option maxRecDepth 100000 in
set_option maxHeartbeats 8000000 in
theorem small43 (w : World) : Calls Try.prog 7 #[] w fun e w' => e = .returned (.bool true) ∧ Below w.heap.size w w' := by
  go_enter Try.func7, Try.ntmps7
  go_wp2_with (fail)
  go_must (refine (entry_is 0 _ (by omega) (by omega)).mono ?_)
  rintro e u1 ⟨rfl, hb1⟩
  go_wp2_with (fail)
  go_must (refine (entry_is 1 _ (by omega) (by omega)).mono ?_)
  rintro e u2 ⟨rfl, hb2⟩
  replace hb2 := Gen.over hb2 hb1
  clear hb1
  go_wp2_with (fail)
  go_must (refine (entry_is 2 _ (by omega) (by omega)).mono ?_)
  rintro e u3 ⟨rfl, hb3⟩
  replace hb3 := Gen.over hb3 hb2
  clear hb2
  go_wp2_with (fail)
  go_must (refine (entry_is 3 _ (by omega) (by omega)).mono ?_)
  rintro e u4 ⟨rfl, hb4⟩
  replace hb4 := Gen.over hb4 hb3
  clear hb3
  go_upto_region 2 with (fail)
  have hE0 : Ens (u4.alloc (.cells #[.int .i64 0, .int .i64 0, .int .i64 0, .int .i64 1, .int .i64 10, .int .i64 1, .int .i64 0, .int .i64 0, .int .i64 1, .int .i64 11, .int .i64 2, .int .i64 0, .int .i64 0, .int .i64 1, .int .i64 12, .int .i64 3, .int .i64 0, .int .i64 0, .int .i64 1, .int .i64 13] 36)) (some ⟨u4.heap.size, 0, none⟩) S4 := ens_row (Row.new _ _ _) rfl
  have hb5 : Below (u4.alloc (.cells #[.int .i64 0, .int .i64 0, .int .i64 0, .int .i64 1, .int .i64 10, .int .i64 1, .int .i64 0, .int .i64 0, .int .i64 1, .int .i64 11, .int .i64 2, .int .i64 0, .int .i64 0, .int .i64 1, .int .i64 12, .int .i64 3, .int .i64 0, .int .i64 0, .int .i64 1, .int .i64 13] 36)).heap.size (u4.alloc (.cells #[.int .i64 0, .int .i64 0, .int .i64 0, .int .i64 1, .int .i64 10, .int .i64 1, .int .i64 0, .int .i64 0, .int .i64 1, .int .i64 11, .int .i64 2, .int .i64 0, .int .i64 0, .int .i64 1, .int .i64 12, .int .i64 3, .int .i64 0, .int .i64 0, .int .i64 1, .int .i64 13] 36)) ((u4.alloc (.cells #[.int .i64 0, .int .i64 0, .int .i64 0, .int .i64 1, .int .i64 10, .int .i64 1, .int .i64 0, .int .i64 0, .int .i64 1, .int .i64 11, .int .i64 2, .int .i64 0, .int .i64 0, .int .i64 1, .int .i64 12, .int .i64 3, .int .i64 0, .int .i64 0, .int .i64 1, .int .i64 13] 36)).alloc (.cells #[.slice (some ⟨u4.heap.size, 0, none⟩) 4 4, .int .i64 0, .slice none 0 0] 27)) := Gen.b_alloc (Below.refl _ _)
  have hr1 : Row ((u4.alloc (.cells #[.int .i64 0, .int .i64 0, .int .i64 0, .int .i64 1, .int .i64 10, .int .i64 1, .int .i64 0, .int .i64 0, .int .i64 1, .int .i64 11, .int .i64 2, .int .i64 0, .int .i64 0, .int .i64 1, .int .i64 12, .int .i64 3, .int .i64 0, .int .i64 0, .int .i64 1, .int .i64 13] 36)).alloc (.cells #[.slice (some ⟨u4.heap.size, 0, none⟩) 4 4, .int .i64 0, .slice none 0 0] 27)) (u4.heap.size + 1) 27 #[.slice (some ⟨u4.heap.size, 0, none⟩) 4 4, .int .i64 0, .slice none 0 0] := Gen.rowAt _ _ _ (by simp)
  have hB5 : Below w.heap.size w ((u4.alloc (.cells #[.int .i64 0, .int .i64 0, .int .i64 0, .int .i64 1, .int .i64 10, .int .i64 1, .int .i64 0, .int .i64 0, .int .i64 1, .int .i64 11, .int .i64 2, .int .i64 0, .int .i64 0, .int .i64 1, .int .i64 12, .int .i64 3, .int .i64 0, .int .i64 0, .int .i64 1, .int .i64 13] 36)).alloc (.cells #[.slice (some ⟨u4.heap.size, 0, none⟩) 4 4, .int .i64 0, .slice none 0 0] 27)) := Gen.b_alloc (Gen.b_alloc hb4)
  replace hE0 := hE0.keep hb5
  generalize ((u4.alloc (.cells #[.int .i64 0, .int .i64 0, .int .i64 0, .int .i64 1, .int .i64 10, .int .i64 1, .int .i64 0, .int .i64 0, .int .i64 1, .int .i64 11, .int .i64 2, .int .i64 0, .int .i64 0, .int .i64 1, .int .i64 12, .int .i64 3, .int .i64 0, .int .i64 0, .int .i64 1, .int .i64 13] 36)).alloc (.cells #[.slice (some ⟨u4.heap.size, 0, none⟩) 4 4, .int .i64 0, .slice none 0 0] 27)) = v0 at *
  have R1 := Lib.hid hr1
  have Q1 := Lib.hid (show Wq v0 (some ⟨u4.heap.size, 0, none⟩) 4 4 0 none 0 0 S4 (F4 false false false false) from ⟨rfl, rfl, rfl, hE0, fun h => by simp [ea, ms, nx, List.range'] at h, rfl, by omega, by omega⟩)
  have HB := Lib.hid hB5
  clear hE0 hb5 hr1 hB5 hb4
  have d0 := R1.out.cell 0
  have d1 := R1.out.cell 1
  have d2 := R1.out.cell 2
  go_wp2_with (fail)
  go_must (refine (wq_ok (p := 1) Q1.out rfl).mono ?_)
  rintro e x1 ⟨A1, c1, q1, B1, n1, k1, D1, m1, l1, rfl, hW, hm, hE, hb, -, -, -⟩
  obtain rfl : m1 = 0 := by rw [← hm]; rfl
  clear hm d0 d1 d2
  go_upto_region 3 with (fail)
  have hbA : Below v0.heap.size v0 (x1.alloc (.cells #[.slice A1 4 c1, .int .i64 (q1 : Int), .slice B1 n1 k1] 27)) := Gen.b_alloc hb
  have hB5 := Gen.over hbA HB.out
  have hbN : Below x1.heap.size x1 (x1.alloc (.cells #[.slice A1 4 c1, .int .i64 (q1 : Int), .slice B1 n1 k1] 27)) := Gen.b_alloc (Below.refl _ _)
  have hrN : Row (x1.alloc (.cells #[.slice A1 4 c1, .int .i64 (q1 : Int), .slice B1 n1 k1] 27)) x1.heap.size 27 #[.slice A1 4 c1, .int .i64 (q1 : Int), .slice B1 n1 k1] := Row.new _ _ _
  replace hW := hW.keep hbN
  replace hE := hE.keep hbN
  generalize x1.alloc (.cells #[.slice A1 4 c1, .int .i64 (q1 : Int), .slice B1 n1 k1] 27) = v1 at *
  replace R1 := Lib.hid (R1.out.keep hbA)
  replace Q1 := Lib.hid (Q1.out.keep hbA)
  clear HB
  have HB := Lib.hid hB5
  have R2 := Lib.hid hrN
  have Q2 := Lib.hid (show Wq v1 A1 4 c1 q1 B1 n1 k1 S4 (F4 false true false false) from hW)
  have E2 := Lib.hid hE
  clear hrN hW hE hbN
  clear hb hbA hB5
  have d0 := R2.out.cell 0
  have d1 := R2.out.cell 1
  have d2 := R2.out.cell 2
  go_wp2_with (fail)
  go_must (refine (wq_ok (p := 2) Q2.out rfl).mono ?_)
  rintro e x2 ⟨A2, c2, q2, B2, n2, k2, D2, m2, l2, rfl, hW, hm, hE, hb, -, -, -⟩
  obtain rfl : m2 = 0 := by rw [← hm]; rfl
  clear hm d0 d1 d2
  go_upto_region 4 with (fail)
  have hbA : Below v1.heap.size v1 (x2.alloc (.cells #[.slice A2 4 c2, .int .i64 (q2 : Int), .slice B2 n2 k2] 27)) := Gen.b_alloc hb
  have hB5 := Gen.over hbA HB.out
  have hbN : Below x2.heap.size x2 (x2.alloc (.cells #[.slice A2 4 c2, .int .i64 (q2 : Int), .slice B2 n2 k2] 27)) := Gen.b_alloc (Below.refl _ _)
  have hrN : Row (x2.alloc (.cells #[.slice A2 4 c2, .int .i64 (q2 : Int), .slice B2 n2 k2] 27)) x2.heap.size 27 #[.slice A2 4 c2, .int .i64 (q2 : Int), .slice B2 n2 k2] := Row.new _ _ _
  replace hW := hW.keep hbN
  replace hE := hE.keep hbN
  generalize x2.alloc (.cells #[.slice A2 4 c2, .int .i64 (q2 : Int), .slice B2 n2 k2] 27) = v2 at *
  replace R1 := Lib.hid (R1.out.keep hbA)
  replace Q1 := Lib.hid (Q1.out.keep hbA)
  replace R2 := Lib.hid (R2.out.keep hbA)
  replace Q2 := Lib.hid (Q2.out.keep hbA)
  replace E2 := Lib.hid (E2.out.keep hbA)
  clear HB
  have HB := Lib.hid hB5
  have R5 := Lib.hid hrN
  have Q5 := Lib.hid (show Wq v2 A2 4 c2 q2 B2 n2 k2 S4 (F4 false true true false) from hW)
  have E5 := Lib.hid hE
  clear hrN hW hE hbN
  clear hb hbA hB5
  have d0 := R5.out.cell 0
  have d1 := R5.out.cell 1
  have d2 := R5.out.cell 2
  go_wp2_with (fail)
  go_must (refine (wq_twice (p := 1) Q5.out rfl).mono ?_)
  rintro e x3 ⟨rfl, hb⟩
  clear d0 d1 d2
  go_upto_region 5 with (fail)
  have hbA : Below v2.heap.size v2 (x3.alloc (.cells #[.slice none 0 0, .int .i64 0, .slice none 0 0] 27)) := Gen.b_alloc hb
  have hB5 := Gen.over hbA HB.out
  generalize x3.alloc (.cells #[.slice none 0 0, .int .i64 0, .slice none 0 0] 27) = v3 at *
  replace R1 := Lib.hid (R1.out.keep hbA)
  replace Q1 := Lib.hid (Q1.out.keep hbA)
  replace R2 := Lib.hid (R2.out.keep hbA)
  replace Q2 := Lib.hid (Q2.out.keep hbA)
  replace E2 := Lib.hid (E2.out.keep hbA)
  replace R5 := Lib.hid (R5.out.keep hbA)
  replace Q5 := Lib.hid (Q5.out.keep hbA)
  replace E5 := Lib.hid (E5.out.keep hbA)
  clear HB
  have HB := Lib.hid hB5
  clear hb hbA hB5
  have d0 := R5.out.cell 0
  have d1 := R5.out.cell 1
  have d2 := R5.out.cell 2
  go_wp2_with (fail)
  go_must (refine (wq_ok (p := 0) Q5.out rfl).mono ?_)
  rintro e x4 ⟨A4, c4, q4, B4, n4, k4, D4, m4, l4, rfl, hW, hm, hE, hb, -, -, -⟩
  obtain rfl : m4 = 3 := by rw [← hm]; rfl
  clear hm d0 d1 d2
  go_upto_region 6 with (fail)
  have hbA : Below v3.heap.size v3 (x4.alloc (.cells #[.slice A4 4 c4, .int .i64 (q4 : Int), .slice B4 n4 k4] 27)) := Gen.b_alloc hb
  have hB5 := Gen.over hbA HB.out
  have hbN : Below x4.heap.size x4 (x4.alloc (.cells #[.slice A4 4 c4, .int .i64 (q4 : Int), .slice B4 n4 k4] 27)) := Gen.b_alloc (Below.refl _ _)
  have hrN : Row (x4.alloc (.cells #[.slice A4 4 c4, .int .i64 (q4 : Int), .slice B4 n4 k4] 27)) x4.heap.size 27 #[.slice A4 4 c4, .int .i64 (q4 : Int), .slice B4 n4 k4] := Row.new _ _ _
  replace hW := hW.keep hbN
  replace hE := hE.keep hbN
  generalize x4.alloc (.cells #[.slice A4 4 c4, .int .i64 (q4 : Int), .slice B4 n4 k4] 27) = v4 at *
  replace R1 := Lib.hid (R1.out.keep hbA)
  replace Q1 := Lib.hid (Q1.out.keep hbA)
  replace R2 := Lib.hid (R2.out.keep hbA)
  replace Q2 := Lib.hid (Q2.out.keep hbA)
  replace E2 := Lib.hid (E2.out.keep hbA)
  replace R5 := Lib.hid (R5.out.keep hbA)
  replace Q5 := Lib.hid (Q5.out.keep hbA)
  replace E5 := Lib.hid (E5.out.keep hbA)
  clear HB
  have HB := Lib.hid hB5
  have R11 := Lib.hid hrN
  have Q11 := Lib.hid (show Wq v4 A4 4 c4 q4 B4 n4 k4 S4 (F4 true true true false) from hW)
  have E11 := Lib.hid hE
  clear hrN hW hE hbN
  clear hb hbA hB5
  have d0 := R11.out.cell 0
  have d1 := R11.out.cell 1
  have d2 := R11.out.cell 2
  go_wp2_with (fail)
  go_must (refine (wq_twice (p := 0) Q11.out rfl).mono ?_)
  rintro e x5 ⟨rfl, hb⟩
  clear d0 d1 d2
  go_upto_region 7 with (fail)
  have hbA : Below v4.heap.size v4 (x5.alloc (.cells #[.slice none 0 0, .int .i64 0, .slice none 0 0] 27)) := Gen.b_alloc hb
  have hB5 := Gen.over hbA HB.out
  generalize x5.alloc (.cells #[.slice none 0 0, .int .i64 0, .slice none 0 0] 27) = v5 at *
  replace R1 := Lib.hid (R1.out.keep hbA)
  replace Q1 := Lib.hid (Q1.out.keep hbA)
  replace R2 := Lib.hid (R2.out.keep hbA)
  replace Q2 := Lib.hid (Q2.out.keep hbA)
  replace E2 := Lib.hid (E2.out.keep hbA)
  replace R5 := Lib.hid (R5.out.keep hbA)
  replace Q5 := Lib.hid (Q5.out.keep hbA)
  replace E5 := Lib.hid (E5.out.keep hbA)
  replace R11 := Lib.hid (R11.out.keep hbA)
  replace Q11 := Lib.hid (Q11.out.keep hbA)
  replace E11 := Lib.hid (E11.out.keep hbA)
  clear HB
  have HB := Lib.hid hB5
  clear hb hbA hB5
  have d0 := R11.out.cell 0
  have d1 := R11.out.cell 1
  have d2 := R11.out.cell 2
  go_wp2_with (fail)
  go_must (refine (wq_none (seq := 9) Q11.out (.inr (by omega))).mono ?_)
  rintro e x6 ⟨rfl, hb⟩
  clear d0 d1 d2
  go_upto_region 8 with (fail)
  have hbA : Below v5.heap.size v5 (x6.alloc (.cells #[.slice none 0 0, .int .i64 0, .slice none 0 0] 27)) := Gen.b_alloc hb
  have hB5 := Gen.over hbA HB.out
  generalize x6.alloc (.cells #[.slice none 0 0, .int .i64 0, .slice none 0 0] 27) = v6 at *
  replace R1 := Lib.hid (R1.out.keep hbA)
  replace Q1 := Lib.hid (Q1.out.keep hbA)
  replace R2 := Lib.hid (R2.out.keep hbA)
  replace Q2 := Lib.hid (Q2.out.keep hbA)
  replace E2 := Lib.hid (E2.out.keep hbA)
  replace R5 := Lib.hid (R5.out.keep hbA)
  replace Q5 := Lib.hid (Q5.out.keep hbA)
  replace E5 := Lib.hid (E5.out.keep hbA)
  replace R11 := Lib.hid (R11.out.keep hbA)
  replace Q11 := Lib.hid (Q11.out.keep hbA)
  replace E11 := Lib.hid (E11.out.keep hbA)
  clear HB
  have HB := Lib.hid hB5
  clear hb hbA hB5
  go_wp2_with (fail)
  go_must (refine (entry_is 5 _ (by omega) (by omega)).mono ?_)
  rintro e y1 ⟨rfl, hb⟩
  go_wp2_with (fail)
  go_must (refine (send_nil _ _ _ _ _ _).mono ?_)
  rintro e y2 ⟨A9, c9, q9, B9, n9, k9, rfl, hW, hb2, -⟩
  go_upto_region 9 with (fail)
  have hbA : Below v6.heap.size v6 (y2.alloc (.cells #[.slice A9 1 c9, .int .i64 (q9 : Int), .slice B9 n9 k9] 27)) := Gen.b_alloc (Gen.over hb2 hb)
  have hB5 := Gen.over hbA HB.out
  have hr20 : Row (y2.alloc (.cells #[.slice A9 1 c9, .int .i64 (q9 : Int), .slice B9 n9 k9] 27)) y2.heap.size 27 #[.slice A9 1 c9, .int .i64 (q9 : Int), .slice B9 n9 k9] := Row.new _ _ _
  generalize y2.alloc (.cells #[.slice A9 1 c9, .int .i64 (q9 : Int), .slice B9 n9 k9] 27) = v7 at *
  replace R1 := Lib.hid (R1.out.keep hbA)
  replace Q1 := Lib.hid (Q1.out.keep hbA)
  replace R2 := Lib.hid (R2.out.keep hbA)
  replace Q2 := Lib.hid (Q2.out.keep hbA)
  replace E2 := Lib.hid (E2.out.keep hbA)
  replace R5 := Lib.hid (R5.out.keep hbA)
  replace Q5 := Lib.hid (Q5.out.keep hbA)
  replace E5 := Lib.hid (E5.out.keep hbA)
  replace R11 := Lib.hid (R11.out.keep hbA)
  replace Q11 := Lib.hid (Q11.out.keep hbA)
  replace E11 := Lib.hid (E11.out.keep hbA)
  clear HB
  have HB := Lib.hid hB5
  have d0 := hr20.cell 0
  clear hb hb2 hW hbA hB5
  go_wp2_with (fail)
  clear d0 hr20
  have h3 : (S4.take 3).length = 3 := rfl
  have h1 : (S4.drop 3).length = 1 := rfl
  have HE11 := Lib.hid (show Ens v7 D4 (S4.take 3) from E11.out)
  have hcut := Ens.cut (k := 3) (m := 4) Q1.out.he (by decide) (by omega)
  have HS3 := Lib.hid (show Ens v7 (some ⟨u4.heap.size, 0, none⟩) (S4.take 3) from Ens.cut (k := 0) (m := 3) Q1.out.he (by decide) (by omega))
  have HS1 := Lib.hid (show Ens v7 (some ⟨u4.heap.size, 15, none⟩) (S4.drop 3) from hcut)
  have hSS : Below v7.heap.size v7 v7.drew ∧ v7.drew.cell? ⟨u4.heap.size + 1, 0, none⟩ = some (.slice (some ⟨u4.heap.size, 0, none⟩) 4 4) ∧ v7.drew.cell? ⟨x2.heap.size, 0, none⟩ = some (.slice A2 4 c2) ∧ v7.drew.cell? ⟨x2.heap.size, 1, none⟩ = some (.int .i64 (q2 : Int)) ∧ v7.drew.cell? ⟨x2.heap.size, 2, none⟩ = some (.slice B2 n2 k2) ∧ v7.drew.cell? ⟨x4.heap.size, 0, none⟩ = some (.slice A4 4 c4) ∧ v7.drew.cell? ⟨x4.heap.size, 1, none⟩ = some (.int .i64 (q4 : Int)) ∧ v7.drew.cell? ⟨x4.heap.size, 2, none⟩ = some (.slice B4 n4 k4) := ⟨(Below.refl _ _).drew, R1.out.cell 0, R5.out.cell 0, R5.out.cell 1, R5.out.cell 2, R11.out.cell 0, R11.out.cell 1, R11.out.cell 2⟩
  have HSS := Lib.hid hSS
  have hG4 := ag_a
  have HG4 := Lib.hid ag_a
  have HG1 := Lib.hid ag_b
  clear hSS hcut hG4
  go_region_held3 (fun W' : World => Below v7.heap.size v7 W' ∧ W'.cell? ⟨u4.heap.size + 1, 0, none⟩ = some (.slice (some ⟨u4.heap.size, 0, none⟩) 4 4) ∧ W'.cell? ⟨x2.heap.size, 0, none⟩ = some (.slice A2 4 c2) ∧ W'.cell? ⟨x2.heap.size, 1, none⟩ = some (.int .i64 (q2 : Int)) ∧ W'.cell? ⟨x2.heap.size, 2, none⟩ = some (.slice B2 n2 k2) ∧ W'.cell? ⟨x4.heap.size, 0, none⟩ = some (.slice A4 4 c4) ∧ W'.cell? ⟨x4.heap.size, 1, none⟩ = some (.int .i64 (q4 : Int)) ∧ W'.cell? ⟨x4.heap.size, 2, none⟩ = some (.slice B4 n4 k4))
    (first | exact HSS.out | exact kk (by assumption) (by assumption) | exact kk (by assumption) (Gen.b_alloc (Below.refl _ _)) | fail "keep")
    (first
      | (go_at_call 16; with_reducible refine (same_eq (l := S4.take 3) _ h3 (HE11.out.keep (And.left (by assumption))) (HS3.out.keep (And.left (by assumption))) (by omega)).mono ?_; rintro e' z1 ⟨rfl, hz1⟩)
      | (go_at_call 13; with_reducible refine (wq_again (Q5.out.keep (And.left (by assumption)))).mono ?_; rintro e' z2 ⟨Aa, ma, ca, rfl, hma, hIa, hz2⟩; obtain rfl : ma = 2 := (by rw [← hma]; decide); rw [HG4.out] at hIa)
      | (go_at_call 18; with_reducible refine (ints_eq (l := [0, 3]) _ len2 (by first | exact hIa | exact hIa.keep (Gen.b_alloc (Below.refl _ _))) (by first | exact row_ints (Row.new _ _ _) rfl | exact row_ints ((Row.new _ _ _).keep hz2) rfl) (by omega)).mono ?_; rintro e' z3 ⟨rfl, hz3⟩)
      | (go_at_call 12; with_reducible refine (wq_flight (Q5.out.keep (And.left (by assumption)))).mono ?_; rintro e' z4 ⟨Af, mf, cf, rfl, hmf, hEf, hz4⟩; obtain rfl : mf = 4 := (by rw [← hmf]; decide))
      | (go_at_call 12; with_reducible refine (wq_flight (Q11.out.keep (And.left (by assumption)))).mono ?_; rintro e' z5 ⟨Ag, mg, cg, rfl, hmg, hEg, hz5⟩; obtain rfl : mg = 1 := (by rw [← hmg]; decide))
      | (go_at_call 16; with_reducible refine (same_eq (l := S4.drop 3) _ h1 hEg (HS1.out.keep (And.left (by assumption))) (by omega)).mono ?_; rintro e' z6 ⟨rfl, hz6⟩)
      | (go_at_call 13; with_reducible refine (wq_again (Q11.out.keep (And.left (by assumption)))).mono ?_; rintro e' z7 ⟨Ab, mb, cb, rfl, hmb, hIb, hz7⟩; obtain rfl : mb = 1 := (by rw [← hmb]; decide); rw [HG1.out] at hIb)
      | (go_at_call 18; with_reducible refine (ints_eq (l := [3]) _ len1 (by first | exact hIb | exact hIb.keep (Gen.b_alloc (Below.refl _ _))) (by first | exact row_ints (Row.new _ _ _) rfl | exact row_ints ((Row.new _ _ _).keep hz7) rfl) (by omega)).mono ?_; rintro e' z8 ⟨rfl, hz8⟩)
      | fail "arm")
  all_goals
    rename_i hKK
    have HBf := Lib.hid (Gen.over hKK.1 HB.out)
    have Q11f := Lib.hid (Q11.out.keep hKK.1)
    obtain ⟨_, _, _, _, _, d0, d1, d2⟩ := hKK
    have hrg : rgW 0 1 [] = false := by decide
    have HRG := Lib.hid hrg
    clear hrg R1 Q1 R2 Q2 E2 R5 Q5 E5 R11 Q11 E11 HB h3 h1 HE11 HS3 HS1 HSS HG4 HG1
    go_wp2_with (fail)
    go_must (refine (wq_right Q11f.out).mono ?_)
    rintro e y3 ⟨rfl, hb3⟩
    have HB3 := Lib.hid (Gen.over hb3 HBf.out)
    clear hb3 d0 d1 d2
    go_wp2_with (fail)
    go_must (refine (right_any (n := 0) (n2 := 0) (nxt := 1) (early := []) _ (by omega) (by omega) rfl (fun h => by simp at h)).mono ?_)
    rintro e y4 ⟨rfl, hb4⟩
    rw [HRG.out]
    have HB4 := Lib.hid (Gen.over hb4 HB3.out)
    clear hb4
    go_wp2
    go_ret
    exact ⟨rfl, HB4.out⟩
end Go.Proofs.Ytefikmfogbdhpaa.Po
