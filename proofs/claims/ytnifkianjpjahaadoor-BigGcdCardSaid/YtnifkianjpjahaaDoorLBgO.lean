/- BigOrder returns true: all three big integers, right or not; the table of powers of ten as the text lays it. -/
import Derived.Test.YtnifkianjpjahaaDoorBhP
namespace Go.Proofs.YtnifkianjpjahaaDoor.Bg
open Go.ChangeShapes Go.WideShapes Go.ChangeAt Go.RowKit Go.Proofs.YtnifkianjpjahaaDoor.Cell
set_option linter.unusedVariables false
set_option linter.unusedSimpArgs false

theorem sub_sgn {x y k : Int} {va vb : Value} (w : World) (hx : IsBig w va x) (hy : IsBig w vb y) (hf : Fit (x - y)) (hk : sg (x - y) = k) :
    Calls Tryd.prog 15 #[va, vb] w fun e w' => ∃ A n c, e = .returned (.tuple #[bigV k A n c, .int .i64 0]) ∧ IsBig w' (bigV k A n c) (x - y) ∧ Below w.heap.size w w' :=
  (sub_fit w hx hy hf).mono fun e w' ⟨v, h1, h2, h3⟩ => by
    obtain ⟨A, c, l, rfl, _⟩ := h2.ex
    subst hk
    exact ⟨A, l.length, c, h1, h2, h3⟩
theorem same_as {x y : Int} {b : Bool} {va vb : Value} (w : World) (hx : IsBig w va x) (hy : IsBig w vb y) (h : decide (x = y) = b) :
    Calls Tryd.prog 18 #[va, vb] w fun e w' => e = .returned (.bool b) ∧ Below w.heap.size w w' := by
  subst h
  exact same_val w hx hy
theorem cmpI_sg (x y : Int) : sg (x - y) = cmpI x y := by
  unfold sg cmpI
  by_cases h : x < y
  · rw [if_pos h, if_pos (by omega)]
  · rw [if_neg h, if_neg (by omega)]
    by_cases h' : y < x
    · rw [if_pos h', if_pos (by omega)]
    · rw [if_neg h', if_neg (by omega)]
theorem cmpI_neg (x y : Int) : cmpI y x = -cmpI x y := by
  rw [← cmpI_sg, ← cmpI_sg, ← sg_negate]
  congr 1
  omega
theorem cmpI_add (x y z : Int) : cmpI (x + z) (y + z) = cmpI x y := by
  rw [← cmpI_sg, ← cmpI_sg]
  congr 1
  omega
theorem cmpI_mul (x y z : Int) : cmpI (x * z) (y * z) = cmpI x y * sg z := by
  rw [← cmpI_sg, ← cmpI_sg, ← Int.sub_mul, sg_mul]
theorem cmpI_zero (x y : Int) : (cmpI x y == 0) = decide (x = y) := by
  unfold cmpI
  by_cases h : x < y
  · rw [if_pos h, decide_eq_false (by omega)]; rfl
  · rw [if_neg h]
    by_cases h' : y < x
    · rw [if_pos h', decide_eq_false (by omega)]; rfl
    · rw [if_neg h', decide_eq_true (by omega)]; rfl
theorem cmpI_in (x y : Int) : -1 ≤ cmpI x y ∧ cmpI x y ≤ 1 := by rw [← cmpI_sg]; exact sg_in _

section
variable {s0 s1 s2 : Int} {A0 A1 A2 : Option Addr} {n0 c0 n1 c1 n2 c2 : Nat} {l0 l1 l2 : List Int}
set_option maxRecDepth 100000 in
set_option maxHeartbeats 16000000 in
theorem order_any (w : World) (hT : PowTab w) (b0 : Arg w (bigV s0 A0 n0 c0) n0 s0 l0) (b1 : Arg w (bigV s1 A1 n1 c1) n1 s1 l1) (b2 : Arg w (bigV s2 A2 n2 c2) n2 s2 l2) :
    Calls Tryd.prog 4 #[bigV s0 A0 n0 c0, bigV s1 A1 n1 c1, bigV s2 A2 n2 c2] w fun e w' => e = .returned (.bool true) ∧ Below w.heap.size w w' := by
  have HB := Lib.hid (bx3_b w #[.int .i64 s0, .slice A0 n0 c0] #[.int .i64 s1, .slice A1 n1 c1] #[.int .i64 s2, .slice A2 n2 c2])
  have R0 := Lib.hid (bx3_0 w #[.int .i64 s0, .slice A0 n0 c0] #[.int .i64 s1, .slice A1 n1 c1] #[.int .i64 s2, .slice A2 n2 c2])
  have R1 := Lib.hid (bx3_1 w #[.int .i64 s0, .slice A0 n0 c0] #[.int .i64 s1, .slice A1 n1 c1] #[.int .i64 s2, .slice A2 n2 c2])
  have R2 := Lib.hid (bx3_2 w #[.int .i64 s0, .slice A0 n0 c0] #[.int .i64 s1, .slice A1 n1 c1] #[.int .i64 s2, .slice A2 n2 c2])
  have HA0 := Lib.hid (b0.keep HB.out)
  have HA1 := Lib.hid (b1.keep HB.out)
  have HA2 := Lib.hid (b2.keep HB.out)
  have HT := Lib.hid (hT.keep HB.out)
  unfold bx3 at HB HT R0 HA0 R1 HA1 R2 HA2
  clear hT b0 b1 b2
  go_enter Tryd.func4, Tryd.ntmps4
  go_wp2_with (fail)
  go_must (refine (small_yes _ HT.out).mono ?_)
  rintro e W1 ⟨rfl, hb1⟩
  replace HB := Lib.hid (Gen.over hb1 HB.out)
  replace HA0 := Lib.hid (HA0.out.keep hb1)
  replace R0 := Lib.hid (R0.out.keep hb1)
  replace HA1 := Lib.hid (HA1.out.keep hb1)
  replace R1 := Lib.hid (R1.out.keep hb1)
  replace HA2 := Lib.hid (HA2.out.keep hb1)
  replace R2 := Lib.hid (R2.out.keep hb1)
  clear hb1
  clear HT
  by_cases hq0 : (n0 : Int) ≤ 25
  rotate_left
  · have HQ := Lib.hid hq0
    clear hq0
    have p0 := R0.out.cell 0
    have p1 := R0.out.cell 1
    go_wp2_with (fail)
    go_must (refine (HA0.out.few _ false (decide_eq_false (by have := HQ.out; omega))).mono ?_)
    rintro e W2 ⟨rfl, hb2⟩
    replace HB := Lib.hid (Gen.over hb2 HB.out)
    clear hb2
    clear p0 p1
    go_wp2
    go_ret
    exact ⟨rfl, HB.out⟩
  have HQ0 := Lib.hid hq0
  clear hq0
  have p0 := R0.out.cell 0
  have p1 := R0.out.cell 1
  go_wp2_with (fail)
  go_must (refine (HA0.out.few _ true (decide_eq_true HQ0.out)).mono ?_)
  rintro e W2 ⟨rfl, hb2⟩
  replace HB := Lib.hid (Gen.over hb2 HB.out)
  replace HA0 := Lib.hid (HA0.out.keep hb2)
  replace R0 := Lib.hid (R0.out.keep hb2)
  replace HA1 := Lib.hid (HA1.out.keep hb2)
  replace R1 := Lib.hid (R1.out.keep hb2)
  replace HA2 := Lib.hid (HA2.out.keep hb2)
  replace R2 := Lib.hid (R2.out.keep hb2)
  clear hb2
  clear p0 p1
  by_cases hq1 : (n1 : Int) ≤ 25
  rotate_left
  · have HQ := Lib.hid hq1
    clear hq1
    have p0 := R1.out.cell 0
    have p1 := R1.out.cell 1
    go_wp2_with (fail)
    go_must (refine (HA1.out.few _ false (decide_eq_false (by have := HQ.out; omega))).mono ?_)
    rintro e W3 ⟨rfl, hb3⟩
    replace HB := Lib.hid (Gen.over hb3 HB.out)
    clear hb3
    clear p0 p1
    go_wp2
    go_ret
    exact ⟨rfl, HB.out⟩
  have HQ1 := Lib.hid hq1
  clear hq1
  have p0 := R1.out.cell 0
  have p1 := R1.out.cell 1
  go_wp2_with (fail)
  go_must (refine (HA1.out.few _ true (decide_eq_true HQ1.out)).mono ?_)
  rintro e W3 ⟨rfl, hb3⟩
  replace HB := Lib.hid (Gen.over hb3 HB.out)
  replace HA0 := Lib.hid (HA0.out.keep hb3)
  replace R0 := Lib.hid (R0.out.keep hb3)
  replace HA1 := Lib.hid (HA1.out.keep hb3)
  replace R1 := Lib.hid (R1.out.keep hb3)
  replace HA2 := Lib.hid (HA2.out.keep hb3)
  replace R2 := Lib.hid (R2.out.keep hb3)
  clear hb3
  clear p0 p1
  by_cases hq2 : (n2 : Int) ≤ 25
  rotate_left
  · have HQ := Lib.hid hq2
    clear hq2
    have p0 := R2.out.cell 0
    have p1 := R2.out.cell 1
    go_wp2_with (fail)
    go_must (refine (HA2.out.few _ false (decide_eq_false (by have := HQ.out; omega))).mono ?_)
    rintro e W4 ⟨rfl, hb4⟩
    replace HB := Lib.hid (Gen.over hb4 HB.out)
    clear hb4
    clear p0 p1
    go_wp2
    go_ret
    exact ⟨rfl, HB.out⟩
  have HQ2 := Lib.hid hq2
  clear hq2
  have p0 := R2.out.cell 0
  have p1 := R2.out.cell 1
  go_wp2_with (fail)
  go_must (refine (HA2.out.few _ true (decide_eq_true HQ2.out)).mono ?_)
  rintro e W4 ⟨rfl, hb4⟩
  replace HB := Lib.hid (Gen.over hb4 HB.out)
  replace HA0 := Lib.hid (HA0.out.keep hb4)
  replace R0 := Lib.hid (R0.out.keep hb4)
  replace HA1 := Lib.hid (HA1.out.keep hb4)
  replace R1 := Lib.hid (R1.out.keep hb4)
  replace HA2 := Lib.hid (HA2.out.keep hb4)
  replace R2 := Lib.hid (R2.out.keep hb4)
  clear hb4
  clear p0 p1
  cases hr0 : rgtB s0 l0
  · have HQ := Lib.hid hr0
    clear hr0
    have p0 := R0.out.cell 0
    have p1 := R0.out.cell 1
    go_wp2_with (fail)
    go_must (refine (HA0.out.right false HQ.out).mono ?_)
    rintro e W5 ⟨rfl, hb5⟩
    replace HB := Lib.hid (Gen.over hb5 HB.out)
    clear hb5
    clear p0 p1
    go_wp2
    go_ret
    exact ⟨rfl, HB.out⟩
  have HG0 := Lib.hid hr0
  clear hr0
  have p0 := R0.out.cell 0
  have p1 := R0.out.cell 1
  go_wp2_with (fail)
  go_must (refine (HA0.out.right true HG0.out).mono ?_)
  rintro e W5 ⟨rfl, hb5⟩
  replace HB := Lib.hid (Gen.over hb5 HB.out)
  replace HA0 := Lib.hid (HA0.out.keep hb5)
  replace R0 := Lib.hid (R0.out.keep hb5)
  replace HA1 := Lib.hid (HA1.out.keep hb5)
  replace R1 := Lib.hid (R1.out.keep hb5)
  replace HA2 := Lib.hid (HA2.out.keep hb5)
  replace R2 := Lib.hid (R2.out.keep hb5)
  clear hb5
  clear p0 p1
  cases hr1 : rgtB s1 l1
  · have HQ := Lib.hid hr1
    clear hr1
    have p0 := R1.out.cell 0
    have p1 := R1.out.cell 1
    go_wp2_with (fail)
    go_must (refine (HA1.out.right false HQ.out).mono ?_)
    rintro e W6 ⟨rfl, hb6⟩
    replace HB := Lib.hid (Gen.over hb6 HB.out)
    clear hb6
    clear p0 p1
    go_wp2
    go_ret
    exact ⟨rfl, HB.out⟩
  have HG1 := Lib.hid hr1
  clear hr1
  have p0 := R1.out.cell 0
  have p1 := R1.out.cell 1
  go_wp2_with (fail)
  go_must (refine (HA1.out.right true HG1.out).mono ?_)
  rintro e W6 ⟨rfl, hb6⟩
  replace HB := Lib.hid (Gen.over hb6 HB.out)
  replace HA0 := Lib.hid (HA0.out.keep hb6)
  replace R0 := Lib.hid (R0.out.keep hb6)
  replace HA1 := Lib.hid (HA1.out.keep hb6)
  replace R1 := Lib.hid (R1.out.keep hb6)
  replace HA2 := Lib.hid (HA2.out.keep hb6)
  replace R2 := Lib.hid (R2.out.keep hb6)
  clear hb6
  clear p0 p1
  cases hr2 : rgtB s2 l2
  · have HQ := Lib.hid hr2
    clear hr2
    have p0 := R2.out.cell 0
    have p1 := R2.out.cell 1
    go_wp2_with (fail)
    go_must (refine (HA2.out.right false HQ.out).mono ?_)
    rintro e W7 ⟨rfl, hb7⟩
    replace HB := Lib.hid (Gen.over hb7 HB.out)
    clear hb7
    clear p0 p1
    go_wp2
    go_ret
    exact ⟨rfl, HB.out⟩
  have HG2 := Lib.hid hr2
  clear hr2
  have p0 := R2.out.cell 0
  have p1 := R2.out.cell 1
  go_wp2_with (fail)
  go_must (refine (HA2.out.right true HG2.out).mono ?_)
  rintro e W7 ⟨rfl, hb7⟩
  replace HB := Lib.hid (Gen.over hb7 HB.out)
  replace HA0 := Lib.hid (HA0.out.keep hb7)
  replace R0 := Lib.hid (R0.out.keep hb7)
  replace HA1 := Lib.hid (HA1.out.keep hb7)
  replace R1 := Lib.hid (R1.out.keep hb7)
  replace HA2 := Lib.hid (HA2.out.keep hb7)
  replace R2 := Lib.hid (R2.out.keep hb7)
  clear hb7
  clear p0 p1
  obtain ⟨x0, hx0, hs0, hz0⟩ := HA0.out.big HG0.out
  have HX0 := Lib.hid hx0
  have HSG0 := Lib.hid hs0
  have HZ0 := Lib.hid (hz0 25 (by have := HQ0.out; omega))
  clear hx0 hs0 hz0
  obtain ⟨x1, hx1, hs1, hz1⟩ := HA1.out.big HG1.out
  have HX1 := Lib.hid hx1
  have HSG1 := Lib.hid hs1
  have HZ1 := Lib.hid (hz1 25 (by have := HQ1.out; omega))
  clear hx1 hs1 hz1
  obtain ⟨x2, hx2, hs2, hz2⟩ := HA2.out.big HG2.out
  have HX2 := Lib.hid hx2
  have HSG2 := Lib.hid hs2
  have HZ2 := Lib.hid (hz2 25 (by have := HQ2.out; omega))
  clear hx2 hs2 hz2
  have HV := Lib.hid (Vs.cons (Vs.cons (Vs.cons (Vs.nil W7) R0.out HX0.out) R1.out HX1.out) R2.out HX2.out)
  clear HA0 R0 HX0 HG0 HQ0 HA1 R1 HX1 HG1 HQ1 HA2 R2 HX2 HG2 HQ2
  obtain ⟨k, hk⟩ : ∃ k, cmpI x0 x1 = k := ⟨_, rfl⟩
  obtain ⟨b0, hb0⟩ : ∃ b, (k == 0) = b := ⟨_, rfl⟩
  have hk1 : -1 ≤ k ∧ k ≤ 1 := by rw [← hk]; exact cmpI_in _ _
  have hs2 : -1 ≤ s2 ∧ s2 ≤ 1 := by rw [HSG2.out]; exact sg_in _
  have hm : -1 ≤ k * s2 ∧ k * s2 ≤ 1 := by
    rw [← hk, HSG2.out, ← cmpI_mul]
    exact cmpI_in _ _
  have hw1 : IntKind.i64.wrap (-k) = -k := IntWalk.i64_in _ (by omega)
  have hw2 : IntKind.i64.wrap (k * s2) = k * s2 := IntWalk.i64_in _ (by omega)
  have HBB : Hid (decide (x0 = x1) = b0) := Lib.hid (by rw [← hb0, ← hk]; exact (cmpI_zero _ _).symm)
  have HK := Lib.hid hk
  have HK1 := Lib.hid hk1
  have HM : Hid (cmpI (x0 * x2) (x1 * x2) = k * s2) := Lib.hid (by rw [cmpI_mul, hk, HSG2.out])
  have HA : Hid (cmpI (x0 + x2) (x1 + x2) = k) := Lib.hid (by rw [cmpI_add]; exact hk)
  have HN : Hid (cmpI x1 x0 = -k) := Lib.hid (by rw [cmpI_neg, hk])
  have HS1 : Hid (sg (x0 - x1) = k) := Lib.hid (by rw [cmpI_sg]; exact hk)
  clear hk hk1 hs2 hm
  have d1 := HV.out.c0 (.tail _ (.tail _ (.head _)))
  have f1 := HV.out.c1 (.tail _ (.tail _ (.head _)))
  have d2 := HV.out.c0 (.tail _ (.head _))
  have f2 := HV.out.c1 (.tail _ (.head _))
  go_wp2_with (fail)
  go_must (refine (cmp_to _ (HV.out.big (.tail _ (.tail _ (.head _)))) (HV.out.big (.tail _ (.head _))) HK.out).mono ?_)
  rintro e W8 ⟨rfl, hb8⟩
  replace HV := Lib.hid (HV.out.keep hb8)
  replace HB := Lib.hid (Gen.over hb8 HB.out)
  clear hb8
  clear d1 f1 d2 f2
  have d3 := HV.out.c0 (.tail _ (.tail _ (.head _)))
  have f3 := HV.out.c1 (.tail _ (.tail _ (.head _)))
  have d4 := HV.out.c0 (.tail _ (.head _))
  have f4 := HV.out.c1 (.tail _ (.head _))
  go_wp2_with (fail)
  go_must (refine (sub_sgn _ (HV.out.big (.tail _ (.tail _ (.head _)))) (HV.out.big (.tail _ (.head _))) ((HZ0.out.sub HZ1.out (n := 26) (by omega)).fit) HS1.out).mono ?_)
  rintro e W9 ⟨Av9, nv9, cv9, rfl, hv9, hb9⟩
  replace HV := Lib.hid (HV.out.keep hb9)
  replace HB := Lib.hid (Gen.over hb9 HB.out)
  have Hv9 := Lib.hid hv9
  clear hv9
  clear hb9
  clear d3 f3 d4 f4
  replace HV := Lib.hid (HV.out.ad Hv9.out)
  replace HB := Lib.hid (below_ad HB.out Hv9.out)
  have d5 := HV.out.c0 (.tail _ (.tail _ (.tail _ (.head _))))
  have f5 := HV.out.c1 (.tail _ (.tail _ (.tail _ (.head _))))
  have d6 := HV.out.c0 (.tail _ (.head _))
  have f6 := HV.out.c1 (.tail _ (.head _))
  go_wp2_with (fail)
  go_must (refine (add_fit _ (HV.out.big (.tail _ (.tail _ (.tail _ (.head _))))) (HV.out.big (.tail _ (.head _))) ((HZ0.out.add HZ2.out (n := 26) (by omega)).fit)).mono ?_)
  rintro e W10 ⟨v10, rfl, hv10, hb10⟩
  replace HV := Lib.hid (HV.out.keep hb10)
  replace HB := Lib.hid (Gen.over hb10 HB.out)
  obtain ⟨Av10, cv10, lv10, rfl, _⟩ := hv10.ex
  obtain ⟨nv10, hnv10⟩ : ∃ n, lv10.length = n := ⟨_, rfl⟩
  rw [hnv10] at hv10 ⊢
  have Hv10 := Lib.hid hv10
  clear hnv10 hv10
  clear hb10
  clear d5 f5 d6 f6
  replace HV := Lib.hid (HV.out.ad Hv10.out)
  replace HB := Lib.hid (below_ad HB.out Hv10.out)
  have d7 := HV.out.c0 (.tail _ (.tail _ (.tail _ (.head _))))
  have f7 := HV.out.c1 (.tail _ (.tail _ (.tail _ (.head _))))
  have d8 := HV.out.c0 (.tail _ (.tail _ (.head _)))
  have f8 := HV.out.c1 (.tail _ (.tail _ (.head _)))
  go_wp2_with (fail)
  go_must (refine (add_fit _ (HV.out.big (.tail _ (.tail _ (.tail _ (.head _))))) (HV.out.big (.tail _ (.tail _ (.head _)))) ((HZ1.out.add HZ2.out (n := 26) (by omega)).fit)).mono ?_)
  rintro e W11 ⟨v11, rfl, hv11, hb11⟩
  replace HV := Lib.hid (HV.out.keep hb11)
  replace HB := Lib.hid (Gen.over hb11 HB.out)
  obtain ⟨Av11, cv11, lv11, rfl, _⟩ := hv11.ex
  obtain ⟨nv11, hnv11⟩ : ∃ n, lv11.length = n := ⟨_, rfl⟩
  rw [hnv11] at hv11 ⊢
  have Hv11 := Lib.hid hv11
  clear hnv11 hv11
  clear hb11
  clear d7 f7 d8 f8
  replace HV := Lib.hid (HV.out.ad Hv11.out)
  replace HB := Lib.hid (below_ad HB.out Hv11.out)
  have d9 := HV.out.c0 (.tail _ (.tail _ (.tail _ (.tail _ (.tail _ (.head _))))))
  have f9 := HV.out.c1 (.tail _ (.tail _ (.tail _ (.tail _ (.tail _ (.head _))))))
  have d10 := HV.out.c0 (.tail _ (.tail _ (.tail _ (.head _))))
  have f10 := HV.out.c1 (.tail _ (.tail _ (.tail _ (.head _))))
  go_wp2_with (fail)
  go_must (refine (mul_fit _ (HV.out.big (.tail _ (.tail _ (.tail _ (.tail _ (.tail _ (.head _))))))) (HV.out.big (.tail _ (.tail _ (.tail _ (.head _))))) ((HZ0.out.mul HZ2.out).fit)).mono ?_)
  rintro e W12 ⟨v12, rfl, hv12, hb12⟩
  replace HV := Lib.hid (HV.out.keep hb12)
  replace HB := Lib.hid (Gen.over hb12 HB.out)
  obtain ⟨Av12, cv12, lv12, rfl, _⟩ := hv12.ex
  obtain ⟨nv12, hnv12⟩ : ∃ n, lv12.length = n := ⟨_, rfl⟩
  rw [hnv12] at hv12 ⊢
  have Hv12 := Lib.hid hv12
  clear hnv12 hv12
  clear hb12
  clear d9 f9 d10 f10
  replace HV := Lib.hid (HV.out.ad Hv12.out)
  replace HB := Lib.hid (below_ad HB.out Hv12.out)
  have d11 := HV.out.c0 (.tail _ (.tail _ (.tail _ (.tail _ (.tail _ (.head _))))))
  have f11 := HV.out.c1 (.tail _ (.tail _ (.tail _ (.tail _ (.tail _ (.head _))))))
  have d12 := HV.out.c0 (.tail _ (.tail _ (.tail _ (.tail _ (.head _)))))
  have f12 := HV.out.c1 (.tail _ (.tail _ (.tail _ (.tail _ (.head _)))))
  go_wp2_with (fail)
  go_must (refine (mul_fit _ (HV.out.big (.tail _ (.tail _ (.tail _ (.tail _ (.tail _ (.head _))))))) (HV.out.big (.tail _ (.tail _ (.tail _ (.tail _ (.head _)))))) ((HZ1.out.mul HZ2.out).fit)).mono ?_)
  rintro e W13 ⟨v13, rfl, hv13, hb13⟩
  replace HV := Lib.hid (HV.out.keep hb13)
  replace HB := Lib.hid (Gen.over hb13 HB.out)
  obtain ⟨Av13, cv13, lv13, rfl, _⟩ := hv13.ex
  obtain ⟨nv13, hnv13⟩ : ∃ n, lv13.length = n := ⟨_, rfl⟩
  rw [hnv13] at hv13 ⊢
  have Hv13 := Lib.hid hv13
  clear hnv13 hv13
  clear hb13
  clear d11 f11 d12 f12
  replace HV := Lib.hid (HV.out.ad Hv13.out)
  replace HB := Lib.hid (below_ad HB.out Hv13.out)
  go_wp2_with (fail)
  generalize hWz : W13.alloc (.cells #[.int .i64 (sg (x1 * x2)), .slice Av13 nv13 cv13] 24) = Wz at HV HB ⊢
  clear hWz
  have HXa := Lib.hid (HV.out.big (.tail _ (.tail _ (.tail _ (.tail _ (.tail _ (.tail _ (.tail _ (.head _)))))))))
  have HXb := Lib.hid (HV.out.big (.tail _ (.tail _ (.tail _ (.tail _ (.tail _ (.tail _ (.head _))))))))
  have HXx := Lib.hid (HV.out.big (.tail _ (.tail _ (.tail _ (.head _)))))
  have HXy := Lib.hid (HV.out.big (.tail _ (.tail _ (.head _))))
  have HXp := Lib.hid (HV.out.big (.tail _ (.head _)))
  have HXq := Lib.hid (HV.out.big (.head _))
  have HS0 : Hid (Below Wz.heap.size Wz Wz ∧ Wz.cell? ⟨w.heap.size, 0, none⟩ = some (.int .i64 s0) ∧ Wz.cell? ⟨w.heap.size, 1, none⟩ = some (.slice A0 n0 c0) ∧ Wz.cell? ⟨w.heap.size + 1, 0, none⟩ = some (.int .i64 s1) ∧ Wz.cell? ⟨w.heap.size + 1, 1, none⟩ = some (.slice A1 n1 c1) ∧ Wz.cell? ⟨W9.heap.size, 0, none⟩ = some (.int .i64 k) ∧ Wz.cell? ⟨W10.heap.size, 0, none⟩ = some (.int .i64 (sg (x0 + x2))) ∧ Wz.cell? ⟨W10.heap.size, 1, none⟩ = some (.slice Av10 nv10 cv10) ∧ Wz.cell? ⟨W11.heap.size, 0, none⟩ = some (.int .i64 (sg (x1 + x2))) ∧ Wz.cell? ⟨W11.heap.size, 1, none⟩ = some (.slice Av11 nv11 cv11) ∧ Wz.cell? ⟨W12.heap.size, 0, none⟩ = some (.int .i64 (sg (x0 * x2))) ∧ Wz.cell? ⟨W12.heap.size, 1, none⟩ = some (.slice Av12 nv12 cv12) ∧ Wz.cell? ⟨W13.heap.size, 0, none⟩ = some (.int .i64 (sg (x1 * x2))) ∧ Wz.cell? ⟨W13.heap.size, 1, none⟩ = some (.slice Av13 nv13 cv13) ∧ Wz.cell? ⟨w.heap.size + 1 + 1, 0, none⟩ = some (.int .i64 s2)) := Lib.hid ⟨Below.refl _ _, HV.out.c0 (.tail _ (.tail _ (.tail _ (.tail _ (.tail _ (.tail _ (.tail _ (.head _)))))))), HV.out.c1 (.tail _ (.tail _ (.tail _ (.tail _ (.tail _ (.tail _ (.tail _ (.head _)))))))), HV.out.c0 (.tail _ (.tail _ (.tail _ (.tail _ (.tail _ (.tail _ (.head _))))))), HV.out.c1 (.tail _ (.tail _ (.tail _ (.tail _ (.tail _ (.tail _ (.head _))))))), HV.out.c0 (.tail _ (.tail _ (.tail _ (.tail _ (.head _))))), HV.out.c0 (.tail _ (.tail _ (.tail _ (.head _)))), HV.out.c1 (.tail _ (.tail _ (.tail _ (.head _)))), HV.out.c0 (.tail _ (.tail _ (.head _))), HV.out.c1 (.tail _ (.tail _ (.head _))), HV.out.c0 (.tail _ (.head _)), HV.out.c1 (.tail _ (.head _)), HV.out.c0 (.head _), HV.out.c1 (.head _), HV.out.c0 (.tail _ (.tail _ (.tail _ (.tail _ (.tail _ (.head _))))))⟩
  go_region_held3 (fun W' : World => Below Wz.heap.size Wz W' ∧ W'.cell? ⟨w.heap.size, 0, none⟩ = some (.int .i64 s0) ∧ W'.cell? ⟨w.heap.size, 1, none⟩ = some (.slice A0 n0 c0) ∧ W'.cell? ⟨w.heap.size + 1, 0, none⟩ = some (.int .i64 s1) ∧ W'.cell? ⟨w.heap.size + 1, 1, none⟩ = some (.slice A1 n1 c1) ∧ W'.cell? ⟨W9.heap.size, 0, none⟩ = some (.int .i64 k) ∧ W'.cell? ⟨W10.heap.size, 0, none⟩ = some (.int .i64 (sg (x0 + x2))) ∧ W'.cell? ⟨W10.heap.size, 1, none⟩ = some (.slice Av10 nv10 cv10) ∧ W'.cell? ⟨W11.heap.size, 0, none⟩ = some (.int .i64 (sg (x1 + x2))) ∧ W'.cell? ⟨W11.heap.size, 1, none⟩ = some (.slice Av11 nv11 cv11) ∧ W'.cell? ⟨W12.heap.size, 0, none⟩ = some (.int .i64 (sg (x0 * x2))) ∧ W'.cell? ⟨W12.heap.size, 1, none⟩ = some (.slice Av12 nv12 cv12) ∧ W'.cell? ⟨W13.heap.size, 0, none⟩ = some (.int .i64 (sg (x1 * x2))) ∧ W'.cell? ⟨W13.heap.size, 1, none⟩ = some (.slice Av13 nv13 cv13) ∧ W'.cell? ⟨w.heap.size + 1 + 1, 0, none⟩ = some (.int .i64 s2))
    (first | exact hS5 | exact ⟨HS0.out.1.drew, HS0.out.2⟩ | fail "keep")
    (first
      | (go_at_call 18; (with_reducible refine (same_as _ (HXa.out.keep (And.left (by assumption))) (HXb.out.keep (And.left (by assumption))) HBB.out).mono ?_); rintro e' w' ⟨rfl, hb⟩; have hS5 := (show (Below Wz.heap.size Wz w' ∧ w'.cell? ⟨w.heap.size, 0, none⟩ = some (.int .i64 s0) ∧ w'.cell? ⟨w.heap.size, 1, none⟩ = some (.slice A0 n0 c0) ∧ w'.cell? ⟨w.heap.size + 1, 0, none⟩ = some (.int .i64 s1) ∧ w'.cell? ⟨w.heap.size + 1, 1, none⟩ = some (.slice A1 n1 c1) ∧ w'.cell? ⟨W9.heap.size, 0, none⟩ = some (.int .i64 k) ∧ w'.cell? ⟨W10.heap.size, 0, none⟩ = some (.int .i64 (sg (x0 + x2))) ∧ w'.cell? ⟨W10.heap.size, 1, none⟩ = some (.slice Av10 nv10 cv10) ∧ w'.cell? ⟨W11.heap.size, 0, none⟩ = some (.int .i64 (sg (x1 + x2))) ∧ w'.cell? ⟨W11.heap.size, 1, none⟩ = some (.slice Av11 nv11 cv11) ∧ w'.cell? ⟨W12.heap.size, 0, none⟩ = some (.int .i64 (sg (x0 * x2))) ∧ w'.cell? ⟨W12.heap.size, 1, none⟩ = some (.slice Av12 nv12 cv12) ∧ w'.cell? ⟨W13.heap.size, 0, none⟩ = some (.int .i64 (sg (x1 * x2))) ∧ w'.cell? ⟨W13.heap.size, 1, none⟩ = some (.slice Av13 nv13 cv13) ∧ w'.cell? ⟨w.heap.size + 1 + 1, 0, none⟩ = some (.int .i64 s2)) from ⟨Gen.over hb (And.left (by assumption)), Gen.keep hb (And.left (And.right (by assumption))), Gen.keep hb (And.left (And.right (And.right (by assumption)))), Gen.keep hb (And.left (And.right (And.right (And.right (by assumption))))), Gen.keep hb (And.left (And.right (And.right (And.right (And.right (by assumption)))))), Gen.keep hb (And.left (And.right (And.right (And.right (And.right (And.right (by assumption))))))), Gen.keep hb (And.left (And.right (And.right (And.right (And.right (And.right (And.right (by assumption)))))))), Gen.keep hb (And.left (And.right (And.right (And.right (And.right (And.right (And.right (And.right (by assumption))))))))), Gen.keep hb (And.left (And.right (And.right (And.right (And.right (And.right (And.right (And.right (And.right (by assumption)))))))))), Gen.keep hb (And.left (And.right (And.right (And.right (And.right (And.right (And.right (And.right (And.right (And.right (by assumption))))))))))), Gen.keep hb (And.left (And.right (And.right (And.right (And.right (And.right (And.right (And.right (And.right (And.right (And.right (by assumption)))))))))))), Gen.keep hb (And.left (And.right (And.right (And.right (And.right (And.right (And.right (And.right (And.right (And.right (And.right (And.right (by assumption))))))))))))), Gen.keep hb (And.left (And.right (And.right (And.right (And.right (And.right (And.right (And.right (And.right (And.right (And.right (And.right (And.right (by assumption)))))))))))))), Gen.keep hb (And.left (And.right (And.right (And.right (And.right (And.right (And.right (And.right (And.right (And.right (And.right (And.right (And.right (And.right (by assumption))))))))))))))), Gen.keep hb (And.right (And.right (And.right (And.right (And.right (And.right (And.right (And.right (And.right (And.right (And.right (And.right (And.right (And.right (by assumption)))))))))))))))⟩))
      | (go_at_call 17; (with_reducible refine (cmp_to _ (HXb.out.keep (And.left (by assumption))) (HXa.out.keep (And.left (by assumption))) HN.out).mono ?_); rintro e' w' ⟨rfl, hb⟩; have hS5 := (show (Below Wz.heap.size Wz w' ∧ w'.cell? ⟨w.heap.size, 0, none⟩ = some (.int .i64 s0) ∧ w'.cell? ⟨w.heap.size, 1, none⟩ = some (.slice A0 n0 c0) ∧ w'.cell? ⟨w.heap.size + 1, 0, none⟩ = some (.int .i64 s1) ∧ w'.cell? ⟨w.heap.size + 1, 1, none⟩ = some (.slice A1 n1 c1) ∧ w'.cell? ⟨W9.heap.size, 0, none⟩ = some (.int .i64 k) ∧ w'.cell? ⟨W10.heap.size, 0, none⟩ = some (.int .i64 (sg (x0 + x2))) ∧ w'.cell? ⟨W10.heap.size, 1, none⟩ = some (.slice Av10 nv10 cv10) ∧ w'.cell? ⟨W11.heap.size, 0, none⟩ = some (.int .i64 (sg (x1 + x2))) ∧ w'.cell? ⟨W11.heap.size, 1, none⟩ = some (.slice Av11 nv11 cv11) ∧ w'.cell? ⟨W12.heap.size, 0, none⟩ = some (.int .i64 (sg (x0 * x2))) ∧ w'.cell? ⟨W12.heap.size, 1, none⟩ = some (.slice Av12 nv12 cv12) ∧ w'.cell? ⟨W13.heap.size, 0, none⟩ = some (.int .i64 (sg (x1 * x2))) ∧ w'.cell? ⟨W13.heap.size, 1, none⟩ = some (.slice Av13 nv13 cv13) ∧ w'.cell? ⟨w.heap.size + 1 + 1, 0, none⟩ = some (.int .i64 s2)) from ⟨Gen.over hb (And.left (by assumption)), Gen.keep hb (And.left (And.right (by assumption))), Gen.keep hb (And.left (And.right (And.right (by assumption)))), Gen.keep hb (And.left (And.right (And.right (And.right (by assumption))))), Gen.keep hb (And.left (And.right (And.right (And.right (And.right (by assumption)))))), Gen.keep hb (And.left (And.right (And.right (And.right (And.right (And.right (by assumption))))))), Gen.keep hb (And.left (And.right (And.right (And.right (And.right (And.right (And.right (by assumption)))))))), Gen.keep hb (And.left (And.right (And.right (And.right (And.right (And.right (And.right (And.right (by assumption))))))))), Gen.keep hb (And.left (And.right (And.right (And.right (And.right (And.right (And.right (And.right (And.right (by assumption)))))))))), Gen.keep hb (And.left (And.right (And.right (And.right (And.right (And.right (And.right (And.right (And.right (And.right (by assumption))))))))))), Gen.keep hb (And.left (And.right (And.right (And.right (And.right (And.right (And.right (And.right (And.right (And.right (And.right (by assumption)))))))))))), Gen.keep hb (And.left (And.right (And.right (And.right (And.right (And.right (And.right (And.right (And.right (And.right (And.right (And.right (by assumption))))))))))))), Gen.keep hb (And.left (And.right (And.right (And.right (And.right (And.right (And.right (And.right (And.right (And.right (And.right (And.right (And.right (by assumption)))))))))))))), Gen.keep hb (And.left (And.right (And.right (And.right (And.right (And.right (And.right (And.right (And.right (And.right (And.right (And.right (And.right (And.right (by assumption))))))))))))))), Gen.keep hb (And.right (And.right (And.right (And.right (And.right (And.right (And.right (And.right (And.right (And.right (And.right (And.right (And.right (And.right (by assumption)))))))))))))))⟩))
      | (go_at_call 17; (with_reducible refine (cmp_to _ (HXx.out.keep (And.left (by assumption))) (HXy.out.keep (And.left (by assumption))) HA.out).mono ?_); rintro e' w' ⟨rfl, hb⟩; have hS5 := (show (Below Wz.heap.size Wz w' ∧ w'.cell? ⟨w.heap.size, 0, none⟩ = some (.int .i64 s0) ∧ w'.cell? ⟨w.heap.size, 1, none⟩ = some (.slice A0 n0 c0) ∧ w'.cell? ⟨w.heap.size + 1, 0, none⟩ = some (.int .i64 s1) ∧ w'.cell? ⟨w.heap.size + 1, 1, none⟩ = some (.slice A1 n1 c1) ∧ w'.cell? ⟨W9.heap.size, 0, none⟩ = some (.int .i64 k) ∧ w'.cell? ⟨W10.heap.size, 0, none⟩ = some (.int .i64 (sg (x0 + x2))) ∧ w'.cell? ⟨W10.heap.size, 1, none⟩ = some (.slice Av10 nv10 cv10) ∧ w'.cell? ⟨W11.heap.size, 0, none⟩ = some (.int .i64 (sg (x1 + x2))) ∧ w'.cell? ⟨W11.heap.size, 1, none⟩ = some (.slice Av11 nv11 cv11) ∧ w'.cell? ⟨W12.heap.size, 0, none⟩ = some (.int .i64 (sg (x0 * x2))) ∧ w'.cell? ⟨W12.heap.size, 1, none⟩ = some (.slice Av12 nv12 cv12) ∧ w'.cell? ⟨W13.heap.size, 0, none⟩ = some (.int .i64 (sg (x1 * x2))) ∧ w'.cell? ⟨W13.heap.size, 1, none⟩ = some (.slice Av13 nv13 cv13) ∧ w'.cell? ⟨w.heap.size + 1 + 1, 0, none⟩ = some (.int .i64 s2)) from ⟨Gen.over hb (And.left (by assumption)), Gen.keep hb (And.left (And.right (by assumption))), Gen.keep hb (And.left (And.right (And.right (by assumption)))), Gen.keep hb (And.left (And.right (And.right (And.right (by assumption))))), Gen.keep hb (And.left (And.right (And.right (And.right (And.right (by assumption)))))), Gen.keep hb (And.left (And.right (And.right (And.right (And.right (And.right (by assumption))))))), Gen.keep hb (And.left (And.right (And.right (And.right (And.right (And.right (And.right (by assumption)))))))), Gen.keep hb (And.left (And.right (And.right (And.right (And.right (And.right (And.right (And.right (by assumption))))))))), Gen.keep hb (And.left (And.right (And.right (And.right (And.right (And.right (And.right (And.right (And.right (by assumption)))))))))), Gen.keep hb (And.left (And.right (And.right (And.right (And.right (And.right (And.right (And.right (And.right (And.right (by assumption))))))))))), Gen.keep hb (And.left (And.right (And.right (And.right (And.right (And.right (And.right (And.right (And.right (And.right (And.right (by assumption)))))))))))), Gen.keep hb (And.left (And.right (And.right (And.right (And.right (And.right (And.right (And.right (And.right (And.right (And.right (And.right (by assumption))))))))))))), Gen.keep hb (And.left (And.right (And.right (And.right (And.right (And.right (And.right (And.right (And.right (And.right (And.right (And.right (And.right (by assumption)))))))))))))), Gen.keep hb (And.left (And.right (And.right (And.right (And.right (And.right (And.right (And.right (And.right (And.right (And.right (And.right (And.right (And.right (by assumption))))))))))))))), Gen.keep hb (And.right (And.right (And.right (And.right (And.right (And.right (And.right (And.right (And.right (And.right (And.right (And.right (And.right (And.right (by assumption)))))))))))))))⟩))
      | (go_at_call 17; (with_reducible refine (cmp_to _ (HXp.out.keep (And.left (by assumption))) (HXq.out.keep (And.left (by assumption))) HM.out).mono ?_); rintro e' w' ⟨rfl, hb⟩; have hS5 := (show (Below Wz.heap.size Wz w' ∧ w'.cell? ⟨w.heap.size, 0, none⟩ = some (.int .i64 s0) ∧ w'.cell? ⟨w.heap.size, 1, none⟩ = some (.slice A0 n0 c0) ∧ w'.cell? ⟨w.heap.size + 1, 0, none⟩ = some (.int .i64 s1) ∧ w'.cell? ⟨w.heap.size + 1, 1, none⟩ = some (.slice A1 n1 c1) ∧ w'.cell? ⟨W9.heap.size, 0, none⟩ = some (.int .i64 k) ∧ w'.cell? ⟨W10.heap.size, 0, none⟩ = some (.int .i64 (sg (x0 + x2))) ∧ w'.cell? ⟨W10.heap.size, 1, none⟩ = some (.slice Av10 nv10 cv10) ∧ w'.cell? ⟨W11.heap.size, 0, none⟩ = some (.int .i64 (sg (x1 + x2))) ∧ w'.cell? ⟨W11.heap.size, 1, none⟩ = some (.slice Av11 nv11 cv11) ∧ w'.cell? ⟨W12.heap.size, 0, none⟩ = some (.int .i64 (sg (x0 * x2))) ∧ w'.cell? ⟨W12.heap.size, 1, none⟩ = some (.slice Av12 nv12 cv12) ∧ w'.cell? ⟨W13.heap.size, 0, none⟩ = some (.int .i64 (sg (x1 * x2))) ∧ w'.cell? ⟨W13.heap.size, 1, none⟩ = some (.slice Av13 nv13 cv13) ∧ w'.cell? ⟨w.heap.size + 1 + 1, 0, none⟩ = some (.int .i64 s2)) from ⟨Gen.over hb (And.left (by assumption)), Gen.keep hb (And.left (And.right (by assumption))), Gen.keep hb (And.left (And.right (And.right (by assumption)))), Gen.keep hb (And.left (And.right (And.right (And.right (by assumption))))), Gen.keep hb (And.left (And.right (And.right (And.right (And.right (by assumption)))))), Gen.keep hb (And.left (And.right (And.right (And.right (And.right (And.right (by assumption))))))), Gen.keep hb (And.left (And.right (And.right (And.right (And.right (And.right (And.right (by assumption)))))))), Gen.keep hb (And.left (And.right (And.right (And.right (And.right (And.right (And.right (And.right (by assumption))))))))), Gen.keep hb (And.left (And.right (And.right (And.right (And.right (And.right (And.right (And.right (And.right (by assumption)))))))))), Gen.keep hb (And.left (And.right (And.right (And.right (And.right (And.right (And.right (And.right (And.right (And.right (by assumption))))))))))), Gen.keep hb (And.left (And.right (And.right (And.right (And.right (And.right (And.right (And.right (And.right (And.right (And.right (by assumption)))))))))))), Gen.keep hb (And.left (And.right (And.right (And.right (And.right (And.right (And.right (And.right (And.right (And.right (And.right (And.right (by assumption))))))))))))), Gen.keep hb (And.left (And.right (And.right (And.right (And.right (And.right (And.right (And.right (And.right (And.right (And.right (And.right (And.right (by assumption)))))))))))))), Gen.keep hb (And.left (And.right (And.right (And.right (And.right (And.right (And.right (And.right (And.right (And.right (And.right (And.right (And.right (And.right (by assumption))))))))))))))), Gen.keep hb (And.right (And.right (And.right (And.right (And.right (And.right (And.right (And.right (And.right (And.right (And.right (And.right (And.right (And.right (by assumption)))))))))))))))⟩))
      | fail "arm")
  all_goals
    replace HB := Lib.hid (Gen.over hS5.1 HB.out)
    replace HV := Lib.hid (HV.out.keep hS5.1)
    clear hb0 hw1 hw2
    obtain ⟨Wy, hWy⟩ : ∃ W, W = w' := ⟨_, rfl⟩
    rw [← hWy] at HV HB ⊢
    clear hWy hS5
    by_cases hk0 : 0 < k
    · go_wp2
      go_ret
      exact ⟨rfl, HB.out⟩
    · have HKL : Hid (x0 ≤ x1) := Lib.hid (by
        rcases Int.lt_or_le x1 x0 with h | h
        · exact absurd (by rw [← HK.out, cmpI_gt h]; omega) hk0
        · exact h)
      obtain ⟨m, hm⟩ : ∃ m, cmpI x1 x2 = m := ⟨_, rfl⟩
      have HMM := Lib.hid hm
      have HLE : Hid (¬ 0 < m → x1 ≤ x2) := Lib.hid fun h0 => by
        rcases Int.lt_or_le x2 x1 with h | h
        · exact absurd (by rw [← hm, cmpI_gt h]; omega) h0
        · exact h
      clear hm

      have gu0 := HV.out.c0 (.tail _ (.tail _ (.tail _ (.tail _ (.tail _ (.tail _ (.head _)))))))
      have hu0 := HV.out.c1 (.tail _ (.tail _ (.tail _ (.tail _ (.tail _ (.tail _ (.head _)))))))
      have gu1 := HV.out.c0 (.tail _ (.tail _ (.tail _ (.tail _ (.tail _ (.head _))))))
      have hu1 := HV.out.c1 (.tail _ (.tail _ (.tail _ (.tail _ (.tail _ (.head _))))))
      go_wp2_with (fail)
      go_must (refine (cmp_to _ (HV.out.big (.tail _ (.tail _ (.tail _ (.tail _ (.tail _ (.tail _ (.head _)))))))) (HV.out.big (.tail _ (.tail _ (.tail _ (.tail _ (.tail _ (.head _))))))) HMM.out).mono ?_)
      rintro e Wx ⟨rfl, hb⟩
      replace HV := Lib.hid (HV.out.keep hb)
      replace HB := Lib.hid (Gen.over hb HB.out)
      clear hb gu0 hu0 gu1 hu1
      by_cases hm0 : 0 < m
      · go_wp2
        go_ret
        exact ⟨rfl, HB.out⟩
      have HR : Hid (cmpI x0 x2 ≤ 0) := Lib.hid (by
        have h1 := HLE.out (by omega)
        have h2 := HKL.out
        rcases Int.lt_or_eq_of_le (Int.le_trans h2 h1) with h | h
        · rw [cmpI_lt h]; omega
        · rw [cmpI_eq h]; omega)
      obtain ⟨r, hr⟩ : ∃ r, cmpI x0 x2 = r := ⟨_, rfl⟩
      rw [hr] at HR
      have hr0 := HR.out
      have HRR := Lib.hid hr
      clear hr HR
      have gv0 := HV.out.c0 (.tail _ (.tail _ (.tail _ (.tail _ (.tail _ (.tail _ (.tail _ (.head _))))))))
      have hv0 := HV.out.c1 (.tail _ (.tail _ (.tail _ (.tail _ (.tail _ (.tail _ (.tail _ (.head _))))))))
      have gv1 := HV.out.c0 (.tail _ (.tail _ (.tail _ (.tail _ (.tail _ (.head _))))))
      have hv1 := HV.out.c1 (.tail _ (.tail _ (.tail _ (.tail _ (.tail _ (.head _))))))
      go_wp2_with (fail)
      go_must (refine (cmp_to _ (HV.out.big (.tail _ (.tail _ (.tail _ (.tail _ (.tail _ (.tail _ (.tail _ (.head _))))))))) (HV.out.big (.tail _ (.tail _ (.tail _ (.tail _ (.tail _ (.head _))))))) HRR.out).mono ?_)
      rintro e Wv ⟨rfl, hb⟩
      replace HB := Lib.hid (Gen.over hb HB.out)
      clear hb gv0 hv0 gv1 hv1
      go_wp2
      go_ret
      exact ⟨rfl, HB.out⟩
end
end Go.Proofs.YtnifkianjpjahaaDoor.Bg
