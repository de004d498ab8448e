/- BigRing returns true: all three big integers, right or not; the table of powers of ten as the text lays it. -/
import Derived.Test.YtnifkianjpjahaaDoorBhP
namespace Go.Proofs.YtnifkianjpjahaaDoor.Bg
open Go.ChangeShapes Go.WideShapes Go.ChangeAt Go.RowKit Go.Proofs.YtnifkianjpjahaaDoor.Cell
set_option linter.unusedVariables false
set_option linter.unusedSimpArgs false

section
variable {s0 s1 s2 : Int} {A0 A1 A2 : Option Addr} {n0 c0 n1 c1 n2 c2 : Nat} {l0 l1 l2 : List Int}
set_option maxRecDepth 100000 in
set_option maxHeartbeats 16000000 in
theorem ring_any (w : World) (hT : PowTab w) (b0 : Arg w (bigV s0 A0 n0 c0) n0 s0 l0) (b1 : Arg w (bigV s1 A1 n1 c1) n1 s1 l1) (b2 : Arg w (bigV s2 A2 n2 c2) n2 s2 l2) :
    Calls Tryd.prog 3 #[bigV s0 A0 n0 c0, bigV s1 A1 n1 c1, bigV s2 A2 n2 c2] w fun e w' => e = .returned (.bool true) ∧ Below w.heap.size w w' := by
  have HB := Lib.hid (bx3_b w #[.int .i64 s0, .slice A0 n0 c0] #[.int .i64 s1, .slice A1 n1 c1] #[.int .i64 s2, .slice A2 n2 c2])
  have R0 := Lib.hid (bx3_0 w #[.int .i64 s0, .slice A0 n0 c0] #[.int .i64 s1, .slice A1 n1 c1] #[.int .i64 s2, .slice A2 n2 c2])
  have R1 := Lib.hid (bx3_1 w #[.int .i64 s0, .slice A0 n0 c0] #[.int .i64 s1, .slice A1 n1 c1] #[.int .i64 s2, .slice A2 n2 c2])
  have R2 := Lib.hid (bx3_2 w #[.int .i64 s0, .slice A0 n0 c0] #[.int .i64 s1, .slice A1 n1 c1] #[.int .i64 s2, .slice A2 n2 c2])
  have HA0 := Lib.hid (b0.keep HB.out)
  have HA1 := Lib.hid (b1.keep HB.out)
  have HA2 := Lib.hid (b2.keep HB.out)
  have HT := Lib.hid (hT.keep HB.out)
  unfold bx3 at HB HT R0 HA0 R1 HA1 R2 HA2
  clear hT b0 b1 b2
  go_enter Tryd.func3, Tryd.ntmps3
  go_wp2_with (fail)
  go_must (refine (small_yes _ HT.out).mono ?_)
  rintro e W1 ⟨rfl, hb1⟩
  replace HB := Lib.hid (Gen.over hb1 HB.out)
  replace HA0 := Lib.hid (HA0.out.keep hb1)
  replace R0 := Lib.hid (R0.out.keep hb1)
  replace HA1 := Lib.hid (HA1.out.keep hb1)
  replace R1 := Lib.hid (R1.out.keep hb1)
  replace HA2 := Lib.hid (HA2.out.keep hb1)
  replace R2 := Lib.hid (R2.out.keep hb1)
  clear hb1
  clear HT
  by_cases hq0 : (n0 : Int) ≤ 19
  rotate_left
  · have HQ := Lib.hid hq0
    clear hq0
    have p0 := R0.out.cell 0
    have p1 := R0.out.cell 1
    go_wp2_with (fail)
    go_must (refine (HA0.out.few _ false (decide_eq_false (by have := HQ.out; omega))).mono ?_)
    rintro e W2 ⟨rfl, hb2⟩
    replace HB := Lib.hid (Gen.over hb2 HB.out)
    clear hb2
    clear p0 p1
    go_wp2
    go_ret
    exact ⟨rfl, HB.out⟩
  have HQ0 := Lib.hid hq0
  clear hq0
  have p0 := R0.out.cell 0
  have p1 := R0.out.cell 1
  go_wp2_with (fail)
  go_must (refine (HA0.out.few _ true (decide_eq_true HQ0.out)).mono ?_)
  rintro e W2 ⟨rfl, hb2⟩
  replace HB := Lib.hid (Gen.over hb2 HB.out)
  replace HA0 := Lib.hid (HA0.out.keep hb2)
  replace R0 := Lib.hid (R0.out.keep hb2)
  replace HA1 := Lib.hid (HA1.out.keep hb2)
  replace R1 := Lib.hid (R1.out.keep hb2)
  replace HA2 := Lib.hid (HA2.out.keep hb2)
  replace R2 := Lib.hid (R2.out.keep hb2)
  clear hb2
  clear p0 p1
  by_cases hq1 : (n1 : Int) ≤ 19
  rotate_left
  · have HQ := Lib.hid hq1
    clear hq1
    have p0 := R1.out.cell 0
    have p1 := R1.out.cell 1
    go_wp2_with (fail)
    go_must (refine (HA1.out.few _ false (decide_eq_false (by have := HQ.out; omega))).mono ?_)
    rintro e W3 ⟨rfl, hb3⟩
    replace HB := Lib.hid (Gen.over hb3 HB.out)
    clear hb3
    clear p0 p1
    go_wp2
    go_ret
    exact ⟨rfl, HB.out⟩
  have HQ1 := Lib.hid hq1
  clear hq1
  have p0 := R1.out.cell 0
  have p1 := R1.out.cell 1
  go_wp2_with (fail)
  go_must (refine (HA1.out.few _ true (decide_eq_true HQ1.out)).mono ?_)
  rintro e W3 ⟨rfl, hb3⟩
  replace HB := Lib.hid (Gen.over hb3 HB.out)
  replace HA0 := Lib.hid (HA0.out.keep hb3)
  replace R0 := Lib.hid (R0.out.keep hb3)
  replace HA1 := Lib.hid (HA1.out.keep hb3)
  replace R1 := Lib.hid (R1.out.keep hb3)
  replace HA2 := Lib.hid (HA2.out.keep hb3)
  replace R2 := Lib.hid (R2.out.keep hb3)
  clear hb3
  clear p0 p1
  by_cases hq2 : (n2 : Int) ≤ 19
  rotate_left
  · have HQ := Lib.hid hq2
    clear hq2
    have p0 := R2.out.cell 0
    have p1 := R2.out.cell 1
    go_wp2_with (fail)
    go_must (refine (HA2.out.few _ false (decide_eq_false (by have := HQ.out; omega))).mono ?_)
    rintro e W4 ⟨rfl, hb4⟩
    replace HB := Lib.hid (Gen.over hb4 HB.out)
    clear hb4
    clear p0 p1
    go_wp2
    go_ret
    exact ⟨rfl, HB.out⟩
  have HQ2 := Lib.hid hq2
  clear hq2
  have p0 := R2.out.cell 0
  have p1 := R2.out.cell 1
  go_wp2_with (fail)
  go_must (refine (HA2.out.few _ true (decide_eq_true HQ2.out)).mono ?_)
  rintro e W4 ⟨rfl, hb4⟩
  replace HB := Lib.hid (Gen.over hb4 HB.out)
  replace HA0 := Lib.hid (HA0.out.keep hb4)
  replace R0 := Lib.hid (R0.out.keep hb4)
  replace HA1 := Lib.hid (HA1.out.keep hb4)
  replace R1 := Lib.hid (R1.out.keep hb4)
  replace HA2 := Lib.hid (HA2.out.keep hb4)
  replace R2 := Lib.hid (R2.out.keep hb4)
  clear hb4
  clear p0 p1
  cases hr0 : rgtB s0 l0
  · have HQ := Lib.hid hr0
    clear hr0
    have p0 := R0.out.cell 0
    have p1 := R0.out.cell 1
    go_wp2_with (fail)
    go_must (refine (HA0.out.right false HQ.out).mono ?_)
    rintro e W5 ⟨rfl, hb5⟩
    replace HB := Lib.hid (Gen.over hb5 HB.out)
    clear hb5
    clear p0 p1
    go_wp2
    go_ret
    exact ⟨rfl, HB.out⟩
  have HG0 := Lib.hid hr0
  clear hr0
  have p0 := R0.out.cell 0
  have p1 := R0.out.cell 1
  go_wp2_with (fail)
  go_must (refine (HA0.out.right true HG0.out).mono ?_)
  rintro e W5 ⟨rfl, hb5⟩
  replace HB := Lib.hid (Gen.over hb5 HB.out)
  replace HA0 := Lib.hid (HA0.out.keep hb5)
  replace R0 := Lib.hid (R0.out.keep hb5)
  replace HA1 := Lib.hid (HA1.out.keep hb5)
  replace R1 := Lib.hid (R1.out.keep hb5)
  replace HA2 := Lib.hid (HA2.out.keep hb5)
  replace R2 := Lib.hid (R2.out.keep hb5)
  clear hb5
  clear p0 p1
  cases hr1 : rgtB s1 l1
  · have HQ := Lib.hid hr1
    clear hr1
    have p0 := R1.out.cell 0
    have p1 := R1.out.cell 1
    go_wp2_with (fail)
    go_must (refine (HA1.out.right false HQ.out).mono ?_)
    rintro e W6 ⟨rfl, hb6⟩
    replace HB := Lib.hid (Gen.over hb6 HB.out)
    clear hb6
    clear p0 p1
    go_wp2
    go_ret
    exact ⟨rfl, HB.out⟩
  have HG1 := Lib.hid hr1
  clear hr1
  have p0 := R1.out.cell 0
  have p1 := R1.out.cell 1
  go_wp2_with (fail)
  go_must (refine (HA1.out.right true HG1.out).mono ?_)
  rintro e W6 ⟨rfl, hb6⟩
  replace HB := Lib.hid (Gen.over hb6 HB.out)
  replace HA0 := Lib.hid (HA0.out.keep hb6)
  replace R0 := Lib.hid (R0.out.keep hb6)
  replace HA1 := Lib.hid (HA1.out.keep hb6)
  replace R1 := Lib.hid (R1.out.keep hb6)
  replace HA2 := Lib.hid (HA2.out.keep hb6)
  replace R2 := Lib.hid (R2.out.keep hb6)
  clear hb6
  clear p0 p1
  cases hr2 : rgtB s2 l2
  · have HQ := Lib.hid hr2
    clear hr2
    have p0 := R2.out.cell 0
    have p1 := R2.out.cell 1
    go_wp2_with (fail)
    go_must (refine (HA2.out.right false HQ.out).mono ?_)
    rintro e W7 ⟨rfl, hb7⟩
    replace HB := Lib.hid (Gen.over hb7 HB.out)
    clear hb7
    clear p0 p1
    go_wp2
    go_ret
    exact ⟨rfl, HB.out⟩
  have HG2 := Lib.hid hr2
  clear hr2
  have p0 := R2.out.cell 0
  have p1 := R2.out.cell 1
  go_wp2_with (fail)
  go_must (refine (HA2.out.right true HG2.out).mono ?_)
  rintro e W7 ⟨rfl, hb7⟩
  replace HB := Lib.hid (Gen.over hb7 HB.out)
  replace HA0 := Lib.hid (HA0.out.keep hb7)
  replace R0 := Lib.hid (R0.out.keep hb7)
  replace HA1 := Lib.hid (HA1.out.keep hb7)
  replace R1 := Lib.hid (R1.out.keep hb7)
  replace HA2 := Lib.hid (HA2.out.keep hb7)
  replace R2 := Lib.hid (R2.out.keep hb7)
  clear hb7
  clear p0 p1
  obtain ⟨x0, hx0, hs0, hz0⟩ := HA0.out.big HG0.out
  have HX0 := Lib.hid hx0
  have HSG0 := Lib.hid hs0
  have HZ0 := Lib.hid (hz0 19 (by have := HQ0.out; omega))
  clear hx0 hs0 hz0
  obtain ⟨x1, hx1, hs1, hz1⟩ := HA1.out.big HG1.out
  have HX1 := Lib.hid hx1
  have HSG1 := Lib.hid hs1
  have HZ1 := Lib.hid (hz1 19 (by have := HQ1.out; omega))
  clear hx1 hs1 hz1
  obtain ⟨x2, hx2, hs2, hz2⟩ := HA2.out.big HG2.out
  have HX2 := Lib.hid hx2
  have HSG2 := Lib.hid hs2
  have HZ2 := Lib.hid (hz2 19 (by have := HQ2.out; omega))
  clear hx2 hs2 hz2
  have HV := Lib.hid (Vs.cons (Vs.cons (Vs.cons (Vs.nil W7) R0.out HX0.out) R1.out HX1.out) R2.out HX2.out)
  clear HA0 R0 HX0 HG0 HQ0 HA1 R1 HX1 HG1 HQ1 HA2 R2 HX2 HG2 HQ2
  have Z0 := HZ0.out
  have Z1 := HZ1.out
  have Z2 := HZ2.out
  have Pab := Lib.hid (Z0.mul Z1)
  have Pbc := Lib.hid (Z1.mul Z2)
  have Pac := Lib.hid (Z0.mul Z2)
  have Sab := Lib.hid (Z0.add Z1 (n := 20) (by omega))
  have Sbc := Lib.hid (Z1.add Z2 (n := 20) (by omega))
  have Dab := Lib.hid (Z0.sub Z1 (n := 20) (by omega))
  clear Z0 Z1 Z2
  have d1 := HV.out.c0 (.tail _ (.tail _ (.head _)))
  have f1 := HV.out.c1 (.tail _ (.tail _ (.head _)))
  have d2 := HV.out.c0 (.tail _ (.head _))
  have f2 := HV.out.c1 (.tail _ (.head _))
  go_wp2_with (fail)
  go_must (refine (add_fit _ (HV.out.big (.tail _ (.tail _ (.head _)))) (HV.out.big (.tail _ (.head _))) (Sab.out.fit)).mono ?_)
  rintro e W8 ⟨v8, rfl, hv8, hb8⟩
  replace HV := Lib.hid (HV.out.keep hb8)
  replace HB := Lib.hid (Gen.over hb8 HB.out)
  obtain ⟨Av8, cv8, lv8, rfl, _⟩ := hv8.ex
  obtain ⟨nv8, hnv8⟩ : ∃ n, lv8.length = n := ⟨_, rfl⟩
  rw [hnv8] at hv8 ⊢
  have Hv8 := Lib.hid hv8
  clear hnv8 hv8
  clear hb8
  clear d1 f1 d2 f2
  replace HV := Lib.hid (HV.out.ad Hv8.out)
  replace HB := Lib.hid (below_ad HB.out Hv8.out)
  have d3 := HV.out.c0 (.tail _ (.tail _ (.head _)))
  have f3 := HV.out.c1 (.tail _ (.tail _ (.head _)))
  have d4 := HV.out.c0 (.tail _ (.tail _ (.tail _ (.head _))))
  have f4 := HV.out.c1 (.tail _ (.tail _ (.tail _ (.head _))))
  go_wp2_with (fail)
  go_must (refine (add_fit _ (HV.out.big (.tail _ (.tail _ (.head _)))) (HV.out.big (.tail _ (.tail _ (.tail _ (.head _))))) (by rw [Int.add_comm]; exact Sab.out.fit)).mono ?_)
  rintro e W9 ⟨v9, rfl, hv9, hb9⟩
  replace HV := Lib.hid (HV.out.keep hb9)
  replace HB := Lib.hid (Gen.over hb9 HB.out)
  obtain ⟨Av9, cv9, lv9, rfl, _⟩ := hv9.ex
  obtain ⟨nv9, hnv9⟩ : ∃ n, lv9.length = n := ⟨_, rfl⟩
  rw [hnv9] at hv9 ⊢
  have Hv9 := Lib.hid hv9
  clear hnv9 hv9
  clear hb9
  clear d3 f3 d4 f4
  replace HV := Lib.hid (HV.out.ad Hv9.out)
  replace HB := Lib.hid (below_ad HB.out Hv9.out)
  have d5 := HV.out.c0 (.tail _ (.tail _ (.tail _ (.head _))))
  have f5 := HV.out.c1 (.tail _ (.tail _ (.tail _ (.head _))))
  have d6 := HV.out.c0 (.tail _ (.tail _ (.head _)))
  have f6 := HV.out.c1 (.tail _ (.tail _ (.head _)))
  go_wp2_with (fail)
  go_must (refine (add_fit _ (HV.out.big (.tail _ (.tail _ (.tail _ (.head _))))) (HV.out.big (.tail _ (.tail _ (.head _)))) (Sbc.out.fit)).mono ?_)
  rintro e W10 ⟨v10, rfl, hv10, hb10⟩
  replace HV := Lib.hid (HV.out.keep hb10)
  replace HB := Lib.hid (Gen.over hb10 HB.out)
  obtain ⟨Av10, cv10, lv10, rfl, _⟩ := hv10.ex
  obtain ⟨nv10, hnv10⟩ : ∃ n, lv10.length = n := ⟨_, rfl⟩
  rw [hnv10] at hv10 ⊢
  have Hv10 := Lib.hid hv10
  clear hnv10 hv10
  clear hb10
  clear d5 f5 d6 f6
  replace HV := Lib.hid (HV.out.ad Hv10.out)
  replace HB := Lib.hid (below_ad HB.out Hv10.out)
  have d7 := HV.out.c0 (.tail _ (.tail _ (.head _)))
  have f7 := HV.out.c1 (.tail _ (.tail _ (.head _)))
  have d8 := HV.out.c0 (.tail _ (.tail _ (.tail _ (.head _))))
  have f8 := HV.out.c1 (.tail _ (.tail _ (.tail _ (.head _))))
  go_wp2_with (fail)
  go_must (refine (add_fit _ (HV.out.big (.tail _ (.tail _ (.head _)))) (HV.out.big (.tail _ (.tail _ (.tail _ (.head _))))) ((Sab.out.add (HZ2.out.mono (by omega)) (n := 21) (by omega)).fit)).mono ?_)
  rintro e W11 ⟨v11, rfl, hv11, hb11⟩
  replace HV := Lib.hid (HV.out.keep hb11)
  replace HB := Lib.hid (Gen.over hb11 HB.out)
  obtain ⟨Av11, cv11, lv11, rfl, _⟩ := hv11.ex
  obtain ⟨nv11, hnv11⟩ : ∃ n, lv11.length = n := ⟨_, rfl⟩
  rw [hnv11] at hv11 ⊢
  have Hv11 := Lib.hid hv11
  clear hnv11 hv11
  clear hb11
  clear d7 f7 d8 f8
  have HS14 := Lib.hid (Sp.of HV.out (.cells #[.int .i64 (sg ((x0 + x1) + x2)), .slice Av11 nv11 cv11] 24))
  have HL14 := Lib.hid HB.out.size
  replace HV := Lib.hid (HV.out.ad Hv11.out)
  replace HB := Lib.hid (below_ad HB.out Hv11.out)
  have d9 := HV.out.c0 (.tail _ (.tail _ (.tail _ (.tail _ (.tail _ (.tail _ (.head _)))))))
  have f9 := HV.out.c1 (.tail _ (.tail _ (.tail _ (.tail _ (.tail _ (.tail _ (.head _)))))))
  have d10 := HV.out.c0 (.tail _ (.head _))
  have f10 := HV.out.c1 (.tail _ (.head _))
  go_wp2_with (fail)
  go_must (refine (add_fit _ (HV.out.big (.tail _ (.tail _ (.tail _ (.tail _ (.tail _ (.tail _ (.head _)))))))) (HV.out.big (.tail _ (.head _))) (((HZ0.out.mono (k := 20) (by omega)).add Sbc.out (n := 21) (by omega)).fit)).mono ?_)
  rintro e W12 ⟨v12, rfl, hv12, hb12⟩
  replace HV := Lib.hid (HV.out.keep hb12)
  replace HS14 := Lib.hid (HS14.out.keep hb12)
  replace HB := Lib.hid (Gen.over hb12 HB.out)
  obtain ⟨Av12, cv12, lv12, rfl, _⟩ := hv12.ex
  obtain ⟨nv12, hnv12⟩ : ∃ n, lv12.length = n := ⟨_, rfl⟩
  rw [hnv12] at hv12 ⊢
  have Hv12 := Lib.hid hv12
  clear hnv12 hv12
  clear hb12
  clear d9 f9 d10 f10
  have HS16 := Lib.hid (Sp.of HV.out (.cells #[.int .i64 (sg (x0 + (x1 + x2))), .slice Av12 nv12 cv12] 24))
  have HL16 := Lib.hid HB.out.size
  replace HS14 := Lib.hid (HS14.out.alloc (.cells #[.int .i64 (sg (x0 + (x1 + x2))), .slice Av12 nv12 cv12] 24))
  replace HV := Lib.hid (HV.out.ad Hv12.out)
  replace HB := Lib.hid (below_ad HB.out Hv12.out)
  have d11 := HV.out.c0 (.tail _ (.tail _ (.tail _ (.tail _ (.head _)))))
  have f11 := HV.out.c1 (.tail _ (.tail _ (.tail _ (.tail _ (.head _)))))
  have d12 := HV.out.c0 (.tail _ (.tail _ (.tail _ (.head _))))
  have f12 := HV.out.c1 (.tail _ (.tail _ (.tail _ (.head _))))
  go_wp2_with (fail)
  go_must (refine (rsame_to _ (HV.out.big (.tail _ (.tail _ (.tail _ (.tail _ (.head _)))))) (HV.out.big (.tail _ (.tail _ (.tail _ (.head _))))) (Int.add_comm _ _)).mono ?_)
  rintro e W13 ⟨rfl, hb13⟩
  replace HV := Lib.hid (HV.out.keep hb13)
  replace HS14 := Lib.hid (HS14.out.keep hb13)
  replace HS16 := Lib.hid (HS16.out.keep hb13)
  replace HB := Lib.hid (Gen.over hb13 HB.out)
  clear hb13
  clear d11 f11 d12 f12
  have d13 := HV.out.c0 (.tail _ (.head _))
  have f13 := HV.out.c1 (.tail _ (.head _))
  have d14 := HV.out.c0 (.head _)
  have f14 := HV.out.c1 (.head _)
  go_wp2_with (fail)
  go_must (refine (rsame_to _ (HV.out.big (.tail _ (.head _))) (HV.out.big (.head _)) (Int.add_assoc _ _ _)).mono ?_)
  rintro e W14 ⟨rfl, hb14⟩
  replace HV := Lib.hid (HV.out.keep hb14)
  replace HS14 := Lib.hid (HS14.out.keep hb14)
  replace HS16 := Lib.hid (HS16.out.keep hb14)
  replace HB := Lib.hid (Gen.over hb14 HB.out)
  clear hb14
  clear d13 f13 d14 f14
  have d15 := HV.out.c0 (.tail _ (.tail _ (.tail _ (.tail _ (.tail _ (.tail _ (.tail _ (.head _))))))))
  have f15 := HV.out.c1 (.tail _ (.tail _ (.tail _ (.tail _ (.tail _ (.tail _ (.tail _ (.head _))))))))
  have d16 := HV.out.c0 (.tail _ (.tail _ (.tail _ (.tail _ (.tail _ (.tail _ (.head _)))))))
  have f16 := HV.out.c1 (.tail _ (.tail _ (.tail _ (.tail _ (.tail _ (.tail _ (.head _)))))))
  go_wp2_with (fail)
  go_must (refine (mul_fitU _ (HV.out.big (.tail _ (.tail _ (.tail _ (.tail _ (.tail _ (.tail _ (.tail _ (.head _))))))))) (HV.out.big (.tail _ (.tail _ (.tail _ (.tail _ (.tail _ (.tail _ (.head _)))))))) HZ0.out HZ1.out (by omega)).mono ?_)
  rintro e W15 ⟨v15, rfl, hv15, hb15, ha15⟩
  have HO14_15 := Lib.hid (ha15.off HS14.out.lt)
  have HO16_15 := Lib.hid (ha15.off HS16.out.lt)
  clear ha15
  replace HV := Lib.hid (HV.out.keep hb15)
  replace HS14 := Lib.hid (HS14.out.keep hb15)
  replace HS16 := Lib.hid (HS16.out.keep hb15)
  replace HB := Lib.hid (Gen.over hb15 HB.out)
  obtain ⟨Av15, cv15, lv15, rfl, _⟩ := hv15.ex
  obtain ⟨nv15, hnv15⟩ : ∃ n, lv15.length = n := ⟨_, rfl⟩
  rw [hnv15] at hv15 ⊢
  rw [hnv15] at HO14_15
  rw [hnv15] at HO16_15
  have Hv15 := Lib.hid hv15
  clear hnv15 hv15
  clear hb15
  clear d15 f15 d16 f16
  replace HS14 := Lib.hid (HS14.out.add (z := (x0 * x1)) HO14_15.out (.cells #[.int .i64 (sg (x0 * x1)), .slice Av15 nv15 cv15] 24))
  replace HS16 := Lib.hid (HS16.out.add (z := (x0 * x1)) HO16_15.out (.cells #[.int .i64 (sg (x0 * x1)), .slice Av15 nv15 cv15] 24))
  replace HV := Lib.hid (HV.out.ad Hv15.out)
  replace HB := Lib.hid (below_ad HB.out Hv15.out)
  have d17 := HV.out.c0 (.tail _ (.tail _ (.tail _ (.tail _ (.tail _ (.tail _ (.tail _ (.head _))))))))
  have f17 := HV.out.c1 (.tail _ (.tail _ (.tail _ (.tail _ (.tail _ (.tail _ (.tail _ (.head _))))))))
  have d18 := HV.out.c0 (.tail _ (.tail _ (.tail _ (.tail _ (.tail _ (.tail _ (.tail _ (.tail _ (.head _)))))))))
  have f18 := HV.out.c1 (.tail _ (.tail _ (.tail _ (.tail _ (.tail _ (.tail _ (.tail _ (.tail _ (.head _)))))))))
  go_wp2_with (fail)
  go_must (refine (mul_fitU _ (HV.out.big (.tail _ (.tail _ (.tail _ (.tail _ (.tail _ (.tail _ (.tail _ (.head _))))))))) (HV.out.big (.tail _ (.tail _ (.tail _ (.tail _ (.tail _ (.tail _ (.tail _ (.tail _ (.head _)))))))))) HZ1.out HZ0.out (by omega)).mono ?_)
  rintro e W16 ⟨v16, rfl, hv16, hb16, ha16⟩
  have HO14_16 := Lib.hid (ha16.off HS14.out.lt)
  have HO16_16 := Lib.hid (ha16.off HS16.out.lt)
  clear ha16
  replace HV := Lib.hid (HV.out.keep hb16)
  replace HS14 := Lib.hid (HS14.out.keep hb16)
  replace HS16 := Lib.hid (HS16.out.keep hb16)
  replace HB := Lib.hid (Gen.over hb16 HB.out)
  obtain ⟨Av16, cv16, lv16, rfl, _⟩ := hv16.ex
  obtain ⟨nv16, hnv16⟩ : ∃ n, lv16.length = n := ⟨_, rfl⟩
  rw [hnv16] at hv16 ⊢
  rw [hnv16] at HO14_16
  rw [hnv16] at HO16_16
  have Hv16 := Lib.hid hv16
  clear hnv16 hv16
  clear hb16
  clear d17 f17 d18 f18
  replace HS14 := Lib.hid (HS14.out.add (z := (x1 * x0)) HO14_16.out (.cells #[.int .i64 (sg (x1 * x0)), .slice Av16 nv16 cv16] 24))
  replace HS16 := Lib.hid (HS16.out.add (z := (x1 * x0)) HO16_16.out (.cells #[.int .i64 (sg (x1 * x0)), .slice Av16 nv16 cv16] 24))
  replace HV := Lib.hid (HV.out.ad Hv16.out)
  replace HB := Lib.hid (below_ad HB.out Hv16.out)
  have d19 := HV.out.c0 (.tail _ (.tail _ (.tail _ (.tail _ (.tail _ (.tail _ (.tail _ (.tail _ (.head _)))))))))
  have f19 := HV.out.c1 (.tail _ (.tail _ (.tail _ (.tail _ (.tail _ (.tail _ (.tail _ (.tail _ (.head _)))))))))
  have d20 := HV.out.c0 (.tail _ (.tail _ (.tail _ (.tail _ (.tail _ (.tail _ (.tail _ (.head _))))))))
  have f20 := HV.out.c1 (.tail _ (.tail _ (.tail _ (.tail _ (.tail _ (.tail _ (.tail _ (.head _))))))))
  go_wp2_with (fail)
  go_must (refine (mul_fitU _ (HV.out.big (.tail _ (.tail _ (.tail _ (.tail _ (.tail _ (.tail _ (.tail _ (.tail _ (.head _)))))))))) (HV.out.big (.tail _ (.tail _ (.tail _ (.tail _ (.tail _ (.tail _ (.tail _ (.head _))))))))) HZ1.out HZ2.out (by omega)).mono ?_)
  rintro e W17 ⟨v17, rfl, hv17, hb17, ha17⟩
  have HO14_17 := Lib.hid (ha17.off HS14.out.lt)
  have HO16_17 := Lib.hid (ha17.off HS16.out.lt)
  clear ha17
  replace HV := Lib.hid (HV.out.keep hb17)
  replace HS14 := Lib.hid (HS14.out.keep hb17)
  replace HS16 := Lib.hid (HS16.out.keep hb17)
  replace HB := Lib.hid (Gen.over hb17 HB.out)
  obtain ⟨Av17, cv17, lv17, rfl, _⟩ := hv17.ex
  obtain ⟨nv17, hnv17⟩ : ∃ n, lv17.length = n := ⟨_, rfl⟩
  rw [hnv17] at hv17 ⊢
  rw [hnv17] at HO14_17
  rw [hnv17] at HO16_17
  have Hv17 := Lib.hid hv17
  clear hnv17 hv17
  clear hb17
  clear d19 f19 d20 f20
  replace HS14 := Lib.hid (HS14.out.add (z := (x1 * x2)) HO14_17.out (.cells #[.int .i64 (sg (x1 * x2)), .slice Av17 nv17 cv17] 24))
  replace HS16 := Lib.hid (HS16.out.add (z := (x1 * x2)) HO16_17.out (.cells #[.int .i64 (sg (x1 * x2)), .slice Av17 nv17 cv17] 24))
  replace HV := Lib.hid (HV.out.ad Hv17.out)
  replace HB := Lib.hid (below_ad HB.out Hv17.out)
  have d21 := HV.out.c0 (.tail _ (.tail _ (.head _)))
  have f21 := HV.out.c1 (.tail _ (.tail _ (.head _)))
  have d22 := HV.out.c0 (.tail _ (.tail _ (.tail _ (.tail _ (.tail _ (.tail _ (.tail _ (.tail _ (.head _)))))))))
  have f22 := HV.out.c1 (.tail _ (.tail _ (.tail _ (.tail _ (.tail _ (.tail _ (.tail _ (.tail _ (.head _)))))))))
  go_wp2_with (fail)
  go_must (refine (mul_fitU _ (HV.out.big (.tail _ (.tail _ (.head _)))) (HV.out.big (.tail _ (.tail _ (.tail _ (.tail _ (.tail _ (.tail _ (.tail _ (.tail _ (.head _)))))))))) Pab.out HZ2.out (by omega)).mono ?_)
  rintro e W18 ⟨v18, rfl, hv18, hb18, ha18⟩
  have HO14_18 := Lib.hid (ha18.off HS14.out.lt)
  have HO16_18 := Lib.hid (ha18.off HS16.out.lt)
  clear ha18
  replace HV := Lib.hid (HV.out.keep hb18)
  replace HS14 := Lib.hid (HS14.out.keep hb18)
  replace HS16 := Lib.hid (HS16.out.keep hb18)
  replace HB := Lib.hid (Gen.over hb18 HB.out)
  obtain ⟨Av18, cv18, lv18, rfl, _⟩ := hv18.ex
  obtain ⟨nv18, hnv18⟩ : ∃ n, lv18.length = n := ⟨_, rfl⟩
  rw [hnv18] at hv18 ⊢
  rw [hnv18] at HO14_18
  rw [hnv18] at HO16_18
  have Hv18 := Lib.hid hv18
  clear hnv18 hv18
  clear hb18
  clear d21 f21 d22 f22
  have HR14 := Lib.hid (HV.out.row (.tail _ (.tail _ (.tail _ (.tail _ (.head _))))))
  have HR16 := Lib.hid (HV.out.row (.tail _ (.tail _ (.tail _ (.head _)))))
  have HN : Hid (W11.heap.size ≠ W12.heap.size) := Lib.hid (by have h1 := (HS16.out.sep _ (.tail _ (.tail _ (.tail _ (.head _))))).1; exact h1)
  have fr0 := HR14.out.frozen 0
  have fr1 := HR14.out.frozen 1
  have hlt := HR14.out.lt
  have e0 := HR14.out.cell 0
  have e1 := HR14.out.cell 1
  replace HV := Lib.hid (HV.out.put HR14.out Hv18.out HO14_18.out HS14.out.sep (.cons_cons _ (.cons_cons _ (.cons_cons _ (.cons _ (.cons _ (.cons_cons _ (.cons_cons _ (.cons_cons _ (.cons_cons _ (.cons_cons _ (.cons_cons _ .slnil))))))))))))
  replace HS16 := Lib.hid (((HS16.out.sub (L' := _) (.cons_cons _ (.cons_cons _ (.cons_cons _ (.cons _ (.cons_cons _ (.cons_cons _ (.cons_cons _ (.cons_cons _ (.cons_cons _ (.cons_cons _ .slnil))))))))))).ins (z := ((x0 * x1) * x2)) HN.out HO16_18.out).set2 (W11.heap.size) (.int .i64 (sg ((x0 * x1) * x2))) (.slice Av18 nv18 cv18))
  replace HR16 := Lib.hid (roff2 HR16.out HN.out.symm (.int .i64 (sg ((x0 * x1) * x2))) (.slice Av18 nv18 cv18))
  replace HB := Lib.hid (below_set2 HB.out HL14.out (.int .i64 (sg ((x0 * x1) * x2))) (.slice Av18 nv18 cv18))
  clear HS14 Hv18 HR14
  have d23 := HV.out.c0 (.tail _ (.tail _ (.tail _ (.tail _ (.tail _ (.tail _ (.tail _ (.tail _ (.tail _ (.head _))))))))))
  have f23 := HV.out.c1 (.tail _ (.tail _ (.tail _ (.tail _ (.tail _ (.tail _ (.tail _ (.tail _ (.tail _ (.head _))))))))))
  have d24 := HV.out.c0 (.tail _ (.head _))
  have f24 := HV.out.c1 (.tail _ (.head _))
  go_wp2_with (fail)
  go_must (refine (mul_fitU _ (HV.out.big (.tail _ (.tail _ (.tail _ (.tail _ (.tail _ (.tail _ (.tail _ (.tail _ (.tail _ (.head _))))))))))) (HV.out.big (.tail _ (.head _))) HZ0.out Pbc.out (by omega)).mono ?_)
  rintro e W19 ⟨v19, rfl, hv19, hb19, ha19⟩
  have HO16_19 := Lib.hid (ha19.off HS16.out.lt)
  clear ha19
  replace HR16 := Lib.hid (HR16.out.keep hb19)
  replace HV := Lib.hid (HV.out.keep hb19)
  replace HS16 := Lib.hid (HS16.out.keep hb19)
  replace HB := Lib.hid (Gen.over hb19 HB.out)
  obtain ⟨Av19, cv19, lv19, rfl, _⟩ := hv19.ex
  obtain ⟨nv19, hnv19⟩ : ∃ n, lv19.length = n := ⟨_, rfl⟩
  rw [hnv19] at hv19 ⊢
  rw [hnv19] at HO16_19
  have Hv19 := Lib.hid hv19
  clear hnv19 hv19
  clear hb19
  clear d23 f23 d24 f24
  clear fr0 fr1 hlt e0 e1
  have fr0 := HR16.out.frozen 0
  have fr1 := HR16.out.frozen 1
  have hlt := HR16.out.lt
  have e0 := HR16.out.cell 0
  have e1 := HR16.out.cell 1
  replace HV := Lib.hid (HV.out.put HR16.out Hv19.out HO16_19.out HS16.out.sep (.cons_cons _ (.cons_cons _ (.cons_cons _ (.cons_cons _ (.cons_cons _ (.cons_cons _ (.cons_cons _ (.cons_cons _ (.cons_cons _ (.cons_cons _ .slnil)))))))))))
  replace HB := Lib.hid (below_set2 HB.out HL16.out (.int .i64 (sg (x0 * (x1 * x2)))) (.slice Av19 nv19 cv19))
  clear HS16 Hv19 HR16
  have d25 := HV.out.c0 (.tail _ (.tail _ (.tail _ (.tail _ (.head _)))))
  have f25 := HV.out.c1 (.tail _ (.tail _ (.tail _ (.tail _ (.head _)))))
  have d26 := HV.out.c0 (.tail _ (.tail _ (.tail _ (.head _))))
  have f26 := HV.out.c1 (.tail _ (.tail _ (.tail _ (.head _))))
  go_wp2_with (fail)
  go_must (refine (rsame_to _ (HV.out.big (.tail _ (.tail _ (.tail _ (.tail _ (.head _)))))) (HV.out.big (.tail _ (.tail _ (.tail _ (.head _))))) (Int.mul_comm _ _)).mono ?_)
  rintro e W20 ⟨rfl, hb20⟩
  replace HV := Lib.hid (HV.out.keep hb20)
  replace HB := Lib.hid (Gen.over hb20 HB.out)
  clear hb20
  clear d25 f25 d26 f26
  clear fr0 fr1 hlt e0 e1
  have d27 := HV.out.c0 (.tail _ (.head _))
  have f27 := HV.out.c1 (.tail _ (.head _))
  have d28 := HV.out.c0 (.head _)
  have f28 := HV.out.c1 (.head _)
  go_wp2_with (fail)
  go_must (refine (rsame_to _ (HV.out.big (.tail _ (.head _))) (HV.out.big (.head _)) (Int.mul_assoc _ _ _)).mono ?_)
  rintro e W21 ⟨rfl, hb21⟩
  replace HV := Lib.hid (HV.out.keep hb21)
  replace HB := Lib.hid (Gen.over hb21 HB.out)
  clear hb21
  clear d27 f27 d28 f28
  have d29 := HV.out.c0 (.tail _ (.tail _ (.tail _ (.tail _ (.tail _ (.tail _ (.tail _ (.tail _ (.tail _ (.tail _ (.head _)))))))))))
  have f29 := HV.out.c1 (.tail _ (.tail _ (.tail _ (.tail _ (.tail _ (.tail _ (.tail _ (.tail _ (.tail _ (.tail _ (.head _)))))))))))
  have d30 := HV.out.c0 (.tail _ (.tail _ (.tail _ (.tail _ (.tail _ (.head _))))))
  have f30 := HV.out.c1 (.tail _ (.tail _ (.tail _ (.tail _ (.tail _ (.head _))))))
  go_wp2_with (fail)
  go_must (refine (mul_fitU _ (HV.out.big (.tail _ (.tail _ (.tail _ (.tail _ (.tail _ (.tail _ (.tail _ (.tail _ (.tail _ (.tail _ (.head _)))))))))))) (HV.out.big (.tail _ (.tail _ (.tail _ (.tail _ (.tail _ (.head _))))))) HZ0.out Sbc.out (by omega)).mono ?_)
  rintro e W22 ⟨v22, rfl, hv22, hb22, ha22⟩
  clear ha22
  replace HV := Lib.hid (HV.out.keep hb22)
  replace HB := Lib.hid (Gen.over hb22 HB.out)
  obtain ⟨Av22, cv22, lv22, rfl, _⟩ := hv22.ex
  obtain ⟨nv22, hnv22⟩ : ∃ n, lv22.length = n := ⟨_, rfl⟩
  rw [hnv22] at hv22 ⊢
  have Hv22 := Lib.hid hv22
  clear hnv22 hv22
  clear hb22
  clear d29 f29 d30 f30
  replace HV := Lib.hid (HV.out.ad Hv22.out)
  replace HB := Lib.hid (below_ad HB.out Hv22.out)
  have d31 := HV.out.c0 (.tail _ (.tail _ (.tail _ (.tail _ (.tail _ (.tail _ (.tail _ (.tail _ (.tail _ (.tail _ (.tail _ (.head _))))))))))))
  have f31 := HV.out.c1 (.tail _ (.tail _ (.tail _ (.tail _ (.tail _ (.tail _ (.tail _ (.tail _ (.tail _ (.tail _ (.tail _ (.head _))))))))))))
  have d32 := HV.out.c0 (.tail _ (.tail _ (.tail _ (.tail _ (.tail _ (.tail _ (.tail _ (.tail _ (.tail _ (.head _))))))))))
  have f32 := HV.out.c1 (.tail _ (.tail _ (.tail _ (.tail _ (.tail _ (.tail _ (.tail _ (.tail _ (.tail _ (.head _))))))))))
  go_wp2_with (fail)
  go_must (refine (mul_fitU _ (HV.out.big (.tail _ (.tail _ (.tail _ (.tail _ (.tail _ (.tail _ (.tail _ (.tail _ (.tail _ (.tail _ (.tail _ (.head _))))))))))))) (HV.out.big (.tail _ (.tail _ (.tail _ (.tail _ (.tail _ (.tail _ (.tail _ (.tail _ (.tail _ (.head _))))))))))) HZ0.out HZ2.out (by omega)).mono ?_)
  rintro e W23 ⟨v23, rfl, hv23, hb23, ha23⟩
  clear ha23
  replace HV := Lib.hid (HV.out.keep hb23)
  replace HB := Lib.hid (Gen.over hb23 HB.out)
  obtain ⟨Av23, cv23, lv23, rfl, _⟩ := hv23.ex
  obtain ⟨nv23, hnv23⟩ : ∃ n, lv23.length = n := ⟨_, rfl⟩
  rw [hnv23] at hv23 ⊢
  have Hv23 := Lib.hid hv23
  clear hnv23 hv23
  clear hb23
  clear d31 f31 d32 f32
  replace HV := Lib.hid (HV.out.ad Hv23.out)
  replace HB := Lib.hid (below_ad HB.out Hv23.out)
  have d33 := HV.out.c0 (.tail _ (.tail _ (.tail _ (.tail _ (.tail _ (.tail _ (.head _)))))))
  have f33 := HV.out.c1 (.tail _ (.tail _ (.tail _ (.tail _ (.tail _ (.tail _ (.head _)))))))
  have d34 := HV.out.c0 (.head _)
  have f34 := HV.out.c1 (.head _)
  go_wp2_with (fail)
  go_must (refine (add_fit _ (HV.out.big (.tail _ (.tail _ (.tail _ (.tail _ (.tail _ (.tail _ (.head _)))))))) (HV.out.big (.head _)) ((Pab.out.add Pac.out (n := 39) (by omega)).fit)).mono ?_)
  rintro e W24 ⟨v24, rfl, hv24, hb24⟩
  replace HV := Lib.hid (HV.out.keep hb24)
  replace HB := Lib.hid (Gen.over hb24 HB.out)
  obtain ⟨Av24, cv24, lv24, rfl, _⟩ := hv24.ex
  obtain ⟨nv24, hnv24⟩ : ∃ n, lv24.length = n := ⟨_, rfl⟩
  rw [hnv24] at hv24 ⊢
  have Hv24 := Lib.hid hv24
  clear hnv24 hv24
  clear hb24
  clear d33 f33 d34 f34
  replace HV := Lib.hid (HV.out.ad Hv24.out)
  replace HB := Lib.hid (below_ad HB.out Hv24.out)
  have d35 := HV.out.c0 (.tail _ (.tail _ (.tail _ (.tail _ (.tail _ (.tail _ (.tail _ (.tail _ (.tail _ (.tail _ (.tail _ (.tail _ (.tail _ (.head _))))))))))))))
  have f35 := HV.out.c1 (.tail _ (.tail _ (.tail _ (.tail _ (.tail _ (.tail _ (.tail _ (.tail _ (.tail _ (.tail _ (.tail _ (.tail _ (.tail _ (.head _))))))))))))))
  have d36 := HV.out.c0 (.tail _ (.tail _ (.tail _ (.tail _ (.tail _ (.tail _ (.tail _ (.tail _ (.tail _ (.tail _ (.tail _ (.tail _ (.head _)))))))))))))
  have f36 := HV.out.c1 (.tail _ (.tail _ (.tail _ (.tail _ (.tail _ (.tail _ (.tail _ (.tail _ (.tail _ (.tail _ (.tail _ (.tail _ (.head _)))))))))))))
  go_wp2_with (fail)
  go_must (refine (sub_fit _ (HV.out.big (.tail _ (.tail _ (.tail _ (.tail _ (.tail _ (.tail _ (.tail _ (.tail _ (.tail _ (.tail _ (.tail _ (.tail _ (.tail _ (.head _))))))))))))))) (HV.out.big (.tail _ (.tail _ (.tail _ (.tail _ (.tail _ (.tail _ (.tail _ (.tail _ (.tail _ (.tail _ (.tail _ (.tail _ (.head _)))))))))))))) (Dab.out.fit)).mono ?_)
  rintro e W25 ⟨v25, rfl, hv25, hb25⟩
  replace HV := Lib.hid (HV.out.keep hb25)
  replace HB := Lib.hid (Gen.over hb25 HB.out)
  obtain ⟨Av25, cv25, lv25, rfl, _⟩ := hv25.ex
  obtain ⟨nv25, hnv25⟩ : ∃ n, lv25.length = n := ⟨_, rfl⟩
  rw [hnv25] at hv25 ⊢
  have Hv25 := Lib.hid hv25
  clear hnv25 hv25
  clear hb25
  clear d35 f35 d36 f36
  replace HV := Lib.hid (HV.out.ad Hv25.out)
  replace HB := Lib.hid (below_ad HB.out Hv25.out)
  have d37 := HV.out.c0 (.head _)
  have f37 := HV.out.c1 (.head _)
  have d38 := HV.out.c0 (.tail _ (.tail _ (.tail _ (.tail _ (.tail _ (.tail _ (.tail _ (.tail _ (.tail _ (.tail _ (.tail _ (.tail _ (.tail _ (.head _))))))))))))))
  have f38 := HV.out.c1 (.tail _ (.tail _ (.tail _ (.tail _ (.tail _ (.tail _ (.tail _ (.tail _ (.tail _ (.tail _ (.tail _ (.tail _ (.tail _ (.head _))))))))))))))
  go_wp2_with (fail)
  go_must (refine (add_to (z := x0) _ (HV.out.big (.head _)) (HV.out.big (.tail _ (.tail _ (.tail _ (.tail _ (.tail _ (.tail _ (.tail _ (.tail _ (.tail _ (.tail _ (.tail _ (.tail _ (.tail _ (.head _))))))))))))))) (by omega) (HZ0.out.fit)).mono ?_)
  rintro e W26 ⟨v26, rfl, hv26, hb26⟩
  replace HV := Lib.hid (HV.out.keep hb26)
  replace HB := Lib.hid (Gen.over hb26 HB.out)
  obtain ⟨Av26, cv26, lv26, rfl, _⟩ := hv26.ex
  obtain ⟨nv26, hnv26⟩ : ∃ n, lv26.length = n := ⟨_, rfl⟩
  rw [hnv26] at hv26 ⊢
  have Hv26 := Lib.hid hv26
  clear hnv26 hv26
  clear hb26
  clear d37 f37 d38 f38
  replace HV := Lib.hid (HV.out.ad Hv26.out)
  replace HB := Lib.hid (below_ad HB.out Hv26.out)
  have d39 := HV.out.c0 (.tail _ (.tail _ (.tail _ (.tail _ (.head _)))))
  have f39 := HV.out.c1 (.tail _ (.tail _ (.tail _ (.tail _ (.head _)))))
  have d40 := HV.out.c0 (.tail _ (.tail _ (.head _)))
  have f40 := HV.out.c1 (.tail _ (.tail _ (.head _)))
  go_wp2_with (fail)
  go_must (refine (rsame_to _ (HV.out.big (.tail _ (.tail _ (.tail _ (.tail _ (.head _)))))) (HV.out.big (.tail _ (.tail _ (.head _)))) (Int.mul_add _ _ _)).mono ?_)
  rintro e W27 ⟨rfl, hb27⟩
  replace HV := Lib.hid (HV.out.keep hb27)
  replace HB := Lib.hid (Gen.over hb27 HB.out)
  clear hb27
  clear d39 f39 d40 f40
  have d41 := HV.out.c0 (.head _)
  have f41 := HV.out.c1 (.head _)
  have d42 := HV.out.c0 (.tail _ (.tail _ (.tail _ (.tail _ (.tail _ (.tail _ (.tail _ (.tail _ (.tail _ (.tail _ (.tail _ (.tail _ (.tail _ (.tail _ (.tail _ (.head _))))))))))))))))
  have f42 := HV.out.c1 (.tail _ (.tail _ (.tail _ (.tail _ (.tail _ (.tail _ (.tail _ (.tail _ (.tail _ (.tail _ (.tail _ (.tail _ (.tail _ (.tail _ (.tail _ (.head _))))))))))))))))
  go_wp2_with (fail)
  go_must (refine (rsame_to _ (HV.out.big (.head _)) (HV.out.big (.tail _ (.tail _ (.tail _ (.tail _ (.tail _ (.tail _ (.tail _ (.tail _ (.tail _ (.tail _ (.tail _ (.tail _ (.tail _ (.tail _ (.tail _ (.head _))))))))))))))))) (rfl)).mono ?_)
  rintro e W28 ⟨rfl, hb28⟩
  replace HV := Lib.hid (HV.out.keep hb28)
  replace HB := Lib.hid (Gen.over hb28 HB.out)
  clear hb28
  clear d41 f41 d42 f42
  go_wp2_with (fail)
  have d43 := HV.out.c0 (.tail _ (.tail _ (.tail _ (.tail _ (.tail _ (.tail _ (.tail _ (.tail _ (.tail _ (.tail _ (.tail _ (.tail _ (.tail _ (.tail _ (.tail _ (.head _))))))))))))))))
  have f43 := HV.out.c1 (.tail _ (.tail _ (.tail _ (.tail _ (.tail _ (.tail _ (.tail _ (.tail _ (.tail _ (.tail _ (.tail _ (.tail _ (.tail _ (.tail _ (.tail _ (.head _))))))))))))))))
  have HS0 : Hid (Below W28.heap.size W28 W28 ∧ W28.cell? ⟨w.heap.size, 0, none⟩ = some (.int .i64 s0) ∧ W28.cell? ⟨w.heap.size, 1, none⟩ = some (.slice A0 n0 c0)) := Lib.hid ⟨Below.refl _ _, HV.out.c0 (.tail _ (.tail _ (.tail _ (.tail _ (.tail _ (.tail _ (.tail _ (.tail _ (.tail _ (.tail _ (.tail _ (.tail _ (.tail _ (.tail _ (.tail _ (.head _)))))))))))))))), HV.out.c1 (.tail _ (.tail _ (.tail _ (.tail _ (.tail _ (.tail _ (.tail _ (.tail _ (.tail _ (.tail _ (.tail _ (.tail _ (.tail _ (.tail _ (.tail _ (.head _))))))))))))))))⟩
  have HP0 := Lib.hid ((HV.out.row (.tail _ (.tail _ (.tail _ (.tail _ (.tail _ (.tail _ (.tail _ (.tail _ (.tail _ (.tail _ (.tail _ (.tail _ (.tail _ (.tail _ (.tail _ (.head _))))))))))))))))).lt)
  have HXa := Lib.hid (HV.out.big (.tail _ (.tail _ (.tail _ (.tail _ (.tail _ (.tail _ (.tail _ (.tail _ (.tail _ (.tail _ (.tail _ (.tail _ (.tail _ (.tail _ (.tail _ (.head _)))))))))))))))))
  refine wp_join (RJ w x0 0 [(W26.heap.size, bigV (sg x0) Av26 nv26 cv26, x0), (W25.heap.size, bigV (sg (x0 - x1)) Av25 nv25 cv25, (x0 - x1)), (W24.heap.size, bigV (sg ((x0 * x1) + (x0 * x2))) Av24 nv24 cv24, ((x0 * x1) + (x0 * x2))), (W23.heap.size, bigV (sg (x0 * x2)) Av23 nv23 cv23, (x0 * x2)), (W22.heap.size, bigV (sg (x0 * (x1 + x2))) Av22 nv22 cv22, (x0 * (x1 + x2))), (W12.heap.size, bigV (sg (x0 * (x1 * x2))) Av19 nv19 cv19, (x0 * (x1 * x2))), (W11.heap.size, bigV (sg ((x0 * x1) * x2)) Av18 nv18 cv18, ((x0 * x1) * x2)), (W17.heap.size, bigV (sg (x1 * x2)) Av17 nv17 cv17, (x1 * x2)), (W16.heap.size, bigV (sg (x1 * x0)) Av16 nv16 cv16, (x1 * x0)), (W15.heap.size, bigV (sg (x0 * x1)) Av15 nv15 cv15, (x0 * x1)), (W10.heap.size, bigV (sg (x1 + x2)) Av10 nv10 cv10, (x1 + x2)), (W9.heap.size, bigV (sg (x1 + x0)) Av9 nv9 cv9, (x1 + x0)), (W8.heap.size, bigV (sg (x0 + x1)) Av8 nv8 cv8, (x0 + x1)), (w.heap.size + 1 + 1, bigV s2 A2 n2 c2, x2), (w.heap.size + 1, bigV s1 A1 n1 c1, x1), (w.heap.size, bigV s0 A0 n0 c0, x0)] (bigV s0 A0 n0 c0) 240 241 242 239 243 244 26 9) ?_ ?_
  · go_region_held3 (fun W' : World => Below W28.heap.size W28 W' ∧ W'.cell? ⟨w.heap.size, 0, none⟩ = some (.int .i64 s0) ∧ W'.cell? ⟨w.heap.size, 1, none⟩ = some (.slice A0 n0 c0))
      (first | exact hS8 | exact hS5 | exact ⟨HS0.out.1.drew, HS0.out.2⟩ | exact ⟨Gen.b_alloc (And.left (by assumption)), Gen.al (And.left (And.right (by assumption))), Gen.al (And.right (And.right (by assumption)))⟩ | exact reg_put (by assumption) HP0.out (by first | exact Nat.le_refl _ | exact hS8.1.size | exact hS5.1.size) | fail "keep")
      (first
        | (go_at_call 16; (with_reducible refine (of_val 0 _ (by unfold I64; omega)).mono ?_); rintro e' w' ⟨vo, rfl, ho, hb1⟩; obtain ⟨Ao, co, lo, rfl, _⟩ := ho.ex; (try have hRw : Row w' W28.heap.size 24 #[.int .i64 0, .slice none 0 0] := (rowd _ _ _).keep hb1); have hS5 := (show (Below W28.heap.size W28 w' ∧ w'.cell? ⟨w.heap.size, 0, none⟩ = some (.int .i64 s0) ∧ w'.cell? ⟨w.heap.size, 1, none⟩ = some (.slice A0 n0 c0)) from ⟨Gen.over hb1 (And.left (by assumption)), Gen.keep hb1 (And.left (And.right (by assumption))), Gen.keep hb1 (And.right (And.right (by assumption)))⟩))
        | (go_at_call 12; (with_reducible refine (add_to (z := x0) _ (HXa.out.keep (And.left (by assumption))) (by first | exact ho | exact ho.keep (Gen.b_alloc (Below.refl _ _))) (by omega) HZ0.out.fit).mono ?_); rintro e' w' ⟨vr, rfl, hr, hb2⟩; obtain ⟨Ar, cr, lr, rfl, _⟩ := hr.ex; (first | have hRw := Row.keep hRw hb2 | have hRw := (Row.new _ _ _).keep hb2 | have hRw := (rowd _ _ _).keep hb2 | skip); (try have fz0 := hRw.frozen 0); (try have fz1 := hRw.frozen 1); (try have cz0 := hRw.cell 0); (try have cz1 := hRw.cell 1); (try have hRl := hRw.lt); have hS8 := (show (Below W28.heap.size W28 w' ∧ w'.cell? ⟨w.heap.size, 0, none⟩ = some (.int .i64 s0) ∧ w'.cell? ⟨w.heap.size, 1, none⟩ = some (.slice A0 n0 c0)) from ⟨Gen.over hb2 (And.left (by assumption)), Gen.keep hb2 (And.left (And.right (by assumption))), Gen.keep hb2 (And.right (And.right (by assumption)))⟩))
        | fail "arm")
    all_goals
      exact RJ.mk' _ Ao lo.length co Ar lr.length cr (by simp only [upd, List.foldl, List.setIfInBounds_toArray, List.set_cons_zero, List.set_cons_succ] <;> rfl)
        (by first | exact Vs.ad (HV.out.keep hS8.1) hr | exact Vs.reg HV.out hS8.1 hS5.1.size hRw hr | exact Vs.reg HV.out hS8.1 (Nat.le_refl _) hRw hr)
        (Gen.over (And.left (by assumption)) HB.out)
  clear d43 f43
  clear HS0 HP0 HXa HV HB
  rintro a2 Yt26 ⟨gt26, Aot26, not26, cot26, At26, nt26, ct26, rfl, HV, HB⟩
  simp only [upd, List.foldl, List.setIfInBounds_toArray, List.set_cons_zero, List.set_cons_succ]
  go_wp2_with (fail)
  have d44 := HV.out.c0 (.tail _ (.tail _ (.tail _ (.tail _ (.tail _ (.tail _ (.tail _ (.tail _ (.tail _ (.tail _ (.tail _ (.tail _ (.tail _ (.tail _ (.tail _ (.tail _ (.head _)))))))))))))))))
  have f44 := HV.out.c1 (.tail _ (.tail _ (.tail _ (.tail _ (.tail _ (.tail _ (.tail _ (.tail _ (.tail _ (.tail _ (.tail _ (.tail _ (.tail _ (.tail _ (.tail _ (.tail _ (.head _)))))))))))))))))
  have HS0 : Hid (Below Yt26.heap.size Yt26 Yt26 ∧ Yt26.cell? ⟨w.heap.size, 0, none⟩ = some (.int .i64 s0) ∧ Yt26.cell? ⟨w.heap.size, 1, none⟩ = some (.slice A0 n0 c0)) := Lib.hid ⟨Below.refl _ _, HV.out.c0 (.tail _ (.tail _ (.tail _ (.tail _ (.tail _ (.tail _ (.tail _ (.tail _ (.tail _ (.tail _ (.tail _ (.tail _ (.tail _ (.tail _ (.tail _ (.tail _ (.head _))))))))))))))))), HV.out.c1 (.tail _ (.tail _ (.tail _ (.tail _ (.tail _ (.tail _ (.tail _ (.tail _ (.tail _ (.tail _ (.tail _ (.tail _ (.tail _ (.tail _ (.tail _ (.tail _ (.head _)))))))))))))))))⟩
  have HP0 := Lib.hid ((HV.out.row (.tail _ (.tail _ (.tail _ (.tail _ (.tail _ (.tail _ (.tail _ (.tail _ (.tail _ (.tail _ (.tail _ (.tail _ (.tail _ (.tail _ (.tail _ (.tail _ (.head _)))))))))))))))))).lt)
  have HXa := Lib.hid (HV.out.big (.tail _ (.tail _ (.tail _ (.tail _ (.tail _ (.tail _ (.tail _ (.tail _ (.tail _ (.tail _ (.tail _ (.tail _ (.tail _ (.tail _ (.tail _ (.tail _ (.head _))))))))))))))))))
  refine wp_join (RJ w x0 1 [(gt26, bigV (sg x0) At26 nt26 ct26, x0), (W26.heap.size, bigV (sg x0) Av26 nv26 cv26, x0), (W25.heap.size, bigV (sg (x0 - x1)) Av25 nv25 cv25, (x0 - x1)), (W24.heap.size, bigV (sg ((x0 * x1) + (x0 * x2))) Av24 nv24 cv24, ((x0 * x1) + (x0 * x2))), (W23.heap.size, bigV (sg (x0 * x2)) Av23 nv23 cv23, (x0 * x2)), (W22.heap.size, bigV (sg (x0 * (x1 + x2))) Av22 nv22 cv22, (x0 * (x1 + x2))), (W12.heap.size, bigV (sg (x0 * (x1 * x2))) Av19 nv19 cv19, (x0 * (x1 * x2))), (W11.heap.size, bigV (sg ((x0 * x1) * x2)) Av18 nv18 cv18, ((x0 * x1) * x2)), (W17.heap.size, bigV (sg (x1 * x2)) Av17 nv17 cv17, (x1 * x2)), (W16.heap.size, bigV (sg (x1 * x0)) Av16 nv16 cv16, (x1 * x0)), (W15.heap.size, bigV (sg (x0 * x1)) Av15 nv15 cv15, (x0 * x1)), (W10.heap.size, bigV (sg (x1 + x2)) Av10 nv10 cv10, (x1 + x2)), (W9.heap.size, bigV (sg (x1 + x0)) Av9 nv9 cv9, (x1 + x0)), (W8.heap.size, bigV (sg (x0 + x1)) Av8 nv8 cv8, (x0 + x1)), (w.heap.size + 1 + 1, bigV s2 A2 n2 c2, x2), (w.heap.size + 1, bigV s1 A1 n1 c1, x1), (w.heap.size, bigV s0 A0 n0 c0, x0)] (bigV s0 A0 n0 c0) 246 247 248 245 249 250 27 11) ?_ ?_
  · go_region_held3 (fun W' : World => Below Yt26.heap.size Yt26 W' ∧ W'.cell? ⟨w.heap.size, 0, none⟩ = some (.int .i64 s0) ∧ W'.cell? ⟨w.heap.size, 1, none⟩ = some (.slice A0 n0 c0))
      (first | exact hS8 | exact hS5 | exact ⟨HS0.out.1.drew, HS0.out.2⟩ | exact ⟨Gen.b_alloc (And.left (by assumption)), Gen.al (And.left (And.right (by assumption))), Gen.al (And.right (And.right (by assumption)))⟩ | exact reg_put (by assumption) HP0.out (by first | exact Nat.le_refl _ | exact hS8.1.size | exact hS5.1.size) | fail "keep")
      (first
        | (go_at_call 16; (with_reducible refine (of_val 1 _ (by unfold I64; omega)).mono ?_); rintro e' w' ⟨vo, rfl, ho, hb1⟩; obtain ⟨Ao, co, lo, rfl, _⟩ := ho.ex; (try have hRw : Row w' Yt26.heap.size 24 #[.int .i64 0, .slice none 0 0] := (rowd _ _ _).keep hb1); have hS5 := (show (Below Yt26.heap.size Yt26 w' ∧ w'.cell? ⟨w.heap.size, 0, none⟩ = some (.int .i64 s0) ∧ w'.cell? ⟨w.heap.size, 1, none⟩ = some (.slice A0 n0 c0)) from ⟨Gen.over hb1 (And.left (by assumption)), Gen.keep hb1 (And.left (And.right (by assumption))), Gen.keep hb1 (And.right (And.right (by assumption)))⟩))
        | (go_at_call 14; (with_reducible refine (mul_to (z := x0) _ (HXa.out.keep (And.left (by assumption))) (by first | exact ho | exact ho.keep (Gen.b_alloc (Below.refl _ _))) (Int.mul_one _) HZ0.out.fit).mono ?_); rintro e' w' ⟨vr, rfl, hr, hb2⟩; obtain ⟨Ar, cr, lr, rfl, _⟩ := hr.ex; (first | have hRw := Row.keep hRw hb2 | have hRw := (Row.new _ _ _).keep hb2 | have hRw := (rowd _ _ _).keep hb2 | skip); (try have fz0 := hRw.frozen 0); (try have fz1 := hRw.frozen 1); (try have cz0 := hRw.cell 0); (try have cz1 := hRw.cell 1); (try have hRl := hRw.lt); have hS8 := (show (Below Yt26.heap.size Yt26 w' ∧ w'.cell? ⟨w.heap.size, 0, none⟩ = some (.int .i64 s0) ∧ w'.cell? ⟨w.heap.size, 1, none⟩ = some (.slice A0 n0 c0)) from ⟨Gen.over hb2 (And.left (by assumption)), Gen.keep hb2 (And.left (And.right (by assumption))), Gen.keep hb2 (And.right (And.right (by assumption)))⟩))
        | fail "arm")
    all_goals
      exact RJ.mk' _ Ao lo.length co Ar lr.length cr (by simp only [upd, List.foldl, List.setIfInBounds_toArray, List.set_cons_zero, List.set_cons_succ] <;> rfl)
        (by first | exact Vs.ad (HV.out.keep hS8.1) hr | exact Vs.reg HV.out hS8.1 hS5.1.size hRw hr | exact Vs.reg HV.out hS8.1 (Nat.le_refl _) hRw hr)
        (Gen.over (And.left (by assumption)) HB.out)
  clear d44 f44
  clear HS0 HP0 HXa HV HB
  rintro a2 Yt27 ⟨gt27, Aot27, not27, cot27, At27, nt27, ct27, rfl, HV, HB⟩
  simp only [upd, List.foldl, List.setIfInBounds_toArray, List.set_cons_zero, List.set_cons_succ]
  go_wp2_with (fail)
  have d45 := HV.out.c0 (.tail _ (.tail _ (.tail _ (.tail _ (.tail _ (.tail _ (.tail _ (.tail _ (.tail _ (.tail _ (.tail _ (.tail _ (.tail _ (.tail _ (.tail _ (.tail _ (.tail _ (.head _))))))))))))))))))
  have f45 := HV.out.c1 (.tail _ (.tail _ (.tail _ (.tail _ (.tail _ (.tail _ (.tail _ (.tail _ (.tail _ (.tail _ (.tail _ (.tail _ (.tail _ (.tail _ (.tail _ (.tail _ (.tail _ (.head _))))))))))))))))))
  have HS0 : Hid (Below Yt27.heap.size Yt27 Yt27 ∧ Yt27.cell? ⟨w.heap.size, 0, none⟩ = some (.int .i64 s0) ∧ Yt27.cell? ⟨w.heap.size, 1, none⟩ = some (.slice A0 n0 c0)) := Lib.hid ⟨Below.refl _ _, HV.out.c0 (.tail _ (.tail _ (.tail _ (.tail _ (.tail _ (.tail _ (.tail _ (.tail _ (.tail _ (.tail _ (.tail _ (.tail _ (.tail _ (.tail _ (.tail _ (.tail _ (.tail _ (.head _)))))))))))))))))), HV.out.c1 (.tail _ (.tail _ (.tail _ (.tail _ (.tail _ (.tail _ (.tail _ (.tail _ (.tail _ (.tail _ (.tail _ (.tail _ (.tail _ (.tail _ (.tail _ (.tail _ (.tail _ (.head _))))))))))))))))))⟩
  have HP0 := Lib.hid ((HV.out.row (.tail _ (.tail _ (.tail _ (.tail _ (.tail _ (.tail _ (.tail _ (.tail _ (.tail _ (.tail _ (.tail _ (.tail _ (.tail _ (.tail _ (.tail _ (.tail _ (.tail _ (.head _))))))))))))))))))).lt)
  have HXa := Lib.hid (HV.out.big (.tail _ (.tail _ (.tail _ (.tail _ (.tail _ (.tail _ (.tail _ (.tail _ (.tail _ (.tail _ (.tail _ (.tail _ (.tail _ (.tail _ (.tail _ (.tail _ (.tail _ (.head _)))))))))))))))))))
  refine wp_join (RJ w 0 0 [(gt27, bigV (sg x0) At27 nt27 ct27, x0), (gt26, bigV (sg x0) At26 nt26 ct26, x0), (W26.heap.size, bigV (sg x0) Av26 nv26 cv26, x0), (W25.heap.size, bigV (sg (x0 - x1)) Av25 nv25 cv25, (x0 - x1)), (W24.heap.size, bigV (sg ((x0 * x1) + (x0 * x2))) Av24 nv24 cv24, ((x0 * x1) + (x0 * x2))), (W23.heap.size, bigV (sg (x0 * x2)) Av23 nv23 cv23, (x0 * x2)), (W22.heap.size, bigV (sg (x0 * (x1 + x2))) Av22 nv22 cv22, (x0 * (x1 + x2))), (W12.heap.size, bigV (sg (x0 * (x1 * x2))) Av19 nv19 cv19, (x0 * (x1 * x2))), (W11.heap.size, bigV (sg ((x0 * x1) * x2)) Av18 nv18 cv18, ((x0 * x1) * x2)), (W17.heap.size, bigV (sg (x1 * x2)) Av17 nv17 cv17, (x1 * x2)), (W16.heap.size, bigV (sg (x1 * x0)) Av16 nv16 cv16, (x1 * x0)), (W15.heap.size, bigV (sg (x0 * x1)) Av15 nv15 cv15, (x0 * x1)), (W10.heap.size, bigV (sg (x1 + x2)) Av10 nv10 cv10, (x1 + x2)), (W9.heap.size, bigV (sg (x1 + x0)) Av9 nv9 cv9, (x1 + x0)), (W8.heap.size, bigV (sg (x0 + x1)) Av8 nv8 cv8, (x0 + x1)), (w.heap.size + 1 + 1, bigV s2 A2 n2 c2, x2), (w.heap.size + 1, bigV s1 A1 n1 c1, x1), (w.heap.size, bigV s0 A0 n0 c0, x0)] (bigV s0 A0 n0 c0) 252 253 254 251 255 256 28 13) ?_ ?_
  · go_region_held3 (fun W' : World => Below Yt27.heap.size Yt27 W' ∧ W'.cell? ⟨w.heap.size, 0, none⟩ = some (.int .i64 s0) ∧ W'.cell? ⟨w.heap.size, 1, none⟩ = some (.slice A0 n0 c0))
      (first | exact hS8 | exact hS5 | exact ⟨HS0.out.1.drew, HS0.out.2⟩ | exact ⟨Gen.b_alloc (And.left (by assumption)), Gen.al (And.left (And.right (by assumption))), Gen.al (And.right (And.right (by assumption)))⟩ | exact reg_put (by assumption) HP0.out (by first | exact Nat.le_refl _ | exact hS8.1.size | exact hS5.1.size) | fail "keep")
      (first
        | (go_at_call 16; (with_reducible refine (of_val 0 _ (by unfold I64; omega)).mono ?_); rintro e' w' ⟨vo, rfl, ho, hb1⟩; obtain ⟨Ao, co, lo, rfl, _⟩ := ho.ex; (try have hRw : Row w' Yt27.heap.size 24 #[.int .i64 0, .slice none 0 0] := (rowd _ _ _).keep hb1); have hS5 := (show (Below Yt27.heap.size Yt27 w' ∧ w'.cell? ⟨w.heap.size, 0, none⟩ = some (.int .i64 s0) ∧ w'.cell? ⟨w.heap.size, 1, none⟩ = some (.slice A0 n0 c0)) from ⟨Gen.over hb1 (And.left (by assumption)), Gen.keep hb1 (And.left (And.right (by assumption))), Gen.keep hb1 (And.right (And.right (by assumption)))⟩))
        | (go_at_call 14; (with_reducible refine (mul_to (z := 0) _ (HXa.out.keep (And.left (by assumption))) (by first | exact ho | exact ho.keep (Gen.b_alloc (Below.refl _ _))) (Int.mul_zero _) (by decide)).mono ?_); rintro e' w' ⟨vr, rfl, hr, hb2⟩; obtain ⟨Ar, cr, lr, rfl, _⟩ := hr.ex; (first | have hRw := Row.keep hRw hb2 | have hRw := (Row.new _ _ _).keep hb2 | have hRw := (rowd _ _ _).keep hb2 | skip); (try have fz0 := hRw.frozen 0); (try have fz1 := hRw.frozen 1); (try have cz0 := hRw.cell 0); (try have cz1 := hRw.cell 1); (try have hRl := hRw.lt); have hS8 := (show (Below Yt27.heap.size Yt27 w' ∧ w'.cell? ⟨w.heap.size, 0, none⟩ = some (.int .i64 s0) ∧ w'.cell? ⟨w.heap.size, 1, none⟩ = some (.slice A0 n0 c0)) from ⟨Gen.over hb2 (And.left (by assumption)), Gen.keep hb2 (And.left (And.right (by assumption))), Gen.keep hb2 (And.right (And.right (by assumption)))⟩))
        | fail "arm")
    all_goals
      exact RJ.mk' _ Ao lo.length co Ar lr.length cr (by simp only [upd, List.foldl, List.setIfInBounds_toArray, List.set_cons_zero, List.set_cons_succ] <;> rfl)
        (by first | exact Vs.ad (HV.out.keep hS8.1) hr | exact Vs.reg HV.out hS8.1 hS5.1.size hRw hr | exact Vs.reg HV.out hS8.1 (Nat.le_refl _) hRw hr)
        (Gen.over (And.left (by assumption)) HB.out)
  clear d45 f45
  clear HS0 HP0 HXa HV HB
  rintro a2 Yt28 ⟨gt28, Aot28, not28, cot28, At28, nt28, ct28, rfl, HV, HB⟩
  simp only [upd, List.foldl, List.setIfInBounds_toArray, List.set_cons_zero, List.set_cons_succ]
  have d46 := HV.out.c0 (.tail _ (.tail _ (.head _)))
  have f46 := HV.out.c1 (.tail _ (.tail _ (.head _)))
  have d47 := HV.out.c0 (.tail _ (.tail _ (.tail _ (.tail _ (.tail _ (.tail _ (.tail _ (.tail _ (.tail _ (.tail _ (.tail _ (.tail _ (.tail _ (.tail _ (.tail _ (.tail _ (.tail _ (.tail _ (.head _)))))))))))))))))))
  have f47 := HV.out.c1 (.tail _ (.tail _ (.tail _ (.tail _ (.tail _ (.tail _ (.tail _ (.tail _ (.tail _ (.tail _ (.tail _ (.tail _ (.tail _ (.tail _ (.tail _ (.tail _ (.tail _ (.tail _ (.head _)))))))))))))))))))
  go_wp2_with (fail)
  go_must (refine (rsame_to _ (HV.out.big (.tail _ (.tail _ (.head _)))) (HV.out.big (.tail _ (.tail _ (.tail _ (.tail _ (.tail _ (.tail _ (.tail _ (.tail _ (.tail _ (.tail _ (.tail _ (.tail _ (.tail _ (.tail _ (.tail _ (.tail _ (.tail _ (.tail _ (.head _)))))))))))))))))))) (rfl)).mono ?_)
  rintro e W29 ⟨rfl, hb29⟩
  replace HV := Lib.hid (HV.out.keep hb29)
  replace HB := Lib.hid (Gen.over hb29 HB.out)
  clear hb29
  clear d46 f46 d47 f47
  have d48 := HV.out.c0 (.tail _ (.head _))
  have f48 := HV.out.c1 (.tail _ (.head _))
  have d49 := HV.out.c0 (.tail _ (.tail _ (.tail _ (.tail _ (.tail _ (.tail _ (.tail _ (.tail _ (.tail _ (.tail _ (.tail _ (.tail _ (.tail _ (.tail _ (.tail _ (.tail _ (.tail _ (.tail _ (.head _)))))))))))))))))))
  have f49 := HV.out.c1 (.tail _ (.tail _ (.tail _ (.tail _ (.tail _ (.tail _ (.tail _ (.tail _ (.tail _ (.tail _ (.tail _ (.tail _ (.tail _ (.tail _ (.tail _ (.tail _ (.tail _ (.tail _ (.head _)))))))))))))))))))
  go_wp2_with (fail)
  go_must (refine (rsame_to _ (HV.out.big (.tail _ (.head _))) (HV.out.big (.tail _ (.tail _ (.tail _ (.tail _ (.tail _ (.tail _ (.tail _ (.tail _ (.tail _ (.tail _ (.tail _ (.tail _ (.tail _ (.tail _ (.tail _ (.tail _ (.tail _ (.tail _ (.head _)))))))))))))))))))) (rfl)).mono ?_)
  rintro e W30 ⟨rfl, hb30⟩
  replace HV := Lib.hid (HV.out.keep hb30)
  replace HB := Lib.hid (Gen.over hb30 HB.out)
  clear hb30
  clear d48 f48 d49 f49
  have d50 := HV.out.c0 (.head _)
  have f50 := HV.out.c1 (.head _)
  go_wp2_with (fail)
  go_must (refine (rsame_to _ (HV.out.big (.head _)) (IsBig.zero _) rfl).mono ?_)
  rintro e W31 ⟨rfl, hb31⟩
  replace HV := Lib.hid (HV.out.keep hb31)
  replace HB := Lib.hid (Gen.over hb31 HB.out)
  clear hb31
  clear d50 f50
  go_wp2
  go_ret
  exact ⟨rfl, HB.out⟩
end
end Go.Proofs.YtnifkianjpjahaaDoor.Bg
