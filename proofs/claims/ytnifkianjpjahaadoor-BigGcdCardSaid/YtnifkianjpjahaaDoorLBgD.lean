/- BigDivides returns true: all two big integers, right or not; the table of powers of ten as the text lays it. -/
import Derived.Test.YtnifkianjpjahaaDoorLBgO
namespace Go.Proofs.YtnifkianjpjahaaDoor.Bg
open Go.ChangeShapes Go.WideShapes Go.ChangeAt Go.RowKit Go.Proofs.YtnifkianjpjahaaDoor.Cell
set_option linter.unusedVariables false
set_option linter.unusedSimpArgs false

theorem Div_sgn {x y t : Int} {va vb : Value} (w : World) (hx : IsBig w va x) (hy : IsBig w vb y) (h0 : y ≠ 0) (ht : sg (dr x y) = t) :
    Calls Tryd.prog 19 #[va, vb] w fun e w' => ∃ A n c A' n' c', e = .returned (.tuple #[bigV (sg (dq x y)) A n c, bigV t A' n' c', .int .i64 0]) ∧ IsBig w' (bigV (sg (dq x y)) A n c) (dq x y) ∧ IsBig w' (bigV t A' n' c') (dr x y) ∧ Below w.heap.size w w' :=
  (Div_val w hx hy h0).mono fun e w' ⟨v1, v2, h1, h2, h3, h4⟩ => by
    obtain ⟨A, c, l, rfl, _⟩ := h2.ex
    obtain ⟨A', c', l', rfl, _⟩ := h3.ex
    subst ht
    exact ⟨A, l.length, c, A', l'.length, c', h1, h2, h3, h4⟩
theorem dr_sz {x y : Int} {k : Nat} (h0 : y ≠ 0) (h : Sz k y) : Sz k (dr x y) := by
  have h1 := dr_in (x := x) h0
  unfold Sz at *
  by_cases hp : 0 < y
  · have := h1.1 hp
    omega
  · have := h1.2 (by omega)
    omega

section
variable {s0 s1 : Int} {A0 A1 : Option Addr} {n0 c0 n1 c1 : Nat} {l0 l1 : List Int}
set_option maxRecDepth 100000 in
set_option maxHeartbeats 16000000 in
theorem divides_any (w : World) (hT : PowTab w) (b0 : Arg w (bigV s0 A0 n0 c0) n0 s0 l0) (b1 : Arg w (bigV s1 A1 n1 c1) n1 s1 l1) :
    Calls Tryd.prog 5 #[bigV s0 A0 n0 c0, bigV s1 A1 n1 c1] w fun e w' => e = .returned (.bool true) ∧ Below w.heap.size w w' := by
  have HB := Lib.hid (box2_bl (w := w) (s := s0) (A := A0) (n := n0) (c := c0) (s' := s1) (A' := A1) (n' := n1) (c' := c1))
  have R0 := Lib.hid (box2_r0 (w := w) (s := s0) (A := A0) (n := n0) (c := c0) (s' := s1) (A' := A1) (n' := n1) (c' := c1))
  have R1 := Lib.hid (box2_r1 (w := w) (s := s0) (A := A0) (n := n0) (c := c0) (s' := s1) (A' := A1) (n' := n1) (c' := c1))
  have HA0 := Lib.hid (b0.keep HB.out)
  have HA1 := Lib.hid (b1.keep HB.out)
  have HT := Lib.hid (hT.keep HB.out)
  unfold box2 at HB HT R0 HA0 R1 HA1
  clear hT b0 b1
  go_enter Tryd.func5, Tryd.ntmps5
  go_wp2_with (fail)
  go_must (refine (small_yes _ HT.out).mono ?_)
  rintro e W1 ⟨rfl, hb1⟩
  replace HB := Lib.hid (Gen.over hb1 HB.out)
  replace HA0 := Lib.hid (HA0.out.keep hb1)
  replace R0 := Lib.hid (R0.out.keep hb1)
  replace HA1 := Lib.hid (HA1.out.keep hb1)
  replace R1 := Lib.hid (R1.out.keep hb1)
  clear hb1
  clear HT
  by_cases hq0 : (n0 : Int) ≤ 40
  rotate_left
  · have HQ := Lib.hid hq0
    clear hq0
    have p0 := R0.out.cell 0
    have p1 := R0.out.cell 1
    go_wp2_with (fail)
    go_must (refine (HA0.out.few _ false (decide_eq_false (by have := HQ.out; omega))).mono ?_)
    rintro e W2 ⟨rfl, hb2⟩
    replace HB := Lib.hid (Gen.over hb2 HB.out)
    clear hb2
    clear p0 p1
    go_wp2
    go_ret
    exact ⟨rfl, HB.out⟩
  have HQ0 := Lib.hid hq0
  clear hq0
  have p0 := R0.out.cell 0
  have p1 := R0.out.cell 1
  go_wp2_with (fail)
  go_must (refine (HA0.out.few _ true (decide_eq_true HQ0.out)).mono ?_)
  rintro e W2 ⟨rfl, hb2⟩
  replace HB := Lib.hid (Gen.over hb2 HB.out)
  replace HA0 := Lib.hid (HA0.out.keep hb2)
  replace R0 := Lib.hid (R0.out.keep hb2)
  replace HA1 := Lib.hid (HA1.out.keep hb2)
  replace R1 := Lib.hid (R1.out.keep hb2)
  clear hb2
  clear p0 p1
  by_cases hq1 : (n1 : Int) ≤ 40
  rotate_left
  · have HQ := Lib.hid hq1
    clear hq1
    have p0 := R1.out.cell 0
    have p1 := R1.out.cell 1
    go_wp2_with (fail)
    go_must (refine (HA1.out.few _ false (decide_eq_false (by have := HQ.out; omega))).mono ?_)
    rintro e W3 ⟨rfl, hb3⟩
    replace HB := Lib.hid (Gen.over hb3 HB.out)
    clear hb3
    clear p0 p1
    go_wp2
    go_ret
    exact ⟨rfl, HB.out⟩
  have HQ1 := Lib.hid hq1
  clear hq1
  have p0 := R1.out.cell 0
  have p1 := R1.out.cell 1
  go_wp2_with (fail)
  go_must (refine (HA1.out.few _ true (decide_eq_true HQ1.out)).mono ?_)
  rintro e W3 ⟨rfl, hb3⟩
  replace HB := Lib.hid (Gen.over hb3 HB.out)
  replace HA0 := Lib.hid (HA0.out.keep hb3)
  replace R0 := Lib.hid (R0.out.keep hb3)
  replace HA1 := Lib.hid (HA1.out.keep hb3)
  replace R1 := Lib.hid (R1.out.keep hb3)
  clear hb3
  clear p0 p1
  cases hr0 : rgtB s0 l0
  · have HQ := Lib.hid hr0
    clear hr0
    have p0 := R0.out.cell 0
    have p1 := R0.out.cell 1
    go_wp2_with (fail)
    go_must (refine (HA0.out.right false HQ.out).mono ?_)
    rintro e W4 ⟨rfl, hb4⟩
    replace HB := Lib.hid (Gen.over hb4 HB.out)
    clear hb4
    clear p0 p1
    go_wp2
    go_ret
    exact ⟨rfl, HB.out⟩
  have HG0 := Lib.hid hr0
  clear hr0
  have p0 := R0.out.cell 0
  have p1 := R0.out.cell 1
  go_wp2_with (fail)
  go_must (refine (HA0.out.right true HG0.out).mono ?_)
  rintro e W4 ⟨rfl, hb4⟩
  replace HB := Lib.hid (Gen.over hb4 HB.out)
  replace HA0 := Lib.hid (HA0.out.keep hb4)
  replace R0 := Lib.hid (R0.out.keep hb4)
  replace HA1 := Lib.hid (HA1.out.keep hb4)
  replace R1 := Lib.hid (R1.out.keep hb4)
  clear hb4
  clear p0 p1
  cases hr1 : rgtB s1 l1
  · have HQ := Lib.hid hr1
    clear hr1
    have p0 := R1.out.cell 0
    have p1 := R1.out.cell 1
    go_wp2_with (fail)
    go_must (refine (HA1.out.right false HQ.out).mono ?_)
    rintro e W5 ⟨rfl, hb5⟩
    replace HB := Lib.hid (Gen.over hb5 HB.out)
    clear hb5
    clear p0 p1
    go_wp2
    go_ret
    exact ⟨rfl, HB.out⟩
  have HG1 := Lib.hid hr1
  clear hr1
  have p0 := R1.out.cell 0
  have p1 := R1.out.cell 1
  go_wp2_with (fail)
  go_must (refine (HA1.out.right true HG1.out).mono ?_)
  rintro e W5 ⟨rfl, hb5⟩
  replace HB := Lib.hid (Gen.over hb5 HB.out)
  replace HA0 := Lib.hid (HA0.out.keep hb5)
  replace R0 := Lib.hid (R0.out.keep hb5)
  replace HA1 := Lib.hid (HA1.out.keep hb5)
  replace R1 := Lib.hid (R1.out.keep hb5)
  clear hb5
  clear p0 p1
  obtain ⟨x0, hx0, hs0, hz0⟩ := HA0.out.big HG0.out
  have HX0 := Lib.hid hx0
  have HSG0 := Lib.hid hs0
  have HZ0 := Lib.hid (hz0 40 (by have := HQ0.out; omega))
  clear hx0 hs0 hz0
  obtain ⟨x1, hx1, hs1, hz1⟩ := HA1.out.big HG1.out
  have HX1 := Lib.hid hx1
  have HSG1 := Lib.hid hs1
  have HZ1 := Lib.hid (hz1 40 (by have := HQ1.out; omega))
  clear hx1 hs1 hz1
  have HV := Lib.hid (Vs.cons (Vs.cons (Vs.nil W5) R0.out HX0.out) R1.out HX1.out)
  clear HA0 R0 HX0 HG0 HQ0 HA1 R1 HX1 HG1 HQ1
  by_cases h0 : x1 = 0
  · have h1 : s1 = 0 := by rw [HSG1.out, h0]; rfl
    subst h1
    have H0 := Lib.hid h0
    clear h0
    have d1 := HV.out.c0 (.tail _ (.head _))
    have f1 := HV.out.c1 (.tail _ (.head _))
    have d2 := HV.out.c0 (.head _)
    have f2 := HV.out.c1 (.head _)
    go_wp2_with (fail)
    go_must (refine (Div_zero _ (HV.out.big (.tail _ (.head _))) (HV.out.big (.head _)) H0.out).mono ?_)
    rintro e W6 ⟨rfl, hb6⟩
    replace HV := Lib.hid (HV.out.keep hb6)
    replace HB := Lib.hid (Gen.over hb6 HB.out)
    clear hb6
    clear d1 f1 d2 f2
    replace HV := Lib.hid (HV.out.ad (IsBig.zero _))
    replace HB := Lib.hid (below_ad HB.out (IsBig.zero _))
    replace HV := Lib.hid (HV.out.ad (IsBig.zero _))
    replace HB := Lib.hid (below_ad HB.out (IsBig.zero _))
    simp only [World.size_alloc] at HV
    have z0 := HV.out.c0 (.tail _ (.tail _ (.head _)))
    have d3 := HV.out.c0 (.tail _ (.head _))
    have f3 := HV.out.c1 (.tail _ (.head _))
    go_wp2_with (fail)
    go_must (refine (same_to _ (HV.out.big (.tail _ (.head _))) (IsBig.zero _) rfl).mono ?_)
    rintro e W7 ⟨rfl, hb7⟩
    replace HV := Lib.hid (HV.out.keep hb7)
    replace HB := Lib.hid (Gen.over hb7 HB.out)
    clear hb7
    clear d3 f3
    clear z0
    have d4 := HV.out.c0 (.head _)
    have f4 := HV.out.c1 (.head _)
    go_wp2_with (fail)
    go_must (refine (same_to _ (HV.out.big (.head _)) (IsBig.zero _) rfl).mono ?_)
    rintro e W8 ⟨rfl, hb8⟩
    replace HV := Lib.hid (HV.out.keep hb8)
    replace HB := Lib.hid (Gen.over hb8 HB.out)
    clear hb8
    clear d4 f4
    go_wp2
    go_ret
    exact ⟨rfl, HB.out⟩
  obtain ⟨t, ht⟩ : ∃ t, sg (dr x0 x1) = t := ⟨_, rfl⟩
  have hs : (s1 == 0) = false := by
    have h1 := sg_cases x1
    rw [HSG1.out]
    simp
    omega
  have HT := Lib.hid ht
  have H0 := Lib.hid h0
  have ZR := Lib.hid (dr_sz (x := x0) h0 HZ1.out)
  have ZD := Lib.hid ((HZ0.out.sub ZR.out (n := 41) (by omega)))
  clear h0 ht
  have d1 := HV.out.c0 (.tail _ (.head _))
  have f1 := HV.out.c1 (.tail _ (.head _))
  have d2 := HV.out.c0 (.head _)
  have f2 := HV.out.c1 (.head _)
  go_wp2_with (fail)
  go_must (refine (Div_sgn _ (HV.out.big (.tail _ (.head _))) (HV.out.big (.head _)) H0.out HT.out).mono ?_)
  rintro e W6 ⟨Av6, nv6, cv6, Au6, nu6, cu6, rfl, hv6, hu6, hb6⟩
  replace HV := Lib.hid (HV.out.keep hb6)
  replace HB := Lib.hid (Gen.over hb6 HB.out)
  have Hv6 := Lib.hid hv6
  clear hv6
  have Hu6 := Lib.hid hu6
  clear hu6
  clear hb6
  clear d1 f1 d2 f2
  replace Hu6 := Lib.hid (keep_ad Hu6.out Hv6.out)
  replace HV := Lib.hid (HV.out.ad Hv6.out)
  replace HB := Lib.hid (below_ad HB.out Hv6.out)
  replace HV := Lib.hid (HV.out.ad Hu6.out)
  replace HB := Lib.hid (below_ad HB.out Hu6.out)
  clear Hu6
  simp only [World.size_alloc] at HV
  have z0 := HV.out.c0 (.tail _ (.tail _ (.head _)))
  have d3 := HV.out.c0 (.tail _ (.head _))
  have f3 := HV.out.c1 (.tail _ (.head _))
  have d4 := HV.out.c0 (.tail _ (.tail _ (.head _)))
  have f4 := HV.out.c1 (.tail _ (.tail _ (.head _)))
  go_wp2_with (fail)
  go_must (refine (mul_to (z := x0 - dr x0 x1) _ (HV.out.big (.tail _ (.head _))) (HV.out.big (.tail _ (.tail _ (.head _)))) (by have := dq_dr x0 x1; omega) ZD.out.fit).mono ?_)
  rintro e W7 ⟨v7, rfl, hv7, hb7⟩
  replace HV := Lib.hid (HV.out.keep hb7)
  replace HB := Lib.hid (Gen.over hb7 HB.out)
  obtain ⟨Av7, cv7, lv7, rfl, _⟩ := hv7.ex
  obtain ⟨nv7, hnv7⟩ : ∃ n, lv7.length = n := ⟨_, rfl⟩
  rw [hnv7] at hv7 ⊢
  have Hv7 := Lib.hid hv7
  clear hnv7 hv7
  clear hb7
  clear d3 f3 d4 f4
  clear z0 hs
  replace HV := Lib.hid (HV.out.ad Hv7.out)
  replace HB := Lib.hid (below_ad HB.out Hv7.out)
  have d5 := HV.out.c0 (.head _)
  have f5 := HV.out.c1 (.head _)
  have d6 := HV.out.c0 (.tail _ (.head _))
  have f6 := HV.out.c1 (.tail _ (.head _))
  go_wp2_with (fail)
  go_must (refine (add_to (z := x0) _ (HV.out.big (.head _)) (HV.out.big (.tail _ (.head _))) (by omega) HZ0.out.fit).mono ?_)
  rintro e W8 ⟨v8, rfl, hv8, hb8⟩
  replace HV := Lib.hid (HV.out.keep hb8)
  replace HB := Lib.hid (Gen.over hb8 HB.out)
  obtain ⟨Av8, cv8, lv8, rfl, _⟩ := hv8.ex
  obtain ⟨nv8, hnv8⟩ : ∃ n, lv8.length = n := ⟨_, rfl⟩
  rw [hnv8] at hv8 ⊢
  have Hv8 := Lib.hid hv8
  clear hnv8 hv8
  clear hb8
  clear d5 f5 d6 f6
  replace HV := Lib.hid (HV.out.ad Hv8.out)
  replace HB := Lib.hid (below_ad HB.out Hv8.out)
  have d7 := HV.out.c0 (.tail _ (.tail _ (.tail _ (.head _))))
  have f7 := HV.out.c1 (.tail _ (.tail _ (.tail _ (.head _))))
  go_wp2_with (fail)
  go_must (refine (right_val (HV.out.big (.tail _ (.tail _ (.tail _ (.head _)))))).mono ?_)
  rintro e W9 ⟨rfl, hb9⟩
  replace HV := Lib.hid (HV.out.keep hb9)
  replace HB := Lib.hid (Gen.over hb9 HB.out)
  clear hb9
  clear d7 f7
  have d8 := HV.out.c0 (.tail _ (.tail _ (.head _)))
  have f8 := HV.out.c1 (.tail _ (.tail _ (.head _)))
  go_wp2_with (fail)
  go_must (refine (right_val (HV.out.big (.tail _ (.tail _ (.head _))))).mono ?_)
  rintro e W10 ⟨rfl, hb10⟩
  replace HV := Lib.hid (HV.out.keep hb10)
  replace HB := Lib.hid (Gen.over hb10 HB.out)
  clear hb10
  clear d8 f8
  have d9 := HV.out.c0 (.head _)
  have f9 := HV.out.c1 (.head _)
  have d10 := HV.out.c0 (.tail _ (.tail _ (.tail _ (.tail _ (.tail _ (.head _))))))
  have f10 := HV.out.c1 (.tail _ (.tail _ (.tail _ (.tail _ (.tail _ (.head _))))))
  go_wp2_with (fail)
  go_must (refine (same_to _ (HV.out.big (.head _)) (HV.out.big (.tail _ (.tail _ (.tail _ (.tail _ (.tail _ (.head _))))))) rfl).mono ?_)
  rintro e W11 ⟨rfl, hb11⟩
  replace HV := Lib.hid (HV.out.keep hb11)
  replace HB := Lib.hid (Gen.over hb11 HB.out)
  clear hb11
  clear d9 f9 d10 f10
  have hdr := dr_in (x := x0) H0.out
  have hsx := sg_cases x1
  have hst := sg_cases (dr x0 x1)
  rw [HT.out] at hst
  rw [← HSG1.out] at hsx
  by_cases hp : 0 < x1
  · have h1 : s1 = 1 := by have := H0.out; omega
    subst h1
    have hd := hdr.1 hp
    have ht : t = 0 ∨ t = 1 := by omega
    have HC : Hid (cmpI (dr x0 x1) x1 = -1) := Lib.hid (cmpI_lt (by omega))
    clear hdr hsx hst hp hd
    rcases ht with rfl | rfl
    all_goals
      have d900 := HV.out.c0 (.tail _ (.tail _ (.head _)))
      have f900 := HV.out.c1 (.tail _ (.tail _ (.head _)))
      have d901 := HV.out.c0 (.tail _ (.tail _ (.tail _ (.tail _ (.head _)))))
      have f901 := HV.out.c1 (.tail _ (.tail _ (.tail _ (.tail _ (.head _)))))
      go_wp2_with (fail)
      go_must (refine (cmp_to _ (HV.out.big (.tail _ (.tail _ (.head _)))) (HV.out.big (.tail _ (.tail _ (.tail _ (.tail _ (.head _)))))) HC.out).mono ?_)
      rintro e Wy ⟨rfl, hb⟩
      replace HV := Lib.hid (HV.out.keep hb)
      replace HB := Lib.hid (Gen.over hb HB.out)
      clear hb d900 f900 d901 f901
      have d900 := HV.out.c0 (.tail _ (.tail _ (.head _)))
      have f900 := HV.out.c1 (.tail _ (.tail _ (.head _)))
      have d901 := HV.out.c0 (.tail _ (.tail _ (.tail _ (.tail _ (.head _)))))
      have f901 := HV.out.c1 (.tail _ (.tail _ (.tail _ (.tail _ (.head _)))))
      go_wp2
      go_ret
      exact ⟨rfl, HB.out⟩
  · have h1 : s1 = -1 := by have := H0.out; omega
    subst h1
    have hd := hdr.2 (by have := H0.out; omega)
    have ht : t = 0 ∨ t = -1 := by omega
    have HC : Hid (cmpI (dr x0 x1) x1 = 1) := Lib.hid (cmpI_gt (by omega))
    clear hdr hsx hst hp hd
    rcases ht with rfl | rfl
    all_goals
      have d900 := HV.out.c0 (.tail _ (.tail _ (.head _)))
      have f900 := HV.out.c1 (.tail _ (.tail _ (.head _)))
      have d901 := HV.out.c0 (.tail _ (.tail _ (.tail _ (.tail _ (.head _)))))
      have f901 := HV.out.c1 (.tail _ (.tail _ (.tail _ (.tail _ (.head _)))))
      go_wp2_with (fail)
      go_must (refine (cmp_to _ (HV.out.big (.tail _ (.tail _ (.head _)))) (HV.out.big (.tail _ (.tail _ (.tail _ (.tail _ (.head _)))))) HC.out).mono ?_)
      rintro e Wy ⟨rfl, hb⟩
      replace HV := Lib.hid (HV.out.keep hb)
      replace HB := Lib.hid (Gen.over hb HB.out)
      clear hb d900 f900 d901 f901
      have d900 := HV.out.c0 (.tail _ (.tail _ (.head _)))
      have f900 := HV.out.c1 (.tail _ (.tail _ (.head _)))
      have d901 := HV.out.c0 (.tail _ (.tail _ (.tail _ (.tail _ (.head _)))))
      have f901 := HV.out.c1 (.tail _ (.tail _ (.tail _ (.tail _ (.head _)))))
      go_wp2_with (fail)
      go_must (refine (cmp_to _ (HV.out.big (.tail _ (.tail _ (.head _)))) (HV.out.big (.tail _ (.tail _ (.tail _ (.tail _ (.head _)))))) HC.out).mono ?_)
      rintro e Wz ⟨rfl, hb⟩
      replace HV := Lib.hid (HV.out.keep hb)
      replace HB := Lib.hid (Gen.over hb HB.out)
      clear hb d900 f900 d901 f901
      have d900 := HV.out.c0 (.tail _ (.tail _ (.head _)))
      have f900 := HV.out.c1 (.tail _ (.tail _ (.head _)))
      have d901 := HV.out.c0 (.tail _ (.tail _ (.tail _ (.tail _ (.head _)))))
      have f901 := HV.out.c1 (.tail _ (.tail _ (.tail _ (.tail _ (.head _)))))
      go_wp2
      go_ret
      exact ⟨rfl, HB.out⟩
end
end Go.Proofs.YtnifkianjpjahaaDoor.Bg
