/- BigGcd returns true: all three big integers, right or not; the table of powers of ten as the text lays it. -/
import Derived.Test.YtnifkianjpjahaaDoorBhQ
namespace Go.Proofs.YtnifkianjpjahaaDoor.Bg
open Go.ChangeShapes Go.WideShapes Go.ChangeAt Go.RowKit Go.Proofs.YtnifkianjpjahaaDoor.Cell
set_option linter.unusedVariables false
set_option linter.unusedSimpArgs false

section
variable {s0 s1 s2 : Int} {A0 A1 A2 : Option Addr} {n0 c0 n1 c1 n2 c2 : Nat} {l0 l1 l2 : List Int}
set_option maxRecDepth 100000 in
set_option maxHeartbeats 16000000 in
theorem lgcd_A (w : World) (hT : PowTab w) (b0 : Arg w (bigV s0 A0 n0 c0) n0 s0 l0) (b1 : Arg w (bigV s1 A1 n1 c1) n1 s1 l1) (b2 : Arg w (bigV s2 A2 n2 c2) n2 s2 l2) (hcs : s0 = 0 ∧ s1 = 0) :
    Calls Tryd.prog 6 #[bigV s0 A0 n0 c0, bigV s1 A1 n1 c1, bigV s2 A2 n2 c2] w fun e w' => e = .returned (.bool true) ∧ Below w.heap.size w w' := by
  have HCS := Lib.hid hcs
  clear hcs
  have HB := Lib.hid (bx3_b w #[.int .i64 s0, .slice A0 n0 c0] #[.int .i64 s1, .slice A1 n1 c1] #[.int .i64 s2, .slice A2 n2 c2])
  have R0 := Lib.hid (bx3_0 w #[.int .i64 s0, .slice A0 n0 c0] #[.int .i64 s1, .slice A1 n1 c1] #[.int .i64 s2, .slice A2 n2 c2])
  have R1 := Lib.hid (bx3_1 w #[.int .i64 s0, .slice A0 n0 c0] #[.int .i64 s1, .slice A1 n1 c1] #[.int .i64 s2, .slice A2 n2 c2])
  have R2 := Lib.hid (bx3_2 w #[.int .i64 s0, .slice A0 n0 c0] #[.int .i64 s1, .slice A1 n1 c1] #[.int .i64 s2, .slice A2 n2 c2])
  have HA0 := Lib.hid (b0.keep HB.out)
  have HA1 := Lib.hid (b1.keep HB.out)
  have HA2 := Lib.hid (b2.keep HB.out)
  have HT := Lib.hid (hT.keep HB.out)
  unfold bx3 at HB HT R0 HA0 R1 HA1 R2 HA2
  clear hT b0 b1 b2
  go_enter Tryd.func6, Tryd.ntmps6
  go_wp2_with (fail)
  go_must (refine (small_yes _ HT.out).mono ?_)
  rintro e W1 ⟨rfl, hb1⟩
  replace HB := Lib.hid (Gen.over hb1 HB.out)
  replace HA0 := Lib.hid (HA0.out.keep hb1)
  replace R0 := Lib.hid (R0.out.keep hb1)
  replace HA1 := Lib.hid (HA1.out.keep hb1)
  replace R1 := Lib.hid (R1.out.keep hb1)
  replace HA2 := Lib.hid (HA2.out.keep hb1)
  replace R2 := Lib.hid (R2.out.keep hb1)
  clear hb1
  clear HT
  by_cases hq0 : (n0 : Int) ≤ 12
  rotate_left
  · have HQ := Lib.hid hq0
    clear hq0
    have p0 := R0.out.cell 0
    have p1 := R0.out.cell 1
    go_wp2_with (fail)
    go_must (refine (HA0.out.few _ false (decide_eq_false (by have := HQ.out; omega))).mono ?_)
    rintro e W2 ⟨rfl, hb2⟩
    replace HB := Lib.hid (Gen.over hb2 HB.out)
    clear hb2
    clear p0 p1
    go_wp2
    go_ret
    exact ⟨rfl, HB.out⟩
  have HQ0 := Lib.hid hq0
  clear hq0
  have p0 := R0.out.cell 0
  have p1 := R0.out.cell 1
  go_wp2_with (fail)
  go_must (refine (HA0.out.few _ true (decide_eq_true HQ0.out)).mono ?_)
  rintro e W2 ⟨rfl, hb2⟩
  replace HB := Lib.hid (Gen.over hb2 HB.out)
  replace HA0 := Lib.hid (HA0.out.keep hb2)
  replace R0 := Lib.hid (R0.out.keep hb2)
  replace HA1 := Lib.hid (HA1.out.keep hb2)
  replace R1 := Lib.hid (R1.out.keep hb2)
  replace HA2 := Lib.hid (HA2.out.keep hb2)
  replace R2 := Lib.hid (R2.out.keep hb2)
  clear hb2
  clear p0 p1
  by_cases hq1 : (n1 : Int) ≤ 12
  rotate_left
  · have HQ := Lib.hid hq1
    clear hq1
    have p0 := R1.out.cell 0
    have p1 := R1.out.cell 1
    go_wp2_with (fail)
    go_must (refine (HA1.out.few _ false (decide_eq_false (by have := HQ.out; omega))).mono ?_)
    rintro e W3 ⟨rfl, hb3⟩
    replace HB := Lib.hid (Gen.over hb3 HB.out)
    clear hb3
    clear p0 p1
    go_wp2
    go_ret
    exact ⟨rfl, HB.out⟩
  have HQ1 := Lib.hid hq1
  clear hq1
  have p0 := R1.out.cell 0
  have p1 := R1.out.cell 1
  go_wp2_with (fail)
  go_must (refine (HA1.out.few _ true (decide_eq_true HQ1.out)).mono ?_)
  rintro e W3 ⟨rfl, hb3⟩
  replace HB := Lib.hid (Gen.over hb3 HB.out)
  replace HA0 := Lib.hid (HA0.out.keep hb3)
  replace R0 := Lib.hid (R0.out.keep hb3)
  replace HA1 := Lib.hid (HA1.out.keep hb3)
  replace R1 := Lib.hid (R1.out.keep hb3)
  replace HA2 := Lib.hid (HA2.out.keep hb3)
  replace R2 := Lib.hid (R2.out.keep hb3)
  clear hb3
  clear p0 p1
  by_cases hq2 : (n2 : Int) ≤ 4
  rotate_left
  · have HQ := Lib.hid hq2
    clear hq2
    have p0 := R2.out.cell 0
    have p1 := R2.out.cell 1
    go_wp2_with (fail)
    go_must (refine (HA2.out.few _ false (decide_eq_false (by have := HQ.out; omega))).mono ?_)
    rintro e W4 ⟨rfl, hb4⟩
    replace HB := Lib.hid (Gen.over hb4 HB.out)
    clear hb4
    clear p0 p1
    go_wp2
    go_ret
    exact ⟨rfl, HB.out⟩
  have HQ2 := Lib.hid hq2
  clear hq2
  have p0 := R2.out.cell 0
  have p1 := R2.out.cell 1
  go_wp2_with (fail)
  go_must (refine (HA2.out.few _ true (decide_eq_true HQ2.out)).mono ?_)
  rintro e W4 ⟨rfl, hb4⟩
  replace HB := Lib.hid (Gen.over hb4 HB.out)
  replace HA0 := Lib.hid (HA0.out.keep hb4)
  replace R0 := Lib.hid (R0.out.keep hb4)
  replace HA1 := Lib.hid (HA1.out.keep hb4)
  replace R1 := Lib.hid (R1.out.keep hb4)
  replace HA2 := Lib.hid (HA2.out.keep hb4)
  replace R2 := Lib.hid (R2.out.keep hb4)
  clear hb4
  clear p0 p1
  cases hr0 : rgtB s0 l0
  · have HQ := Lib.hid hr0
    clear hr0
    have p0 := R0.out.cell 0
    have p1 := R0.out.cell 1
    go_wp2_with (fail)
    go_must (refine (HA0.out.right false HQ.out).mono ?_)
    rintro e W5 ⟨rfl, hb5⟩
    replace HB := Lib.hid (Gen.over hb5 HB.out)
    clear hb5
    clear p0 p1
    go_wp2
    go_ret
    exact ⟨rfl, HB.out⟩
  have HG0 := Lib.hid hr0
  clear hr0
  have p0 := R0.out.cell 0
  have p1 := R0.out.cell 1
  go_wp2_with (fail)
  go_must (refine (HA0.out.right true HG0.out).mono ?_)
  rintro e W5 ⟨rfl, hb5⟩
  replace HB := Lib.hid (Gen.over hb5 HB.out)
  replace HA0 := Lib.hid (HA0.out.keep hb5)
  replace R0 := Lib.hid (R0.out.keep hb5)
  replace HA1 := Lib.hid (HA1.out.keep hb5)
  replace R1 := Lib.hid (R1.out.keep hb5)
  replace HA2 := Lib.hid (HA2.out.keep hb5)
  replace R2 := Lib.hid (R2.out.keep hb5)
  clear hb5
  clear p0 p1
  cases hr1 : rgtB s1 l1
  · have HQ := Lib.hid hr1
    clear hr1
    have p0 := R1.out.cell 0
    have p1 := R1.out.cell 1
    go_wp2_with (fail)
    go_must (refine (HA1.out.right false HQ.out).mono ?_)
    rintro e W6 ⟨rfl, hb6⟩
    replace HB := Lib.hid (Gen.over hb6 HB.out)
    clear hb6
    clear p0 p1
    go_wp2
    go_ret
    exact ⟨rfl, HB.out⟩
  have HG1 := Lib.hid hr1
  clear hr1
  have p0 := R1.out.cell 0
  have p1 := R1.out.cell 1
  go_wp2_with (fail)
  go_must (refine (HA1.out.right true HG1.out).mono ?_)
  rintro e W6 ⟨rfl, hb6⟩
  replace HB := Lib.hid (Gen.over hb6 HB.out)
  replace HA0 := Lib.hid (HA0.out.keep hb6)
  replace R0 := Lib.hid (R0.out.keep hb6)
  replace HA1 := Lib.hid (HA1.out.keep hb6)
  replace R1 := Lib.hid (R1.out.keep hb6)
  replace HA2 := Lib.hid (HA2.out.keep hb6)
  replace R2 := Lib.hid (R2.out.keep hb6)
  clear hb6
  clear p0 p1
  cases hr2 : rgtB s2 l2
  · have HQ := Lib.hid hr2
    clear hr2
    have p0 := R2.out.cell 0
    have p1 := R2.out.cell 1
    go_wp2_with (fail)
    go_must (refine (HA2.out.right false HQ.out).mono ?_)
    rintro e W7 ⟨rfl, hb7⟩
    replace HB := Lib.hid (Gen.over hb7 HB.out)
    clear hb7
    clear p0 p1
    go_wp2
    go_ret
    exact ⟨rfl, HB.out⟩
  have HG2 := Lib.hid hr2
  clear hr2
  have p0 := R2.out.cell 0
  have p1 := R2.out.cell 1
  go_wp2_with (fail)
  go_must (refine (HA2.out.right true HG2.out).mono ?_)
  rintro e W7 ⟨rfl, hb7⟩
  replace HB := Lib.hid (Gen.over hb7 HB.out)
  replace HA0 := Lib.hid (HA0.out.keep hb7)
  replace R0 := Lib.hid (R0.out.keep hb7)
  replace HA1 := Lib.hid (HA1.out.keep hb7)
  replace R1 := Lib.hid (R1.out.keep hb7)
  replace HA2 := Lib.hid (HA2.out.keep hb7)
  replace R2 := Lib.hid (R2.out.keep hb7)
  clear hb7
  clear p0 p1
  obtain ⟨x0, hx0, hs0, hz0⟩ := HA0.out.big HG0.out
  have HX0 := Lib.hid hx0
  have HSG0 := Lib.hid hs0
  have HZ0 := Lib.hid (hz0 12 (by have := HQ0.out; omega))
  clear hx0 hs0 hz0
  obtain ⟨x1, hx1, hs1, hz1⟩ := HA1.out.big HG1.out
  have HX1 := Lib.hid hx1
  have HSG1 := Lib.hid hs1
  have HZ1 := Lib.hid (hz1 12 (by have := HQ1.out; omega))
  clear hx1 hs1 hz1
  obtain ⟨x2, hx2, hs2, hz2⟩ := HA2.out.big HG2.out
  have HX2 := Lib.hid hx2
  have HSG2 := Lib.hid hs2
  have HZ2 := Lib.hid (hz2 4 (by have := HQ2.out; omega))
  clear hx2 hs2 hz2
  have HV := Lib.hid (Vs.cons (Vs.cons (Vs.cons (Vs.nil W7) R0.out HX0.out) R1.out HX1.out) R2.out HX2.out)
  clear HA0 R0 HX0 HG0 HQ0 HA1 R1 HX1 HG1 HQ1 HA2 R2 HX2 HG2 HQ2
  have c0 := sg_cases x0
  have c1 := sg_cases x1
  have c2 := sg_cases x2
  rw [← HSG0.out] at c0
  rw [← HSG1.out] at c1
  rw [← HSG2.out] at c2
  have c3 := HCS.out
  obtain ⟨G, hG⟩ : ∃ G : Int, ((Int.gcd x0 x1 : Nat) : Int) = G := ⟨_, rfl⟩
  have c4 : G = 0 ↔ x0 = 0 ∧ x1 = 0 := by rw [← hG]; exact gcd_zero
  have c5 : G = 0 := c4.2 ⟨by omega, by omega⟩
  have HGs : Hid (sg G = 0) := Lib.hid (by rw [c5]; rfl)
  have HG := Lib.hid hG
  have HGz : Hid (Sz 13 G) := Lib.hid (by rw [← hG]; exact gcd_sz HZ0.out HZ1.out (by omega))
  have HGn : Hid (((Int.gcd (-x1) x0 : Nat) : Int) = G) := Lib.hid (by rw [gcd_negc]; exact hG)
  obtain ⟨Z, hZ⟩ : ∃ Z : Int, ((Int.gcd (x0 * x2) (x1 * x2) : Nat) : Int) = Z := ⟨_, rfl⟩
  have HZZ : Hid (Z = G * (x2.natAbs : Int)) := Lib.hid (by rw [← hZ, gcd_mul, hG])
  have HZ := Lib.hid hZ
  obtain ⟨tz, htz⟩ : ∃ t, sg Z = t := ⟨_, rfl⟩
  have HTZ := Lib.hid htz
  have c6 : s0 = 0 := c3.1
  have c7 : s1 = 0 := c3.2
  clear c0 c1 c3 c4 c5 hG hZ htz HCS
  have HC2 := Lib.hid c2
  clear c2
  subst c6
  subst c7
  have d1 := HV.out.c0 (.tail _ (.tail _ (.head _)))
  have f1 := HV.out.c1 (.tail _ (.tail _ (.head _)))
  have d2 := HV.out.c0 (.tail _ (.head _))
  have f2 := HV.out.c1 (.tail _ (.head _))
  go_wp2_with (fail)
  go_must (refine (Gcd_to _ (HV.out.big (.tail _ (.tail _ (.head _)))) (HV.out.big (.tail _ (.head _))) HG.out HGs.out).mono ?_)
  rintro e W8 ⟨Av8, nv8, cv8, rfl, hv8, hb8⟩
  replace HV := Lib.hid (HV.out.keep hb8)
  replace HB := Lib.hid (Gen.over hb8 HB.out)
  have Hv8 := Lib.hid hv8
  clear hv8
  clear hb8
  clear d1 f1 d2 f2
  replace HV := Lib.hid (HV.out.ad Hv8.out)
  replace HB := Lib.hid (below_ad HB.out Hv8.out)
  go_wp2_with (fail)
  generalize hWz : W8.alloc (.cells #[.int .i64 0, .slice Av8 nv8 cv8] 24) = Wz at HV HB ⊢
  clear hWz
  have HS0 : Hid (Below Wz.heap.size Wz Wz ∧ Wz.cell? ⟨w.heap.size + 1, 0, none⟩ = some (.int .i64 0) ∧ Wz.cell? ⟨w.heap.size + 1, 1, none⟩ = some (.slice A1 n1 c1) ∧ Wz.cell? ⟨w.heap.size, 0, none⟩ = some (.int .i64 0) ∧ Wz.cell? ⟨w.heap.size, 1, none⟩ = some (.slice A0 n0 c0)) := Lib.hid ⟨Below.refl _ _, HV.out.c0 (.tail _ (.tail _ (.head _))), HV.out.c1 (.tail _ (.tail _ (.head _))), HV.out.c0 (.tail _ (.tail _ (.tail _ (.head _)))), HV.out.c1 (.tail _ (.tail _ (.tail _ (.head _))))⟩
  have HPa := Lib.hid ((HV.out.row (.tail _ (.tail _ (.tail _ (.head _))))).lt)
  have HPb := Lib.hid ((HV.out.row (.tail _ (.tail _ (.head _)))).lt)
  have HXa := Lib.hid (HV.out.big (.tail _ (.tail _ (.tail _ (.head _)))))
  have HXb := Lib.hid (HV.out.big (.tail _ (.tail _ (.head _))))
  refine wp_join (RJ2 w 0 G (sg (-x1)) [(W8.heap.size, bigV 0 Av8 nv8 cv8, G), (w.heap.size + 1 + 1, bigV s2 A2 n2 c2, x2), (w.heap.size + 1, bigV 0 A1 n1 c1, x1), (w.heap.size, bigV 0 A0 n0 c0, x0)] (bigV 0 A1 n1 c1) (bigV 0 A0 n0 c0) 68 69 70 71 67 72 73 10 11) ?_ ?_
  · go_region_held3 (fun W' : World => Below Wz.heap.size Wz W' ∧ W'.cell? ⟨w.heap.size + 1, 0, none⟩ = some (.int .i64 0) ∧ W'.cell? ⟨w.heap.size + 1, 1, none⟩ = some (.slice A1 n1 c1) ∧ W'.cell? ⟨w.heap.size, 0, none⟩ = some (.int .i64 0) ∧ W'.cell? ⟨w.heap.size, 1, none⟩ = some (.slice A0 n0 c0))
      (first | exact hS8 | exact hS5 | exact ⟨HS0.out.1.drew, HS0.out.2⟩ | exact ⟨Gen.b_alloc (And.left (by assumption)), Gen.al (And.left (And.right (by assumption))), Gen.al (And.left (And.right (And.right (by assumption)))), Gen.al (And.left (And.right (And.right (And.right (by assumption))))), Gen.al (And.right (And.right (And.right (And.right (by assumption)))))⟩ | exact reg_put2 (by assumption) HPb.out HPa.out (by first | exact Nat.le_refl _ | exact hS8.1.size | exact hS5.1.size) | fail "keep")
      (first
        | (go_at_call 21; (with_reducible refine (neg_val _ (HXb.out.keep (And.left (by assumption)))).mono ?_); rintro e' w' ⟨vo, rfl, ho, hb1⟩; obtain ⟨Ao, co, lo, rfl, _⟩ := ho.ex; (try have hRw : Row w' Wz.heap.size 24 #[.int .i64 0, .slice none 0 0] := (rowd _ _ _).keep hb1); have hS5 := (show (Below Wz.heap.size Wz w' ∧ w'.cell? ⟨w.heap.size + 1, 0, none⟩ = some (.int .i64 0) ∧ w'.cell? ⟨w.heap.size + 1, 1, none⟩ = some (.slice A1 n1 c1) ∧ w'.cell? ⟨w.heap.size, 0, none⟩ = some (.int .i64 0) ∧ w'.cell? ⟨w.heap.size, 1, none⟩ = some (.slice A0 n0 c0)) from ⟨Gen.over hb1 (And.left (by assumption)), Gen.keep hb1 (And.left (And.right (by assumption))), Gen.keep hb1 (And.left (And.right (And.right (by assumption)))), Gen.keep hb1 (And.left (And.right (And.right (And.right (by assumption))))), Gen.keep hb1 (And.right (And.right (And.right (And.right (by assumption)))))⟩))
        | (go_at_call 20; (with_reducible refine (Gcd_to _ (by first | exact ho | exact ho.keep (Gen.b_alloc (Below.refl _ _))) (HXa.out.keep (And.left (by assumption))) HGn.out HGs.out).mono ?_); rintro e' w' ⟨Ar, nr, cr, rfl, hr, hb2⟩; (first | have hRw := Row.keep hRw hb2 | have hRw := (Row.new _ _ _).keep hb2 | have hRw := (rowd _ _ _).keep hb2 | skip); (try have fz0 := hRw.frozen 0); (try have fz1 := hRw.frozen 1); (try have cz0 := hRw.cell 0); (try have cz1 := hRw.cell 1); (try have hRl := hRw.lt); have hS8 := (show (Below Wz.heap.size Wz w' ∧ w'.cell? ⟨w.heap.size + 1, 0, none⟩ = some (.int .i64 0) ∧ w'.cell? ⟨w.heap.size + 1, 1, none⟩ = some (.slice A1 n1 c1) ∧ w'.cell? ⟨w.heap.size, 0, none⟩ = some (.int .i64 0) ∧ w'.cell? ⟨w.heap.size, 1, none⟩ = some (.slice A0 n0 c0)) from ⟨Gen.over hb2 (And.left (by assumption)), Gen.keep hb2 (And.left (And.right (by assumption))), Gen.keep hb2 (And.left (And.right (And.right (by assumption)))), Gen.keep hb2 (And.left (And.right (And.right (And.right (by assumption))))), Gen.keep hb2 (And.right (And.right (And.right (And.right (by assumption)))))⟩))
        | fail "arm")
    all_goals
      exact RJ2.mk' _ Ao lo.length co Ar nr cr (by simp only [upd, List.foldl, List.setIfInBounds_toArray, List.set_cons_zero, List.set_cons_succ] <;> rfl)
        (by first | exact Vs.ad (HV.out.keep hS8.1) hr | exact Vs.reg HV.out hS8.1 hS5.1.size hRw hr | exact Vs.reg HV.out hS8.1 (Nat.le_refl _) hRw hr)
        (Gen.over (And.left (by assumption)) HB.out)
  clear HS0 HPa HPb HXa HXb HV HB HGn
  rintro a2 Yh ⟨gh, Aoh, noh, coh, Ah, nh, ch, rfl, HV, HB⟩
  simp only [upd, List.foldl, List.setIfInBounds_toArray, List.set_cons_zero, List.set_cons_succ]
  have d3 := HV.out.c0 (.tail _ (.head _))
  have f3 := HV.out.c1 (.tail _ (.head _))
  have d4 := HV.out.c0 (.head _)
  have f4 := HV.out.c1 (.head _)
  go_wp2_with (fail)
  go_must (refine (same_to _ (HV.out.big (.tail _ (.head _))) (HV.out.big (.head _)) rfl).mono ?_)
  rintro e W9 ⟨rfl, hb9⟩
  replace HV := Lib.hid (HV.out.keep hb9)
  replace HB := Lib.hid (Gen.over hb9 HB.out)
  clear hb9
  clear d3 f3 d4 f4
  have d5 := HV.out.c0 (.tail _ (.tail _ (.tail _ (.tail _ (.head _)))))
  have f5 := HV.out.c1 (.tail _ (.tail _ (.tail _ (.tail _ (.head _)))))
  have d6 := HV.out.c0 (.tail _ (.tail _ (.head _)))
  have f6 := HV.out.c1 (.tail _ (.tail _ (.head _)))
  have d7 := HV.out.c0 (.tail _ (.head _))
  have f7 := HV.out.c1 (.tail _ (.head _))
  have d8 := HV.out.c0 (.tail _ (.tail _ (.tail _ (.head _))))
  have f8 := HV.out.c1 (.tail _ (.tail _ (.tail _ (.head _))))
  go_wp2_with (fail)
  go_must (refine (mul_fit _ (HV.out.big (.tail _ (.tail _ (.tail _ (.tail _ (.head _)))))) (HV.out.big (.tail _ (.tail _ (.head _)))) ((HZ0.out.mul HZ2.out).fit)).mono ?_)
  rintro e W10 ⟨v10, rfl, hv10, hb10⟩
  replace HV := Lib.hid (HV.out.keep hb10)
  replace HB := Lib.hid (Gen.over hb10 HB.out)
  obtain ⟨Av10, cv10, lv10, rfl, _⟩ := hv10.ex
  obtain ⟨nv10, hnv10⟩ : ∃ n, lv10.length = n := ⟨_, rfl⟩
  rw [hnv10] at hv10 ⊢
  have Hv10 := Lib.hid hv10
  clear hnv10 hv10
  clear hb10
  clear d5 f5 d6 f6 d7 f7 d8 f8
  replace HV := Lib.hid (HV.out.ad Hv10.out)
  replace HB := Lib.hid (below_ad HB.out Hv10.out)
  try clear hs0 hs0n
  try clear hs1
  have d9 := HV.out.c0 (.tail _ (.tail _ (.tail _ (.tail _ (.head _)))))
  have f9 := HV.out.c1 (.tail _ (.tail _ (.tail _ (.tail _ (.head _)))))
  have d10 := HV.out.c0 (.tail _ (.tail _ (.tail _ (.head _))))
  have f10 := HV.out.c1 (.tail _ (.tail _ (.tail _ (.head _))))
  go_wp2_with (fail)
  go_must (refine (mul_fit _ (HV.out.big (.tail _ (.tail _ (.tail _ (.tail _ (.head _)))))) (HV.out.big (.tail _ (.tail _ (.tail _ (.head _))))) ((HZ1.out.mul HZ2.out).fit)).mono ?_)
  rintro e W11 ⟨v11, rfl, hv11, hb11⟩
  replace HV := Lib.hid (HV.out.keep hb11)
  replace HB := Lib.hid (Gen.over hb11 HB.out)
  obtain ⟨Av11, cv11, lv11, rfl, _⟩ := hv11.ex
  obtain ⟨nv11, hnv11⟩ : ∃ n, lv11.length = n := ⟨_, rfl⟩
  rw [hnv11] at hv11 ⊢
  have Hv11 := Lib.hid hv11
  clear hnv11 hv11
  clear hb11
  clear d9 f9 d10 f10
  replace HV := Lib.hid (HV.out.ad Hv11.out)
  replace HB := Lib.hid (below_ad HB.out Hv11.out)
  have d11 := HV.out.c0 (.tail _ (.head _))
  have f11 := HV.out.c1 (.tail _ (.head _))
  have d12 := HV.out.c0 (.head _)
  have f12 := HV.out.c1 (.head _)
  go_wp2_with (fail)
  go_must (refine (Gcd_to _ (HV.out.big (.tail _ (.head _))) (HV.out.big (.head _)) HZ.out HTZ.out).mono ?_)
  rintro e W12 ⟨Av12, nv12, cv12, rfl, hv12, hb12⟩
  replace HV := Lib.hid (HV.out.keep hb12)
  replace HB := Lib.hid (Gen.over hb12 HB.out)
  have Hv12 := Lib.hid hv12
  clear hv12
  clear hb12
  clear d11 f11 d12 f12
  replace HV := Lib.hid (HV.out.ad Hv12.out)
  replace HB := Lib.hid (below_ad HB.out Hv12.out)
  have d13 := HV.out.c0 (.tail _ (.tail _ (.tail _ (.tail _ (.head _)))))
  have f13 := HV.out.c1 (.tail _ (.tail _ (.tail _ (.tail _ (.head _)))))
  have d14 := HV.out.c0 (.tail _ (.tail _ (.tail _ (.tail _ (.tail _ (.head _))))))
  have f14 := HV.out.c1 (.tail _ (.tail _ (.tail _ (.tail _ (.tail _ (.head _))))))
  go_wp2_with (fail)
  go_must (refine (mul_fit _ (HV.out.big (.tail _ (.tail _ (.tail _ (.tail _ (.head _)))))) (HV.out.big (.tail _ (.tail _ (.tail _ (.tail _ (.tail _ (.head _))))))) ((HGz.out.mul HZ2.out).fit)).mono ?_)
  rintro e W13 ⟨v13, rfl, hv13, hb13⟩
  replace HV := Lib.hid (HV.out.keep hb13)
  replace HB := Lib.hid (Gen.over hb13 HB.out)
  obtain ⟨Av13, cv13, lv13, rfl, _⟩ := hv13.ex
  obtain ⟨nv13, hnv13⟩ : ∃ n, lv13.length = n := ⟨_, rfl⟩
  rw [hnv13] at hv13 ⊢
  have Hv13 := Lib.hid hv13
  clear hnv13 hv13
  clear hb13
  clear d13 f13 d14 f14
  have HSm := Lib.hid (Sp.of HV.out (.cells #[.int .i64 (sg (G * x2)), .slice Av13 nv13 cv13] 24))
  have HLm := Lib.hid HB.out.size
  replace HV := Lib.hid (HV.out.ad Hv13.out)
  replace HB := Lib.hid (below_ad HB.out Hv13.out)
  by_cases hc : x2 < 0
  · have h1 : s2 = -1 := by have := HC2.out; omega
    subst h1
    have HF : Hid (Z = -(G * x2)) := Lib.hid (by rw [HZZ.out, show (x2.natAbs : Int) = -x2 by omega, Int.mul_neg])
    clear hc
    have d15 := HV.out.c0 (.tail _ (.tail _ (.tail _ (.tail _ (.tail _ (.tail _ (.head _)))))))
    have f15 := HV.out.c1 (.tail _ (.tail _ (.tail _ (.tail _ (.tail _ (.tail _ (.head _)))))))
    have d16 := HV.out.c0 (.head _)
    have f16 := HV.out.c1 (.head _)
    go_wp2_with (fail)
    go_must (refine (neg_valU _ (HV.out.big (.head _))).mono ?_)
    rintro e W14 ⟨v14, rfl, hv14, hb14, ha14⟩
    have HOm_14 := Lib.hid (ha14.off HSm.out.lt)
    clear ha14
    replace HV := Lib.hid (HV.out.keep hb14)
    replace HSm := Lib.hid (HSm.out.keep hb14)
    replace HB := Lib.hid (Gen.over hb14 HB.out)
    obtain ⟨Av14, cv14, lv14, rfl, _⟩ := hv14.ex
    obtain ⟨nv14, hnv14⟩ : ∃ n, lv14.length = n := ⟨_, rfl⟩
    rw [hnv14] at hv14 ⊢
    rw [hnv14] at HOm_14
    have Hv14 := Lib.hid hv14
    clear hnv14 hv14
    clear hb14
    clear d16 f16
    clear d15 f15
    have HRm := Lib.hid (HV.out.row (.head _))
    have fr0 := HRm.out.frozen 0
    have fr1 := HRm.out.frozen 1
    have hlt := HRm.out.lt
    have e0 := HRm.out.cell 0
    have e1 := HRm.out.cell 1
    replace HV := Lib.hid (HV.out.put HRm.out Hv14.out HOm_14.out HSm.out.sep (.cons _ (.cons_cons _ (.cons_cons _ (.cons_cons _ (.cons_cons _ (.cons_cons _ (.cons_cons _ (.cons_cons _ (.cons_cons _ .slnil))))))))))
    replace HB := Lib.hid (below_set2 HB.out HLm.out (.int .i64 (sg (-(G * x2)))) (.slice Av14 nv14 cv14))
    clear HSm HRm Hv14
    have d17 := HV.out.c0 (.tail _ (.head _))
    have f17 := HV.out.c1 (.tail _ (.head _))
    have d18 := HV.out.c0 (.head _)
    have f18 := HV.out.c1 (.head _)
    go_wp2_with (fail)
    go_must (refine (same_to _ (HV.out.big (.tail _ (.head _))) (HV.out.big (.head _)) HF.out).mono ?_)
    rintro e W15 ⟨rfl, hb15⟩
    replace HV := Lib.hid (HV.out.keep hb15)
    replace HB := Lib.hid (Gen.over hb15 HB.out)
    clear hb15
    clear d17 f17 d18 f18
    go_wp2
    go_ret
    exact ⟨rfl, HB.out⟩
  · have h1 : ¬ s2 < 0 := by have := HC2.out; omega
    have HF : Hid (Z = G * x2) := Lib.hid (by rw [HZZ.out, show (x2.natAbs : Int) = x2 by omega])
    clear hc
    have d15 := HV.out.c0 (.tail _ (.head _))
    have f15 := HV.out.c1 (.tail _ (.head _))
    have d16 := HV.out.c0 (.head _)
    have f16 := HV.out.c1 (.head _)
    have d17 := HV.out.c0 (.tail _ (.tail _ (.tail _ (.tail _ (.tail _ (.tail _ (.head _)))))))
    have f17 := HV.out.c1 (.tail _ (.tail _ (.tail _ (.tail _ (.tail _ (.tail _ (.head _)))))))
    go_wp2_with (fail)
    go_must (refine (same_to _ (HV.out.big (.tail _ (.head _))) (HV.out.big (.head _)) HF.out).mono ?_)
    rintro e W14 ⟨rfl, hb14⟩
    replace HV := Lib.hid (HV.out.keep hb14)
    replace HSm := Lib.hid (HSm.out.keep hb14)
    replace HB := Lib.hid (Gen.over hb14 HB.out)
    clear hb14
    clear d15 f15 d16 f16 d17 f17
    go_wp2
    go_ret
    exact ⟨rfl, HB.out⟩
end
section
variable {s0 s1 s2 : Int} {A0 A1 A2 : Option Addr} {n0 c0 n1 c1 n2 c2 : Nat} {l0 l1 l2 : List Int}
set_option maxRecDepth 100000 in
set_option maxHeartbeats 16000000 in
theorem lgcd_B (w : World) (hT : PowTab w) (b0 : Arg w (bigV s0 A0 n0 c0) n0 s0 l0) (b1 : Arg w (bigV s1 A1 n1 c1) n1 s1 l1) (b2 : Arg w (bigV s2 A2 n2 c2) n2 s2 l2) (hcs : s0 = 0 ∧ s1 ≠ 0) :
    Calls Tryd.prog 6 #[bigV s0 A0 n0 c0, bigV s1 A1 n1 c1, bigV s2 A2 n2 c2] w fun e w' => e = .returned (.bool true) ∧ Below w.heap.size w w' := by
  have HCS := Lib.hid hcs
  clear hcs
  have HB := Lib.hid (bx3_b w #[.int .i64 s0, .slice A0 n0 c0] #[.int .i64 s1, .slice A1 n1 c1] #[.int .i64 s2, .slice A2 n2 c2])
  have R0 := Lib.hid (bx3_0 w #[.int .i64 s0, .slice A0 n0 c0] #[.int .i64 s1, .slice A1 n1 c1] #[.int .i64 s2, .slice A2 n2 c2])
  have R1 := Lib.hid (bx3_1 w #[.int .i64 s0, .slice A0 n0 c0] #[.int .i64 s1, .slice A1 n1 c1] #[.int .i64 s2, .slice A2 n2 c2])
  have R2 := Lib.hid (bx3_2 w #[.int .i64 s0, .slice A0 n0 c0] #[.int .i64 s1, .slice A1 n1 c1] #[.int .i64 s2, .slice A2 n2 c2])
  have HA0 := Lib.hid (b0.keep HB.out)
  have HA1 := Lib.hid (b1.keep HB.out)
  have HA2 := Lib.hid (b2.keep HB.out)
  have HT := Lib.hid (hT.keep HB.out)
  unfold bx3 at HB HT R0 HA0 R1 HA1 R2 HA2
  clear hT b0 b1 b2
  go_enter Tryd.func6, Tryd.ntmps6
  go_wp2_with (fail)
  go_must (refine (small_yes _ HT.out).mono ?_)
  rintro e W1 ⟨rfl, hb1⟩
  replace HB := Lib.hid (Gen.over hb1 HB.out)
  replace HA0 := Lib.hid (HA0.out.keep hb1)
  replace R0 := Lib.hid (R0.out.keep hb1)
  replace HA1 := Lib.hid (HA1.out.keep hb1)
  replace R1 := Lib.hid (R1.out.keep hb1)
  replace HA2 := Lib.hid (HA2.out.keep hb1)
  replace R2 := Lib.hid (R2.out.keep hb1)
  clear hb1
  clear HT
  by_cases hq0 : (n0 : Int) ≤ 12
  rotate_left
  · have HQ := Lib.hid hq0
    clear hq0
    have p0 := R0.out.cell 0
    have p1 := R0.out.cell 1
    go_wp2_with (fail)
    go_must (refine (HA0.out.few _ false (decide_eq_false (by have := HQ.out; omega))).mono ?_)
    rintro e W2 ⟨rfl, hb2⟩
    replace HB := Lib.hid (Gen.over hb2 HB.out)
    clear hb2
    clear p0 p1
    go_wp2
    go_ret
    exact ⟨rfl, HB.out⟩
  have HQ0 := Lib.hid hq0
  clear hq0
  have p0 := R0.out.cell 0
  have p1 := R0.out.cell 1
  go_wp2_with (fail)
  go_must (refine (HA0.out.few _ true (decide_eq_true HQ0.out)).mono ?_)
  rintro e W2 ⟨rfl, hb2⟩
  replace HB := Lib.hid (Gen.over hb2 HB.out)
  replace HA0 := Lib.hid (HA0.out.keep hb2)
  replace R0 := Lib.hid (R0.out.keep hb2)
  replace HA1 := Lib.hid (HA1.out.keep hb2)
  replace R1 := Lib.hid (R1.out.keep hb2)
  replace HA2 := Lib.hid (HA2.out.keep hb2)
  replace R2 := Lib.hid (R2.out.keep hb2)
  clear hb2
  clear p0 p1
  by_cases hq1 : (n1 : Int) ≤ 12
  rotate_left
  · have HQ := Lib.hid hq1
    clear hq1
    have p0 := R1.out.cell 0
    have p1 := R1.out.cell 1
    go_wp2_with (fail)
    go_must (refine (HA1.out.few _ false (decide_eq_false (by have := HQ.out; omega))).mono ?_)
    rintro e W3 ⟨rfl, hb3⟩
    replace HB := Lib.hid (Gen.over hb3 HB.out)
    clear hb3
    clear p0 p1
    go_wp2
    go_ret
    exact ⟨rfl, HB.out⟩
  have HQ1 := Lib.hid hq1
  clear hq1
  have p0 := R1.out.cell 0
  have p1 := R1.out.cell 1
  go_wp2_with (fail)
  go_must (refine (HA1.out.few _ true (decide_eq_true HQ1.out)).mono ?_)
  rintro e W3 ⟨rfl, hb3⟩
  replace HB := Lib.hid (Gen.over hb3 HB.out)
  replace HA0 := Lib.hid (HA0.out.keep hb3)
  replace R0 := Lib.hid (R0.out.keep hb3)
  replace HA1 := Lib.hid (HA1.out.keep hb3)
  replace R1 := Lib.hid (R1.out.keep hb3)
  replace HA2 := Lib.hid (HA2.out.keep hb3)
  replace R2 := Lib.hid (R2.out.keep hb3)
  clear hb3
  clear p0 p1
  by_cases hq2 : (n2 : Int) ≤ 4
  rotate_left
  · have HQ := Lib.hid hq2
    clear hq2
    have p0 := R2.out.cell 0
    have p1 := R2.out.cell 1
    go_wp2_with (fail)
    go_must (refine (HA2.out.few _ false (decide_eq_false (by have := HQ.out; omega))).mono ?_)
    rintro e W4 ⟨rfl, hb4⟩
    replace HB := Lib.hid (Gen.over hb4 HB.out)
    clear hb4
    clear p0 p1
    go_wp2
    go_ret
    exact ⟨rfl, HB.out⟩
  have HQ2 := Lib.hid hq2
  clear hq2
  have p0 := R2.out.cell 0
  have p1 := R2.out.cell 1
  go_wp2_with (fail)
  go_must (refine (HA2.out.few _ true (decide_eq_true HQ2.out)).mono ?_)
  rintro e W4 ⟨rfl, hb4⟩
  replace HB := Lib.hid (Gen.over hb4 HB.out)
  replace HA0 := Lib.hid (HA0.out.keep hb4)
  replace R0 := Lib.hid (R0.out.keep hb4)
  replace HA1 := Lib.hid (HA1.out.keep hb4)
  replace R1 := Lib.hid (R1.out.keep hb4)
  replace HA2 := Lib.hid (HA2.out.keep hb4)
  replace R2 := Lib.hid (R2.out.keep hb4)
  clear hb4
  clear p0 p1
  cases hr0 : rgtB s0 l0
  · have HQ := Lib.hid hr0
    clear hr0
    have p0 := R0.out.cell 0
    have p1 := R0.out.cell 1
    go_wp2_with (fail)
    go_must (refine (HA0.out.right false HQ.out).mono ?_)
    rintro e W5 ⟨rfl, hb5⟩
    replace HB := Lib.hid (Gen.over hb5 HB.out)
    clear hb5
    clear p0 p1
    go_wp2
    go_ret
    exact ⟨rfl, HB.out⟩
  have HG0 := Lib.hid hr0
  clear hr0
  have p0 := R0.out.cell 0
  have p1 := R0.out.cell 1
  go_wp2_with (fail)
  go_must (refine (HA0.out.right true HG0.out).mono ?_)
  rintro e W5 ⟨rfl, hb5⟩
  replace HB := Lib.hid (Gen.over hb5 HB.out)
  replace HA0 := Lib.hid (HA0.out.keep hb5)
  replace R0 := Lib.hid (R0.out.keep hb5)
  replace HA1 := Lib.hid (HA1.out.keep hb5)
  replace R1 := Lib.hid (R1.out.keep hb5)
  replace HA2 := Lib.hid (HA2.out.keep hb5)
  replace R2 := Lib.hid (R2.out.keep hb5)
  clear hb5
  clear p0 p1
  cases hr1 : rgtB s1 l1
  · have HQ := Lib.hid hr1
    clear hr1
    have p0 := R1.out.cell 0
    have p1 := R1.out.cell 1
    go_wp2_with (fail)
    go_must (refine (HA1.out.right false HQ.out).mono ?_)
    rintro e W6 ⟨rfl, hb6⟩
    replace HB := Lib.hid (Gen.over hb6 HB.out)
    clear hb6
    clear p0 p1
    go_wp2
    go_ret
    exact ⟨rfl, HB.out⟩
  have HG1 := Lib.hid hr1
  clear hr1
  have p0 := R1.out.cell 0
  have p1 := R1.out.cell 1
  go_wp2_with (fail)
  go_must (refine (HA1.out.right true HG1.out).mono ?_)
  rintro e W6 ⟨rfl, hb6⟩
  replace HB := Lib.hid (Gen.over hb6 HB.out)
  replace HA0 := Lib.hid (HA0.out.keep hb6)
  replace R0 := Lib.hid (R0.out.keep hb6)
  replace HA1 := Lib.hid (HA1.out.keep hb6)
  replace R1 := Lib.hid (R1.out.keep hb6)
  replace HA2 := Lib.hid (HA2.out.keep hb6)
  replace R2 := Lib.hid (R2.out.keep hb6)
  clear hb6
  clear p0 p1
  cases hr2 : rgtB s2 l2
  · have HQ := Lib.hid hr2
    clear hr2
    have p0 := R2.out.cell 0
    have p1 := R2.out.cell 1
    go_wp2_with (fail)
    go_must (refine (HA2.out.right false HQ.out).mono ?_)
    rintro e W7 ⟨rfl, hb7⟩
    replace HB := Lib.hid (Gen.over hb7 HB.out)
    clear hb7
    clear p0 p1
    go_wp2
    go_ret
    exact ⟨rfl, HB.out⟩
  have HG2 := Lib.hid hr2
  clear hr2
  have p0 := R2.out.cell 0
  have p1 := R2.out.cell 1
  go_wp2_with (fail)
  go_must (refine (HA2.out.right true HG2.out).mono ?_)
  rintro e W7 ⟨rfl, hb7⟩
  replace HB := Lib.hid (Gen.over hb7 HB.out)
  replace HA0 := Lib.hid (HA0.out.keep hb7)
  replace R0 := Lib.hid (R0.out.keep hb7)
  replace HA1 := Lib.hid (HA1.out.keep hb7)
  replace R1 := Lib.hid (R1.out.keep hb7)
  replace HA2 := Lib.hid (HA2.out.keep hb7)
  replace R2 := Lib.hid (R2.out.keep hb7)
  clear hb7
  clear p0 p1
  obtain ⟨x0, hx0, hs0, hz0⟩ := HA0.out.big HG0.out
  have HX0 := Lib.hid hx0
  have HSG0 := Lib.hid hs0
  have HZ0 := Lib.hid (hz0 12 (by have := HQ0.out; omega))
  clear hx0 hs0 hz0
  obtain ⟨x1, hx1, hs1, hz1⟩ := HA1.out.big HG1.out
  have HX1 := Lib.hid hx1
  have HSG1 := Lib.hid hs1
  have HZ1 := Lib.hid (hz1 12 (by have := HQ1.out; omega))
  clear hx1 hs1 hz1
  obtain ⟨x2, hx2, hs2, hz2⟩ := HA2.out.big HG2.out
  have HX2 := Lib.hid hx2
  have HSG2 := Lib.hid hs2
  have HZ2 := Lib.hid (hz2 4 (by have := HQ2.out; omega))
  clear hx2 hs2 hz2
  have HV := Lib.hid (Vs.cons (Vs.cons (Vs.cons (Vs.nil W7) R0.out HX0.out) R1.out HX1.out) R2.out HX2.out)
  clear HA0 R0 HX0 HG0 HQ0 HA1 R1 HX1 HG1 HQ1 HA2 R2 HX2 HG2 HQ2
  have c0 := sg_cases x0
  have c1 := sg_cases x1
  have c2 := sg_cases x2
  rw [← HSG0.out] at c0
  rw [← HSG1.out] at c1
  rw [← HSG2.out] at c2
  have c3 := HCS.out
  obtain ⟨G, hG⟩ : ∃ G : Int, ((Int.gcd x0 x1 : Nat) : Int) = G := ⟨_, rfl⟩
  have c4 : G = 0 ↔ x0 = 0 ∧ x1 = 0 := by rw [← hG]; exact gcd_zero
  have c5 : 0 < G := by
    rcases Nat.eq_zero_or_pos (Int.gcd x0 x1) with h | h
    · have := c4.1 (by omega)
      omega
    · omega
  have HGs : Hid (sg G = 1) := Lib.hid (sg_pos c5)
  have HGp := Lib.hid c5
  have HDa : Hid (sg (dr x0 G) = 0) := Lib.hid (by rw [dr_dvd c5 (by rw [← hG]; exact gcd_dvd_a _ _)]; rfl)
  have HDb : Hid (sg (dr x1 G) = 0) := Lib.hid (by rw [dr_dvd c5 (by rw [← hG]; exact gcd_dvd_b _ _)]; rfl)
  have HG := Lib.hid hG
  have HGz : Hid (Sz 13 G) := Lib.hid (by rw [← hG]; exact gcd_sz HZ0.out HZ1.out (by omega))
  have HGn : Hid (((Int.gcd (-x1) x0 : Nat) : Int) = G) := Lib.hid (by rw [gcd_negc]; exact hG)
  obtain ⟨Z, hZ⟩ : ∃ Z : Int, ((Int.gcd (x0 * x2) (x1 * x2) : Nat) : Int) = Z := ⟨_, rfl⟩
  have HZZ : Hid (Z = G * (x2.natAbs : Int)) := Lib.hid (by rw [← hZ, gcd_mul, hG])
  have HZ := Lib.hid hZ
  obtain ⟨tz, htz⟩ : ∃ t, sg Z = t := ⟨_, rfl⟩
  have HTZ := Lib.hid htz
  have hs1 : (s1 == 0) = false := by simp; omega
  have c6 : s0 = 0 := c3.1
  clear c0 c1 c3 c4 c5 hG hZ htz HCS
  have HC2 := Lib.hid c2
  clear c2
  subst c6
  have d1 := HV.out.c0 (.tail _ (.tail _ (.head _)))
  have f1 := HV.out.c1 (.tail _ (.tail _ (.head _)))
  have d2 := HV.out.c0 (.tail _ (.head _))
  have f2 := HV.out.c1 (.tail _ (.head _))
  go_wp2_with (fail)
  go_must (refine (Gcd_to _ (HV.out.big (.tail _ (.tail _ (.head _)))) (HV.out.big (.tail _ (.head _))) HG.out HGs.out).mono ?_)
  rintro e W8 ⟨Av8, nv8, cv8, rfl, hv8, hb8⟩
  replace HV := Lib.hid (HV.out.keep hb8)
  replace HB := Lib.hid (Gen.over hb8 HB.out)
  have Hv8 := Lib.hid hv8
  clear hv8
  clear hb8
  clear d1 f1 d2 f2
  replace HV := Lib.hid (HV.out.ad Hv8.out)
  replace HB := Lib.hid (below_ad HB.out Hv8.out)
  go_wp2_with (fail)
  generalize hWz : W8.alloc (.cells #[.int .i64 1, .slice Av8 nv8 cv8] 24) = Wz at HV HB ⊢
  clear hWz
  have HS0 : Hid (Below Wz.heap.size Wz Wz ∧ Wz.cell? ⟨w.heap.size + 1, 0, none⟩ = some (.int .i64 s1) ∧ Wz.cell? ⟨w.heap.size + 1, 1, none⟩ = some (.slice A1 n1 c1) ∧ Wz.cell? ⟨w.heap.size, 0, none⟩ = some (.int .i64 0) ∧ Wz.cell? ⟨w.heap.size, 1, none⟩ = some (.slice A0 n0 c0)) := Lib.hid ⟨Below.refl _ _, HV.out.c0 (.tail _ (.tail _ (.head _))), HV.out.c1 (.tail _ (.tail _ (.head _))), HV.out.c0 (.tail _ (.tail _ (.tail _ (.head _)))), HV.out.c1 (.tail _ (.tail _ (.tail _ (.head _))))⟩
  have HPa := Lib.hid ((HV.out.row (.tail _ (.tail _ (.tail _ (.head _))))).lt)
  have HPb := Lib.hid ((HV.out.row (.tail _ (.tail _ (.head _)))).lt)
  have HXa := Lib.hid (HV.out.big (.tail _ (.tail _ (.tail _ (.head _)))))
  have HXb := Lib.hid (HV.out.big (.tail _ (.tail _ (.head _))))
  refine wp_join (RJ2 w 1 G (sg (-x1)) [(W8.heap.size, bigV 1 Av8 nv8 cv8, G), (w.heap.size + 1 + 1, bigV s2 A2 n2 c2, x2), (w.heap.size + 1, bigV s1 A1 n1 c1, x1), (w.heap.size, bigV 0 A0 n0 c0, x0)] (bigV s1 A1 n1 c1) (bigV 0 A0 n0 c0) 68 69 70 71 67 72 73 10 11) ?_ ?_
  · go_region_held3 (fun W' : World => Below Wz.heap.size Wz W' ∧ W'.cell? ⟨w.heap.size + 1, 0, none⟩ = some (.int .i64 s1) ∧ W'.cell? ⟨w.heap.size + 1, 1, none⟩ = some (.slice A1 n1 c1) ∧ W'.cell? ⟨w.heap.size, 0, none⟩ = some (.int .i64 0) ∧ W'.cell? ⟨w.heap.size, 1, none⟩ = some (.slice A0 n0 c0))
      (first | exact hS8 | exact hS5 | exact ⟨HS0.out.1.drew, HS0.out.2⟩ | exact ⟨Gen.b_alloc (And.left (by assumption)), Gen.al (And.left (And.right (by assumption))), Gen.al (And.left (And.right (And.right (by assumption)))), Gen.al (And.left (And.right (And.right (And.right (by assumption))))), Gen.al (And.right (And.right (And.right (And.right (by assumption)))))⟩ | exact reg_put2 (by assumption) HPb.out HPa.out (by first | exact Nat.le_refl _ | exact hS8.1.size | exact hS5.1.size) | fail "keep")
      (first
        | (go_at_call 21; (with_reducible refine (neg_val _ (HXb.out.keep (And.left (by assumption)))).mono ?_); rintro e' w' ⟨vo, rfl, ho, hb1⟩; obtain ⟨Ao, co, lo, rfl, _⟩ := ho.ex; (try have hRw : Row w' Wz.heap.size 24 #[.int .i64 0, .slice none 0 0] := (rowd _ _ _).keep hb1); have hS5 := (show (Below Wz.heap.size Wz w' ∧ w'.cell? ⟨w.heap.size + 1, 0, none⟩ = some (.int .i64 s1) ∧ w'.cell? ⟨w.heap.size + 1, 1, none⟩ = some (.slice A1 n1 c1) ∧ w'.cell? ⟨w.heap.size, 0, none⟩ = some (.int .i64 0) ∧ w'.cell? ⟨w.heap.size, 1, none⟩ = some (.slice A0 n0 c0)) from ⟨Gen.over hb1 (And.left (by assumption)), Gen.keep hb1 (And.left (And.right (by assumption))), Gen.keep hb1 (And.left (And.right (And.right (by assumption)))), Gen.keep hb1 (And.left (And.right (And.right (And.right (by assumption))))), Gen.keep hb1 (And.right (And.right (And.right (And.right (by assumption)))))⟩))
        | (go_at_call 20; (with_reducible refine (Gcd_to _ (by first | exact ho | exact ho.keep (Gen.b_alloc (Below.refl _ _))) (HXa.out.keep (And.left (by assumption))) HGn.out HGs.out).mono ?_); rintro e' w' ⟨Ar, nr, cr, rfl, hr, hb2⟩; (first | have hRw := Row.keep hRw hb2 | have hRw := (Row.new _ _ _).keep hb2 | have hRw := (rowd _ _ _).keep hb2 | skip); (try have fz0 := hRw.frozen 0); (try have fz1 := hRw.frozen 1); (try have cz0 := hRw.cell 0); (try have cz1 := hRw.cell 1); (try have hRl := hRw.lt); have hS8 := (show (Below Wz.heap.size Wz w' ∧ w'.cell? ⟨w.heap.size + 1, 0, none⟩ = some (.int .i64 s1) ∧ w'.cell? ⟨w.heap.size + 1, 1, none⟩ = some (.slice A1 n1 c1) ∧ w'.cell? ⟨w.heap.size, 0, none⟩ = some (.int .i64 0) ∧ w'.cell? ⟨w.heap.size, 1, none⟩ = some (.slice A0 n0 c0)) from ⟨Gen.over hb2 (And.left (by assumption)), Gen.keep hb2 (And.left (And.right (by assumption))), Gen.keep hb2 (And.left (And.right (And.right (by assumption)))), Gen.keep hb2 (And.left (And.right (And.right (And.right (by assumption))))), Gen.keep hb2 (And.right (And.right (And.right (And.right (by assumption)))))⟩))
        | fail "arm")
    all_goals
      exact RJ2.mk' _ Ao lo.length co Ar nr cr (by simp only [upd, List.foldl, List.setIfInBounds_toArray, List.set_cons_zero, List.set_cons_succ] <;> rfl)
        (by first | exact Vs.ad (HV.out.keep hS8.1) hr | exact Vs.reg HV.out hS8.1 hS5.1.size hRw hr | exact Vs.reg HV.out hS8.1 (Nat.le_refl _) hRw hr)
        (Gen.over (And.left (by assumption)) HB.out)
  clear HS0 HPa HPb HXa HXb HV HB HGn
  rintro a2 Yh ⟨gh, Aoh, noh, coh, Ah, nh, ch, rfl, HV, HB⟩
  simp only [upd, List.foldl, List.setIfInBounds_toArray, List.set_cons_zero, List.set_cons_succ]
  have d3 := HV.out.c0 (.tail _ (.head _))
  have f3 := HV.out.c1 (.tail _ (.head _))
  have d4 := HV.out.c0 (.head _)
  have f4 := HV.out.c1 (.head _)
  go_wp2_with (fail)
  go_must (refine (same_to _ (HV.out.big (.tail _ (.head _))) (HV.out.big (.head _)) rfl).mono ?_)
  rintro e W9 ⟨rfl, hb9⟩
  replace HV := Lib.hid (HV.out.keep hb9)
  replace HB := Lib.hid (Gen.over hb9 HB.out)
  clear hb9
  clear d3 f3 d4 f4
  have d5 := HV.out.c0 (.tail _ (.tail _ (.tail _ (.tail _ (.head _)))))
  have f5 := HV.out.c1 (.tail _ (.tail _ (.tail _ (.tail _ (.head _)))))
  have d6 := HV.out.c0 (.tail _ (.head _))
  have f6 := HV.out.c1 (.tail _ (.head _))
  have d7 := HV.out.c0 (.tail _ (.tail _ (.tail _ (.head _))))
  have f7 := HV.out.c1 (.tail _ (.tail _ (.tail _ (.head _))))
  go_wp2_with (fail)
  go_must (refine (Div_sgn _ (HV.out.big (.tail _ (.tail _ (.tail _ (.tail _ (.head _)))))) (HV.out.big (.tail _ (.head _))) (by have := HGp.out; omega) HDa.out).mono ?_)
  rintro e W10 ⟨Av10, nv10, cv10, Au10, nu10, cu10, rfl, hv10, hu10, hb10⟩
  replace HV := Lib.hid (HV.out.keep hb10)
  replace HB := Lib.hid (Gen.over hb10 HB.out)
  have Hv10 := Lib.hid hv10
  clear hv10
  have Hu10 := Lib.hid hu10
  clear hu10
  clear hb10
  clear d5 f5 d6 f6 d7 f7
  replace Hu10 := Lib.hid (keep_ad Hu10.out Hv10.out)
  replace HV := Lib.hid (HV.out.ad Hv10.out)
  replace HB := Lib.hid (below_ad HB.out Hv10.out)
  replace HV := Lib.hid (HV.out.ad Hu10.out)
  replace HB := Lib.hid (below_ad HB.out Hu10.out)
  clear Hu10
  simp only [World.size_alloc] at HV
  have d8 := HV.out.c0 (.tail _ (.tail _ (.tail _ (.tail _ (.tail _ (.head _))))))
  have f8 := HV.out.c1 (.tail _ (.tail _ (.tail _ (.tail _ (.tail _ (.head _))))))
  have d9 := HV.out.c0 (.tail _ (.tail _ (.tail _ (.head _))))
  have f9 := HV.out.c1 (.tail _ (.tail _ (.tail _ (.head _))))
  go_wp2_with (fail)
  go_must (refine (Div_sgn _ (HV.out.big (.tail _ (.tail _ (.tail _ (.tail _ (.tail _ (.head _))))))) (HV.out.big (.tail _ (.tail _ (.tail _ (.head _))))) (by have := HGp.out; omega) HDb.out).mono ?_)
  rintro e W11 ⟨Av11, nv11, cv11, Au11, nu11, cu11, rfl, hv11, hu11, hb11⟩
  replace HV := Lib.hid (HV.out.keep hb11)
  replace HB := Lib.hid (Gen.over hb11 HB.out)
  have Hv11 := Lib.hid hv11
  clear hv11
  have Hu11 := Lib.hid hu11
  clear hu11
  clear hb11
  clear d8 f8 d9 f9
  replace Hu11 := Lib.hid (keep_ad Hu11.out Hv11.out)
  replace HV := Lib.hid (HV.out.ad Hv11.out)
  replace HB := Lib.hid (below_ad HB.out Hv11.out)
  replace HV := Lib.hid (HV.out.ad Hu11.out)
  replace HB := Lib.hid (below_ad HB.out Hu11.out)
  clear Hu11
  simp only [World.size_alloc] at HV
  have d10 := HV.out.c0 (.tail _ (.tail _ (.tail _ (.tail _ (.tail _ (.tail _ (.tail _ (.tail _ (.head _)))))))))
  have f10 := HV.out.c1 (.tail _ (.tail _ (.tail _ (.tail _ (.tail _ (.tail _ (.tail _ (.tail _ (.head _)))))))))
  have d11 := HV.out.c0 (.tail _ (.tail _ (.tail _ (.tail _ (.tail _ (.tail _ (.head _)))))))
  have f11 := HV.out.c1 (.tail _ (.tail _ (.tail _ (.tail _ (.tail _ (.tail _ (.head _)))))))
  have d12 := HV.out.c0 (.tail _ (.tail _ (.head _)))
  have f12 := HV.out.c1 (.tail _ (.tail _ (.head _)))
  have d13 := HV.out.c0 (.head _)
  have f13 := HV.out.c1 (.head _)
  go_wp2_with (fail)
  go_must (refine (mul_fit _ (HV.out.big (.tail _ (.tail _ (.tail _ (.tail _ (.tail _ (.tail _ (.tail _ (.tail _ (.head _)))))))))) (HV.out.big (.tail _ (.tail _ (.tail _ (.tail _ (.tail _ (.tail _ (.head _)))))))) ((HZ0.out.mul HZ2.out).fit)).mono ?_)
  rintro e W12 ⟨v12, rfl, hv12, hb12⟩
  replace HV := Lib.hid (HV.out.keep hb12)
  replace HB := Lib.hid (Gen.over hb12 HB.out)
  obtain ⟨Av12, cv12, lv12, rfl, _⟩ := hv12.ex
  obtain ⟨nv12, hnv12⟩ : ∃ n, lv12.length = n := ⟨_, rfl⟩
  rw [hnv12] at hv12 ⊢
  have Hv12 := Lib.hid hv12
  clear hnv12 hv12
  clear hb12
  clear d10 f10 d11 f11 d12 f12 d13 f13
  replace HV := Lib.hid (HV.out.ad Hv12.out)
  replace HB := Lib.hid (below_ad HB.out Hv12.out)
  try clear hs0 hs0n
  try clear hs1
  have d14 := HV.out.c0 (.tail _ (.tail _ (.tail _ (.tail _ (.tail _ (.tail _ (.tail _ (.tail _ (.head _)))))))))
  have f14 := HV.out.c1 (.tail _ (.tail _ (.tail _ (.tail _ (.tail _ (.tail _ (.tail _ (.tail _ (.head _)))))))))
  have d15 := HV.out.c0 (.tail _ (.tail _ (.tail _ (.tail _ (.tail _ (.tail _ (.tail _ (.head _))))))))
  have f15 := HV.out.c1 (.tail _ (.tail _ (.tail _ (.tail _ (.tail _ (.tail _ (.tail _ (.head _))))))))
  go_wp2_with (fail)
  go_must (refine (mul_fit _ (HV.out.big (.tail _ (.tail _ (.tail _ (.tail _ (.tail _ (.tail _ (.tail _ (.tail _ (.head _)))))))))) (HV.out.big (.tail _ (.tail _ (.tail _ (.tail _ (.tail _ (.tail _ (.tail _ (.head _))))))))) ((HZ1.out.mul HZ2.out).fit)).mono ?_)
  rintro e W13 ⟨v13, rfl, hv13, hb13⟩
  replace HV := Lib.hid (HV.out.keep hb13)
  replace HB := Lib.hid (Gen.over hb13 HB.out)
  obtain ⟨Av13, cv13, lv13, rfl, _⟩ := hv13.ex
  obtain ⟨nv13, hnv13⟩ : ∃ n, lv13.length = n := ⟨_, rfl⟩
  rw [hnv13] at hv13 ⊢
  have Hv13 := Lib.hid hv13
  clear hnv13 hv13
  clear hb13
  clear d14 f14 d15 f15
  replace HV := Lib.hid (HV.out.ad Hv13.out)
  replace HB := Lib.hid (below_ad HB.out Hv13.out)
  have d16 := HV.out.c0 (.tail _ (.head _))
  have f16 := HV.out.c1 (.tail _ (.head _))
  have d17 := HV.out.c0 (.head _)
  have f17 := HV.out.c1 (.head _)
  go_wp2_with (fail)
  go_must (refine (Gcd_to _ (HV.out.big (.tail _ (.head _))) (HV.out.big (.head _)) HZ.out HTZ.out).mono ?_)
  rintro e W14 ⟨Av14, nv14, cv14, rfl, hv14, hb14⟩
  replace HV := Lib.hid (HV.out.keep hb14)
  replace HB := Lib.hid (Gen.over hb14 HB.out)
  have Hv14 := Lib.hid hv14
  clear hv14
  clear hb14
  clear d16 f16 d17 f17
  replace HV := Lib.hid (HV.out.ad Hv14.out)
  replace HB := Lib.hid (below_ad HB.out Hv14.out)
  have d18 := HV.out.c0 (.tail _ (.tail _ (.tail _ (.tail _ (.tail _ (.tail _ (.tail _ (.tail _ (.head _)))))))))
  have f18 := HV.out.c1 (.tail _ (.tail _ (.tail _ (.tail _ (.tail _ (.tail _ (.tail _ (.tail _ (.head _)))))))))
  have d19 := HV.out.c0 (.tail _ (.tail _ (.tail _ (.tail _ (.tail _ (.tail _ (.tail _ (.tail _ (.tail _ (.head _))))))))))
  have f19 := HV.out.c1 (.tail _ (.tail _ (.tail _ (.tail _ (.tail _ (.tail _ (.tail _ (.tail _ (.tail _ (.head _))))))))))
  go_wp2_with (fail)
  go_must (refine (mul_fit _ (HV.out.big (.tail _ (.tail _ (.tail _ (.tail _ (.tail _ (.tail _ (.tail _ (.tail _ (.head _)))))))))) (HV.out.big (.tail _ (.tail _ (.tail _ (.tail _ (.tail _ (.tail _ (.tail _ (.tail _ (.tail _ (.head _))))))))))) ((HGz.out.mul HZ2.out).fit)).mono ?_)
  rintro e W15 ⟨v15, rfl, hv15, hb15⟩
  replace HV := Lib.hid (HV.out.keep hb15)
  replace HB := Lib.hid (Gen.over hb15 HB.out)
  obtain ⟨Av15, cv15, lv15, rfl, _⟩ := hv15.ex
  obtain ⟨nv15, hnv15⟩ : ∃ n, lv15.length = n := ⟨_, rfl⟩
  rw [hnv15] at hv15 ⊢
  have Hv15 := Lib.hid hv15
  clear hnv15 hv15
  clear hb15
  clear d18 f18 d19 f19
  have HSm := Lib.hid (Sp.of HV.out (.cells #[.int .i64 (sg (G * x2)), .slice Av15 nv15 cv15] 24))
  have HLm := Lib.hid HB.out.size
  replace HV := Lib.hid (HV.out.ad Hv15.out)
  replace HB := Lib.hid (below_ad HB.out Hv15.out)
  by_cases hc : x2 < 0
  · have h1 : s2 = -1 := by have := HC2.out; omega
    subst h1
    have HF : Hid (Z = -(G * x2)) := Lib.hid (by rw [HZZ.out, show (x2.natAbs : Int) = -x2 by omega, Int.mul_neg])
    clear hc
    have d20 := HV.out.c0 (.tail _ (.tail _ (.tail _ (.tail _ (.tail _ (.tail _ (.tail _ (.tail _ (.tail _ (.tail _ (.head _)))))))))))
    have f20 := HV.out.c1 (.tail _ (.tail _ (.tail _ (.tail _ (.tail _ (.tail _ (.tail _ (.tail _ (.tail _ (.tail _ (.head _)))))))))))
    have d21 := HV.out.c0 (.head _)
    have f21 := HV.out.c1 (.head _)
    go_wp2_with (fail)
    go_must (refine (neg_valU _ (HV.out.big (.head _))).mono ?_)
    rintro e W16 ⟨v16, rfl, hv16, hb16, ha16⟩
    have HOm_16 := Lib.hid (ha16.off HSm.out.lt)
    clear ha16
    replace HV := Lib.hid (HV.out.keep hb16)
    replace HSm := Lib.hid (HSm.out.keep hb16)
    replace HB := Lib.hid (Gen.over hb16 HB.out)
    obtain ⟨Av16, cv16, lv16, rfl, _⟩ := hv16.ex
    obtain ⟨nv16, hnv16⟩ : ∃ n, lv16.length = n := ⟨_, rfl⟩
    rw [hnv16] at hv16 ⊢
    rw [hnv16] at HOm_16
    have Hv16 := Lib.hid hv16
    clear hnv16 hv16
    clear hb16
    clear d21 f21
    clear d20 f20
    have HRm := Lib.hid (HV.out.row (.head _))
    have fr0 := HRm.out.frozen 0
    have fr1 := HRm.out.frozen 1
    have hlt := HRm.out.lt
    have e0 := HRm.out.cell 0
    have e1 := HRm.out.cell 1
    replace HV := Lib.hid (HV.out.put HRm.out Hv16.out HOm_16.out HSm.out.sep (.cons _ (.cons_cons _ (.cons_cons _ (.cons_cons _ (.cons_cons _ (.cons_cons _ (.cons_cons _ (.cons_cons _ (.cons_cons _ (.cons_cons _ (.cons_cons _ (.cons_cons _ (.cons_cons _ .slnil))))))))))))))
    replace HB := Lib.hid (below_set2 HB.out HLm.out (.int .i64 (sg (-(G * x2)))) (.slice Av16 nv16 cv16))
    clear HSm HRm Hv16
    have d22 := HV.out.c0 (.tail _ (.head _))
    have f22 := HV.out.c1 (.tail _ (.head _))
    have d23 := HV.out.c0 (.head _)
    have f23 := HV.out.c1 (.head _)
    go_wp2_with (fail)
    go_must (refine (same_to _ (HV.out.big (.tail _ (.head _))) (HV.out.big (.head _)) HF.out).mono ?_)
    rintro e W17 ⟨rfl, hb17⟩
    replace HV := Lib.hid (HV.out.keep hb17)
    replace HB := Lib.hid (Gen.over hb17 HB.out)
    clear hb17
    clear d22 f22 d23 f23
    go_wp2
    go_ret
    exact ⟨rfl, HB.out⟩
  · have h1 : ¬ s2 < 0 := by have := HC2.out; omega
    have HF : Hid (Z = G * x2) := Lib.hid (by rw [HZZ.out, show (x2.natAbs : Int) = x2 by omega])
    clear hc
    have d20 := HV.out.c0 (.tail _ (.head _))
    have f20 := HV.out.c1 (.tail _ (.head _))
    have d21 := HV.out.c0 (.head _)
    have f21 := HV.out.c1 (.head _)
    have d22 := HV.out.c0 (.tail _ (.tail _ (.tail _ (.tail _ (.tail _ (.tail _ (.tail _ (.tail _ (.tail _ (.tail _ (.head _)))))))))))
    have f22 := HV.out.c1 (.tail _ (.tail _ (.tail _ (.tail _ (.tail _ (.tail _ (.tail _ (.tail _ (.tail _ (.tail _ (.head _)))))))))))
    go_wp2_with (fail)
    go_must (refine (same_to _ (HV.out.big (.tail _ (.head _))) (HV.out.big (.head _)) HF.out).mono ?_)
    rintro e W16 ⟨rfl, hb16⟩
    replace HV := Lib.hid (HV.out.keep hb16)
    replace HSm := Lib.hid (HSm.out.keep hb16)
    replace HB := Lib.hid (Gen.over hb16 HB.out)
    clear hb16
    clear d20 f20 d21 f21 d22 f22
    go_wp2
    go_ret
    exact ⟨rfl, HB.out⟩
end
section
variable {s0 s1 s2 : Int} {A0 A1 A2 : Option Addr} {n0 c0 n1 c1 n2 c2 : Nat} {l0 l1 l2 : List Int}
set_option maxRecDepth 100000 in
set_option maxHeartbeats 16000000 in
theorem lgcd_C (w : World) (hT : PowTab w) (b0 : Arg w (bigV s0 A0 n0 c0) n0 s0 l0) (b1 : Arg w (bigV s1 A1 n1 c1) n1 s1 l1) (b2 : Arg w (bigV s2 A2 n2 c2) n2 s2 l2) (hcs : s0 ≠ 0) :
    Calls Tryd.prog 6 #[bigV s0 A0 n0 c0, bigV s1 A1 n1 c1, bigV s2 A2 n2 c2] w fun e w' => e = .returned (.bool true) ∧ Below w.heap.size w w' := by
  have HCS := Lib.hid hcs
  clear hcs
  have HB := Lib.hid (bx3_b w #[.int .i64 s0, .slice A0 n0 c0] #[.int .i64 s1, .slice A1 n1 c1] #[.int .i64 s2, .slice A2 n2 c2])
  have R0 := Lib.hid (bx3_0 w #[.int .i64 s0, .slice A0 n0 c0] #[.int .i64 s1, .slice A1 n1 c1] #[.int .i64 s2, .slice A2 n2 c2])
  have R1 := Lib.hid (bx3_1 w #[.int .i64 s0, .slice A0 n0 c0] #[.int .i64 s1, .slice A1 n1 c1] #[.int .i64 s2, .slice A2 n2 c2])
  have R2 := Lib.hid (bx3_2 w #[.int .i64 s0, .slice A0 n0 c0] #[.int .i64 s1, .slice A1 n1 c1] #[.int .i64 s2, .slice A2 n2 c2])
  have HA0 := Lib.hid (b0.keep HB.out)
  have HA1 := Lib.hid (b1.keep HB.out)
  have HA2 := Lib.hid (b2.keep HB.out)
  have HT := Lib.hid (hT.keep HB.out)
  unfold bx3 at HB HT R0 HA0 R1 HA1 R2 HA2
  clear hT b0 b1 b2
  go_enter Tryd.func6, Tryd.ntmps6
  go_wp2_with (fail)
  go_must (refine (small_yes _ HT.out).mono ?_)
  rintro e W1 ⟨rfl, hb1⟩
  replace HB := Lib.hid (Gen.over hb1 HB.out)
  replace HA0 := Lib.hid (HA0.out.keep hb1)
  replace R0 := Lib.hid (R0.out.keep hb1)
  replace HA1 := Lib.hid (HA1.out.keep hb1)
  replace R1 := Lib.hid (R1.out.keep hb1)
  replace HA2 := Lib.hid (HA2.out.keep hb1)
  replace R2 := Lib.hid (R2.out.keep hb1)
  clear hb1
  clear HT
  by_cases hq0 : (n0 : Int) ≤ 12
  rotate_left
  · have HQ := Lib.hid hq0
    clear hq0
    have p0 := R0.out.cell 0
    have p1 := R0.out.cell 1
    go_wp2_with (fail)
    go_must (refine (HA0.out.few _ false (decide_eq_false (by have := HQ.out; omega))).mono ?_)
    rintro e W2 ⟨rfl, hb2⟩
    replace HB := Lib.hid (Gen.over hb2 HB.out)
    clear hb2
    clear p0 p1
    go_wp2
    go_ret
    exact ⟨rfl, HB.out⟩
  have HQ0 := Lib.hid hq0
  clear hq0
  have p0 := R0.out.cell 0
  have p1 := R0.out.cell 1
  go_wp2_with (fail)
  go_must (refine (HA0.out.few _ true (decide_eq_true HQ0.out)).mono ?_)
  rintro e W2 ⟨rfl, hb2⟩
  replace HB := Lib.hid (Gen.over hb2 HB.out)
  replace HA0 := Lib.hid (HA0.out.keep hb2)
  replace R0 := Lib.hid (R0.out.keep hb2)
  replace HA1 := Lib.hid (HA1.out.keep hb2)
  replace R1 := Lib.hid (R1.out.keep hb2)
  replace HA2 := Lib.hid (HA2.out.keep hb2)
  replace R2 := Lib.hid (R2.out.keep hb2)
  clear hb2
  clear p0 p1
  by_cases hq1 : (n1 : Int) ≤ 12
  rotate_left
  · have HQ := Lib.hid hq1
    clear hq1
    have p0 := R1.out.cell 0
    have p1 := R1.out.cell 1
    go_wp2_with (fail)
    go_must (refine (HA1.out.few _ false (decide_eq_false (by have := HQ.out; omega))).mono ?_)
    rintro e W3 ⟨rfl, hb3⟩
    replace HB := Lib.hid (Gen.over hb3 HB.out)
    clear hb3
    clear p0 p1
    go_wp2
    go_ret
    exact ⟨rfl, HB.out⟩
  have HQ1 := Lib.hid hq1
  clear hq1
  have p0 := R1.out.cell 0
  have p1 := R1.out.cell 1
  go_wp2_with (fail)
  go_must (refine (HA1.out.few _ true (decide_eq_true HQ1.out)).mono ?_)
  rintro e W3 ⟨rfl, hb3⟩
  replace HB := Lib.hid (Gen.over hb3 HB.out)
  replace HA0 := Lib.hid (HA0.out.keep hb3)
  replace R0 := Lib.hid (R0.out.keep hb3)
  replace HA1 := Lib.hid (HA1.out.keep hb3)
  replace R1 := Lib.hid (R1.out.keep hb3)
  replace HA2 := Lib.hid (HA2.out.keep hb3)
  replace R2 := Lib.hid (R2.out.keep hb3)
  clear hb3
  clear p0 p1
  by_cases hq2 : (n2 : Int) ≤ 4
  rotate_left
  · have HQ := Lib.hid hq2
    clear hq2
    have p0 := R2.out.cell 0
    have p1 := R2.out.cell 1
    go_wp2_with (fail)
    go_must (refine (HA2.out.few _ false (decide_eq_false (by have := HQ.out; omega))).mono ?_)
    rintro e W4 ⟨rfl, hb4⟩
    replace HB := Lib.hid (Gen.over hb4 HB.out)
    clear hb4
    clear p0 p1
    go_wp2
    go_ret
    exact ⟨rfl, HB.out⟩
  have HQ2 := Lib.hid hq2
  clear hq2
  have p0 := R2.out.cell 0
  have p1 := R2.out.cell 1
  go_wp2_with (fail)
  go_must (refine (HA2.out.few _ true (decide_eq_true HQ2.out)).mono ?_)
  rintro e W4 ⟨rfl, hb4⟩
  replace HB := Lib.hid (Gen.over hb4 HB.out)
  replace HA0 := Lib.hid (HA0.out.keep hb4)
  replace R0 := Lib.hid (R0.out.keep hb4)
  replace HA1 := Lib.hid (HA1.out.keep hb4)
  replace R1 := Lib.hid (R1.out.keep hb4)
  replace HA2 := Lib.hid (HA2.out.keep hb4)
  replace R2 := Lib.hid (R2.out.keep hb4)
  clear hb4
  clear p0 p1
  cases hr0 : rgtB s0 l0
  · have HQ := Lib.hid hr0
    clear hr0
    have p0 := R0.out.cell 0
    have p1 := R0.out.cell 1
    go_wp2_with (fail)
    go_must (refine (HA0.out.right false HQ.out).mono ?_)
    rintro e W5 ⟨rfl, hb5⟩
    replace HB := Lib.hid (Gen.over hb5 HB.out)
    clear hb5
    clear p0 p1
    go_wp2
    go_ret
    exact ⟨rfl, HB.out⟩
  have HG0 := Lib.hid hr0
  clear hr0
  have p0 := R0.out.cell 0
  have p1 := R0.out.cell 1
  go_wp2_with (fail)
  go_must (refine (HA0.out.right true HG0.out).mono ?_)
  rintro e W5 ⟨rfl, hb5⟩
  replace HB := Lib.hid (Gen.over hb5 HB.out)
  replace HA0 := Lib.hid (HA0.out.keep hb5)
  replace R0 := Lib.hid (R0.out.keep hb5)
  replace HA1 := Lib.hid (HA1.out.keep hb5)
  replace R1 := Lib.hid (R1.out.keep hb5)
  replace HA2 := Lib.hid (HA2.out.keep hb5)
  replace R2 := Lib.hid (R2.out.keep hb5)
  clear hb5
  clear p0 p1
  cases hr1 : rgtB s1 l1
  · have HQ := Lib.hid hr1
    clear hr1
    have p0 := R1.out.cell 0
    have p1 := R1.out.cell 1
    go_wp2_with (fail)
    go_must (refine (HA1.out.right false HQ.out).mono ?_)
    rintro e W6 ⟨rfl, hb6⟩
    replace HB := Lib.hid (Gen.over hb6 HB.out)
    clear hb6
    clear p0 p1
    go_wp2
    go_ret
    exact ⟨rfl, HB.out⟩
  have HG1 := Lib.hid hr1
  clear hr1
  have p0 := R1.out.cell 0
  have p1 := R1.out.cell 1
  go_wp2_with (fail)
  go_must (refine (HA1.out.right true HG1.out).mono ?_)
  rintro e W6 ⟨rfl, hb6⟩
  replace HB := Lib.hid (Gen.over hb6 HB.out)
  replace HA0 := Lib.hid (HA0.out.keep hb6)
  replace R0 := Lib.hid (R0.out.keep hb6)
  replace HA1 := Lib.hid (HA1.out.keep hb6)
  replace R1 := Lib.hid (R1.out.keep hb6)
  replace HA2 := Lib.hid (HA2.out.keep hb6)
  replace R2 := Lib.hid (R2.out.keep hb6)
  clear hb6
  clear p0 p1
  cases hr2 : rgtB s2 l2
  · have HQ := Lib.hid hr2
    clear hr2
    have p0 := R2.out.cell 0
    have p1 := R2.out.cell 1
    go_wp2_with (fail)
    go_must (refine (HA2.out.right false HQ.out).mono ?_)
    rintro e W7 ⟨rfl, hb7⟩
    replace HB := Lib.hid (Gen.over hb7 HB.out)
    clear hb7
    clear p0 p1
    go_wp2
    go_ret
    exact ⟨rfl, HB.out⟩
  have HG2 := Lib.hid hr2
  clear hr2
  have p0 := R2.out.cell 0
  have p1 := R2.out.cell 1
  go_wp2_with (fail)
  go_must (refine (HA2.out.right true HG2.out).mono ?_)
  rintro e W7 ⟨rfl, hb7⟩
  replace HB := Lib.hid (Gen.over hb7 HB.out)
  replace HA0 := Lib.hid (HA0.out.keep hb7)
  replace R0 := Lib.hid (R0.out.keep hb7)
  replace HA1 := Lib.hid (HA1.out.keep hb7)
  replace R1 := Lib.hid (R1.out.keep hb7)
  replace HA2 := Lib.hid (HA2.out.keep hb7)
  replace R2 := Lib.hid (R2.out.keep hb7)
  clear hb7
  clear p0 p1
  obtain ⟨x0, hx0, hs0, hz0⟩ := HA0.out.big HG0.out
  have HX0 := Lib.hid hx0
  have HSG0 := Lib.hid hs0
  have HZ0 := Lib.hid (hz0 12 (by have := HQ0.out; omega))
  clear hx0 hs0 hz0
  obtain ⟨x1, hx1, hs1, hz1⟩ := HA1.out.big HG1.out
  have HX1 := Lib.hid hx1
  have HSG1 := Lib.hid hs1
  have HZ1 := Lib.hid (hz1 12 (by have := HQ1.out; omega))
  clear hx1 hs1 hz1
  obtain ⟨x2, hx2, hs2, hz2⟩ := HA2.out.big HG2.out
  have HX2 := Lib.hid hx2
  have HSG2 := Lib.hid hs2
  have HZ2 := Lib.hid (hz2 4 (by have := HQ2.out; omega))
  clear hx2 hs2 hz2
  have HV := Lib.hid (Vs.cons (Vs.cons (Vs.cons (Vs.nil W7) R0.out HX0.out) R1.out HX1.out) R2.out HX2.out)
  clear HA0 R0 HX0 HG0 HQ0 HA1 R1 HX1 HG1 HQ1 HA2 R2 HX2 HG2 HQ2
  have c0 := sg_cases x0
  have c1 := sg_cases x1
  have c2 := sg_cases x2
  rw [← HSG0.out] at c0
  rw [← HSG1.out] at c1
  rw [← HSG2.out] at c2
  have c3 := HCS.out
  obtain ⟨G, hG⟩ : ∃ G : Int, ((Int.gcd x0 x1 : Nat) : Int) = G := ⟨_, rfl⟩
  have c4 : G = 0 ↔ x0 = 0 ∧ x1 = 0 := by rw [← hG]; exact gcd_zero
  have c5 : 0 < G := by
    rcases Nat.eq_zero_or_pos (Int.gcd x0 x1) with h | h
    · have := c4.1 (by omega)
      omega
    · omega
  have HGs : Hid (sg G = 1) := Lib.hid (sg_pos c5)
  have HGp := Lib.hid c5
  have HDa : Hid (sg (dr x0 G) = 0) := Lib.hid (by rw [dr_dvd c5 (by rw [← hG]; exact gcd_dvd_a _ _)]; rfl)
  have HDb : Hid (sg (dr x1 G) = 0) := Lib.hid (by rw [dr_dvd c5 (by rw [← hG]; exact gcd_dvd_b _ _)]; rfl)
  have HG := Lib.hid hG
  have HGz : Hid (Sz 13 G) := Lib.hid (by rw [← hG]; exact gcd_sz HZ0.out HZ1.out (by omega))
  have HGn : Hid (((Int.gcd (-x1) x0 : Nat) : Int) = G) := Lib.hid (by rw [gcd_negc]; exact hG)
  obtain ⟨Z, hZ⟩ : ∃ Z : Int, ((Int.gcd (x0 * x2) (x1 * x2) : Nat) : Int) = Z := ⟨_, rfl⟩
  have HZZ : Hid (Z = G * (x2.natAbs : Int)) := Lib.hid (by rw [← hZ, gcd_mul, hG])
  have HZ := Lib.hid hZ
  obtain ⟨tz, htz⟩ : ∃ t, sg Z = t := ⟨_, rfl⟩
  have HTZ := Lib.hid htz
  have HX0 : Hid (x0 ≠ 0) := Lib.hid (by omega)
  have hs0 : (s0 == 0) = false := by simp; omega
  have hs0n : (s0 != 0) = true := by simp; omega
  have HGr : Hid (((Int.gcd x0 (dr x1 x0) : Nat) : Int) = G) := Lib.hid (by rw [gcd_dr]; exact hG)
  clear c0 c1 c3 c4 c5 hG hZ htz HCS
  have HC2 := Lib.hid c2
  clear c2
  have d1 := HV.out.c0 (.tail _ (.tail _ (.head _)))
  have f1 := HV.out.c1 (.tail _ (.tail _ (.head _)))
  have d2 := HV.out.c0 (.tail _ (.head _))
  have f2 := HV.out.c1 (.tail _ (.head _))
  go_wp2_with (fail)
  go_must (refine (Gcd_to _ (HV.out.big (.tail _ (.tail _ (.head _)))) (HV.out.big (.tail _ (.head _))) HG.out HGs.out).mono ?_)
  rintro e W8 ⟨Av8, nv8, cv8, rfl, hv8, hb8⟩
  replace HV := Lib.hid (HV.out.keep hb8)
  replace HB := Lib.hid (Gen.over hb8 HB.out)
  have Hv8 := Lib.hid hv8
  clear hv8
  clear hb8
  clear d1 f1 d2 f2
  replace HV := Lib.hid (HV.out.ad Hv8.out)
  replace HB := Lib.hid (below_ad HB.out Hv8.out)
  go_wp2_with (fail)
  generalize hWz : W8.alloc (.cells #[.int .i64 1, .slice Av8 nv8 cv8] 24) = Wz at HV HB ⊢
  clear hWz
  have HS0 : Hid (Below Wz.heap.size Wz Wz ∧ Wz.cell? ⟨w.heap.size + 1, 0, none⟩ = some (.int .i64 s1) ∧ Wz.cell? ⟨w.heap.size + 1, 1, none⟩ = some (.slice A1 n1 c1) ∧ Wz.cell? ⟨w.heap.size, 0, none⟩ = some (.int .i64 s0) ∧ Wz.cell? ⟨w.heap.size, 1, none⟩ = some (.slice A0 n0 c0)) := Lib.hid ⟨Below.refl _ _, HV.out.c0 (.tail _ (.tail _ (.head _))), HV.out.c1 (.tail _ (.tail _ (.head _))), HV.out.c0 (.tail _ (.tail _ (.tail _ (.head _)))), HV.out.c1 (.tail _ (.tail _ (.tail _ (.head _))))⟩
  have HPa := Lib.hid ((HV.out.row (.tail _ (.tail _ (.tail _ (.head _))))).lt)
  have HPb := Lib.hid ((HV.out.row (.tail _ (.tail _ (.head _)))).lt)
  have HXa := Lib.hid (HV.out.big (.tail _ (.tail _ (.tail _ (.head _)))))
  have HXb := Lib.hid (HV.out.big (.tail _ (.tail _ (.head _))))
  refine wp_join (RJ2 w 1 G (sg (-x1)) [(W8.heap.size, bigV 1 Av8 nv8 cv8, G), (w.heap.size + 1 + 1, bigV s2 A2 n2 c2, x2), (w.heap.size + 1, bigV s1 A1 n1 c1, x1), (w.heap.size, bigV s0 A0 n0 c0, x0)] (bigV s1 A1 n1 c1) (bigV s0 A0 n0 c0) 68 69 70 71 67 72 73 10 11) ?_ ?_
  · go_region_held3 (fun W' : World => Below Wz.heap.size Wz W' ∧ W'.cell? ⟨w.heap.size + 1, 0, none⟩ = some (.int .i64 s1) ∧ W'.cell? ⟨w.heap.size + 1, 1, none⟩ = some (.slice A1 n1 c1) ∧ W'.cell? ⟨w.heap.size, 0, none⟩ = some (.int .i64 s0) ∧ W'.cell? ⟨w.heap.size, 1, none⟩ = some (.slice A0 n0 c0))
      (first | exact hS8 | exact hS5 | exact ⟨HS0.out.1.drew, HS0.out.2⟩ | exact ⟨Gen.b_alloc (And.left (by assumption)), Gen.al (And.left (And.right (by assumption))), Gen.al (And.left (And.right (And.right (by assumption)))), Gen.al (And.left (And.right (And.right (And.right (by assumption))))), Gen.al (And.right (And.right (And.right (And.right (by assumption)))))⟩ | exact reg_put2 (by assumption) HPb.out HPa.out (by first | exact Nat.le_refl _ | exact hS8.1.size | exact hS5.1.size) | fail "keep")
      (first
        | (go_at_call 21; (with_reducible refine (neg_val _ (HXb.out.keep (And.left (by assumption)))).mono ?_); rintro e' w' ⟨vo, rfl, ho, hb1⟩; obtain ⟨Ao, co, lo, rfl, _⟩ := ho.ex; (try have hRw : Row w' Wz.heap.size 24 #[.int .i64 0, .slice none 0 0] := (rowd _ _ _).keep hb1); have hS5 := (show (Below Wz.heap.size Wz w' ∧ w'.cell? ⟨w.heap.size + 1, 0, none⟩ = some (.int .i64 s1) ∧ w'.cell? ⟨w.heap.size + 1, 1, none⟩ = some (.slice A1 n1 c1) ∧ w'.cell? ⟨w.heap.size, 0, none⟩ = some (.int .i64 s0) ∧ w'.cell? ⟨w.heap.size, 1, none⟩ = some (.slice A0 n0 c0)) from ⟨Gen.over hb1 (And.left (by assumption)), Gen.keep hb1 (And.left (And.right (by assumption))), Gen.keep hb1 (And.left (And.right (And.right (by assumption)))), Gen.keep hb1 (And.left (And.right (And.right (And.right (by assumption))))), Gen.keep hb1 (And.right (And.right (And.right (And.right (by assumption)))))⟩))
        | (go_at_call 20; (with_reducible refine (Gcd_to _ (by first | exact ho | exact ho.keep (Gen.b_alloc (Below.refl _ _))) (HXa.out.keep (And.left (by assumption))) HGn.out HGs.out).mono ?_); rintro e' w' ⟨Ar, nr, cr, rfl, hr, hb2⟩; (first | have hRw := Row.keep hRw hb2 | have hRw := (Row.new _ _ _).keep hb2 | have hRw := (rowd _ _ _).keep hb2 | skip); (try have fz0 := hRw.frozen 0); (try have fz1 := hRw.frozen 1); (try have cz0 := hRw.cell 0); (try have cz1 := hRw.cell 1); (try have hRl := hRw.lt); have hS8 := (show (Below Wz.heap.size Wz w' ∧ w'.cell? ⟨w.heap.size + 1, 0, none⟩ = some (.int .i64 s1) ∧ w'.cell? ⟨w.heap.size + 1, 1, none⟩ = some (.slice A1 n1 c1) ∧ w'.cell? ⟨w.heap.size, 0, none⟩ = some (.int .i64 s0) ∧ w'.cell? ⟨w.heap.size, 1, none⟩ = some (.slice A0 n0 c0)) from ⟨Gen.over hb2 (And.left (by assumption)), Gen.keep hb2 (And.left (And.right (by assumption))), Gen.keep hb2 (And.left (And.right (And.right (by assumption)))), Gen.keep hb2 (And.left (And.right (And.right (And.right (by assumption))))), Gen.keep hb2 (And.right (And.right (And.right (And.right (by assumption)))))⟩))
        | fail "arm")
    all_goals
      exact RJ2.mk' _ Ao lo.length co Ar nr cr (by simp only [upd, List.foldl, List.setIfInBounds_toArray, List.set_cons_zero, List.set_cons_succ] <;> rfl)
        (by first | exact Vs.ad (HV.out.keep hS8.1) hr | exact Vs.reg HV.out hS8.1 hS5.1.size hRw hr | exact Vs.reg HV.out hS8.1 (Nat.le_refl _) hRw hr)
        (Gen.over (And.left (by assumption)) HB.out)
  clear HS0 HPa HPb HXa HXb HV HB HGn
  rintro a2 Yh ⟨gh, Aoh, noh, coh, Ah, nh, ch, rfl, HV, HB⟩
  simp only [upd, List.foldl, List.setIfInBounds_toArray, List.set_cons_zero, List.set_cons_succ]
  have d3 := HV.out.c0 (.tail _ (.head _))
  have f3 := HV.out.c1 (.tail _ (.head _))
  have d4 := HV.out.c0 (.head _)
  have f4 := HV.out.c1 (.head _)
  go_wp2_with (fail)
  go_must (refine (same_to _ (HV.out.big (.tail _ (.head _))) (HV.out.big (.head _)) rfl).mono ?_)
  rintro e W9 ⟨rfl, hb9⟩
  replace HV := Lib.hid (HV.out.keep hb9)
  replace HB := Lib.hid (Gen.over hb9 HB.out)
  clear hb9
  clear d3 f3 d4 f4
  have d5 := HV.out.c0 (.tail _ (.tail _ (.tail _ (.tail _ (.head _)))))
  have f5 := HV.out.c1 (.tail _ (.tail _ (.tail _ (.tail _ (.head _)))))
  have d6 := HV.out.c0 (.tail _ (.head _))
  have f6 := HV.out.c1 (.tail _ (.head _))
  have d7 := HV.out.c0 (.tail _ (.tail _ (.tail _ (.head _))))
  have f7 := HV.out.c1 (.tail _ (.tail _ (.tail _ (.head _))))
  go_wp2_with (fail)
  go_must (refine (Div_sgn _ (HV.out.big (.tail _ (.tail _ (.tail _ (.tail _ (.head _)))))) (HV.out.big (.tail _ (.head _))) (by have := HGp.out; omega) HDa.out).mono ?_)
  rintro e W10 ⟨Av10, nv10, cv10, Au10, nu10, cu10, rfl, hv10, hu10, hb10⟩
  replace HV := Lib.hid (HV.out.keep hb10)
  replace HB := Lib.hid (Gen.over hb10 HB.out)
  have Hv10 := Lib.hid hv10
  clear hv10
  have Hu10 := Lib.hid hu10
  clear hu10
  clear hb10
  clear d5 f5 d6 f6 d7 f7
  replace Hu10 := Lib.hid (keep_ad Hu10.out Hv10.out)
  replace HV := Lib.hid (HV.out.ad Hv10.out)
  replace HB := Lib.hid (below_ad HB.out Hv10.out)
  replace HV := Lib.hid (HV.out.ad Hu10.out)
  replace HB := Lib.hid (below_ad HB.out Hu10.out)
  clear Hu10
  simp only [World.size_alloc] at HV
  have d8 := HV.out.c0 (.tail _ (.tail _ (.tail _ (.tail _ (.tail _ (.head _))))))
  have f8 := HV.out.c1 (.tail _ (.tail _ (.tail _ (.tail _ (.tail _ (.head _))))))
  have d9 := HV.out.c0 (.tail _ (.tail _ (.tail _ (.head _))))
  have f9 := HV.out.c1 (.tail _ (.tail _ (.tail _ (.head _))))
  go_wp2_with (fail)
  go_must (refine (Div_sgn _ (HV.out.big (.tail _ (.tail _ (.tail _ (.tail _ (.tail _ (.head _))))))) (HV.out.big (.tail _ (.tail _ (.tail _ (.head _))))) (by have := HGp.out; omega) HDb.out).mono ?_)
  rintro e W11 ⟨Av11, nv11, cv11, Au11, nu11, cu11, rfl, hv11, hu11, hb11⟩
  replace HV := Lib.hid (HV.out.keep hb11)
  replace HB := Lib.hid (Gen.over hb11 HB.out)
  have Hv11 := Lib.hid hv11
  clear hv11
  have Hu11 := Lib.hid hu11
  clear hu11
  clear hb11
  clear d8 f8 d9 f9
  replace Hu11 := Lib.hid (keep_ad Hu11.out Hv11.out)
  replace HV := Lib.hid (HV.out.ad Hv11.out)
  replace HB := Lib.hid (below_ad HB.out Hv11.out)
  replace HV := Lib.hid (HV.out.ad Hu11.out)
  replace HB := Lib.hid (below_ad HB.out Hu11.out)
  clear Hu11
  simp only [World.size_alloc] at HV
  have d10 := HV.out.c0 (.tail _ (.tail _ (.tail _ (.tail _ (.tail _ (.tail _ (.tail _ (.head _))))))))
  have f10 := HV.out.c1 (.tail _ (.tail _ (.tail _ (.tail _ (.tail _ (.tail _ (.tail _ (.head _))))))))
  have d11 := HV.out.c0 (.tail _ (.tail _ (.tail _ (.tail _ (.tail _ (.tail _ (.tail _ (.tail _ (.head _)))))))))
  have f11 := HV.out.c1 (.tail _ (.tail _ (.tail _ (.tail _ (.tail _ (.tail _ (.tail _ (.tail _ (.head _)))))))))
  have d12 := HV.out.c0 (.tail _ (.tail _ (.head _)))
  have f12 := HV.out.c1 (.tail _ (.tail _ (.head _)))
  have d13 := HV.out.c0 (.head _)
  have f13 := HV.out.c1 (.head _)
  go_wp2_with (fail)
  go_must (refine (Div_sgn _ (HV.out.big (.tail _ (.tail _ (.tail _ (.tail _ (.tail _ (.tail _ (.tail _ (.head _))))))))) (HV.out.big (.tail _ (.tail _ (.tail _ (.tail _ (.tail _ (.tail _ (.tail _ (.tail _ (.head _)))))))))) (HX0.out) rfl).mono ?_)
  rintro e W12 ⟨Av12, nv12, cv12, Au12, nu12, cu12, rfl, hv12, hu12, hb12⟩
  replace HV := Lib.hid (HV.out.keep hb12)
  replace HB := Lib.hid (Gen.over hb12 HB.out)
  have Hv12 := Lib.hid hv12
  clear hv12
  have Hu12 := Lib.hid hu12
  clear hu12
  clear hb12
  clear d10 f10 d11 f11 d12 f12 d13 f13
  replace Hu12 := Lib.hid (keep_ad Hu12.out Hv12.out)
  replace HV := Lib.hid (HV.out.ad Hv12.out)
  replace HB := Lib.hid (below_ad HB.out Hv12.out)
  replace HV := Lib.hid (HV.out.ad Hu12.out)
  replace HB := Lib.hid (below_ad HB.out Hu12.out)
  clear Hu12
  simp only [World.size_alloc] at HV
  have d14 := HV.out.c0 (.tail _ (.tail _ (.tail _ (.tail _ (.tail _ (.tail _ (.tail _ (.tail _ (.tail _ (.tail _ (.head _)))))))))))
  have f14 := HV.out.c1 (.tail _ (.tail _ (.tail _ (.tail _ (.tail _ (.tail _ (.tail _ (.tail _ (.tail _ (.tail _ (.head _)))))))))))
  have d15 := HV.out.c0 (.head _)
  have f15 := HV.out.c1 (.head _)
  go_wp2_with (fail)
  go_must (refine (Gcd_to _ (HV.out.big (.tail _ (.tail _ (.tail _ (.tail _ (.tail _ (.tail _ (.tail _ (.tail _ (.tail _ (.tail _ (.head _)))))))))))) (HV.out.big (.head _)) HGr.out HGs.out).mono ?_)
  rintro e W13 ⟨Av13, nv13, cv13, rfl, hv13, hb13⟩
  replace HV := Lib.hid (HV.out.keep hb13)
  replace HB := Lib.hid (Gen.over hb13 HB.out)
  have Hv13 := Lib.hid hv13
  clear hv13
  clear hb13
  clear d14 f14 d15 f15
  replace HV := Lib.hid (HV.out.ad Hv13.out)
  replace HB := Lib.hid (below_ad HB.out Hv13.out)
  have d16 := HV.out.c0 (.head _)
  have f16 := HV.out.c1 (.head _)
  have d17 := HV.out.c0 (.tail _ (.tail _ (.tail _ (.tail _ (.tail _ (.tail _ (.tail _ (.tail _ (.head _)))))))))
  have f17 := HV.out.c1 (.tail _ (.tail _ (.tail _ (.tail _ (.tail _ (.tail _ (.tail _ (.tail _ (.head _)))))))))
  go_wp2_with (fail)
  go_must (refine (same_to _ (HV.out.big (.head _)) (HV.out.big (.tail _ (.tail _ (.tail _ (.tail _ (.tail _ (.tail _ (.tail _ (.tail _ (.head _)))))))))) rfl).mono ?_)
  rintro e W14 ⟨rfl, hb14⟩
  replace HV := Lib.hid (HV.out.keep hb14)
  replace HB := Lib.hid (Gen.over hb14 HB.out)
  clear hb14
  clear d16 f16 d17 f17
  have d18 := HV.out.c0 (.tail _ (.tail _ (.tail _ (.tail _ (.tail _ (.tail _ (.tail _ (.tail _ (.tail _ (.tail _ (.tail _ (.head _))))))))))))
  have f18 := HV.out.c1 (.tail _ (.tail _ (.tail _ (.tail _ (.tail _ (.tail _ (.tail _ (.tail _ (.tail _ (.tail _ (.tail _ (.head _))))))))))))
  have d19 := HV.out.c0 (.tail _ (.tail _ (.tail _ (.tail _ (.tail _ (.tail _ (.tail _ (.tail _ (.tail _ (.head _))))))))))
  have f19 := HV.out.c1 (.tail _ (.tail _ (.tail _ (.tail _ (.tail _ (.tail _ (.tail _ (.tail _ (.tail _ (.head _))))))))))
  go_wp2_with (fail)
  go_must (refine (mul_fit _ (HV.out.big (.tail _ (.tail _ (.tail _ (.tail _ (.tail _ (.tail _ (.tail _ (.tail _ (.tail _ (.tail _ (.tail _ (.head _))))))))))))) (HV.out.big (.tail _ (.tail _ (.tail _ (.tail _ (.tail _ (.tail _ (.tail _ (.tail _ (.tail _ (.head _))))))))))) ((HZ0.out.mul HZ2.out).fit)).mono ?_)
  rintro e W15 ⟨v15, rfl, hv15, hb15⟩
  replace HV := Lib.hid (HV.out.keep hb15)
  replace HB := Lib.hid (Gen.over hb15 HB.out)
  obtain ⟨Av15, cv15, lv15, rfl, _⟩ := hv15.ex
  obtain ⟨nv15, hnv15⟩ : ∃ n, lv15.length = n := ⟨_, rfl⟩
  rw [hnv15] at hv15 ⊢
  have Hv15 := Lib.hid hv15
  clear hnv15 hv15
  clear hb15
  clear d18 f18 d19 f19
  replace HV := Lib.hid (HV.out.ad Hv15.out)
  replace HB := Lib.hid (below_ad HB.out Hv15.out)
  try clear hs0 hs0n
  try clear hs1
  have d20 := HV.out.c0 (.tail _ (.tail _ (.tail _ (.tail _ (.tail _ (.tail _ (.tail _ (.tail _ (.tail _ (.tail _ (.tail _ (.head _))))))))))))
  have f20 := HV.out.c1 (.tail _ (.tail _ (.tail _ (.tail _ (.tail _ (.tail _ (.tail _ (.tail _ (.tail _ (.tail _ (.tail _ (.head _))))))))))))
  have d21 := HV.out.c0 (.tail _ (.tail _ (.tail _ (.tail _ (.tail _ (.tail _ (.tail _ (.tail _ (.tail _ (.tail _ (.head _)))))))))))
  have f21 := HV.out.c1 (.tail _ (.tail _ (.tail _ (.tail _ (.tail _ (.tail _ (.tail _ (.tail _ (.tail _ (.tail _ (.head _)))))))))))
  go_wp2_with (fail)
  go_must (refine (mul_fit _ (HV.out.big (.tail _ (.tail _ (.tail _ (.tail _ (.tail _ (.tail _ (.tail _ (.tail _ (.tail _ (.tail _ (.tail _ (.head _))))))))))))) (HV.out.big (.tail _ (.tail _ (.tail _ (.tail _ (.tail _ (.tail _ (.tail _ (.tail _ (.tail _ (.tail _ (.head _)))))))))))) ((HZ1.out.mul HZ2.out).fit)).mono ?_)
  rintro e W16 ⟨v16, rfl, hv16, hb16⟩
  replace HV := Lib.hid (HV.out.keep hb16)
  replace HB := Lib.hid (Gen.over hb16 HB.out)
  obtain ⟨Av16, cv16, lv16, rfl, _⟩ := hv16.ex
  obtain ⟨nv16, hnv16⟩ : ∃ n, lv16.length = n := ⟨_, rfl⟩
  rw [hnv16] at hv16 ⊢
  have Hv16 := Lib.hid hv16
  clear hnv16 hv16
  clear hb16
  clear d20 f20 d21 f21
  replace HV := Lib.hid (HV.out.ad Hv16.out)
  replace HB := Lib.hid (below_ad HB.out Hv16.out)
  have d22 := HV.out.c0 (.tail _ (.head _))
  have f22 := HV.out.c1 (.tail _ (.head _))
  have d23 := HV.out.c0 (.head _)
  have f23 := HV.out.c1 (.head _)
  go_wp2_with (fail)
  go_must (refine (Gcd_to _ (HV.out.big (.tail _ (.head _))) (HV.out.big (.head _)) HZ.out HTZ.out).mono ?_)
  rintro e W17 ⟨Av17, nv17, cv17, rfl, hv17, hb17⟩
  replace HV := Lib.hid (HV.out.keep hb17)
  replace HB := Lib.hid (Gen.over hb17 HB.out)
  have Hv17 := Lib.hid hv17
  clear hv17
  clear hb17
  clear d22 f22 d23 f23
  replace HV := Lib.hid (HV.out.ad Hv17.out)
  replace HB := Lib.hid (below_ad HB.out Hv17.out)
  have d24 := HV.out.c0 (.tail _ (.tail _ (.tail _ (.tail _ (.tail _ (.tail _ (.tail _ (.tail _ (.tail _ (.tail _ (.tail _ (.head _))))))))))))
  have f24 := HV.out.c1 (.tail _ (.tail _ (.tail _ (.tail _ (.tail _ (.tail _ (.tail _ (.tail _ (.tail _ (.tail _ (.tail _ (.head _))))))))))))
  have d25 := HV.out.c0 (.tail _ (.tail _ (.tail _ (.tail _ (.tail _ (.tail _ (.tail _ (.tail _ (.tail _ (.tail _ (.tail _ (.tail _ (.head _)))))))))))))
  have f25 := HV.out.c1 (.tail _ (.tail _ (.tail _ (.tail _ (.tail _ (.tail _ (.tail _ (.tail _ (.tail _ (.tail _ (.tail _ (.tail _ (.head _)))))))))))))
  go_wp2_with (fail)
  go_must (refine (mul_fit _ (HV.out.big (.tail _ (.tail _ (.tail _ (.tail _ (.tail _ (.tail _ (.tail _ (.tail _ (.tail _ (.tail _ (.tail _ (.head _))))))))))))) (HV.out.big (.tail _ (.tail _ (.tail _ (.tail _ (.tail _ (.tail _ (.tail _ (.tail _ (.tail _ (.tail _ (.tail _ (.tail _ (.head _)))))))))))))) ((HGz.out.mul HZ2.out).fit)).mono ?_)
  rintro e W18 ⟨v18, rfl, hv18, hb18⟩
  replace HV := Lib.hid (HV.out.keep hb18)
  replace HB := Lib.hid (Gen.over hb18 HB.out)
  obtain ⟨Av18, cv18, lv18, rfl, _⟩ := hv18.ex
  obtain ⟨nv18, hnv18⟩ : ∃ n, lv18.length = n := ⟨_, rfl⟩
  rw [hnv18] at hv18 ⊢
  have Hv18 := Lib.hid hv18
  clear hnv18 hv18
  clear hb18
  clear d24 f24 d25 f25
  have HSm := Lib.hid (Sp.of HV.out (.cells #[.int .i64 (sg (G * x2)), .slice Av18 nv18 cv18] 24))
  have HLm := Lib.hid HB.out.size
  replace HV := Lib.hid (HV.out.ad Hv18.out)
  replace HB := Lib.hid (below_ad HB.out Hv18.out)
  by_cases hc : x2 < 0
  · have h1 : s2 = -1 := by have := HC2.out; omega
    subst h1
    have HF : Hid (Z = -(G * x2)) := Lib.hid (by rw [HZZ.out, show (x2.natAbs : Int) = -x2 by omega, Int.mul_neg])
    clear hc
    have d26 := HV.out.c0 (.tail _ (.tail _ (.tail _ (.tail _ (.tail _ (.tail _ (.tail _ (.tail _ (.tail _ (.tail _ (.tail _ (.tail _ (.tail _ (.head _))))))))))))))
    have f26 := HV.out.c1 (.tail _ (.tail _ (.tail _ (.tail _ (.tail _ (.tail _ (.tail _ (.tail _ (.tail _ (.tail _ (.tail _ (.tail _ (.tail _ (.head _))))))))))))))
    have d27 := HV.out.c0 (.head _)
    have f27 := HV.out.c1 (.head _)
    go_wp2_with (fail)
    go_must (refine (neg_valU _ (HV.out.big (.head _))).mono ?_)
    rintro e W19 ⟨v19, rfl, hv19, hb19, ha19⟩
    have HOm_19 := Lib.hid (ha19.off HSm.out.lt)
    clear ha19
    replace HV := Lib.hid (HV.out.keep hb19)
    replace HSm := Lib.hid (HSm.out.keep hb19)
    replace HB := Lib.hid (Gen.over hb19 HB.out)
    obtain ⟨Av19, cv19, lv19, rfl, _⟩ := hv19.ex
    obtain ⟨nv19, hnv19⟩ : ∃ n, lv19.length = n := ⟨_, rfl⟩
    rw [hnv19] at hv19 ⊢
    rw [hnv19] at HOm_19
    have Hv19 := Lib.hid hv19
    clear hnv19 hv19
    clear hb19
    clear d27 f27
    clear d26 f26
    have HRm := Lib.hid (HV.out.row (.head _))
    have fr0 := HRm.out.frozen 0
    have fr1 := HRm.out.frozen 1
    have hlt := HRm.out.lt
    have e0 := HRm.out.cell 0
    have e1 := HRm.out.cell 1
    replace HV := Lib.hid (HV.out.put HRm.out Hv19.out HOm_19.out HSm.out.sep (.cons _ (.cons_cons _ (.cons_cons _ (.cons_cons _ (.cons_cons _ (.cons_cons _ (.cons_cons _ (.cons_cons _ (.cons_cons _ (.cons_cons _ (.cons_cons _ (.cons_cons _ (.cons_cons _ (.cons_cons _ (.cons_cons _ (.cons_cons _ .slnil)))))))))))))))))
    replace HB := Lib.hid (below_set2 HB.out HLm.out (.int .i64 (sg (-(G * x2)))) (.slice Av19 nv19 cv19))
    clear HSm HRm Hv19
    have d28 := HV.out.c0 (.tail _ (.head _))
    have f28 := HV.out.c1 (.tail _ (.head _))
    have d29 := HV.out.c0 (.head _)
    have f29 := HV.out.c1 (.head _)
    go_wp2_with (fail)
    go_must (refine (same_to _ (HV.out.big (.tail _ (.head _))) (HV.out.big (.head _)) HF.out).mono ?_)
    rintro e W20 ⟨rfl, hb20⟩
    replace HV := Lib.hid (HV.out.keep hb20)
    replace HB := Lib.hid (Gen.over hb20 HB.out)
    clear hb20
    clear d28 f28 d29 f29
    go_wp2
    go_ret
    exact ⟨rfl, HB.out⟩
  · have h1 : ¬ s2 < 0 := by have := HC2.out; omega
    have HF : Hid (Z = G * x2) := Lib.hid (by rw [HZZ.out, show (x2.natAbs : Int) = x2 by omega])
    clear hc
    have d26 := HV.out.c0 (.tail _ (.head _))
    have f26 := HV.out.c1 (.tail _ (.head _))
    have d27 := HV.out.c0 (.head _)
    have f27 := HV.out.c1 (.head _)
    have d28 := HV.out.c0 (.tail _ (.tail _ (.tail _ (.tail _ (.tail _ (.tail _ (.tail _ (.tail _ (.tail _ (.tail _ (.tail _ (.tail _ (.tail _ (.head _))))))))))))))
    have f28 := HV.out.c1 (.tail _ (.tail _ (.tail _ (.tail _ (.tail _ (.tail _ (.tail _ (.tail _ (.tail _ (.tail _ (.tail _ (.tail _ (.tail _ (.head _))))))))))))))
    go_wp2_with (fail)
    go_must (refine (same_to _ (HV.out.big (.tail _ (.head _))) (HV.out.big (.head _)) HF.out).mono ?_)
    rintro e W19 ⟨rfl, hb19⟩
    replace HV := Lib.hid (HV.out.keep hb19)
    replace HSm := Lib.hid (HSm.out.keep hb19)
    replace HB := Lib.hid (Gen.over hb19 HB.out)
    clear hb19
    clear d26 f26 d27 f27 d28 f28
    go_wp2
    go_ret
    exact ⟨rfl, HB.out⟩
end
theorem lgcd_any {s0 s1 s2 : Int} {A0 A1 A2 : Option Addr} {n0 c0 n1 c1 n2 c2 : Nat} {l0 l1 l2 : List Int} (w : World) (hT : PowTab w) (b0 : Arg w (bigV s0 A0 n0 c0) n0 s0 l0) (b1 : Arg w (bigV s1 A1 n1 c1) n1 s1 l1) (b2 : Arg w (bigV s2 A2 n2 c2) n2 s2 l2) :
    Calls Tryd.prog 6 #[bigV s0 A0 n0 c0, bigV s1 A1 n1 c1, bigV s2 A2 n2 c2] w fun e w' => e = .returned (.bool true) ∧ Below w.heap.size w w' := by
  by_cases h0 : s0 = 0
  · by_cases h1 : s1 = 0
    · exact lgcd_A w hT b0 b1 b2 ⟨h0, h1⟩
    · exact lgcd_B w hT b0 b1 b2 ⟨h0, h1⟩
  · exact lgcd_C w hT b0 b1 b2 h0
end Go.Proofs.YtnifkianjpjahaaDoor.Bg
