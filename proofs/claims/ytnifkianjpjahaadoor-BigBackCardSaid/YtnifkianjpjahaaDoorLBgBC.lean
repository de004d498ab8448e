/- BigBack returns true: all big integers, right or not, and strings; the table of powers of ten as the text lays it. -/
import Derived.Test.YtnifkianjpjahaaDoorBhU
namespace Go.Proofs.YtnifkianjpjahaaDoor.Bg
open Go.ChangeShapes Go.WideShapes Go.ChangeAt Go.RowKit Go.Proofs.YtnifkianjpjahaaDoor.Cell
set_option linter.unusedVariables false
set_option linter.unusedSimpArgs false
set_option maxRecDepth 100000 in
set_option maxHeartbeats 16000000 in
theorem back_CN {s0 x zs : Int} {A0 : Option Addr} {n0 c0 : Nat} {l0 : List Int} (s : List UInt8) (w : World) (hT : PowTab w) (h400 : s.length ≤ 400) (hf : rd s = some zs) (hfit : ¬ Fit zs) (b0 : Arg w (bigV s0 A0 n0 c0) n0 s0 l0) (hr : rgtB s0 l0 = false) :
    Calls Tryd.prog 8 #[bigV s0 A0 n0 c0, .string ⟨s.toArray⟩] w fun e w' => e = .returned (.bool true) ∧ Below w.heap.size w w' := by
  have HT := Lib.hid (hT.keep (Gen.b_alloc (x := (.cells #[.int .i64 s0, .slice A0 n0 c0] 24)) (Below.refl _ _)))
  have HB := Lib.hid (Gen.b_alloc (x := (.cells #[.int .i64 s0, .slice A0 n0 c0] 24)) (Below.refl w.heap.size w))
  have HL4 : Hid (s.length ≤ 9223372036854775807) := Lib.hid (by omega)
  have h4 : ¬ (400 : Int) < (s.length : Int) := by omega
  have HF := Lib.hid (rd_big hf hfit)
  clear hf hfit
  have HV := Lib.hid (Vs.nil (w.alloc (.cells #[.int .i64 s0, .slice A0 n0 c0] 24)))
  have HR0 := Lib.hid (Row.new w 24 #[.int .i64 s0, .slice A0 n0 c0])
  have HA0 := Lib.hid (b0.keep (Gen.b_alloc (x := (.cells #[.int .i64 s0, .slice A0 n0 c0] 24)) (Below.refl _ _)))
  have HRR := Lib.hid hr
  clear b0 hr
  clear hT h400
  go_enter Tryd.func8, Tryd.ntmps8
  go_wp2_with (fail)
  go_must (refine (small_yes _ HT.out).mono ?_)
  rintro e W1 ⟨rfl, hb1⟩
  replace HR0 := Lib.hid (HR0.out.keep hb1)
  replace HA0 := Lib.hid (HA0.out.keep hb1)
  replace HT := Lib.hid (HT.out.keep hb1)
  replace HV := Lib.hid (HV.out.keep hb1)
  replace HB := Lib.hid (Gen.over hb1 HB.out)
  clear hb1
  go_wp2_with (fail)
  go_must (refine (read_gen s _ HL4.out HF.out.1 HF.out.2 rfl).mono ?_)
  rintro e W2 ⟨Av2, nv2, cv2, rfl, hv2, hb2⟩
  replace HR0 := Lib.hid (HR0.out.keep hb2)
  replace HA0 := Lib.hid (HA0.out.keep hb2)
  replace HT := Lib.hid (HT.out.keep hb2)
  replace HV := Lib.hid (HV.out.keep hb2)
  replace HB := Lib.hid (Gen.over hb2 HB.out)
  have Hv2 := Lib.hid hv2
  clear hv2
  clear hb2
  clear h4
  replace HR0 := Lib.hid (HR0.out.keep (Gen.b_alloc (x := (.cells #[.int .i64 0, .slice Av2 nv2 cv2] 24)) (Below.refl _ _)))
  replace HA0 := Lib.hid (HA0.out.keep (Gen.b_alloc (x := (.cells #[.int .i64 0, .slice Av2 nv2 cv2] 24)) (Below.refl _ _)))
  replace HT := Lib.hid (HT.out.keep (Gen.b_alloc (x := (.cells #[.int .i64 0, .slice Av2 nv2 cv2] 24)) (Below.refl _ _)))
  replace HV := Lib.hid (HV.out.ad Hv2.out)
  replace HB := Lib.hid (below_ad HB.out Hv2.out)
  have d1 := HV.out.c0 (.head _)
  have f1 := HV.out.c1 (.head _)
  go_wp2_with (fail)
  go_must (refine (same_to _ (HV.out.big (.head _)) (IsBig.zero _) rfl).mono ?_)
  rintro e W3 ⟨rfl, hb3⟩
  replace HR0 := Lib.hid (HR0.out.keep hb3)
  replace HA0 := Lib.hid (HA0.out.keep hb3)
  replace HT := Lib.hid (HT.out.keep hb3)
  replace HV := Lib.hid (HV.out.keep hb3)
  replace HB := Lib.hid (Gen.over hb3 HB.out)
  clear hb3
  clear d1 f1
  have p0 := HR0.out.cell 0
  have p1 := HR0.out.cell 1
  go_wp2_with (fail)
  go_must (refine (HA0.out.right false HRR.out).mono ?_)
  rintro e W4 ⟨rfl, hb4⟩
  replace HR0 := Lib.hid (HR0.out.keep hb4)
  replace HA0 := Lib.hid (HA0.out.keep hb4)
  replace HT := Lib.hid (HT.out.keep hb4)
  replace HV := Lib.hid (HV.out.keep hb4)
  replace HB := Lib.hid (Gen.over hb4 HB.out)
  clear hb4
  clear p0 p1
  have p0 := HR0.out.cell 0
  have p1 := HR0.out.cell 1
  go_wp2_with (fail)
  go_must (refine (text_no _ HA0.out HRR.out).mono ?_)
  rintro e W5 ⟨rfl, hb5⟩
  replace HR0 := Lib.hid (HR0.out.keep hb5)
  replace HA0 := Lib.hid (HA0.out.keep hb5)
  replace HT := Lib.hid (HT.out.keep hb5)
  replace HV := Lib.hid (HV.out.keep hb5)
  replace HB := Lib.hid (Gen.over hb5 HB.out)
  clear hb5
  clear p0 p1
  go_wp2
  go_ret
  exact ⟨rfl, HB.out⟩
set_option maxRecDepth 100000 in
set_option maxHeartbeats 16000000 in
theorem back_CZ {s0 x zs : Int} {A0 : Option Addr} {n0 c0 : Nat} {l0 : List Int} (s : List UInt8) (w : World) (hT : PowTab w) (h400 : s.length ≤ 400) (hf : rd s = some zs) (hfit : ¬ Fit zs) (hx : IsBig w (bigV s0 A0 n0 c0) 0) :
    Calls Tryd.prog 8 #[bigV s0 A0 n0 c0, .string ⟨s.toArray⟩] w fun e w' => e = .returned (.bool true) ∧ Below w.heap.size w w' := by
  have HT := Lib.hid (hT.keep (Gen.b_alloc (x := (.cells #[.int .i64 s0, .slice A0 n0 c0] 24)) (Below.refl _ _)))
  have HB := Lib.hid (Gen.b_alloc (x := (.cells #[.int .i64 s0, .slice A0 n0 c0] 24)) (Below.refl w.heap.size w))
  have HL4 : Hid (s.length ≤ 9223372036854775807) := Lib.hid (by omega)
  have h4 : ¬ (400 : Int) < (s.length : Int) := by omega
  have HF := Lib.hid (rd_big hf hfit)
  clear hf hfit
  have HV := Lib.hid ((Vs.nil w).ad hx)
  have hsx := hx.sgn
  have HXF := Lib.hid hx.fit
  have hs0 : s0 = 0 := hsx
  subst hs0
  clear hx hsx
  clear hT h400
  go_enter Tryd.func8, Tryd.ntmps8
  go_wp2_with (fail)
  go_must (refine (small_yes _ HT.out).mono ?_)
  rintro e W1 ⟨rfl, hb1⟩
  replace HT := Lib.hid (HT.out.keep hb1)
  replace HV := Lib.hid (HV.out.keep hb1)
  replace HB := Lib.hid (Gen.over hb1 HB.out)
  clear hb1
  go_wp2_with (fail)
  go_must (refine (read_gen s _ HL4.out HF.out.1 HF.out.2 rfl).mono ?_)
  rintro e W2 ⟨Av2, nv2, cv2, rfl, hv2, hb2⟩
  replace HT := Lib.hid (HT.out.keep hb2)
  replace HV := Lib.hid (HV.out.keep hb2)
  replace HB := Lib.hid (Gen.over hb2 HB.out)
  have Hv2 := Lib.hid hv2
  clear hv2
  clear hb2
  clear h4
  replace HT := Lib.hid (HT.out.keep (Gen.b_alloc (x := (.cells #[.int .i64 0, .slice Av2 nv2 cv2] 24)) (Below.refl _ _)))
  replace HV := Lib.hid (HV.out.ad Hv2.out)
  replace HB := Lib.hid (below_ad HB.out Hv2.out)
  have d1 := HV.out.c0 (.head _)
  have f1 := HV.out.c1 (.head _)
  go_wp2_with (fail)
  go_must (refine (same_to _ (HV.out.big (.head _)) (IsBig.zero _) rfl).mono ?_)
  rintro e W3 ⟨rfl, hb3⟩
  replace HT := Lib.hid (HT.out.keep hb3)
  replace HV := Lib.hid (HV.out.keep hb3)
  replace HB := Lib.hid (Gen.over hb3 HB.out)
  clear hb3
  clear d1 f1
  have d2 := HV.out.c0 (.tail _ (.head _))
  have f2 := HV.out.c1 (.tail _ (.head _))
  go_wp2_with (fail)
  go_must (refine (right_val (HV.out.big (.tail _ (.head _)))).mono ?_)
  rintro e W4 ⟨rfl, hb4⟩
  replace HT := Lib.hid (HT.out.keep hb4)
  replace HV := Lib.hid (HV.out.keep hb4)
  replace HB := Lib.hid (Gen.over hb4 HB.out)
  clear hb4
  clear d2 f2
  have d3 := HV.out.c0 (.tail _ (.head _))
  have f3 := HV.out.c1 (.tail _ (.head _))
  go_wp2_with (fail)
  go_must (refine (text_is _ HT.out (HV.out.big (.tail _ (.head _))) txt_zero).mono ?_)
  rintro e W5 ⟨rfl, hb5⟩
  replace HT := Lib.hid (HT.out.keep hb5)
  replace HV := Lib.hid (HV.out.keep hb5)
  replace HB := Lib.hid (Gen.over hb5 HB.out)
  clear hb5
  clear d3 f3
  go_wp2_with (fail)
  go_must (refine (read_gen [48] _ (by decide) (rd_fit (z := 0) (by decide) (by decide)).1 (rd_fit (z := 0) (by decide) (by decide)).2 rfl).mono ?_)
  rintro e W6 ⟨Av6, nv6, cv6, rfl, hv6, hb6⟩
  replace HT := Lib.hid (HT.out.keep hb6)
  replace HV := Lib.hid (HV.out.keep hb6)
  replace HB := Lib.hid (Gen.over hb6 HB.out)
  have Hv6 := Lib.hid hv6
  clear hv6
  clear hb6
  replace HT := Lib.hid (HT.out.keep (Gen.b_alloc (x := (.cells #[.int .i64 0, .slice Av6 nv6 cv6] 24)) (Below.refl _ _)))
  replace HV := Lib.hid (HV.out.ad Hv6.out)
  replace HB := Lib.hid (below_ad HB.out Hv6.out)
  have d4 := HV.out.c0 (.head _)
  have f4 := HV.out.c1 (.head _)
  have d5 := HV.out.c0 (.tail _ (.tail _ (.head _)))
  have f5 := HV.out.c1 (.tail _ (.tail _ (.head _)))
  go_wp2_with (fail)
  go_must (refine (same_to _ (HV.out.big (.head _)) (HV.out.big (.tail _ (.tail _ (.head _)))) rfl).mono ?_)
  rintro e W7 ⟨rfl, hb7⟩
  replace HT := Lib.hid (HT.out.keep hb7)
  replace HV := Lib.hid (HV.out.keep hb7)
  replace HB := Lib.hid (Gen.over hb7 HB.out)
  clear hb7
  clear d4 f4 d5 f5
  have d6 := HV.out.c0 (.tail _ (.tail _ (.head _)))
  have f6 := HV.out.c1 (.tail _ (.tail _ (.head _)))
  go_wp2
  go_ret
  exact ⟨rfl, HB.out⟩
set_option maxRecDepth 100000 in
set_option maxHeartbeats 16000000 in
theorem back_CD {s0 x zs : Int} {A0 : Option Addr} {n0 c0 : Nat} {l0 : List Int} (s : List UInt8) (w : World) (hT : PowTab w) (h400 : s.length ≤ 400) (hf : rd s = some zs) (hfit : ¬ Fit zs) (hx : IsBig w (bigV s0 A0 n0 c0) x) (hx0 : x ≠ 0) (h1 : Fit (x * 10 + 7 * s0)) :
    Calls Tryd.prog 8 #[bigV s0 A0 n0 c0, .string ⟨s.toArray⟩] w fun e w' => e = .returned (.bool true) ∧ Below w.heap.size w w' := by
  have HT := Lib.hid (hT.keep (Gen.b_alloc (x := (.cells #[.int .i64 s0, .slice A0 n0 c0] 24)) (Below.refl _ _)))
  have HB := Lib.hid (Gen.b_alloc (x := (.cells #[.int .i64 s0, .slice A0 n0 c0] 24)) (Below.refl w.heap.size w))
  have HL4 : Hid (s.length ≤ 9223372036854775807) := Lib.hid (by omega)
  have h4 : ¬ (400 : Int) < (s.length : Int) := by omega
  have HF := Lib.hid (rd_big hf hfit)
  clear hf hfit
  have HV := Lib.hid ((Vs.nil w).ad hx)
  have hsx := hx.sgn
  have HXF := Lib.hid hx.fit
  have hsc := sg_cases x
  rw [← hsx] at hsc
  have hs0 : (s0 == 0) = false := by simp; omega
  have hw7 : IntKind.i64.wrap (7 * s0) = 7 * s0 := IntWalk.i64_in _ (by omega)
  have HI7 : Hid (I64 (7 * s0)) := Lib.hid (by unfold I64; omega)
  have HS0x := Lib.hid hsx.symm
  have HRD : Hid (rd (txt x ++ [55]) = some (x * 10 + 7 * s0)) := Lib.hid (by rw [txt_more hx0, hsx]; exact rd_txt _)
  have HTL := Lib.hid (txt_len hx.fit)
  have HM : Hid (Fit (x * 10)) := Lib.hid (by unfold Fit at h1 ⊢; omega)
  have HG := Lib.hid h1
  obtain ⟨t1, ht1⟩ : ∃ t, sg (x * 10) = t := ⟨_, rfl⟩
  have HT1 := Lib.hid ht1
  obtain ⟨t2, ht2⟩ : ∃ t, sg (x * 10 + 7 * s0) = t := ⟨_, rfl⟩
  have HT2 := Lib.hid ht2
  obtain ⟨t3, ht3⟩ : ∃ t, sg (x * 10 + 7 * s0) = t := ⟨_, rfl⟩
  have HT3 := Lib.hid ht3
  clear ht1 ht2 ht3 hsc hsx hx hx0 h1
  clear hT h400
  go_enter Tryd.func8, Tryd.ntmps8
  go_wp2_with (fail)
  go_must (refine (small_yes _ HT.out).mono ?_)
  rintro e W1 ⟨rfl, hb1⟩
  replace HT := Lib.hid (HT.out.keep hb1)
  replace HV := Lib.hid (HV.out.keep hb1)
  replace HB := Lib.hid (Gen.over hb1 HB.out)
  clear hb1
  go_wp2_with (fail)
  go_must (refine (read_gen s _ HL4.out HF.out.1 HF.out.2 rfl).mono ?_)
  rintro e W2 ⟨Av2, nv2, cv2, rfl, hv2, hb2⟩
  replace HT := Lib.hid (HT.out.keep hb2)
  replace HV := Lib.hid (HV.out.keep hb2)
  replace HB := Lib.hid (Gen.over hb2 HB.out)
  have Hv2 := Lib.hid hv2
  clear hv2
  clear hb2
  clear h4
  replace HT := Lib.hid (HT.out.keep (Gen.b_alloc (x := (.cells #[.int .i64 0, .slice Av2 nv2 cv2] 24)) (Below.refl _ _)))
  replace HV := Lib.hid (HV.out.ad Hv2.out)
  replace HB := Lib.hid (below_ad HB.out Hv2.out)
  have d1 := HV.out.c0 (.head _)
  have f1 := HV.out.c1 (.head _)
  go_wp2_with (fail)
  go_must (refine (same_to _ (HV.out.big (.head _)) (IsBig.zero _) rfl).mono ?_)
  rintro e W3 ⟨rfl, hb3⟩
  replace HT := Lib.hid (HT.out.keep hb3)
  replace HV := Lib.hid (HV.out.keep hb3)
  replace HB := Lib.hid (Gen.over hb3 HB.out)
  clear hb3
  clear d1 f1
  have d2 := HV.out.c0 (.tail _ (.head _))
  have f2 := HV.out.c1 (.tail _ (.head _))
  go_wp2_with (fail)
  go_must (refine (right_val (HV.out.big (.tail _ (.head _)))).mono ?_)
  rintro e W4 ⟨rfl, hb4⟩
  replace HT := Lib.hid (HT.out.keep hb4)
  replace HV := Lib.hid (HV.out.keep hb4)
  replace HB := Lib.hid (Gen.over hb4 HB.out)
  clear hb4
  clear d2 f2
  have d3 := HV.out.c0 (.tail _ (.head _))
  have f3 := HV.out.c1 (.tail _ (.head _))
  go_wp2_with (fail)
  go_must (refine (text_is _ HT.out (HV.out.big (.tail _ (.head _))) rfl).mono ?_)
  rintro e W5 ⟨rfl, hb5⟩
  replace HT := Lib.hid (HT.out.keep hb5)
  replace HV := Lib.hid (HV.out.keep hb5)
  replace HB := Lib.hid (Gen.over hb5 HB.out)
  clear hb5
  clear d3 f3
  go_wp2_with (fail)
  go_must (refine (read_gen (txt x) _ (by have := HTL.out; omega) (rd_fit (rd_txt x) HXF.out).1 (rd_fit (rd_txt x) HXF.out).2 HS0x.out).mono ?_)
  rintro e W6 ⟨Av6, nv6, cv6, rfl, hv6, hb6⟩
  replace HT := Lib.hid (HT.out.keep hb6)
  replace HV := Lib.hid (HV.out.keep hb6)
  replace HB := Lib.hid (Gen.over hb6 HB.out)
  have Hv6 := Lib.hid hv6
  clear hv6
  clear hb6
  replace HT := Lib.hid (HT.out.keep (Gen.b_alloc (x := (.cells #[.int .i64 s0, .slice Av6 nv6 cv6] 24)) (Below.refl _ _)))
  replace HV := Lib.hid (HV.out.ad Hv6.out)
  replace HB := Lib.hid (below_ad HB.out Hv6.out)
  have d4 := HV.out.c0 (.head _)
  have f4 := HV.out.c1 (.head _)
  have d5 := HV.out.c0 (.tail _ (.tail _ (.head _)))
  have f5 := HV.out.c1 (.tail _ (.tail _ (.head _)))
  go_wp2_with (fail)
  go_must (refine (same_to _ (HV.out.big (.head _)) (HV.out.big (.tail _ (.tail _ (.head _)))) rfl).mono ?_)
  rintro e W7 ⟨rfl, hb7⟩
  replace HT := Lib.hid (HT.out.keep hb7)
  replace HV := Lib.hid (HV.out.keep hb7)
  replace HB := Lib.hid (Gen.over hb7 HB.out)
  clear hb7
  clear d4 f4 d5 f5
  have d6 := HV.out.c0 (.tail _ (.tail _ (.head _)))
  have f6 := HV.out.c1 (.tail _ (.tail _ (.head _)))
  go_wp2_with (fail)
  clear d6 f6
  clear hs0
  clear HT
  have HS0 : Hid (Below W7.heap.size W7 W7 ∧ W7.cell? ⟨w.heap.size, 0, none⟩ = some (.int .i64 s0) ∧ W7.cell? ⟨w.heap.size, 1, none⟩ = some (.slice A0 n0 c0)) := Lib.hid ⟨Below.refl _ _, HV.out.c0 (.tail _ (.tail _ (.head _))), HV.out.c1 (.tail _ (.tail _ (.head _)))⟩
  have HPa := Lib.hid ((HV.out.row (.tail _ (.tail _ (.head _)))).lt)
  have HPr := Lib.hid ((HV.out.row (.tail _ (.tail _ (.head _)))).lt)
  have HXr := Lib.hid (HV.out.big (.tail _ (.tail _ (.head _))))
  refine wp_join (RJg w t1 (x * 10) 0 [(W6.heap.size, bigV s0 Av6 nv6 cv6, x), (W2.heap.size, bigV 0 Av2 nv2 cv2, 0), (w.heap.size, bigV s0 A0 n0 c0, x)] (fun Ao no co => [(91, bigV s0 A0 n0 c0), (92, bigV (sg 10) Ao no co)]) 93 90 94 95 11 12) ?_ ?_
  · go_region_held3 (fun W' : World => Below W7.heap.size W7 W' ∧ W'.cell? ⟨w.heap.size, 0, none⟩ = some (.int .i64 s0) ∧ W'.cell? ⟨w.heap.size, 1, none⟩ = some (.slice A0 n0 c0))
      (first | exact hS8 | exact hS5 | exact ⟨HS0.out.1.drew, HS0.out.2⟩ | exact ⟨Gen.b_alloc (And.left (by assumption)), Gen.al (And.left (And.right (by assumption))), Gen.al (And.right (And.right (by assumption)))⟩ | exact reg_put (by assumption) HPr.out (by first | exact Nat.le_refl _ | exact hS8.1.size | exact hS5.1.size) | fail "keep")
      (first
        | (go_at_call 16; (with_reducible refine (of_val 10 _ (by unfold I64; omega)).mono ?_); rintro e' w' ⟨vo, rfl, ho, hb1⟩; obtain ⟨Ao, co, lo, rfl, _⟩ := ho.ex; (try have hRw : Row w' W7.heap.size 24 #[.int .i64 0, .slice none 0 0] := (rowd _ _ _).keep hb1); have hS5 := (show (Below W7.heap.size W7 w' ∧ w'.cell? ⟨w.heap.size, 0, none⟩ = some (.int .i64 s0) ∧ w'.cell? ⟨w.heap.size, 1, none⟩ = some (.slice A0 n0 c0)) from ⟨Gen.over hb1 (And.left (by assumption)), Gen.keep hb1 (And.left (And.right (by assumption))), Gen.keep hb1 (And.right (And.right (by assumption)))⟩))
        | (go_at_call 14; (with_reducible refine (mul_gen _ (HXr.out.keep (And.left (by assumption))) (by first | exact ho | exact ho.keep (Gen.b_alloc (Below.refl _ _))) (fz_yes HM.out) (fe_yes HM.out) HT1.out).mono ?_); rintro e' w' ⟨Ar, nr, cr, rfl, hr, hb2⟩; (first | have hRw := Row.keep hRw hb2 | have hRw := (Row.new _ _ _).keep hb2 | have hRw := (rowd _ _ _).keep hb2 | skip); (try have fz0 := hRw.frozen 0); (try have fz1 := hRw.frozen 1); (try have cz0 := hRw.cell 0); (try have cz1 := hRw.cell 1); (try have hRl := hRw.lt); have hS8 := (show (Below W7.heap.size W7 w' ∧ w'.cell? ⟨w.heap.size, 0, none⟩ = some (.int .i64 s0) ∧ w'.cell? ⟨w.heap.size, 1, none⟩ = some (.slice A0 n0 c0)) from ⟨Gen.over hb2 (And.left (by assumption)), Gen.keep hb2 (And.left (And.right (by assumption))), Gen.keep hb2 (And.right (And.right (by assumption)))⟩))
        | fail "arm")
    all_goals
      exact RJg.mk' _ Ao lo.length co Ar nr cr (by simp only [upd, List.cons_append, List.nil_append, List.foldl, List.setIfInBounds_toArray, List.set_cons_zero, List.set_cons_succ] <;> rfl)
        (by first | exact Vs.ad (HV.out.keep hS8.1) hr | exact Vs.reg HV.out hS8.1 hS5.1.size hRw hr | exact Vs.reg HV.out hS8.1 (Nat.le_refl _) hRw hr)
        (Gen.over (And.left (by assumption)) HB.out)
  clear HS0 HPa HPr HXr HV HB
  rintro a2 Yten ⟨gten, Aoten, noten, coten, Aten, nten, cten, rfl, HV, HB⟩
  simp only [upd, List.cons_append, List.nil_append, List.foldl, List.setIfInBounds_toArray, List.set_cons_zero, List.set_cons_succ]
  go_wp2_with (fail)
  have HS0 : Hid (Below Yten.heap.size Yten Yten ∧ Yten.cell? ⟨gten, 0, none⟩ = some (.int .i64 t1) ∧ Yten.cell? ⟨gten, 1, none⟩ = some (.slice Aten nten cten) ∧ Yten.cell? ⟨w.heap.size, 0, none⟩ = some (.int .i64 s0)) := Lib.hid ⟨Below.refl _ _, HV.out.c0 (.head _), HV.out.c1 (.head _), HV.out.c0 (.tail _ (.tail _ (.tail _ (.head _))))⟩
  have HPa := Lib.hid ((HV.out.row (.tail _ (.tail _ (.tail _ (.head _))))).lt)
  have HPr := Lib.hid ((HV.out.row (.head _)).lt)
  have HXr := Lib.hid (HV.out.big (.head _))
  refine wp_join (RJg w t2 (x * 10 + 7 * s0) 0 [(gten, bigV t1 Aten nten cten, (x * 10)), (W6.heap.size, bigV s0 Av6 nv6 cv6, x), (W2.heap.size, bigV 0 Av2 nv2 cv2, 0), (w.heap.size, bigV s0 A0 n0 c0, x)] (fun Ao no co => [(97, bigV t1 Aten nten cten), (98, .pointer (some ⟨w.heap.size, 0, none⟩)), (99, .int .i64 s0), (100, .int .i64 (7 * s0)), (101, bigV (sg (7 * s0)) Ao no co)]) 102 96 103 104 13 14) ?_ ?_
  · go_region_held3 (fun W' : World => Below Yten.heap.size Yten W' ∧ W'.cell? ⟨gten, 0, none⟩ = some (.int .i64 t1) ∧ W'.cell? ⟨gten, 1, none⟩ = some (.slice Aten nten cten) ∧ W'.cell? ⟨w.heap.size, 0, none⟩ = some (.int .i64 s0))
      (first | exact hS8 | exact hS5 | exact ⟨HS0.out.1.drew, HS0.out.2⟩ | exact ⟨Gen.b_alloc (And.left (by assumption)), Gen.al (And.left (And.right (by assumption))), Gen.al (And.left (And.right (And.right (by assumption)))), Gen.al (And.right (And.right (And.right (by assumption))))⟩ | exact reg_put3 (by assumption) HPa.out HPr.out (by first | exact Nat.le_refl _ | exact hS8.1.size | exact hS5.1.size) | fail "keep")
      (first
        | (go_at_call 16; (with_reducible refine (of_val (7 * s0) _ HI7.out).mono ?_); rintro e' w' ⟨vo, rfl, ho, hb1⟩; obtain ⟨Ao, co, lo, rfl, _⟩ := ho.ex; (try have hRw : Row w' Yten.heap.size 24 #[.int .i64 0, .slice none 0 0] := (rowd _ _ _).keep hb1); have hS5 := (show (Below Yten.heap.size Yten w' ∧ w'.cell? ⟨gten, 0, none⟩ = some (.int .i64 t1) ∧ w'.cell? ⟨gten, 1, none⟩ = some (.slice Aten nten cten) ∧ w'.cell? ⟨w.heap.size, 0, none⟩ = some (.int .i64 s0)) from ⟨Gen.over hb1 (And.left (by assumption)), Gen.keep hb1 (And.left (And.right (by assumption))), Gen.keep hb1 (And.left (And.right (And.right (by assumption)))), Gen.keep hb1 (And.right (And.right (And.right (by assumption))))⟩))
        | (go_at_call 12; (with_reducible refine (add_gen _ (HXr.out.keep (And.left (by assumption))) (by first | exact ho | exact ho.keep (Gen.b_alloc (Below.refl _ _))) (fz_yes HG.out) (fe_yes HG.out) HT2.out).mono ?_); rintro e' w' ⟨Ar, nr, cr, rfl, hr, hb2⟩; (first | have hRw := Row.keep hRw hb2 | have hRw := (Row.new _ _ _).keep hb2 | have hRw := (rowd _ _ _).keep hb2 | skip); (try have fz0 := hRw.frozen 0); (try have fz1 := hRw.frozen 1); (try have cz0 := hRw.cell 0); (try have cz1 := hRw.cell 1); (try have hRl := hRw.lt); have hS8 := (show (Below Yten.heap.size Yten w' ∧ w'.cell? ⟨gten, 0, none⟩ = some (.int .i64 t1) ∧ w'.cell? ⟨gten, 1, none⟩ = some (.slice Aten nten cten) ∧ w'.cell? ⟨w.heap.size, 0, none⟩ = some (.int .i64 s0)) from ⟨Gen.over hb2 (And.left (by assumption)), Gen.keep hb2 (And.left (And.right (by assumption))), Gen.keep hb2 (And.left (And.right (And.right (by assumption)))), Gen.keep hb2 (And.right (And.right (And.right (by assumption))))⟩))
        | fail "arm")
    all_goals
      exact RJg.mk' _ Ao lo.length co Ar nr cr (by simp only [upd, List.cons_append, List.nil_append, List.foldl, List.setIfInBounds_toArray, List.set_cons_zero, List.set_cons_succ] <;> rfl)
        (by first | exact Vs.ad (HV.out.keep hS8.1) hr | exact Vs.reg HV.out hS8.1 hS5.1.size hRw hr | exact Vs.reg HV.out hS8.1 (Nat.le_refl _) hRw hr)
        (Gen.over (And.left (by assumption)) HB.out)
  clear HS0 HPa HPr HXr HV HB
  rintro a2 Ysev ⟨gsev, Aosev, nosev, cosev, Asev, nsev, csev, rfl, HV, HB⟩
  simp only [upd, List.cons_append, List.nil_append, List.foldl, List.setIfInBounds_toArray, List.set_cons_zero, List.set_cons_succ]
  go_wp2_with (fail)
  have hl1 := HTL.out
  have hcat : ¬ (9223372036854775807 < (txt x).length + 1) := by omega
  have hcat2 : ¬ (9223372036854775806 < (txt x).length) := by omega
  have hcat3 : ¬ ((9223372036854775807 : Int) < ((txt x).length : Int) + 1) := by omega
  have hcat4 : ¬ ((9223372036854775806 : Int) < ((txt x).length : Int)) := by omega
  clear hl1
  go_wp2_with (fail)
  · exact absurd (by assumption) hcat
  rw [cat7]
  go_must (refine (read_gen (txt x ++ [55]) _ (by have := HTL.out; simp; omega) (rd_fit HRD.out HG.out).1 (rd_fit HRD.out HG.out).2 HT3.out).mono ?_)
  rintro e W8 ⟨Av8, nv8, cv8, rfl, hv8, hb8⟩
  replace HV := Lib.hid (HV.out.keep hb8)
  replace HB := Lib.hid (Gen.over hb8 HB.out)
  have Hv8 := Lib.hid hv8
  clear hv8
  clear hb8
  replace HV := Lib.hid (HV.out.ad Hv8.out)
  replace HB := Lib.hid (below_ad HB.out Hv8.out)
  try clear hcat hcat2 hcat3 hcat4
  have d7 := HV.out.c0 (.head _)
  have f7 := HV.out.c1 (.head _)
  have d8 := HV.out.c0 (.tail _ (.head _))
  have f8 := HV.out.c1 (.tail _ (.head _))
  go_wp2_with (fail)
  go_must (refine (same_to _ (HV.out.big (.head _)) (HV.out.big (.tail _ (.head _))) rfl).mono ?_)
  rintro e W9 ⟨rfl, hb9⟩
  replace HV := Lib.hid (HV.out.keep hb9)
  replace HB := Lib.hid (Gen.over hb9 HB.out)
  clear hb9
  clear d7 f7 d8 f8
  go_wp2
  go_ret
  exact ⟨rfl, HB.out⟩
set_option maxRecDepth 100000 in
set_option maxHeartbeats 16000000 in
theorem back_CE {s0 x zs : Int} {A0 : Option Addr} {n0 c0 : Nat} {l0 : List Int} (s : List UInt8) (w : World) (hT : PowTab w) (h400 : s.length ≤ 400) (hf : rd s = some zs) (hfit : ¬ Fit zs) (hx : IsBig w (bigV s0 A0 n0 c0) x) (hx0 : x ≠ 0) (h1 : ¬ Fit (x * 10)) :
    Calls Tryd.prog 8 #[bigV s0 A0 n0 c0, .string ⟨s.toArray⟩] w fun e w' => e = .returned (.bool true) ∧ Below w.heap.size w w' := by
  have HT := Lib.hid (hT.keep (Gen.b_alloc (x := (.cells #[.int .i64 s0, .slice A0 n0 c0] 24)) (Below.refl _ _)))
  have HB := Lib.hid (Gen.b_alloc (x := (.cells #[.int .i64 s0, .slice A0 n0 c0] 24)) (Below.refl w.heap.size w))
  have HL4 : Hid (s.length ≤ 9223372036854775807) := Lib.hid (by omega)
  have h4 : ¬ (400 : Int) < (s.length : Int) := by omega
  have HF := Lib.hid (rd_big hf hfit)
  clear hf hfit
  have HV := Lib.hid ((Vs.nil w).ad hx)
  have hsx := hx.sgn
  have HXF := Lib.hid hx.fit
  have hsc := sg_cases x
  rw [← hsx] at hsc
  have hs0 : (s0 == 0) = false := by simp; omega
  have hw7 : IntKind.i64.wrap (7 * s0) = 7 * s0 := IntWalk.i64_in _ (by omega)
  have HI7 : Hid (I64 (7 * s0)) := Lib.hid (by unfold I64; omega)
  have HS0x := Lib.hid hsx.symm
  have HRD : Hid (rd (txt x ++ [55]) = some (x * 10 + 7 * s0)) := Lib.hid (by rw [txt_more hx0, hsx]; exact rd_txt _)
  have HTL := Lib.hid (txt_len hx.fit)
  have HM := Lib.hid h1
  have HG : Hid (¬ Fit (x * 10 + 7 * s0)) := Lib.hid (by unfold Fit at h1 ⊢; omega)
  have HG7 : Hid (Fit (0 + 7 * s0)) := Lib.hid (by have := pw_lt (show 1 < 60 by decide); rw [pw_1] at this; unfold Fit; omega)
  obtain ⟨t1, ht1⟩ : ∃ t, sg 0 = t := ⟨_, rfl⟩
  have HT1 := Lib.hid ht1
  obtain ⟨t2, ht2⟩ : ∃ t, sg (0 + 7 * s0) = t := ⟨_, rfl⟩
  have HT2 := Lib.hid ht2
  obtain ⟨t3, ht3⟩ : ∃ t, sg 0 = t := ⟨_, rfl⟩
  have HT3 := Lib.hid ht3
  clear ht1 ht2 ht3 hsc hsx hx hx0 h1
  clear hT h400
  go_enter Tryd.func8, Tryd.ntmps8
  go_wp2_with (fail)
  go_must (refine (small_yes _ HT.out).mono ?_)
  rintro e W1 ⟨rfl, hb1⟩
  replace HT := Lib.hid (HT.out.keep hb1)
  replace HV := Lib.hid (HV.out.keep hb1)
  replace HB := Lib.hid (Gen.over hb1 HB.out)
  clear hb1
  go_wp2_with (fail)
  go_must (refine (read_gen s _ HL4.out HF.out.1 HF.out.2 rfl).mono ?_)
  rintro e W2 ⟨Av2, nv2, cv2, rfl, hv2, hb2⟩
  replace HT := Lib.hid (HT.out.keep hb2)
  replace HV := Lib.hid (HV.out.keep hb2)
  replace HB := Lib.hid (Gen.over hb2 HB.out)
  have Hv2 := Lib.hid hv2
  clear hv2
  clear hb2
  clear h4
  replace HT := Lib.hid (HT.out.keep (Gen.b_alloc (x := (.cells #[.int .i64 0, .slice Av2 nv2 cv2] 24)) (Below.refl _ _)))
  replace HV := Lib.hid (HV.out.ad Hv2.out)
  replace HB := Lib.hid (below_ad HB.out Hv2.out)
  have d1 := HV.out.c0 (.head _)
  have f1 := HV.out.c1 (.head _)
  go_wp2_with (fail)
  go_must (refine (same_to _ (HV.out.big (.head _)) (IsBig.zero _) rfl).mono ?_)
  rintro e W3 ⟨rfl, hb3⟩
  replace HT := Lib.hid (HT.out.keep hb3)
  replace HV := Lib.hid (HV.out.keep hb3)
  replace HB := Lib.hid (Gen.over hb3 HB.out)
  clear hb3
  clear d1 f1
  have d2 := HV.out.c0 (.tail _ (.head _))
  have f2 := HV.out.c1 (.tail _ (.head _))
  go_wp2_with (fail)
  go_must (refine (right_val (HV.out.big (.tail _ (.head _)))).mono ?_)
  rintro e W4 ⟨rfl, hb4⟩
  replace HT := Lib.hid (HT.out.keep hb4)
  replace HV := Lib.hid (HV.out.keep hb4)
  replace HB := Lib.hid (Gen.over hb4 HB.out)
  clear hb4
  clear d2 f2
  have d3 := HV.out.c0 (.tail _ (.head _))
  have f3 := HV.out.c1 (.tail _ (.head _))
  go_wp2_with (fail)
  go_must (refine (text_is _ HT.out (HV.out.big (.tail _ (.head _))) rfl).mono ?_)
  rintro e W5 ⟨rfl, hb5⟩
  replace HT := Lib.hid (HT.out.keep hb5)
  replace HV := Lib.hid (HV.out.keep hb5)
  replace HB := Lib.hid (Gen.over hb5 HB.out)
  clear hb5
  clear d3 f3
  go_wp2_with (fail)
  go_must (refine (read_gen (txt x) _ (by have := HTL.out; omega) (rd_fit (rd_txt x) HXF.out).1 (rd_fit (rd_txt x) HXF.out).2 HS0x.out).mono ?_)
  rintro e W6 ⟨Av6, nv6, cv6, rfl, hv6, hb6⟩
  replace HT := Lib.hid (HT.out.keep hb6)
  replace HV := Lib.hid (HV.out.keep hb6)
  replace HB := Lib.hid (Gen.over hb6 HB.out)
  have Hv6 := Lib.hid hv6
  clear hv6
  clear hb6
  replace HT := Lib.hid (HT.out.keep (Gen.b_alloc (x := (.cells #[.int .i64 s0, .slice Av6 nv6 cv6] 24)) (Below.refl _ _)))
  replace HV := Lib.hid (HV.out.ad Hv6.out)
  replace HB := Lib.hid (below_ad HB.out Hv6.out)
  have d4 := HV.out.c0 (.head _)
  have f4 := HV.out.c1 (.head _)
  have d5 := HV.out.c0 (.tail _ (.tail _ (.head _)))
  have f5 := HV.out.c1 (.tail _ (.tail _ (.head _)))
  go_wp2_with (fail)
  go_must (refine (same_to _ (HV.out.big (.head _)) (HV.out.big (.tail _ (.tail _ (.head _)))) rfl).mono ?_)
  rintro e W7 ⟨rfl, hb7⟩
  replace HT := Lib.hid (HT.out.keep hb7)
  replace HV := Lib.hid (HV.out.keep hb7)
  replace HB := Lib.hid (Gen.over hb7 HB.out)
  clear hb7
  clear d4 f4 d5 f5
  have d6 := HV.out.c0 (.tail _ (.tail _ (.head _)))
  have f6 := HV.out.c1 (.tail _ (.tail _ (.head _)))
  go_wp2_with (fail)
  clear d6 f6
  clear hs0
  clear HT
  have HS0 : Hid (Below W7.heap.size W7 W7 ∧ W7.cell? ⟨w.heap.size, 0, none⟩ = some (.int .i64 s0) ∧ W7.cell? ⟨w.heap.size, 1, none⟩ = some (.slice A0 n0 c0)) := Lib.hid ⟨Below.refl _ _, HV.out.c0 (.tail _ (.tail _ (.head _))), HV.out.c1 (.tail _ (.tail _ (.head _)))⟩
  have HPa := Lib.hid ((HV.out.row (.tail _ (.tail _ (.head _)))).lt)
  have HPr := Lib.hid ((HV.out.row (.tail _ (.tail _ (.head _)))).lt)
  have HXr := Lib.hid (HV.out.big (.tail _ (.tail _ (.head _))))
  refine wp_join (RJg w t1 0 6 [(W6.heap.size, bigV s0 Av6 nv6 cv6, x), (W2.heap.size, bigV 0 Av2 nv2 cv2, 0), (w.heap.size, bigV s0 A0 n0 c0, x)] (fun Ao no co => [(91, bigV s0 A0 n0 c0), (92, bigV (sg 10) Ao no co)]) 93 90 94 95 11 12) ?_ ?_
  · go_region_held3 (fun W' : World => Below W7.heap.size W7 W' ∧ W'.cell? ⟨w.heap.size, 0, none⟩ = some (.int .i64 s0) ∧ W'.cell? ⟨w.heap.size, 1, none⟩ = some (.slice A0 n0 c0))
      (first | exact hS8 | exact hS5 | exact ⟨HS0.out.1.drew, HS0.out.2⟩ | exact ⟨Gen.b_alloc (And.left (by assumption)), Gen.al (And.left (And.right (by assumption))), Gen.al (And.right (And.right (by assumption)))⟩ | exact reg_put (by assumption) HPr.out (by first | exact Nat.le_refl _ | exact hS8.1.size | exact hS5.1.size) | fail "keep")
      (first
        | (go_at_call 16; (with_reducible refine (of_val 10 _ (by unfold I64; omega)).mono ?_); rintro e' w' ⟨vo, rfl, ho, hb1⟩; obtain ⟨Ao, co, lo, rfl, _⟩ := ho.ex; (try have hRw : Row w' W7.heap.size 24 #[.int .i64 0, .slice none 0 0] := (rowd _ _ _).keep hb1); have hS5 := (show (Below W7.heap.size W7 w' ∧ w'.cell? ⟨w.heap.size, 0, none⟩ = some (.int .i64 s0) ∧ w'.cell? ⟨w.heap.size, 1, none⟩ = some (.slice A0 n0 c0)) from ⟨Gen.over hb1 (And.left (by assumption)), Gen.keep hb1 (And.left (And.right (by assumption))), Gen.keep hb1 (And.right (And.right (by assumption)))⟩))
        | (go_at_call 14; (with_reducible refine (mul_gen _ (HXr.out.keep (And.left (by assumption))) (by first | exact ho | exact ho.keep (Gen.b_alloc (Below.refl _ _))) (fz_no HM.out) (fe_no HM.out) HT1.out).mono ?_); rintro e' w' ⟨Ar, nr, cr, rfl, hr, hb2⟩; (first | have hRw := Row.keep hRw hb2 | have hRw := (Row.new _ _ _).keep hb2 | have hRw := (rowd _ _ _).keep hb2 | skip); (try have fz0 := hRw.frozen 0); (try have fz1 := hRw.frozen 1); (try have cz0 := hRw.cell 0); (try have cz1 := hRw.cell 1); (try have hRl := hRw.lt); have hS8 := (show (Below W7.heap.size W7 w' ∧ w'.cell? ⟨w.heap.size, 0, none⟩ = some (.int .i64 s0) ∧ w'.cell? ⟨w.heap.size, 1, none⟩ = some (.slice A0 n0 c0)) from ⟨Gen.over hb2 (And.left (by assumption)), Gen.keep hb2 (And.left (And.right (by assumption))), Gen.keep hb2 (And.right (And.right (by assumption)))⟩))
        | fail "arm")
    all_goals
      exact RJg.mk' _ Ao lo.length co Ar nr cr (by simp only [upd, List.cons_append, List.nil_append, List.foldl, List.setIfInBounds_toArray, List.set_cons_zero, List.set_cons_succ] <;> rfl)
        (by first | exact Vs.ad (HV.out.keep hS8.1) hr | exact Vs.reg HV.out hS8.1 hS5.1.size hRw hr | exact Vs.reg HV.out hS8.1 (Nat.le_refl _) hRw hr)
        (Gen.over (And.left (by assumption)) HB.out)
  clear HS0 HPa HPr HXr HV HB
  rintro a2 Yten ⟨gten, Aoten, noten, coten, Aten, nten, cten, rfl, HV, HB⟩
  simp only [upd, List.cons_append, List.nil_append, List.foldl, List.setIfInBounds_toArray, List.set_cons_zero, List.set_cons_succ]
  go_wp2_with (fail)
  have HS0 : Hid (Below Yten.heap.size Yten Yten ∧ Yten.cell? ⟨gten, 0, none⟩ = some (.int .i64 t1) ∧ Yten.cell? ⟨gten, 1, none⟩ = some (.slice Aten nten cten) ∧ Yten.cell? ⟨w.heap.size, 0, none⟩ = some (.int .i64 s0)) := Lib.hid ⟨Below.refl _ _, HV.out.c0 (.head _), HV.out.c1 (.head _), HV.out.c0 (.tail _ (.tail _ (.tail _ (.head _))))⟩
  have HPa := Lib.hid ((HV.out.row (.tail _ (.tail _ (.tail _ (.head _))))).lt)
  have HPr := Lib.hid ((HV.out.row (.head _)).lt)
  have HXr := Lib.hid (HV.out.big (.head _))
  refine wp_join (RJg w t2 (0 + 7 * s0) 0 [(gten, bigV t1 Aten nten cten, 0), (W6.heap.size, bigV s0 Av6 nv6 cv6, x), (W2.heap.size, bigV 0 Av2 nv2 cv2, 0), (w.heap.size, bigV s0 A0 n0 c0, x)] (fun Ao no co => [(97, bigV t1 Aten nten cten), (98, .pointer (some ⟨w.heap.size, 0, none⟩)), (99, .int .i64 s0), (100, .int .i64 (7 * s0)), (101, bigV (sg (7 * s0)) Ao no co)]) 102 96 103 104 13 14) ?_ ?_
  · go_region_held3 (fun W' : World => Below Yten.heap.size Yten W' ∧ W'.cell? ⟨gten, 0, none⟩ = some (.int .i64 t1) ∧ W'.cell? ⟨gten, 1, none⟩ = some (.slice Aten nten cten) ∧ W'.cell? ⟨w.heap.size, 0, none⟩ = some (.int .i64 s0))
      (first | exact hS8 | exact hS5 | exact ⟨HS0.out.1.drew, HS0.out.2⟩ | exact ⟨Gen.b_alloc (And.left (by assumption)), Gen.al (And.left (And.right (by assumption))), Gen.al (And.left (And.right (And.right (by assumption)))), Gen.al (And.right (And.right (And.right (by assumption))))⟩ | exact reg_put3 (by assumption) HPa.out HPr.out (by first | exact Nat.le_refl _ | exact hS8.1.size | exact hS5.1.size) | fail "keep")
      (first
        | (go_at_call 16; (with_reducible refine (of_val (7 * s0) _ HI7.out).mono ?_); rintro e' w' ⟨vo, rfl, ho, hb1⟩; obtain ⟨Ao, co, lo, rfl, _⟩ := ho.ex; (try have hRw : Row w' Yten.heap.size 24 #[.int .i64 0, .slice none 0 0] := (rowd _ _ _).keep hb1); have hS5 := (show (Below Yten.heap.size Yten w' ∧ w'.cell? ⟨gten, 0, none⟩ = some (.int .i64 t1) ∧ w'.cell? ⟨gten, 1, none⟩ = some (.slice Aten nten cten) ∧ w'.cell? ⟨w.heap.size, 0, none⟩ = some (.int .i64 s0)) from ⟨Gen.over hb1 (And.left (by assumption)), Gen.keep hb1 (And.left (And.right (by assumption))), Gen.keep hb1 (And.left (And.right (And.right (by assumption)))), Gen.keep hb1 (And.right (And.right (And.right (by assumption))))⟩))
        | (go_at_call 12; (with_reducible refine (add_gen _ (HXr.out.keep (And.left (by assumption))) (by first | exact ho | exact ho.keep (Gen.b_alloc (Below.refl _ _))) (fz_yes HG7.out) (fe_yes HG7.out) HT2.out).mono ?_); rintro e' w' ⟨Ar, nr, cr, rfl, hr, hb2⟩; (first | have hRw := Row.keep hRw hb2 | have hRw := (Row.new _ _ _).keep hb2 | have hRw := (rowd _ _ _).keep hb2 | skip); (try have fz0 := hRw.frozen 0); (try have fz1 := hRw.frozen 1); (try have cz0 := hRw.cell 0); (try have cz1 := hRw.cell 1); (try have hRl := hRw.lt); have hS8 := (show (Below Yten.heap.size Yten w' ∧ w'.cell? ⟨gten, 0, none⟩ = some (.int .i64 t1) ∧ w'.cell? ⟨gten, 1, none⟩ = some (.slice Aten nten cten) ∧ w'.cell? ⟨w.heap.size, 0, none⟩ = some (.int .i64 s0)) from ⟨Gen.over hb2 (And.left (by assumption)), Gen.keep hb2 (And.left (And.right (by assumption))), Gen.keep hb2 (And.left (And.right (And.right (by assumption)))), Gen.keep hb2 (And.right (And.right (And.right (by assumption))))⟩))
        | fail "arm")
    all_goals
      exact RJg.mk' _ Ao lo.length co Ar nr cr (by simp only [upd, List.cons_append, List.nil_append, List.foldl, List.setIfInBounds_toArray, List.set_cons_zero, List.set_cons_succ] <;> rfl)
        (by first | exact Vs.ad (HV.out.keep hS8.1) hr | exact Vs.reg HV.out hS8.1 hS5.1.size hRw hr | exact Vs.reg HV.out hS8.1 (Nat.le_refl _) hRw hr)
        (Gen.over (And.left (by assumption)) HB.out)
  clear HS0 HPa HPr HXr HV HB
  rintro a2 Ysev ⟨gsev, Aosev, nosev, cosev, Asev, nsev, csev, rfl, HV, HB⟩
  simp only [upd, List.cons_append, List.nil_append, List.foldl, List.setIfInBounds_toArray, List.set_cons_zero, List.set_cons_succ]
  go_wp2_with (fail)
  have hl1 := HTL.out
  have hcat : ¬ (9223372036854775807 < (txt x).length + 1) := by omega
  have hcat2 : ¬ (9223372036854775806 < (txt x).length) := by omega
  have hcat3 : ¬ ((9223372036854775807 : Int) < ((txt x).length : Int) + 1) := by omega
  have hcat4 : ¬ ((9223372036854775806 : Int) < ((txt x).length : Int)) := by omega
  clear hl1
  go_wp2_with (fail)
  · exact absurd (by assumption) hcat
  rw [cat7]
  go_must (refine (read_gen (txt x ++ [55]) _ (by have := HTL.out; simp; omega) (rd_big HRD.out HG.out).1 (rd_big HRD.out HG.out).2 HT3.out).mono ?_)
  rintro e W8 ⟨Av8, nv8, cv8, rfl, hv8, hb8⟩
  replace HV := Lib.hid (HV.out.keep hb8)
  replace HB := Lib.hid (Gen.over hb8 HB.out)
  have Hv8 := Lib.hid hv8
  clear hv8
  clear hb8
  replace HV := Lib.hid (HV.out.ad Hv8.out)
  replace HB := Lib.hid (below_ad HB.out Hv8.out)
  try clear hcat hcat2 hcat3 hcat4
  go_wp2
  go_ret
  exact ⟨rfl, HB.out⟩
set_option maxRecDepth 100000 in
set_option maxHeartbeats 16000000 in
theorem back_CF {s0 x zs : Int} {A0 : Option Addr} {n0 c0 : Nat} {l0 : List Int} (s : List UInt8) (w : World) (hT : PowTab w) (h400 : s.length ≤ 400) (hf : rd s = some zs) (hfit : ¬ Fit zs) (hx : IsBig w (bigV s0 A0 n0 c0) x) (hx0 : x ≠ 0) (h1 : Fit (x * 10)) (h2 : ¬ Fit (x * 10 + 7 * s0)) :
    Calls Tryd.prog 8 #[bigV s0 A0 n0 c0, .string ⟨s.toArray⟩] w fun e w' => e = .returned (.bool true) ∧ Below w.heap.size w w' := by
  have HT := Lib.hid (hT.keep (Gen.b_alloc (x := (.cells #[.int .i64 s0, .slice A0 n0 c0] 24)) (Below.refl _ _)))
  have HB := Lib.hid (Gen.b_alloc (x := (.cells #[.int .i64 s0, .slice A0 n0 c0] 24)) (Below.refl w.heap.size w))
  have HL4 : Hid (s.length ≤ 9223372036854775807) := Lib.hid (by omega)
  have h4 : ¬ (400 : Int) < (s.length : Int) := by omega
  have HF := Lib.hid (rd_big hf hfit)
  clear hf hfit
  have HV := Lib.hid ((Vs.nil w).ad hx)
  have hsx := hx.sgn
  have HXF := Lib.hid hx.fit
  have hsc := sg_cases x
  rw [← hsx] at hsc
  have hs0 : (s0 == 0) = false := by simp; omega
  have hw7 : IntKind.i64.wrap (7 * s0) = 7 * s0 := IntWalk.i64_in _ (by omega)
  have HI7 : Hid (I64 (7 * s0)) := Lib.hid (by unfold I64; omega)
  have HS0x := Lib.hid hsx.symm
  have HRD : Hid (rd (txt x ++ [55]) = some (x * 10 + 7 * s0)) := Lib.hid (by rw [txt_more hx0, hsx]; exact rd_txt _)
  have HTL := Lib.hid (txt_len hx.fit)
  have HM := Lib.hid h1
  have HG := Lib.hid h2
  obtain ⟨t1, ht1⟩ : ∃ t, sg (x * 10) = t := ⟨_, rfl⟩
  have HT1 := Lib.hid ht1
  obtain ⟨t2, ht2⟩ : ∃ t, sg 0 = t := ⟨_, rfl⟩
  have HT2 := Lib.hid ht2
  obtain ⟨t3, ht3⟩ : ∃ t, sg 0 = t := ⟨_, rfl⟩
  have HT3 := Lib.hid ht3
  clear ht1 ht2 ht3 hsc hsx hx hx0 h1 h2
  clear hT h400
  go_enter Tryd.func8, Tryd.ntmps8
  go_wp2_with (fail)
  go_must (refine (small_yes _ HT.out).mono ?_)
  rintro e W1 ⟨rfl, hb1⟩
  replace HT := Lib.hid (HT.out.keep hb1)
  replace HV := Lib.hid (HV.out.keep hb1)
  replace HB := Lib.hid (Gen.over hb1 HB.out)
  clear hb1
  go_wp2_with (fail)
  go_must (refine (read_gen s _ HL4.out HF.out.1 HF.out.2 rfl).mono ?_)
  rintro e W2 ⟨Av2, nv2, cv2, rfl, hv2, hb2⟩
  replace HT := Lib.hid (HT.out.keep hb2)
  replace HV := Lib.hid (HV.out.keep hb2)
  replace HB := Lib.hid (Gen.over hb2 HB.out)
  have Hv2 := Lib.hid hv2
  clear hv2
  clear hb2
  clear h4
  replace HT := Lib.hid (HT.out.keep (Gen.b_alloc (x := (.cells #[.int .i64 0, .slice Av2 nv2 cv2] 24)) (Below.refl _ _)))
  replace HV := Lib.hid (HV.out.ad Hv2.out)
  replace HB := Lib.hid (below_ad HB.out Hv2.out)
  have d1 := HV.out.c0 (.head _)
  have f1 := HV.out.c1 (.head _)
  go_wp2_with (fail)
  go_must (refine (same_to _ (HV.out.big (.head _)) (IsBig.zero _) rfl).mono ?_)
  rintro e W3 ⟨rfl, hb3⟩
  replace HT := Lib.hid (HT.out.keep hb3)
  replace HV := Lib.hid (HV.out.keep hb3)
  replace HB := Lib.hid (Gen.over hb3 HB.out)
  clear hb3
  clear d1 f1
  have d2 := HV.out.c0 (.tail _ (.head _))
  have f2 := HV.out.c1 (.tail _ (.head _))
  go_wp2_with (fail)
  go_must (refine (right_val (HV.out.big (.tail _ (.head _)))).mono ?_)
  rintro e W4 ⟨rfl, hb4⟩
  replace HT := Lib.hid (HT.out.keep hb4)
  replace HV := Lib.hid (HV.out.keep hb4)
  replace HB := Lib.hid (Gen.over hb4 HB.out)
  clear hb4
  clear d2 f2
  have d3 := HV.out.c0 (.tail _ (.head _))
  have f3 := HV.out.c1 (.tail _ (.head _))
  go_wp2_with (fail)
  go_must (refine (text_is _ HT.out (HV.out.big (.tail _ (.head _))) rfl).mono ?_)
  rintro e W5 ⟨rfl, hb5⟩
  replace HT := Lib.hid (HT.out.keep hb5)
  replace HV := Lib.hid (HV.out.keep hb5)
  replace HB := Lib.hid (Gen.over hb5 HB.out)
  clear hb5
  clear d3 f3
  go_wp2_with (fail)
  go_must (refine (read_gen (txt x) _ (by have := HTL.out; omega) (rd_fit (rd_txt x) HXF.out).1 (rd_fit (rd_txt x) HXF.out).2 HS0x.out).mono ?_)
  rintro e W6 ⟨Av6, nv6, cv6, rfl, hv6, hb6⟩
  replace HT := Lib.hid (HT.out.keep hb6)
  replace HV := Lib.hid (HV.out.keep hb6)
  replace HB := Lib.hid (Gen.over hb6 HB.out)
  have Hv6 := Lib.hid hv6
  clear hv6
  clear hb6
  replace HT := Lib.hid (HT.out.keep (Gen.b_alloc (x := (.cells #[.int .i64 s0, .slice Av6 nv6 cv6] 24)) (Below.refl _ _)))
  replace HV := Lib.hid (HV.out.ad Hv6.out)
  replace HB := Lib.hid (below_ad HB.out Hv6.out)
  have d4 := HV.out.c0 (.head _)
  have f4 := HV.out.c1 (.head _)
  have d5 := HV.out.c0 (.tail _ (.tail _ (.head _)))
  have f5 := HV.out.c1 (.tail _ (.tail _ (.head _)))
  go_wp2_with (fail)
  go_must (refine (same_to _ (HV.out.big (.head _)) (HV.out.big (.tail _ (.tail _ (.head _)))) rfl).mono ?_)
  rintro e W7 ⟨rfl, hb7⟩
  replace HT := Lib.hid (HT.out.keep hb7)
  replace HV := Lib.hid (HV.out.keep hb7)
  replace HB := Lib.hid (Gen.over hb7 HB.out)
  clear hb7
  clear d4 f4 d5 f5
  have d6 := HV.out.c0 (.tail _ (.tail _ (.head _)))
  have f6 := HV.out.c1 (.tail _ (.tail _ (.head _)))
  go_wp2_with (fail)
  clear d6 f6
  clear hs0
  clear HT
  have HS0 : Hid (Below W7.heap.size W7 W7 ∧ W7.cell? ⟨w.heap.size, 0, none⟩ = some (.int .i64 s0) ∧ W7.cell? ⟨w.heap.size, 1, none⟩ = some (.slice A0 n0 c0)) := Lib.hid ⟨Below.refl _ _, HV.out.c0 (.tail _ (.tail _ (.head _))), HV.out.c1 (.tail _ (.tail _ (.head _)))⟩
  have HPa := Lib.hid ((HV.out.row (.tail _ (.tail _ (.head _)))).lt)
  have HPr := Lib.hid ((HV.out.row (.tail _ (.tail _ (.head _)))).lt)
  have HXr := Lib.hid (HV.out.big (.tail _ (.tail _ (.head _))))
  refine wp_join (RJg w t1 (x * 10) 0 [(W6.heap.size, bigV s0 Av6 nv6 cv6, x), (W2.heap.size, bigV 0 Av2 nv2 cv2, 0), (w.heap.size, bigV s0 A0 n0 c0, x)] (fun Ao no co => [(91, bigV s0 A0 n0 c0), (92, bigV (sg 10) Ao no co)]) 93 90 94 95 11 12) ?_ ?_
  · go_region_held3 (fun W' : World => Below W7.heap.size W7 W' ∧ W'.cell? ⟨w.heap.size, 0, none⟩ = some (.int .i64 s0) ∧ W'.cell? ⟨w.heap.size, 1, none⟩ = some (.slice A0 n0 c0))
      (first | exact hS8 | exact hS5 | exact ⟨HS0.out.1.drew, HS0.out.2⟩ | exact ⟨Gen.b_alloc (And.left (by assumption)), Gen.al (And.left (And.right (by assumption))), Gen.al (And.right (And.right (by assumption)))⟩ | exact reg_put (by assumption) HPr.out (by first | exact Nat.le_refl _ | exact hS8.1.size | exact hS5.1.size) | fail "keep")
      (first
        | (go_at_call 16; (with_reducible refine (of_val 10 _ (by unfold I64; omega)).mono ?_); rintro e' w' ⟨vo, rfl, ho, hb1⟩; obtain ⟨Ao, co, lo, rfl, _⟩ := ho.ex; (try have hRw : Row w' W7.heap.size 24 #[.int .i64 0, .slice none 0 0] := (rowd _ _ _).keep hb1); have hS5 := (show (Below W7.heap.size W7 w' ∧ w'.cell? ⟨w.heap.size, 0, none⟩ = some (.int .i64 s0) ∧ w'.cell? ⟨w.heap.size, 1, none⟩ = some (.slice A0 n0 c0)) from ⟨Gen.over hb1 (And.left (by assumption)), Gen.keep hb1 (And.left (And.right (by assumption))), Gen.keep hb1 (And.right (And.right (by assumption)))⟩))
        | (go_at_call 14; (with_reducible refine (mul_gen _ (HXr.out.keep (And.left (by assumption))) (by first | exact ho | exact ho.keep (Gen.b_alloc (Below.refl _ _))) (fz_yes HM.out) (fe_yes HM.out) HT1.out).mono ?_); rintro e' w' ⟨Ar, nr, cr, rfl, hr, hb2⟩; (first | have hRw := Row.keep hRw hb2 | have hRw := (Row.new _ _ _).keep hb2 | have hRw := (rowd _ _ _).keep hb2 | skip); (try have fz0 := hRw.frozen 0); (try have fz1 := hRw.frozen 1); (try have cz0 := hRw.cell 0); (try have cz1 := hRw.cell 1); (try have hRl := hRw.lt); have hS8 := (show (Below W7.heap.size W7 w' ∧ w'.cell? ⟨w.heap.size, 0, none⟩ = some (.int .i64 s0) ∧ w'.cell? ⟨w.heap.size, 1, none⟩ = some (.slice A0 n0 c0)) from ⟨Gen.over hb2 (And.left (by assumption)), Gen.keep hb2 (And.left (And.right (by assumption))), Gen.keep hb2 (And.right (And.right (by assumption)))⟩))
        | fail "arm")
    all_goals
      exact RJg.mk' _ Ao lo.length co Ar nr cr (by simp only [upd, List.cons_append, List.nil_append, List.foldl, List.setIfInBounds_toArray, List.set_cons_zero, List.set_cons_succ] <;> rfl)
        (by first | exact Vs.ad (HV.out.keep hS8.1) hr | exact Vs.reg HV.out hS8.1 hS5.1.size hRw hr | exact Vs.reg HV.out hS8.1 (Nat.le_refl _) hRw hr)
        (Gen.over (And.left (by assumption)) HB.out)
  clear HS0 HPa HPr HXr HV HB
  rintro a2 Yten ⟨gten, Aoten, noten, coten, Aten, nten, cten, rfl, HV, HB⟩
  simp only [upd, List.cons_append, List.nil_append, List.foldl, List.setIfInBounds_toArray, List.set_cons_zero, List.set_cons_succ]
  go_wp2_with (fail)
  have HS0 : Hid (Below Yten.heap.size Yten Yten ∧ Yten.cell? ⟨gten, 0, none⟩ = some (.int .i64 t1) ∧ Yten.cell? ⟨gten, 1, none⟩ = some (.slice Aten nten cten) ∧ Yten.cell? ⟨w.heap.size, 0, none⟩ = some (.int .i64 s0)) := Lib.hid ⟨Below.refl _ _, HV.out.c0 (.head _), HV.out.c1 (.head _), HV.out.c0 (.tail _ (.tail _ (.tail _ (.head _))))⟩
  have HPa := Lib.hid ((HV.out.row (.tail _ (.tail _ (.tail _ (.head _))))).lt)
  have HPr := Lib.hid ((HV.out.row (.head _)).lt)
  have HXr := Lib.hid (HV.out.big (.head _))
  refine wp_join (RJg w t2 0 6 [(gten, bigV t1 Aten nten cten, (x * 10)), (W6.heap.size, bigV s0 Av6 nv6 cv6, x), (W2.heap.size, bigV 0 Av2 nv2 cv2, 0), (w.heap.size, bigV s0 A0 n0 c0, x)] (fun Ao no co => [(97, bigV t1 Aten nten cten), (98, .pointer (some ⟨w.heap.size, 0, none⟩)), (99, .int .i64 s0), (100, .int .i64 (7 * s0)), (101, bigV (sg (7 * s0)) Ao no co)]) 102 96 103 104 13 14) ?_ ?_
  · go_region_held3 (fun W' : World => Below Yten.heap.size Yten W' ∧ W'.cell? ⟨gten, 0, none⟩ = some (.int .i64 t1) ∧ W'.cell? ⟨gten, 1, none⟩ = some (.slice Aten nten cten) ∧ W'.cell? ⟨w.heap.size, 0, none⟩ = some (.int .i64 s0))
      (first | exact hS8 | exact hS5 | exact ⟨HS0.out.1.drew, HS0.out.2⟩ | exact ⟨Gen.b_alloc (And.left (by assumption)), Gen.al (And.left (And.right (by assumption))), Gen.al (And.left (And.right (And.right (by assumption)))), Gen.al (And.right (And.right (And.right (by assumption))))⟩ | exact reg_put3 (by assumption) HPa.out HPr.out (by first | exact Nat.le_refl _ | exact hS8.1.size | exact hS5.1.size) | fail "keep")
      (first
        | (go_at_call 16; (with_reducible refine (of_val (7 * s0) _ HI7.out).mono ?_); rintro e' w' ⟨vo, rfl, ho, hb1⟩; obtain ⟨Ao, co, lo, rfl, _⟩ := ho.ex; (try have hRw : Row w' Yten.heap.size 24 #[.int .i64 0, .slice none 0 0] := (rowd _ _ _).keep hb1); have hS5 := (show (Below Yten.heap.size Yten w' ∧ w'.cell? ⟨gten, 0, none⟩ = some (.int .i64 t1) ∧ w'.cell? ⟨gten, 1, none⟩ = some (.slice Aten nten cten) ∧ w'.cell? ⟨w.heap.size, 0, none⟩ = some (.int .i64 s0)) from ⟨Gen.over hb1 (And.left (by assumption)), Gen.keep hb1 (And.left (And.right (by assumption))), Gen.keep hb1 (And.left (And.right (And.right (by assumption)))), Gen.keep hb1 (And.right (And.right (And.right (by assumption))))⟩))
        | (go_at_call 12; (with_reducible refine (add_gen _ (HXr.out.keep (And.left (by assumption))) (by first | exact ho | exact ho.keep (Gen.b_alloc (Below.refl _ _))) (fz_no HG.out) (fe_no HG.out) HT2.out).mono ?_); rintro e' w' ⟨Ar, nr, cr, rfl, hr, hb2⟩; (first | have hRw := Row.keep hRw hb2 | have hRw := (Row.new _ _ _).keep hb2 | have hRw := (rowd _ _ _).keep hb2 | skip); (try have fz0 := hRw.frozen 0); (try have fz1 := hRw.frozen 1); (try have cz0 := hRw.cell 0); (try have cz1 := hRw.cell 1); (try have hRl := hRw.lt); have hS8 := (show (Below Yten.heap.size Yten w' ∧ w'.cell? ⟨gten, 0, none⟩ = some (.int .i64 t1) ∧ w'.cell? ⟨gten, 1, none⟩ = some (.slice Aten nten cten) ∧ w'.cell? ⟨w.heap.size, 0, none⟩ = some (.int .i64 s0)) from ⟨Gen.over hb2 (And.left (by assumption)), Gen.keep hb2 (And.left (And.right (by assumption))), Gen.keep hb2 (And.left (And.right (And.right (by assumption)))), Gen.keep hb2 (And.right (And.right (And.right (by assumption))))⟩))
        | fail "arm")
    all_goals
      exact RJg.mk' _ Ao lo.length co Ar nr cr (by simp only [upd, List.cons_append, List.nil_append, List.foldl, List.setIfInBounds_toArray, List.set_cons_zero, List.set_cons_succ] <;> rfl)
        (by first | exact Vs.ad (HV.out.keep hS8.1) hr | exact Vs.reg HV.out hS8.1 hS5.1.size hRw hr | exact Vs.reg HV.out hS8.1 (Nat.le_refl _) hRw hr)
        (Gen.over (And.left (by assumption)) HB.out)
  clear HS0 HPa HPr HXr HV HB
  rintro a2 Ysev ⟨gsev, Aosev, nosev, cosev, Asev, nsev, csev, rfl, HV, HB⟩
  simp only [upd, List.cons_append, List.nil_append, List.foldl, List.setIfInBounds_toArray, List.set_cons_zero, List.set_cons_succ]
  go_wp2_with (fail)
  have hl1 := HTL.out
  have hcat : ¬ (9223372036854775807 < (txt x).length + 1) := by omega
  have hcat2 : ¬ (9223372036854775806 < (txt x).length) := by omega
  have hcat3 : ¬ ((9223372036854775807 : Int) < ((txt x).length : Int) + 1) := by omega
  have hcat4 : ¬ ((9223372036854775806 : Int) < ((txt x).length : Int)) := by omega
  clear hl1
  go_wp2_with (fail)
  · exact absurd (by assumption) hcat
  rw [cat7]
  go_must (refine (read_gen (txt x ++ [55]) _ (by have := HTL.out; simp; omega) (rd_big HRD.out HG.out).1 (rd_big HRD.out HG.out).2 HT3.out).mono ?_)
  rintro e W8 ⟨Av8, nv8, cv8, rfl, hv8, hb8⟩
  replace HV := Lib.hid (HV.out.keep hb8)
  replace HB := Lib.hid (Gen.over hb8 HB.out)
  have Hv8 := Lib.hid hv8
  clear hv8
  clear hb8
  replace HV := Lib.hid (HV.out.ad Hv8.out)
  replace HB := Lib.hid (below_ad HB.out Hv8.out)
  try clear hcat hcat2 hcat3 hcat4
  go_wp2
  go_ret
  exact ⟨rfl, HB.out⟩
end Go.Proofs.YtnifkianjpjahaaDoor.Bg
