/- FracBack returns true: all fractions, right or not, ints, and strings; the listed variables as the text lays them. -/
import Derived.Test.YtnifkianjpjahaaGreatDoorLFrBA
import Derived.Deep.DeepCutAuto
import Derived.Deep.RegionHeld3
namespace Go.Proofs.YtnifkianjpjahaaGreatDoor.Bg
open Go.ChangeShapes Go.WideShapes Go.ChangeAt Go.RowKit Go.Proofs.YtnifkianjpjahaaGreatDoor.Cell
set_option linter.unusedVariables false
set_option linter.unusedSimpArgs false
section
variable {s0 t0 : Int} {A0 B0 : Option Addr} {n0 c0 m0 d0 : Nat} {l0 k0 : List Int}
set_option maxRecDepth 100000 in
set_option maxHeartbeats 16000000 in
theorem fback_YYD (nn : Int) (s : List UInt8) (w : World) (hT : PowTab w) (hM : MaxL w) (hnn : I64 nn) (h300 : s.length ≤ 300) (hok : fOk s) (hr : frB s0 t0 l0 k0 = true) (hn : nn ≠ 0) (b0 : ArgF w.heap.size w (frV s0 A0 n0 c0 t0 B0 m0 d0) n0 m0 s0 t0 l0 k0) :
    Calls Tryz.prog 7 #[frV s0 A0 n0 c0 t0 B0 m0 d0, .int .i64 nn, .string ⟨s.toArray⟩] w fun e w' => e = .returned (.bool true) ∧ Below w.heap.size w w' := by
  have HB := Lib.hid (ba1_b w (fC s0 A0 n0 c0 t0 B0 m0 d0))
  have R0 := Lib.hid (ba1_0 w (fC s0 A0 n0 c0 t0 B0 m0 d0))
  have HA0 := Lib.hid (b0.keep HB.out)
  have HT0 := Lib.hid hT
  have HM0 := Lib.hid hM
  unfold ba1 at HB R0 HA0
  clear hT hM b0
  have H_hnn := Lib.hid hnn
  have H_hok := Lib.hid hok
  have H_hr := Lib.hid hr
  have H_hn := Lib.hid hn
  clear hnn hok hr hn
  have H_300 := Lib.hid h300
  clear h300
  go_enter Tryz.func7, Tryz.ntmps7
  go_wp2_with (fail)
  go_must (refine (fsmall_yes _ (HT0.out.keep HB.out) (HM0.out.keep HB.out)).mono ?_)
  rintro e W1 ⟨rfl, hb⟩
  replace HB := Lib.hid (Gen.over hb HB.out)
  replace HA0 := Lib.hid (HA0.out.keep hb)
  replace R0 := Lib.hid (R0.out.keep hb)
  clear hb
  cases hqf0 : (decide ((n0 : Int) ≤ 40) && decide ((m0 : Int) ≤ 40))
  · have HQ := Lib.hid hqf0
    clear hqf0
    have p0 := R0.out.cell 0
    have p1 := R0.out.cell 1
    have p2 := R0.out.cell 2
    have p3 := R0.out.cell 3
    go_wp2_with (fail)
    go_must (refine (HA0.out.few (k := 40) _ false HQ.out).mono ?_)
    rintro e W2 ⟨rfl, hb⟩
    replace HB := Lib.hid (Gen.over hb HB.out)
    clear hb p0 p1 p2 p3
    go_wp2
    go_ret
    exact ⟨rfl, HB.out⟩
  have HQf0 := Lib.hid hqf0
  clear hqf0
  have p0 := R0.out.cell 0
  have p1 := R0.out.cell 1
  have p2 := R0.out.cell 2
  have p3 := R0.out.cell 3
  go_wp2_with (fail)
  go_must (refine (HA0.out.few (k := 40) _ true HQf0.out).mono ?_)
  rintro e W2 ⟨rfl, hb⟩
  replace HB := Lib.hid (Gen.over hb HB.out)
  replace HA0 := Lib.hid (HA0.out.keep hb)
  replace R0 := Lib.hid (R0.out.keep hb)
  clear hb p0 p1 p2 p3
  have HNN := Lib.hid H_hnn.out
  have HOK := Lib.hid H_hok.out
  have h4 : ¬ (300 : Int) < (s.length : Int) := by have := H_300.out; omega
  have HL : Hid (s.length ≤ 4000000000) := Lib.hid (by have := H_300.out; omega)
  have HQr0 := Lib.hid H_hr.out
  have HN0 := Lib.hid H_hn.out
  obtain ⟨p0, q0, ip, iq, hz, sg0, rt⟩ := HA0.out.getp 40 HQr0.out HQf0.out
  have HP0 := Lib.hid ip
  have HQ0 := Lib.hid iq
  have HZ_f := Lib.hid hz
  have HR_f := Lib.hid rt
  have HS_f := Lib.hid sg0
  clear ip iq hz rt sg0
  have HE := Lib.hid (Env.start (Fs.co (Fs.nil w.heap.size W2) R0.out HP0.out HQ0.out) HT0.out HM0.out HB.out (Nat.le_refl _) (by simp <;> omega))
  clear HB HT0 HM0 HA0 R0 HP0 HQ0 HQf0 HQr0
  have HF1 : Hid (Fit (p0 * nn)) := Lib.hid ((HZ_f.out.1.mul (i64_sz HNN.out)).fit)
  have HF2 : Hid (Fit (q0 * nn)) := Lib.hid ((HZ_f.out.2.mul (i64_sz HNN.out)).fit)
  have HQ0 : Hid (q0 ≠ 0) := Lib.hid (Int.ne_of_gt HR_f.out.1)
  obtain ⟨TX, hTX⟩ : ∃ l, ftxt p0 q0 = l := ⟨_, rfl⟩
  have HTO : Hid (fOk TX ∧ rdV (fa TX) = p0 ∧ rdV (fb TX) = q0) := Lib.hid (by rw [← hTX]; exact ftxt_ok HR_f.out (HZ_f.out.1.fit) (HZ_f.out.2.fit))
  have HTL : Hid (TX.length ≤ 4000000000) := Lib.hid (by rw [← hTX]; exact ftxt_len (HZ_f.out.1.fit) (HZ_f.out.2.fit))
  have HTX := Lib.hid hTX
  clear hTX
  go_wp2_with (fail)
  go_must (refine (fread_ok s _ HE.out.size HE.out.m HL.out HOK.out).mono ?_)
  rintro e W3 ⟨s3, A3, n3, c3, t3, B3, m3, d3, rfl, hp3, hq3, hb⟩
  replace HE := Lib.hid (HE.out.keep hb)
  clear hb
  have Hhp3 := Lib.hid hp3
  clear hp3
  have Hhq3 := Lib.hid hq3
  clear hq3
  replace HE := Lib.hid (HE.out.adF Hhp3.out Hhq3.out)
  clear Hhp3 Hhq3
  have cf1 := (HE.out.fr (i := 0) rfl).cell 0
  have cf2 := (HE.out.fr (i := 0) rfl).cell 1
  have cf3 := (HE.out.fr (i := 0) rfl).cell 2
  have cf4 := (HE.out.fr (i := 0) rfl).cell 3
  go_wp2_with (fail)
  go_must (refine (fright_yes _ (HE.out.fp (i := 0) rfl) (HE.out.fq (i := 0) rfl) HOK.out.2.2).mono ?_)
  rintro e W4 ⟨rfl, hb⟩
  replace HE := Lib.hid (HE.out.keep hb)
  clear hb
  clear cf1 cf2 cf3 cf4
  have cf5 := (HE.out.fr (i := 0) rfl).cell 0
  have cf6 := (HE.out.fr (i := 0) rfl).cell 1
  have cf7 := (HE.out.fr (i := 0) rfl).cell 2
  have cf8 := (HE.out.fr (i := 0) rfl).cell 3
  go_wp2_with (fail)
  go_must (refine (ftext_is (l := s) _ HE.out.t (HE.out.fp (i := 0) rfl) (HE.out.fq (i := 0) rfl) HOK.out.2.2 (fOk_text HOK.out)).mono ?_)
  rintro e W5 ⟨rfl, hb⟩
  replace HE := Lib.hid (HE.out.keep hb)
  clear hb
  clear cf5 cf6 cf7 cf8
  have cf9 := (HE.out.fr (i := 1) rfl).cell 0
  have cf10 := (HE.out.fr (i := 1) rfl).cell 1
  have cf11 := (HE.out.fr (i := 1) rfl).cell 2
  have cf12 := (HE.out.fr (i := 1) rfl).cell 3
  go_wp2_with (fail)
  go_must (refine (ftext_is (l := TX) _ HE.out.t (HE.out.fp (i := 1) rfl) (HE.out.fq (i := 1) rfl) HR_f.out HTX.out).mono ?_)
  rintro e W6 ⟨rfl, hb⟩
  replace HE := Lib.hid (HE.out.keep hb)
  clear hb
  clear cf9 cf10 cf11 cf12
  have cf13 := (HE.out.fr (i := 1) rfl).cell 0
  have cf14 := (HE.out.fr (i := 1) rfl).cell 1
  have cf15 := (HE.out.fr (i := 1) rfl).cell 2
  have cf16 := (HE.out.fr (i := 1) rfl).cell 3
  go_wp2_with (fail)
  go_must (refine (fright_yes _ (HE.out.fp (i := 1) rfl) (HE.out.fq (i := 1) rfl) HR_f.out).mono ?_)
  rintro e W7 ⟨rfl, hb⟩
  replace HE := Lib.hid (HE.out.keep hb)
  clear hb
  clear cf13 cf14 cf15 cf16
  go_wp2_with (fail)
  go_must (refine (fread_as TX (p := p0) (q := q0) _ HE.out.size HE.out.m HTL.out HTO.out).mono ?_)
  rintro e W8 ⟨s8, A8, n8, c8, t8, B8, m8, d8, rfl, hp8, hq8, hb⟩
  replace HE := Lib.hid (HE.out.keep hb)
  clear hb
  have Hhp8 := Lib.hid hp8
  clear hp8
  have Hhq8 := Lib.hid hq8
  clear hq8
  replace HE := Lib.hid (HE.out.adF Hhp8.out Hhq8.out)
  clear Hhp8 Hhq8
  have cf17 := (HE.out.fr (i := 2) rfl).cell 0
  have cf18 := (HE.out.fr (i := 2) rfl).cell 1
  have cf19 := (HE.out.fr (i := 2) rfl).cell 2
  have cf20 := (HE.out.fr (i := 2) rfl).cell 3
  go_wp2_with (fail)
  go_must (refine (new_as (x := p0) (y := q0) _ HE.out.size (HE.out.fp (i := 2) rfl) (HE.out.fq (i := 2) rfl) HQ0.out (new_same HR_f.out).1 (new_same HR_f.out).2).mono ?_)
  rintro e W9 ⟨s9, A9, n9, c9, t9, B9, m9, d9, rfl, hp9, hq9, hb⟩
  replace HE := Lib.hid (HE.out.keep hb)
  clear hb
  clear cf17 cf18 cf19 cf20
  have Hhp9 := Lib.hid hp9
  clear hp9
  have Hhq9 := Lib.hid hq9
  clear hq9
  replace HE := Lib.hid (HE.out.adF Hhp9.out Hhq9.out)
  clear Hhp9 Hhq9
  go_wp2_with (fail)
  generalize W9.alloc (.cells (fC s9 A9 n9 c9 t9 B9 m9 d9) 43) = W10 at HE  ⊢
  have HXp := Lib.hid (HE.out.fp (i := 3) rfl)
  have HP_f := Lib.hid (HE.out.fr (i := 3) rfl).lt
  have HS0 : Hid (Below W10.heap.size W10 W10 ∧ W10.cell? ⟨w.heap.size, 0, none⟩ = some (.int .i64 s0) ∧ W10.cell? ⟨w.heap.size, 1, none⟩ = some (.slice A0 n0 c0) ∧ W10.cell? ⟨w.heap.size, 2, none⟩ = some (.int .i64 t0) ∧ W10.cell? ⟨w.heap.size, 3, none⟩ = some (.slice B0 m0 d0)) := Lib.hid ⟨Below.refl _ _, (HE.out.fr (i := 3) rfl).cell 0, (HE.out.fr (i := 3) rfl).cell 1, (HE.out.fr (i := 3) rfl).cell 2, (HE.out.fr (i := 3) rfl).cell 3⟩
  have cf21 := (HE.out.fr (i := 3) rfl).cell 0
  have cf22 := (HE.out.fr (i := 3) rfl).cell 1
  have cf23 := (HE.out.fr (i := 3) rfl).cell 2
  have cf24 := (HE.out.fr (i := 3) rfl).cell 3
  go_cut [15, 16] (fun c d wx => ∃ vg vA vn vc, c = .pointer (some ⟨vg, 0, none⟩) ∧ d = .int .i64 0 ∧ Hid (Env w.heap.size w wx [(W9.heap.size, frV s9 A9 n9 c9 t9 B9 m9 d9, p0, q0), (W8.heap.size, frV s8 A8 n8 c8 t8 B8 m8 d8, p0, q0), (W3.heap.size, frV s3 A3 n3 c3 t3 B3 m3 d3, (rdV (fa s)), (rdV (fb s))), (w.heap.size, frV s0 A0 n0 c0 t0 B0 m0 d0, p0, q0)] ((vg, bigV (sg (p0 * nn)) vA vn vc, (p0 * nn)) :: [])))
  case first =>
    go_region_held3 (fun W' : World => Below W10.heap.size W10 W' ∧ W'.cell? ⟨w.heap.size, 0, none⟩ = some (.int .i64 s0) ∧ W'.cell? ⟨w.heap.size, 1, none⟩ = some (.slice A0 n0 c0) ∧ W'.cell? ⟨w.heap.size, 2, none⟩ = some (.int .i64 t0) ∧ W'.cell? ⟨w.heap.size, 3, none⟩ = some (.slice B0 m0 d0))
      (first | with_reducible exact hS2 | with_reducible exact hS1 | with_reducible exact ⟨below_set2 (And.left (by assumption)) (by first | exact Nat.le_refl _ | exact hS2.1.size | exact hS1.1.size) _ _, keep_set2 (And.left (And.right (by assumption))) HP_f.out (by first | exact Nat.le_refl _ | exact hS2.1.size | exact hS1.1.size), keep_set2 (And.left (And.right (And.right (by assumption)))) HP_f.out (by first | exact Nat.le_refl _ | exact hS2.1.size | exact hS1.1.size), keep_set2 (And.left (And.right (And.right (And.right (by assumption))))) HP_f.out (by first | exact Nat.le_refl _ | exact hS2.1.size | exact hS1.1.size), keep_set2 (And.right (And.right (And.right (And.right (by assumption))))) HP_f.out (by first | exact Nat.le_refl _ | exact hS2.1.size | exact hS1.1.size)⟩ | exact ⟨HS0.out.1.drew, HS0.out.2⟩ | exact ⟨Gen.b_alloc (And.left (by assumption)), Gen.al (And.left (And.right (by assumption))), Gen.al (And.left (And.right (And.right (by assumption)))), Gen.al (And.left (And.right (And.right (And.right (by assumption))))), Gen.al (And.right (And.right (And.right (And.right (by assumption)))))⟩ | fail "keep")
      (first
        | (go_at_call 35; (with_reducible refine (of_as (N0 := w.heap.size) nn _ HNN.out).mono ?_); rintro e' w' ⟨Ao, mo, co, rfl, ho, hb⟩; have hS1 := (show (Below W10.heap.size W10 w' ∧ w'.cell? ⟨w.heap.size, 0, none⟩ = some (.int .i64 s0) ∧ w'.cell? ⟨w.heap.size, 1, none⟩ = some (.slice A0 n0 c0) ∧ w'.cell? ⟨w.heap.size, 2, none⟩ = some (.int .i64 t0) ∧ w'.cell? ⟨w.heap.size, 3, none⟩ = some (.slice B0 m0 d0)) from ⟨Gen.over hb (And.left (by assumption)), Gen.keep hb (And.left (And.right (by assumption))), Gen.keep hb (And.left (And.right (And.right (by assumption)))), Gen.keep hb (And.left (And.right (And.right (And.right (by assumption))))), Gen.keep hb (And.right (And.right (And.right (And.right (by assumption)))))⟩); (first | have hRw := Row.keep hRw hb | have hRw := (Row.new _ _ _).keep hb | have hRw := (rowd _ _ _).keep hb | skip))
        | (go_at_call 15; (with_reducible refine (mul_af (z := (p0 * nn)) _ (HXp.out.keep (And.left (by assumption))) (by first | exact ho | exact ho.drw | exact ho.keep (Gen.b_alloc (Below.refl _ _)) | exact (ho.keep (Gen.b_alloc (Below.refl _ _))).drw) rfl HF1.out).mono ?_); rintro e' w' ⟨Ar, nr, cr, rfl, hr, hb⟩; have hS2 := (show (Below W10.heap.size W10 w' ∧ w'.cell? ⟨w.heap.size, 0, none⟩ = some (.int .i64 s0) ∧ w'.cell? ⟨w.heap.size, 1, none⟩ = some (.slice A0 n0 c0) ∧ w'.cell? ⟨w.heap.size, 2, none⟩ = some (.int .i64 t0) ∧ w'.cell? ⟨w.heap.size, 3, none⟩ = some (.slice B0 m0 d0)) from ⟨Gen.over hb (And.left (by assumption)), Gen.keep hb (And.left (And.right (by assumption))), Gen.keep hb (And.left (And.right (And.right (by assumption)))), Gen.keep hb (And.left (And.right (And.right (And.right (by assumption))))), Gen.keep hb (And.right (And.right (And.right (And.right (by assumption)))))⟩); (first | have ho := IsBig.keep ho hb | have ho := IsBig.keep (IsBig.drw ho) hb | have ho := IsBig.keep (IsBig.keep ho (Gen.b_alloc (Below.refl _ _))) hb | skip); (first | have hRw := Row.keep hRw hb | have hRw := (Row.new _ _ _).keep hb | have hRw := (rowd _ _ _).keep hb | skip); (try have fz0 := hRw.frozen 0); (try have cz0 := hRw.cell 0); (try have fz1 := hRw.frozen 1); (try have cz1 := hRw.cell 1); (try have hRl := hRw.lt))
        | fail "arm")
    all_goals
      go_wp2
      go_meet
      exact ⟨_, _, _, _, rfl, rfl, Lib.hid (by first | exact Env.adV (HE.out.keep hS2.1) hr | exact Env.rgV HE.out hS2.1 (by first | exact Nat.le_refl _ | exact hS2.1.size | exact hS1.1.size) hRw hr)⟩
  clear cf21 cf22 cf23 cf24
  clear HS0 HP_f
  obtain ⟨gvp, Avp, nvp, cvp, rfl, rfl, HEn⟩ := hcut
  replace HE := HEn
  clear HEn HXp
  rename World => W11
  go_wp2_with (fail)
  have HXp := Lib.hid (HE.out.fq (i := 3) rfl)
  have HP_f := Lib.hid (HE.out.fr (i := 3) rfl).lt
  have HS0 : Hid (Below W11.heap.size W11 W11 ∧ W11.cell? ⟨w.heap.size, 0, none⟩ = some (.int .i64 s0) ∧ W11.cell? ⟨w.heap.size, 1, none⟩ = some (.slice A0 n0 c0) ∧ W11.cell? ⟨w.heap.size, 2, none⟩ = some (.int .i64 t0) ∧ W11.cell? ⟨w.heap.size, 3, none⟩ = some (.slice B0 m0 d0)) := Lib.hid ⟨Below.refl _ _, (HE.out.fr (i := 3) rfl).cell 0, (HE.out.fr (i := 3) rfl).cell 1, (HE.out.fr (i := 3) rfl).cell 2, (HE.out.fr (i := 3) rfl).cell 3⟩
  have cf25 := (HE.out.fr (i := 3) rfl).cell 0
  have cf26 := (HE.out.fr (i := 3) rfl).cell 1
  have cf27 := (HE.out.fr (i := 3) rfl).cell 2
  have cf28 := (HE.out.fr (i := 3) rfl).cell 3
  go_cut [17, 18] (fun c d wx => ∃ vg vA vn vc, c = .pointer (some ⟨vg, 0, none⟩) ∧ d = .int .i64 0 ∧ Hid (Env w.heap.size w wx [(W9.heap.size, frV s9 A9 n9 c9 t9 B9 m9 d9, p0, q0), (W8.heap.size, frV s8 A8 n8 c8 t8 B8 m8 d8, p0, q0), (W3.heap.size, frV s3 A3 n3 c3 t3 B3 m3 d3, (rdV (fa s)), (rdV (fb s))), (w.heap.size, frV s0 A0 n0 c0 t0 B0 m0 d0, p0, q0)] ((vg, bigV (sg (q0 * nn)) vA vn vc, (q0 * nn)) :: [(gvp, bigV (sg (p0 * nn)) Avp nvp cvp, (p0 * nn))])))
  case first =>
    go_region_held3 (fun W' : World => Below W11.heap.size W11 W' ∧ W'.cell? ⟨w.heap.size, 0, none⟩ = some (.int .i64 s0) ∧ W'.cell? ⟨w.heap.size, 1, none⟩ = some (.slice A0 n0 c0) ∧ W'.cell? ⟨w.heap.size, 2, none⟩ = some (.int .i64 t0) ∧ W'.cell? ⟨w.heap.size, 3, none⟩ = some (.slice B0 m0 d0))
      (first | with_reducible exact hS2 | with_reducible exact hS1 | with_reducible exact ⟨below_set2 (And.left (by assumption)) (by first | exact Nat.le_refl _ | exact hS2.1.size | exact hS1.1.size) _ _, keep_set2 (And.left (And.right (by assumption))) HP_f.out (by first | exact Nat.le_refl _ | exact hS2.1.size | exact hS1.1.size), keep_set2 (And.left (And.right (And.right (by assumption)))) HP_f.out (by first | exact Nat.le_refl _ | exact hS2.1.size | exact hS1.1.size), keep_set2 (And.left (And.right (And.right (And.right (by assumption))))) HP_f.out (by first | exact Nat.le_refl _ | exact hS2.1.size | exact hS1.1.size), keep_set2 (And.right (And.right (And.right (And.right (by assumption))))) HP_f.out (by first | exact Nat.le_refl _ | exact hS2.1.size | exact hS1.1.size)⟩ | exact ⟨HS0.out.1.drew, HS0.out.2⟩ | exact ⟨Gen.b_alloc (And.left (by assumption)), Gen.al (And.left (And.right (by assumption))), Gen.al (And.left (And.right (And.right (by assumption)))), Gen.al (And.left (And.right (And.right (And.right (by assumption))))), Gen.al (And.right (And.right (And.right (And.right (by assumption)))))⟩ | fail "keep")
      (first
        | (go_at_call 35; (with_reducible refine (of_as (N0 := w.heap.size) nn _ HNN.out).mono ?_); rintro e' w' ⟨Ao, mo, co, rfl, ho, hb⟩; have hS1 := (show (Below W11.heap.size W11 w' ∧ w'.cell? ⟨w.heap.size, 0, none⟩ = some (.int .i64 s0) ∧ w'.cell? ⟨w.heap.size, 1, none⟩ = some (.slice A0 n0 c0) ∧ w'.cell? ⟨w.heap.size, 2, none⟩ = some (.int .i64 t0) ∧ w'.cell? ⟨w.heap.size, 3, none⟩ = some (.slice B0 m0 d0)) from ⟨Gen.over hb (And.left (by assumption)), Gen.keep hb (And.left (And.right (by assumption))), Gen.keep hb (And.left (And.right (And.right (by assumption)))), Gen.keep hb (And.left (And.right (And.right (And.right (by assumption))))), Gen.keep hb (And.right (And.right (And.right (And.right (by assumption)))))⟩); (first | have hRw := Row.keep hRw hb | have hRw := (Row.new _ _ _).keep hb | have hRw := (rowd _ _ _).keep hb | skip))
        | (go_at_call 15; (with_reducible refine (mul_af (z := (q0 * nn)) _ (HXp.out.keep (And.left (by assumption))) (by first | exact ho | exact ho.drw | exact ho.keep (Gen.b_alloc (Below.refl _ _)) | exact (ho.keep (Gen.b_alloc (Below.refl _ _))).drw) rfl HF2.out).mono ?_); rintro e' w' ⟨Ar, nr, cr, rfl, hr, hb⟩; have hS2 := (show (Below W11.heap.size W11 w' ∧ w'.cell? ⟨w.heap.size, 0, none⟩ = some (.int .i64 s0) ∧ w'.cell? ⟨w.heap.size, 1, none⟩ = some (.slice A0 n0 c0) ∧ w'.cell? ⟨w.heap.size, 2, none⟩ = some (.int .i64 t0) ∧ w'.cell? ⟨w.heap.size, 3, none⟩ = some (.slice B0 m0 d0)) from ⟨Gen.over hb (And.left (by assumption)), Gen.keep hb (And.left (And.right (by assumption))), Gen.keep hb (And.left (And.right (And.right (by assumption)))), Gen.keep hb (And.left (And.right (And.right (And.right (by assumption))))), Gen.keep hb (And.right (And.right (And.right (And.right (by assumption)))))⟩); (first | have ho := IsBig.keep ho hb | have ho := IsBig.keep (IsBig.drw ho) hb | have ho := IsBig.keep (IsBig.keep ho (Gen.b_alloc (Below.refl _ _))) hb | skip); (first | have hRw := Row.keep hRw hb | have hRw := (Row.new _ _ _).keep hb | have hRw := (rowd _ _ _).keep hb | skip); (try have fz0 := hRw.frozen 0); (try have cz0 := hRw.cell 0); (try have fz1 := hRw.frozen 1); (try have cz1 := hRw.cell 1); (try have hRl := hRw.lt))
        | fail "arm")
    all_goals
      go_wp2
      go_meet
      exact ⟨_, _, _, _, rfl, rfl, Lib.hid (by first | exact Env.adV (HE.out.keep hS2.1) hr | exact Env.rgV HE.out hS2.1 (by first | exact Nat.le_refl _ | exact hS2.1.size | exact hS1.1.size) hRw hr)⟩
  clear cf25 cf26 cf27 cf28
  clear HS0 HP_f
  obtain ⟨gvq, Avq, nvq, cvq, rfl, rfl, HEn⟩ := hcut
  replace HE := HEn
  clear HEn HXp
  rename World => W12
  have cf29 := (HE.out.vr (i := 1) rfl).cell 0
  have cf30 := (HE.out.vr (i := 1) rfl).cell 1
  have cf31 := (HE.out.vr (i := 0) rfl).cell 0
  have cf32 := (HE.out.vr (i := 0) rfl).cell 1
  go_wp2_with (fail)
  go_must (refine (new_as (x := p0) (y := q0) _ HE.out.size (HE.out.vz (i := 1) rfl) (HE.out.vz (i := 0) rfl) (Int.mul_ne_zero HQ0.out HN0.out) (new_by HR_f.out HN0.out).1 (new_by HR_f.out HN0.out).2).mono ?_)
  rintro e W13 ⟨s13, A13, n13, c13, t13, B13, m13, d13, rfl, hp13, hq13, hb⟩
  replace HE := Lib.hid (HE.out.keep hb)
  clear hb
  clear cf29 cf30 cf31 cf32
  have Hhp13 := Lib.hid hp13
  clear hp13
  have Hhq13 := Lib.hid hq13
  clear hq13
  replace HE := Lib.hid (HE.out.adF Hhp13.out Hhq13.out)
  clear Hhp13 Hhq13
  have cf33 := (HE.out.fr (i := 2) rfl).cell 0
  have cf34 := (HE.out.fr (i := 2) rfl).cell 1
  have cf35 := (HE.out.fr (i := 2) rfl).cell 2
  have cf36 := (HE.out.fr (i := 2) rfl).cell 3
  have cf37 := (HE.out.fr (i := 4) rfl).cell 0
  have cf38 := (HE.out.fr (i := 4) rfl).cell 1
  have cf39 := (HE.out.fr (i := 4) rfl).cell 2
  have cf40 := (HE.out.fr (i := 4) rfl).cell 3
  go_wp2_with (fail)
  go_must (refine (fsame_yes _ (HE.out.fp (i := 2) rfl) (HE.out.fq (i := 2) rfl) (HE.out.fp (i := 4) rfl) (HE.out.fq (i := 4) rfl)).mono ?_)
  rintro e W14 ⟨rfl, hb⟩
  replace HE := Lib.hid (HE.out.keep hb)
  clear hb
  clear cf33 cf34 cf35 cf36 cf37 cf38 cf39 cf40
  have cf41 := (HE.out.fr (i := 1) rfl).cell 0
  have cf42 := (HE.out.fr (i := 1) rfl).cell 1
  have cf43 := (HE.out.fr (i := 1) rfl).cell 2
  have cf44 := (HE.out.fr (i := 1) rfl).cell 3
  have cf45 := (HE.out.fr (i := 4) rfl).cell 0
  have cf46 := (HE.out.fr (i := 4) rfl).cell 1
  have cf47 := (HE.out.fr (i := 4) rfl).cell 2
  have cf48 := (HE.out.fr (i := 4) rfl).cell 3
  go_wp2_with (fail)
  go_must (refine (fsame_yes _ (HE.out.fp (i := 1) rfl) (HE.out.fq (i := 1) rfl) (HE.out.fp (i := 4) rfl) (HE.out.fq (i := 4) rfl)).mono ?_)
  rintro e W15 ⟨rfl, hb⟩
  replace HE := Lib.hid (HE.out.keep hb)
  clear hb
  clear cf41 cf42 cf43 cf44 cf45 cf46 cf47 cf48
  have hn0 : (nn == 0) = false := by have h := HN0.out; simp; exact h
  have cf49 := (HE.out.fr (i := 0) rfl).cell 0
  have cf50 := (HE.out.fr (i := 0) rfl).cell 1
  have cf51 := (HE.out.fr (i := 0) rfl).cell 2
  have cf52 := (HE.out.fr (i := 0) rfl).cell 3
  have cf53 := (HE.out.fr (i := 4) rfl).cell 0
  have cf54 := (HE.out.fr (i := 4) rfl).cell 1
  have cf55 := (HE.out.fr (i := 4) rfl).cell 2
  have cf56 := (HE.out.fr (i := 4) rfl).cell 3
  go_wp2_with (fail)
  go_must (refine (fsame_yes _ (HE.out.fp (i := 0) rfl) (HE.out.fq (i := 0) rfl) (HE.out.fp (i := 4) rfl) (HE.out.fq (i := 4) rfl)).mono ?_)
  rintro e W16 ⟨rfl, hb⟩
  replace HE := Lib.hid (HE.out.keep hb)
  clear hb
  clear cf49 cf50 cf51 cf52 cf53 cf54 cf55 cf56
  go_wp2
  go_ret
  exact ⟨rfl, HE.out.b⟩
end
section
variable {s0 t0 : Int} {A0 B0 : Option Addr} {n0 c0 m0 d0 : Nat} {l0 k0 : List Int}
set_option maxRecDepth 100000 in
set_option maxHeartbeats 16000000 in
theorem fback_YNZ (nn : Int) (s : List UInt8) (w : World) (hT : PowTab w) (hM : MaxL w) (hnn : I64 nn) (h300 : s.length ≤ 300) (hok : ¬ fOk s) (hr : frB s0 t0 l0 k0 = true) (hn : nn = 0) (b0 : ArgF w.heap.size w (frV s0 A0 n0 c0 t0 B0 m0 d0) n0 m0 s0 t0 l0 k0) :
    Calls Tryz.prog 7 #[frV s0 A0 n0 c0 t0 B0 m0 d0, .int .i64 nn, .string ⟨s.toArray⟩] w fun e w' => e = .returned (.bool true) ∧ Below w.heap.size w w' := by
  have HB := Lib.hid (ba1_b w (fC s0 A0 n0 c0 t0 B0 m0 d0))
  have R0 := Lib.hid (ba1_0 w (fC s0 A0 n0 c0 t0 B0 m0 d0))
  have HA0 := Lib.hid (b0.keep HB.out)
  have HT0 := Lib.hid hT
  have HM0 := Lib.hid hM
  unfold ba1 at HB R0 HA0
  clear hT hM b0
  have H_hnn := Lib.hid hnn
  have H_hok := Lib.hid hok
  have H_hr := Lib.hid hr
  have H_hn := Lib.hid hn
  clear hnn hok hr hn
  have H_300 := Lib.hid h300
  clear h300
  go_enter Tryz.func7, Tryz.ntmps7
  go_wp2_with (fail)
  go_must (refine (fsmall_yes _ (HT0.out.keep HB.out) (HM0.out.keep HB.out)).mono ?_)
  rintro e W1 ⟨rfl, hb⟩
  replace HB := Lib.hid (Gen.over hb HB.out)
  replace HA0 := Lib.hid (HA0.out.keep hb)
  replace R0 := Lib.hid (R0.out.keep hb)
  clear hb
  cases hqf0 : (decide ((n0 : Int) ≤ 40) && decide ((m0 : Int) ≤ 40))
  · have HQ := Lib.hid hqf0
    clear hqf0
    have p0 := R0.out.cell 0
    have p1 := R0.out.cell 1
    have p2 := R0.out.cell 2
    have p3 := R0.out.cell 3
    go_wp2_with (fail)
    go_must (refine (HA0.out.few (k := 40) _ false HQ.out).mono ?_)
    rintro e W2 ⟨rfl, hb⟩
    replace HB := Lib.hid (Gen.over hb HB.out)
    clear hb p0 p1 p2 p3
    go_wp2
    go_ret
    exact ⟨rfl, HB.out⟩
  have HQf0 := Lib.hid hqf0
  clear hqf0
  have p0 := R0.out.cell 0
  have p1 := R0.out.cell 1
  have p2 := R0.out.cell 2
  have p3 := R0.out.cell 3
  go_wp2_with (fail)
  go_must (refine (HA0.out.few (k := 40) _ true HQf0.out).mono ?_)
  rintro e W2 ⟨rfl, hb⟩
  replace HB := Lib.hid (Gen.over hb HB.out)
  replace HA0 := Lib.hid (HA0.out.keep hb)
  replace R0 := Lib.hid (R0.out.keep hb)
  clear hb p0 p1 p2 p3
  have HNN := Lib.hid H_hnn.out
  have HOK := Lib.hid H_hok.out
  have h4 : ¬ (300 : Int) < (s.length : Int) := by have := H_300.out; omega
  have HL : Hid (s.length ≤ 4000000000) := Lib.hid (by have := H_300.out; omega)
  have HQr0 := Lib.hid H_hr.out
  have HN0 := Lib.hid H_hn.out
  obtain ⟨p0, q0, ip, iq, hz, sg0, rt⟩ := HA0.out.getp 40 HQr0.out HQf0.out
  have HP0 := Lib.hid ip
  have HQ0 := Lib.hid iq
  have HZ_f := Lib.hid hz
  have HR_f := Lib.hid rt
  have HS_f := Lib.hid sg0
  clear ip iq hz rt sg0
  have HE := Lib.hid (Env.start (Fs.co (Fs.nil w.heap.size W2) R0.out HP0.out HQ0.out) HT0.out HM0.out HB.out (Nat.le_refl _) (by simp <;> omega))
  clear HB HT0 HM0 HA0 R0 HP0 HQ0 HQf0 HQr0
  have HF1 : Hid (Fit (p0 * nn)) := Lib.hid ((HZ_f.out.1.mul (i64_sz HNN.out)).fit)
  have HF2 : Hid (Fit (q0 * nn)) := Lib.hid ((HZ_f.out.2.mul (i64_sz HNN.out)).fit)
  have HQ0 : Hid (q0 ≠ 0) := Lib.hid (Int.ne_of_gt HR_f.out.1)
  obtain ⟨TX, hTX⟩ : ∃ l, ftxt p0 q0 = l := ⟨_, rfl⟩
  have HTO : Hid (fOk TX ∧ rdV (fa TX) = p0 ∧ rdV (fb TX) = q0) := Lib.hid (by rw [← hTX]; exact ftxt_ok HR_f.out (HZ_f.out.1.fit) (HZ_f.out.2.fit))
  have HTL : Hid (TX.length ≤ 4000000000) := Lib.hid (by rw [← hTX]; exact ftxt_len (HZ_f.out.1.fit) (HZ_f.out.2.fit))
  have HTX := Lib.hid hTX
  clear hTX
  go_wp2_with (fail)
  go_must (refine (fread_no s _ HE.out.size HE.out.m HL.out HOK.out).mono ?_)
  rintro e W3 ⟨rfl, hb⟩
  replace HE := Lib.hid (HE.out.keep hb)
  clear hb
  have HZB : Hid (IsBig w.heap.size W3 (bigV 0 none 0 0) 0) := Lib.hid (IsBig.zero _)
  replace HE := Lib.hid (HE.out.adF HZB.out HZB.out)
  clear HZB
  have cf1 := (HE.out.fr (i := 0) rfl).cell 0
  have cf2 := (HE.out.fr (i := 0) rfl).cell 1
  have cf3 := (HE.out.fr (i := 0) rfl).cell 2
  have cf4 := (HE.out.fr (i := 0) rfl).cell 3
  go_wp2_with (fail)
  go_must (refine (fsame_yes (p := 0) (q := 0) _ (HE.out.fp (i := 0) rfl) (HE.out.fq (i := 0) rfl) (IsBig.zero _) (IsBig.zero _)).mono ?_)
  rintro e W4 ⟨rfl, hb⟩
  replace HE := Lib.hid (HE.out.keep hb)
  clear hb
  clear cf1 cf2 cf3 cf4
  have cf5 := (HE.out.fr (i := 1) rfl).cell 0
  have cf6 := (HE.out.fr (i := 1) rfl).cell 1
  have cf7 := (HE.out.fr (i := 1) rfl).cell 2
  have cf8 := (HE.out.fr (i := 1) rfl).cell 3
  go_wp2_with (fail)
  go_must (refine (ftext_is (l := TX) _ HE.out.t (HE.out.fp (i := 1) rfl) (HE.out.fq (i := 1) rfl) HR_f.out HTX.out).mono ?_)
  rintro e W5 ⟨rfl, hb⟩
  replace HE := Lib.hid (HE.out.keep hb)
  clear hb
  clear cf5 cf6 cf7 cf8
  have cf9 := (HE.out.fr (i := 1) rfl).cell 0
  have cf10 := (HE.out.fr (i := 1) rfl).cell 1
  have cf11 := (HE.out.fr (i := 1) rfl).cell 2
  have cf12 := (HE.out.fr (i := 1) rfl).cell 3
  go_wp2_with (fail)
  go_must (refine (fright_yes _ (HE.out.fp (i := 1) rfl) (HE.out.fq (i := 1) rfl) HR_f.out).mono ?_)
  rintro e W6 ⟨rfl, hb⟩
  replace HE := Lib.hid (HE.out.keep hb)
  clear hb
  clear cf9 cf10 cf11 cf12
  go_wp2_with (fail)
  go_must (refine (fread_as TX (p := p0) (q := q0) _ HE.out.size HE.out.m HTL.out HTO.out).mono ?_)
  rintro e W7 ⟨s7, A7, n7, c7, t7, B7, m7, d7, rfl, hp7, hq7, hb⟩
  replace HE := Lib.hid (HE.out.keep hb)
  clear hb
  have Hhp7 := Lib.hid hp7
  clear hp7
  have Hhq7 := Lib.hid hq7
  clear hq7
  replace HE := Lib.hid (HE.out.adF Hhp7.out Hhq7.out)
  clear Hhp7 Hhq7
  have cf13 := (HE.out.fr (i := 2) rfl).cell 0
  have cf14 := (HE.out.fr (i := 2) rfl).cell 1
  have cf15 := (HE.out.fr (i := 2) rfl).cell 2
  have cf16 := (HE.out.fr (i := 2) rfl).cell 3
  go_wp2_with (fail)
  go_must (refine (new_as (x := p0) (y := q0) _ HE.out.size (HE.out.fp (i := 2) rfl) (HE.out.fq (i := 2) rfl) HQ0.out (new_same HR_f.out).1 (new_same HR_f.out).2).mono ?_)
  rintro e W8 ⟨s8, A8, n8, c8, t8, B8, m8, d8, rfl, hp8, hq8, hb⟩
  replace HE := Lib.hid (HE.out.keep hb)
  clear hb
  clear cf13 cf14 cf15 cf16
  have Hhp8 := Lib.hid hp8
  clear hp8
  have Hhq8 := Lib.hid hq8
  clear hq8
  replace HE := Lib.hid (HE.out.adF Hhp8.out Hhq8.out)
  clear Hhp8 Hhq8
  go_wp2_with (fail)
  generalize W8.alloc (.cells (fC s8 A8 n8 c8 t8 B8 m8 d8) 43) = W9 at HE  ⊢
  have HXp := Lib.hid (HE.out.fp (i := 3) rfl)
  have HP_f := Lib.hid (HE.out.fr (i := 3) rfl).lt
  have HS0 : Hid (Below W9.heap.size W9 W9 ∧ W9.cell? ⟨w.heap.size, 0, none⟩ = some (.int .i64 s0) ∧ W9.cell? ⟨w.heap.size, 1, none⟩ = some (.slice A0 n0 c0) ∧ W9.cell? ⟨w.heap.size, 2, none⟩ = some (.int .i64 t0) ∧ W9.cell? ⟨w.heap.size, 3, none⟩ = some (.slice B0 m0 d0)) := Lib.hid ⟨Below.refl _ _, (HE.out.fr (i := 3) rfl).cell 0, (HE.out.fr (i := 3) rfl).cell 1, (HE.out.fr (i := 3) rfl).cell 2, (HE.out.fr (i := 3) rfl).cell 3⟩
  have cf17 := (HE.out.fr (i := 3) rfl).cell 0
  have cf18 := (HE.out.fr (i := 3) rfl).cell 1
  have cf19 := (HE.out.fr (i := 3) rfl).cell 2
  have cf20 := (HE.out.fr (i := 3) rfl).cell 3
  go_cut [15, 16] (fun c d wx => ∃ vg vA vn vc, c = .pointer (some ⟨vg, 0, none⟩) ∧ d = .int .i64 0 ∧ Hid (Env w.heap.size w wx [(W8.heap.size, frV s8 A8 n8 c8 t8 B8 m8 d8, p0, q0), (W7.heap.size, frV s7 A7 n7 c7 t7 B7 m7 d7, p0, q0), (W3.heap.size, frV 0 none 0 0 0 none 0 0, 0, 0), (w.heap.size, frV s0 A0 n0 c0 t0 B0 m0 d0, p0, q0)] ((vg, bigV (sg (p0 * nn)) vA vn vc, (p0 * nn)) :: [])))
  case first =>
    go_region_held3 (fun W' : World => Below W9.heap.size W9 W' ∧ W'.cell? ⟨w.heap.size, 0, none⟩ = some (.int .i64 s0) ∧ W'.cell? ⟨w.heap.size, 1, none⟩ = some (.slice A0 n0 c0) ∧ W'.cell? ⟨w.heap.size, 2, none⟩ = some (.int .i64 t0) ∧ W'.cell? ⟨w.heap.size, 3, none⟩ = some (.slice B0 m0 d0))
      (first | with_reducible exact hS2 | with_reducible exact hS1 | with_reducible exact ⟨below_set2 (And.left (by assumption)) (by first | exact Nat.le_refl _ | exact hS2.1.size | exact hS1.1.size) _ _, keep_set2 (And.left (And.right (by assumption))) HP_f.out (by first | exact Nat.le_refl _ | exact hS2.1.size | exact hS1.1.size), keep_set2 (And.left (And.right (And.right (by assumption)))) HP_f.out (by first | exact Nat.le_refl _ | exact hS2.1.size | exact hS1.1.size), keep_set2 (And.left (And.right (And.right (And.right (by assumption))))) HP_f.out (by first | exact Nat.le_refl _ | exact hS2.1.size | exact hS1.1.size), keep_set2 (And.right (And.right (And.right (And.right (by assumption))))) HP_f.out (by first | exact Nat.le_refl _ | exact hS2.1.size | exact hS1.1.size)⟩ | exact ⟨HS0.out.1.drew, HS0.out.2⟩ | exact ⟨Gen.b_alloc (And.left (by assumption)), Gen.al (And.left (And.right (by assumption))), Gen.al (And.left (And.right (And.right (by assumption)))), Gen.al (And.left (And.right (And.right (And.right (by assumption))))), Gen.al (And.right (And.right (And.right (And.right (by assumption)))))⟩ | fail "keep")
      (first
        | (go_at_call 35; (with_reducible refine (of_as (N0 := w.heap.size) nn _ HNN.out).mono ?_); rintro e' w' ⟨Ao, mo, co, rfl, ho, hb⟩; have hS1 := (show (Below W9.heap.size W9 w' ∧ w'.cell? ⟨w.heap.size, 0, none⟩ = some (.int .i64 s0) ∧ w'.cell? ⟨w.heap.size, 1, none⟩ = some (.slice A0 n0 c0) ∧ w'.cell? ⟨w.heap.size, 2, none⟩ = some (.int .i64 t0) ∧ w'.cell? ⟨w.heap.size, 3, none⟩ = some (.slice B0 m0 d0)) from ⟨Gen.over hb (And.left (by assumption)), Gen.keep hb (And.left (And.right (by assumption))), Gen.keep hb (And.left (And.right (And.right (by assumption)))), Gen.keep hb (And.left (And.right (And.right (And.right (by assumption))))), Gen.keep hb (And.right (And.right (And.right (And.right (by assumption)))))⟩); (first | have hRw := Row.keep hRw hb | have hRw := (Row.new _ _ _).keep hb | have hRw := (rowd _ _ _).keep hb | skip))
        | (go_at_call 15; (with_reducible refine (mul_af (z := (p0 * nn)) _ (HXp.out.keep (And.left (by assumption))) (by first | exact ho | exact ho.drw | exact ho.keep (Gen.b_alloc (Below.refl _ _)) | exact (ho.keep (Gen.b_alloc (Below.refl _ _))).drw) rfl HF1.out).mono ?_); rintro e' w' ⟨Ar, nr, cr, rfl, hr, hb⟩; have hS2 := (show (Below W9.heap.size W9 w' ∧ w'.cell? ⟨w.heap.size, 0, none⟩ = some (.int .i64 s0) ∧ w'.cell? ⟨w.heap.size, 1, none⟩ = some (.slice A0 n0 c0) ∧ w'.cell? ⟨w.heap.size, 2, none⟩ = some (.int .i64 t0) ∧ w'.cell? ⟨w.heap.size, 3, none⟩ = some (.slice B0 m0 d0)) from ⟨Gen.over hb (And.left (by assumption)), Gen.keep hb (And.left (And.right (by assumption))), Gen.keep hb (And.left (And.right (And.right (by assumption)))), Gen.keep hb (And.left (And.right (And.right (And.right (by assumption))))), Gen.keep hb (And.right (And.right (And.right (And.right (by assumption)))))⟩); (first | have ho := IsBig.keep ho hb | have ho := IsBig.keep (IsBig.drw ho) hb | have ho := IsBig.keep (IsBig.keep ho (Gen.b_alloc (Below.refl _ _))) hb | skip); (first | have hRw := Row.keep hRw hb | have hRw := (Row.new _ _ _).keep hb | have hRw := (rowd _ _ _).keep hb | skip); (try have fz0 := hRw.frozen 0); (try have cz0 := hRw.cell 0); (try have fz1 := hRw.frozen 1); (try have cz1 := hRw.cell 1); (try have hRl := hRw.lt))
        | fail "arm")
    all_goals
      go_wp2
      go_meet
      exact ⟨_, _, _, _, rfl, rfl, Lib.hid (by first | exact Env.adV (HE.out.keep hS2.1) hr | exact Env.rgV HE.out hS2.1 (by first | exact Nat.le_refl _ | exact hS2.1.size | exact hS1.1.size) hRw hr)⟩
  clear cf17 cf18 cf19 cf20
  clear HS0 HP_f
  obtain ⟨gvp, Avp, nvp, cvp, rfl, rfl, HEn⟩ := hcut
  replace HE := HEn
  clear HEn HXp
  rename World => W10
  go_wp2_with (fail)
  have HXp := Lib.hid (HE.out.fq (i := 3) rfl)
  have HP_f := Lib.hid (HE.out.fr (i := 3) rfl).lt
  have HS0 : Hid (Below W10.heap.size W10 W10 ∧ W10.cell? ⟨w.heap.size, 0, none⟩ = some (.int .i64 s0) ∧ W10.cell? ⟨w.heap.size, 1, none⟩ = some (.slice A0 n0 c0) ∧ W10.cell? ⟨w.heap.size, 2, none⟩ = some (.int .i64 t0) ∧ W10.cell? ⟨w.heap.size, 3, none⟩ = some (.slice B0 m0 d0)) := Lib.hid ⟨Below.refl _ _, (HE.out.fr (i := 3) rfl).cell 0, (HE.out.fr (i := 3) rfl).cell 1, (HE.out.fr (i := 3) rfl).cell 2, (HE.out.fr (i := 3) rfl).cell 3⟩
  have cf21 := (HE.out.fr (i := 3) rfl).cell 0
  have cf22 := (HE.out.fr (i := 3) rfl).cell 1
  have cf23 := (HE.out.fr (i := 3) rfl).cell 2
  have cf24 := (HE.out.fr (i := 3) rfl).cell 3
  go_cut [17, 18] (fun c d wx => ∃ vg vA vn vc, c = .pointer (some ⟨vg, 0, none⟩) ∧ d = .int .i64 0 ∧ Hid (Env w.heap.size w wx [(W8.heap.size, frV s8 A8 n8 c8 t8 B8 m8 d8, p0, q0), (W7.heap.size, frV s7 A7 n7 c7 t7 B7 m7 d7, p0, q0), (W3.heap.size, frV 0 none 0 0 0 none 0 0, 0, 0), (w.heap.size, frV s0 A0 n0 c0 t0 B0 m0 d0, p0, q0)] ((vg, bigV (sg (q0 * nn)) vA vn vc, (q0 * nn)) :: [(gvp, bigV (sg (p0 * nn)) Avp nvp cvp, (p0 * nn))])))
  case first =>
    go_region_held3 (fun W' : World => Below W10.heap.size W10 W' ∧ W'.cell? ⟨w.heap.size, 0, none⟩ = some (.int .i64 s0) ∧ W'.cell? ⟨w.heap.size, 1, none⟩ = some (.slice A0 n0 c0) ∧ W'.cell? ⟨w.heap.size, 2, none⟩ = some (.int .i64 t0) ∧ W'.cell? ⟨w.heap.size, 3, none⟩ = some (.slice B0 m0 d0))
      (first | with_reducible exact hS2 | with_reducible exact hS1 | with_reducible exact ⟨below_set2 (And.left (by assumption)) (by first | exact Nat.le_refl _ | exact hS2.1.size | exact hS1.1.size) _ _, keep_set2 (And.left (And.right (by assumption))) HP_f.out (by first | exact Nat.le_refl _ | exact hS2.1.size | exact hS1.1.size), keep_set2 (And.left (And.right (And.right (by assumption)))) HP_f.out (by first | exact Nat.le_refl _ | exact hS2.1.size | exact hS1.1.size), keep_set2 (And.left (And.right (And.right (And.right (by assumption))))) HP_f.out (by first | exact Nat.le_refl _ | exact hS2.1.size | exact hS1.1.size), keep_set2 (And.right (And.right (And.right (And.right (by assumption))))) HP_f.out (by first | exact Nat.le_refl _ | exact hS2.1.size | exact hS1.1.size)⟩ | exact ⟨HS0.out.1.drew, HS0.out.2⟩ | exact ⟨Gen.b_alloc (And.left (by assumption)), Gen.al (And.left (And.right (by assumption))), Gen.al (And.left (And.right (And.right (by assumption)))), Gen.al (And.left (And.right (And.right (And.right (by assumption))))), Gen.al (And.right (And.right (And.right (And.right (by assumption)))))⟩ | fail "keep")
      (first
        | (go_at_call 35; (with_reducible refine (of_as (N0 := w.heap.size) nn _ HNN.out).mono ?_); rintro e' w' ⟨Ao, mo, co, rfl, ho, hb⟩; have hS1 := (show (Below W10.heap.size W10 w' ∧ w'.cell? ⟨w.heap.size, 0, none⟩ = some (.int .i64 s0) ∧ w'.cell? ⟨w.heap.size, 1, none⟩ = some (.slice A0 n0 c0) ∧ w'.cell? ⟨w.heap.size, 2, none⟩ = some (.int .i64 t0) ∧ w'.cell? ⟨w.heap.size, 3, none⟩ = some (.slice B0 m0 d0)) from ⟨Gen.over hb (And.left (by assumption)), Gen.keep hb (And.left (And.right (by assumption))), Gen.keep hb (And.left (And.right (And.right (by assumption)))), Gen.keep hb (And.left (And.right (And.right (And.right (by assumption))))), Gen.keep hb (And.right (And.right (And.right (And.right (by assumption)))))⟩); (first | have hRw := Row.keep hRw hb | have hRw := (Row.new _ _ _).keep hb | have hRw := (rowd _ _ _).keep hb | skip))
        | (go_at_call 15; (with_reducible refine (mul_af (z := (q0 * nn)) _ (HXp.out.keep (And.left (by assumption))) (by first | exact ho | exact ho.drw | exact ho.keep (Gen.b_alloc (Below.refl _ _)) | exact (ho.keep (Gen.b_alloc (Below.refl _ _))).drw) rfl HF2.out).mono ?_); rintro e' w' ⟨Ar, nr, cr, rfl, hr, hb⟩; have hS2 := (show (Below W10.heap.size W10 w' ∧ w'.cell? ⟨w.heap.size, 0, none⟩ = some (.int .i64 s0) ∧ w'.cell? ⟨w.heap.size, 1, none⟩ = some (.slice A0 n0 c0) ∧ w'.cell? ⟨w.heap.size, 2, none⟩ = some (.int .i64 t0) ∧ w'.cell? ⟨w.heap.size, 3, none⟩ = some (.slice B0 m0 d0)) from ⟨Gen.over hb (And.left (by assumption)), Gen.keep hb (And.left (And.right (by assumption))), Gen.keep hb (And.left (And.right (And.right (by assumption)))), Gen.keep hb (And.left (And.right (And.right (And.right (by assumption))))), Gen.keep hb (And.right (And.right (And.right (And.right (by assumption)))))⟩); (first | have ho := IsBig.keep ho hb | have ho := IsBig.keep (IsBig.drw ho) hb | have ho := IsBig.keep (IsBig.keep ho (Gen.b_alloc (Below.refl _ _))) hb | skip); (first | have hRw := Row.keep hRw hb | have hRw := (Row.new _ _ _).keep hb | have hRw := (rowd _ _ _).keep hb | skip); (try have fz0 := hRw.frozen 0); (try have cz0 := hRw.cell 0); (try have fz1 := hRw.frozen 1); (try have cz1 := hRw.cell 1); (try have hRl := hRw.lt))
        | fail "arm")
    all_goals
      go_wp2
      go_meet
      exact ⟨_, _, _, _, rfl, rfl, Lib.hid (by first | exact Env.adV (HE.out.keep hS2.1) hr | exact Env.rgV HE.out hS2.1 (by first | exact Nat.le_refl _ | exact hS2.1.size | exact hS1.1.size) hRw hr)⟩
  clear cf21 cf22 cf23 cf24
  clear HS0 HP_f
  obtain ⟨gvq, Avq, nvq, cvq, rfl, rfl, HEn⟩ := hcut
  replace HE := HEn
  clear HEn HXp
  rename World => W11
  have cf25 := (HE.out.vr (i := 1) rfl).cell 0
  have cf26 := (HE.out.vr (i := 1) rfl).cell 1
  have cf27 := (HE.out.vr (i := 0) rfl).cell 0
  have cf28 := (HE.out.vr (i := 0) rfl).cell 1
  go_wp2_with (fail)
  go_must (refine (New_none _ HE.out.size (HE.out.vz (i := 1) rfl) (HE.out.vz (i := 0) rfl) (by rw [HN0.out, Int.mul_zero])).mono ?_)
  rintro e W12 ⟨rfl, hb⟩
  replace HE := Lib.hid (HE.out.keep hb)
  clear hb
  clear cf25 cf26 cf27 cf28
  have HZB : Hid (IsBig w.heap.size W12 (bigV 0 none 0 0) 0) := Lib.hid (IsBig.zero _)
  replace HE := Lib.hid (HE.out.adF HZB.out HZB.out)
  clear HZB
  have cf29 := (HE.out.fr (i := 2) rfl).cell 0
  have cf30 := (HE.out.fr (i := 2) rfl).cell 1
  have cf31 := (HE.out.fr (i := 2) rfl).cell 2
  have cf32 := (HE.out.fr (i := 2) rfl).cell 3
  have cf33 := (HE.out.fr (i := 4) rfl).cell 0
  have cf34 := (HE.out.fr (i := 4) rfl).cell 1
  have cf35 := (HE.out.fr (i := 4) rfl).cell 2
  have cf36 := (HE.out.fr (i := 4) rfl).cell 3
  go_wp2_with (fail)
  go_must (refine (fsame_yes _ (HE.out.fp (i := 2) rfl) (HE.out.fq (i := 2) rfl) (HE.out.fp (i := 4) rfl) (HE.out.fq (i := 4) rfl)).mono ?_)
  rintro e W13 ⟨rfl, hb⟩
  replace HE := Lib.hid (HE.out.keep hb)
  clear hb
  clear cf29 cf30 cf31 cf32 cf33 cf34 cf35 cf36
  have cf37 := (HE.out.fr (i := 1) rfl).cell 0
  have cf38 := (HE.out.fr (i := 1) rfl).cell 1
  have cf39 := (HE.out.fr (i := 1) rfl).cell 2
  have cf40 := (HE.out.fr (i := 1) rfl).cell 3
  have cf41 := (HE.out.fr (i := 4) rfl).cell 0
  have cf42 := (HE.out.fr (i := 4) rfl).cell 1
  have cf43 := (HE.out.fr (i := 4) rfl).cell 2
  have cf44 := (HE.out.fr (i := 4) rfl).cell 3
  go_wp2_with (fail)
  go_must (refine (fsame_yes _ (HE.out.fp (i := 1) rfl) (HE.out.fq (i := 1) rfl) (HE.out.fp (i := 4) rfl) (HE.out.fq (i := 4) rfl)).mono ?_)
  rintro e W14 ⟨rfl, hb⟩
  replace HE := Lib.hid (HE.out.keep hb)
  clear hb
  clear cf37 cf38 cf39 cf40 cf41 cf42 cf43 cf44
  have hn0 : (nn == 0) = true := by rw [HN0.out]; rfl
  go_wp2
  go_ret
  exact ⟨rfl, HE.out.b⟩
end
section
variable {s0 t0 : Int} {A0 B0 : Option Addr} {n0 c0 m0 d0 : Nat} {l0 k0 : List Int}
set_option maxRecDepth 100000 in
set_option maxHeartbeats 16000000 in
theorem fback_YND (nn : Int) (s : List UInt8) (w : World) (hT : PowTab w) (hM : MaxL w) (hnn : I64 nn) (h300 : s.length ≤ 300) (hok : ¬ fOk s) (hr : frB s0 t0 l0 k0 = true) (hn : nn ≠ 0) (b0 : ArgF w.heap.size w (frV s0 A0 n0 c0 t0 B0 m0 d0) n0 m0 s0 t0 l0 k0) :
    Calls Tryz.prog 7 #[frV s0 A0 n0 c0 t0 B0 m0 d0, .int .i64 nn, .string ⟨s.toArray⟩] w fun e w' => e = .returned (.bool true) ∧ Below w.heap.size w w' := by
  have HB := Lib.hid (ba1_b w (fC s0 A0 n0 c0 t0 B0 m0 d0))
  have R0 := Lib.hid (ba1_0 w (fC s0 A0 n0 c0 t0 B0 m0 d0))
  have HA0 := Lib.hid (b0.keep HB.out)
  have HT0 := Lib.hid hT
  have HM0 := Lib.hid hM
  unfold ba1 at HB R0 HA0
  clear hT hM b0
  have H_hnn := Lib.hid hnn
  have H_hok := Lib.hid hok
  have H_hr := Lib.hid hr
  have H_hn := Lib.hid hn
  clear hnn hok hr hn
  have H_300 := Lib.hid h300
  clear h300
  go_enter Tryz.func7, Tryz.ntmps7
  go_wp2_with (fail)
  go_must (refine (fsmall_yes _ (HT0.out.keep HB.out) (HM0.out.keep HB.out)).mono ?_)
  rintro e W1 ⟨rfl, hb⟩
  replace HB := Lib.hid (Gen.over hb HB.out)
  replace HA0 := Lib.hid (HA0.out.keep hb)
  replace R0 := Lib.hid (R0.out.keep hb)
  clear hb
  cases hqf0 : (decide ((n0 : Int) ≤ 40) && decide ((m0 : Int) ≤ 40))
  · have HQ := Lib.hid hqf0
    clear hqf0
    have p0 := R0.out.cell 0
    have p1 := R0.out.cell 1
    have p2 := R0.out.cell 2
    have p3 := R0.out.cell 3
    go_wp2_with (fail)
    go_must (refine (HA0.out.few (k := 40) _ false HQ.out).mono ?_)
    rintro e W2 ⟨rfl, hb⟩
    replace HB := Lib.hid (Gen.over hb HB.out)
    clear hb p0 p1 p2 p3
    go_wp2
    go_ret
    exact ⟨rfl, HB.out⟩
  have HQf0 := Lib.hid hqf0
  clear hqf0
  have p0 := R0.out.cell 0
  have p1 := R0.out.cell 1
  have p2 := R0.out.cell 2
  have p3 := R0.out.cell 3
  go_wp2_with (fail)
  go_must (refine (HA0.out.few (k := 40) _ true HQf0.out).mono ?_)
  rintro e W2 ⟨rfl, hb⟩
  replace HB := Lib.hid (Gen.over hb HB.out)
  replace HA0 := Lib.hid (HA0.out.keep hb)
  replace R0 := Lib.hid (R0.out.keep hb)
  clear hb p0 p1 p2 p3
  have HNN := Lib.hid H_hnn.out
  have HOK := Lib.hid H_hok.out
  have h4 : ¬ (300 : Int) < (s.length : Int) := by have := H_300.out; omega
  have HL : Hid (s.length ≤ 4000000000) := Lib.hid (by have := H_300.out; omega)
  have HQr0 := Lib.hid H_hr.out
  have HN0 := Lib.hid H_hn.out
  obtain ⟨p0, q0, ip, iq, hz, sg0, rt⟩ := HA0.out.getp 40 HQr0.out HQf0.out
  have HP0 := Lib.hid ip
  have HQ0 := Lib.hid iq
  have HZ_f := Lib.hid hz
  have HR_f := Lib.hid rt
  have HS_f := Lib.hid sg0
  clear ip iq hz rt sg0
  have HE := Lib.hid (Env.start (Fs.co (Fs.nil w.heap.size W2) R0.out HP0.out HQ0.out) HT0.out HM0.out HB.out (Nat.le_refl _) (by simp <;> omega))
  clear HB HT0 HM0 HA0 R0 HP0 HQ0 HQf0 HQr0
  have HF1 : Hid (Fit (p0 * nn)) := Lib.hid ((HZ_f.out.1.mul (i64_sz HNN.out)).fit)
  have HF2 : Hid (Fit (q0 * nn)) := Lib.hid ((HZ_f.out.2.mul (i64_sz HNN.out)).fit)
  have HQ0 : Hid (q0 ≠ 0) := Lib.hid (Int.ne_of_gt HR_f.out.1)
  obtain ⟨TX, hTX⟩ : ∃ l, ftxt p0 q0 = l := ⟨_, rfl⟩
  have HTO : Hid (fOk TX ∧ rdV (fa TX) = p0 ∧ rdV (fb TX) = q0) := Lib.hid (by rw [← hTX]; exact ftxt_ok HR_f.out (HZ_f.out.1.fit) (HZ_f.out.2.fit))
  have HTL : Hid (TX.length ≤ 4000000000) := Lib.hid (by rw [← hTX]; exact ftxt_len (HZ_f.out.1.fit) (HZ_f.out.2.fit))
  have HTX := Lib.hid hTX
  clear hTX
  go_wp2_with (fail)
  go_must (refine (fread_no s _ HE.out.size HE.out.m HL.out HOK.out).mono ?_)
  rintro e W3 ⟨rfl, hb⟩
  replace HE := Lib.hid (HE.out.keep hb)
  clear hb
  have HZB : Hid (IsBig w.heap.size W3 (bigV 0 none 0 0) 0) := Lib.hid (IsBig.zero _)
  replace HE := Lib.hid (HE.out.adF HZB.out HZB.out)
  clear HZB
  have cf1 := (HE.out.fr (i := 0) rfl).cell 0
  have cf2 := (HE.out.fr (i := 0) rfl).cell 1
  have cf3 := (HE.out.fr (i := 0) rfl).cell 2
  have cf4 := (HE.out.fr (i := 0) rfl).cell 3
  go_wp2_with (fail)
  go_must (refine (fsame_yes (p := 0) (q := 0) _ (HE.out.fp (i := 0) rfl) (HE.out.fq (i := 0) rfl) (IsBig.zero _) (IsBig.zero _)).mono ?_)
  rintro e W4 ⟨rfl, hb⟩
  replace HE := Lib.hid (HE.out.keep hb)
  clear hb
  clear cf1 cf2 cf3 cf4
  have cf5 := (HE.out.fr (i := 1) rfl).cell 0
  have cf6 := (HE.out.fr (i := 1) rfl).cell 1
  have cf7 := (HE.out.fr (i := 1) rfl).cell 2
  have cf8 := (HE.out.fr (i := 1) rfl).cell 3
  go_wp2_with (fail)
  go_must (refine (ftext_is (l := TX) _ HE.out.t (HE.out.fp (i := 1) rfl) (HE.out.fq (i := 1) rfl) HR_f.out HTX.out).mono ?_)
  rintro e W5 ⟨rfl, hb⟩
  replace HE := Lib.hid (HE.out.keep hb)
  clear hb
  clear cf5 cf6 cf7 cf8
  have cf9 := (HE.out.fr (i := 1) rfl).cell 0
  have cf10 := (HE.out.fr (i := 1) rfl).cell 1
  have cf11 := (HE.out.fr (i := 1) rfl).cell 2
  have cf12 := (HE.out.fr (i := 1) rfl).cell 3
  go_wp2_with (fail)
  go_must (refine (fright_yes _ (HE.out.fp (i := 1) rfl) (HE.out.fq (i := 1) rfl) HR_f.out).mono ?_)
  rintro e W6 ⟨rfl, hb⟩
  replace HE := Lib.hid (HE.out.keep hb)
  clear hb
  clear cf9 cf10 cf11 cf12
  go_wp2_with (fail)
  go_must (refine (fread_as TX (p := p0) (q := q0) _ HE.out.size HE.out.m HTL.out HTO.out).mono ?_)
  rintro e W7 ⟨s7, A7, n7, c7, t7, B7, m7, d7, rfl, hp7, hq7, hb⟩
  replace HE := Lib.hid (HE.out.keep hb)
  clear hb
  have Hhp7 := Lib.hid hp7
  clear hp7
  have Hhq7 := Lib.hid hq7
  clear hq7
  replace HE := Lib.hid (HE.out.adF Hhp7.out Hhq7.out)
  clear Hhp7 Hhq7
  have cf13 := (HE.out.fr (i := 2) rfl).cell 0
  have cf14 := (HE.out.fr (i := 2) rfl).cell 1
  have cf15 := (HE.out.fr (i := 2) rfl).cell 2
  have cf16 := (HE.out.fr (i := 2) rfl).cell 3
  go_wp2_with (fail)
  go_must (refine (new_as (x := p0) (y := q0) _ HE.out.size (HE.out.fp (i := 2) rfl) (HE.out.fq (i := 2) rfl) HQ0.out (new_same HR_f.out).1 (new_same HR_f.out).2).mono ?_)
  rintro e W8 ⟨s8, A8, n8, c8, t8, B8, m8, d8, rfl, hp8, hq8, hb⟩
  replace HE := Lib.hid (HE.out.keep hb)
  clear hb
  clear cf13 cf14 cf15 cf16
  have Hhp8 := Lib.hid hp8
  clear hp8
  have Hhq8 := Lib.hid hq8
  clear hq8
  replace HE := Lib.hid (HE.out.adF Hhp8.out Hhq8.out)
  clear Hhp8 Hhq8
  go_wp2_with (fail)
  generalize W8.alloc (.cells (fC s8 A8 n8 c8 t8 B8 m8 d8) 43) = W9 at HE  ⊢
  have HXp := Lib.hid (HE.out.fp (i := 3) rfl)
  have HP_f := Lib.hid (HE.out.fr (i := 3) rfl).lt
  have HS0 : Hid (Below W9.heap.size W9 W9 ∧ W9.cell? ⟨w.heap.size, 0, none⟩ = some (.int .i64 s0) ∧ W9.cell? ⟨w.heap.size, 1, none⟩ = some (.slice A0 n0 c0) ∧ W9.cell? ⟨w.heap.size, 2, none⟩ = some (.int .i64 t0) ∧ W9.cell? ⟨w.heap.size, 3, none⟩ = some (.slice B0 m0 d0)) := Lib.hid ⟨Below.refl _ _, (HE.out.fr (i := 3) rfl).cell 0, (HE.out.fr (i := 3) rfl).cell 1, (HE.out.fr (i := 3) rfl).cell 2, (HE.out.fr (i := 3) rfl).cell 3⟩
  have cf17 := (HE.out.fr (i := 3) rfl).cell 0
  have cf18 := (HE.out.fr (i := 3) rfl).cell 1
  have cf19 := (HE.out.fr (i := 3) rfl).cell 2
  have cf20 := (HE.out.fr (i := 3) rfl).cell 3
  go_cut [15, 16] (fun c d wx => ∃ vg vA vn vc, c = .pointer (some ⟨vg, 0, none⟩) ∧ d = .int .i64 0 ∧ Hid (Env w.heap.size w wx [(W8.heap.size, frV s8 A8 n8 c8 t8 B8 m8 d8, p0, q0), (W7.heap.size, frV s7 A7 n7 c7 t7 B7 m7 d7, p0, q0), (W3.heap.size, frV 0 none 0 0 0 none 0 0, 0, 0), (w.heap.size, frV s0 A0 n0 c0 t0 B0 m0 d0, p0, q0)] ((vg, bigV (sg (p0 * nn)) vA vn vc, (p0 * nn)) :: [])))
  case first =>
    go_region_held3 (fun W' : World => Below W9.heap.size W9 W' ∧ W'.cell? ⟨w.heap.size, 0, none⟩ = some (.int .i64 s0) ∧ W'.cell? ⟨w.heap.size, 1, none⟩ = some (.slice A0 n0 c0) ∧ W'.cell? ⟨w.heap.size, 2, none⟩ = some (.int .i64 t0) ∧ W'.cell? ⟨w.heap.size, 3, none⟩ = some (.slice B0 m0 d0))
      (first | with_reducible exact hS2 | with_reducible exact hS1 | with_reducible exact ⟨below_set2 (And.left (by assumption)) (by first | exact Nat.le_refl _ | exact hS2.1.size | exact hS1.1.size) _ _, keep_set2 (And.left (And.right (by assumption))) HP_f.out (by first | exact Nat.le_refl _ | exact hS2.1.size | exact hS1.1.size), keep_set2 (And.left (And.right (And.right (by assumption)))) HP_f.out (by first | exact Nat.le_refl _ | exact hS2.1.size | exact hS1.1.size), keep_set2 (And.left (And.right (And.right (And.right (by assumption))))) HP_f.out (by first | exact Nat.le_refl _ | exact hS2.1.size | exact hS1.1.size), keep_set2 (And.right (And.right (And.right (And.right (by assumption))))) HP_f.out (by first | exact Nat.le_refl _ | exact hS2.1.size | exact hS1.1.size)⟩ | exact ⟨HS0.out.1.drew, HS0.out.2⟩ | exact ⟨Gen.b_alloc (And.left (by assumption)), Gen.al (And.left (And.right (by assumption))), Gen.al (And.left (And.right (And.right (by assumption)))), Gen.al (And.left (And.right (And.right (And.right (by assumption))))), Gen.al (And.right (And.right (And.right (And.right (by assumption)))))⟩ | fail "keep")
      (first
        | (go_at_call 35; (with_reducible refine (of_as (N0 := w.heap.size) nn _ HNN.out).mono ?_); rintro e' w' ⟨Ao, mo, co, rfl, ho, hb⟩; have hS1 := (show (Below W9.heap.size W9 w' ∧ w'.cell? ⟨w.heap.size, 0, none⟩ = some (.int .i64 s0) ∧ w'.cell? ⟨w.heap.size, 1, none⟩ = some (.slice A0 n0 c0) ∧ w'.cell? ⟨w.heap.size, 2, none⟩ = some (.int .i64 t0) ∧ w'.cell? ⟨w.heap.size, 3, none⟩ = some (.slice B0 m0 d0)) from ⟨Gen.over hb (And.left (by assumption)), Gen.keep hb (And.left (And.right (by assumption))), Gen.keep hb (And.left (And.right (And.right (by assumption)))), Gen.keep hb (And.left (And.right (And.right (And.right (by assumption))))), Gen.keep hb (And.right (And.right (And.right (And.right (by assumption)))))⟩); (first | have hRw := Row.keep hRw hb | have hRw := (Row.new _ _ _).keep hb | have hRw := (rowd _ _ _).keep hb | skip))
        | (go_at_call 15; (with_reducible refine (mul_af (z := (p0 * nn)) _ (HXp.out.keep (And.left (by assumption))) (by first | exact ho | exact ho.drw | exact ho.keep (Gen.b_alloc (Below.refl _ _)) | exact (ho.keep (Gen.b_alloc (Below.refl _ _))).drw) rfl HF1.out).mono ?_); rintro e' w' ⟨Ar, nr, cr, rfl, hr, hb⟩; have hS2 := (show (Below W9.heap.size W9 w' ∧ w'.cell? ⟨w.heap.size, 0, none⟩ = some (.int .i64 s0) ∧ w'.cell? ⟨w.heap.size, 1, none⟩ = some (.slice A0 n0 c0) ∧ w'.cell? ⟨w.heap.size, 2, none⟩ = some (.int .i64 t0) ∧ w'.cell? ⟨w.heap.size, 3, none⟩ = some (.slice B0 m0 d0)) from ⟨Gen.over hb (And.left (by assumption)), Gen.keep hb (And.left (And.right (by assumption))), Gen.keep hb (And.left (And.right (And.right (by assumption)))), Gen.keep hb (And.left (And.right (And.right (And.right (by assumption))))), Gen.keep hb (And.right (And.right (And.right (And.right (by assumption)))))⟩); (first | have ho := IsBig.keep ho hb | have ho := IsBig.keep (IsBig.drw ho) hb | have ho := IsBig.keep (IsBig.keep ho (Gen.b_alloc (Below.refl _ _))) hb | skip); (first | have hRw := Row.keep hRw hb | have hRw := (Row.new _ _ _).keep hb | have hRw := (rowd _ _ _).keep hb | skip); (try have fz0 := hRw.frozen 0); (try have cz0 := hRw.cell 0); (try have fz1 := hRw.frozen 1); (try have cz1 := hRw.cell 1); (try have hRl := hRw.lt))
        | fail "arm")
    all_goals
      go_wp2
      go_meet
      exact ⟨_, _, _, _, rfl, rfl, Lib.hid (by first | exact Env.adV (HE.out.keep hS2.1) hr | exact Env.rgV HE.out hS2.1 (by first | exact Nat.le_refl _ | exact hS2.1.size | exact hS1.1.size) hRw hr)⟩
  clear cf17 cf18 cf19 cf20
  clear HS0 HP_f
  obtain ⟨gvp, Avp, nvp, cvp, rfl, rfl, HEn⟩ := hcut
  replace HE := HEn
  clear HEn HXp
  rename World => W10
  go_wp2_with (fail)
  have HXp := Lib.hid (HE.out.fq (i := 3) rfl)
  have HP_f := Lib.hid (HE.out.fr (i := 3) rfl).lt
  have HS0 : Hid (Below W10.heap.size W10 W10 ∧ W10.cell? ⟨w.heap.size, 0, none⟩ = some (.int .i64 s0) ∧ W10.cell? ⟨w.heap.size, 1, none⟩ = some (.slice A0 n0 c0) ∧ W10.cell? ⟨w.heap.size, 2, none⟩ = some (.int .i64 t0) ∧ W10.cell? ⟨w.heap.size, 3, none⟩ = some (.slice B0 m0 d0)) := Lib.hid ⟨Below.refl _ _, (HE.out.fr (i := 3) rfl).cell 0, (HE.out.fr (i := 3) rfl).cell 1, (HE.out.fr (i := 3) rfl).cell 2, (HE.out.fr (i := 3) rfl).cell 3⟩
  have cf21 := (HE.out.fr (i := 3) rfl).cell 0
  have cf22 := (HE.out.fr (i := 3) rfl).cell 1
  have cf23 := (HE.out.fr (i := 3) rfl).cell 2
  have cf24 := (HE.out.fr (i := 3) rfl).cell 3
  go_cut [17, 18] (fun c d wx => ∃ vg vA vn vc, c = .pointer (some ⟨vg, 0, none⟩) ∧ d = .int .i64 0 ∧ Hid (Env w.heap.size w wx [(W8.heap.size, frV s8 A8 n8 c8 t8 B8 m8 d8, p0, q0), (W7.heap.size, frV s7 A7 n7 c7 t7 B7 m7 d7, p0, q0), (W3.heap.size, frV 0 none 0 0 0 none 0 0, 0, 0), (w.heap.size, frV s0 A0 n0 c0 t0 B0 m0 d0, p0, q0)] ((vg, bigV (sg (q0 * nn)) vA vn vc, (q0 * nn)) :: [(gvp, bigV (sg (p0 * nn)) Avp nvp cvp, (p0 * nn))])))
  case first =>
    go_region_held3 (fun W' : World => Below W10.heap.size W10 W' ∧ W'.cell? ⟨w.heap.size, 0, none⟩ = some (.int .i64 s0) ∧ W'.cell? ⟨w.heap.size, 1, none⟩ = some (.slice A0 n0 c0) ∧ W'.cell? ⟨w.heap.size, 2, none⟩ = some (.int .i64 t0) ∧ W'.cell? ⟨w.heap.size, 3, none⟩ = some (.slice B0 m0 d0))
      (first | with_reducible exact hS2 | with_reducible exact hS1 | with_reducible exact ⟨below_set2 (And.left (by assumption)) (by first | exact Nat.le_refl _ | exact hS2.1.size | exact hS1.1.size) _ _, keep_set2 (And.left (And.right (by assumption))) HP_f.out (by first | exact Nat.le_refl _ | exact hS2.1.size | exact hS1.1.size), keep_set2 (And.left (And.right (And.right (by assumption)))) HP_f.out (by first | exact Nat.le_refl _ | exact hS2.1.size | exact hS1.1.size), keep_set2 (And.left (And.right (And.right (And.right (by assumption))))) HP_f.out (by first | exact Nat.le_refl _ | exact hS2.1.size | exact hS1.1.size), keep_set2 (And.right (And.right (And.right (And.right (by assumption))))) HP_f.out (by first | exact Nat.le_refl _ | exact hS2.1.size | exact hS1.1.size)⟩ | exact ⟨HS0.out.1.drew, HS0.out.2⟩ | exact ⟨Gen.b_alloc (And.left (by assumption)), Gen.al (And.left (And.right (by assumption))), Gen.al (And.left (And.right (And.right (by assumption)))), Gen.al (And.left (And.right (And.right (And.right (by assumption))))), Gen.al (And.right (And.right (And.right (And.right (by assumption)))))⟩ | fail "keep")
      (first
        | (go_at_call 35; (with_reducible refine (of_as (N0 := w.heap.size) nn _ HNN.out).mono ?_); rintro e' w' ⟨Ao, mo, co, rfl, ho, hb⟩; have hS1 := (show (Below W10.heap.size W10 w' ∧ w'.cell? ⟨w.heap.size, 0, none⟩ = some (.int .i64 s0) ∧ w'.cell? ⟨w.heap.size, 1, none⟩ = some (.slice A0 n0 c0) ∧ w'.cell? ⟨w.heap.size, 2, none⟩ = some (.int .i64 t0) ∧ w'.cell? ⟨w.heap.size, 3, none⟩ = some (.slice B0 m0 d0)) from ⟨Gen.over hb (And.left (by assumption)), Gen.keep hb (And.left (And.right (by assumption))), Gen.keep hb (And.left (And.right (And.right (by assumption)))), Gen.keep hb (And.left (And.right (And.right (And.right (by assumption))))), Gen.keep hb (And.right (And.right (And.right (And.right (by assumption)))))⟩); (first | have hRw := Row.keep hRw hb | have hRw := (Row.new _ _ _).keep hb | have hRw := (rowd _ _ _).keep hb | skip))
        | (go_at_call 15; (with_reducible refine (mul_af (z := (q0 * nn)) _ (HXp.out.keep (And.left (by assumption))) (by first | exact ho | exact ho.drw | exact ho.keep (Gen.b_alloc (Below.refl _ _)) | exact (ho.keep (Gen.b_alloc (Below.refl _ _))).drw) rfl HF2.out).mono ?_); rintro e' w' ⟨Ar, nr, cr, rfl, hr, hb⟩; have hS2 := (show (Below W10.heap.size W10 w' ∧ w'.cell? ⟨w.heap.size, 0, none⟩ = some (.int .i64 s0) ∧ w'.cell? ⟨w.heap.size, 1, none⟩ = some (.slice A0 n0 c0) ∧ w'.cell? ⟨w.heap.size, 2, none⟩ = some (.int .i64 t0) ∧ w'.cell? ⟨w.heap.size, 3, none⟩ = some (.slice B0 m0 d0)) from ⟨Gen.over hb (And.left (by assumption)), Gen.keep hb (And.left (And.right (by assumption))), Gen.keep hb (And.left (And.right (And.right (by assumption)))), Gen.keep hb (And.left (And.right (And.right (And.right (by assumption))))), Gen.keep hb (And.right (And.right (And.right (And.right (by assumption)))))⟩); (first | have ho := IsBig.keep ho hb | have ho := IsBig.keep (IsBig.drw ho) hb | have ho := IsBig.keep (IsBig.keep ho (Gen.b_alloc (Below.refl _ _))) hb | skip); (first | have hRw := Row.keep hRw hb | have hRw := (Row.new _ _ _).keep hb | have hRw := (rowd _ _ _).keep hb | skip); (try have fz0 := hRw.frozen 0); (try have cz0 := hRw.cell 0); (try have fz1 := hRw.frozen 1); (try have cz1 := hRw.cell 1); (try have hRl := hRw.lt))
        | fail "arm")
    all_goals
      go_wp2
      go_meet
      exact ⟨_, _, _, _, rfl, rfl, Lib.hid (by first | exact Env.adV (HE.out.keep hS2.1) hr | exact Env.rgV HE.out hS2.1 (by first | exact Nat.le_refl _ | exact hS2.1.size | exact hS1.1.size) hRw hr)⟩
  clear cf21 cf22 cf23 cf24
  clear HS0 HP_f
  obtain ⟨gvq, Avq, nvq, cvq, rfl, rfl, HEn⟩ := hcut
  replace HE := HEn
  clear HEn HXp
  rename World => W11
  have cf25 := (HE.out.vr (i := 1) rfl).cell 0
  have cf26 := (HE.out.vr (i := 1) rfl).cell 1
  have cf27 := (HE.out.vr (i := 0) rfl).cell 0
  have cf28 := (HE.out.vr (i := 0) rfl).cell 1
  go_wp2_with (fail)
  go_must (refine (new_as (x := p0) (y := q0) _ HE.out.size (HE.out.vz (i := 1) rfl) (HE.out.vz (i := 0) rfl) (Int.mul_ne_zero HQ0.out HN0.out) (new_by HR_f.out HN0.out).1 (new_by HR_f.out HN0.out).2).mono ?_)
  rintro e W12 ⟨s12, A12, n12, c12, t12, B12, m12, d12, rfl, hp12, hq12, hb⟩
  replace HE := Lib.hid (HE.out.keep hb)
  clear hb
  clear cf25 cf26 cf27 cf28
  have Hhp12 := Lib.hid hp12
  clear hp12
  have Hhq12 := Lib.hid hq12
  clear hq12
  replace HE := Lib.hid (HE.out.adF Hhp12.out Hhq12.out)
  clear Hhp12 Hhq12
  have cf29 := (HE.out.fr (i := 2) rfl).cell 0
  have cf30 := (HE.out.fr (i := 2) rfl).cell 1
  have cf31 := (HE.out.fr (i := 2) rfl).cell 2
  have cf32 := (HE.out.fr (i := 2) rfl).cell 3
  have cf33 := (HE.out.fr (i := 4) rfl).cell 0
  have cf34 := (HE.out.fr (i := 4) rfl).cell 1
  have cf35 := (HE.out.fr (i := 4) rfl).cell 2
  have cf36 := (HE.out.fr (i := 4) rfl).cell 3
  go_wp2_with (fail)
  go_must (refine (fsame_yes _ (HE.out.fp (i := 2) rfl) (HE.out.fq (i := 2) rfl) (HE.out.fp (i := 4) rfl) (HE.out.fq (i := 4) rfl)).mono ?_)
  rintro e W13 ⟨rfl, hb⟩
  replace HE := Lib.hid (HE.out.keep hb)
  clear hb
  clear cf29 cf30 cf31 cf32 cf33 cf34 cf35 cf36
  have cf37 := (HE.out.fr (i := 1) rfl).cell 0
  have cf38 := (HE.out.fr (i := 1) rfl).cell 1
  have cf39 := (HE.out.fr (i := 1) rfl).cell 2
  have cf40 := (HE.out.fr (i := 1) rfl).cell 3
  have cf41 := (HE.out.fr (i := 4) rfl).cell 0
  have cf42 := (HE.out.fr (i := 4) rfl).cell 1
  have cf43 := (HE.out.fr (i := 4) rfl).cell 2
  have cf44 := (HE.out.fr (i := 4) rfl).cell 3
  go_wp2_with (fail)
  go_must (refine (fsame_yes _ (HE.out.fp (i := 1) rfl) (HE.out.fq (i := 1) rfl) (HE.out.fp (i := 4) rfl) (HE.out.fq (i := 4) rfl)).mono ?_)
  rintro e W14 ⟨rfl, hb⟩
  replace HE := Lib.hid (HE.out.keep hb)
  clear hb
  clear cf37 cf38 cf39 cf40 cf41 cf42 cf43 cf44
  have hn0 : (nn == 0) = false := by have h := HN0.out; simp; exact h
  have cf45 := (HE.out.fr (i := 0) rfl).cell 0
  have cf46 := (HE.out.fr (i := 0) rfl).cell 1
  have cf47 := (HE.out.fr (i := 0) rfl).cell 2
  have cf48 := (HE.out.fr (i := 0) rfl).cell 3
  have cf49 := (HE.out.fr (i := 4) rfl).cell 0
  have cf50 := (HE.out.fr (i := 4) rfl).cell 1
  have cf51 := (HE.out.fr (i := 4) rfl).cell 2
  have cf52 := (HE.out.fr (i := 4) rfl).cell 3
  go_wp2_with (fail)
  go_must (refine (fsame_yes _ (HE.out.fp (i := 0) rfl) (HE.out.fq (i := 0) rfl) (HE.out.fp (i := 4) rfl) (HE.out.fq (i := 4) rfl)).mono ?_)
  rintro e W15 ⟨rfl, hb⟩
  replace HE := Lib.hid (HE.out.keep hb)
  clear hb
  clear cf45 cf46 cf47 cf48 cf49 cf50 cf51 cf52
  go_wp2
  go_ret
  exact ⟨rfl, HE.out.b⟩
end
section
variable {s0 t0 : Int} {A0 B0 : Option Addr} {n0 c0 m0 d0 : Nat} {l0 k0 : List Int}
theorem fback_list (nn : Int) (s : List UInt8) (w : World) (hT : PowTab w) (hM : MaxL w) (hnn : I64 nn) (b0 : ArgF w.heap.size w (frV s0 A0 n0 c0 t0 B0 m0 d0) n0 m0 s0 t0 l0 k0) :
    Calls Tryz.prog 7 #[frV s0 A0 n0 c0 t0 B0 m0 d0, .int .i64 nn, .string ⟨s.toArray⟩] w fun e w' => e = .returned (.bool true) ∧ Below w.heap.size w w' := by
  by_cases h300 : 300 < s.length
  · exact fback_long nn s w hT hM h300 b0
  have h3 : s.length ≤ 300 := by omega
  cases hr : frB s0 t0 l0 k0
  · by_cases hok : fOk s
    · exact fback_NY nn s w hT hM hnn h3 hok hr b0
    · exact fback_NN nn s w hT hM hnn h3 hok hr b0
  · by_cases hok : fOk s
    · by_cases hn : nn = 0
      · exact fback_YYZ nn s w hT hM hnn h3 hok hr hn b0
      · exact fback_YYD nn s w hT hM hnn h3 hok hr hn b0
    · by_cases hn : nn = 0
      · exact fback_YNZ nn s w hT hM hnn h3 hok hr hn b0
      · exact fback_YND nn s w hT hM hnn h3 hok hr hn b0
theorem fback_any (nn : Int) (s : ByteArray) (w : World) (hT : PowTab w) (hM : MaxL w) (hnn : I64 nn) (b0 : ArgF w.heap.size w (frV s0 A0 n0 c0 t0 B0 m0 d0) n0 m0 s0 t0 l0 k0) :
    Calls Tryz.prog 7 #[frV s0 A0 n0 c0 t0 B0 m0 d0, .int .i64 nn, .string s] w fun e w' => e = .returned (.bool true) ∧ Below w.heap.size w w' := by
  have h := fback_list nn s.data.toList w hT hM hnn b0
  have e : (ByteArray.mk s.data.toList.toArray) = s := by simp
  rwa [e] at h
end
end Go.Proofs.YtnifkianjpjahaaGreatDoor.Bg
