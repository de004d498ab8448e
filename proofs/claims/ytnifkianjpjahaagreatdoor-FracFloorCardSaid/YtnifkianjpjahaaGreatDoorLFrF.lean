/- FracFloor returns true: all fractions, right or not, and ints; the listed variables as the text lays them. -/
import Derived.Test.YtnifkianjpjahaaGreatDoorFrM
import Derived.Deep.DeepCutAuto
import Derived.Deep.RegionHeld3
namespace Go.Proofs.YtnifkianjpjahaaGreatDoor.Bg
open Go.ChangeShapes Go.WideShapes Go.ChangeAt Go.RowKit Go.Proofs.YtnifkianjpjahaaGreatDoor.Cell
set_option linter.unusedVariables false
set_option linter.unusedSimpArgs false
theorem ff_fit4 {p q f : Int} (a1 : Sz 30 p) (a2 : Sz 30 q) (h : f * q ≤ p ∧ p < (f + 1) * q) : Fit ((f + 1) * q) := by
  have e : (f + 1) * q = f * q + q := by grind
  have a3 := pw_lt (show 31 < 60 by decide)
  have a4 : pw 31 = _ := pw_succ 30
  have a5 := pw_pos 30
  unfold Sz at a1 a2
  unfold Fit
  rw [e] at h ⊢
  omega
section
variable {s0 t0 : Int} {A0 B0 : Option Addr} {n0 c0 m0 d0 : Nat} {l0 k0 : List Int}
set_option maxRecDepth 100000 in
set_option maxHeartbeats 16000000 in
theorem floor_any (nn : Int) (w : World) (hT : PowTab w) (hM : MaxL w) (hnn : I64 nn) (b0 : ArgF w.heap.size w (frV s0 A0 n0 c0 t0 B0 m0 d0) n0 m0 s0 t0 l0 k0) :
    Calls Tryz.prog 8 #[frV s0 A0 n0 c0 t0 B0 m0 d0, .int .i64 nn] w fun e w' => e = .returned (.bool true) ∧ Below w.heap.size w w' := by
  have HB := Lib.hid (ba1_b w (fC s0 A0 n0 c0 t0 B0 m0 d0))
  have R0 := Lib.hid (ba1_0 w (fC s0 A0 n0 c0 t0 B0 m0 d0))
  have HA0 := Lib.hid (b0.keep HB.out)
  have HT0 := Lib.hid hT
  have HM0 := Lib.hid hM
  unfold ba1 at HB R0 HA0
  clear hT hM b0
  go_enter Tryz.func8, Tryz.ntmps8
  go_wp2_with (fail)
  go_must (refine (fsmall_yes _ (HT0.out.keep HB.out) (HM0.out.keep HB.out)).mono ?_)
  rintro e W1 ⟨rfl, hb⟩
  replace HB := Lib.hid (Gen.over hb HB.out)
  replace HA0 := Lib.hid (HA0.out.keep hb)
  replace R0 := Lib.hid (R0.out.keep hb)
  clear hb
  cases hqf0 : (decide ((n0 : Int) ≤ 30) && decide ((m0 : Int) ≤ 30))
  · have HQ := Lib.hid hqf0
    clear hqf0
    have p0 := R0.out.cell 0
    have p1 := R0.out.cell 1
    have p2 := R0.out.cell 2
    have p3 := R0.out.cell 3
    go_wp2_with (fail)
    go_must (refine (HA0.out.few (k := 30) _ false HQ.out).mono ?_)
    rintro e W2 ⟨rfl, hb⟩
    replace HB := Lib.hid (Gen.over hb HB.out)
    clear hb p0 p1 p2 p3
    go_wp2
    go_ret
    exact ⟨rfl, HB.out⟩
  have HQf0 := Lib.hid hqf0
  clear hqf0
  have p0 := R0.out.cell 0
  have p1 := R0.out.cell 1
  have p2 := R0.out.cell 2
  have p3 := R0.out.cell 3
  go_wp2_with (fail)
  go_must (refine (HA0.out.few (k := 30) _ true HQf0.out).mono ?_)
  rintro e W2 ⟨rfl, hb⟩
  replace HB := Lib.hid (Gen.over hb HB.out)
  replace HA0 := Lib.hid (HA0.out.keep hb)
  replace R0 := Lib.hid (R0.out.keep hb)
  clear hb p0 p1 p2 p3
  cases hqr0 : (frB s0 t0 l0 k0)
  · have HQ := Lib.hid hqr0
    clear hqr0
    have p0 := R0.out.cell 0
    have p1 := R0.out.cell 1
    have p2 := R0.out.cell 2
    have p3 := R0.out.cell 3
    go_wp2_with (fail)
    go_must (refine (HA0.out.right false HQ.out).mono ?_)
    rintro e W3 ⟨rfl, hb⟩
    replace HB := Lib.hid (Gen.over hb HB.out)
    clear hb p0 p1 p2 p3
    go_wp2
    go_ret
    exact ⟨rfl, HB.out⟩
  have HQr0 := Lib.hid hqr0
  clear hqr0
  have p0 := R0.out.cell 0
  have p1 := R0.out.cell 1
  have p2 := R0.out.cell 2
  have p3 := R0.out.cell 3
  go_wp2_with (fail)
  go_must (refine (HA0.out.right true HQr0.out).mono ?_)
  rintro e W3 ⟨rfl, hb⟩
  replace HB := Lib.hid (Gen.over hb HB.out)
  replace HA0 := Lib.hid (HA0.out.keep hb)
  replace R0 := Lib.hid (R0.out.keep hb)
  clear hb p0 p1 p2 p3
  obtain ⟨p0, q0, ip, iq, hz, sg0, rt⟩ := HA0.out.getp 30 HQr0.out HQf0.out
  have HP0 := Lib.hid ip
  have HQ0 := Lib.hid iq
  have HZ_f := Lib.hid hz
  have HR_f := Lib.hid rt
  have HS_f := Lib.hid sg0
  clear ip iq hz rt sg0
  have HE := Lib.hid (Env.start (Fs.co (Fs.nil w.heap.size W3) R0.out HP0.out HQ0.out) HT0.out HM0.out HB.out (Nat.le_refl _) (by simp <;> omega))
  clear HB HT0 HM0 HA0 R0 HP0 HQ0 HQf0 HQr0
  have HNN := Lib.hid hnn
  clear hnn
  obtain ⟨fl, hfl⟩ : ∃ z, dq p0 q0 = z := ⟨_, rfl⟩
  obtain ⟨zc, hzc⟩ : ∃ z, dq (-p0) q0 = z := ⟨_, rfl⟩
  have hin := ff_in (p := p0) HR_f.out.1
  have hng := ff_neg (p := p0) HR_f.out.1
  have hsz := ff_sz HR_f.out.1 HZ_f.out.1
  rw [hfl] at hin hng hsz
  rw [hzc] at hng
  have HFL := Lib.hid hfl
  have HZC := Lib.hid hzc
  have HNG := Lib.hid hng
  have HR_n : Hid (Rt (-p0) q0) := Lib.hid ⟨HR_f.out.1, by have h := HR_f.out.2; rw [Int.neg_gcd]; exact h⟩
  have HF1 : Hid (Fit (fl + 1)) := Lib.hid ((hsz.add (show Sz 30 1 from ⟨by have := pw_lt (show 1 < 30 by decide); rw [pw_1] at this; omega, by have := pw_lt (show 1 < 30 by decide); rw [pw_1] at this; omega⟩) (n := 31) (by omega)).fit)
  have HF2 : Hid (Fit (fl * q0)) := Lib.hid (by have h1 := (hsz.mul HZ_f.out.2).fit; exact h1)
  have HF3 : Hid (Fit (p0 * 1)) := Lib.hid (by rw [Int.mul_one]; exact HZ_f.out.1.fit)
  have HF4 : Hid (Fit ((fl + 1) * q0)) := Lib.hid (ff_fit4 HZ_f.out.1 HZ_f.out.2 hin)
  obtain ⟨k1, hk1⟩ : ∃ z, cmpI (fl * q0) (p0 * 1) = z := ⟨_, rfl⟩
  have hk1n : ¬ 0 < k1 := by
    rcases Int.lt_or_eq_of_le (show fl * q0 ≤ p0 * 1 by rw [Int.mul_one]; exact hin.1) with h | h
    · rw [cmpI_lt h] at hk1; omega
    · rw [cmpI_eq h] at hk1; omega
  have HK1 := Lib.hid hk1
  have HK2 : Hid (cmpI ((fl + 1) * q0) (p0 * 1) = 1) := Lib.hid (cmpI_gt (by rw [Int.mul_one]; exact hin.2))
  clear hk1 hin hng hsz hfl hzc
  have cf1 := (HE.out.fr (i := 0) rfl).cell 0
  have cf2 := (HE.out.fr (i := 0) rfl).cell 1
  have cf3 := (HE.out.fr (i := 0) rfl).cell 2
  have cf4 := (HE.out.fr (i := 0) rfl).cell 3
  go_wp2_with (fail)
  go_must (refine (ffloor_is (z := fl) _ HE.out.size (HE.out.fp (i := 0) rfl) (HE.out.fq (i := 0) rfl) HR_f.out HFL.out).mono ?_)
  rintro e W4 ⟨A4, n4, c4, rfl, hz4, hb⟩
  replace HE := Lib.hid (HE.out.keep hb)
  clear hb
  clear cf1 cf2 cf3 cf4
  have Hhz4 := Lib.hid hz4
  clear hz4
  replace HE := Lib.hid (HE.out.adV Hhz4.out)
  clear Hhz4
  go_wp2_with (fail)
  generalize W4.alloc (.cells #[.int .i64 (sg fl), .slice A4 n4 c4] 24) = W5 at HE  ⊢
  have HXa := Lib.hid (HE.out.vz (i := 0) rfl)
  have HP_a := Lib.hid (HE.out.vr (i := 0) rfl).lt
  have HS0 : Hid (Below W5.heap.size W5 W5 ∧ W5.cell? ⟨W4.heap.size, 0, none⟩ = some (.int .i64 (sg fl)) ∧ W5.cell? ⟨W4.heap.size, 1, none⟩ = some (.slice A4 n4 c4)) := Lib.hid ⟨Below.refl _ _, (HE.out.vr (i := 0) rfl).cell 0, (HE.out.vr (i := 0) rfl).cell 1⟩
  have cf5 := (HE.out.vr (i := 0) rfl).cell 0
  have cf6 := (HE.out.vr (i := 0) rfl).cell 1
  go_cut [7, 8] (fun c d wx => ∃ vg vA vn vc, c = .pointer (some ⟨vg, 0, none⟩) ∧ d = .int .i64 0 ∧ Hid (Env w.heap.size w wx [(w.heap.size, frV s0 A0 n0 c0 t0 B0 m0 d0, p0, q0)] ((vg, bigV (sg (fl + 1)) vA vn vc, fl + 1) :: [(W4.heap.size, bigV (sg fl) A4 n4 c4, fl)])))
  case first =>
    go_region_held3 (fun W' : World => Below W5.heap.size W5 W' ∧ W'.cell? ⟨W4.heap.size, 0, none⟩ = some (.int .i64 (sg fl)) ∧ W'.cell? ⟨W4.heap.size, 1, none⟩ = some (.slice A4 n4 c4))
      (first | with_reducible exact hS2 | with_reducible exact hS1 | with_reducible exact ⟨below_set2 (And.left (by assumption)) (by first | exact Nat.le_refl _ | exact hS2.1.size | exact hS1.1.size) _ _, keep_set2 (And.left (And.right (by assumption))) HP_a.out (by first | exact Nat.le_refl _ | exact hS2.1.size | exact hS1.1.size), keep_set2 (And.right (And.right (by assumption))) HP_a.out (by first | exact Nat.le_refl _ | exact hS2.1.size | exact hS1.1.size)⟩ | exact ⟨HS0.out.1.drew, HS0.out.2⟩ | exact ⟨Gen.b_alloc (And.left (by assumption)), Gen.al (And.left (And.right (by assumption))), Gen.al (And.right (And.right (by assumption)))⟩ | fail "keep")
      (first
        | (go_at_call 35; (with_reducible refine (of_as (N0 := w.heap.size) 1 _ (i64_small (by omega))).mono ?_); rintro e' w' ⟨Ao, mo, co, rfl, ho, hb⟩; have hS1 := (show (Below W5.heap.size W5 w' ∧ w'.cell? ⟨W4.heap.size, 0, none⟩ = some (.int .i64 (sg fl)) ∧ w'.cell? ⟨W4.heap.size, 1, none⟩ = some (.slice A4 n4 c4)) from ⟨Gen.over hb (And.left (by assumption)), Gen.keep hb (And.left (And.right (by assumption))), Gen.keep hb (And.right (And.right (by assumption)))⟩); (first | have hRw := Row.keep hRw hb | have hRw := (Row.new _ _ _).keep hb | have hRw := (rowd _ _ _).keep hb | skip))
        | (go_at_call 11; (with_reducible refine (add_af (z := fl + 1) _ (HXa.out.keep (And.left (by assumption))) (by first | exact ho | exact ho.drw | exact ho.keep (Gen.b_alloc (Below.refl _ _)) | exact (ho.keep (Gen.b_alloc (Below.refl _ _))).drw) rfl HF1.out).mono ?_); rintro e' w' ⟨Ar, nr, cr, rfl, hr, hb⟩; have hS2 := (show (Below W5.heap.size W5 w' ∧ w'.cell? ⟨W4.heap.size, 0, none⟩ = some (.int .i64 (sg fl)) ∧ w'.cell? ⟨W4.heap.size, 1, none⟩ = some (.slice A4 n4 c4)) from ⟨Gen.over hb (And.left (by assumption)), Gen.keep hb (And.left (And.right (by assumption))), Gen.keep hb (And.right (And.right (by assumption)))⟩); (first | have ho := IsBig.keep ho hb | have ho := IsBig.keep (IsBig.drw ho) hb | have ho := IsBig.keep (IsBig.keep ho (Gen.b_alloc (Below.refl _ _))) hb | skip); (first | have hRw := Row.keep hRw hb | have hRw := (Row.new _ _ _).keep hb | have hRw := (rowd _ _ _).keep hb | skip); (try have fz0 := hRw.frozen 0); (try have cz0 := hRw.cell 0); (try have fz1 := hRw.frozen 1); (try have cz1 := hRw.cell 1); (try have hRl := hRw.lt))
        | fail "arm")
    all_goals
      go_wp2
      go_meet
      exact ⟨_, _, _, _, rfl, rfl, Lib.hid (by first | exact Env.adV (HE.out.keep hS2.1) hr | exact Env.rgV HE.out hS2.1 (by first | exact Nat.le_refl _ | exact hS2.1.size | exact hS1.1.size) hRw hr)⟩
  clear cf5 cf6
  clear HS0 HP_a
  obtain ⟨gb, Ab, nb, cb, rfl, rfl, HEn⟩ := hcut
  replace HE := HEn
  clear HEn
  rename World => W6
  clear HXa
  go_wp2_with (fail)
  have HX := Lib.hid (HE.out.vz (i := 1) rfl)
  have HP_a := Lib.hid (HE.out.vr (i := 1) rfl).lt
  have HS0 : Hid (Below W6.heap.size W6 W6 ∧ W6.cell? ⟨W4.heap.size, 0, none⟩ = some (.int .i64 (sg fl)) ∧ W6.cell? ⟨W4.heap.size, 1, none⟩ = some (.slice A4 n4 c4)) := Lib.hid ⟨Below.refl _ _, (HE.out.vr (i := 1) rfl).cell 0, (HE.out.vr (i := 1) rfl).cell 1⟩
  have cf7 := (HE.out.vr (i := 1) rfl).cell 0
  have cf8 := (HE.out.vr (i := 1) rfl).cell 1
  go_cut [9, 10] (fun c d wx => ∃ vg vs vA vn vc vt vB vm vd, c = .pointer (some ⟨vg, 0, none⟩) ∧ d = .int .i64 0 ∧ Hid (Env w.heap.size w wx ((vg, frV vs vA vn vc vt vB vm vd, fl, 1) :: [(w.heap.size, frV s0 A0 n0 c0 t0 B0 m0 d0, p0, q0)]) [(gb, bigV (sg (fl + 1)) Ab nb cb, (fl + 1)), (W4.heap.size, bigV (sg fl) A4 n4 c4, fl)]))
  case first =>
    go_region_held3 (fun W' : World => Below W6.heap.size W6 W' ∧ W'.cell? ⟨W4.heap.size, 0, none⟩ = some (.int .i64 (sg fl)) ∧ W'.cell? ⟨W4.heap.size, 1, none⟩ = some (.slice A4 n4 c4))
      (first | with_reducible exact hS2 | with_reducible exact hS1 | with_reducible exact ⟨below_set4 (And.left (by assumption)) (by first | exact Nat.le_refl _ | exact hS2.1.size | exact hS1.1.size) _ _ _ _, keep_set4 (And.left (And.right (by assumption))) HP_a.out (by first | exact Nat.le_refl _ | exact hS2.1.size | exact hS1.1.size), keep_set4 (And.right (And.right (by assumption))) HP_a.out (by first | exact Nat.le_refl _ | exact hS2.1.size | exact hS1.1.size)⟩ | exact ⟨HS0.out.1.drew, HS0.out.2⟩ | exact ⟨Gen.b_alloc (And.left (by assumption)), Gen.al (And.left (And.right (by assumption))), Gen.al (And.right (And.right (by assumption)))⟩ | fail "keep")
      (first
        | (go_at_call 35; (with_reducible refine (of_as (N0 := w.heap.size) 1 _ (i64_small (by omega))).mono ?_); rintro e' w' ⟨Ao, mo, co, rfl, ho, hb⟩; have hS1 := (show (Below W6.heap.size W6 w' ∧ w'.cell? ⟨W4.heap.size, 0, none⟩ = some (.int .i64 (sg fl)) ∧ w'.cell? ⟨W4.heap.size, 1, none⟩ = some (.slice A4 n4 c4)) from ⟨Gen.over hb (And.left (by assumption)), Gen.keep hb (And.left (And.right (by assumption))), Gen.keep hb (And.right (And.right (by assumption)))⟩); (first | have hRw := Row.keep hRw hb | have hRw := (Row.new _ _ _).keep hb | have hRw := (rowd _ _ _).keep hb | skip))
        | (go_at_call 52; (with_reducible refine (new_as (x := fl) (y := 1) _ (Nat.le_trans HE.out.size (Below.size (And.left (by assumption)))) (HX.out.keep (And.left (by assumption))) (by first | exact ho | exact ho.drw | exact ho.keep (Gen.b_alloc (Below.refl _ _)) | exact (ho.keep (Gen.b_alloc (Below.refl _ _))).drw) (by decide) (new_one _).1 (new_one _).2).mono ?_); rintro e' w' ⟨sr, Ar, nr, cr, tr, Br, mr, dr, rfl, hr, hq, hb⟩; have hS2 := (show (Below W6.heap.size W6 w' ∧ w'.cell? ⟨W4.heap.size, 0, none⟩ = some (.int .i64 (sg fl)) ∧ w'.cell? ⟨W4.heap.size, 1, none⟩ = some (.slice A4 n4 c4)) from ⟨Gen.over hb (And.left (by assumption)), Gen.keep hb (And.left (And.right (by assumption))), Gen.keep hb (And.right (And.right (by assumption)))⟩); (first | have ho := IsBig.keep ho hb | have ho := IsBig.keep (IsBig.drw ho) hb | have ho := IsBig.keep (IsBig.keep ho (Gen.b_alloc (Below.refl _ _))) hb | skip); (first | have hRw := Row.keep hRw hb | have hRw := (Row.new _ _ _).keep hb | have hRw := (rowd _ _ _).keep hb | skip); (try have fz0 := hRw.frozen 0); (try have cz0 := hRw.cell 0); (try have fz1 := hRw.frozen 1); (try have cz1 := hRw.cell 1); (try have fz2 := hRw.frozen 2); (try have cz2 := hRw.cell 2); (try have fz3 := hRw.frozen 3); (try have cz3 := hRw.cell 3); (try have hRl := hRw.lt))
        | fail "arm")
    all_goals
      go_wp2
      go_meet
      exact ⟨_, _, _, _, _, _, _, _, _, rfl, rfl, Lib.hid (by first | exact Env.adF (HE.out.keep hS2.1) hr hq | exact Env.rgF HE.out hS2.1 (by first | exact Nat.le_refl _ | exact hS2.1.size | exact hS1.1.size) hRw hr hq)⟩
  clear cf7 cf8
  clear HS0 HP_a
  obtain ⟨gx, sx, Ax, nx, cx, tx, Bx, mx, dx, rfl, rfl, HEn⟩ := hcut
  replace HE := HEn
  clear HEn
  rename World => W7
  clear HX
  go_wp2_with (fail)
  have HX := Lib.hid (HE.out.vz (i := 0) rfl)
  have HP_b := Lib.hid (HE.out.vr (i := 0) rfl).lt
  have HS0 : Hid (Below W7.heap.size W7 W7 ∧ W7.cell? ⟨gb, 0, none⟩ = some (.int .i64 (sg (fl + 1))) ∧ W7.cell? ⟨gb, 1, none⟩ = some (.slice Ab nb cb)) := Lib.hid ⟨Below.refl _ _, (HE.out.vr (i := 0) rfl).cell 0, (HE.out.vr (i := 0) rfl).cell 1⟩
  have cf9 := (HE.out.vr (i := 0) rfl).cell 0
  have cf10 := (HE.out.vr (i := 0) rfl).cell 1
  go_cut [11, 12] (fun c d wx => ∃ vg vs vA vn vc vt vB vm vd, c = .pointer (some ⟨vg, 0, none⟩) ∧ d = .int .i64 0 ∧ Hid (Env w.heap.size w wx ((vg, frV vs vA vn vc vt vB vm vd, (fl + 1), 1) :: [(gx, frV sx Ax nx cx tx Bx mx dx, fl, 1), (w.heap.size, frV s0 A0 n0 c0 t0 B0 m0 d0, p0, q0)]) [(gb, bigV (sg (fl + 1)) Ab nb cb, (fl + 1)), (W4.heap.size, bigV (sg fl) A4 n4 c4, fl)]))
  case first =>
    go_region_held3 (fun W' : World => Below W7.heap.size W7 W' ∧ W'.cell? ⟨gb, 0, none⟩ = some (.int .i64 (sg (fl + 1))) ∧ W'.cell? ⟨gb, 1, none⟩ = some (.slice Ab nb cb))
      (first | with_reducible exact hS2 | with_reducible exact hS1 | with_reducible exact ⟨below_set4 (And.left (by assumption)) (by first | exact Nat.le_refl _ | exact hS2.1.size | exact hS1.1.size) _ _ _ _, keep_set4 (And.left (And.right (by assumption))) HP_b.out (by first | exact Nat.le_refl _ | exact hS2.1.size | exact hS1.1.size), keep_set4 (And.right (And.right (by assumption))) HP_b.out (by first | exact Nat.le_refl _ | exact hS2.1.size | exact hS1.1.size)⟩ | exact ⟨HS0.out.1.drew, HS0.out.2⟩ | exact ⟨Gen.b_alloc (And.left (by assumption)), Gen.al (And.left (And.right (by assumption))), Gen.al (And.right (And.right (by assumption)))⟩ | fail "keep")
      (first
        | (go_at_call 35; (with_reducible refine (of_as (N0 := w.heap.size) 1 _ (i64_small (by omega))).mono ?_); rintro e' w' ⟨Ao, mo, co, rfl, ho, hb⟩; have hS1 := (show (Below W7.heap.size W7 w' ∧ w'.cell? ⟨gb, 0, none⟩ = some (.int .i64 (sg (fl + 1))) ∧ w'.cell? ⟨gb, 1, none⟩ = some (.slice Ab nb cb)) from ⟨Gen.over hb (And.left (by assumption)), Gen.keep hb (And.left (And.right (by assumption))), Gen.keep hb (And.right (And.right (by assumption)))⟩); (first | have hRw := Row.keep hRw hb | have hRw := (Row.new _ _ _).keep hb | have hRw := (rowd _ _ _).keep hb | skip))
        | (go_at_call 52; (with_reducible refine (new_as (x := (fl + 1)) (y := 1) _ (Nat.le_trans HE.out.size (Below.size (And.left (by assumption)))) (HX.out.keep (And.left (by assumption))) (by first | exact ho | exact ho.drw | exact ho.keep (Gen.b_alloc (Below.refl _ _)) | exact (ho.keep (Gen.b_alloc (Below.refl _ _))).drw) (by decide) (new_one _).1 (new_one _).2).mono ?_); rintro e' w' ⟨sr, Ar, nr, cr, tr, Br, mr, dr, rfl, hr, hq, hb⟩; have hS2 := (show (Below W7.heap.size W7 w' ∧ w'.cell? ⟨gb, 0, none⟩ = some (.int .i64 (sg (fl + 1))) ∧ w'.cell? ⟨gb, 1, none⟩ = some (.slice Ab nb cb)) from ⟨Gen.over hb (And.left (by assumption)), Gen.keep hb (And.left (And.right (by assumption))), Gen.keep hb (And.right (And.right (by assumption)))⟩); (first | have ho := IsBig.keep ho hb | have ho := IsBig.keep (IsBig.drw ho) hb | have ho := IsBig.keep (IsBig.keep ho (Gen.b_alloc (Below.refl _ _))) hb | skip); (first | have hRw := Row.keep hRw hb | have hRw := (Row.new _ _ _).keep hb | have hRw := (rowd _ _ _).keep hb | skip); (try have fz0 := hRw.frozen 0); (try have cz0 := hRw.cell 0); (try have fz1 := hRw.frozen 1); (try have cz1 := hRw.cell 1); (try have fz2 := hRw.frozen 2); (try have cz2 := hRw.cell 2); (try have fz3 := hRw.frozen 3); (try have cz3 := hRw.cell 3); (try have hRl := hRw.lt))
        | fail "arm")
    all_goals
      go_wp2
      go_meet
      exact ⟨_, _, _, _, _, _, _, _, _, rfl, rfl, Lib.hid (by first | exact Env.adF (HE.out.keep hS2.1) hr hq | exact Env.rgF HE.out hS2.1 (by first | exact Nat.le_refl _ | exact hS2.1.size | exact hS1.1.size) hRw hr hq)⟩
  clear cf9 cf10
  clear HS0 HP_b
  obtain ⟨gy, sy, Ay, ny, cy, ty, By, my, dy, rfl, rfl, HEn⟩ := hcut
  replace HE := HEn
  clear HEn
  rename World => W8
  clear HX
  have cf11 := (HE.out.fr (i := 1) rfl).cell 0
  have cf12 := (HE.out.fr (i := 1) rfl).cell 1
  have cf13 := (HE.out.fr (i := 1) rfl).cell 2
  have cf14 := (HE.out.fr (i := 1) rfl).cell 3
  have cf15 := (HE.out.fr (i := 2) rfl).cell 0
  have cf16 := (HE.out.fr (i := 2) rfl).cell 1
  have cf17 := (HE.out.fr (i := 2) rfl).cell 2
  have cf18 := (HE.out.fr (i := 2) rfl).cell 3
  go_wp2_with (fail)
  go_must (refine (fcmp_is (k := k1) _ HE.out.size (HE.out.fp (i := 1) rfl) (HE.out.fq (i := 1) rfl) (HE.out.fp (i := 2) rfl) (HE.out.fq (i := 2) rfl) (rt_one _) HR_f.out HF2.out HF3.out HK1.out).mono ?_)
  rintro e W9 ⟨rfl, hb⟩
  replace HE := Lib.hid (HE.out.keep hb)
  clear hb
  clear cf11 cf12 cf13 cf14 cf15 cf16 cf17 cf18
  have cf19 := (HE.out.fr (i := 0) rfl).cell 0
  have cf20 := (HE.out.fr (i := 0) rfl).cell 1
  have cf21 := (HE.out.fr (i := 0) rfl).cell 2
  have cf22 := (HE.out.fr (i := 0) rfl).cell 3
  have cf23 := (HE.out.fr (i := 2) rfl).cell 0
  have cf24 := (HE.out.fr (i := 2) rfl).cell 1
  have cf25 := (HE.out.fr (i := 2) rfl).cell 2
  have cf26 := (HE.out.fr (i := 2) rfl).cell 3
  go_wp2_with (fail)
  go_must (refine (fcmp_is (k := 1) _ HE.out.size (HE.out.fp (i := 0) rfl) (HE.out.fq (i := 0) rfl) (HE.out.fp (i := 2) rfl) (HE.out.fq (i := 2) rfl) (rt_one _) HR_f.out HF4.out HF3.out HK2.out).mono ?_)
  rintro e W10 ⟨rfl, hb⟩
  replace HE := Lib.hid (HE.out.keep hb)
  clear hb
  clear cf19 cf20 cf21 cf22 cf23 cf24 cf25 cf26
  go_wp2_with (fail)
  have HXp := Lib.hid (HE.out.fp (i := 2) rfl)
  have HXq := Lib.hid (HE.out.fq (i := 2) rfl)
  have HP_f := Lib.hid (HE.out.fr (i := 2) rfl).lt
  have HS0 : Hid (Below W10.heap.size W10 W10 ∧ W10.cell? ⟨w.heap.size, 0, none⟩ = some (.int .i64 s0) ∧ W10.cell? ⟨w.heap.size, 1, none⟩ = some (.slice A0 n0 c0) ∧ W10.cell? ⟨w.heap.size, 2, none⟩ = some (.int .i64 t0) ∧ W10.cell? ⟨w.heap.size, 3, none⟩ = some (.slice B0 m0 d0)) := Lib.hid ⟨Below.refl _ _, (HE.out.fr (i := 2) rfl).cell 0, (HE.out.fr (i := 2) rfl).cell 1, (HE.out.fr (i := 2) rfl).cell 2, (HE.out.fr (i := 2) rfl).cell 3⟩
  have cf27 := (HE.out.fr (i := 2) rfl).cell 0
  have cf28 := (HE.out.fr (i := 2) rfl).cell 1
  have cf29 := (HE.out.fr (i := 2) rfl).cell 2
  have cf30 := (HE.out.fr (i := 2) rfl).cell 3
  go_cut [13] (fun c wx => ∃ vg vA vn vc, c = .pointer (some ⟨vg, 0, none⟩) ∧ Hid (Env w.heap.size w wx [(gy, frV sy Ay ny cy ty By my dy, (fl + 1), 1), (gx, frV sx Ax nx cx tx Bx mx dx, fl, 1), (w.heap.size, frV s0 A0 n0 c0 t0 B0 m0 d0, p0, q0)] ((vg, bigV (sg zc) vA vn vc, zc) :: [(gb, bigV (sg (fl + 1)) Ab nb cb, (fl + 1)), (W4.heap.size, bigV (sg fl) A4 n4 c4, fl)])))
  case first =>
    go_region_held3 (fun W' : World => Below W10.heap.size W10 W' ∧ W'.cell? ⟨w.heap.size, 0, none⟩ = some (.int .i64 s0) ∧ W'.cell? ⟨w.heap.size, 1, none⟩ = some (.slice A0 n0 c0) ∧ W'.cell? ⟨w.heap.size, 2, none⟩ = some (.int .i64 t0) ∧ W'.cell? ⟨w.heap.size, 3, none⟩ = some (.slice B0 m0 d0))
      (first | with_reducible exact hS2 | with_reducible exact hS1 | with_reducible exact ⟨below_set2 (And.left (by assumption)) (by first | exact Nat.le_refl _ | exact hS2.1.size | exact hS1.1.size) _ _, keep_set2 (And.left (And.right (by assumption))) HP_f.out (by first | exact Nat.le_refl _ | exact hS2.1.size | exact hS1.1.size), keep_set2 (And.left (And.right (And.right (by assumption)))) HP_f.out (by first | exact Nat.le_refl _ | exact hS2.1.size | exact hS1.1.size), keep_set2 (And.left (And.right (And.right (And.right (by assumption))))) HP_f.out (by first | exact Nat.le_refl _ | exact hS2.1.size | exact hS1.1.size), keep_set2 (And.right (And.right (And.right (And.right (by assumption))))) HP_f.out (by first | exact Nat.le_refl _ | exact hS2.1.size | exact hS1.1.size)⟩ | exact ⟨HS0.out.1.drew, HS0.out.2⟩ | exact ⟨Gen.b_alloc (And.left (by assumption)), Gen.al (And.left (And.right (by assumption))), Gen.al (And.left (And.right (And.right (by assumption)))), Gen.al (And.left (And.right (And.right (And.right (by assumption))))), Gen.al (And.right (And.right (And.right (And.right (by assumption)))))⟩ | fail "keep")
      (first
        | (go_at_call 33; (with_reducible refine (neg_as (z := -p0) _ (HXp.out.keep (And.left (by assumption))) rfl).mono ?_); rintro e' w' ⟨Ao, mo, co, rfl, ho, hb⟩; have hS1 := (show (Below W10.heap.size W10 w' ∧ w'.cell? ⟨w.heap.size, 0, none⟩ = some (.int .i64 s0) ∧ w'.cell? ⟨w.heap.size, 1, none⟩ = some (.slice A0 n0 c0) ∧ w'.cell? ⟨w.heap.size, 2, none⟩ = some (.int .i64 t0) ∧ w'.cell? ⟨w.heap.size, 3, none⟩ = some (.slice B0 m0 d0)) from ⟨Gen.over hb (And.left (by assumption)), Gen.keep hb (And.left (And.right (by assumption))), Gen.keep hb (And.left (And.right (And.right (by assumption)))), Gen.keep hb (And.left (And.right (And.right (And.right (by assumption))))), Gen.keep hb (And.right (And.right (And.right (And.right (by assumption)))))⟩); (first | have hRw := Row.keep hRw hb | have hRw := (Row.new _ _ _).keep hb | have hRw := (rowd _ _ _).keep hb | skip))
        | (go_at_call 61; (with_reducible refine (ffloor_is (z := zc) _ (Nat.le_trans HE.out.size (Below.size (And.left (by assumption)))) (by first | exact ho | exact ho.drw | exact ho.keep (Gen.b_alloc (Below.refl _ _)) | exact (ho.keep (Gen.b_alloc (Below.refl _ _))).drw) (HXq.out.keep (And.left (by assumption))) HR_n.out HZC.out).mono ?_); rintro e' w' ⟨Ar, nr, cr, rfl, hr, hb⟩; have hS2 := (show (Below W10.heap.size W10 w' ∧ w'.cell? ⟨w.heap.size, 0, none⟩ = some (.int .i64 s0) ∧ w'.cell? ⟨w.heap.size, 1, none⟩ = some (.slice A0 n0 c0) ∧ w'.cell? ⟨w.heap.size, 2, none⟩ = some (.int .i64 t0) ∧ w'.cell? ⟨w.heap.size, 3, none⟩ = some (.slice B0 m0 d0)) from ⟨Gen.over hb (And.left (by assumption)), Gen.keep hb (And.left (And.right (by assumption))), Gen.keep hb (And.left (And.right (And.right (by assumption)))), Gen.keep hb (And.left (And.right (And.right (And.right (by assumption))))), Gen.keep hb (And.right (And.right (And.right (And.right (by assumption)))))⟩); (first | have ho := IsBig.keep ho hb | have ho := IsBig.keep (IsBig.drw ho) hb | have ho := IsBig.keep (IsBig.keep ho (Gen.b_alloc (Below.refl _ _))) hb | skip); (first | have hRw := Row.keep hRw hb | have hRw := (Row.new _ _ _).keep hb | have hRw := (rowd _ _ _).keep hb | skip); (try have fz0 := hRw.frozen 0); (try have cz0 := hRw.cell 0); (try have fz1 := hRw.frozen 1); (try have cz1 := hRw.cell 1); (try have hRl := hRw.lt))
        | fail "arm")
    all_goals
      go_wp2
      go_meet
      exact ⟨_, _, _, _, rfl, Lib.hid (by first | exact Env.adV (HE.out.keep hS2.1) hr | exact Env.rgV HE.out hS2.1 (by first | exact Nat.le_refl _ | exact hS2.1.size | exact hS1.1.size) hRw hr)⟩
  clear cf27 cf28 cf29 cf30
  clear HS0 HP_f
  obtain ⟨gc, Ac, nc, cc, rfl, HEn⟩ := hcut
  replace HE := HEn
  clear HEn
  rename World => W11
  clear HXp HXq
  by_cases hwh : fl * q0 = p0
  · have HW := Lib.hid hwh
    clear hwh
    have HWH : Hid (decide (fl = p0 ∧ (1 : Int) = q0) = true) := Lib.hid (decide_eq_true (rt_eq (rt_one _) HR_f.out (by rw [HW.out, Int.mul_one])))
    have HZW : Hid (-fl = zc) := Lib.hid (by have h := HNG.out; rw [if_pos HW.out] at h; exact h.symm)
    clear HNG
    have cf31 := (HE.out.fr (i := 1) rfl).cell 0
    have cf32 := (HE.out.fr (i := 1) rfl).cell 1
    have cf33 := (HE.out.fr (i := 1) rfl).cell 2
    have cf34 := (HE.out.fr (i := 1) rfl).cell 3
    have cf35 := (HE.out.fr (i := 2) rfl).cell 0
    have cf36 := (HE.out.fr (i := 2) rfl).cell 1
    have cf37 := (HE.out.fr (i := 2) rfl).cell 2
    have cf38 := (HE.out.fr (i := 2) rfl).cell 3
    go_wp2_with (fail)
    go_must (refine (fsame_as (b := true) _ (HE.out.fp (i := 1) rfl) (HE.out.fq (i := 1) rfl) (HE.out.fp (i := 2) rfl) (HE.out.fq (i := 2) rfl) HWH.out).mono ?_)
    rintro e W12 ⟨rfl, hb⟩
    replace HE := Lib.hid (HE.out.keep hb)
    clear hb
    clear cf31 cf32 cf33 cf34 cf35 cf36 cf37 cf38
    have cf39 := (HE.out.vr (i := 1) rfl).cell 0
    have cf40 := (HE.out.vr (i := 1) rfl).cell 1
    go_wp2_with (fail)
    go_must (refine (neg_as (z := -(fl + 1)) _ (HE.out.vz (i := 1) rfl) rfl).mono ?_)
    rintro e W13 ⟨A13, n13, c13, rfl, hz13, hb⟩
    replace HE := Lib.hid (HE.out.keep hb)
    clear hb
    clear cf39 cf40
    have Hhz13 := Lib.hid hz13
    clear hz13
    have HGE : Hid (w.heap.size ≤ W13.heap.size) := Lib.hid HE.out.b.size
    replace HE := Lib.hid (HE.out.adV Hhz13.out)
    clear Hhz13
    have HR := Lib.hid (HE.out.vr (i := 0) rfl)
    have gr0 := HR.out.frozen 0
    have gc0 := HR.out.cell 0
    have gr1 := HR.out.frozen 1
    have gc1 := HR.out.cell 1
    have hlt2 := HR.out.lt
    have cf41 := (HE.out.vr (i := 3) rfl).cell 0
    have cf42 := (HE.out.vr (i := 3) rfl).cell 1
    go_wp2_with (fail)
    go_must (refine (neg_as (z := zc) _ (HE.out.vz (i := 3) rfl) HZW.out).mono ?_)
    rintro e W14 ⟨A14, n14, c14, rfl, hz14, hb⟩
    replace HE := Lib.hid (HE.out.keep hb)
    clear hb
    clear cf41 cf42
    have Hhz14 := Lib.hid hz14
    clear hz14
    replace HR := Lib.hid (HE.out.vr (i := 0) rfl)
    clear gr0 gr1 gc0 gc1 hlt2
    have gr0 := HR.out.frozen 0
    have gc0 := HR.out.cell 0
    have gr1 := HR.out.frozen 1
    have gc1 := HR.out.cell 1
    have hlt2 := HR.out.lt
    replace HE := Lib.hid (Env.ptV (L1 := []) HE.out HGE.out HR.out Hhz14.out)
    clear Hhz14
    have cf43 := (HE.out.vr (i := 1) rfl).cell 0
    have cf44 := (HE.out.vr (i := 1) rfl).cell 1
    have cf45 := (HE.out.vr (i := 0) rfl).cell 0
    have cf46 := (HE.out.vr (i := 0) rfl).cell 1
    go_wp2_with (fail)
    go_must (refine (sbig_yes _ (HE.out.vz (i := 1) rfl) (HE.out.vz (i := 0) rfl)).mono ?_)
    rintro e W15 ⟨rfl, hb⟩
    replace HE := Lib.hid (HE.out.keep hb)
    clear hb
    clear cf43 cf44 cf45 cf46
    go_wp2_with (fail)
    go_must (refine (lof_as nn 1 nn 1 _ HE.out.size HNN.out (i64_small (by omega)) (by decide) (new_one nn).1 (new_one nn).2).mono ?_)
    rintro e W16 ⟨s16, A16, n16, c16, t16, B16, m16, d16, rfl, hp16, hq16, hb⟩
    replace HE := Lib.hid (HE.out.keep hb)
    clear hb
    have Hhp16 := Lib.hid hp16
    clear hp16
    have Hhq16 := Lib.hid hq16
    clear hq16
    go_wp2_with (fail)
    go_must (refine (ffloor_is (z := nn) _ HE.out.size Hhp16.out Hhq16.out (rt_one nn) (dq_one nn)).mono ?_)
    rintro e W17 ⟨A17, n17, c17, rfl, hz17, hb⟩
    replace HE := Lib.hid (HE.out.keep hb)
    replace Hhp16 := Lib.hid (Hhp16.out.keep hb)
    replace Hhq16 := Lib.hid (Hhq16.out.keep hb)
    clear hb
    have Hhz17 := Lib.hid hz17
    clear hz17
    go_wp2_with (fail)
    go_must (refine (of_as (N0 := w.heap.size) nn _ HNN.out).mono ?_)
    rintro e W18 ⟨A18, n18, c18, rfl, hy18, hb⟩
    replace HE := Lib.hid (HE.out.keep hb)
    replace Hhp16 := Lib.hid (Hhp16.out.keep hb)
    replace Hhq16 := Lib.hid (Hhq16.out.keep hb)
    replace Hhz17 := Lib.hid (Hhz17.out.keep hb)
    clear hb
    have Hhy18 := Lib.hid hy18
    clear hy18
    go_wp2_with (fail)
    go_must (refine (sbig_yes _ Hhz17.out Hhy18.out).mono ?_)
    rintro e W19 ⟨rfl, hb⟩
    replace HE := Lib.hid (HE.out.keep hb)
    replace Hhp16 := Lib.hid (Hhp16.out.keep hb)
    replace Hhq16 := Lib.hid (Hhq16.out.keep hb)
    replace Hhz17 := Lib.hid (Hhz17.out.keep hb)
    replace Hhy18 := Lib.hid (Hhy18.out.keep hb)
    clear hb
    go_wp2
    go_ret
    exact ⟨rfl, HE.out.b⟩
  have HW := Lib.hid hwh
  clear hwh
  have HWH : Hid (decide (fl = p0 ∧ (1 : Int) = q0) = false) := Lib.hid (decide_eq_false (fun h => HW.out (by rw [← h.2, Int.mul_one]; exact h.1)))
  have HZW : Hid (-(fl + 1) = zc) := Lib.hid (by have h := HNG.out; rw [if_neg HW.out] at h; exact h.symm)
  clear HNG
  have cf31 := (HE.out.fr (i := 1) rfl).cell 0
  have cf32 := (HE.out.fr (i := 1) rfl).cell 1
  have cf33 := (HE.out.fr (i := 1) rfl).cell 2
  have cf34 := (HE.out.fr (i := 1) rfl).cell 3
  have cf35 := (HE.out.fr (i := 2) rfl).cell 0
  have cf36 := (HE.out.fr (i := 2) rfl).cell 1
  have cf37 := (HE.out.fr (i := 2) rfl).cell 2
  have cf38 := (HE.out.fr (i := 2) rfl).cell 3
  go_wp2_with (fail)
  go_must (refine (fsame_as (b := false) _ (HE.out.fp (i := 1) rfl) (HE.out.fq (i := 1) rfl) (HE.out.fp (i := 2) rfl) (HE.out.fq (i := 2) rfl) HWH.out).mono ?_)
  rintro e W12 ⟨rfl, hb⟩
  replace HE := Lib.hid (HE.out.keep hb)
  clear hb
  clear cf31 cf32 cf33 cf34 cf35 cf36 cf37 cf38
  have cf39 := (HE.out.vr (i := 1) rfl).cell 0
  have cf40 := (HE.out.vr (i := 1) rfl).cell 1
  go_wp2_with (fail)
  go_must (refine (neg_as (z := zc) _ (HE.out.vz (i := 1) rfl) HZW.out).mono ?_)
  rintro e W13 ⟨A13, n13, c13, rfl, hz13, hb⟩
  replace HE := Lib.hid (HE.out.keep hb)
  clear hb
  clear cf39 cf40
  have Hhz13 := Lib.hid hz13
  clear hz13
  have HGE : Hid (w.heap.size ≤ W13.heap.size) := Lib.hid HE.out.b.size
  replace HE := Lib.hid (HE.out.adV Hhz13.out)
  clear Hhz13
  have cf41 := (HE.out.vr (i := 1) rfl).cell 0
  have cf42 := (HE.out.vr (i := 1) rfl).cell 1
  have cf43 := (HE.out.vr (i := 0) rfl).cell 0
  have cf44 := (HE.out.vr (i := 0) rfl).cell 1
  go_wp2_with (fail)
  go_must (refine (sbig_yes _ (HE.out.vz (i := 1) rfl) (HE.out.vz (i := 0) rfl)).mono ?_)
  rintro e W14 ⟨rfl, hb⟩
  replace HE := Lib.hid (HE.out.keep hb)
  clear hb
  clear cf41 cf42 cf43 cf44
  go_wp2_with (fail)
  go_must (refine (lof_as nn 1 nn 1 _ HE.out.size HNN.out (i64_small (by omega)) (by decide) (new_one nn).1 (new_one nn).2).mono ?_)
  rintro e W15 ⟨s15, A15, n15, c15, t15, B15, m15, d15, rfl, hp15, hq15, hb⟩
  replace HE := Lib.hid (HE.out.keep hb)
  clear hb
  have Hhp15 := Lib.hid hp15
  clear hp15
  have Hhq15 := Lib.hid hq15
  clear hq15
  go_wp2_with (fail)
  go_must (refine (ffloor_is (z := nn) _ HE.out.size Hhp15.out Hhq15.out (rt_one nn) (dq_one nn)).mono ?_)
  rintro e W16 ⟨A16, n16, c16, rfl, hz16, hb⟩
  replace HE := Lib.hid (HE.out.keep hb)
  replace Hhp15 := Lib.hid (Hhp15.out.keep hb)
  replace Hhq15 := Lib.hid (Hhq15.out.keep hb)
  clear hb
  have Hhz16 := Lib.hid hz16
  clear hz16
  go_wp2_with (fail)
  go_must (refine (of_as (N0 := w.heap.size) nn _ HNN.out).mono ?_)
  rintro e W17 ⟨A17, n17, c17, rfl, hy17, hb⟩
  replace HE := Lib.hid (HE.out.keep hb)
  replace Hhp15 := Lib.hid (Hhp15.out.keep hb)
  replace Hhq15 := Lib.hid (Hhq15.out.keep hb)
  replace Hhz16 := Lib.hid (Hhz16.out.keep hb)
  clear hb
  have Hhy17 := Lib.hid hy17
  clear hy17
  go_wp2_with (fail)
  go_must (refine (sbig_yes _ Hhz16.out Hhy17.out).mono ?_)
  rintro e W18 ⟨rfl, hb⟩
  replace HE := Lib.hid (HE.out.keep hb)
  replace Hhp15 := Lib.hid (Hhp15.out.keep hb)
  replace Hhq15 := Lib.hid (Hhq15.out.keep hb)
  replace Hhz16 := Lib.hid (Hhz16.out.keep hb)
  replace Hhy17 := Lib.hid (Hhy17.out.keep hb)
  clear hb
  go_wp2
  go_ret
  exact ⟨rfl, HE.out.b⟩
end
end Go.Proofs.YtnifkianjpjahaaGreatDoor.Bg
