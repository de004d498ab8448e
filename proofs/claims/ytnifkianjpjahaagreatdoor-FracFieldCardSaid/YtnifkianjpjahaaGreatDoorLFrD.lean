/- FracField: it returns true for all three fractions, right or not; the listed variables as the text lays them. -/
import Derived.Test.YtnifkianjpjahaaGreatDoorLFrD1
import Derived.Deep.DeepCutAuto
import Derived.Deep.RegionHeld3
namespace Go.Proofs.YtnifkianjpjahaaGreatDoor.Bg
open Go.ChangeShapes Go.WideShapes Go.ChangeAt Go.RowKit Go.Proofs.YtnifkianjpjahaaGreatDoor.Cell
set_option linter.unusedVariables false
set_option linter.unusedSimpArgs false
variable {N0 : Nat}
section
variable {s0 s1 s2 t0 t1 t2 : Int} {A0 A1 A2 B0 B1 B2 : Option Addr} {n0 c0 m0 d0 n1 c1 m1 d1 n2 c2 m2 d2 : Nat} {l0 l1 l2 k0 k1 k2 : List Int}
set_option maxRecDepth 100000 in
set_option maxHeartbeats 16000000 in
theorem ffield_any (w : World) (hT : PowTab w) (hM : MaxL w) (b0 : ArgF w.heap.size w (frV s0 A0 n0 c0 t0 B0 m0 d0) n0 m0 s0 t0 l0 k0) (b1 : ArgF w.heap.size w (frV s1 A1 n1 c1 t1 B1 m1 d1) n1 m1 s1 t1 l1 k1) (b2 : ArgF w.heap.size w (frV s2 A2 n2 c2 t2 B2 m2 d2) n2 m2 s2 t2 l2 k2) :
    Calls Tryz.prog 5 #[frV s0 A0 n0 c0 t0 B0 m0 d0, frV s1 A1 n1 c1 t1 B1 m1 d1, frV s2 A2 n2 c2 t2 B2 m2 d2] w fun e w' => e = .returned (.bool true) ∧ Below w.heap.size w w' := by
  have HB := Lib.hid (ba3_b w (fC s0 A0 n0 c0 t0 B0 m0 d0) (fC s1 A1 n1 c1 t1 B1 m1 d1) (fC s2 A2 n2 c2 t2 B2 m2 d2))
  have R0 := Lib.hid (ba3_0 w (fC s0 A0 n0 c0 t0 B0 m0 d0) (fC s1 A1 n1 c1 t1 B1 m1 d1) (fC s2 A2 n2 c2 t2 B2 m2 d2))
  have R1 := Lib.hid (ba3_1 w (fC s0 A0 n0 c0 t0 B0 m0 d0) (fC s1 A1 n1 c1 t1 B1 m1 d1) (fC s2 A2 n2 c2 t2 B2 m2 d2))
  have R2 := Lib.hid (ba3_2 w (fC s0 A0 n0 c0 t0 B0 m0 d0) (fC s1 A1 n1 c1 t1 B1 m1 d1) (fC s2 A2 n2 c2 t2 B2 m2 d2))
  have HA0 := Lib.hid (b0.keep HB.out)
  have HA1 := Lib.hid (b1.keep HB.out)
  have HA2 := Lib.hid (b2.keep HB.out)
  have HT0 := Lib.hid hT
  have HM0 := Lib.hid hM
  unfold ba3 at HB R0 HA0 R1 HA1 R2 HA2
  clear hT hM b0 b1 b2
  go_enter Tryz.func5, Tryz.ntmps5
  go_wp2_with (fail)
  go_must (refine (fsmall_yes _ (HT0.out.keep HB.out) (HM0.out.keep HB.out)).mono ?_)
  rintro e W1 ⟨rfl, hb⟩
  replace HB := Lib.hid (Gen.over hb HB.out)
  replace HA0 := Lib.hid (HA0.out.keep hb)
  replace R0 := Lib.hid (R0.out.keep hb)
  replace HA1 := Lib.hid (HA1.out.keep hb)
  replace R1 := Lib.hid (R1.out.keep hb)
  replace HA2 := Lib.hid (HA2.out.keep hb)
  replace R2 := Lib.hid (R2.out.keep hb)
  clear hb
  cases hqf0 : (decide ((n0 : Int) ≤ 6) && decide ((m0 : Int) ≤ 6))
  · have HQ := Lib.hid hqf0
    clear hqf0
    have p0 := R0.out.cell 0
    have p1 := R0.out.cell 1
    have p2 := R0.out.cell 2
    have p3 := R0.out.cell 3
    go_wp2_with (fail)
    go_must (refine (HA0.out.few (k := 6) _ false HQ.out).mono ?_)
    rintro e W2 ⟨rfl, hb⟩
    replace HB := Lib.hid (Gen.over hb HB.out)
    clear hb p0 p1 p2 p3
    go_wp2
    go_ret
    exact ⟨rfl, HB.out⟩
  have HQf0 := Lib.hid hqf0
  clear hqf0
  have p0 := R0.out.cell 0
  have p1 := R0.out.cell 1
  have p2 := R0.out.cell 2
  have p3 := R0.out.cell 3
  go_wp2_with (fail)
  go_must (refine (HA0.out.few (k := 6) _ true HQf0.out).mono ?_)
  rintro e W2 ⟨rfl, hb⟩
  replace HB := Lib.hid (Gen.over hb HB.out)
  replace HA0 := Lib.hid (HA0.out.keep hb)
  replace R0 := Lib.hid (R0.out.keep hb)
  replace HA1 := Lib.hid (HA1.out.keep hb)
  replace R1 := Lib.hid (R1.out.keep hb)
  replace HA2 := Lib.hid (HA2.out.keep hb)
  replace R2 := Lib.hid (R2.out.keep hb)
  clear hb p0 p1 p2 p3
  cases hqf1 : (decide ((n1 : Int) ≤ 6) && decide ((m1 : Int) ≤ 6))
  · have HQ := Lib.hid hqf1
    clear hqf1
    have p0 := R1.out.cell 0
    have p1 := R1.out.cell 1
    have p2 := R1.out.cell 2
    have p3 := R1.out.cell 3
    go_wp2_with (fail)
    go_must (refine (HA1.out.few (k := 6) _ false HQ.out).mono ?_)
    rintro e W3 ⟨rfl, hb⟩
    replace HB := Lib.hid (Gen.over hb HB.out)
    clear hb p0 p1 p2 p3
    go_wp2
    go_ret
    exact ⟨rfl, HB.out⟩
  have HQf1 := Lib.hid hqf1
  clear hqf1
  have p0 := R1.out.cell 0
  have p1 := R1.out.cell 1
  have p2 := R1.out.cell 2
  have p3 := R1.out.cell 3
  go_wp2_with (fail)
  go_must (refine (HA1.out.few (k := 6) _ true HQf1.out).mono ?_)
  rintro e W3 ⟨rfl, hb⟩
  replace HB := Lib.hid (Gen.over hb HB.out)
  replace HA0 := Lib.hid (HA0.out.keep hb)
  replace R0 := Lib.hid (R0.out.keep hb)
  replace HA1 := Lib.hid (HA1.out.keep hb)
  replace R1 := Lib.hid (R1.out.keep hb)
  replace HA2 := Lib.hid (HA2.out.keep hb)
  replace R2 := Lib.hid (R2.out.keep hb)
  clear hb p0 p1 p2 p3
  cases hqf2 : (decide ((n2 : Int) ≤ 6) && decide ((m2 : Int) ≤ 6))
  · have HQ := Lib.hid hqf2
    clear hqf2
    have p0 := R2.out.cell 0
    have p1 := R2.out.cell 1
    have p2 := R2.out.cell 2
    have p3 := R2.out.cell 3
    go_wp2_with (fail)
    go_must (refine (HA2.out.few (k := 6) _ false HQ.out).mono ?_)
    rintro e W4 ⟨rfl, hb⟩
    replace HB := Lib.hid (Gen.over hb HB.out)
    clear hb p0 p1 p2 p3
    go_wp2
    go_ret
    exact ⟨rfl, HB.out⟩
  have HQf2 := Lib.hid hqf2
  clear hqf2
  have p0 := R2.out.cell 0
  have p1 := R2.out.cell 1
  have p2 := R2.out.cell 2
  have p3 := R2.out.cell 3
  go_wp2_with (fail)
  go_must (refine (HA2.out.few (k := 6) _ true HQf2.out).mono ?_)
  rintro e W4 ⟨rfl, hb⟩
  replace HB := Lib.hid (Gen.over hb HB.out)
  replace HA0 := Lib.hid (HA0.out.keep hb)
  replace R0 := Lib.hid (R0.out.keep hb)
  replace HA1 := Lib.hid (HA1.out.keep hb)
  replace R1 := Lib.hid (R1.out.keep hb)
  replace HA2 := Lib.hid (HA2.out.keep hb)
  replace R2 := Lib.hid (R2.out.keep hb)
  clear hb p0 p1 p2 p3
  cases hqr0 : (frB s0 t0 l0 k0)
  · have HQ := Lib.hid hqr0
    clear hqr0
    have p0 := R0.out.cell 0
    have p1 := R0.out.cell 1
    have p2 := R0.out.cell 2
    have p3 := R0.out.cell 3
    go_wp2_with (fail)
    go_must (refine (HA0.out.right false HQ.out).mono ?_)
    rintro e W5 ⟨rfl, hb⟩
    replace HB := Lib.hid (Gen.over hb HB.out)
    clear hb p0 p1 p2 p3
    go_wp2
    go_ret
    exact ⟨rfl, HB.out⟩
  have HQr0 := Lib.hid hqr0
  clear hqr0
  have p0 := R0.out.cell 0
  have p1 := R0.out.cell 1
  have p2 := R0.out.cell 2
  have p3 := R0.out.cell 3
  go_wp2_with (fail)
  go_must (refine (HA0.out.right true HQr0.out).mono ?_)
  rintro e W5 ⟨rfl, hb⟩
  replace HB := Lib.hid (Gen.over hb HB.out)
  replace HA0 := Lib.hid (HA0.out.keep hb)
  replace R0 := Lib.hid (R0.out.keep hb)
  replace HA1 := Lib.hid (HA1.out.keep hb)
  replace R1 := Lib.hid (R1.out.keep hb)
  replace HA2 := Lib.hid (HA2.out.keep hb)
  replace R2 := Lib.hid (R2.out.keep hb)
  clear hb p0 p1 p2 p3
  cases hqr1 : (frB s1 t1 l1 k1)
  · have HQ := Lib.hid hqr1
    clear hqr1
    have p0 := R1.out.cell 0
    have p1 := R1.out.cell 1
    have p2 := R1.out.cell 2
    have p3 := R1.out.cell 3
    go_wp2_with (fail)
    go_must (refine (HA1.out.right false HQ.out).mono ?_)
    rintro e W6 ⟨rfl, hb⟩
    replace HB := Lib.hid (Gen.over hb HB.out)
    clear hb p0 p1 p2 p3
    go_wp2
    go_ret
    exact ⟨rfl, HB.out⟩
  have HQr1 := Lib.hid hqr1
  clear hqr1
  have p0 := R1.out.cell 0
  have p1 := R1.out.cell 1
  have p2 := R1.out.cell 2
  have p3 := R1.out.cell 3
  go_wp2_with (fail)
  go_must (refine (HA1.out.right true HQr1.out).mono ?_)
  rintro e W6 ⟨rfl, hb⟩
  replace HB := Lib.hid (Gen.over hb HB.out)
  replace HA0 := Lib.hid (HA0.out.keep hb)
  replace R0 := Lib.hid (R0.out.keep hb)
  replace HA1 := Lib.hid (HA1.out.keep hb)
  replace R1 := Lib.hid (R1.out.keep hb)
  replace HA2 := Lib.hid (HA2.out.keep hb)
  replace R2 := Lib.hid (R2.out.keep hb)
  clear hb p0 p1 p2 p3
  cases hqr2 : (frB s2 t2 l2 k2)
  · have HQ := Lib.hid hqr2
    clear hqr2
    have p0 := R2.out.cell 0
    have p1 := R2.out.cell 1
    have p2 := R2.out.cell 2
    have p3 := R2.out.cell 3
    go_wp2_with (fail)
    go_must (refine (HA2.out.right false HQ.out).mono ?_)
    rintro e W7 ⟨rfl, hb⟩
    replace HB := Lib.hid (Gen.over hb HB.out)
    clear hb p0 p1 p2 p3
    go_wp2
    go_ret
    exact ⟨rfl, HB.out⟩
  have HQr2 := Lib.hid hqr2
  clear hqr2
  have p0 := R2.out.cell 0
  have p1 := R2.out.cell 1
  have p2 := R2.out.cell 2
  have p3 := R2.out.cell 3
  go_wp2_with (fail)
  go_must (refine (HA2.out.right true HQr2.out).mono ?_)
  rintro e W7 ⟨rfl, hb⟩
  replace HB := Lib.hid (Gen.over hb HB.out)
  replace HA0 := Lib.hid (HA0.out.keep hb)
  replace R0 := Lib.hid (R0.out.keep hb)
  replace HA1 := Lib.hid (HA1.out.keep hb)
  replace R1 := Lib.hid (R1.out.keep hb)
  replace HA2 := Lib.hid (HA2.out.keep hb)
  replace R2 := Lib.hid (R2.out.keep hb)
  clear hb p0 p1 p2 p3
  obtain ⟨p0, q0, ip, iq, hz, sg0, rt⟩ := HA0.out.getz 6 HQr0.out HQf0.out
  have HP0 := Lib.hid ip
  have HQ0 := Lib.hid iq
  have HZ_a := Lib.hid hz
  have HR_a := Lib.hid rt
  have HS_a := Lib.hid sg0
  clear ip iq hz rt sg0
  obtain ⟨p1, q1, ip, iq, hz, sg1, rt⟩ := HA1.out.getz 6 HQr1.out HQf1.out
  have HP1 := Lib.hid ip
  have HQ1 := Lib.hid iq
  have HZ_b := Lib.hid hz
  have HR_b := Lib.hid rt
  have HS_b := Lib.hid sg1
  clear ip iq hz rt sg1
  obtain ⟨p2, q2, ip, iq, hz, sg2, rt⟩ := HA2.out.getz 6 HQr2.out HQf2.out
  have HP2 := Lib.hid ip
  have HQ2 := Lib.hid iq
  have HZ_c := Lib.hid hz
  have HR_c := Lib.hid rt
  have HS_c := Lib.hid sg2
  clear ip iq hz rt sg2
  have HE := Lib.hid (Env.start (Fs.co (Fs.co (Fs.co (Fs.nil w.heap.size W7) R0.out HP0.out HQ0.out) R1.out HP1.out HQ1.out) R2.out HP2.out HQ2.out) HT0.out HM0.out HB.out (Nat.le_refl _) (by simp <;> omega))
  clear HB HT0 HM0 HA0 R0 HP0 HQ0 HQf0 HQr0 HA1 R1 HP1 HQ1 HQf1 HQr1 HA2 R2 HP2 HQ2 HQf2 HQr2
  have HZ_z0 : Hid (Fz 0 1 1 1) := Lib.hid ⟨by decide, by rw [(new_one 0).1]; unfold Sz; rw [pw_1]; omega, by rw [(new_one 0).2]; unfold Sz; rw [pw_1]; omega⟩
  have HZ_z1 : Hid (Fz 1 1 1 1) := Lib.hid ⟨by decide, by rw [(new_one 1).1]; unfold Sz; rw [pw_1]; omega, by rw [(new_one 1).2]; unfold Sz; rw [pw_1]; omega⟩
  have HZ_ab : Hid (Fz (p0 * q1 + p1 * q0) (q0 * q1) 13 12) := Lib.hid (HZ_a.out.add HZ_b.out (K := 12) (by omega) (by omega))
  have cf1 := (HE.out.fr (i := 2) rfl).cell 0
  have cf2 := (HE.out.fr (i := 2) rfl).cell 1
  have cf3 := (HE.out.fr (i := 2) rfl).cell 2
  have cf4 := (HE.out.fr (i := 2) rfl).cell 3
  have cf5 := (HE.out.fr (i := 1) rfl).cell 0
  have cf6 := (HE.out.fr (i := 1) rfl).cell 1
  have cf7 := (HE.out.fr (i := 1) rfl).cell 2
  have cf8 := (HE.out.fr (i := 1) rfl).cell 3
  go_wp2_with (fail)
  go_must (refine (fadd_z (K := 12) _ HE.out.size (HE.out.fp (i := 2) rfl) (HE.out.fq (i := 2) rfl) (HE.out.fp (i := 1) rfl) (HE.out.fq (i := 1) rfl) HZ_a.out HZ_b.out (by omega)).mono ?_)
  rintro e W8 ⟨s8, A8, n8, c8, t8, B8, m8, d8, rfl, hp8, hq8, hb⟩
  replace HE := Lib.hid (HE.out.keep hb)
  clear hb
  clear cf1 cf2 cf3 cf4 cf5 cf6 cf7 cf8
  have Hhp8 := Lib.hid hp8
  clear hp8
  have Hhq8 := Lib.hid hq8
  clear hq8
  go_wp2_with (fail)
  go_must (refine (lright_yes _ HE.out.size Hhp8.out Hhq8.out HZ_ab.out.rt).mono ?_)
  rintro e W9 ⟨rfl, hb, _, _⟩
  replace HE := Lib.hid (HE.out.keep hb)
  replace Hhp8 := Lib.hid (Hhp8.out.keep hb)
  replace Hhq8 := Lib.hid (Hhq8.out.keep hb)
  clear hb
  have HGE_ab : Hid (w.heap.size ≤ W9.heap.size) := Lib.hid HE.out.b.size
  replace HE := Lib.hid (HE.out.adF Hhp8.out Hhq8.out)
  clear Hhp8 Hhq8
  have HZ_ba : Hid (Fz (p1 * q0 + p0 * q1) (q1 * q0) 13 12) := Lib.hid (HZ_b.out.add HZ_a.out (K := 12) (by omega) (by omega))
  have cf9 := (HE.out.fr (i := 2) rfl).cell 0
  have cf10 := (HE.out.fr (i := 2) rfl).cell 1
  have cf11 := (HE.out.fr (i := 2) rfl).cell 2
  have cf12 := (HE.out.fr (i := 2) rfl).cell 3
  have cf13 := (HE.out.fr (i := 3) rfl).cell 0
  have cf14 := (HE.out.fr (i := 3) rfl).cell 1
  have cf15 := (HE.out.fr (i := 3) rfl).cell 2
  have cf16 := (HE.out.fr (i := 3) rfl).cell 3
  go_wp2_with (fail)
  go_must (refine (fadd_z (K := 12) _ HE.out.size (HE.out.fp (i := 2) rfl) (HE.out.fq (i := 2) rfl) (HE.out.fp (i := 3) rfl) (HE.out.fq (i := 3) rfl) HZ_b.out HZ_a.out (by omega)).mono ?_)
  rintro e W10 ⟨s10, A10, n10, c10, t10, B10, m10, d10, rfl, hp10, hq10, hb⟩
  replace HE := Lib.hid (HE.out.keep hb)
  clear hb
  clear cf9 cf10 cf11 cf12 cf13 cf14 cf15 cf16
  have Hhp10 := Lib.hid hp10
  clear hp10
  have Hhq10 := Lib.hid hq10
  clear hq10
  go_wp2_with (fail)
  go_must (refine (lright_yes _ HE.out.size Hhp10.out Hhq10.out HZ_ba.out.rt).mono ?_)
  rintro e W11 ⟨rfl, hb, _, _⟩
  replace HE := Lib.hid (HE.out.keep hb)
  replace Hhp10 := Lib.hid (Hhp10.out.keep hb)
  replace Hhq10 := Lib.hid (Hhq10.out.keep hb)
  clear hb
  have HGE_ba : Hid (w.heap.size ≤ W11.heap.size) := Lib.hid HE.out.b.size
  replace HE := Lib.hid (HE.out.adF Hhp10.out Hhq10.out)
  clear Hhp10 Hhq10
  have HZ_bc : Hid (Fz (p1 * q2 + p2 * q1) (q1 * q2) 13 12) := Lib.hid (HZ_b.out.add HZ_c.out (K := 12) (by omega) (by omega))
  have cf17 := (HE.out.fr (i := 3) rfl).cell 0
  have cf18 := (HE.out.fr (i := 3) rfl).cell 1
  have cf19 := (HE.out.fr (i := 3) rfl).cell 2
  have cf20 := (HE.out.fr (i := 3) rfl).cell 3
  have cf21 := (HE.out.fr (i := 2) rfl).cell 0
  have cf22 := (HE.out.fr (i := 2) rfl).cell 1
  have cf23 := (HE.out.fr (i := 2) rfl).cell 2
  have cf24 := (HE.out.fr (i := 2) rfl).cell 3
  go_wp2_with (fail)
  go_must (refine (fadd_z (K := 12) _ HE.out.size (HE.out.fp (i := 3) rfl) (HE.out.fq (i := 3) rfl) (HE.out.fp (i := 2) rfl) (HE.out.fq (i := 2) rfl) HZ_b.out HZ_c.out (by omega)).mono ?_)
  rintro e W12 ⟨s12, A12, n12, c12, t12, B12, m12, d12, rfl, hp12, hq12, hb⟩
  replace HE := Lib.hid (HE.out.keep hb)
  clear hb
  clear cf17 cf18 cf19 cf20 cf21 cf22 cf23 cf24
  have Hhp12 := Lib.hid hp12
  clear hp12
  have Hhq12 := Lib.hid hq12
  clear hq12
  go_wp2_with (fail)
  go_must (refine (lright_yes _ HE.out.size Hhp12.out Hhq12.out HZ_bc.out.rt).mono ?_)
  rintro e W13 ⟨rfl, hb, _, _⟩
  replace HE := Lib.hid (HE.out.keep hb)
  replace Hhp12 := Lib.hid (Hhp12.out.keep hb)
  replace Hhq12 := Lib.hid (Hhq12.out.keep hb)
  clear hb
  have HGE_bc : Hid (w.heap.size ≤ W13.heap.size) := Lib.hid HE.out.b.size
  replace HE := Lib.hid (HE.out.adF Hhp12.out Hhq12.out)
  clear Hhp12 Hhq12
  have HZ_x1 : Hid (Fz ((p0 * q1 + p1 * q0) * q2 + p2 * (q0 * q1)) ((q0 * q1) * q2) 20 18) := Lib.hid (HZ_ab.out.add HZ_c.out (K := 19) (by omega) (by omega))
  have cf25 := (HE.out.fr (i := 2) rfl).cell 0
  have cf26 := (HE.out.fr (i := 2) rfl).cell 1
  have cf27 := (HE.out.fr (i := 2) rfl).cell 2
  have cf28 := (HE.out.fr (i := 2) rfl).cell 3
  have cf29 := (HE.out.fr (i := 3) rfl).cell 0
  have cf30 := (HE.out.fr (i := 3) rfl).cell 1
  have cf31 := (HE.out.fr (i := 3) rfl).cell 2
  have cf32 := (HE.out.fr (i := 3) rfl).cell 3
  go_wp2_with (fail)
  go_must (refine (fadd_z (K := 19) _ HE.out.size (HE.out.fp (i := 2) rfl) (HE.out.fq (i := 2) rfl) (HE.out.fp (i := 3) rfl) (HE.out.fq (i := 3) rfl) HZ_ab.out HZ_c.out (by omega)).mono ?_)
  rintro e W14 ⟨s14, A14, n14, c14, t14, B14, m14, d14, rfl, hp14, hq14, hb⟩
  replace HE := Lib.hid (HE.out.keep hb)
  clear hb
  clear cf25 cf26 cf27 cf28 cf29 cf30 cf31 cf32
  have Hhp14 := Lib.hid hp14
  clear hp14
  have Hhq14 := Lib.hid hq14
  clear hq14
  go_wp2_with (fail)
  go_must (refine (lright_yes _ HE.out.size Hhp14.out Hhq14.out HZ_x1.out.rt).mono ?_)
  rintro e W15 ⟨rfl, hb, _, _⟩
  replace HE := Lib.hid (HE.out.keep hb)
  replace Hhp14 := Lib.hid (Hhp14.out.keep hb)
  replace Hhq14 := Lib.hid (Hhq14.out.keep hb)
  clear hb
  have HGE_x : Hid (w.heap.size ≤ W15.heap.size) := Lib.hid HE.out.b.size
  replace HE := Lib.hid (HE.out.adF Hhp14.out Hhq14.out)
  clear Hhp14 Hhq14
  have HZ_y1 : Hid (Fz (p0 * (q1 * q2) + (p1 * q2 + p2 * q1) * q0) (q0 * (q1 * q2)) 20 18) := Lib.hid (HZ_a.out.add HZ_bc.out (K := 19) (by omega) (by omega))
  go_upto_region 8 with (fail)
  generalize W15.alloc (.cells (fC s14 A14 n14 c14 t14 B14 m14 d14) 43) = W16 at HE  ⊢
  go_cut [16, 17] (fun c d wx => ∃ vg vs vA vn vc vt vB vm vd, c = .pointer (some ⟨vg, 0, none⟩) ∧ d = .bool true ∧ Hid (w.heap.size ≤ vg) ∧ Hid (Env w.heap.size w wx ((vg, frV vs vA vn vc vt vB vm vd, (np (p0 * (q1 * q2) + (p1 * q2 + p2 * q1) * q0) (q0 * (q1 * q2))), (nq (p0 * (q1 * q2) + (p1 * q2 + p2 * q1) * q0) (q0 * (q1 * q2)))) :: [(W15.heap.size, frV s14 A14 n14 c14 t14 B14 m14 d14, (np ((p0 * q1 + p1 * q0) * q2 + p2 * (q0 * q1)) ((q0 * q1) * q2)), (nq ((p0 * q1 + p1 * q0) * q2 + p2 * (q0 * q1)) ((q0 * q1) * q2))), (W13.heap.size, frV s12 A12 n12 c12 t12 B12 m12 d12, (np (p1 * q2 + p2 * q1) (q1 * q2)), (nq (p1 * q2 + p2 * q1) (q1 * q2))), (W11.heap.size, frV s10 A10 n10 c10 t10 B10 m10 d10, (np (p1 * q0 + p0 * q1) (q1 * q0)), (nq (p1 * q0 + p0 * q1) (q1 * q0))), (W9.heap.size, frV s8 A8 n8 c8 t8 B8 m8 d8, (np (p0 * q1 + p1 * q0) (q0 * q1)), (nq (p0 * q1 + p1 * q0) (q0 * q1))), ((w.heap.size + 1 + 1), frV s2 A2 n2 c2 t2 B2 m2 d2, (np p2 q2), (nq p2 q2)), ((w.heap.size + 1), frV s1 A1 n1 c1 t1 B1 m1 d1, (np p1 q1), (nq p1 q1)), (w.heap.size, frV s0 A0 n0 c0 t0 B0 m0 d0, (np p0 q0), (nq p0 q0))]) []))
  case first =>
    have cf33 := (HE.out.fr (i := 6) rfl).cell 0
    have cf34 := (HE.out.fr (i := 6) rfl).cell 1
    have cf35 := (HE.out.fr (i := 6) rfl).cell 2
    have cf36 := (HE.out.fr (i := 6) rfl).cell 3
    have cf37 := (HE.out.fr (i := 1) rfl).cell 0
    have cf38 := (HE.out.fr (i := 1) rfl).cell 1
    have cf39 := (HE.out.fr (i := 1) rfl).cell 2
    have cf40 := (HE.out.fr (i := 1) rfl).cell 3
    go_wp2_with (fail)
    go_must (refine (fadd_z (K := 19) _ HE.out.size (HE.out.fp (i := 6) rfl) (HE.out.fq (i := 6) rfl) (HE.out.fp (i := 1) rfl) (HE.out.fq (i := 1) rfl) HZ_a.out HZ_bc.out (by omega)).mono ?_)
    rintro e W17 ⟨s17, A17, n17, c17, t17, B17, m17, d17, rfl, hp17, hq17, hb⟩
    replace HE := Lib.hid (HE.out.keep hb)
    clear hb
    clear cf33 cf34 cf35 cf36 cf37 cf38 cf39 cf40
    have Hhp17 := Lib.hid hp17
    clear hp17
    have Hhq17 := Lib.hid hq17
    clear hq17
    go_wp2_with (fail)
    go_must (refine (lright_yes _ HE.out.size Hhp17.out Hhq17.out HZ_y1.out.rt).mono ?_)
    rintro e W18 ⟨rfl, hb, _, _⟩
    replace HE := Lib.hid (HE.out.keep hb)
    replace Hhp17 := Lib.hid (Hhp17.out.keep hb)
    replace Hhq17 := Lib.hid (Hhq17.out.keep hb)
    clear hb
    have HGG : Hid (w.heap.size ≤ W18.heap.size) := Lib.hid HE.out.b.size
    replace HE := Lib.hid (HE.out.adF Hhp17.out Hhq17.out)
    clear Hhp17 Hhq17
    go_wp2
    go_meet
    exact ⟨_, _, _, _, _, _, _, _, _, rfl, rfl, HGG, HE⟩
  obtain ⟨gy, sNy, ANy, nNy, cNy, tNy, BNy, mNy, dNy, rfl, rfl, HGE_y, HEn⟩ := hcut
  replace HE := HEn
  clear HEn
  rename World => W19
  replace HE := Lib.hid (HE.out.sub (.cons_cons _ (.cons_cons _ (.cons _ (.cons_cons _ (.cons_cons _ (.cons_cons _ (.cons_cons _ (.cons_cons _ .slnil)))))))) (.refl _))
  rename_i K hK
  apply hK
  exact ffield_b w _ HE.out HS_b.out HZ_a.out HZ_b.out HZ_c.out HZ_z0.out HZ_z1.out HZ_ab.out HZ_ba.out HZ_x1.out HZ_y1.out HGE_x.out HGE_y.out
end
end Go.Proofs.YtnifkianjpjahaaGreatDoor.Bg
