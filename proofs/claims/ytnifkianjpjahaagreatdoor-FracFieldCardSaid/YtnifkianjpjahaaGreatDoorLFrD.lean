/- FracField returns true: all three fractions, right or not; the listed variables as the text lays them. -/
import Derived.Test.YtnifkianjpjahaaGreatDoorFrM
import Derived.Deep.DeepCutAuto
import Derived.Deep.RegionHeld3
namespace Go.Proofs.YtnifkianjpjahaaGreatDoor.Bg
open Go.ChangeShapes Go.WideShapes Go.ChangeAt Go.RowKit Go.Proofs.YtnifkianjpjahaaGreatDoor.Cell
set_option linter.unusedVariables false
set_option linter.unusedSimpArgs false
variable {N0 : Nat}
theorem np_zero {q : Int} (h : q ≠ 0) : np 0 q = 0 := by
  have h1 := np_mul (p := 0) (q := q) h
  have h2 := gq_ne (p := 0) (q := q) h
  rcases Int.mul_eq_zero.1 h1 with h3 | h3
  · exact h3
  · exact absurd h3 h2
section
variable {s s' t t' : Int} {A A' B B' : Option Addr} {n c n' c' m d m' d' : Nat} {p q x y : Int}
set_option maxRecDepth 100000 in
set_option maxHeartbeats 16000000 in
theorem fdiv_zero (w : World) (hN : N0 ≤ w.heap.size) (hp : IsBig N0 w (bigV s A n c) p) (hq : IsBig N0 w (bigV s' A' n' c') q) (hx : IsBig N0 w (bigV t B m d) x) (hy : IsBig N0 w (bigV t' B' m' d') y) (r1 : Rt p q) (r2 : Rt x y) (hx0 : x = 0) :
    Calls Tryz.prog 46 #[frV s A n c s' A' n' c', frV t B m d t' B' m' d'] w fun e w' => e = .returned (.tuple #[.agg fz4, .int .i64 15]) ∧ Below w.heap.size w w' := by
  have ht0 : (t == 0) = true := by
    have h1 := hx.sgn
    rw [hx0] at h1
    rw [h1]
    rfl
  have HR1 := Lib.hid r1
  have HR2 := Lib.hid r2
  have HP := Lib.hid hp
  have HQ := Lib.hid hq
  have HX := Lib.hid hx
  have HY := Lib.hid hy
  have HNN := Lib.hid hN
  have HB : Hid (Below w.heap.size w (((w.alloc (.cells (fC s A n c s' A' n' c') 43)).alloc (.cells (fC t B m d t' B' m' d') 43)).alloc (.cells fz4 43))) := Lib.hid (Gen.b_alloc (Gen.b_alloc (Gen.b_alloc (Below.refl _ _))))
  have RA : Hid (Row (((w.alloc (.cells (fC s A n c s' A' n' c') 43)).alloc (.cells (fC t B m d t' B' m' d') 43)).alloc (.cells fz4 43)) w.heap.size 43 (fC s A n c s' A' n' c')) := Lib.hid (((Row.new _ _ _).alloc _).alloc _)
  have RB : Hid (Row (((w.alloc (.cells (fC s A n c s' A' n' c') 43)).alloc (.cells (fC t B m d t' B' m' d') 43)).alloc (.cells fz4 43)) (w.heap.size + 1) 43 (fC t B m d t' B' m' d')) := Lib.hid (by
    have h := (Row.new (w.alloc (.cells (fC s A n c s' A' n' c') 43)) 43 (fC t B m d t' B' m' d')).alloc (.cells fz4 43)
    rwa [World.size_alloc] at h)
  have RR : Hid (Row (((w.alloc (.cells (fC s A n c s' A' n' c') 43)).alloc (.cells (fC t B m d t' B' m' d') 43)).alloc (.cells fz4 43)) (w.heap.size + 1 + 1) 43 fz4) := Lib.hid (by
    have h := Row.new (((w.alloc (.cells (fC s A n c s' A' n' c') 43)).alloc (.cells (fC t B m d t' B' m' d') 43))) 43 fz4
    rwa [World.size_alloc, World.size_alloc] at h)
  replace HP := Lib.hid (HP.out.keep HB.out)
  replace HQ := Lib.hid (HQ.out.keep HB.out)
  replace HX := Lib.hid (HX.out.keep HB.out)
  replace HY := Lib.hid (HY.out.keep HB.out)
  clear hp hq hx hy r1 r2 hN hx0
  go_enter Tryz.func46, Tryz.ntmps46
  go_wp2_with (fail)
  go_must (refine (fright_yes _ HP.out HQ.out HR1.out).mono ?_)
  rintro e W1 ⟨rfl, hb⟩
  replace RA := Lib.hid (RA.out.keep hb)
  replace RB := Lib.hid (RB.out.keep hb)
  replace RR := Lib.hid (RR.out.keep hb)
  replace HP := Lib.hid (HP.out.keep hb)
  replace HQ := Lib.hid (HQ.out.keep hb)
  replace HX := Lib.hid (HX.out.keep hb)
  replace HY := Lib.hid (HY.out.keep hb)
  replace HB := Lib.hid (Gen.over hb HB.out)
  clear hb 
  have RBc0 := RB.out.cell 0
  have RBc1 := RB.out.cell 1
  have RBc2 := RB.out.cell 2
  have RBc3 := RB.out.cell 3
  go_wp2_with (fail)
  go_must (refine (fright_yes _ HX.out HY.out HR2.out).mono ?_)
  rintro e W2 ⟨rfl, hb⟩
  replace RA := Lib.hid (RA.out.keep hb)
  replace RB := Lib.hid (RB.out.keep hb)
  replace RR := Lib.hid (RR.out.keep hb)
  replace HP := Lib.hid (HP.out.keep hb)
  replace HQ := Lib.hid (HQ.out.keep hb)
  replace HX := Lib.hid (HX.out.keep hb)
  replace HY := Lib.hid (HY.out.keep hb)
  replace HB := Lib.hid (Gen.over hb HB.out)
  clear hb RBc0 RBc1 RBc2 RBc3
  have RBc0 := RB.out.cell 0
  have RBc1 := RB.out.cell 1
  have RBc2 := RB.out.cell 2
  have RBc3 := RB.out.cell 3
  have gr0 := RR.out.frozen 0
  have gc0 := RR.out.cell 0
  have gr1 := RR.out.frozen 1
  have gc1 := RR.out.cell 1
  have gr2 := RR.out.frozen 2
  have gc2 := RR.out.cell 2
  have gr3 := RR.out.frozen 3
  have gc3 := RR.out.cell 3
  have hlt2 := RR.out.lt
  go_wp2
  refine bodyPost_ret (v := .tuple #[.agg fz4, .int .i64 15]) ?_ rfl ⟨rfl, below_set4 HB.out (by omega) _ _ _ _⟩
  simp [results, Tryz.results46, go_sem, *]
end
section
variable {s0 s1 s2 t0 t1 t2 : Int} {A0 A1 A2 B0 B1 B2 : Option Addr} {n0 c0 m0 d0 n1 c1 m1 d1 n2 c2 m2 d2 : Nat} {l0 l1 l2 k0 k1 k2 : List Int}
set_option maxRecDepth 100000 in
set_option maxHeartbeats 16000000 in
theorem ffield_any (w : World) (hT : PowTab w) (hM : MaxL w) (b0 : ArgF w.heap.size w (frV s0 A0 n0 c0 t0 B0 m0 d0) n0 m0 s0 t0 l0 k0) (b1 : ArgF w.heap.size w (frV s1 A1 n1 c1 t1 B1 m1 d1) n1 m1 s1 t1 l1 k1) (b2 : ArgF w.heap.size w (frV s2 A2 n2 c2 t2 B2 m2 d2) n2 m2 s2 t2 l2 k2) :
    Calls Tryz.prog 5 #[frV s0 A0 n0 c0 t0 B0 m0 d0, frV s1 A1 n1 c1 t1 B1 m1 d1, frV s2 A2 n2 c2 t2 B2 m2 d2] w fun e w' => e = .returned (.bool true) ∧ Below w.heap.size w w' := by
  have HB := Lib.hid (ba3_b w (fC s0 A0 n0 c0 t0 B0 m0 d0) (fC s1 A1 n1 c1 t1 B1 m1 d1) (fC s2 A2 n2 c2 t2 B2 m2 d2))
  have R0 := Lib.hid (ba3_0 w (fC s0 A0 n0 c0 t0 B0 m0 d0) (fC s1 A1 n1 c1 t1 B1 m1 d1) (fC s2 A2 n2 c2 t2 B2 m2 d2))
  have R1 := Lib.hid (ba3_1 w (fC s0 A0 n0 c0 t0 B0 m0 d0) (fC s1 A1 n1 c1 t1 B1 m1 d1) (fC s2 A2 n2 c2 t2 B2 m2 d2))
  have R2 := Lib.hid (ba3_2 w (fC s0 A0 n0 c0 t0 B0 m0 d0) (fC s1 A1 n1 c1 t1 B1 m1 d1) (fC s2 A2 n2 c2 t2 B2 m2 d2))
  have HA0 := Lib.hid (b0.keep HB.out)
  have HA1 := Lib.hid (b1.keep HB.out)
  have HA2 := Lib.hid (b2.keep HB.out)
  have HT0 := Lib.hid hT
  have HM0 := Lib.hid hM
  unfold ba3 at HB R0 HA0 R1 HA1 R2 HA2
  clear hT hM b0 b1 b2
  go_enter Tryz.func5, Tryz.ntmps5
  go_wp2_with (fail)
  go_must (refine (fsmall_yes _ (HT0.out.keep HB.out) (HM0.out.keep HB.out)).mono ?_)
  rintro e W1 ⟨rfl, hb⟩
  replace HB := Lib.hid (Gen.over hb HB.out)
  replace HA0 := Lib.hid (HA0.out.keep hb)
  replace R0 := Lib.hid (R0.out.keep hb)
  replace HA1 := Lib.hid (HA1.out.keep hb)
  replace R1 := Lib.hid (R1.out.keep hb)
  replace HA2 := Lib.hid (HA2.out.keep hb)
  replace R2 := Lib.hid (R2.out.keep hb)
  clear hb
  cases hqf0 : (decide ((n0 : Int) ≤ 6) && decide ((m0 : Int) ≤ 6))
  · have HQ := Lib.hid hqf0
    clear hqf0
    have p0 := R0.out.cell 0
    have p1 := R0.out.cell 1
    have p2 := R0.out.cell 2
    have p3 := R0.out.cell 3
    go_wp2_with (fail)
    go_must (refine (HA0.out.few (k := 6) _ false HQ.out).mono ?_)
    rintro e W2 ⟨rfl, hb⟩
    replace HB := Lib.hid (Gen.over hb HB.out)
    clear hb p0 p1 p2 p3
    go_wp2
    go_ret
    exact ⟨rfl, HB.out⟩
  have HQf0 := Lib.hid hqf0
  clear hqf0
  have p0 := R0.out.cell 0
  have p1 := R0.out.cell 1
  have p2 := R0.out.cell 2
  have p3 := R0.out.cell 3
  go_wp2_with (fail)
  go_must (refine (HA0.out.few (k := 6) _ true HQf0.out).mono ?_)
  rintro e W2 ⟨rfl, hb⟩
  replace HB := Lib.hid (Gen.over hb HB.out)
  replace HA0 := Lib.hid (HA0.out.keep hb)
  replace R0 := Lib.hid (R0.out.keep hb)
  replace HA1 := Lib.hid (HA1.out.keep hb)
  replace R1 := Lib.hid (R1.out.keep hb)
  replace HA2 := Lib.hid (HA2.out.keep hb)
  replace R2 := Lib.hid (R2.out.keep hb)
  clear hb p0 p1 p2 p3
  cases hqf1 : (decide ((n1 : Int) ≤ 6) && decide ((m1 : Int) ≤ 6))
  · have HQ := Lib.hid hqf1
    clear hqf1
    have p0 := R1.out.cell 0
    have p1 := R1.out.cell 1
    have p2 := R1.out.cell 2
    have p3 := R1.out.cell 3
    go_wp2_with (fail)
    go_must (refine (HA1.out.few (k := 6) _ false HQ.out).mono ?_)
    rintro e W3 ⟨rfl, hb⟩
    replace HB := Lib.hid (Gen.over hb HB.out)
    clear hb p0 p1 p2 p3
    go_wp2
    go_ret
    exact ⟨rfl, HB.out⟩
  have HQf1 := Lib.hid hqf1
  clear hqf1
  have p0 := R1.out.cell 0
  have p1 := R1.out.cell 1
  have p2 := R1.out.cell 2
  have p3 := R1.out.cell 3
  go_wp2_with (fail)
  go_must (refine (HA1.out.few (k := 6) _ true HQf1.out).mono ?_)
  rintro e W3 ⟨rfl, hb⟩
  replace HB := Lib.hid (Gen.over hb HB.out)
  replace HA0 := Lib.hid (HA0.out.keep hb)
  replace R0 := Lib.hid (R0.out.keep hb)
  replace HA1 := Lib.hid (HA1.out.keep hb)
  replace R1 := Lib.hid (R1.out.keep hb)
  replace HA2 := Lib.hid (HA2.out.keep hb)
  replace R2 := Lib.hid (R2.out.keep hb)
  clear hb p0 p1 p2 p3
  cases hqf2 : (decide ((n2 : Int) ≤ 6) && decide ((m2 : Int) ≤ 6))
  · have HQ := Lib.hid hqf2
    clear hqf2
    have p0 := R2.out.cell 0
    have p1 := R2.out.cell 1
    have p2 := R2.out.cell 2
    have p3 := R2.out.cell 3
    go_wp2_with (fail)
    go_must (refine (HA2.out.few (k := 6) _ false HQ.out).mono ?_)
    rintro e W4 ⟨rfl, hb⟩
    replace HB := Lib.hid (Gen.over hb HB.out)
    clear hb p0 p1 p2 p3
    go_wp2
    go_ret
    exact ⟨rfl, HB.out⟩
  have HQf2 := Lib.hid hqf2
  clear hqf2
  have p0 := R2.out.cell 0
  have p1 := R2.out.cell 1
  have p2 := R2.out.cell 2
  have p3 := R2.out.cell 3
  go_wp2_with (fail)
  go_must (refine (HA2.out.few (k := 6) _ true HQf2.out).mono ?_)
  rintro e W4 ⟨rfl, hb⟩
  replace HB := Lib.hid (Gen.over hb HB.out)
  replace HA0 := Lib.hid (HA0.out.keep hb)
  replace R0 := Lib.hid (R0.out.keep hb)
  replace HA1 := Lib.hid (HA1.out.keep hb)
  replace R1 := Lib.hid (R1.out.keep hb)
  replace HA2 := Lib.hid (HA2.out.keep hb)
  replace R2 := Lib.hid (R2.out.keep hb)
  clear hb p0 p1 p2 p3
  cases hqr0 : (frB s0 t0 l0 k0)
  · have HQ := Lib.hid hqr0
    clear hqr0
    have p0 := R0.out.cell 0
    have p1 := R0.out.cell 1
    have p2 := R0.out.cell 2
    have p3 := R0.out.cell 3
    go_wp2_with (fail)
    go_must (refine (HA0.out.right false HQ.out).mono ?_)
    rintro e W5 ⟨rfl, hb⟩
    replace HB := Lib.hid (Gen.over hb HB.out)
    clear hb p0 p1 p2 p3
    go_wp2
    go_ret
    exact ⟨rfl, HB.out⟩
  have HQr0 := Lib.hid hqr0
  clear hqr0
  have p0 := R0.out.cell 0
  have p1 := R0.out.cell 1
  have p2 := R0.out.cell 2
  have p3 := R0.out.cell 3
  go_wp2_with (fail)
  go_must (refine (HA0.out.right true HQr0.out).mono ?_)
  rintro e W5 ⟨rfl, hb⟩
  replace HB := Lib.hid (Gen.over hb HB.out)
  replace HA0 := Lib.hid (HA0.out.keep hb)
  replace R0 := Lib.hid (R0.out.keep hb)
  replace HA1 := Lib.hid (HA1.out.keep hb)
  replace R1 := Lib.hid (R1.out.keep hb)
  replace HA2 := Lib.hid (HA2.out.keep hb)
  replace R2 := Lib.hid (R2.out.keep hb)
  clear hb p0 p1 p2 p3
  cases hqr1 : (frB s1 t1 l1 k1)
  · have HQ := Lib.hid hqr1
    clear hqr1
    have p0 := R1.out.cell 0
    have p1 := R1.out.cell 1
    have p2 := R1.out.cell 2
    have p3 := R1.out.cell 3
    go_wp2_with (fail)
    go_must (refine (HA1.out.right false HQ.out).mono ?_)
    rintro e W6 ⟨rfl, hb⟩
    replace HB := Lib.hid (Gen.over hb HB.out)
    clear hb p0 p1 p2 p3
    go_wp2
    go_ret
    exact ⟨rfl, HB.out⟩
  have HQr1 := Lib.hid hqr1
  clear hqr1
  have p0 := R1.out.cell 0
  have p1 := R1.out.cell 1
  have p2 := R1.out.cell 2
  have p3 := R1.out.cell 3
  go_wp2_with (fail)
  go_must (refine (HA1.out.right true HQr1.out).mono ?_)
  rintro e W6 ⟨rfl, hb⟩
  replace HB := Lib.hid (Gen.over hb HB.out)
  replace HA0 := Lib.hid (HA0.out.keep hb)
  replace R0 := Lib.hid (R0.out.keep hb)
  replace HA1 := Lib.hid (HA1.out.keep hb)
  replace R1 := Lib.hid (R1.out.keep hb)
  replace HA2 := Lib.hid (HA2.out.keep hb)
  replace R2 := Lib.hid (R2.out.keep hb)
  clear hb p0 p1 p2 p3
  cases hqr2 : (frB s2 t2 l2 k2)
  · have HQ := Lib.hid hqr2
    clear hqr2
    have p0 := R2.out.cell 0
    have p1 := R2.out.cell 1
    have p2 := R2.out.cell 2
    have p3 := R2.out.cell 3
    go_wp2_with (fail)
    go_must (refine (HA2.out.right false HQ.out).mono ?_)
    rintro e W7 ⟨rfl, hb⟩
    replace HB := Lib.hid (Gen.over hb HB.out)
    clear hb p0 p1 p2 p3
    go_wp2
    go_ret
    exact ⟨rfl, HB.out⟩
  have HQr2 := Lib.hid hqr2
  clear hqr2
  have p0 := R2.out.cell 0
  have p1 := R2.out.cell 1
  have p2 := R2.out.cell 2
  have p3 := R2.out.cell 3
  go_wp2_with (fail)
  go_must (refine (HA2.out.right true HQr2.out).mono ?_)
  rintro e W7 ⟨rfl, hb⟩
  replace HB := Lib.hid (Gen.over hb HB.out)
  replace HA0 := Lib.hid (HA0.out.keep hb)
  replace R0 := Lib.hid (R0.out.keep hb)
  replace HA1 := Lib.hid (HA1.out.keep hb)
  replace R1 := Lib.hid (R1.out.keep hb)
  replace HA2 := Lib.hid (HA2.out.keep hb)
  replace R2 := Lib.hid (R2.out.keep hb)
  clear hb p0 p1 p2 p3
  obtain ⟨p0, q0, ip, iq, hz, sg0, rt⟩ := HA0.out.getz 6 HQr0.out HQf0.out
  have HP0 := Lib.hid ip
  have HQ0 := Lib.hid iq
  have HZ_a := Lib.hid hz
  have HR_a := Lib.hid rt
  have HS_a := Lib.hid sg0
  clear ip iq hz rt sg0
  obtain ⟨p1, q1, ip, iq, hz, sg1, rt⟩ := HA1.out.getz 6 HQr1.out HQf1.out
  have HP1 := Lib.hid ip
  have HQ1 := Lib.hid iq
  have HZ_b := Lib.hid hz
  have HR_b := Lib.hid rt
  have HS_b := Lib.hid sg1
  clear ip iq hz rt sg1
  obtain ⟨p2, q2, ip, iq, hz, sg2, rt⟩ := HA2.out.getz 6 HQr2.out HQf2.out
  have HP2 := Lib.hid ip
  have HQ2 := Lib.hid iq
  have HZ_c := Lib.hid hz
  have HR_c := Lib.hid rt
  have HS_c := Lib.hid sg2
  clear ip iq hz rt sg2
  have HE := Lib.hid (Env.start (Fs.co (Fs.co (Fs.co (Fs.nil w.heap.size W7) R0.out HP0.out HQ0.out) R1.out HP1.out HQ1.out) R2.out HP2.out HQ2.out) HT0.out HM0.out HB.out (Nat.le_refl _) (by simp <;> omega))
  clear HB HT0 HM0 HA0 R0 HP0 HQ0 HQf0 HQr0 HA1 R1 HP1 HQ1 HQf1 HQr1 HA2 R2 HP2 HQ2 HQf2 HQr2
  have HZ_z0 : Hid (Fz 0 1 1 1) := Lib.hid ⟨by decide, by rw [(new_one 0).1]; unfold Sz; rw [pw_1]; omega, by rw [(new_one 0).2]; unfold Sz; rw [pw_1]; omega⟩
  have HZ_z1 : Hid (Fz 1 1 1 1) := Lib.hid ⟨by decide, by rw [(new_one 1).1]; unfold Sz; rw [pw_1]; omega, by rw [(new_one 1).2]; unfold Sz; rw [pw_1]; omega⟩
  have HZ_ab : Hid (Fz (p0 * q1 + p1 * q0) (q0 * q1) 13 12) := Lib.hid (HZ_a.out.add HZ_b.out (K := 12) (by omega) (by omega))
  have cf1 := (HE.out.fr (i := 2) rfl).cell 0
  have cf2 := (HE.out.fr (i := 2) rfl).cell 1
  have cf3 := (HE.out.fr (i := 2) rfl).cell 2
  have cf4 := (HE.out.fr (i := 2) rfl).cell 3
  have cf5 := (HE.out.fr (i := 1) rfl).cell 0
  have cf6 := (HE.out.fr (i := 1) rfl).cell 1
  have cf7 := (HE.out.fr (i := 1) rfl).cell 2
  have cf8 := (HE.out.fr (i := 1) rfl).cell 3
  go_wp2_with (fail)
  go_must (refine (fadd_z (K := 12) _ HE.out.size (HE.out.fp (i := 2) rfl) (HE.out.fq (i := 2) rfl) (HE.out.fp (i := 1) rfl) (HE.out.fq (i := 1) rfl) HZ_a.out HZ_b.out (by omega)).mono ?_)
  rintro e W8 ⟨s8, A8, n8, c8, t8, B8, m8, d8, rfl, hp8, hq8, hb⟩
  replace HE := Lib.hid (HE.out.keep hb)
  clear hb
  clear cf1 cf2 cf3 cf4 cf5 cf6 cf7 cf8
  have Hhp8 := Lib.hid hp8
  clear hp8
  have Hhq8 := Lib.hid hq8
  clear hq8
  go_wp2_with (fail)
  go_must (refine (lright_yes _ HE.out.size Hhp8.out Hhq8.out HZ_ab.out.rt).mono ?_)
  rintro e W9 ⟨rfl, hb, _, _⟩
  replace HE := Lib.hid (HE.out.keep hb)
  replace Hhp8 := Lib.hid (Hhp8.out.keep hb)
  replace Hhq8 := Lib.hid (Hhq8.out.keep hb)
  clear hb
  have HGE_ab : Hid (w.heap.size ≤ W9.heap.size) := Lib.hid HE.out.b.size
  replace HE := Lib.hid (HE.out.adF Hhp8.out Hhq8.out)
  clear Hhp8 Hhq8
  have HZ_ba : Hid (Fz (p1 * q0 + p0 * q1) (q1 * q0) 13 12) := Lib.hid (HZ_b.out.add HZ_a.out (K := 12) (by omega) (by omega))
  have cf9 := (HE.out.fr (i := 2) rfl).cell 0
  have cf10 := (HE.out.fr (i := 2) rfl).cell 1
  have cf11 := (HE.out.fr (i := 2) rfl).cell 2
  have cf12 := (HE.out.fr (i := 2) rfl).cell 3
  have cf13 := (HE.out.fr (i := 3) rfl).cell 0
  have cf14 := (HE.out.fr (i := 3) rfl).cell 1
  have cf15 := (HE.out.fr (i := 3) rfl).cell 2
  have cf16 := (HE.out.fr (i := 3) rfl).cell 3
  go_wp2_with (fail)
  go_must (refine (fadd_z (K := 12) _ HE.out.size (HE.out.fp (i := 2) rfl) (HE.out.fq (i := 2) rfl) (HE.out.fp (i := 3) rfl) (HE.out.fq (i := 3) rfl) HZ_b.out HZ_a.out (by omega)).mono ?_)
  rintro e W10 ⟨s10, A10, n10, c10, t10, B10, m10, d10, rfl, hp10, hq10, hb⟩
  replace HE := Lib.hid (HE.out.keep hb)
  clear hb
  clear cf9 cf10 cf11 cf12 cf13 cf14 cf15 cf16
  have Hhp10 := Lib.hid hp10
  clear hp10
  have Hhq10 := Lib.hid hq10
  clear hq10
  go_wp2_with (fail)
  go_must (refine (lright_yes _ HE.out.size Hhp10.out Hhq10.out HZ_ba.out.rt).mono ?_)
  rintro e W11 ⟨rfl, hb, _, _⟩
  replace HE := Lib.hid (HE.out.keep hb)
  replace Hhp10 := Lib.hid (Hhp10.out.keep hb)
  replace Hhq10 := Lib.hid (Hhq10.out.keep hb)
  clear hb
  have HGE_ba : Hid (w.heap.size ≤ W11.heap.size) := Lib.hid HE.out.b.size
  replace HE := Lib.hid (HE.out.adF Hhp10.out Hhq10.out)
  clear Hhp10 Hhq10
  have HZ_bc : Hid (Fz (p1 * q2 + p2 * q1) (q1 * q2) 13 12) := Lib.hid (HZ_b.out.add HZ_c.out (K := 12) (by omega) (by omega))
  have cf17 := (HE.out.fr (i := 3) rfl).cell 0
  have cf18 := (HE.out.fr (i := 3) rfl).cell 1
  have cf19 := (HE.out.fr (i := 3) rfl).cell 2
  have cf20 := (HE.out.fr (i := 3) rfl).cell 3
  have cf21 := (HE.out.fr (i := 2) rfl).cell 0
  have cf22 := (HE.out.fr (i := 2) rfl).cell 1
  have cf23 := (HE.out.fr (i := 2) rfl).cell 2
  have cf24 := (HE.out.fr (i := 2) rfl).cell 3
  go_wp2_with (fail)
  go_must (refine (fadd_z (K := 12) _ HE.out.size (HE.out.fp (i := 3) rfl) (HE.out.fq (i := 3) rfl) (HE.out.fp (i := 2) rfl) (HE.out.fq (i := 2) rfl) HZ_b.out HZ_c.out (by omega)).mono ?_)
  rintro e W12 ⟨s12, A12, n12, c12, t12, B12, m12, d12, rfl, hp12, hq12, hb⟩
  replace HE := Lib.hid (HE.out.keep hb)
  clear hb
  clear cf17 cf18 cf19 cf20 cf21 cf22 cf23 cf24
  have Hhp12 := Lib.hid hp12
  clear hp12
  have Hhq12 := Lib.hid hq12
  clear hq12
  go_wp2_with (fail)
  go_must (refine (lright_yes _ HE.out.size Hhp12.out Hhq12.out HZ_bc.out.rt).mono ?_)
  rintro e W13 ⟨rfl, hb, _, _⟩
  replace HE := Lib.hid (HE.out.keep hb)
  replace Hhp12 := Lib.hid (Hhp12.out.keep hb)
  replace Hhq12 := Lib.hid (Hhq12.out.keep hb)
  clear hb
  have HGE_bc : Hid (w.heap.size ≤ W13.heap.size) := Lib.hid HE.out.b.size
  replace HE := Lib.hid (HE.out.adF Hhp12.out Hhq12.out)
  clear Hhp12 Hhq12
  have HZ_x1 : Hid (Fz ((p0 * q1 + p1 * q0) * q2 + p2 * (q0 * q1)) ((q0 * q1) * q2) 20 18) := Lib.hid (HZ_ab.out.add HZ_c.out (K := 19) (by omega) (by omega))
  have cf25 := (HE.out.fr (i := 2) rfl).cell 0
  have cf26 := (HE.out.fr (i := 2) rfl).cell 1
  have cf27 := (HE.out.fr (i := 2) rfl).cell 2
  have cf28 := (HE.out.fr (i := 2) rfl).cell 3
  have cf29 := (HE.out.fr (i := 3) rfl).cell 0
  have cf30 := (HE.out.fr (i := 3) rfl).cell 1
  have cf31 := (HE.out.fr (i := 3) rfl).cell 2
  have cf32 := (HE.out.fr (i := 3) rfl).cell 3
  go_wp2_with (fail)
  go_must (refine (fadd_z (K := 19) _ HE.out.size (HE.out.fp (i := 2) rfl) (HE.out.fq (i := 2) rfl) (HE.out.fp (i := 3) rfl) (HE.out.fq (i := 3) rfl) HZ_ab.out HZ_c.out (by omega)).mono ?_)
  rintro e W14 ⟨s14, A14, n14, c14, t14, B14, m14, d14, rfl, hp14, hq14, hb⟩
  replace HE := Lib.hid (HE.out.keep hb)
  clear hb
  clear cf25 cf26 cf27 cf28 cf29 cf30 cf31 cf32
  have Hhp14 := Lib.hid hp14
  clear hp14
  have Hhq14 := Lib.hid hq14
  clear hq14
  go_wp2_with (fail)
  go_must (refine (lright_yes _ HE.out.size Hhp14.out Hhq14.out HZ_x1.out.rt).mono ?_)
  rintro e W15 ⟨rfl, hb, _, _⟩
  replace HE := Lib.hid (HE.out.keep hb)
  replace Hhp14 := Lib.hid (Hhp14.out.keep hb)
  replace Hhq14 := Lib.hid (Hhq14.out.keep hb)
  clear hb
  have HGE_x : Hid (w.heap.size ≤ W15.heap.size) := Lib.hid HE.out.b.size
  replace HE := Lib.hid (HE.out.adF Hhp14.out Hhq14.out)
  clear Hhp14 Hhq14
  have HZ_y1 : Hid (Fz (p0 * (q1 * q2) + (p1 * q2 + p2 * q1) * q0) (q0 * (q1 * q2)) 20 18) := Lib.hid (HZ_a.out.add HZ_bc.out (K := 19) (by omega) (by omega))
  have cf33 := (HE.out.fr (i := 6) rfl).cell 0
  have cf34 := (HE.out.fr (i := 6) rfl).cell 1
  have cf35 := (HE.out.fr (i := 6) rfl).cell 2
  have cf36 := (HE.out.fr (i := 6) rfl).cell 3
  have cf37 := (HE.out.fr (i := 1) rfl).cell 0
  have cf38 := (HE.out.fr (i := 1) rfl).cell 1
  have cf39 := (HE.out.fr (i := 1) rfl).cell 2
  have cf40 := (HE.out.fr (i := 1) rfl).cell 3
  go_wp2_with (fail)
  go_must (refine (fadd_z (K := 19) _ HE.out.size (HE.out.fp (i := 6) rfl) (HE.out.fq (i := 6) rfl) (HE.out.fp (i := 1) rfl) (HE.out.fq (i := 1) rfl) HZ_a.out HZ_bc.out (by omega)).mono ?_)
  rintro e W16 ⟨s16, A16, n16, c16, t16, B16, m16, d16, rfl, hp16, hq16, hb⟩
  replace HE := Lib.hid (HE.out.keep hb)
  clear hb
  clear cf33 cf34 cf35 cf36 cf37 cf38 cf39 cf40
  have Hhp16 := Lib.hid hp16
  clear hp16
  have Hhq16 := Lib.hid hq16
  clear hq16
  go_wp2_with (fail)
  go_must (refine (lright_yes _ HE.out.size Hhp16.out Hhq16.out HZ_y1.out.rt).mono ?_)
  rintro e W17 ⟨rfl, hb, _, _⟩
  replace HE := Lib.hid (HE.out.keep hb)
  replace Hhp16 := Lib.hid (Hhp16.out.keep hb)
  replace Hhq16 := Lib.hid (Hhq16.out.keep hb)
  clear hb
  have HGE_y : Hid (w.heap.size ≤ W17.heap.size) := Lib.hid HE.out.b.size
  replace HE := Lib.hid (HE.out.adF Hhp16.out Hhq16.out)
  clear Hhp16 Hhq16
  have cf41 := (HE.out.fr (i := 4) rfl).cell 0
  have cf42 := (HE.out.fr (i := 4) rfl).cell 1
  have cf43 := (HE.out.fr (i := 4) rfl).cell 2
  have cf44 := (HE.out.fr (i := 4) rfl).cell 3
  have cf45 := (HE.out.fr (i := 3) rfl).cell 0
  have cf46 := (HE.out.fr (i := 3) rfl).cell 1
  have cf47 := (HE.out.fr (i := 3) rfl).cell 2
  have cf48 := (HE.out.fr (i := 3) rfl).cell 3
  go_wp2_with (fail)
  go_must (refine (fsame_z _ (HE.out.fp (i := 4) rfl) (HE.out.fq (i := 4) rfl) (HE.out.fp (i := 3) rfl) (HE.out.fq (i := 3) rfl) HZ_ab.out.ne HZ_ba.out.ne (by grind)).mono ?_)
  rintro e W18 ⟨rfl, hb⟩
  replace HE := Lib.hid (HE.out.keep hb)
  clear hb
  clear cf41 cf42 cf43 cf44 cf45 cf46 cf47 cf48
  have cf49 := (HE.out.fr (i := 1) rfl).cell 0
  have cf50 := (HE.out.fr (i := 1) rfl).cell 1
  have cf51 := (HE.out.fr (i := 1) rfl).cell 2
  have cf52 := (HE.out.fr (i := 1) rfl).cell 3
  have cf53 := (HE.out.fr (i := 0) rfl).cell 0
  have cf54 := (HE.out.fr (i := 0) rfl).cell 1
  have cf55 := (HE.out.fr (i := 0) rfl).cell 2
  have cf56 := (HE.out.fr (i := 0) rfl).cell 3
  go_wp2_with (fail)
  go_must (refine (fsame_z _ (HE.out.fp (i := 1) rfl) (HE.out.fq (i := 1) rfl) (HE.out.fp (i := 0) rfl) (HE.out.fq (i := 0) rfl) HZ_x1.out.ne HZ_y1.out.ne (by grind)).mono ?_)
  rintro e W19 ⟨rfl, hb⟩
  replace HE := Lib.hid (HE.out.keep hb)
  clear hb
  clear cf49 cf50 cf51 cf52 cf53 cf54 cf55 cf56
  replace HE := Lib.hid (HE.out.sub (.cons_cons _ (.cons_cons _ (.cons _ (.cons _ (.cons_cons _ (.cons_cons _ (.cons_cons _ (.cons_cons _ .slnil)))))))) (.refl _))
  have HZ_m : Hid (Fz (p0 * p1) (q0 * q1) 12 12) := Lib.hid (HZ_a.out.mul HZ_b.out)
  have cf57 := (HE.out.fr (i := 5) rfl).cell 0
  have cf58 := (HE.out.fr (i := 5) rfl).cell 1
  have cf59 := (HE.out.fr (i := 5) rfl).cell 2
  have cf60 := (HE.out.fr (i := 5) rfl).cell 3
  have cf61 := (HE.out.fr (i := 4) rfl).cell 0
  have cf62 := (HE.out.fr (i := 4) rfl).cell 1
  have cf63 := (HE.out.fr (i := 4) rfl).cell 2
  have cf64 := (HE.out.fr (i := 4) rfl).cell 3
  go_wp2_with (fail)
  go_must (refine (fmul_z _ HE.out.size (HE.out.fp (i := 5) rfl) (HE.out.fq (i := 5) rfl) (HE.out.fp (i := 4) rfl) (HE.out.fq (i := 4) rfl) HZ_a.out HZ_b.out (by omega)).mono ?_)
  rintro e W20 ⟨s20, A20, n20, c20, t20, B20, m20, d20, rfl, hp20, hq20, hb⟩
  replace HE := Lib.hid (HE.out.keep hb)
  clear hb
  clear cf57 cf58 cf59 cf60 cf61 cf62 cf63 cf64
  have Hhp20 := Lib.hid hp20
  clear hp20
  have Hhq20 := Lib.hid hq20
  clear hq20
  go_wp2_with (fail)
  go_must (refine (lright_yes _ HE.out.size Hhp20.out Hhq20.out HZ_m.out.rt).mono ?_)
  rintro e W21 ⟨rfl, hb, _, _⟩
  replace HE := Lib.hid (HE.out.keep hb)
  replace Hhp20 := Lib.hid (Hhp20.out.keep hb)
  replace Hhq20 := Lib.hid (Hhq20.out.keep hb)
  clear hb
  have HGE_m : Hid (w.heap.size ≤ W21.heap.size) := Lib.hid HE.out.b.size
  replace HE := Lib.hid (HE.out.adF Hhp20.out Hhq20.out)
  clear Hhp20 Hhq20
  have HZ_n : Hid (Fz (p1 * p0) (q1 * q0) 12 12) := Lib.hid (HZ_b.out.mul HZ_a.out)
  have cf65 := (HE.out.fr (i := 5) rfl).cell 0
  have cf66 := (HE.out.fr (i := 5) rfl).cell 1
  have cf67 := (HE.out.fr (i := 5) rfl).cell 2
  have cf68 := (HE.out.fr (i := 5) rfl).cell 3
  have cf69 := (HE.out.fr (i := 6) rfl).cell 0
  have cf70 := (HE.out.fr (i := 6) rfl).cell 1
  have cf71 := (HE.out.fr (i := 6) rfl).cell 2
  have cf72 := (HE.out.fr (i := 6) rfl).cell 3
  go_wp2_with (fail)
  go_must (refine (fmul_z _ HE.out.size (HE.out.fp (i := 5) rfl) (HE.out.fq (i := 5) rfl) (HE.out.fp (i := 6) rfl) (HE.out.fq (i := 6) rfl) HZ_b.out HZ_a.out (by omega)).mono ?_)
  rintro e W22 ⟨s22, A22, n22, c22, t22, B22, m22, d22, rfl, hp22, hq22, hb⟩
  replace HE := Lib.hid (HE.out.keep hb)
  clear hb
  clear cf65 cf66 cf67 cf68 cf69 cf70 cf71 cf72
  have Hhp22 := Lib.hid hp22
  clear hp22
  have Hhq22 := Lib.hid hq22
  clear hq22
  go_wp2_with (fail)
  go_must (refine (lright_yes _ HE.out.size Hhp22.out Hhq22.out HZ_n.out.rt).mono ?_)
  rintro e W23 ⟨rfl, hb, _, _⟩
  replace HE := Lib.hid (HE.out.keep hb)
  replace Hhp22 := Lib.hid (Hhp22.out.keep hb)
  replace Hhq22 := Lib.hid (Hhq22.out.keep hb)
  clear hb
  have HGE_n : Hid (w.heap.size ≤ W23.heap.size) := Lib.hid HE.out.b.size
  replace HE := Lib.hid (HE.out.adF Hhp22.out Hhq22.out)
  clear Hhp22 Hhq22
  have HZ_p : Hid (Fz (p1 * p2) (q1 * q2) 12 12) := Lib.hid (HZ_b.out.mul HZ_c.out)
  have cf73 := (HE.out.fr (i := 6) rfl).cell 0
  have cf74 := (HE.out.fr (i := 6) rfl).cell 1
  have cf75 := (HE.out.fr (i := 6) rfl).cell 2
  have cf76 := (HE.out.fr (i := 6) rfl).cell 3
  have cf77 := (HE.out.fr (i := 5) rfl).cell 0
  have cf78 := (HE.out.fr (i := 5) rfl).cell 1
  have cf79 := (HE.out.fr (i := 5) rfl).cell 2
  have cf80 := (HE.out.fr (i := 5) rfl).cell 3
  go_wp2_with (fail)
  go_must (refine (fmul_z _ HE.out.size (HE.out.fp (i := 6) rfl) (HE.out.fq (i := 6) rfl) (HE.out.fp (i := 5) rfl) (HE.out.fq (i := 5) rfl) HZ_b.out HZ_c.out (by omega)).mono ?_)
  rintro e W24 ⟨s24, A24, n24, c24, t24, B24, m24, d24, rfl, hp24, hq24, hb⟩
  replace HE := Lib.hid (HE.out.keep hb)
  clear hb
  clear cf73 cf74 cf75 cf76 cf77 cf78 cf79 cf80
  have Hhp24 := Lib.hid hp24
  clear hp24
  have Hhq24 := Lib.hid hq24
  clear hq24
  go_wp2_with (fail)
  go_must (refine (lright_yes _ HE.out.size Hhp24.out Hhq24.out HZ_p.out.rt).mono ?_)
  rintro e W25 ⟨rfl, hb, _, _⟩
  replace HE := Lib.hid (HE.out.keep hb)
  replace Hhp24 := Lib.hid (Hhp24.out.keep hb)
  replace Hhq24 := Lib.hid (Hhq24.out.keep hb)
  clear hb
  have HGE_p : Hid (w.heap.size ≤ W25.heap.size) := Lib.hid HE.out.b.size
  replace HE := Lib.hid (HE.out.adF Hhp24.out Hhq24.out)
  clear Hhp24 Hhq24
  have HZ_x2 : Hid (Fz ((p0 * p1) * p2) ((q0 * q1) * q2) 18 18) := Lib.hid (HZ_m.out.mul HZ_c.out)
  have cf81 := (HE.out.fr (i := 2) rfl).cell 0
  have cf82 := (HE.out.fr (i := 2) rfl).cell 1
  have cf83 := (HE.out.fr (i := 2) rfl).cell 2
  have cf84 := (HE.out.fr (i := 2) rfl).cell 3
  have cf85 := (HE.out.fr (i := 6) rfl).cell 0
  have cf86 := (HE.out.fr (i := 6) rfl).cell 1
  have cf87 := (HE.out.fr (i := 6) rfl).cell 2
  have cf88 := (HE.out.fr (i := 6) rfl).cell 3
  go_wp2_with (fail)
  go_must (refine (fmul_z _ HE.out.size (HE.out.fp (i := 2) rfl) (HE.out.fq (i := 2) rfl) (HE.out.fp (i := 6) rfl) (HE.out.fq (i := 6) rfl) HZ_m.out HZ_c.out (by omega)).mono ?_)
  rintro e W26 ⟨s26, A26, n26, c26, t26, B26, m26, d26, rfl, hp26, hq26, hb⟩
  replace HE := Lib.hid (HE.out.keep hb)
  clear hb
  clear cf81 cf82 cf83 cf84 cf85 cf86 cf87 cf88
  have Hhp26 := Lib.hid hp26
  clear hp26
  have Hhq26 := Lib.hid hq26
  clear hq26
  go_wp2_with (fail)
  go_must (refine (lright_yes _ HE.out.size Hhp26.out Hhq26.out HZ_x2.out.rt).mono ?_)
  rintro e W27 ⟨rfl, hb, _, _⟩
  replace HE := Lib.hid (HE.out.keep hb)
  replace Hhp26 := Lib.hid (Hhp26.out.keep hb)
  replace Hhq26 := Lib.hid (Hhq26.out.keep hb)
  clear hb
  have HR := Lib.hid (HE.out.fr (i := 4) rfl)
  have gr0 := HR.out.frozen 0
  have gc0 := HR.out.cell 0
  have gr1 := HR.out.frozen 1
  have gc1 := HR.out.cell 1
  have gr2 := HR.out.frozen 2
  have gc2 := HR.out.cell 2
  have gr3 := HR.out.frozen 3
  have gc3 := HR.out.cell 3
  have hlt2 := HR.out.lt
  replace HE := Lib.hid (Env.ptF (L1 := [(W25.heap.size, frV s24 A24 n24 c24 t24 B24 m24 d24, (np (p1 * p2) (q1 * q2)), (nq (p1 * p2) (q1 * q2))), (W23.heap.size, frV s22 A22 n22 c22 t22 B22 m22 d22, (np (p1 * p0) (q1 * q0)), (nq (p1 * p0) (q1 * q0))), (W21.heap.size, frV s20 A20 n20 c20 t20 B20 m20 d20, (np (p0 * p1) (q0 * q1)), (nq (p0 * p1) (q0 * q1))), (W17.heap.size, frV s16 A16 n16 c16 t16 B16 m16 d16, (np (p0 * (q1 * q2) + (p1 * q2 + p2 * q1) * q0) (q0 * (q1 * q2))), (nq (p0 * (q1 * q2) + (p1 * q2 + p2 * q1) * q0) (q0 * (q1 * q2))))]) HE.out HGE_x.out HR.out Hhp26.out Hhq26.out)
  clear Hhp26 Hhq26
  simp only [List.nil_append, List.cons_append] at HE
  have HZ_y2 : Hid (Fz (p0 * (p1 * p2)) (q0 * (q1 * q2)) 18 18) := Lib.hid (HZ_a.out.mul HZ_p.out)
  have cf89 := (HE.out.fr (i := 8) rfl).cell 0
  have cf90 := (HE.out.fr (i := 8) rfl).cell 1
  have cf91 := (HE.out.fr (i := 8) rfl).cell 2
  have cf92 := (HE.out.fr (i := 8) rfl).cell 3
  have cf93 := (HE.out.fr (i := 1) rfl).cell 0
  have cf94 := (HE.out.fr (i := 1) rfl).cell 1
  have cf95 := (HE.out.fr (i := 1) rfl).cell 2
  have cf96 := (HE.out.fr (i := 1) rfl).cell 3
  go_wp2_with (fail)
  go_must (refine (fmul_z _ HE.out.size (HE.out.fp (i := 8) rfl) (HE.out.fq (i := 8) rfl) (HE.out.fp (i := 1) rfl) (HE.out.fq (i := 1) rfl) HZ_a.out HZ_p.out (by omega)).mono ?_)
  rintro e W28 ⟨s28, A28, n28, c28, t28, B28, m28, d28, rfl, hp28, hq28, hb⟩
  replace HE := Lib.hid (HE.out.keep hb)
  clear hb
  clear cf89 cf90 cf91 cf92 cf93 cf94 cf95 cf96
  have Hhp28 := Lib.hid hp28
  clear hp28
  have Hhq28 := Lib.hid hq28
  clear hq28
  clear HR gr0 gr1 gr2 gr3 gc0 gc1 gc2 gc3 hlt2
  go_wp2_with (fail)
  go_must (refine (lright_yes _ HE.out.size Hhp28.out Hhq28.out HZ_y2.out.rt).mono ?_)
  rintro e W29 ⟨rfl, hb, _, _⟩
  replace HE := Lib.hid (HE.out.keep hb)
  replace Hhp28 := Lib.hid (Hhp28.out.keep hb)
  replace Hhq28 := Lib.hid (Hhq28.out.keep hb)
  clear hb
  have HR := Lib.hid (HE.out.fr (i := 4) rfl)
  have gr0 := HR.out.frozen 0
  have gc0 := HR.out.cell 0
  have gr1 := HR.out.frozen 1
  have gc1 := HR.out.cell 1
  have gr2 := HR.out.frozen 2
  have gc2 := HR.out.cell 2
  have gr3 := HR.out.frozen 3
  have gc3 := HR.out.cell 3
  have hlt2 := HR.out.lt
  replace HE := Lib.hid (Env.ptF (L1 := [(W15.heap.size, frV s26 A26 n26 c26 t26 B26 m26 d26, (np ((p0 * p1) * p2) ((q0 * q1) * q2)), (nq ((p0 * p1) * p2) ((q0 * q1) * q2))), (W25.heap.size, frV s24 A24 n24 c24 t24 B24 m24 d24, (np (p1 * p2) (q1 * q2)), (nq (p1 * p2) (q1 * q2))), (W23.heap.size, frV s22 A22 n22 c22 t22 B22 m22 d22, (np (p1 * p0) (q1 * q0)), (nq (p1 * p0) (q1 * q0))), (W21.heap.size, frV s20 A20 n20 c20 t20 B20 m20 d20, (np (p0 * p1) (q0 * q1)), (nq (p0 * p1) (q0 * q1)))]) HE.out HGE_y.out HR.out Hhp28.out Hhq28.out)
  clear Hhp28 Hhq28
  simp only [List.nil_append, List.cons_append] at HE
  have cf97 := (HE.out.fr (i := 4) rfl).cell 0
  have cf98 := (HE.out.fr (i := 4) rfl).cell 1
  have cf99 := (HE.out.fr (i := 4) rfl).cell 2
  have cf100 := (HE.out.fr (i := 4) rfl).cell 3
  have cf101 := (HE.out.fr (i := 3) rfl).cell 0
  have cf102 := (HE.out.fr (i := 3) rfl).cell 1
  have cf103 := (HE.out.fr (i := 3) rfl).cell 2
  have cf104 := (HE.out.fr (i := 3) rfl).cell 3
  go_wp2_with (fail)
  go_must (refine (fsame_z _ (HE.out.fp (i := 4) rfl) (HE.out.fq (i := 4) rfl) (HE.out.fp (i := 3) rfl) (HE.out.fq (i := 3) rfl) HZ_m.out.ne HZ_n.out.ne (by grind)).mono ?_)
  rintro e W30 ⟨rfl, hb⟩
  replace HE := Lib.hid (HE.out.keep hb)
  clear hb
  clear cf97 cf98 cf99 cf100 cf101 cf102 cf103 cf104
  clear HR gr0 gr1 gr2 gr3 gc0 gc1 gc2 gc3 hlt2
  have cf105 := (HE.out.fr (i := 1) rfl).cell 0
  have cf106 := (HE.out.fr (i := 1) rfl).cell 1
  have cf107 := (HE.out.fr (i := 1) rfl).cell 2
  have cf108 := (HE.out.fr (i := 1) rfl).cell 3
  have cf109 := (HE.out.fr (i := 0) rfl).cell 0
  have cf110 := (HE.out.fr (i := 0) rfl).cell 1
  have cf111 := (HE.out.fr (i := 0) rfl).cell 2
  have cf112 := (HE.out.fr (i := 0) rfl).cell 3
  go_wp2_with (fail)
  go_must (refine (fsame_z _ (HE.out.fp (i := 1) rfl) (HE.out.fq (i := 1) rfl) (HE.out.fp (i := 0) rfl) (HE.out.fq (i := 0) rfl) HZ_x2.out.ne HZ_y2.out.ne (by grind)).mono ?_)
  rintro e W31 ⟨rfl, hb⟩
  replace HE := Lib.hid (HE.out.keep hb)
  clear hb
  clear cf105 cf106 cf107 cf108 cf109 cf110 cf111 cf112
  replace HE := Lib.hid (HE.out.sub (.cons_cons _ (.cons_cons _ (.cons_cons _ (.cons _ (.cons_cons _ (.cons_cons _ (.cons_cons _ (.cons_cons _ (.cons_cons _ .slnil))))))))) (.refl _))
  have HZ_ac : Hid (Fz (p0 * p2) (q0 * q2) 12 12) := Lib.hid (HZ_a.out.mul HZ_c.out)
  have cf113 := (HE.out.fr (i := 7) rfl).cell 0
  have cf114 := (HE.out.fr (i := 7) rfl).cell 1
  have cf115 := (HE.out.fr (i := 7) rfl).cell 2
  have cf116 := (HE.out.fr (i := 7) rfl).cell 3
  have cf117 := (HE.out.fr (i := 5) rfl).cell 0
  have cf118 := (HE.out.fr (i := 5) rfl).cell 1
  have cf119 := (HE.out.fr (i := 5) rfl).cell 2
  have cf120 := (HE.out.fr (i := 5) rfl).cell 3
  go_wp2_with (fail)
  go_must (refine (fmul_z _ HE.out.size (HE.out.fp (i := 7) rfl) (HE.out.fq (i := 7) rfl) (HE.out.fp (i := 5) rfl) (HE.out.fq (i := 5) rfl) HZ_a.out HZ_c.out (by omega)).mono ?_)
  rintro e W32 ⟨s32, A32, n32, c32, t32, B32, m32, d32, rfl, hp32, hq32, hb⟩
  replace HE := Lib.hid (HE.out.keep hb)
  clear hb
  clear cf113 cf114 cf115 cf116 cf117 cf118 cf119 cf120
  have Hhp32 := Lib.hid hp32
  clear hp32
  have Hhq32 := Lib.hid hq32
  clear hq32
  go_wp2_with (fail)
  go_must (refine (lright_yes _ HE.out.size Hhp32.out Hhq32.out HZ_ac.out.rt).mono ?_)
  rintro e W33 ⟨rfl, hb, _, _⟩
  replace HE := Lib.hid (HE.out.keep hb)
  replace Hhp32 := Lib.hid (Hhp32.out.keep hb)
  replace Hhq32 := Lib.hid (Hhq32.out.keep hb)
  clear hb
  have HGE_ac : Hid (w.heap.size ≤ W33.heap.size) := Lib.hid HE.out.b.size
  replace HE := Lib.hid (HE.out.adF Hhp32.out Hhq32.out)
  clear Hhp32 Hhq32
  have HZ_x3 : Hid (Fz ((p0 * q1 + p1 * q0) * p2) ((q0 * q1) * q2) 19 18) := Lib.hid (HZ_ab.out.mul HZ_c.out)
  have cf121 := (HE.out.fr (i := 5) rfl).cell 0
  have cf122 := (HE.out.fr (i := 5) rfl).cell 1
  have cf123 := (HE.out.fr (i := 5) rfl).cell 2
  have cf124 := (HE.out.fr (i := 5) rfl).cell 3
  have cf125 := (HE.out.fr (i := 6) rfl).cell 0
  have cf126 := (HE.out.fr (i := 6) rfl).cell 1
  have cf127 := (HE.out.fr (i := 6) rfl).cell 2
  have cf128 := (HE.out.fr (i := 6) rfl).cell 3
  go_wp2_with (fail)
  go_must (refine (fmul_z _ HE.out.size (HE.out.fp (i := 5) rfl) (HE.out.fq (i := 5) rfl) (HE.out.fp (i := 6) rfl) (HE.out.fq (i := 6) rfl) HZ_ab.out HZ_c.out (by omega)).mono ?_)
  rintro e W34 ⟨s34, A34, n34, c34, t34, B34, m34, d34, rfl, hp34, hq34, hb⟩
  replace HE := Lib.hid (HE.out.keep hb)
  clear hb
  clear cf121 cf122 cf123 cf124 cf125 cf126 cf127 cf128
  have Hhp34 := Lib.hid hp34
  clear hp34
  have Hhq34 := Lib.hid hq34
  clear hq34
  go_wp2_with (fail)
  go_must (refine (lright_yes _ HE.out.size Hhp34.out Hhq34.out HZ_x3.out.rt).mono ?_)
  rintro e W35 ⟨rfl, hb, _, _⟩
  replace HE := Lib.hid (HE.out.keep hb)
  replace Hhp34 := Lib.hid (Hhp34.out.keep hb)
  replace Hhq34 := Lib.hid (Hhq34.out.keep hb)
  clear hb
  have HR := Lib.hid (HE.out.fr (i := 2) rfl)
  have gr0 := HR.out.frozen 0
  have gc0 := HR.out.cell 0
  have gr1 := HR.out.frozen 1
  have gc1 := HR.out.cell 1
  have gr2 := HR.out.frozen 2
  have gc2 := HR.out.cell 2
  have gr3 := HR.out.frozen 3
  have gc3 := HR.out.cell 3
  have hlt2 := HR.out.lt
  replace HE := Lib.hid (Env.ptF (L1 := [(W33.heap.size, frV s32 A32 n32 c32 t32 B32 m32 d32, (np (p0 * p2) (q0 * q2)), (nq (p0 * p2) (q0 * q2))), (W17.heap.size, frV s28 A28 n28 c28 t28 B28 m28 d28, (np (p0 * (p1 * p2)) (q0 * (q1 * q2))), (nq (p0 * (p1 * p2)) (q0 * (q1 * q2))))]) HE.out HGE_x.out HR.out Hhp34.out Hhq34.out)
  clear Hhp34 Hhq34
  simp only [List.nil_append, List.cons_append] at HE
  have HZ_y3 : Hid (Fz ((p0 * p2) * (q1 * q2) + (p1 * p2) * (q0 * q2)) ((q0 * q2) * (q1 * q2)) 25 24) := Lib.hid (HZ_ac.out.add HZ_p.out (K := 24) (by omega) (by omega))
  have cf129 := (HE.out.fr (i := 1) rfl).cell 0
  have cf130 := (HE.out.fr (i := 1) rfl).cell 1
  have cf131 := (HE.out.fr (i := 1) rfl).cell 2
  have cf132 := (HE.out.fr (i := 1) rfl).cell 3
  have cf133 := (HE.out.fr (i := 3) rfl).cell 0
  have cf134 := (HE.out.fr (i := 3) rfl).cell 1
  have cf135 := (HE.out.fr (i := 3) rfl).cell 2
  have cf136 := (HE.out.fr (i := 3) rfl).cell 3
  go_wp2_with (fail)
  go_must (refine (fadd_z (K := 24) _ HE.out.size (HE.out.fp (i := 1) rfl) (HE.out.fq (i := 1) rfl) (HE.out.fp (i := 3) rfl) (HE.out.fq (i := 3) rfl) HZ_ac.out HZ_p.out (by omega)).mono ?_)
  rintro e W36 ⟨s36, A36, n36, c36, t36, B36, m36, d36, rfl, hp36, hq36, hb⟩
  replace HE := Lib.hid (HE.out.keep hb)
  clear hb
  clear cf129 cf130 cf131 cf132 cf133 cf134 cf135 cf136
  have Hhp36 := Lib.hid hp36
  clear hp36
  have Hhq36 := Lib.hid hq36
  clear hq36
  clear HR gr0 gr1 gr2 gr3 gc0 gc1 gc2 gc3 hlt2
  go_wp2_with (fail)
  go_must (refine (lright_yes _ HE.out.size Hhp36.out Hhq36.out HZ_y3.out.rt).mono ?_)
  rintro e W37 ⟨rfl, hb, _, _⟩
  replace HE := Lib.hid (HE.out.keep hb)
  replace Hhp36 := Lib.hid (Hhp36.out.keep hb)
  replace Hhq36 := Lib.hid (Hhq36.out.keep hb)
  clear hb
  have HR := Lib.hid (HE.out.fr (i := 2) rfl)
  have gr0 := HR.out.frozen 0
  have gc0 := HR.out.cell 0
  have gr1 := HR.out.frozen 1
  have gc1 := HR.out.cell 1
  have gr2 := HR.out.frozen 2
  have gc2 := HR.out.cell 2
  have gr3 := HR.out.frozen 3
  have gc3 := HR.out.cell 3
  have hlt2 := HR.out.lt
  replace HE := Lib.hid (Env.ptF (L1 := [(W15.heap.size, frV s34 A34 n34 c34 t34 B34 m34 d34, (np ((p0 * q1 + p1 * q0) * p2) ((q0 * q1) * q2)), (nq ((p0 * q1 + p1 * q0) * p2) ((q0 * q1) * q2))), (W33.heap.size, frV s32 A32 n32 c32 t32 B32 m32 d32, (np (p0 * p2) (q0 * q2)), (nq (p0 * p2) (q0 * q2)))]) HE.out HGE_y.out HR.out Hhp36.out Hhq36.out)
  clear Hhp36 Hhq36
  simp only [List.nil_append, List.cons_append] at HE
  have HZ_zz : Hid (Fz (p0 * (1 : Int) + (0 : Int) * q0) (q0 * (1 : Int)) 8 7) := Lib.hid (HZ_a.out.add HZ_z0.out (K := 7) (by omega) (by omega))
  go_wp2_with (fail)
  unfold set4 at HE
  generalize (((W37.setCell ⟨W17.heap.size, 0, none⟩ (.int .i64 s36)).setCell ⟨W17.heap.size, 1, none⟩ (.slice A36 n36 c36)).setCell ⟨W17.heap.size, 2, none⟩ (.int .i64 t36)).setCell ⟨W17.heap.size, 3, none⟩ (.slice B36 m36 d36) = W38 at HE  ⊢
  have HXp := Lib.hid (HE.out.fp (i := 8) rfl)
  have HXq := Lib.hid (HE.out.fq (i := 8) rfl)
  have HP_a := Lib.hid (HE.out.fr (i := 8) rfl).lt
  have HS0 : Hid (Below W38.heap.size W38 W38 ∧ W38.cell? ⟨w.heap.size, 0, none⟩ = some (.int .i64 s0) ∧ W38.cell? ⟨w.heap.size, 1, none⟩ = some (.slice A0 n0 c0) ∧ W38.cell? ⟨w.heap.size, 2, none⟩ = some (.int .i64 t0) ∧ W38.cell? ⟨w.heap.size, 3, none⟩ = some (.slice B0 m0 d0)) := Lib.hid ⟨Below.refl _ _, (HE.out.fr (i := 8) rfl).cell 0, (HE.out.fr (i := 8) rfl).cell 1, (HE.out.fr (i := 8) rfl).cell 2, (HE.out.fr (i := 8) rfl).cell 3⟩
  have cf137 := (HE.out.fr (i := 8) rfl).cell 0
  have cf138 := (HE.out.fr (i := 8) rfl).cell 1
  have cf139 := (HE.out.fr (i := 8) rfl).cell 2
  have cf140 := (HE.out.fr (i := 8) rfl).cell 3
  go_cut [22, 15] (fun c d wx => ∃ vg vs vA vn vc vt vB vm vd, c = .pointer (some ⟨vg, 0, none⟩) ∧ d = .bool true ∧ Hid (Env w.heap.size w wx ((vg, frV vs vA vn vc vt vB vm vd, (np (p0 * (1 : Int) + (0 : Int) * q0) (q0 * (1 : Int))), (nq (p0 * (1 : Int) + (0 : Int) * q0) (q0 * (1 : Int)))) :: [(W17.heap.size, frV s36 A36 n36 c36 t36 B36 m36 d36, (np ((p0 * p2) * (q1 * q2) + (p1 * p2) * (q0 * q2)) ((q0 * q2) * (q1 * q2))), (nq ((p0 * p2) * (q1 * q2) + (p1 * p2) * (q0 * q2)) ((q0 * q2) * (q1 * q2)))), (W15.heap.size, frV s34 A34 n34 c34 t34 B34 m34 d34, (np ((p0 * q1 + p1 * q0) * p2) ((q0 * q1) * q2)), (nq ((p0 * q1 + p1 * q0) * p2) ((q0 * q1) * q2))), (W33.heap.size, frV s32 A32 n32 c32 t32 B32 m32 d32, (np (p0 * p2) (q0 * q2)), (nq (p0 * p2) (q0 * q2))), (W25.heap.size, frV s24 A24 n24 c24 t24 B24 m24 d24, (np (p1 * p2) (q1 * q2)), (nq (p1 * p2) (q1 * q2))), (W21.heap.size, frV s20 A20 n20 c20 t20 B20 m20 d20, (np (p0 * p1) (q0 * q1)), (nq (p0 * p1) (q0 * q1))), (W9.heap.size, frV s8 A8 n8 c8 t8 B8 m8 d8, (np (p0 * q1 + p1 * q0) (q0 * q1)), (nq (p0 * q1 + p1 * q0) (q0 * q1))), ((w.heap.size + 1 + 1), frV s2 A2 n2 c2 t2 B2 m2 d2, (np p2 q2), (nq p2 q2)), ((w.heap.size + 1), frV s1 A1 n1 c1 t1 B1 m1 d1, (np p1 q1), (nq p1 q1)), (w.heap.size, frV s0 A0 n0 c0 t0 B0 m0 d0, (np p0 q0), (nq p0 q0))]) []))
  case first =>
    go_region_held3 (fun W' : World => Below W38.heap.size W38 W' ∧ W'.cell? ⟨w.heap.size, 0, none⟩ = some (.int .i64 s0) ∧ W'.cell? ⟨w.heap.size, 1, none⟩ = some (.slice A0 n0 c0) ∧ W'.cell? ⟨w.heap.size, 2, none⟩ = some (.int .i64 t0) ∧ W'.cell? ⟨w.heap.size, 3, none⟩ = some (.slice B0 m0 d0))
      (first | with_reducible exact hS3 | with_reducible exact hS2 | with_reducible exact hS1 | with_reducible exact ⟨below_set4 (And.left (by assumption)) (by first | exact Nat.le_refl _ | exact hS3.1.size | exact hS2.1.size | exact hS1.1.size) _ _ _ _, keep_set4 (And.left (And.right (by assumption))) HP_a.out (by first | exact Nat.le_refl _ | exact hS3.1.size | exact hS2.1.size | exact hS1.1.size), keep_set4 (And.left (And.right (And.right (by assumption)))) HP_a.out (by first | exact Nat.le_refl _ | exact hS3.1.size | exact hS2.1.size | exact hS1.1.size), keep_set4 (And.left (And.right (And.right (And.right (by assumption))))) HP_a.out (by first | exact Nat.le_refl _ | exact hS3.1.size | exact hS2.1.size | exact hS1.1.size), keep_set4 (And.right (And.right (And.right (And.right (by assumption))))) HP_a.out (by first | exact Nat.le_refl _ | exact hS3.1.size | exact hS2.1.size | exact hS1.1.size)⟩ | exact ⟨HS0.out.1.drew, HS0.out.2⟩ | exact ⟨Gen.b_alloc (And.left (by assumption)), Gen.al (And.left (And.right (by assumption))), Gen.al (And.left (And.right (And.right (by assumption)))), Gen.al (And.left (And.right (And.right (And.right (by assumption))))), Gen.al (And.right (And.right (And.right (And.right (by assumption)))))⟩ | fail "keep")
      (first
        | (go_at_call 64; (with_reducible refine (lof_as 0 1 (np 0 1) (nq 0 1) _ (Nat.le_trans HE.out.size (Below.size (And.left (by assumption)))) (i64_small (by omega)) (i64_small (by omega)) (by decide) rfl rfl).mono ?_); rintro e' w' ⟨so, Ao, no, co, tt, Bo, mo, dd, rfl, ho, ho2, hb⟩; have hS1 := (show (Below W38.heap.size W38 w' ∧ w'.cell? ⟨w.heap.size, 0, none⟩ = some (.int .i64 s0) ∧ w'.cell? ⟨w.heap.size, 1, none⟩ = some (.slice A0 n0 c0) ∧ w'.cell? ⟨w.heap.size, 2, none⟩ = some (.int .i64 t0) ∧ w'.cell? ⟨w.heap.size, 3, none⟩ = some (.slice B0 m0 d0)) from ⟨Gen.over hb (And.left (by assumption)), Gen.keep hb (And.left (And.right (by assumption))), Gen.keep hb (And.left (And.right (And.right (by assumption)))), Gen.keep hb (And.left (And.right (And.right (And.right (by assumption))))), Gen.keep hb (And.right (And.right (And.right (And.right (by assumption)))))⟩); (first | have hRw := Row.keep hRw hb | have hRw := (Row.new _ _ _).keep hb | have hRw := (rowd _ _ _).keep hb | skip))
        | (go_at_call 39; (with_reducible refine (fadd_z (K := 7) _ (Nat.le_trans HE.out.size (Below.size (And.left (by assumption)))) (HXp.out.keep (And.left (by assumption))) (HXq.out.keep (And.left (by assumption))) (by first | exact ho | exact ho.drw | exact ho.keep (Gen.b_alloc (Below.refl _ _)) | exact (ho.keep (Gen.b_alloc (Below.refl _ _))).drw) (by first | exact ho2 | exact ho2.drw | exact ho2.keep (Gen.b_alloc (Below.refl _ _)) | exact (ho2.keep (Gen.b_alloc (Below.refl _ _))).drw) HZ_a.out HZ_z0.out (by omega)).mono ?_); rintro e' w' ⟨sr, Ar, nr, cr, tr, Br, mr, dr, rfl, hr, hq, hb⟩; have hS2 := (show (Below W38.heap.size W38 w' ∧ w'.cell? ⟨w.heap.size, 0, none⟩ = some (.int .i64 s0) ∧ w'.cell? ⟨w.heap.size, 1, none⟩ = some (.slice A0 n0 c0) ∧ w'.cell? ⟨w.heap.size, 2, none⟩ = some (.int .i64 t0) ∧ w'.cell? ⟨w.heap.size, 3, none⟩ = some (.slice B0 m0 d0)) from ⟨Gen.over hb (And.left (by assumption)), Gen.keep hb (And.left (And.right (by assumption))), Gen.keep hb (And.left (And.right (And.right (by assumption)))), Gen.keep hb (And.left (And.right (And.right (And.right (by assumption))))), Gen.keep hb (And.right (And.right (And.right (And.right (by assumption)))))⟩); (first | have ho := IsBig.keep ho hb | have ho := IsBig.keep (IsBig.drw ho) hb | have ho := IsBig.keep (IsBig.keep ho (Gen.b_alloc (Below.refl _ _))) hb | skip); (first | have ho2 := IsBig.keep ho2 hb | have ho2 := IsBig.keep (IsBig.drw ho2) hb | have ho2 := IsBig.keep (IsBig.keep ho2 (Gen.b_alloc (Below.refl _ _))) hb | skip); (first | have hRw := Row.keep hRw hb | have hRw := (Row.new _ _ _).keep hb | have hRw := (rowd _ _ _).keep hb | skip))
        | (go_at_call 63; (with_reducible refine (lright_yes _ (Nat.le_trans HE.out.size (Below.size (And.left (by assumption)))) (by first | exact hr | exact hr.drw | exact hr.keep (Gen.b_alloc (Below.refl _ _)) | exact (hr.keep (Gen.b_alloc (Below.refl _ _))).drw) (by first | exact hq | exact hq.drw | exact hq.keep (Gen.b_alloc (Below.refl _ _)) | exact (hq.keep (Gen.b_alloc (Below.refl _ _))).drw) HZ_zz.out.rt).mono ?_); rintro e' w' ⟨rfl, hb, _, _⟩; have hS3 := (show (Below W38.heap.size W38 w' ∧ w'.cell? ⟨w.heap.size, 0, none⟩ = some (.int .i64 s0) ∧ w'.cell? ⟨w.heap.size, 1, none⟩ = some (.slice A0 n0 c0) ∧ w'.cell? ⟨w.heap.size, 2, none⟩ = some (.int .i64 t0) ∧ w'.cell? ⟨w.heap.size, 3, none⟩ = some (.slice B0 m0 d0)) from ⟨Gen.over hb (And.left (by assumption)), Gen.keep hb (And.left (And.right (by assumption))), Gen.keep hb (And.left (And.right (And.right (by assumption)))), Gen.keep hb (And.left (And.right (And.right (And.right (by assumption))))), Gen.keep hb (And.right (And.right (And.right (And.right (by assumption)))))⟩); (first | have ho := IsBig.keep ho hb | have ho := IsBig.keep (IsBig.drw ho) hb | have ho := IsBig.keep (IsBig.keep ho (Gen.b_alloc (Below.refl _ _))) hb | skip); (first | have ho2 := IsBig.keep ho2 hb | have ho2 := IsBig.keep (IsBig.drw ho2) hb | have ho2 := IsBig.keep (IsBig.keep ho2 (Gen.b_alloc (Below.refl _ _))) hb | skip); (first | have hr := IsBig.keep hr hb | have hr := IsBig.keep (IsBig.drw hr) hb | have hr := IsBig.keep (IsBig.keep hr (Gen.b_alloc (Below.refl _ _))) hb | skip); (first | have hq := IsBig.keep hq hb | have hq := IsBig.keep (IsBig.drw hq) hb | have hq := IsBig.keep (IsBig.keep hq (Gen.b_alloc (Below.refl _ _))) hb | skip); (first | have hRw := Row.keep hRw hb | have hRw := (Row.new _ _ _).keep hb | have hRw := (rowd _ _ _).keep hb | skip); (try have fz0 := hRw.frozen 0); (try have cz0 := hRw.cell 0); (try have fz1 := hRw.frozen 1); (try have cz1 := hRw.cell 1); (try have fz2 := hRw.frozen 2); (try have cz2 := hRw.cell 2); (try have fz3 := hRw.frozen 3); (try have cz3 := hRw.cell 3); (try have hRl := hRw.lt))
        | fail "arm")
    all_goals
      go_wp2
      go_meet
      exact ⟨_, _, _, _, _, _, _, _, _, rfl, rfl, Lib.hid (by first | exact Env.adF (HE.out.keep hS3.1) hr hq | exact Env.rgF HE.out hS3.1 (by first | exact Nat.le_refl _ | exact hS3.1.size | exact hS2.1.size | exact hS1.1.size) hRw hr hq)⟩
  clear cf137 cf138 cf139 cf140
  clear HS0 HP_a
  obtain ⟨gzz, szz, Azz, nzz, czz, tzz, Bzz, mzz, dzz, rfl, rfl, HEn⟩ := hcut
  replace HE := HEn
  clear HEn
  rename World => W39
  clear HXp HXq
  clear HR gr0 gr1 gr2 gr3 gc0 gc1 gc2 gc3 hlt2
  have HZ_ww : Hid (Fz (p0 * (1 : Int)) (q0 * (1 : Int)) 7 7) := Lib.hid (HZ_a.out.mul HZ_z1.out)
  go_wp2_with (fail)
  have HXp := Lib.hid (HE.out.fp (i := 9) rfl)
  have HXq := Lib.hid (HE.out.fq (i := 9) rfl)
  have HP_a := Lib.hid (HE.out.fr (i := 9) rfl).lt
  have HS0 : Hid (Below W39.heap.size W39 W39 ∧ W39.cell? ⟨w.heap.size, 0, none⟩ = some (.int .i64 s0) ∧ W39.cell? ⟨w.heap.size, 1, none⟩ = some (.slice A0 n0 c0) ∧ W39.cell? ⟨w.heap.size, 2, none⟩ = some (.int .i64 t0) ∧ W39.cell? ⟨w.heap.size, 3, none⟩ = some (.slice B0 m0 d0)) := Lib.hid ⟨Below.refl _ _, (HE.out.fr (i := 9) rfl).cell 0, (HE.out.fr (i := 9) rfl).cell 1, (HE.out.fr (i := 9) rfl).cell 2, (HE.out.fr (i := 9) rfl).cell 3⟩
  have cf141 := (HE.out.fr (i := 9) rfl).cell 0
  have cf142 := (HE.out.fr (i := 9) rfl).cell 1
  have cf143 := (HE.out.fr (i := 9) rfl).cell 2
  have cf144 := (HE.out.fr (i := 9) rfl).cell 3
  go_cut [23, 17] (fun c d wx => ∃ vg vs vA vn vc vt vB vm vd, c = .pointer (some ⟨vg, 0, none⟩) ∧ d = .bool true ∧ Hid (Env w.heap.size w wx ((vg, frV vs vA vn vc vt vB vm vd, (np (p0 * (1 : Int)) (q0 * (1 : Int))), (nq (p0 * (1 : Int)) (q0 * (1 : Int)))) :: [(gzz, frV szz Azz nzz czz tzz Bzz mzz dzz, (np (p0 * (1 : Int) + (0 : Int) * q0) (q0 * (1 : Int))), (nq (p0 * (1 : Int) + (0 : Int) * q0) (q0 * (1 : Int)))), (W17.heap.size, frV s36 A36 n36 c36 t36 B36 m36 d36, (np ((p0 * p2) * (q1 * q2) + (p1 * p2) * (q0 * q2)) ((q0 * q2) * (q1 * q2))), (nq ((p0 * p2) * (q1 * q2) + (p1 * p2) * (q0 * q2)) ((q0 * q2) * (q1 * q2)))), (W15.heap.size, frV s34 A34 n34 c34 t34 B34 m34 d34, (np ((p0 * q1 + p1 * q0) * p2) ((q0 * q1) * q2)), (nq ((p0 * q1 + p1 * q0) * p2) ((q0 * q1) * q2))), (W33.heap.size, frV s32 A32 n32 c32 t32 B32 m32 d32, (np (p0 * p2) (q0 * q2)), (nq (p0 * p2) (q0 * q2))), (W25.heap.size, frV s24 A24 n24 c24 t24 B24 m24 d24, (np (p1 * p2) (q1 * q2)), (nq (p1 * p2) (q1 * q2))), (W21.heap.size, frV s20 A20 n20 c20 t20 B20 m20 d20, (np (p0 * p1) (q0 * q1)), (nq (p0 * p1) (q0 * q1))), (W9.heap.size, frV s8 A8 n8 c8 t8 B8 m8 d8, (np (p0 * q1 + p1 * q0) (q0 * q1)), (nq (p0 * q1 + p1 * q0) (q0 * q1))), ((w.heap.size + 1 + 1), frV s2 A2 n2 c2 t2 B2 m2 d2, (np p2 q2), (nq p2 q2)), ((w.heap.size + 1), frV s1 A1 n1 c1 t1 B1 m1 d1, (np p1 q1), (nq p1 q1)), (w.heap.size, frV s0 A0 n0 c0 t0 B0 m0 d0, (np p0 q0), (nq p0 q0))]) []))
  case first =>
    go_region_held3 (fun W' : World => Below W39.heap.size W39 W' ∧ W'.cell? ⟨w.heap.size, 0, none⟩ = some (.int .i64 s0) ∧ W'.cell? ⟨w.heap.size, 1, none⟩ = some (.slice A0 n0 c0) ∧ W'.cell? ⟨w.heap.size, 2, none⟩ = some (.int .i64 t0) ∧ W'.cell? ⟨w.heap.size, 3, none⟩ = some (.slice B0 m0 d0))
      (first | with_reducible exact hS3 | with_reducible exact hS2 | with_reducible exact hS1 | with_reducible exact ⟨below_set4 (And.left (by assumption)) (by first | exact Nat.le_refl _ | exact hS3.1.size | exact hS2.1.size | exact hS1.1.size) _ _ _ _, keep_set4 (And.left (And.right (by assumption))) HP_a.out (by first | exact Nat.le_refl _ | exact hS3.1.size | exact hS2.1.size | exact hS1.1.size), keep_set4 (And.left (And.right (And.right (by assumption)))) HP_a.out (by first | exact Nat.le_refl _ | exact hS3.1.size | exact hS2.1.size | exact hS1.1.size), keep_set4 (And.left (And.right (And.right (And.right (by assumption))))) HP_a.out (by first | exact Nat.le_refl _ | exact hS3.1.size | exact hS2.1.size | exact hS1.1.size), keep_set4 (And.right (And.right (And.right (And.right (by assumption))))) HP_a.out (by first | exact Nat.le_refl _ | exact hS3.1.size | exact hS2.1.size | exact hS1.1.size)⟩ | exact ⟨HS0.out.1.drew, HS0.out.2⟩ | exact ⟨Gen.b_alloc (And.left (by assumption)), Gen.al (And.left (And.right (by assumption))), Gen.al (And.left (And.right (And.right (by assumption)))), Gen.al (And.left (And.right (And.right (And.right (by assumption))))), Gen.al (And.right (And.right (And.right (And.right (by assumption)))))⟩ | fail "keep")
      (first
        | (go_at_call 64; (with_reducible refine (lof_as 1 1 (np 1 1) (nq 1 1) _ (Nat.le_trans HE.out.size (Below.size (And.left (by assumption)))) (i64_small (by omega)) (i64_small (by omega)) (by decide) rfl rfl).mono ?_); rintro e' w' ⟨so, Ao, no, co, tt, Bo, mo, dd, rfl, ho, ho2, hb⟩; have hS1 := (show (Below W39.heap.size W39 w' ∧ w'.cell? ⟨w.heap.size, 0, none⟩ = some (.int .i64 s0) ∧ w'.cell? ⟨w.heap.size, 1, none⟩ = some (.slice A0 n0 c0) ∧ w'.cell? ⟨w.heap.size, 2, none⟩ = some (.int .i64 t0) ∧ w'.cell? ⟨w.heap.size, 3, none⟩ = some (.slice B0 m0 d0)) from ⟨Gen.over hb (And.left (by assumption)), Gen.keep hb (And.left (And.right (by assumption))), Gen.keep hb (And.left (And.right (And.right (by assumption)))), Gen.keep hb (And.left (And.right (And.right (And.right (by assumption))))), Gen.keep hb (And.right (And.right (And.right (And.right (by assumption)))))⟩); (first | have hRw := Row.keep hRw hb | have hRw := (Row.new _ _ _).keep hb | have hRw := (rowd _ _ _).keep hb | skip))
        | (go_at_call 44; (with_reducible refine (fmul_z _ (Nat.le_trans HE.out.size (Below.size (And.left (by assumption)))) (HXp.out.keep (And.left (by assumption))) (HXq.out.keep (And.left (by assumption))) (by first | exact ho | exact ho.drw | exact ho.keep (Gen.b_alloc (Below.refl _ _)) | exact (ho.keep (Gen.b_alloc (Below.refl _ _))).drw) (by first | exact ho2 | exact ho2.drw | exact ho2.keep (Gen.b_alloc (Below.refl _ _)) | exact (ho2.keep (Gen.b_alloc (Below.refl _ _))).drw) HZ_a.out HZ_z1.out (by omega)).mono ?_); rintro e' w' ⟨sr, Ar, nr, cr, tr, Br, mr, dr, rfl, hr, hq, hb⟩; have hS2 := (show (Below W39.heap.size W39 w' ∧ w'.cell? ⟨w.heap.size, 0, none⟩ = some (.int .i64 s0) ∧ w'.cell? ⟨w.heap.size, 1, none⟩ = some (.slice A0 n0 c0) ∧ w'.cell? ⟨w.heap.size, 2, none⟩ = some (.int .i64 t0) ∧ w'.cell? ⟨w.heap.size, 3, none⟩ = some (.slice B0 m0 d0)) from ⟨Gen.over hb (And.left (by assumption)), Gen.keep hb (And.left (And.right (by assumption))), Gen.keep hb (And.left (And.right (And.right (by assumption)))), Gen.keep hb (And.left (And.right (And.right (And.right (by assumption))))), Gen.keep hb (And.right (And.right (And.right (And.right (by assumption)))))⟩); (first | have ho := IsBig.keep ho hb | have ho := IsBig.keep (IsBig.drw ho) hb | have ho := IsBig.keep (IsBig.keep ho (Gen.b_alloc (Below.refl _ _))) hb | skip); (first | have ho2 := IsBig.keep ho2 hb | have ho2 := IsBig.keep (IsBig.drw ho2) hb | have ho2 := IsBig.keep (IsBig.keep ho2 (Gen.b_alloc (Below.refl _ _))) hb | skip); (first | have hRw := Row.keep hRw hb | have hRw := (Row.new _ _ _).keep hb | have hRw := (rowd _ _ _).keep hb | skip))
        | (go_at_call 63; (with_reducible refine (lright_yes _ (Nat.le_trans HE.out.size (Below.size (And.left (by assumption)))) (by first | exact hr | exact hr.drw | exact hr.keep (Gen.b_alloc (Below.refl _ _)) | exact (hr.keep (Gen.b_alloc (Below.refl _ _))).drw) (by first | exact hq | exact hq.drw | exact hq.keep (Gen.b_alloc (Below.refl _ _)) | exact (hq.keep (Gen.b_alloc (Below.refl _ _))).drw) HZ_ww.out.rt).mono ?_); rintro e' w' ⟨rfl, hb, _, _⟩; have hS3 := (show (Below W39.heap.size W39 w' ∧ w'.cell? ⟨w.heap.size, 0, none⟩ = some (.int .i64 s0) ∧ w'.cell? ⟨w.heap.size, 1, none⟩ = some (.slice A0 n0 c0) ∧ w'.cell? ⟨w.heap.size, 2, none⟩ = some (.int .i64 t0) ∧ w'.cell? ⟨w.heap.size, 3, none⟩ = some (.slice B0 m0 d0)) from ⟨Gen.over hb (And.left (by assumption)), Gen.keep hb (And.left (And.right (by assumption))), Gen.keep hb (And.left (And.right (And.right (by assumption)))), Gen.keep hb (And.left (And.right (And.right (And.right (by assumption))))), Gen.keep hb (And.right (And.right (And.right (And.right (by assumption)))))⟩); (first | have ho := IsBig.keep ho hb | have ho := IsBig.keep (IsBig.drw ho) hb | have ho := IsBig.keep (IsBig.keep ho (Gen.b_alloc (Below.refl _ _))) hb | skip); (first | have ho2 := IsBig.keep ho2 hb | have ho2 := IsBig.keep (IsBig.drw ho2) hb | have ho2 := IsBig.keep (IsBig.keep ho2 (Gen.b_alloc (Below.refl _ _))) hb | skip); (first | have hr := IsBig.keep hr hb | have hr := IsBig.keep (IsBig.drw hr) hb | have hr := IsBig.keep (IsBig.keep hr (Gen.b_alloc (Below.refl _ _))) hb | skip); (first | have hq := IsBig.keep hq hb | have hq := IsBig.keep (IsBig.drw hq) hb | have hq := IsBig.keep (IsBig.keep hq (Gen.b_alloc (Below.refl _ _))) hb | skip); (first | have hRw := Row.keep hRw hb | have hRw := (Row.new _ _ _).keep hb | have hRw := (rowd _ _ _).keep hb | skip); (try have fz0 := hRw.frozen 0); (try have cz0 := hRw.cell 0); (try have fz1 := hRw.frozen 1); (try have cz1 := hRw.cell 1); (try have fz2 := hRw.frozen 2); (try have cz2 := hRw.cell 2); (try have fz3 := hRw.frozen 3); (try have cz3 := hRw.cell 3); (try have hRl := hRw.lt))
        | fail "arm")
    all_goals
      go_wp2
      go_meet
      exact ⟨_, _, _, _, _, _, _, _, _, rfl, rfl, Lib.hid (by first | exact Env.adF (HE.out.keep hS3.1) hr hq | exact Env.rgF HE.out hS3.1 (by first | exact Nat.le_refl _ | exact hS3.1.size | exact hS2.1.size | exact hS1.1.size) hRw hr hq)⟩
  clear cf141 cf142 cf143 cf144
  clear HS0 HP_a
  obtain ⟨gww, sww, Aww, nww, cww, tww, Bww, mww, dww, rfl, rfl, HEn⟩ := hcut
  replace HE := HEn
  clear HEn
  rename World => W40
  clear HXp HXq
  have cf145 := (HE.out.fr (i := 3) rfl).cell 0
  have cf146 := (HE.out.fr (i := 3) rfl).cell 1
  have cf147 := (HE.out.fr (i := 3) rfl).cell 2
  have cf148 := (HE.out.fr (i := 3) rfl).cell 3
  have cf149 := (HE.out.fr (i := 2) rfl).cell 0
  have cf150 := (HE.out.fr (i := 2) rfl).cell 1
  have cf151 := (HE.out.fr (i := 2) rfl).cell 2
  have cf152 := (HE.out.fr (i := 2) rfl).cell 3
  go_wp2_with (fail)
  go_must (refine (fsame_z _ (HE.out.fp (i := 3) rfl) (HE.out.fq (i := 3) rfl) (HE.out.fp (i := 2) rfl) (HE.out.fq (i := 2) rfl) HZ_x3.out.ne HZ_y3.out.ne (by grind)).mono ?_)
  rintro e W41 ⟨rfl, hb⟩
  replace HE := Lib.hid (HE.out.keep hb)
  clear hb
  clear cf145 cf146 cf147 cf148 cf149 cf150 cf151 cf152
  have cf153 := (HE.out.fr (i := 1) rfl).cell 0
  have cf154 := (HE.out.fr (i := 1) rfl).cell 1
  have cf155 := (HE.out.fr (i := 1) rfl).cell 2
  have cf156 := (HE.out.fr (i := 1) rfl).cell 3
  have cf157 := (HE.out.fr (i := 10) rfl).cell 0
  have cf158 := (HE.out.fr (i := 10) rfl).cell 1
  have cf159 := (HE.out.fr (i := 10) rfl).cell 2
  have cf160 := (HE.out.fr (i := 10) rfl).cell 3
  go_wp2_with (fail)
  go_must (refine (fsame_z _ (HE.out.fp (i := 1) rfl) (HE.out.fq (i := 1) rfl) (HE.out.fp (i := 10) rfl) (HE.out.fq (i := 10) rfl) HZ_zz.out.ne HZ_a.out.ne (by grind)).mono ?_)
  rintro e W42 ⟨rfl, hb⟩
  replace HE := Lib.hid (HE.out.keep hb)
  clear hb
  clear cf153 cf154 cf155 cf156 cf157 cf158 cf159 cf160
  have cf161 := (HE.out.fr (i := 0) rfl).cell 0
  have cf162 := (HE.out.fr (i := 0) rfl).cell 1
  have cf163 := (HE.out.fr (i := 0) rfl).cell 2
  have cf164 := (HE.out.fr (i := 0) rfl).cell 3
  have cf165 := (HE.out.fr (i := 10) rfl).cell 0
  have cf166 := (HE.out.fr (i := 10) rfl).cell 1
  have cf167 := (HE.out.fr (i := 10) rfl).cell 2
  have cf168 := (HE.out.fr (i := 10) rfl).cell 3
  go_wp2_with (fail)
  go_must (refine (fsame_z _ (HE.out.fp (i := 0) rfl) (HE.out.fq (i := 0) rfl) (HE.out.fp (i := 10) rfl) (HE.out.fq (i := 10) rfl) HZ_ww.out.ne HZ_a.out.ne (by grind)).mono ?_)
  rintro e W43 ⟨rfl, hb⟩
  replace HE := Lib.hid (HE.out.keep hb)
  clear hb
  clear cf161 cf162 cf163 cf164 cf165 cf166 cf167 cf168
  replace HE := Lib.hid (HE.out.sub (.cons _ (.cons _ (.cons_cons _ (.cons_cons _ (.cons _ (.cons _ (.cons_cons _ (.cons_cons _ (.cons _ (.cons_cons _ (.cons_cons _ .slnil))))))))))) (.refl _))
  have HZ_x4 : Hid (Fz ((p0 * q1 + p1 * q0) * q1 - p1 * (q0 * q1)) ((q0 * q1) * q1) 20 18) := Lib.hid (HZ_ab.out.sub HZ_b.out (K := 19) (by omega) (by omega))
  have cf169 := (HE.out.fr (i := 3) rfl).cell 0
  have cf170 := (HE.out.fr (i := 3) rfl).cell 1
  have cf171 := (HE.out.fr (i := 3) rfl).cell 2
  have cf172 := (HE.out.fr (i := 3) rfl).cell 3
  have cf173 := (HE.out.fr (i := 4) rfl).cell 0
  have cf174 := (HE.out.fr (i := 4) rfl).cell 1
  have cf175 := (HE.out.fr (i := 4) rfl).cell 2
  have cf176 := (HE.out.fr (i := 4) rfl).cell 3
  go_wp2_with (fail)
  go_must (refine (fsub_z (K := 19) _ HE.out.size (HE.out.fp (i := 3) rfl) (HE.out.fq (i := 3) rfl) (HE.out.fp (i := 4) rfl) (HE.out.fq (i := 4) rfl) HZ_ab.out HZ_b.out (by omega)).mono ?_)
  rintro e W44 ⟨s44, A44, n44, c44, t44, B44, m44, d44, rfl, hp44, hq44, hb⟩
  replace HE := Lib.hid (HE.out.keep hb)
  clear hb
  clear cf169 cf170 cf171 cf172 cf173 cf174 cf175 cf176
  have Hhp44 := Lib.hid hp44
  clear hp44
  have Hhq44 := Lib.hid hq44
  clear hq44
  go_wp2_with (fail)
  go_must (refine (lright_yes _ HE.out.size Hhp44.out Hhq44.out HZ_x4.out.rt).mono ?_)
  rintro e W45 ⟨rfl, hb, _, _⟩
  replace HE := Lib.hid (HE.out.keep hb)
  replace Hhp44 := Lib.hid (Hhp44.out.keep hb)
  replace Hhq44 := Lib.hid (Hhq44.out.keep hb)
  clear hb
  have HR := Lib.hid (HE.out.fr (i := 1) rfl)
  have gr0 := HR.out.frozen 0
  have gc0 := HR.out.cell 0
  have gr1 := HR.out.frozen 1
  have gc1 := HR.out.cell 1
  have gr2 := HR.out.frozen 2
  have gc2 := HR.out.cell 2
  have gr3 := HR.out.frozen 3
  have gc3 := HR.out.cell 3
  have hlt2 := HR.out.lt
  replace HE := Lib.hid (Env.ptF (L1 := [(W17.heap.size, frV s36 A36 n36 c36 t36 B36 m36 d36, (np ((p0 * p2) * (q1 * q2) + (p1 * p2) * (q0 * q2)) ((q0 * q2) * (q1 * q2))), (nq ((p0 * p2) * (q1 * q2) + (p1 * p2) * (q0 * q2)) ((q0 * q2) * (q1 * q2))))]) HE.out HGE_x.out HR.out Hhp44.out Hhq44.out)
  clear Hhp44 Hhq44
  simp only [List.nil_append, List.cons_append] at HE
  by_cases hb0 : p1 = 0
  · have HB0 := Lib.hid hb0
    clear hb0
    have cf177 := (HE.out.fr (i := 2) rfl).cell 0
    have cf178 := (HE.out.fr (i := 2) rfl).cell 1
    have cf179 := (HE.out.fr (i := 2) rfl).cell 2
    have cf180 := (HE.out.fr (i := 2) rfl).cell 3
    have cf181 := (HE.out.fr (i := 4) rfl).cell 0
    have cf182 := (HE.out.fr (i := 4) rfl).cell 1
    have cf183 := (HE.out.fr (i := 4) rfl).cell 2
    have cf184 := (HE.out.fr (i := 4) rfl).cell 3
    go_wp2_with (fail)
    go_must (refine (fdiv_zero _ HE.out.size (HE.out.fp (i := 2) rfl) (HE.out.fq (i := 2) rfl) (HE.out.fp (i := 4) rfl) (HE.out.fq (i := 4) rfl) HZ_m.out.rt HZ_b.out.rt (by rw [HB0.out]; exact np_zero HZ_b.out.ne)).mono ?_)
    rintro e W46 ⟨rfl, hb⟩
    replace HE := Lib.hid (HE.out.keep hb)
    clear hb
    clear cf177 cf178 cf179 cf180 cf181 cf182 cf183 cf184
    clear HR gr0 gr1 gr2 gr3 gc0 gc1 gc2 gc3 hlt2
    have HR := Lib.hid (HE.out.fr (i := 1) rfl)
    have gr0 := HR.out.frozen 0
    have gc0 := HR.out.cell 0
    have gr1 := HR.out.frozen 1
    have gc1 := HR.out.cell 1
    have gr2 := HR.out.frozen 2
    have gc2 := HR.out.cell 2
    have gr3 := HR.out.frozen 3
    have gc3 := HR.out.cell 3
    have hlt2 := HR.out.lt
    have HZB : Hid (IsBig w.heap.size W46 (bigV 0 none 0 0) 0) := Lib.hid (IsBig.zero _)
    replace HE := Lib.hid (Env.ptF (L1 := [(W15.heap.size, frV s44 A44 n44 c44 t44 B44 m44 d44, (np ((p0 * q1 + p1 * q0) * q1 - p1 * (q0 * q1)) ((q0 * q1) * q1)), (nq ((p0 * q1 + p1 * q0) * q1 - p1 * (q0 * q1)) ((q0 * q1) * q1)))]) HE.out HGE_y.out HR.out HZB.out HZB.out)
    clear HZB
    simp only [List.nil_append, List.cons_append] at HE
    have hzb : (s1 == 0) = true := by
      rw [HS_b.out, HB0.out]; rfl
    have cf185 := (HE.out.fr (i := 4) rfl).cell 0
    have cf186 := (HE.out.fr (i := 4) rfl).cell 1
    have cf187 := (HE.out.fr (i := 4) rfl).cell 2
    have cf188 := (HE.out.fr (i := 4) rfl).cell 3
    have cf189 := (HE.out.fr (i := 1) rfl).cell 0
    have cf190 := (HE.out.fr (i := 1) rfl).cell 1
    have cf191 := (HE.out.fr (i := 1) rfl).cell 2
    have cf192 := (HE.out.fr (i := 1) rfl).cell 3
    have cf193 := (HE.out.fr (i := 5) rfl).cell 0
    have cf194 := (HE.out.fr (i := 5) rfl).cell 1
    have cf195 := (HE.out.fr (i := 5) rfl).cell 2
    have cf196 := (HE.out.fr (i := 5) rfl).cell 3
    go_wp2_with (fail)
    go_must (refine (fsame_z _ (HE.out.fp (i := 1) rfl) (HE.out.fq (i := 1) rfl) (HE.out.fp (i := 5) rfl) (HE.out.fq (i := 5) rfl) HZ_x4.out.ne HZ_a.out.ne (by grind)).mono ?_)
    rintro e W47 ⟨rfl, hb⟩
    replace HE := Lib.hid (HE.out.keep hb)
    clear hb
    clear cf189 cf190 cf191 cf192 cf193 cf194 cf195 cf196
    clear cf185 cf186 cf187 cf188 HR gr0 gr1 gr2 gr3 gc0 gc1 gc2 gc3 hlt2
    go_wp2
    go_ret
    exact ⟨rfl, HE.out.b⟩
  have HB0 := Lib.hid hb0
  clear hb0
  have cf177 := (HE.out.fr (i := 2) rfl).cell 0
  have cf178 := (HE.out.fr (i := 2) rfl).cell 1
  have cf179 := (HE.out.fr (i := 2) rfl).cell 2
  have cf180 := (HE.out.fr (i := 2) rfl).cell 3
  have cf181 := (HE.out.fr (i := 4) rfl).cell 0
  have cf182 := (HE.out.fr (i := 4) rfl).cell 1
  have cf183 := (HE.out.fr (i := 4) rfl).cell 2
  have cf184 := (HE.out.fr (i := 4) rfl).cell 3
  go_wp2_with (fail)
  go_must (refine (fdiv_z _ HE.out.size (HE.out.fp (i := 2) rfl) (HE.out.fq (i := 2) rfl) (HE.out.fp (i := 4) rfl) (HE.out.fq (i := 4) rfl) HZ_m.out HZ_b.out (by omega) HB0.out).mono ?_)
  rintro e W46 ⟨s46, A46, n46, c46, t46, B46, m46, d46, rfl, hp46, hq46, hb⟩
  replace HE := Lib.hid (HE.out.keep hb)
  clear hb
  clear cf177 cf178 cf179 cf180 cf181 cf182 cf183 cf184
  have Hhp46 := Lib.hid hp46
  clear hp46
  have Hhq46 := Lib.hid hq46
  clear hq46
  clear HR gr0 gr1 gr2 gr3 gc0 gc1 gc2 gc3 hlt2
  have HR := Lib.hid (HE.out.fr (i := 1) rfl)
  have gr0 := HR.out.frozen 0
  have gc0 := HR.out.cell 0
  have gr1 := HR.out.frozen 1
  have gc1 := HR.out.cell 1
  have gr2 := HR.out.frozen 2
  have gc2 := HR.out.cell 2
  have gr3 := HR.out.frozen 3
  have gc3 := HR.out.cell 3
  have hlt2 := HR.out.lt
  replace HE := Lib.hid (Env.ptF (L1 := [(W15.heap.size, frV s44 A44 n44 c44 t44 B44 m44 d44, (np ((p0 * q1 + p1 * q0) * q1 - p1 * (q0 * q1)) ((q0 * q1) * q1)), (nq ((p0 * q1 + p1 * q0) * q1 - p1 * (q0 * q1)) ((q0 * q1) * q1)))]) HE.out HGE_y.out HR.out Hhp46.out Hhq46.out)
  clear Hhp46 Hhq46
  simp only [List.nil_append, List.cons_append] at HE
  have hzb : (s1 == 0) = false := by
    have h1 := sg_cases p1
    rw [← HS_b.out] at h1
    have h2 := HB0.out
    simp
    omega
  have cf185 := (HE.out.fr (i := 4) rfl).cell 0
  have cf186 := (HE.out.fr (i := 4) rfl).cell 1
  have cf187 := (HE.out.fr (i := 4) rfl).cell 2
  have cf188 := (HE.out.fr (i := 4) rfl).cell 3
  have cf189 := (HE.out.fr (i := 1) rfl).cell 0
  have cf190 := (HE.out.fr (i := 1) rfl).cell 1
  have cf191 := (HE.out.fr (i := 1) rfl).cell 2
  have cf192 := (HE.out.fr (i := 1) rfl).cell 3
  have cf193 := (HE.out.fr (i := 5) rfl).cell 0
  have cf194 := (HE.out.fr (i := 5) rfl).cell 1
  have cf195 := (HE.out.fr (i := 5) rfl).cell 2
  have cf196 := (HE.out.fr (i := 5) rfl).cell 3
  go_wp2_with (fail)
  go_must (refine (fsame_z _ (HE.out.fp (i := 1) rfl) (HE.out.fq (i := 1) rfl) (HE.out.fp (i := 5) rfl) (HE.out.fq (i := 5) rfl) HZ_x4.out.ne HZ_a.out.ne (by grind)).mono ?_)
  rintro e W47 ⟨rfl, hb⟩
  replace HE := Lib.hid (HE.out.keep hb)
  clear hb
  clear cf189 cf190 cf191 cf192 cf193 cf194 cf195 cf196
  clear cf185 cf186 cf187 cf188 HR gr0 gr1 gr2 gr3 gc0 gc1 gc2 gc3 hlt2
  have cf197 := (HE.out.fr (i := 0) rfl).cell 0
  have cf198 := (HE.out.fr (i := 0) rfl).cell 1
  have cf199 := (HE.out.fr (i := 0) rfl).cell 2
  have cf200 := (HE.out.fr (i := 0) rfl).cell 3
  have cf201 := (HE.out.fr (i := 5) rfl).cell 0
  have cf202 := (HE.out.fr (i := 5) rfl).cell 1
  have cf203 := (HE.out.fr (i := 5) rfl).cell 2
  have cf204 := (HE.out.fr (i := 5) rfl).cell 3
  go_wp2_with (fail)
  go_must (refine (fsame_z _ (HE.out.fp (i := 0) rfl) (HE.out.fq (i := 0) rfl) (HE.out.fp (i := 5) rfl) (HE.out.fq (i := 5) rfl) (Int.mul_ne_zero (Int.mul_ne_zero HZ_a.out.ne HZ_b.out.ne) HB0.out) HZ_a.out.ne (by grind)).mono ?_)
  rintro e W48 ⟨rfl, hb⟩
  replace HE := Lib.hid (HE.out.keep hb)
  clear hb
  clear cf197 cf198 cf199 cf200 cf201 cf202 cf203 cf204
  go_wp2
  go_ret
  exact ⟨rfl, HE.out.b⟩
end
end Go.Proofs.YtnifkianjpjahaaGreatDoor.Bg
