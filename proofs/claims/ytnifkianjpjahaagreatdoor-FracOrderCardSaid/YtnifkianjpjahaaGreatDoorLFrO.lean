/- FracOrder returns true: all three fractions, right or not; the listed variables as the text lays them. -/
import Derived.Test.YtnifkianjpjahaaGreatDoorFmC
namespace Go.Proofs.YtnifkianjpjahaaGreatDoor.Bg
open Go.ChangeShapes Go.WideShapes Go.ChangeAt Go.RowKit Go.Proofs.YtnifkianjpjahaaGreatDoor.Cell
set_option linter.unusedVariables false
set_option linter.unusedSimpArgs false
variable {N0 : Nat}

theorem Fs.cons {W : World} {L : List (Nat × Value × Int × Int)} {g : Nat} {s s' p q : Int} {A A' : Option Addr} {n c n' c' : Nat} (h : Fs N0 W L) (hr : Row W g 43 (fC s A n c s' A' n' c')) (h1 : IsBig N0 W (bigV s A n c) p) (h2 : IsBig N0 W (bigV s' A' n' c') q) : Fs N0 W ((g, frV s A n c s' A' n' c', p, q) :: L) := fun x hx => by
  rcases List.mem_cons.1 hx with rfl | hx
  · exact ⟨hr, .mk' h1 h2⟩
  · exact h x hx
abbrev bf3 (w : World) (p q r : Array Value) : World := ((w.alloc (.cells p 43)).alloc (.cells q 43)).alloc (.cells r 43)
theorem bf3_0 (w : World) (p q r : Array Value) : Row (bf3 w p q r) w.heap.size 43 p := ((Row.new w _ _).alloc _).alloc _
theorem bf3_1 (w : World) (p q r : Array Value) : Row (bf3 w p q r) (w.heap.size + 1) 43 q := by
  have h := (Row.new (w.alloc (.cells p 43)) 43 q).alloc (.cells r 43)
  rwa [World.size_alloc] at h
theorem bf3_2 (w : World) (p q r : Array Value) : Row (bf3 w p q r) (w.heap.size + 1 + 1) 43 r := by
  have h := Row.new ((w.alloc (.cells p 43)).alloc (.cells q 43)) 43 r
  rwa [World.size_alloc, World.size_alloc] at h
theorem bf3_b (w : World) (p q r : Array Value) : Below w.heap.size w (bf3 w p q r) := Gen.b_alloc (Gen.b_alloc (Gen.b_alloc (Below.refl _ _)))
theorem fsame_as {s s' t t' : Int} {A A' B B' : Option Addr} {n c n' c' m d m' d' : Nat} {p q x y : Int} {b : Bool} (w : World) (hp : IsBig N0 w (bigV s A n c) p) (hq : IsBig N0 w (bigV s' A' n' c') q) (hx : IsBig N0 w (bigV t B m d) x) (hy : IsBig N0 w (bigV t' B' m' d') y) (h : decide (p = x ∧ q = y) = b) :
    Calls Tryz.prog 43 #[frV s A n c s' A' n' c', frV t B m d t' B' m' d'] w fun e w' => e = .returned (.bool b) ∧ Below w.heap.size w w' := by
  subst h
  exact fsame_val w hp hq hx hy
theorem fo1 {p q x y : Int} (h1 : Rt p q) (h2 : Rt x y) : sg (np (p * y - x * q) (q * y)) = cmpI (p * y) (x * q) := by
  rw [sg_np (Int.mul_pos h1.1 h2.1), cmpI_sg']
theorem fo2 {p q x y u v : Int} (h1 : Rt p q) (h2 : Rt x y) (h3 : Rt u v) : cmpI (np (p * v + u * q) (q * v) * nq (x * v + u * y) (y * v)) (np (x * v + u * y) (y * v) * nq (p * v + u * q) (q * v)) = cmpI (p * y) (x * q) := by
  rw [cmp_new (Int.mul_pos h1.1 h3.1) (Int.mul_pos h2.1 h3.1), cmpI_sg', cmpI_sg',
    show (p * v + u * q) * (y * v) - (x * v + u * y) * (q * v) = (p * y - x * q) * (v * v) by grind, sg_mul, sg_pos (Int.mul_pos h3.1 h3.1), Int.mul_one]
theorem fo3 {p q x y u v : Int} (h1 : Rt p q) (h2 : Rt x y) (h3 : Rt u v) : cmpI (np (p * u) (q * v) * nq (x * u) (y * v)) (np (x * u) (y * v) * nq (p * u) (q * v)) = cmpI (p * y) (x * q) * sg u := by
  rw [cmp_new (Int.mul_pos h1.1 h3.1) (Int.mul_pos h2.1 h3.1), cmpI_sg', cmpI_sg',
    show (p * u) * (y * v) - (x * u) * (q * v) = (p * y - x * q) * (u * v) by grind, sg_mul, sg_mul, sg_pos h3.1, Int.mul_one]
theorem cmpI_le {x y : Int} : cmpI x y ≤ 0 ↔ x ≤ y := by
  rcases Int.lt_trichotomy x y with h | h | h
  · rw [cmpI_lt h]; omega
  · rw [cmpI_eq h]; omega
  · rw [cmpI_gt h]; omega
theorem fo4 {p q x y u v : Int} (h1 : Rt p q) (h2 : Rt x y) (h3 : Rt u v) (a : cmpI (p * y) (x * q) ≤ 0) (b : cmpI (x * v) (u * y) ≤ 0) : cmpI (p * v) (u * q) ≤ 0 := by
  rw [cmpI_le] at *
  have e1 := Int.mul_le_mul_of_nonneg_right a (show 0 ≤ v by have := h3.1; omega)
  have e2 := Int.mul_le_mul_of_nonneg_right b (show 0 ≤ q by have := h1.1; omega)
  have e3 : (p * v) * y ≤ (u * q) * y := by
    have f1 : p * y * v = p * v * y := by grind
    have f2 : u * y * q = u * q * y := by grind
    have f3 : x * q * v = x * v * q := by grind
    omega
  exact Int.le_of_mul_le_mul_right e3 h2.1
theorem fo5 {p q x y : Int} (h1 : Rt p q) (h2 : Rt x y) : decide (p = x ∧ q = y) = (cmpI (p * y) (x * q) == 0) := by
  by_cases h : p = x ∧ q = y
  · obtain ⟨rfl, rfl⟩ := h
    rw [cmpI_eq rfl]
    simp
  · rw [decide_eq_false h]
    symm
    rw [beq_eq_false_iff_ne]
    intro e
    refine h (rt_eq h1 h2 ?_)
    rcases Int.lt_trichotomy (p * y) (x * q) with g | g | g
    · rw [cmpI_lt g] at e; omega
    · exact g
    · rw [cmpI_gt g] at e; omega
theorem fo6 (x y : Int) : cmpI y x = -cmpI x y := by
  rcases Int.lt_trichotomy x y with h | h | h
  · rw [cmpI_lt h, cmpI_gt h]; rfl
  · rw [cmpI_eq h, cmpI_eq h.symm]; rfl
  · rw [cmpI_gt h, cmpI_lt h]
theorem fo7 (x y : Int) : -1 ≤ cmpI x y ∧ cmpI x y ≤ 1 := by rw [cmpI_sg']; exact sg_in _
section
variable {s0 s1 s2 t0 t1 t2 : Int} {A0 A1 A2 B0 B1 B2 : Option Addr} {n0 c0 n1 c1 n2 c2 m0 d0 m1 d1 m2 d2 : Nat} {l0 l1 l2 k0 k1 k2 : List Int}
set_option maxRecDepth 100000 in
set_option maxHeartbeats 16000000 in
theorem forder_any (w : World) (hT : PowTab w) (hM : MaxL w) (b0 : ArgF w.heap.size w (frV s0 A0 n0 c0 t0 B0 m0 d0) n0 m0 s0 t0 l0 k0) (b1 : ArgF w.heap.size w (frV s1 A1 n1 c1 t1 B1 m1 d1) n1 m1 s1 t1 l1 k1) (b2 : ArgF w.heap.size w (frV s2 A2 n2 c2 t2 B2 m2 d2) n2 m2 s2 t2 l2 k2) :
    Calls Tryz.prog 6 #[frV s0 A0 n0 c0 t0 B0 m0 d0, frV s1 A1 n1 c1 t1 B1 m1 d1, frV s2 A2 n2 c2 t2 B2 m2 d2] w fun e w' => e = .returned (.bool true) ∧ Below w.heap.size w w' := by
  have HB := Lib.hid (bf3_b w (fC s0 A0 n0 c0 t0 B0 m0 d0) (fC s1 A1 n1 c1 t1 B1 m1 d1) (fC s2 A2 n2 c2 t2 B2 m2 d2))
  have R0 := Lib.hid (bf3_0 w (fC s0 A0 n0 c0 t0 B0 m0 d0) (fC s1 A1 n1 c1 t1 B1 m1 d1) (fC s2 A2 n2 c2 t2 B2 m2 d2))
  have R1 := Lib.hid (bf3_1 w (fC s0 A0 n0 c0 t0 B0 m0 d0) (fC s1 A1 n1 c1 t1 B1 m1 d1) (fC s2 A2 n2 c2 t2 B2 m2 d2))
  have R2 := Lib.hid (bf3_2 w (fC s0 A0 n0 c0 t0 B0 m0 d0) (fC s1 A1 n1 c1 t1 B1 m1 d1) (fC s2 A2 n2 c2 t2 B2 m2 d2))
  have HA0 := Lib.hid (b0.keep HB.out)
  have HA1 := Lib.hid (b1.keep HB.out)
  have HA2 := Lib.hid (b2.keep HB.out)
  have HT := Lib.hid (hT.keep HB.out)
  have HM := Lib.hid (hM.keep HB.out)
  unfold bf3 at HB HT HM R0 R1 R2 HA0 HA1 HA2
  clear hT hM b0 b1 b2
  go_enter Tryz.func6, Tryz.ntmps6
  go_wp2_with (fail)
  go_must (refine (fsmall_yes _ HT.out HM.out).mono ?_)
  rintro e W1 ⟨rfl, hb⟩
  replace HB := Lib.hid (Gen.over hb HB.out)
  replace HA0 := Lib.hid (HA0.out.keep hb)
  replace R0 := Lib.hid (R0.out.keep hb)
  replace HA1 := Lib.hid (HA1.out.keep hb)
  replace R1 := Lib.hid (R1.out.keep hb)
  replace HA2 := Lib.hid (HA2.out.keep hb)
  replace R2 := Lib.hid (R2.out.keep hb)
  replace HT := Lib.hid (HT.out.keep hb)
  replace HM := Lib.hid (HM.out.keep hb)
  clear hb
  cases hqf0 : (decide ((n0 : Int) ≤ 12) && decide ((m0 : Int) ≤ 12))
  · have HQ := Lib.hid hqf0
    clear hqf0
    have p0 := R0.out.cell 0
    have p1 := R0.out.cell 1
    have p2 := R0.out.cell 2
    have p3 := R0.out.cell 3
    go_wp2_with (fail)
    go_must (refine (HA0.out.few (k := 12) _ false HQ.out).mono ?_)
    rintro e W2 ⟨rfl, hb⟩
    replace HB := Lib.hid (Gen.over hb HB.out)
    clear hb p0 p1 p2 p3
    go_wp2
    go_ret
    exact ⟨rfl, HB.out⟩
  have HQf0 := Lib.hid hqf0
  clear hqf0
  have p0 := R0.out.cell 0
  have p1 := R0.out.cell 1
  have p2 := R0.out.cell 2
  have p3 := R0.out.cell 3
  go_wp2_with (fail)
  go_must (refine (HA0.out.few (k := 12) _ true HQf0.out).mono ?_)
  rintro e W2 ⟨rfl, hb⟩
  replace HB := Lib.hid (Gen.over hb HB.out)
  replace HA0 := Lib.hid (HA0.out.keep hb)
  replace R0 := Lib.hid (R0.out.keep hb)
  replace HA1 := Lib.hid (HA1.out.keep hb)
  replace R1 := Lib.hid (R1.out.keep hb)
  replace HA2 := Lib.hid (HA2.out.keep hb)
  replace R2 := Lib.hid (R2.out.keep hb)
  replace HT := Lib.hid (HT.out.keep hb)
  replace HM := Lib.hid (HM.out.keep hb)
  clear hb p0 p1 p2 p3
  cases hqf1 : (decide ((n1 : Int) ≤ 12) && decide ((m1 : Int) ≤ 12))
  · have HQ := Lib.hid hqf1
    clear hqf1
    have p0 := R1.out.cell 0
    have p1 := R1.out.cell 1
    have p2 := R1.out.cell 2
    have p3 := R1.out.cell 3
    go_wp2_with (fail)
    go_must (refine (HA1.out.few (k := 12) _ false HQ.out).mono ?_)
    rintro e W3 ⟨rfl, hb⟩
    replace HB := Lib.hid (Gen.over hb HB.out)
    clear hb p0 p1 p2 p3
    go_wp2
    go_ret
    exact ⟨rfl, HB.out⟩
  have HQf1 := Lib.hid hqf1
  clear hqf1
  have p0 := R1.out.cell 0
  have p1 := R1.out.cell 1
  have p2 := R1.out.cell 2
  have p3 := R1.out.cell 3
  go_wp2_with (fail)
  go_must (refine (HA1.out.few (k := 12) _ true HQf1.out).mono ?_)
  rintro e W3 ⟨rfl, hb⟩
  replace HB := Lib.hid (Gen.over hb HB.out)
  replace HA0 := Lib.hid (HA0.out.keep hb)
  replace R0 := Lib.hid (R0.out.keep hb)
  replace HA1 := Lib.hid (HA1.out.keep hb)
  replace R1 := Lib.hid (R1.out.keep hb)
  replace HA2 := Lib.hid (HA2.out.keep hb)
  replace R2 := Lib.hid (R2.out.keep hb)
  replace HT := Lib.hid (HT.out.keep hb)
  replace HM := Lib.hid (HM.out.keep hb)
  clear hb p0 p1 p2 p3
  cases hqf2 : (decide ((n2 : Int) ≤ 12) && decide ((m2 : Int) ≤ 12))
  · have HQ := Lib.hid hqf2
    clear hqf2
    have p0 := R2.out.cell 0
    have p1 := R2.out.cell 1
    have p2 := R2.out.cell 2
    have p3 := R2.out.cell 3
    go_wp2_with (fail)
    go_must (refine (HA2.out.few (k := 12) _ false HQ.out).mono ?_)
    rintro e W4 ⟨rfl, hb⟩
    replace HB := Lib.hid (Gen.over hb HB.out)
    clear hb p0 p1 p2 p3
    go_wp2
    go_ret
    exact ⟨rfl, HB.out⟩
  have HQf2 := Lib.hid hqf2
  clear hqf2
  have p0 := R2.out.cell 0
  have p1 := R2.out.cell 1
  have p2 := R2.out.cell 2
  have p3 := R2.out.cell 3
  go_wp2_with (fail)
  go_must (refine (HA2.out.few (k := 12) _ true HQf2.out).mono ?_)
  rintro e W4 ⟨rfl, hb⟩
  replace HB := Lib.hid (Gen.over hb HB.out)
  replace HA0 := Lib.hid (HA0.out.keep hb)
  replace R0 := Lib.hid (R0.out.keep hb)
  replace HA1 := Lib.hid (HA1.out.keep hb)
  replace R1 := Lib.hid (R1.out.keep hb)
  replace HA2 := Lib.hid (HA2.out.keep hb)
  replace R2 := Lib.hid (R2.out.keep hb)
  replace HT := Lib.hid (HT.out.keep hb)
  replace HM := Lib.hid (HM.out.keep hb)
  clear hb p0 p1 p2 p3
  cases hqr0 : (frB s0 t0 l0 k0)
  · have HQ := Lib.hid hqr0
    clear hqr0
    have p0 := R0.out.cell 0
    have p1 := R0.out.cell 1
    have p2 := R0.out.cell 2
    have p3 := R0.out.cell 3
    go_wp2_with (fail)
    go_must (refine (HA0.out.right false HQ.out).mono ?_)
    rintro e W5 ⟨rfl, hb⟩
    replace HB := Lib.hid (Gen.over hb HB.out)
    clear hb p0 p1 p2 p3
    go_wp2
    go_ret
    exact ⟨rfl, HB.out⟩
  have HQr0 := Lib.hid hqr0
  clear hqr0
  have p0 := R0.out.cell 0
  have p1 := R0.out.cell 1
  have p2 := R0.out.cell 2
  have p3 := R0.out.cell 3
  go_wp2_with (fail)
  go_must (refine (HA0.out.right true HQr0.out).mono ?_)
  rintro e W5 ⟨rfl, hb⟩
  replace HB := Lib.hid (Gen.over hb HB.out)
  replace HA0 := Lib.hid (HA0.out.keep hb)
  replace R0 := Lib.hid (R0.out.keep hb)
  replace HA1 := Lib.hid (HA1.out.keep hb)
  replace R1 := Lib.hid (R1.out.keep hb)
  replace HA2 := Lib.hid (HA2.out.keep hb)
  replace R2 := Lib.hid (R2.out.keep hb)
  replace HT := Lib.hid (HT.out.keep hb)
  replace HM := Lib.hid (HM.out.keep hb)
  clear hb p0 p1 p2 p3
  cases hqr1 : (frB s1 t1 l1 k1)
  · have HQ := Lib.hid hqr1
    clear hqr1
    have p0 := R1.out.cell 0
    have p1 := R1.out.cell 1
    have p2 := R1.out.cell 2
    have p3 := R1.out.cell 3
    go_wp2_with (fail)
    go_must (refine (HA1.out.right false HQ.out).mono ?_)
    rintro e W6 ⟨rfl, hb⟩
    replace HB := Lib.hid (Gen.over hb HB.out)
    clear hb p0 p1 p2 p3
    go_wp2
    go_ret
    exact ⟨rfl, HB.out⟩
  have HQr1 := Lib.hid hqr1
  clear hqr1
  have p0 := R1.out.cell 0
  have p1 := R1.out.cell 1
  have p2 := R1.out.cell 2
  have p3 := R1.out.cell 3
  go_wp2_with (fail)
  go_must (refine (HA1.out.right true HQr1.out).mono ?_)
  rintro e W6 ⟨rfl, hb⟩
  replace HB := Lib.hid (Gen.over hb HB.out)
  replace HA0 := Lib.hid (HA0.out.keep hb)
  replace R0 := Lib.hid (R0.out.keep hb)
  replace HA1 := Lib.hid (HA1.out.keep hb)
  replace R1 := Lib.hid (R1.out.keep hb)
  replace HA2 := Lib.hid (HA2.out.keep hb)
  replace R2 := Lib.hid (R2.out.keep hb)
  replace HT := Lib.hid (HT.out.keep hb)
  replace HM := Lib.hid (HM.out.keep hb)
  clear hb p0 p1 p2 p3
  cases hqr2 : (frB s2 t2 l2 k2)
  · have HQ := Lib.hid hqr2
    clear hqr2
    have p0 := R2.out.cell 0
    have p1 := R2.out.cell 1
    have p2 := R2.out.cell 2
    have p3 := R2.out.cell 3
    go_wp2_with (fail)
    go_must (refine (HA2.out.right false HQ.out).mono ?_)
    rintro e W7 ⟨rfl, hb⟩
    replace HB := Lib.hid (Gen.over hb HB.out)
    clear hb p0 p1 p2 p3
    go_wp2
    go_ret
    exact ⟨rfl, HB.out⟩
  have HQr2 := Lib.hid hqr2
  clear hqr2
  have p0 := R2.out.cell 0
  have p1 := R2.out.cell 1
  have p2 := R2.out.cell 2
  have p3 := R2.out.cell 3
  go_wp2_with (fail)
  go_must (refine (HA2.out.right true HQr2.out).mono ?_)
  rintro e W7 ⟨rfl, hb⟩
  replace HB := Lib.hid (Gen.over hb HB.out)
  replace HA0 := Lib.hid (HA0.out.keep hb)
  replace R0 := Lib.hid (R0.out.keep hb)
  replace HA1 := Lib.hid (HA1.out.keep hb)
  replace R1 := Lib.hid (R1.out.keep hb)
  replace HA2 := Lib.hid (HA2.out.keep hb)
  replace R2 := Lib.hid (R2.out.keep hb)
  replace HT := Lib.hid (HT.out.keep hb)
  replace HM := Lib.hid (HM.out.keep hb)
  clear hb p0 p1 p2 p3
  obtain ⟨p0, q0, ip0, iq0, rt0, sg0, zp0, zq0⟩ := HA0.out.get HQr0.out
  have hz0 := HQf0.out
  rw [Bool.and_eq_true, decide_eq_true_eq, decide_eq_true_eq] at hz0
  have ZP0 := Lib.hid (zp0 12 (by omega))
  have ZQ0 := Lib.hid (zq0 12 (by omega))
  have HP0 := Lib.hid ip0
  have HQ0 := Lib.hid iq0
  have HR0 := Lib.hid rt0
  have HS0 := Lib.hid sg0
  clear ip0 iq0 rt0 sg0 zp0 zq0 hz0
  obtain ⟨p1, q1, ip1, iq1, rt1, sg1, zp1, zq1⟩ := HA1.out.get HQr1.out
  have hz1 := HQf1.out
  rw [Bool.and_eq_true, decide_eq_true_eq, decide_eq_true_eq] at hz1
  have ZP1 := Lib.hid (zp1 12 (by omega))
  have ZQ1 := Lib.hid (zq1 12 (by omega))
  have HP1 := Lib.hid ip1
  have HQ1 := Lib.hid iq1
  have HR1 := Lib.hid rt1
  have HS1 := Lib.hid sg1
  clear ip1 iq1 rt1 sg1 zp1 zq1 hz1
  obtain ⟨p2, q2, ip2, iq2, rt2, sg2, zp2, zq2⟩ := HA2.out.get HQr2.out
  have hz2 := HQf2.out
  rw [Bool.and_eq_true, decide_eq_true_eq, decide_eq_true_eq] at hz2
  have ZP2 := Lib.hid (zp2 12 (by omega))
  have ZQ2 := Lib.hid (zq2 12 (by omega))
  have HP2 := Lib.hid ip2
  have HQ2 := Lib.hid iq2
  have HR2 := Lib.hid rt2
  have HS2 := Lib.hid sg2
  clear ip2 iq2 rt2 sg2 zp2 zq2 hz2
  have HF := Lib.hid (Fs.cons (Fs.cons (Fs.cons (Fs.nil w.heap.size W7) R0.out HP0.out HQ0.out) R1.out HP1.out HQ1.out) R2.out HP2.out HQ2.out)
  clear HA0 R0 HP0 HQ0 HQf0 HQr0 HA1 R1 HP1 HQ1 HQf1 HQr1 HA2 R2 HP2 HQ2 HQf2 HQr2
  obtain ⟨k, hk⟩ : ∃ k, cmpI (p0 * q1) (p1 * q0) = k := ⟨_, rfl⟩
  obtain ⟨bb, hbb⟩ : ∃ b, (k == 0) = b := ⟨_, rfl⟩
  have hk1 := fo7 (p0 * q1) (p1 * q0)
  rw [hk] at hk1
  have HBB : Hid (decide (p0 = p1 ∧ q0 = q1) = bb) := Lib.hid (by rw [fo5 HR0.out HR1.out, hk]; exact hbb)
  have HK := Lib.hid hk
  have HKN : Hid (cmpI (p1 * q0) (p0 * q1) = -k) := Lib.hid (by rw [fo6, hk])
  have HKS : Hid (sg (np (p0 * q1 - p1 * q0) (q0 * q1)) = k) := Lib.hid (by rw [fo1 HR0.out HR1.out, hk])
  have hs2 : -1 ≤ s2 ∧ s2 ≤ 1 := by rw [HS2.out]; exact sg_in _
  have HKM : Hid (cmpI (np (p0 * p2) (q0 * q2) * nq (p1 * p2) (q1 * q2)) (np (p1 * p2) (q1 * q2) * nq (p0 * p2) (q0 * q2)) = k * s2) := Lib.hid (by rw [fo3 HR0.out HR1.out HR2.out, hk, HS2.out])
  have hm1 := fo7 (np (p0 * p2) (q0 * q2) * nq (p1 * p2) (q1 * q2)) (np (p1 * p2) (q1 * q2) * nq (p0 * p2) (q0 * q2))
  rw [HKM.out] at hm1
  have HKA : Hid (cmpI (np (p0 * q2 + p2 * q0) (q0 * q2) * nq (p1 * q2 + p2 * q1) (q1 * q2)) (np (p1 * q2 + p2 * q1) (q1 * q2) * nq (p0 * q2 + p2 * q0) (q0 * q2)) = k) := Lib.hid (by rw [fo2 HR0.out HR1.out HR2.out, hk])
  have hw1 : IntKind.i64.wrap (-k) = -k := IntWalk.i64_in _ (by omega)
  have hw2 : IntKind.i64.wrap (k * s2) = k * s2 := IntWalk.i64_in _ (by omega)
  have hka : ¬ k < -1 := by omega
  have hkb : ¬ 1 < k := by omega
  have HK4 : Hid (k ≤ 0 → cmpI (p1 * q2) (p2 * q1) ≤ 0 → cmpI (p0 * q2) (p2 * q0) ≤ 0) := Lib.hid (fun h1 h2 => fo4 HR0.out HR1.out HR2.out (by rw [hk]; exact h1) h2)
  have NQ01 := Lib.hid (Int.ne_of_gt (Int.mul_pos HR0.out.1 HR1.out.1))
  have NQ02 := Lib.hid (Int.ne_of_gt (Int.mul_pos HR0.out.1 HR2.out.1))
  have NQ12 := Lib.hid (Int.ne_of_gt (Int.mul_pos HR1.out.1 HR2.out.1))
  clear hk hk1 hs2 hm1
  have d1_0 := (HF.out.row (.tail _ (.tail _ (.head _)))).cell 0
  have d1_1 := (HF.out.row (.tail _ (.tail _ (.head _)))).cell 1
  have d1_2 := (HF.out.row (.tail _ (.tail _ (.head _)))).cell 2
  have d1_3 := (HF.out.row (.tail _ (.tail _ (.head _)))).cell 3
  have d2_0 := (HF.out.row (.tail _ (.head _))).cell 0
  have d2_1 := (HF.out.row (.tail _ (.head _))).cell 1
  have d2_2 := (HF.out.row (.tail _ (.head _))).cell 2
  have d2_3 := (HF.out.row (.tail _ (.head _))).cell 3
  go_wp2_with (fail)
  go_must (refine (fcmp_is (k := k) _ HB.out.size (HF.out.p (.tail _ (.tail _ (.head _)))) (HF.out.q (.tail _ (.tail _ (.head _)))) (HF.out.p (.tail _ (.head _))) (HF.out.q (.tail _ (.head _))) HR0.out HR1.out ((ZP0.out.mul ZQ1.out).fit) ((ZP1.out.mul ZQ0.out).fit) HK.out).mono ?_)
  rintro e W8 ⟨rfl, hb⟩
  replace HF := Lib.hid (HF.out.keep hb)
  replace HT := Lib.hid (HT.out.keep hb)
  replace HM := Lib.hid (HM.out.keep hb)
  replace HB := Lib.hid (Gen.over hb HB.out)
  clear hb
  clear d1_0 d1_1 d1_2 d1_3 d2_0 d2_1 d2_2 d2_3
  have d3_0 := (HF.out.row (.tail _ (.tail _ (.head _)))).cell 0
  have d3_1 := (HF.out.row (.tail _ (.tail _ (.head _)))).cell 1
  have d3_2 := (HF.out.row (.tail _ (.tail _ (.head _)))).cell 2
  have d3_3 := (HF.out.row (.tail _ (.tail _ (.head _)))).cell 3
  have d4_0 := (HF.out.row (.tail _ (.head _))).cell 0
  have d4_1 := (HF.out.row (.tail _ (.head _))).cell 1
  have d4_2 := (HF.out.row (.tail _ (.head _))).cell 2
  have d4_3 := (HF.out.row (.tail _ (.head _))).cell 3
  go_wp2_with (fail)
  go_must (refine (fsame_as (b := bb) _ (HF.out.p (.tail _ (.tail _ (.head _)))) (HF.out.q (.tail _ (.tail _ (.head _)))) (HF.out.p (.tail _ (.head _))) (HF.out.q (.tail _ (.head _))) HBB.out).mono ?_)
  rintro e W9 ⟨rfl, hb⟩
  replace HF := Lib.hid (HF.out.keep hb)
  replace HT := Lib.hid (HT.out.keep hb)
  replace HM := Lib.hid (HM.out.keep hb)
  replace HB := Lib.hid (Gen.over hb HB.out)
  clear hb
  clear d3_0 d3_1 d3_2 d3_3 d4_0 d4_1 d4_2 d4_3
  have d5_0 := (HF.out.row (.tail _ (.head _))).cell 0
  have d5_1 := (HF.out.row (.tail _ (.head _))).cell 1
  have d5_2 := (HF.out.row (.tail _ (.head _))).cell 2
  have d5_3 := (HF.out.row (.tail _ (.head _))).cell 3
  have d6_0 := (HF.out.row (.tail _ (.tail _ (.head _)))).cell 0
  have d6_1 := (HF.out.row (.tail _ (.tail _ (.head _)))).cell 1
  have d6_2 := (HF.out.row (.tail _ (.tail _ (.head _)))).cell 2
  have d6_3 := (HF.out.row (.tail _ (.tail _ (.head _)))).cell 3
  go_wp2_with (fail)
  go_must (refine (fcmp_is (k := -k) _ HB.out.size (HF.out.p (.tail _ (.head _))) (HF.out.q (.tail _ (.head _))) (HF.out.p (.tail _ (.tail _ (.head _)))) (HF.out.q (.tail _ (.tail _ (.head _)))) HR1.out HR0.out ((ZP1.out.mul ZQ0.out).fit) ((ZP0.out.mul ZQ1.out).fit) HKN.out).mono ?_)
  rintro e W10 ⟨rfl, hb⟩
  replace HF := Lib.hid (HF.out.keep hb)
  replace HT := Lib.hid (HT.out.keep hb)
  replace HM := Lib.hid (HM.out.keep hb)
  replace HB := Lib.hid (Gen.over hb HB.out)
  clear hb
  clear d5_0 d5_1 d5_2 d5_3 d6_0 d6_1 d6_2 d6_3
  by_cases hk0 : k ≤ 0
  rotate_left
  · have d7_0 := (HF.out.row (.tail _ (.tail _ (.head _)))).cell 0
    have d7_1 := (HF.out.row (.tail _ (.tail _ (.head _)))).cell 1
    have d7_2 := (HF.out.row (.tail _ (.tail _ (.head _)))).cell 2
    have d7_3 := (HF.out.row (.tail _ (.tail _ (.head _)))).cell 3
    have d8_0 := (HF.out.row (.tail _ (.head _))).cell 0
    have d8_1 := (HF.out.row (.tail _ (.head _))).cell 1
    have d8_2 := (HF.out.row (.tail _ (.head _))).cell 2
    have d8_3 := (HF.out.row (.tail _ (.head _))).cell 3
    go_wp2_with (fail)
    go_must (refine (fsub_ok _ HB.out.size (HF.out.p (.tail _ (.tail _ (.head _)))) (HF.out.q (.tail _ (.tail _ (.head _)))) (HF.out.p (.tail _ (.head _))) (HF.out.q (.tail _ (.head _))) HR0.out HR1.out ((ZP0.out.mul ZQ1.out).fit) ((ZP1.out.mul ZQ0.out).fit) (Sz.fit (Sz.sub (ZP0.out.mul ZQ1.out) (ZP1.out.mul ZQ0.out) (n := 25) (by omega))) (Sz.fit (ZQ0.out.mul ZQ1.out))).mono ?_)
    rintro e W11 ⟨s11, A11, n11, c11, t11, B11, m11, d11, rfl, hp11, hq11, hb⟩
    replace HF := Lib.hid (HF.out.keep hb)
    replace HT := Lib.hid (HT.out.keep hb)
    replace HM := Lib.hid (HM.out.keep hb)
    replace HB := Lib.hid (Gen.over hb HB.out)
    have HP11 := Lib.hid (hp11)
    have HQ11 := Lib.hid (hq11)
    clear hp11 hq11
    clear hb
    clear d7_0 d7_1 d7_2 d7_3 d8_0 d8_1 d8_2 d8_3
    go_wp2_with (fail)
    go_must (refine (lright_yes _ HB.out.size HP11.out HQ11.out (rt_new NQ01.out)).mono ?_)
    rintro e W12 ⟨rfl, hb, hp, hq⟩
    replace HF := Lib.hid (HF.out.keep hb)
    replace HT := Lib.hid (HT.out.keep hb)
    replace HM := Lib.hid (HM.out.keep hb)
    replace HB := Lib.hid (Gen.over hb HB.out)
    replace HP11 := Lib.hid hp
    replace HQ11 := Lib.hid hq
    clear hp hq hb
    have hsg := HP11.out.sgn
    rw [HKS.out] at hsg
    rw [hsg] at HP11 ⊢
    clear hsg
    replace HT := Lib.hid (HT.out.keep (Gen.b_alloc (x := (.cells (fC k A11 n11 c11 t11 B11 m11 d11) 43)) (Below.refl _ _)))
    replace HM := Lib.hid (HM.out.keep (Gen.b_alloc (x := (.cells (fC k A11 n11 c11 t11 B11 m11 d11) 43)) (Below.refl _ _)))
    replace HB := Lib.hid (Gen.b_alloc (x := (.cells (fC k A11 n11 c11 t11 B11 m11 d11) 43)) HB.out)
    replace HF := Lib.hid (HF.out.ad HP11.out HQ11.out)
    clear HP11 HQ11
    have d9_0 := (HF.out.row (.tail _ (.tail _ (.tail _ (.head _))))).cell 0
    have d9_1 := (HF.out.row (.tail _ (.tail _ (.tail _ (.head _))))).cell 1
    have d9_2 := (HF.out.row (.tail _ (.tail _ (.tail _ (.head _))))).cell 2
    have d9_3 := (HF.out.row (.tail _ (.tail _ (.tail _ (.head _))))).cell 3
    have d10_0 := (HF.out.row (.tail _ (.head _))).cell 0
    have d10_1 := (HF.out.row (.tail _ (.head _))).cell 1
    have d10_2 := (HF.out.row (.tail _ (.head _))).cell 2
    have d10_3 := (HF.out.row (.tail _ (.head _))).cell 3
    go_wp2_with (fail)
    go_must (refine (fadd_ok _ HB.out.size (HF.out.p (.tail _ (.tail _ (.tail _ (.head _))))) (HF.out.q (.tail _ (.tail _ (.tail _ (.head _))))) (HF.out.p (.tail _ (.head _))) (HF.out.q (.tail _ (.head _))) HR0.out HR2.out ((ZP0.out.mul ZQ2.out).fit) ((ZP2.out.mul ZQ0.out).fit) (Sz.fit (Sz.add (ZP0.out.mul ZQ2.out) (ZP2.out.mul ZQ0.out) (n := 25) (by omega))) (Sz.fit (ZQ0.out.mul ZQ2.out))).mono ?_)
    rintro e W13 ⟨s13, A13, n13, c13, t13, B13, m13, d13, rfl, hp13, hq13, hb⟩
    replace HF := Lib.hid (HF.out.keep hb)
    replace HT := Lib.hid (HT.out.keep hb)
    replace HM := Lib.hid (HM.out.keep hb)
    replace HB := Lib.hid (Gen.over hb HB.out)
    have HP13 := Lib.hid (hp13)
    have HQ13 := Lib.hid (hq13)
    clear hp13 hq13
    clear hb
    clear d9_0 d9_1 d9_2 d9_3 d10_0 d10_1 d10_2 d10_3
    go_wp2_with (fail)
    go_must (refine (lright_yes _ HB.out.size HP13.out HQ13.out (rt_new NQ02.out)).mono ?_)
    rintro e W14 ⟨rfl, hb, hp, hq⟩
    replace HF := Lib.hid (HF.out.keep hb)
    replace HT := Lib.hid (HT.out.keep hb)
    replace HM := Lib.hid (HM.out.keep hb)
    replace HB := Lib.hid (Gen.over hb HB.out)
    replace HP13 := Lib.hid hp
    replace HQ13 := Lib.hid hq
    clear hp hq hb
    replace HT := Lib.hid (HT.out.keep (Gen.b_alloc (x := (.cells (fC s13 A13 n13 c13 t13 B13 m13 d13) 43)) (Below.refl _ _)))
    replace HM := Lib.hid (HM.out.keep (Gen.b_alloc (x := (.cells (fC s13 A13 n13 c13 t13 B13 m13 d13) 43)) (Below.refl _ _)))
    replace HB := Lib.hid (Gen.b_alloc (x := (.cells (fC s13 A13 n13 c13 t13 B13 m13 d13) 43)) HB.out)
    replace HF := Lib.hid (HF.out.ad HP13.out HQ13.out)
    clear HP13 HQ13
    have d11_0 := (HF.out.row (.tail _ (.tail _ (.tail _ (.head _))))).cell 0
    have d11_1 := (HF.out.row (.tail _ (.tail _ (.tail _ (.head _))))).cell 1
    have d11_2 := (HF.out.row (.tail _ (.tail _ (.tail _ (.head _))))).cell 2
    have d11_3 := (HF.out.row (.tail _ (.tail _ (.tail _ (.head _))))).cell 3
    have d12_0 := (HF.out.row (.tail _ (.tail _ (.head _)))).cell 0
    have d12_1 := (HF.out.row (.tail _ (.tail _ (.head _)))).cell 1
    have d12_2 := (HF.out.row (.tail _ (.tail _ (.head _)))).cell 2
    have d12_3 := (HF.out.row (.tail _ (.tail _ (.head _)))).cell 3
    go_wp2_with (fail)
    go_must (refine (fadd_ok _ HB.out.size (HF.out.p (.tail _ (.tail _ (.tail _ (.head _))))) (HF.out.q (.tail _ (.tail _ (.tail _ (.head _))))) (HF.out.p (.tail _ (.tail _ (.head _)))) (HF.out.q (.tail _ (.tail _ (.head _)))) HR1.out HR2.out ((ZP1.out.mul ZQ2.out).fit) ((ZP2.out.mul ZQ1.out).fit) (Sz.fit (Sz.add (ZP1.out.mul ZQ2.out) (ZP2.out.mul ZQ1.out) (n := 25) (by omega))) (Sz.fit (ZQ1.out.mul ZQ2.out))).mono ?_)
    rintro e W15 ⟨s15, A15, n15, c15, t15, B15, m15, d15, rfl, hp15, hq15, hb⟩
    replace HF := Lib.hid (HF.out.keep hb)
    replace HT := Lib.hid (HT.out.keep hb)
    replace HM := Lib.hid (HM.out.keep hb)
    replace HB := Lib.hid (Gen.over hb HB.out)
    have HP15 := Lib.hid (hp15)
    have HQ15 := Lib.hid (hq15)
    clear hp15 hq15
    clear hb
    clear d11_0 d11_1 d11_2 d11_3 d12_0 d12_1 d12_2 d12_3
    go_wp2_with (fail)
    go_must (refine (lright_yes _ HB.out.size HP15.out HQ15.out (rt_new NQ12.out)).mono ?_)
    rintro e W16 ⟨rfl, hb, hp, hq⟩
    replace HF := Lib.hid (HF.out.keep hb)
    replace HT := Lib.hid (HT.out.keep hb)
    replace HM := Lib.hid (HM.out.keep hb)
    replace HB := Lib.hid (Gen.over hb HB.out)
    replace HP15 := Lib.hid hp
    replace HQ15 := Lib.hid hq
    clear hp hq hb
    replace HT := Lib.hid (HT.out.keep (Gen.b_alloc (x := (.cells (fC s15 A15 n15 c15 t15 B15 m15 d15) 43)) (Below.refl _ _)))
    replace HM := Lib.hid (HM.out.keep (Gen.b_alloc (x := (.cells (fC s15 A15 n15 c15 t15 B15 m15 d15) 43)) (Below.refl _ _)))
    replace HB := Lib.hid (Gen.b_alloc (x := (.cells (fC s15 A15 n15 c15 t15 B15 m15 d15) 43)) HB.out)
    replace HF := Lib.hid (HF.out.ad HP15.out HQ15.out)
    clear HP15 HQ15
    have d13_0 := (HF.out.row (.tail _ (.tail _ (.tail _ (.tail _ (.tail _ (.head _))))))).cell 0
    have d13_1 := (HF.out.row (.tail _ (.tail _ (.tail _ (.tail _ (.tail _ (.head _))))))).cell 1
    have d13_2 := (HF.out.row (.tail _ (.tail _ (.tail _ (.tail _ (.tail _ (.head _))))))).cell 2
    have d13_3 := (HF.out.row (.tail _ (.tail _ (.tail _ (.tail _ (.tail _ (.head _))))))).cell 3
    have d14_0 := (HF.out.row (.tail _ (.tail _ (.tail _ (.head _))))).cell 0
    have d14_1 := (HF.out.row (.tail _ (.tail _ (.tail _ (.head _))))).cell 1
    have d14_2 := (HF.out.row (.tail _ (.tail _ (.tail _ (.head _))))).cell 2
    have d14_3 := (HF.out.row (.tail _ (.tail _ (.tail _ (.head _))))).cell 3
    go_wp2_with (fail)
    go_must (refine (fmul_ok _ HB.out.size (HF.out.p (.tail _ (.tail _ (.tail _ (.tail _ (.tail _ (.head _))))))) (HF.out.q (.tail _ (.tail _ (.tail _ (.tail _ (.tail _ (.head _))))))) (HF.out.p (.tail _ (.tail _ (.tail _ (.head _))))) (HF.out.q (.tail _ (.tail _ (.tail _ (.head _))))) HR0.out HR2.out (Sz.fit (ZP0.out.mul ZP2.out)) (Sz.fit (ZQ0.out.mul ZQ2.out))).mono ?_)
    rintro e W17 ⟨s17, A17, n17, c17, t17, B17, m17, d17, rfl, hp17, hq17, hb⟩
    replace HF := Lib.hid (HF.out.keep hb)
    replace HT := Lib.hid (HT.out.keep hb)
    replace HM := Lib.hid (HM.out.keep hb)
    replace HB := Lib.hid (Gen.over hb HB.out)
    have HP17 := Lib.hid (hp17)
    have HQ17 := Lib.hid (hq17)
    clear hp17 hq17
    clear hb
    clear d13_0 d13_1 d13_2 d13_3 d14_0 d14_1 d14_2 d14_3
    go_wp2_with (fail)
    go_must (refine (lright_yes _ HB.out.size HP17.out HQ17.out (rt_new NQ02.out)).mono ?_)
    rintro e W18 ⟨rfl, hb, hp, hq⟩
    replace HF := Lib.hid (HF.out.keep hb)
    replace HT := Lib.hid (HT.out.keep hb)
    replace HM := Lib.hid (HM.out.keep hb)
    replace HB := Lib.hid (Gen.over hb HB.out)
    replace HP17 := Lib.hid hp
    replace HQ17 := Lib.hid hq
    clear hp hq hb
    replace HT := Lib.hid (HT.out.keep (Gen.b_alloc (x := (.cells (fC s17 A17 n17 c17 t17 B17 m17 d17) 43)) (Below.refl _ _)))
    replace HM := Lib.hid (HM.out.keep (Gen.b_alloc (x := (.cells (fC s17 A17 n17 c17 t17 B17 m17 d17) 43)) (Below.refl _ _)))
    replace HB := Lib.hid (Gen.b_alloc (x := (.cells (fC s17 A17 n17 c17 t17 B17 m17 d17) 43)) HB.out)
    replace HF := Lib.hid (HF.out.ad HP17.out HQ17.out)
    clear HP17 HQ17
    have d15_0 := (HF.out.row (.tail _ (.tail _ (.tail _ (.tail _ (.tail _ (.head _))))))).cell 0
    have d15_1 := (HF.out.row (.tail _ (.tail _ (.tail _ (.tail _ (.tail _ (.head _))))))).cell 1
    have d15_2 := (HF.out.row (.tail _ (.tail _ (.tail _ (.tail _ (.tail _ (.head _))))))).cell 2
    have d15_3 := (HF.out.row (.tail _ (.tail _ (.tail _ (.tail _ (.tail _ (.head _))))))).cell 3
    have d16_0 := (HF.out.row (.tail _ (.tail _ (.tail _ (.tail _ (.head _)))))).cell 0
    have d16_1 := (HF.out.row (.tail _ (.tail _ (.tail _ (.tail _ (.head _)))))).cell 1
    have d16_2 := (HF.out.row (.tail _ (.tail _ (.tail _ (.tail _ (.head _)))))).cell 2
    have d16_3 := (HF.out.row (.tail _ (.tail _ (.tail _ (.tail _ (.head _)))))).cell 3
    go_wp2_with (fail)
    go_must (refine (fmul_ok _ HB.out.size (HF.out.p (.tail _ (.tail _ (.tail _ (.tail _ (.tail _ (.head _))))))) (HF.out.q (.tail _ (.tail _ (.tail _ (.tail _ (.tail _ (.head _))))))) (HF.out.p (.tail _ (.tail _ (.tail _ (.tail _ (.head _)))))) (HF.out.q (.tail _ (.tail _ (.tail _ (.tail _ (.head _)))))) HR1.out HR2.out (Sz.fit (ZP1.out.mul ZP2.out)) (Sz.fit (ZQ1.out.mul ZQ2.out))).mono ?_)
    rintro e W19 ⟨s19, A19, n19, c19, t19, B19, m19, d19, rfl, hp19, hq19, hb⟩
    replace HF := Lib.hid (HF.out.keep hb)
    replace HT := Lib.hid (HT.out.keep hb)
    replace HM := Lib.hid (HM.out.keep hb)
    replace HB := Lib.hid (Gen.over hb HB.out)
    have HP19 := Lib.hid (hp19)
    have HQ19 := Lib.hid (hq19)
    clear hp19 hq19
    clear hb
    clear d15_0 d15_1 d15_2 d15_3 d16_0 d16_1 d16_2 d16_3
    go_wp2_with (fail)
    go_must (refine (lright_yes _ HB.out.size HP19.out HQ19.out (rt_new NQ12.out)).mono ?_)
    rintro e W20 ⟨rfl, hb, hp, hq⟩
    replace HF := Lib.hid (HF.out.keep hb)
    replace HT := Lib.hid (HT.out.keep hb)
    replace HM := Lib.hid (HM.out.keep hb)
    replace HB := Lib.hid (Gen.over hb HB.out)
    replace HP19 := Lib.hid hp
    replace HQ19 := Lib.hid hq
    clear hp hq hb
    replace HT := Lib.hid (HT.out.keep (Gen.b_alloc (x := (.cells (fC s19 A19 n19 c19 t19 B19 m19 d19) 43)) (Below.refl _ _)))
    replace HM := Lib.hid (HM.out.keep (Gen.b_alloc (x := (.cells (fC s19 A19 n19 c19 t19 B19 m19 d19) 43)) (Below.refl _ _)))
    replace HB := Lib.hid (Gen.b_alloc (x := (.cells (fC s19 A19 n19 c19 t19 B19 m19 d19) 43)) HB.out)
    replace HF := Lib.hid (HF.out.ad HP19.out HQ19.out)
    clear HP19 HQ19
    have d17_0 := (HF.out.row (.tail _ (.tail _ (.tail _ (.tail _ (.head _)))))).cell 0
    have d17_1 := (HF.out.row (.tail _ (.tail _ (.tail _ (.tail _ (.head _)))))).cell 1
    have d17_2 := (HF.out.row (.tail _ (.tail _ (.tail _ (.tail _ (.head _)))))).cell 2
    have d17_3 := (HF.out.row (.tail _ (.tail _ (.tail _ (.tail _ (.head _)))))).cell 3
    have d18_0 := (HF.out.row (.tail _ (.tail _ (.tail _ (.head _))))).cell 0
    have d18_1 := (HF.out.row (.tail _ (.tail _ (.tail _ (.head _))))).cell 1
    have d18_2 := (HF.out.row (.tail _ (.tail _ (.tail _ (.head _))))).cell 2
    have d18_3 := (HF.out.row (.tail _ (.tail _ (.tail _ (.head _))))).cell 3
    have d19_0 := (HF.out.row (.tail _ (.tail _ (.head _)))).cell 0
    have d19_1 := (HF.out.row (.tail _ (.tail _ (.head _)))).cell 1
    have d19_2 := (HF.out.row (.tail _ (.tail _ (.head _)))).cell 2
    have d19_3 := (HF.out.row (.tail _ (.tail _ (.head _)))).cell 3
    go_wp2_with (fail)
    go_must (refine (fcmp_is (k := k) _ HB.out.size (HF.out.p (.tail _ (.tail _ (.tail _ (.head _))))) (HF.out.q (.tail _ (.tail _ (.tail _ (.head _))))) (HF.out.p (.tail _ (.tail _ (.head _)))) (HF.out.q (.tail _ (.tail _ (.head _)))) (rt_new NQ02.out) (rt_new NQ12.out) (Sz.fit (Sz.mul (np_sz NQ02.out (Sz.add (ZP0.out.mul ZQ2.out) (ZP2.out.mul ZQ0.out) (n := 25) (by omega))) (nq_sz NQ12.out (ZQ1.out.mul ZQ2.out)))) (Sz.fit (Sz.mul (np_sz NQ12.out (Sz.add (ZP1.out.mul ZQ2.out) (ZP2.out.mul ZQ1.out) (n := 25) (by omega))) (nq_sz NQ02.out (ZQ0.out.mul ZQ2.out)))) HKA.out).mono ?_)
    rintro e W21 ⟨rfl, hb⟩
    replace HF := Lib.hid (HF.out.keep hb)
    replace HT := Lib.hid (HT.out.keep hb)
    replace HM := Lib.hid (HM.out.keep hb)
    replace HB := Lib.hid (Gen.over hb HB.out)
    clear hb
    clear d18_0 d18_1 d18_2 d18_3 d19_0 d19_1 d19_2 d19_3
    clear d17_0 d17_1 d17_2 d17_3
    have HPm := Lib.hid (HF.out.p (.tail _ (.head _)))
    have HQm := Lib.hid (HF.out.q (.tail _ (.head _)))
    have HPn := Lib.hid (HF.out.p (.head _))
    have HQn := Lib.hid (HF.out.q (.head _))
    have HS0 : Hid (Below W21.heap.size W21 W21 ∧ W21.cell? ⟨W18.heap.size, 0, none⟩ = some (.int .i64 s17) ∧ W21.cell? ⟨W18.heap.size, 1, none⟩ = some (.slice A17 n17 c17) ∧ W21.cell? ⟨W18.heap.size, 2, none⟩ = some (.int .i64 t17) ∧ W21.cell? ⟨W18.heap.size, 3, none⟩ = some (.slice B17 m17 d17) ∧ W21.cell? ⟨W20.heap.size, 0, none⟩ = some (.int .i64 s19) ∧ W21.cell? ⟨W20.heap.size, 1, none⟩ = some (.slice A19 n19 c19) ∧ W21.cell? ⟨W20.heap.size, 2, none⟩ = some (.int .i64 t19) ∧ W21.cell? ⟨W20.heap.size, 3, none⟩ = some (.slice B19 m19 d19) ∧ W21.cell? ⟨(w.heap.size + 1 + 1), 0, none⟩ = some (.int .i64 s2) ∧ W21.cell? ⟨(w.heap.size + 1 + 1), 1, none⟩ = some (.slice A2 n2 c2) ∧ W21.cell? ⟨(w.heap.size + 1 + 1), 2, none⟩ = some (.int .i64 t2) ∧ W21.cell? ⟨(w.heap.size + 1 + 1), 3, none⟩ = some (.slice B2 m2 d2)) := Lib.hid ⟨Below.refl _ _, (HF.out.row (.tail _ (.head _))).cell 0, (HF.out.row (.tail _ (.head _))).cell 1, (HF.out.row (.tail _ (.head _))).cell 2, (HF.out.row (.tail _ (.head _))).cell 3, (HF.out.row (.head _)).cell 0, (HF.out.row (.head _)).cell 1, (HF.out.row (.head _)).cell 2, (HF.out.row (.head _)).cell 3, (HF.out.row (.tail _ (.tail _ (.tail _ (.tail _ (.tail _ (.head _))))))).cell 0, (HF.out.row (.tail _ (.tail _ (.tail _ (.tail _ (.tail _ (.head _))))))).cell 1, (HF.out.row (.tail _ (.tail _ (.tail _ (.tail _ (.tail _ (.head _))))))).cell 2, (HF.out.row (.tail _ (.tail _ (.tail _ (.tail _ (.tail _ (.head _))))))).cell 3⟩
    go_wp2_with (fail)
    go_region_held3 (fun W' : World => Below W21.heap.size W21 W' ∧ W'.cell? ⟨W18.heap.size, 0, none⟩ = some (.int .i64 s17) ∧ W'.cell? ⟨W18.heap.size, 1, none⟩ = some (.slice A17 n17 c17) ∧ W'.cell? ⟨W18.heap.size, 2, none⟩ = some (.int .i64 t17) ∧ W'.cell? ⟨W18.heap.size, 3, none⟩ = some (.slice B17 m17 d17) ∧ W'.cell? ⟨W20.heap.size, 0, none⟩ = some (.int .i64 s19) ∧ W'.cell? ⟨W20.heap.size, 1, none⟩ = some (.slice A19 n19 c19) ∧ W'.cell? ⟨W20.heap.size, 2, none⟩ = some (.int .i64 t19) ∧ W'.cell? ⟨W20.heap.size, 3, none⟩ = some (.slice B19 m19 d19) ∧ W'.cell? ⟨(w.heap.size + 1 + 1), 0, none⟩ = some (.int .i64 s2) ∧ W'.cell? ⟨(w.heap.size + 1 + 1), 1, none⟩ = some (.slice A2 n2 c2) ∧ W'.cell? ⟨(w.heap.size + 1 + 1), 2, none⟩ = some (.int .i64 t2) ∧ W'.cell? ⟨(w.heap.size + 1 + 1), 3, none⟩ = some (.slice B2 m2 d2))
      (first | exact hS5 | exact ⟨HS0.out.1.drew, HS0.out.2⟩ | fail "keep")
      (first
        | (go_at_call 56; (with_reducible refine (fcmp_is (k := k * s2) _ (Nat.le_trans HB.out.size (Below.size (And.left (by assumption)))) (HPm.out.keep (And.left (by assumption))) (HQm.out.keep (And.left (by assumption))) (HPn.out.keep (And.left (by assumption))) (HQn.out.keep (And.left (by assumption))) (rt_new NQ02.out) (rt_new NQ12.out) (Sz.fit (Sz.mul (np_sz NQ02.out (ZP0.out.mul ZP2.out)) (nq_sz NQ12.out (ZQ1.out.mul ZQ2.out)))) (Sz.fit (Sz.mul (np_sz NQ12.out (ZP1.out.mul ZP2.out)) (nq_sz NQ02.out (ZQ0.out.mul ZQ2.out)))) HKM.out).mono ?_); rintro e' w' ⟨rfl, hb⟩; have hS5 := (show (Below W21.heap.size W21 w' ∧ w'.cell? ⟨W18.heap.size, 0, none⟩ = some (.int .i64 s17) ∧ w'.cell? ⟨W18.heap.size, 1, none⟩ = some (.slice A17 n17 c17) ∧ w'.cell? ⟨W18.heap.size, 2, none⟩ = some (.int .i64 t17) ∧ w'.cell? ⟨W18.heap.size, 3, none⟩ = some (.slice B17 m17 d17) ∧ w'.cell? ⟨W20.heap.size, 0, none⟩ = some (.int .i64 s19) ∧ w'.cell? ⟨W20.heap.size, 1, none⟩ = some (.slice A19 n19 c19) ∧ w'.cell? ⟨W20.heap.size, 2, none⟩ = some (.int .i64 t19) ∧ w'.cell? ⟨W20.heap.size, 3, none⟩ = some (.slice B19 m19 d19) ∧ w'.cell? ⟨(w.heap.size + 1 + 1), 0, none⟩ = some (.int .i64 s2) ∧ w'.cell? ⟨(w.heap.size + 1 + 1), 1, none⟩ = some (.slice A2 n2 c2) ∧ w'.cell? ⟨(w.heap.size + 1 + 1), 2, none⟩ = some (.int .i64 t2) ∧ w'.cell? ⟨(w.heap.size + 1 + 1), 3, none⟩ = some (.slice B2 m2 d2)) from ⟨Gen.over hb (And.left (by assumption)), Gen.keep hb (And.left (And.right (by assumption))), Gen.keep hb (And.left (And.right (And.right (by assumption)))), Gen.keep hb (And.left (And.right (And.right (And.right (by assumption))))), Gen.keep hb (And.left (And.right (And.right (And.right (And.right (by assumption)))))), Gen.keep hb (And.left (And.right (And.right (And.right (And.right (And.right (by assumption))))))), Gen.keep hb (And.left (And.right (And.right (And.right (And.right (And.right (And.right (by assumption)))))))), Gen.keep hb (And.left (And.right (And.right (And.right (And.right (And.right (And.right (And.right (by assumption))))))))), Gen.keep hb (And.left (And.right (And.right (And.right (And.right (And.right (And.right (And.right (And.right (by assumption)))))))))), Gen.keep hb (And.left (And.right (And.right (And.right (And.right (And.right (And.right (And.right (And.right (And.right (by assumption))))))))))), Gen.keep hb (And.left (And.right (And.right (And.right (And.right (And.right (And.right (And.right (And.right (And.right (And.right (by assumption)))))))))))), Gen.keep hb (And.left (And.right (And.right (And.right (And.right (And.right (And.right (And.right (And.right (And.right (And.right (And.right (by assumption))))))))))))), Gen.keep hb (And.right (And.right (And.right (And.right (And.right (And.right (And.right (And.right (And.right (And.right (And.right (And.right (by assumption)))))))))))))⟩))
        | fail "arm")
    all_goals
      have HG := Lib.hid (Gen.over hS5.1 HB.out)
      go_wp2
      go_ret
      exact ⟨rfl, HG.out⟩
  have HK0 := Lib.hid hk0
  obtain ⟨k2, hk2⟩ : ∃ k, cmpI (p1 * q2) (p2 * q1) = k := ⟨_, rfl⟩
  have HK2 := Lib.hid hk2
  clear hk2
  have d7_0 := (HF.out.row (.tail _ (.head _))).cell 0
  have d7_1 := (HF.out.row (.tail _ (.head _))).cell 1
  have d7_2 := (HF.out.row (.tail _ (.head _))).cell 2
  have d7_3 := (HF.out.row (.tail _ (.head _))).cell 3
  have d8_0 := (HF.out.row (.head _)).cell 0
  have d8_1 := (HF.out.row (.head _)).cell 1
  have d8_2 := (HF.out.row (.head _)).cell 2
  have d8_3 := (HF.out.row (.head _)).cell 3
  go_wp2_with (fail)
  go_must (refine (fcmp_is (k := k2) _ HB.out.size (HF.out.p (.tail _ (.head _))) (HF.out.q (.tail _ (.head _))) (HF.out.p (.head _)) (HF.out.q (.head _)) HR1.out HR2.out ((ZP1.out.mul ZQ2.out).fit) ((ZP2.out.mul ZQ1.out).fit) HK2.out).mono ?_)
  rintro e W11 ⟨rfl, hb⟩
  replace HF := Lib.hid (HF.out.keep hb)
  replace HT := Lib.hid (HT.out.keep hb)
  replace HM := Lib.hid (HM.out.keep hb)
  replace HB := Lib.hid (Gen.over hb HB.out)
  clear hb
  clear d7_0 d7_1 d7_2 d7_3 d8_0 d8_1 d8_2 d8_3
  by_cases hk2 : k2 ≤ 0
  rotate_left
  · have d9_0 := (HF.out.row (.tail _ (.tail _ (.head _)))).cell 0
    have d9_1 := (HF.out.row (.tail _ (.tail _ (.head _)))).cell 1
    have d9_2 := (HF.out.row (.tail _ (.tail _ (.head _)))).cell 2
    have d9_3 := (HF.out.row (.tail _ (.tail _ (.head _)))).cell 3
    have d10_0 := (HF.out.row (.tail _ (.head _))).cell 0
    have d10_1 := (HF.out.row (.tail _ (.head _))).cell 1
    have d10_2 := (HF.out.row (.tail _ (.head _))).cell 2
    have d10_3 := (HF.out.row (.tail _ (.head _))).cell 3
    go_wp2_with (fail)
    go_must (refine (fsub_ok _ HB.out.size (HF.out.p (.tail _ (.tail _ (.head _)))) (HF.out.q (.tail _ (.tail _ (.head _)))) (HF.out.p (.tail _ (.head _))) (HF.out.q (.tail _ (.head _))) HR0.out HR1.out ((ZP0.out.mul ZQ1.out).fit) ((ZP1.out.mul ZQ0.out).fit) (Sz.fit (Sz.sub (ZP0.out.mul ZQ1.out) (ZP1.out.mul ZQ0.out) (n := 25) (by omega))) (Sz.fit (ZQ0.out.mul ZQ1.out))).mono ?_)
    rintro e W12 ⟨s12, A12, n12, c12, t12, B12, m12, d12, rfl, hp12, hq12, hb⟩
    replace HF := Lib.hid (HF.out.keep hb)
    replace HT := Lib.hid (HT.out.keep hb)
    replace HM := Lib.hid (HM.out.keep hb)
    replace HB := Lib.hid (Gen.over hb HB.out)
    have HP12 := Lib.hid (hp12)
    have HQ12 := Lib.hid (hq12)
    clear hp12 hq12
    clear hb
    clear d9_0 d9_1 d9_2 d9_3 d10_0 d10_1 d10_2 d10_3
    go_wp2_with (fail)
    go_must (refine (lright_yes _ HB.out.size HP12.out HQ12.out (rt_new NQ01.out)).mono ?_)
    rintro e W13 ⟨rfl, hb, hp, hq⟩
    replace HF := Lib.hid (HF.out.keep hb)
    replace HT := Lib.hid (HT.out.keep hb)
    replace HM := Lib.hid (HM.out.keep hb)
    replace HB := Lib.hid (Gen.over hb HB.out)
    replace HP12 := Lib.hid hp
    replace HQ12 := Lib.hid hq
    clear hp hq hb
    have hsg := HP12.out.sgn
    rw [HKS.out] at hsg
    rw [hsg] at HP12 ⊢
    clear hsg
    replace HT := Lib.hid (HT.out.keep (Gen.b_alloc (x := (.cells (fC k A12 n12 c12 t12 B12 m12 d12) 43)) (Below.refl _ _)))
    replace HM := Lib.hid (HM.out.keep (Gen.b_alloc (x := (.cells (fC k A12 n12 c12 t12 B12 m12 d12) 43)) (Below.refl _ _)))
    replace HB := Lib.hid (Gen.b_alloc (x := (.cells (fC k A12 n12 c12 t12 B12 m12 d12) 43)) HB.out)
    replace HF := Lib.hid (HF.out.ad HP12.out HQ12.out)
    clear HP12 HQ12
    have d11_0 := (HF.out.row (.tail _ (.tail _ (.tail _ (.head _))))).cell 0
    have d11_1 := (HF.out.row (.tail _ (.tail _ (.tail _ (.head _))))).cell 1
    have d11_2 := (HF.out.row (.tail _ (.tail _ (.tail _ (.head _))))).cell 2
    have d11_3 := (HF.out.row (.tail _ (.tail _ (.tail _ (.head _))))).cell 3
    have d12_0 := (HF.out.row (.tail _ (.head _))).cell 0
    have d12_1 := (HF.out.row (.tail _ (.head _))).cell 1
    have d12_2 := (HF.out.row (.tail _ (.head _))).cell 2
    have d12_3 := (HF.out.row (.tail _ (.head _))).cell 3
    go_wp2_with (fail)
    go_must (refine (fadd_ok _ HB.out.size (HF.out.p (.tail _ (.tail _ (.tail _ (.head _))))) (HF.out.q (.tail _ (.tail _ (.tail _ (.head _))))) (HF.out.p (.tail _ (.head _))) (HF.out.q (.tail _ (.head _))) HR0.out HR2.out ((ZP0.out.mul ZQ2.out).fit) ((ZP2.out.mul ZQ0.out).fit) (Sz.fit (Sz.add (ZP0.out.mul ZQ2.out) (ZP2.out.mul ZQ0.out) (n := 25) (by omega))) (Sz.fit (ZQ0.out.mul ZQ2.out))).mono ?_)
    rintro e W14 ⟨s14, A14, n14, c14, t14, B14, m14, d14, rfl, hp14, hq14, hb⟩
    replace HF := Lib.hid (HF.out.keep hb)
    replace HT := Lib.hid (HT.out.keep hb)
    replace HM := Lib.hid (HM.out.keep hb)
    replace HB := Lib.hid (Gen.over hb HB.out)
    have HP14 := Lib.hid (hp14)
    have HQ14 := Lib.hid (hq14)
    clear hp14 hq14
    clear hb
    clear d11_0 d11_1 d11_2 d11_3 d12_0 d12_1 d12_2 d12_3
    go_wp2_with (fail)
    go_must (refine (lright_yes _ HB.out.size HP14.out HQ14.out (rt_new NQ02.out)).mono ?_)
    rintro e W15 ⟨rfl, hb, hp, hq⟩
    replace HF := Lib.hid (HF.out.keep hb)
    replace HT := Lib.hid (HT.out.keep hb)
    replace HM := Lib.hid (HM.out.keep hb)
    replace HB := Lib.hid (Gen.over hb HB.out)
    replace HP14 := Lib.hid hp
    replace HQ14 := Lib.hid hq
    clear hp hq hb
    replace HT := Lib.hid (HT.out.keep (Gen.b_alloc (x := (.cells (fC s14 A14 n14 c14 t14 B14 m14 d14) 43)) (Below.refl _ _)))
    replace HM := Lib.hid (HM.out.keep (Gen.b_alloc (x := (.cells (fC s14 A14 n14 c14 t14 B14 m14 d14) 43)) (Below.refl _ _)))
    replace HB := Lib.hid (Gen.b_alloc (x := (.cells (fC s14 A14 n14 c14 t14 B14 m14 d14) 43)) HB.out)
    replace HF := Lib.hid (HF.out.ad HP14.out HQ14.out)
    clear HP14 HQ14
    have d13_0 := (HF.out.row (.tail _ (.tail _ (.tail _ (.head _))))).cell 0
    have d13_1 := (HF.out.row (.tail _ (.tail _ (.tail _ (.head _))))).cell 1
    have d13_2 := (HF.out.row (.tail _ (.tail _ (.tail _ (.head _))))).cell 2
    have d13_3 := (HF.out.row (.tail _ (.tail _ (.tail _ (.head _))))).cell 3
    have d14_0 := (HF.out.row (.tail _ (.tail _ (.head _)))).cell 0
    have d14_1 := (HF.out.row (.tail _ (.tail _ (.head _)))).cell 1
    have d14_2 := (HF.out.row (.tail _ (.tail _ (.head _)))).cell 2
    have d14_3 := (HF.out.row (.tail _ (.tail _ (.head _)))).cell 3
    go_wp2_with (fail)
    go_must (refine (fadd_ok _ HB.out.size (HF.out.p (.tail _ (.tail _ (.tail _ (.head _))))) (HF.out.q (.tail _ (.tail _ (.tail _ (.head _))))) (HF.out.p (.tail _ (.tail _ (.head _)))) (HF.out.q (.tail _ (.tail _ (.head _)))) HR1.out HR2.out ((ZP1.out.mul ZQ2.out).fit) ((ZP2.out.mul ZQ1.out).fit) (Sz.fit (Sz.add (ZP1.out.mul ZQ2.out) (ZP2.out.mul ZQ1.out) (n := 25) (by omega))) (Sz.fit (ZQ1.out.mul ZQ2.out))).mono ?_)
    rintro e W16 ⟨s16, A16, n16, c16, t16, B16, m16, d16, rfl, hp16, hq16, hb⟩
    replace HF := Lib.hid (HF.out.keep hb)
    replace HT := Lib.hid (HT.out.keep hb)
    replace HM := Lib.hid (HM.out.keep hb)
    replace HB := Lib.hid (Gen.over hb HB.out)
    have HP16 := Lib.hid (hp16)
    have HQ16 := Lib.hid (hq16)
    clear hp16 hq16
    clear hb
    clear d13_0 d13_1 d13_2 d13_3 d14_0 d14_1 d14_2 d14_3
    go_wp2_with (fail)
    go_must (refine (lright_yes _ HB.out.size HP16.out HQ16.out (rt_new NQ12.out)).mono ?_)
    rintro e W17 ⟨rfl, hb, hp, hq⟩
    replace HF := Lib.hid (HF.out.keep hb)
    replace HT := Lib.hid (HT.out.keep hb)
    replace HM := Lib.hid (HM.out.keep hb)
    replace HB := Lib.hid (Gen.over hb HB.out)
    replace HP16 := Lib.hid hp
    replace HQ16 := Lib.hid hq
    clear hp hq hb
    replace HT := Lib.hid (HT.out.keep (Gen.b_alloc (x := (.cells (fC s16 A16 n16 c16 t16 B16 m16 d16) 43)) (Below.refl _ _)))
    replace HM := Lib.hid (HM.out.keep (Gen.b_alloc (x := (.cells (fC s16 A16 n16 c16 t16 B16 m16 d16) 43)) (Below.refl _ _)))
    replace HB := Lib.hid (Gen.b_alloc (x := (.cells (fC s16 A16 n16 c16 t16 B16 m16 d16) 43)) HB.out)
    replace HF := Lib.hid (HF.out.ad HP16.out HQ16.out)
    clear HP16 HQ16
    have d15_0 := (HF.out.row (.tail _ (.tail _ (.tail _ (.tail _ (.tail _ (.head _))))))).cell 0
    have d15_1 := (HF.out.row (.tail _ (.tail _ (.tail _ (.tail _ (.tail _ (.head _))))))).cell 1
    have d15_2 := (HF.out.row (.tail _ (.tail _ (.tail _ (.tail _ (.tail _ (.head _))))))).cell 2
    have d15_3 := (HF.out.row (.tail _ (.tail _ (.tail _ (.tail _ (.tail _ (.head _))))))).cell 3
    have d16_0 := (HF.out.row (.tail _ (.tail _ (.tail _ (.head _))))).cell 0
    have d16_1 := (HF.out.row (.tail _ (.tail _ (.tail _ (.head _))))).cell 1
    have d16_2 := (HF.out.row (.tail _ (.tail _ (.tail _ (.head _))))).cell 2
    have d16_3 := (HF.out.row (.tail _ (.tail _ (.tail _ (.head _))))).cell 3
    go_wp2_with (fail)
    go_must (refine (fmul_ok _ HB.out.size (HF.out.p (.tail _ (.tail _ (.tail _ (.tail _ (.tail _ (.head _))))))) (HF.out.q (.tail _ (.tail _ (.tail _ (.tail _ (.tail _ (.head _))))))) (HF.out.p (.tail _ (.tail _ (.tail _ (.head _))))) (HF.out.q (.tail _ (.tail _ (.tail _ (.head _))))) HR0.out HR2.out (Sz.fit (ZP0.out.mul ZP2.out)) (Sz.fit (ZQ0.out.mul ZQ2.out))).mono ?_)
    rintro e W18 ⟨s18, A18, n18, c18, t18, B18, m18, d18, rfl, hp18, hq18, hb⟩
    replace HF := Lib.hid (HF.out.keep hb)
    replace HT := Lib.hid (HT.out.keep hb)
    replace HM := Lib.hid (HM.out.keep hb)
    replace HB := Lib.hid (Gen.over hb HB.out)
    have HP18 := Lib.hid (hp18)
    have HQ18 := Lib.hid (hq18)
    clear hp18 hq18
    clear hb
    clear d15_0 d15_1 d15_2 d15_3 d16_0 d16_1 d16_2 d16_3
    go_wp2_with (fail)
    go_must (refine (lright_yes _ HB.out.size HP18.out HQ18.out (rt_new NQ02.out)).mono ?_)
    rintro e W19 ⟨rfl, hb, hp, hq⟩
    replace HF := Lib.hid (HF.out.keep hb)
    replace HT := Lib.hid (HT.out.keep hb)
    replace HM := Lib.hid (HM.out.keep hb)
    replace HB := Lib.hid (Gen.over hb HB.out)
    replace HP18 := Lib.hid hp
    replace HQ18 := Lib.hid hq
    clear hp hq hb
    replace HT := Lib.hid (HT.out.keep (Gen.b_alloc (x := (.cells (fC s18 A18 n18 c18 t18 B18 m18 d18) 43)) (Below.refl _ _)))
    replace HM := Lib.hid (HM.out.keep (Gen.b_alloc (x := (.cells (fC s18 A18 n18 c18 t18 B18 m18 d18) 43)) (Below.refl _ _)))
    replace HB := Lib.hid (Gen.b_alloc (x := (.cells (fC s18 A18 n18 c18 t18 B18 m18 d18) 43)) HB.out)
    replace HF := Lib.hid (HF.out.ad HP18.out HQ18.out)
    clear HP18 HQ18
    have d17_0 := (HF.out.row (.tail _ (.tail _ (.tail _ (.tail _ (.tail _ (.head _))))))).cell 0
    have d17_1 := (HF.out.row (.tail _ (.tail _ (.tail _ (.tail _ (.tail _ (.head _))))))).cell 1
    have d17_2 := (HF.out.row (.tail _ (.tail _ (.tail _ (.tail _ (.tail _ (.head _))))))).cell 2
    have d17_3 := (HF.out.row (.tail _ (.tail _ (.tail _ (.tail _ (.tail _ (.head _))))))).cell 3
    have d18_0 := (HF.out.row (.tail _ (.tail _ (.tail _ (.tail _ (.head _)))))).cell 0
    have d18_1 := (HF.out.row (.tail _ (.tail _ (.tail _ (.tail _ (.head _)))))).cell 1
    have d18_2 := (HF.out.row (.tail _ (.tail _ (.tail _ (.tail _ (.head _)))))).cell 2
    have d18_3 := (HF.out.row (.tail _ (.tail _ (.tail _ (.tail _ (.head _)))))).cell 3
    go_wp2_with (fail)
    go_must (refine (fmul_ok _ HB.out.size (HF.out.p (.tail _ (.tail _ (.tail _ (.tail _ (.tail _ (.head _))))))) (HF.out.q (.tail _ (.tail _ (.tail _ (.tail _ (.tail _ (.head _))))))) (HF.out.p (.tail _ (.tail _ (.tail _ (.tail _ (.head _)))))) (HF.out.q (.tail _ (.tail _ (.tail _ (.tail _ (.head _)))))) HR1.out HR2.out (Sz.fit (ZP1.out.mul ZP2.out)) (Sz.fit (ZQ1.out.mul ZQ2.out))).mono ?_)
    rintro e W20 ⟨s20, A20, n20, c20, t20, B20, m20, d20, rfl, hp20, hq20, hb⟩
    replace HF := Lib.hid (HF.out.keep hb)
    replace HT := Lib.hid (HT.out.keep hb)
    replace HM := Lib.hid (HM.out.keep hb)
    replace HB := Lib.hid (Gen.over hb HB.out)
    have HP20 := Lib.hid (hp20)
    have HQ20 := Lib.hid (hq20)
    clear hp20 hq20
    clear hb
    clear d17_0 d17_1 d17_2 d17_3 d18_0 d18_1 d18_2 d18_3
    go_wp2_with (fail)
    go_must (refine (lright_yes _ HB.out.size HP20.out HQ20.out (rt_new NQ12.out)).mono ?_)
    rintro e W21 ⟨rfl, hb, hp, hq⟩
    replace HF := Lib.hid (HF.out.keep hb)
    replace HT := Lib.hid (HT.out.keep hb)
    replace HM := Lib.hid (HM.out.keep hb)
    replace HB := Lib.hid (Gen.over hb HB.out)
    replace HP20 := Lib.hid hp
    replace HQ20 := Lib.hid hq
    clear hp hq hb
    replace HT := Lib.hid (HT.out.keep (Gen.b_alloc (x := (.cells (fC s20 A20 n20 c20 t20 B20 m20 d20) 43)) (Below.refl _ _)))
    replace HM := Lib.hid (HM.out.keep (Gen.b_alloc (x := (.cells (fC s20 A20 n20 c20 t20 B20 m20 d20) 43)) (Below.refl _ _)))
    replace HB := Lib.hid (Gen.b_alloc (x := (.cells (fC s20 A20 n20 c20 t20 B20 m20 d20) 43)) HB.out)
    replace HF := Lib.hid (HF.out.ad HP20.out HQ20.out)
    clear HP20 HQ20
    have d19_0 := (HF.out.row (.tail _ (.tail _ (.tail _ (.tail _ (.head _)))))).cell 0
    have d19_1 := (HF.out.row (.tail _ (.tail _ (.tail _ (.tail _ (.head _)))))).cell 1
    have d19_2 := (HF.out.row (.tail _ (.tail _ (.tail _ (.tail _ (.head _)))))).cell 2
    have d19_3 := (HF.out.row (.tail _ (.tail _ (.tail _ (.tail _ (.head _)))))).cell 3
    have d20_0 := (HF.out.row (.tail _ (.tail _ (.tail _ (.head _))))).cell 0
    have d20_1 := (HF.out.row (.tail _ (.tail _ (.tail _ (.head _))))).cell 1
    have d20_2 := (HF.out.row (.tail _ (.tail _ (.tail _ (.head _))))).cell 2
    have d20_3 := (HF.out.row (.tail _ (.tail _ (.tail _ (.head _))))).cell 3
    have d21_0 := (HF.out.row (.tail _ (.tail _ (.head _)))).cell 0
    have d21_1 := (HF.out.row (.tail _ (.tail _ (.head _)))).cell 1
    have d21_2 := (HF.out.row (.tail _ (.tail _ (.head _)))).cell 2
    have d21_3 := (HF.out.row (.tail _ (.tail _ (.head _)))).cell 3
    go_wp2_with (fail)
    go_must (refine (fcmp_is (k := k) _ HB.out.size (HF.out.p (.tail _ (.tail _ (.tail _ (.head _))))) (HF.out.q (.tail _ (.tail _ (.tail _ (.head _))))) (HF.out.p (.tail _ (.tail _ (.head _)))) (HF.out.q (.tail _ (.tail _ (.head _)))) (rt_new NQ02.out) (rt_new NQ12.out) (Sz.fit (Sz.mul (np_sz NQ02.out (Sz.add (ZP0.out.mul ZQ2.out) (ZP2.out.mul ZQ0.out) (n := 25) (by omega))) (nq_sz NQ12.out (ZQ1.out.mul ZQ2.out)))) (Sz.fit (Sz.mul (np_sz NQ12.out (Sz.add (ZP1.out.mul ZQ2.out) (ZP2.out.mul ZQ1.out) (n := 25) (by omega))) (nq_sz NQ02.out (ZQ0.out.mul ZQ2.out)))) HKA.out).mono ?_)
    rintro e W22 ⟨rfl, hb⟩
    replace HF := Lib.hid (HF.out.keep hb)
    replace HT := Lib.hid (HT.out.keep hb)
    replace HM := Lib.hid (HM.out.keep hb)
    replace HB := Lib.hid (Gen.over hb HB.out)
    clear hb
    clear d20_0 d20_1 d20_2 d20_3 d21_0 d21_1 d21_2 d21_3
    clear d19_0 d19_1 d19_2 d19_3
    have HPm := Lib.hid (HF.out.p (.tail _ (.head _)))
    have HQm := Lib.hid (HF.out.q (.tail _ (.head _)))
    have HPn := Lib.hid (HF.out.p (.head _))
    have HQn := Lib.hid (HF.out.q (.head _))
    have HS0 : Hid (Below W22.heap.size W22 W22 ∧ W22.cell? ⟨W19.heap.size, 0, none⟩ = some (.int .i64 s18) ∧ W22.cell? ⟨W19.heap.size, 1, none⟩ = some (.slice A18 n18 c18) ∧ W22.cell? ⟨W19.heap.size, 2, none⟩ = some (.int .i64 t18) ∧ W22.cell? ⟨W19.heap.size, 3, none⟩ = some (.slice B18 m18 d18) ∧ W22.cell? ⟨W21.heap.size, 0, none⟩ = some (.int .i64 s20) ∧ W22.cell? ⟨W21.heap.size, 1, none⟩ = some (.slice A20 n20 c20) ∧ W22.cell? ⟨W21.heap.size, 2, none⟩ = some (.int .i64 t20) ∧ W22.cell? ⟨W21.heap.size, 3, none⟩ = some (.slice B20 m20 d20) ∧ W22.cell? ⟨(w.heap.size + 1 + 1), 0, none⟩ = some (.int .i64 s2) ∧ W22.cell? ⟨(w.heap.size + 1 + 1), 1, none⟩ = some (.slice A2 n2 c2) ∧ W22.cell? ⟨(w.heap.size + 1 + 1), 2, none⟩ = some (.int .i64 t2) ∧ W22.cell? ⟨(w.heap.size + 1 + 1), 3, none⟩ = some (.slice B2 m2 d2)) := Lib.hid ⟨Below.refl _ _, (HF.out.row (.tail _ (.head _))).cell 0, (HF.out.row (.tail _ (.head _))).cell 1, (HF.out.row (.tail _ (.head _))).cell 2, (HF.out.row (.tail _ (.head _))).cell 3, (HF.out.row (.head _)).cell 0, (HF.out.row (.head _)).cell 1, (HF.out.row (.head _)).cell 2, (HF.out.row (.head _)).cell 3, (HF.out.row (.tail _ (.tail _ (.tail _ (.tail _ (.tail _ (.head _))))))).cell 0, (HF.out.row (.tail _ (.tail _ (.tail _ (.tail _ (.tail _ (.head _))))))).cell 1, (HF.out.row (.tail _ (.tail _ (.tail _ (.tail _ (.tail _ (.head _))))))).cell 2, (HF.out.row (.tail _ (.tail _ (.tail _ (.tail _ (.tail _ (.head _))))))).cell 3⟩
    go_wp2_with (fail)
    go_region_held3 (fun W' : World => Below W22.heap.size W22 W' ∧ W'.cell? ⟨W19.heap.size, 0, none⟩ = some (.int .i64 s18) ∧ W'.cell? ⟨W19.heap.size, 1, none⟩ = some (.slice A18 n18 c18) ∧ W'.cell? ⟨W19.heap.size, 2, none⟩ = some (.int .i64 t18) ∧ W'.cell? ⟨W19.heap.size, 3, none⟩ = some (.slice B18 m18 d18) ∧ W'.cell? ⟨W21.heap.size, 0, none⟩ = some (.int .i64 s20) ∧ W'.cell? ⟨W21.heap.size, 1, none⟩ = some (.slice A20 n20 c20) ∧ W'.cell? ⟨W21.heap.size, 2, none⟩ = some (.int .i64 t20) ∧ W'.cell? ⟨W21.heap.size, 3, none⟩ = some (.slice B20 m20 d20) ∧ W'.cell? ⟨(w.heap.size + 1 + 1), 0, none⟩ = some (.int .i64 s2) ∧ W'.cell? ⟨(w.heap.size + 1 + 1), 1, none⟩ = some (.slice A2 n2 c2) ∧ W'.cell? ⟨(w.heap.size + 1 + 1), 2, none⟩ = some (.int .i64 t2) ∧ W'.cell? ⟨(w.heap.size + 1 + 1), 3, none⟩ = some (.slice B2 m2 d2))
      (first | exact hS5 | exact ⟨HS0.out.1.drew, HS0.out.2⟩ | fail "keep")
      (first
        | (go_at_call 56; (with_reducible refine (fcmp_is (k := k * s2) _ (Nat.le_trans HB.out.size (Below.size (And.left (by assumption)))) (HPm.out.keep (And.left (by assumption))) (HQm.out.keep (And.left (by assumption))) (HPn.out.keep (And.left (by assumption))) (HQn.out.keep (And.left (by assumption))) (rt_new NQ02.out) (rt_new NQ12.out) (Sz.fit (Sz.mul (np_sz NQ02.out (ZP0.out.mul ZP2.out)) (nq_sz NQ12.out (ZQ1.out.mul ZQ2.out)))) (Sz.fit (Sz.mul (np_sz NQ12.out (ZP1.out.mul ZP2.out)) (nq_sz NQ02.out (ZQ0.out.mul ZQ2.out)))) HKM.out).mono ?_); rintro e' w' ⟨rfl, hb⟩; have hS5 := (show (Below W22.heap.size W22 w' ∧ w'.cell? ⟨W19.heap.size, 0, none⟩ = some (.int .i64 s18) ∧ w'.cell? ⟨W19.heap.size, 1, none⟩ = some (.slice A18 n18 c18) ∧ w'.cell? ⟨W19.heap.size, 2, none⟩ = some (.int .i64 t18) ∧ w'.cell? ⟨W19.heap.size, 3, none⟩ = some (.slice B18 m18 d18) ∧ w'.cell? ⟨W21.heap.size, 0, none⟩ = some (.int .i64 s20) ∧ w'.cell? ⟨W21.heap.size, 1, none⟩ = some (.slice A20 n20 c20) ∧ w'.cell? ⟨W21.heap.size, 2, none⟩ = some (.int .i64 t20) ∧ w'.cell? ⟨W21.heap.size, 3, none⟩ = some (.slice B20 m20 d20) ∧ w'.cell? ⟨(w.heap.size + 1 + 1), 0, none⟩ = some (.int .i64 s2) ∧ w'.cell? ⟨(w.heap.size + 1 + 1), 1, none⟩ = some (.slice A2 n2 c2) ∧ w'.cell? ⟨(w.heap.size + 1 + 1), 2, none⟩ = some (.int .i64 t2) ∧ w'.cell? ⟨(w.heap.size + 1 + 1), 3, none⟩ = some (.slice B2 m2 d2)) from ⟨Gen.over hb (And.left (by assumption)), Gen.keep hb (And.left (And.right (by assumption))), Gen.keep hb (And.left (And.right (And.right (by assumption)))), Gen.keep hb (And.left (And.right (And.right (And.right (by assumption))))), Gen.keep hb (And.left (And.right (And.right (And.right (And.right (by assumption)))))), Gen.keep hb (And.left (And.right (And.right (And.right (And.right (And.right (by assumption))))))), Gen.keep hb (And.left (And.right (And.right (And.right (And.right (And.right (And.right (by assumption)))))))), Gen.keep hb (And.left (And.right (And.right (And.right (And.right (And.right (And.right (And.right (by assumption))))))))), Gen.keep hb (And.left (And.right (And.right (And.right (And.right (And.right (And.right (And.right (And.right (by assumption)))))))))), Gen.keep hb (And.left (And.right (And.right (And.right (And.right (And.right (And.right (And.right (And.right (And.right (by assumption))))))))))), Gen.keep hb (And.left (And.right (And.right (And.right (And.right (And.right (And.right (And.right (And.right (And.right (And.right (by assumption)))))))))))), Gen.keep hb (And.left (And.right (And.right (And.right (And.right (And.right (And.right (And.right (And.right (And.right (And.right (And.right (by assumption))))))))))))), Gen.keep hb (And.right (And.right (And.right (And.right (And.right (And.right (And.right (And.right (And.right (And.right (And.right (And.right (by assumption)))))))))))))⟩))
        | fail "arm")
    all_goals
      have HG := Lib.hid (Gen.over hS5.1 HB.out)
      go_wp2
      go_ret
      exact ⟨rfl, HG.out⟩
  obtain ⟨k3, hk3⟩ : ∃ k, cmpI (p0 * q2) (p2 * q0) = k := ⟨_, rfl⟩
  have HK3 := Lib.hid hk3
  have hk3n : ¬ 0 < k3 := by
    have h := HK4.out HK0.out (by rw [HK2.out]; exact hk2)
    omega
  clear hk3
  have d9_0 := (HF.out.row (.tail _ (.tail _ (.head _)))).cell 0
  have d9_1 := (HF.out.row (.tail _ (.tail _ (.head _)))).cell 1
  have d9_2 := (HF.out.row (.tail _ (.tail _ (.head _)))).cell 2
  have d9_3 := (HF.out.row (.tail _ (.tail _ (.head _)))).cell 3
  have d10_0 := (HF.out.row (.head _)).cell 0
  have d10_1 := (HF.out.row (.head _)).cell 1
  have d10_2 := (HF.out.row (.head _)).cell 2
  have d10_3 := (HF.out.row (.head _)).cell 3
  go_wp2_with (fail)
  go_must (refine (fcmp_is (k := k3) _ HB.out.size (HF.out.p (.tail _ (.tail _ (.head _)))) (HF.out.q (.tail _ (.tail _ (.head _)))) (HF.out.p (.head _)) (HF.out.q (.head _)) HR0.out HR2.out ((ZP0.out.mul ZQ2.out).fit) ((ZP2.out.mul ZQ0.out).fit) HK3.out).mono ?_)
  rintro e W12 ⟨rfl, hb⟩
  replace HF := Lib.hid (HF.out.keep hb)
  replace HT := Lib.hid (HT.out.keep hb)
  replace HM := Lib.hid (HM.out.keep hb)
  replace HB := Lib.hid (Gen.over hb HB.out)
  clear hb
  clear d9_0 d9_1 d9_2 d9_3 d10_0 d10_1 d10_2 d10_3
  have d11_0 := (HF.out.row (.tail _ (.tail _ (.head _)))).cell 0
  have d11_1 := (HF.out.row (.tail _ (.tail _ (.head _)))).cell 1
  have d11_2 := (HF.out.row (.tail _ (.tail _ (.head _)))).cell 2
  have d11_3 := (HF.out.row (.tail _ (.tail _ (.head _)))).cell 3
  have d12_0 := (HF.out.row (.tail _ (.head _))).cell 0
  have d12_1 := (HF.out.row (.tail _ (.head _))).cell 1
  have d12_2 := (HF.out.row (.tail _ (.head _))).cell 2
  have d12_3 := (HF.out.row (.tail _ (.head _))).cell 3
  go_wp2_with (fail)
  go_must (refine (fsub_ok _ HB.out.size (HF.out.p (.tail _ (.tail _ (.head _)))) (HF.out.q (.tail _ (.tail _ (.head _)))) (HF.out.p (.tail _ (.head _))) (HF.out.q (.tail _ (.head _))) HR0.out HR1.out ((ZP0.out.mul ZQ1.out).fit) ((ZP1.out.mul ZQ0.out).fit) (Sz.fit (Sz.sub (ZP0.out.mul ZQ1.out) (ZP1.out.mul ZQ0.out) (n := 25) (by omega))) (Sz.fit (ZQ0.out.mul ZQ1.out))).mono ?_)
  rintro e W13 ⟨s13, A13, n13, c13, t13, B13, m13, d13, rfl, hp13, hq13, hb⟩
  replace HF := Lib.hid (HF.out.keep hb)
  replace HT := Lib.hid (HT.out.keep hb)
  replace HM := Lib.hid (HM.out.keep hb)
  replace HB := Lib.hid (Gen.over hb HB.out)
  have HP13 := Lib.hid (hp13)
  have HQ13 := Lib.hid (hq13)
  clear hp13 hq13
  clear hb
  clear d11_0 d11_1 d11_2 d11_3 d12_0 d12_1 d12_2 d12_3
  go_wp2_with (fail)
  go_must (refine (lright_yes _ HB.out.size HP13.out HQ13.out (rt_new NQ01.out)).mono ?_)
  rintro e W14 ⟨rfl, hb, hp, hq⟩
  replace HF := Lib.hid (HF.out.keep hb)
  replace HT := Lib.hid (HT.out.keep hb)
  replace HM := Lib.hid (HM.out.keep hb)
  replace HB := Lib.hid (Gen.over hb HB.out)
  replace HP13 := Lib.hid hp
  replace HQ13 := Lib.hid hq
  clear hp hq hb
  have hsg := HP13.out.sgn
  rw [HKS.out] at hsg
  rw [hsg] at HP13 ⊢
  clear hsg
  replace HT := Lib.hid (HT.out.keep (Gen.b_alloc (x := (.cells (fC k A13 n13 c13 t13 B13 m13 d13) 43)) (Below.refl _ _)))
  replace HM := Lib.hid (HM.out.keep (Gen.b_alloc (x := (.cells (fC k A13 n13 c13 t13 B13 m13 d13) 43)) (Below.refl _ _)))
  replace HB := Lib.hid (Gen.b_alloc (x := (.cells (fC k A13 n13 c13 t13 B13 m13 d13) 43)) HB.out)
  replace HF := Lib.hid (HF.out.ad HP13.out HQ13.out)
  clear HP13 HQ13
  have d13_0 := (HF.out.row (.tail _ (.tail _ (.tail _ (.head _))))).cell 0
  have d13_1 := (HF.out.row (.tail _ (.tail _ (.tail _ (.head _))))).cell 1
  have d13_2 := (HF.out.row (.tail _ (.tail _ (.tail _ (.head _))))).cell 2
  have d13_3 := (HF.out.row (.tail _ (.tail _ (.tail _ (.head _))))).cell 3
  have d14_0 := (HF.out.row (.tail _ (.head _))).cell 0
  have d14_1 := (HF.out.row (.tail _ (.head _))).cell 1
  have d14_2 := (HF.out.row (.tail _ (.head _))).cell 2
  have d14_3 := (HF.out.row (.tail _ (.head _))).cell 3
  go_wp2_with (fail)
  go_must (refine (fadd_ok _ HB.out.size (HF.out.p (.tail _ (.tail _ (.tail _ (.head _))))) (HF.out.q (.tail _ (.tail _ (.tail _ (.head _))))) (HF.out.p (.tail _ (.head _))) (HF.out.q (.tail _ (.head _))) HR0.out HR2.out ((ZP0.out.mul ZQ2.out).fit) ((ZP2.out.mul ZQ0.out).fit) (Sz.fit (Sz.add (ZP0.out.mul ZQ2.out) (ZP2.out.mul ZQ0.out) (n := 25) (by omega))) (Sz.fit (ZQ0.out.mul ZQ2.out))).mono ?_)
  rintro e W15 ⟨s15, A15, n15, c15, t15, B15, m15, d15, rfl, hp15, hq15, hb⟩
  replace HF := Lib.hid (HF.out.keep hb)
  replace HT := Lib.hid (HT.out.keep hb)
  replace HM := Lib.hid (HM.out.keep hb)
  replace HB := Lib.hid (Gen.over hb HB.out)
  have HP15 := Lib.hid (hp15)
  have HQ15 := Lib.hid (hq15)
  clear hp15 hq15
  clear hb
  clear d13_0 d13_1 d13_2 d13_3 d14_0 d14_1 d14_2 d14_3
  go_wp2_with (fail)
  go_must (refine (lright_yes _ HB.out.size HP15.out HQ15.out (rt_new NQ02.out)).mono ?_)
  rintro e W16 ⟨rfl, hb, hp, hq⟩
  replace HF := Lib.hid (HF.out.keep hb)
  replace HT := Lib.hid (HT.out.keep hb)
  replace HM := Lib.hid (HM.out.keep hb)
  replace HB := Lib.hid (Gen.over hb HB.out)
  replace HP15 := Lib.hid hp
  replace HQ15 := Lib.hid hq
  clear hp hq hb
  replace HT := Lib.hid (HT.out.keep (Gen.b_alloc (x := (.cells (fC s15 A15 n15 c15 t15 B15 m15 d15) 43)) (Below.refl _ _)))
  replace HM := Lib.hid (HM.out.keep (Gen.b_alloc (x := (.cells (fC s15 A15 n15 c15 t15 B15 m15 d15) 43)) (Below.refl _ _)))
  replace HB := Lib.hid (Gen.b_alloc (x := (.cells (fC s15 A15 n15 c15 t15 B15 m15 d15) 43)) HB.out)
  replace HF := Lib.hid (HF.out.ad HP15.out HQ15.out)
  clear HP15 HQ15
  have d15_0 := (HF.out.row (.tail _ (.tail _ (.tail _ (.head _))))).cell 0
  have d15_1 := (HF.out.row (.tail _ (.tail _ (.tail _ (.head _))))).cell 1
  have d15_2 := (HF.out.row (.tail _ (.tail _ (.tail _ (.head _))))).cell 2
  have d15_3 := (HF.out.row (.tail _ (.tail _ (.tail _ (.head _))))).cell 3
  have d16_0 := (HF.out.row (.tail _ (.tail _ (.head _)))).cell 0
  have d16_1 := (HF.out.row (.tail _ (.tail _ (.head _)))).cell 1
  have d16_2 := (HF.out.row (.tail _ (.tail _ (.head _)))).cell 2
  have d16_3 := (HF.out.row (.tail _ (.tail _ (.head _)))).cell 3
  go_wp2_with (fail)
  go_must (refine (fadd_ok _ HB.out.size (HF.out.p (.tail _ (.tail _ (.tail _ (.head _))))) (HF.out.q (.tail _ (.tail _ (.tail _ (.head _))))) (HF.out.p (.tail _ (.tail _ (.head _)))) (HF.out.q (.tail _ (.tail _ (.head _)))) HR1.out HR2.out ((ZP1.out.mul ZQ2.out).fit) ((ZP2.out.mul ZQ1.out).fit) (Sz.fit (Sz.add (ZP1.out.mul ZQ2.out) (ZP2.out.mul ZQ1.out) (n := 25) (by omega))) (Sz.fit (ZQ1.out.mul ZQ2.out))).mono ?_)
  rintro e W17 ⟨s17, A17, n17, c17, t17, B17, m17, d17, rfl, hp17, hq17, hb⟩
  replace HF := Lib.hid (HF.out.keep hb)
  replace HT := Lib.hid (HT.out.keep hb)
  replace HM := Lib.hid (HM.out.keep hb)
  replace HB := Lib.hid (Gen.over hb HB.out)
  have HP17 := Lib.hid (hp17)
  have HQ17 := Lib.hid (hq17)
  clear hp17 hq17
  clear hb
  clear d15_0 d15_1 d15_2 d15_3 d16_0 d16_1 d16_2 d16_3
  go_wp2_with (fail)
  go_must (refine (lright_yes _ HB.out.size HP17.out HQ17.out (rt_new NQ12.out)).mono ?_)
  rintro e W18 ⟨rfl, hb, hp, hq⟩
  replace HF := Lib.hid (HF.out.keep hb)
  replace HT := Lib.hid (HT.out.keep hb)
  replace HM := Lib.hid (HM.out.keep hb)
  replace HB := Lib.hid (Gen.over hb HB.out)
  replace HP17 := Lib.hid hp
  replace HQ17 := Lib.hid hq
  clear hp hq hb
  replace HT := Lib.hid (HT.out.keep (Gen.b_alloc (x := (.cells (fC s17 A17 n17 c17 t17 B17 m17 d17) 43)) (Below.refl _ _)))
  replace HM := Lib.hid (HM.out.keep (Gen.b_alloc (x := (.cells (fC s17 A17 n17 c17 t17 B17 m17 d17) 43)) (Below.refl _ _)))
  replace HB := Lib.hid (Gen.b_alloc (x := (.cells (fC s17 A17 n17 c17 t17 B17 m17 d17) 43)) HB.out)
  replace HF := Lib.hid (HF.out.ad HP17.out HQ17.out)
  clear HP17 HQ17
  have d17_0 := (HF.out.row (.tail _ (.tail _ (.tail _ (.tail _ (.tail _ (.head _))))))).cell 0
  have d17_1 := (HF.out.row (.tail _ (.tail _ (.tail _ (.tail _ (.tail _ (.head _))))))).cell 1
  have d17_2 := (HF.out.row (.tail _ (.tail _ (.tail _ (.tail _ (.tail _ (.head _))))))).cell 2
  have d17_3 := (HF.out.row (.tail _ (.tail _ (.tail _ (.tail _ (.tail _ (.head _))))))).cell 3
  have d18_0 := (HF.out.row (.tail _ (.tail _ (.tail _ (.head _))))).cell 0
  have d18_1 := (HF.out.row (.tail _ (.tail _ (.tail _ (.head _))))).cell 1
  have d18_2 := (HF.out.row (.tail _ (.tail _ (.tail _ (.head _))))).cell 2
  have d18_3 := (HF.out.row (.tail _ (.tail _ (.tail _ (.head _))))).cell 3
  go_wp2_with (fail)
  go_must (refine (fmul_ok _ HB.out.size (HF.out.p (.tail _ (.tail _ (.tail _ (.tail _ (.tail _ (.head _))))))) (HF.out.q (.tail _ (.tail _ (.tail _ (.tail _ (.tail _ (.head _))))))) (HF.out.p (.tail _ (.tail _ (.tail _ (.head _))))) (HF.out.q (.tail _ (.tail _ (.tail _ (.head _))))) HR0.out HR2.out (Sz.fit (ZP0.out.mul ZP2.out)) (Sz.fit (ZQ0.out.mul ZQ2.out))).mono ?_)
  rintro e W19 ⟨s19, A19, n19, c19, t19, B19, m19, d19, rfl, hp19, hq19, hb⟩
  replace HF := Lib.hid (HF.out.keep hb)
  replace HT := Lib.hid (HT.out.keep hb)
  replace HM := Lib.hid (HM.out.keep hb)
  replace HB := Lib.hid (Gen.over hb HB.out)
  have HP19 := Lib.hid (hp19)
  have HQ19 := Lib.hid (hq19)
  clear hp19 hq19
  clear hb
  clear d17_0 d17_1 d17_2 d17_3 d18_0 d18_1 d18_2 d18_3
  go_wp2_with (fail)
  go_must (refine (lright_yes _ HB.out.size HP19.out HQ19.out (rt_new NQ02.out)).mono ?_)
  rintro e W20 ⟨rfl, hb, hp, hq⟩
  replace HF := Lib.hid (HF.out.keep hb)
  replace HT := Lib.hid (HT.out.keep hb)
  replace HM := Lib.hid (HM.out.keep hb)
  replace HB := Lib.hid (Gen.over hb HB.out)
  replace HP19 := Lib.hid hp
  replace HQ19 := Lib.hid hq
  clear hp hq hb
  replace HT := Lib.hid (HT.out.keep (Gen.b_alloc (x := (.cells (fC s19 A19 n19 c19 t19 B19 m19 d19) 43)) (Below.refl _ _)))
  replace HM := Lib.hid (HM.out.keep (Gen.b_alloc (x := (.cells (fC s19 A19 n19 c19 t19 B19 m19 d19) 43)) (Below.refl _ _)))
  replace HB := Lib.hid (Gen.b_alloc (x := (.cells (fC s19 A19 n19 c19 t19 B19 m19 d19) 43)) HB.out)
  replace HF := Lib.hid (HF.out.ad HP19.out HQ19.out)
  clear HP19 HQ19
  have d19_0 := (HF.out.row (.tail _ (.tail _ (.tail _ (.tail _ (.tail _ (.head _))))))).cell 0
  have d19_1 := (HF.out.row (.tail _ (.tail _ (.tail _ (.tail _ (.tail _ (.head _))))))).cell 1
  have d19_2 := (HF.out.row (.tail _ (.tail _ (.tail _ (.tail _ (.tail _ (.head _))))))).cell 2
  have d19_3 := (HF.out.row (.tail _ (.tail _ (.tail _ (.tail _ (.tail _ (.head _))))))).cell 3
  have d20_0 := (HF.out.row (.tail _ (.tail _ (.tail _ (.tail _ (.head _)))))).cell 0
  have d20_1 := (HF.out.row (.tail _ (.tail _ (.tail _ (.tail _ (.head _)))))).cell 1
  have d20_2 := (HF.out.row (.tail _ (.tail _ (.tail _ (.tail _ (.head _)))))).cell 2
  have d20_3 := (HF.out.row (.tail _ (.tail _ (.tail _ (.tail _ (.head _)))))).cell 3
  go_wp2_with (fail)
  go_must (refine (fmul_ok _ HB.out.size (HF.out.p (.tail _ (.tail _ (.tail _ (.tail _ (.tail _ (.head _))))))) (HF.out.q (.tail _ (.tail _ (.tail _ (.tail _ (.tail _ (.head _))))))) (HF.out.p (.tail _ (.tail _ (.tail _ (.tail _ (.head _)))))) (HF.out.q (.tail _ (.tail _ (.tail _ (.tail _ (.head _)))))) HR1.out HR2.out (Sz.fit (ZP1.out.mul ZP2.out)) (Sz.fit (ZQ1.out.mul ZQ2.out))).mono ?_)
  rintro e W21 ⟨s21, A21, n21, c21, t21, B21, m21, d21, rfl, hp21, hq21, hb⟩
  replace HF := Lib.hid (HF.out.keep hb)
  replace HT := Lib.hid (HT.out.keep hb)
  replace HM := Lib.hid (HM.out.keep hb)
  replace HB := Lib.hid (Gen.over hb HB.out)
  have HP21 := Lib.hid (hp21)
  have HQ21 := Lib.hid (hq21)
  clear hp21 hq21
  clear hb
  clear d19_0 d19_1 d19_2 d19_3 d20_0 d20_1 d20_2 d20_3
  go_wp2_with (fail)
  go_must (refine (lright_yes _ HB.out.size HP21.out HQ21.out (rt_new NQ12.out)).mono ?_)
  rintro e W22 ⟨rfl, hb, hp, hq⟩
  replace HF := Lib.hid (HF.out.keep hb)
  replace HT := Lib.hid (HT.out.keep hb)
  replace HM := Lib.hid (HM.out.keep hb)
  replace HB := Lib.hid (Gen.over hb HB.out)
  replace HP21 := Lib.hid hp
  replace HQ21 := Lib.hid hq
  clear hp hq hb
  replace HT := Lib.hid (HT.out.keep (Gen.b_alloc (x := (.cells (fC s21 A21 n21 c21 t21 B21 m21 d21) 43)) (Below.refl _ _)))
  replace HM := Lib.hid (HM.out.keep (Gen.b_alloc (x := (.cells (fC s21 A21 n21 c21 t21 B21 m21 d21) 43)) (Below.refl _ _)))
  replace HB := Lib.hid (Gen.b_alloc (x := (.cells (fC s21 A21 n21 c21 t21 B21 m21 d21) 43)) HB.out)
  replace HF := Lib.hid (HF.out.ad HP21.out HQ21.out)
  clear HP21 HQ21
  have d21_0 := (HF.out.row (.tail _ (.tail _ (.tail _ (.tail _ (.head _)))))).cell 0
  have d21_1 := (HF.out.row (.tail _ (.tail _ (.tail _ (.tail _ (.head _)))))).cell 1
  have d21_2 := (HF.out.row (.tail _ (.tail _ (.tail _ (.tail _ (.head _)))))).cell 2
  have d21_3 := (HF.out.row (.tail _ (.tail _ (.tail _ (.tail _ (.head _)))))).cell 3
  have d22_0 := (HF.out.row (.tail _ (.tail _ (.tail _ (.head _))))).cell 0
  have d22_1 := (HF.out.row (.tail _ (.tail _ (.tail _ (.head _))))).cell 1
  have d22_2 := (HF.out.row (.tail _ (.tail _ (.tail _ (.head _))))).cell 2
  have d22_3 := (HF.out.row (.tail _ (.tail _ (.tail _ (.head _))))).cell 3
  have d23_0 := (HF.out.row (.tail _ (.tail _ (.head _)))).cell 0
  have d23_1 := (HF.out.row (.tail _ (.tail _ (.head _)))).cell 1
  have d23_2 := (HF.out.row (.tail _ (.tail _ (.head _)))).cell 2
  have d23_3 := (HF.out.row (.tail _ (.tail _ (.head _)))).cell 3
  go_wp2_with (fail)
  go_must (refine (fcmp_is (k := k) _ HB.out.size (HF.out.p (.tail _ (.tail _ (.tail _ (.head _))))) (HF.out.q (.tail _ (.tail _ (.tail _ (.head _))))) (HF.out.p (.tail _ (.tail _ (.head _)))) (HF.out.q (.tail _ (.tail _ (.head _)))) (rt_new NQ02.out) (rt_new NQ12.out) (Sz.fit (Sz.mul (np_sz NQ02.out (Sz.add (ZP0.out.mul ZQ2.out) (ZP2.out.mul ZQ0.out) (n := 25) (by omega))) (nq_sz NQ12.out (ZQ1.out.mul ZQ2.out)))) (Sz.fit (Sz.mul (np_sz NQ12.out (Sz.add (ZP1.out.mul ZQ2.out) (ZP2.out.mul ZQ1.out) (n := 25) (by omega))) (nq_sz NQ02.out (ZQ0.out.mul ZQ2.out)))) HKA.out).mono ?_)
  rintro e W23 ⟨rfl, hb⟩
  replace HF := Lib.hid (HF.out.keep hb)
  replace HT := Lib.hid (HT.out.keep hb)
  replace HM := Lib.hid (HM.out.keep hb)
  replace HB := Lib.hid (Gen.over hb HB.out)
  clear hb
  clear d22_0 d22_1 d22_2 d22_3 d23_0 d23_1 d23_2 d23_3
  clear d21_0 d21_1 d21_2 d21_3
  have HPm := Lib.hid (HF.out.p (.tail _ (.head _)))
  have HQm := Lib.hid (HF.out.q (.tail _ (.head _)))
  have HPn := Lib.hid (HF.out.p (.head _))
  have HQn := Lib.hid (HF.out.q (.head _))
  have HS0 : Hid (Below W23.heap.size W23 W23 ∧ W23.cell? ⟨W20.heap.size, 0, none⟩ = some (.int .i64 s19) ∧ W23.cell? ⟨W20.heap.size, 1, none⟩ = some (.slice A19 n19 c19) ∧ W23.cell? ⟨W20.heap.size, 2, none⟩ = some (.int .i64 t19) ∧ W23.cell? ⟨W20.heap.size, 3, none⟩ = some (.slice B19 m19 d19) ∧ W23.cell? ⟨W22.heap.size, 0, none⟩ = some (.int .i64 s21) ∧ W23.cell? ⟨W22.heap.size, 1, none⟩ = some (.slice A21 n21 c21) ∧ W23.cell? ⟨W22.heap.size, 2, none⟩ = some (.int .i64 t21) ∧ W23.cell? ⟨W22.heap.size, 3, none⟩ = some (.slice B21 m21 d21) ∧ W23.cell? ⟨(w.heap.size + 1 + 1), 0, none⟩ = some (.int .i64 s2) ∧ W23.cell? ⟨(w.heap.size + 1 + 1), 1, none⟩ = some (.slice A2 n2 c2) ∧ W23.cell? ⟨(w.heap.size + 1 + 1), 2, none⟩ = some (.int .i64 t2) ∧ W23.cell? ⟨(w.heap.size + 1 + 1), 3, none⟩ = some (.slice B2 m2 d2)) := Lib.hid ⟨Below.refl _ _, (HF.out.row (.tail _ (.head _))).cell 0, (HF.out.row (.tail _ (.head _))).cell 1, (HF.out.row (.tail _ (.head _))).cell 2, (HF.out.row (.tail _ (.head _))).cell 3, (HF.out.row (.head _)).cell 0, (HF.out.row (.head _)).cell 1, (HF.out.row (.head _)).cell 2, (HF.out.row (.head _)).cell 3, (HF.out.row (.tail _ (.tail _ (.tail _ (.tail _ (.tail _ (.head _))))))).cell 0, (HF.out.row (.tail _ (.tail _ (.tail _ (.tail _ (.tail _ (.head _))))))).cell 1, (HF.out.row (.tail _ (.tail _ (.tail _ (.tail _ (.tail _ (.head _))))))).cell 2, (HF.out.row (.tail _ (.tail _ (.tail _ (.tail _ (.tail _ (.head _))))))).cell 3⟩
  go_wp2_with (fail)
  go_region_held3 (fun W' : World => Below W23.heap.size W23 W' ∧ W'.cell? ⟨W20.heap.size, 0, none⟩ = some (.int .i64 s19) ∧ W'.cell? ⟨W20.heap.size, 1, none⟩ = some (.slice A19 n19 c19) ∧ W'.cell? ⟨W20.heap.size, 2, none⟩ = some (.int .i64 t19) ∧ W'.cell? ⟨W20.heap.size, 3, none⟩ = some (.slice B19 m19 d19) ∧ W'.cell? ⟨W22.heap.size, 0, none⟩ = some (.int .i64 s21) ∧ W'.cell? ⟨W22.heap.size, 1, none⟩ = some (.slice A21 n21 c21) ∧ W'.cell? ⟨W22.heap.size, 2, none⟩ = some (.int .i64 t21) ∧ W'.cell? ⟨W22.heap.size, 3, none⟩ = some (.slice B21 m21 d21) ∧ W'.cell? ⟨(w.heap.size + 1 + 1), 0, none⟩ = some (.int .i64 s2) ∧ W'.cell? ⟨(w.heap.size + 1 + 1), 1, none⟩ = some (.slice A2 n2 c2) ∧ W'.cell? ⟨(w.heap.size + 1 + 1), 2, none⟩ = some (.int .i64 t2) ∧ W'.cell? ⟨(w.heap.size + 1 + 1), 3, none⟩ = some (.slice B2 m2 d2))
    (first | exact hS5 | exact ⟨HS0.out.1.drew, HS0.out.2⟩ | fail "keep")
    (first
      | (go_at_call 56; (with_reducible refine (fcmp_is (k := k * s2) _ (Nat.le_trans HB.out.size (Below.size (And.left (by assumption)))) (HPm.out.keep (And.left (by assumption))) (HQm.out.keep (And.left (by assumption))) (HPn.out.keep (And.left (by assumption))) (HQn.out.keep (And.left (by assumption))) (rt_new NQ02.out) (rt_new NQ12.out) (Sz.fit (Sz.mul (np_sz NQ02.out (ZP0.out.mul ZP2.out)) (nq_sz NQ12.out (ZQ1.out.mul ZQ2.out)))) (Sz.fit (Sz.mul (np_sz NQ12.out (ZP1.out.mul ZP2.out)) (nq_sz NQ02.out (ZQ0.out.mul ZQ2.out)))) HKM.out).mono ?_); rintro e' w' ⟨rfl, hb⟩; have hS5 := (show (Below W23.heap.size W23 w' ∧ w'.cell? ⟨W20.heap.size, 0, none⟩ = some (.int .i64 s19) ∧ w'.cell? ⟨W20.heap.size, 1, none⟩ = some (.slice A19 n19 c19) ∧ w'.cell? ⟨W20.heap.size, 2, none⟩ = some (.int .i64 t19) ∧ w'.cell? ⟨W20.heap.size, 3, none⟩ = some (.slice B19 m19 d19) ∧ w'.cell? ⟨W22.heap.size, 0, none⟩ = some (.int .i64 s21) ∧ w'.cell? ⟨W22.heap.size, 1, none⟩ = some (.slice A21 n21 c21) ∧ w'.cell? ⟨W22.heap.size, 2, none⟩ = some (.int .i64 t21) ∧ w'.cell? ⟨W22.heap.size, 3, none⟩ = some (.slice B21 m21 d21) ∧ w'.cell? ⟨(w.heap.size + 1 + 1), 0, none⟩ = some (.int .i64 s2) ∧ w'.cell? ⟨(w.heap.size + 1 + 1), 1, none⟩ = some (.slice A2 n2 c2) ∧ w'.cell? ⟨(w.heap.size + 1 + 1), 2, none⟩ = some (.int .i64 t2) ∧ w'.cell? ⟨(w.heap.size + 1 + 1), 3, none⟩ = some (.slice B2 m2 d2)) from ⟨Gen.over hb (And.left (by assumption)), Gen.keep hb (And.left (And.right (by assumption))), Gen.keep hb (And.left (And.right (And.right (by assumption)))), Gen.keep hb (And.left (And.right (And.right (And.right (by assumption))))), Gen.keep hb (And.left (And.right (And.right (And.right (And.right (by assumption)))))), Gen.keep hb (And.left (And.right (And.right (And.right (And.right (And.right (by assumption))))))), Gen.keep hb (And.left (And.right (And.right (And.right (And.right (And.right (And.right (by assumption)))))))), Gen.keep hb (And.left (And.right (And.right (And.right (And.right (And.right (And.right (And.right (by assumption))))))))), Gen.keep hb (And.left (And.right (And.right (And.right (And.right (And.right (And.right (And.right (And.right (by assumption)))))))))), Gen.keep hb (And.left (And.right (And.right (And.right (And.right (And.right (And.right (And.right (And.right (And.right (by assumption))))))))))), Gen.keep hb (And.left (And.right (And.right (And.right (And.right (And.right (And.right (And.right (And.right (And.right (And.right (by assumption)))))))))))), Gen.keep hb (And.left (And.right (And.right (And.right (And.right (And.right (And.right (And.right (And.right (And.right (And.right (And.right (by assumption))))))))))))), Gen.keep hb (And.right (And.right (And.right (And.right (And.right (And.right (And.right (And.right (And.right (And.right (And.right (And.right (by assumption)))))))))))))⟩))
      | fail "arm")
  all_goals
    have HG := Lib.hid (Gen.over hS5.1 HB.out)
    go_wp2
    go_ret
    exact ⟨rfl, HG.out⟩
end
end Go.Proofs.YtnifkianjpjahaaGreatDoor.Bg
