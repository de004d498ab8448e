/- Texts of one kind joined: fractions, second part. -/
import Derived.Test.YtnifkianjpjahaaGreatDoorFmA
/- Fractions: sums, differences, products, quotients, comparing, the greatest integer below: what fits. -/
namespace Go.Proofs.YtnifkianjpjahaaGreatDoor.Bg
open Go.ChangeShapes Go.WideShapes Go.ChangeAt Go.RowKit Go.Proofs.YtnifkianjpjahaaGreatDoor.Cell
set_option linter.unusedVariables false
set_option linter.unusedSimpArgs false
variable {N0 : Nat}
section
variable {s s' t t' : Int} {A A' B B' : Option Addr} {n c n' c' m d m' d' : Nat} {p q x y : Int}
set_option maxRecDepth 100000 in
set_option maxHeartbeats 8000000 in
theorem fadd_ok (w : World) (hN : N0 ≤ w.heap.size) (hp : IsBig N0 w (bigV s A n c) p) (hq : IsBig N0 w (bigV s' A' n' c') q) (hx : IsBig N0 w (bigV t B m d) x) (hy : IsBig N0 w (bigV t' B' m' d') y) (r1 : Rt p q) (r2 : Rt x y) (f1 : Fit (p * y)) (f2 : Fit (x * q)) (f3 : Fit (p * y + x * q)) (f4 : Fit (q * y)) :
    Calls Tryz.prog 39 #[frV s A n c s' A' n' c', frV t B m d t' B' m' d'] w fun e w' => ∃ s A n c s' A' n' c', e = .returned (.tuple #[frV s A n c s' A' n' c', .int .i64 0]) ∧ IsBig N0 w' (bigV s A n c) (np (p * y + x * q) (q * y)) ∧ IsBig N0 w' (bigV s' A' n' c') (nq (p * y + x * q) (q * y)) ∧ Below w.heap.size w w' := by
  have HR1 := Lib.hid r1
  have HR2 := Lib.hid r2
  have HF1 := Lib.hid f1
  have HF2 := Lib.hid f2
  have HF3 := Lib.hid f3
  have HF4 := Lib.hid f4
  have HP := Lib.hid hp
  have HQ := Lib.hid hq
  have HX := Lib.hid hx
  have HY := Lib.hid hy
  have HNN := Lib.hid hN
  have HB : Hid (Below w.heap.size w (((w.alloc (.cells (fC s A n c s' A' n' c') 43)).alloc (.cells (fC t B m d t' B' m' d') 43)).alloc (.cells fz4 43))) := Lib.hid (Gen.b_alloc (Gen.b_alloc (Gen.b_alloc (Below.refl _ _))))
  have RA : Hid (Row (((w.alloc (.cells (fC s A n c s' A' n' c') 43)).alloc (.cells (fC t B m d t' B' m' d') 43)).alloc (.cells fz4 43)) w.heap.size 43 (fC s A n c s' A' n' c')) := Lib.hid (((Row.new _ _ _).alloc _).alloc _)
  have RB : Hid (Row (((w.alloc (.cells (fC s A n c s' A' n' c') 43)).alloc (.cells (fC t B m d t' B' m' d') 43)).alloc (.cells fz4 43)) (w.heap.size + 1) 43 (fC t B m d t' B' m' d')) := Lib.hid (by
    have h := (Row.new (w.alloc (.cells (fC s A n c s' A' n' c') 43)) 43 (fC t B m d t' B' m' d')).alloc (.cells fz4 43)
    rwa [World.size_alloc] at h)
  have RR : Hid (Row (((w.alloc (.cells (fC s A n c s' A' n' c') 43)).alloc (.cells (fC t B m d t' B' m' d') 43)).alloc (.cells fz4 43)) (w.heap.size + 1 + 1) 43 fz4) := Lib.hid (by
    have h := Row.new (((w.alloc (.cells (fC s A n c s' A' n' c') 43)).alloc (.cells (fC t B m d t' B' m' d') 43))) 43 fz4
    rwa [World.size_alloc, World.size_alloc] at h)
  replace HP := Lib.hid (HP.out.keep HB.out)
  replace HQ := Lib.hid (HQ.out.keep HB.out)
  replace HX := Lib.hid (HX.out.keep HB.out)
  replace HY := Lib.hid (HY.out.keep HB.out)
  clear hp hq hx hy r1 r2 f1 f2 f3 f4 hN
  go_enter Tryz.func39, Tryz.ntmps39
  go_wp2_with (fail)
  go_must (refine (comb_add _ (Nat.le_trans HNN.out HB.out.size) HP.out HQ.out HX.out HY.out HR1.out HR2.out HF1.out HF2.out HF3.out HF4.out).mono ?_)
  rintro e W1 ⟨sr, Ar, nr, cr, tr, Br, mr, dr, rfl, hN1, hN2, hb⟩
  replace RA := Lib.hid (RA.out.keep hb)
  replace RB := Lib.hid (RB.out.keep hb)
  replace RR := Lib.hid (RR.out.keep hb)
  replace HP := Lib.hid (HP.out.keep hb)
  replace HQ := Lib.hid (HQ.out.keep hb)
  replace HX := Lib.hid (HX.out.keep hb)
  replace HY := Lib.hid (HY.out.keep hb)
  replace HB := Lib.hid (Gen.over hb HB.out)
  clear hb 
  have HN1 := Lib.hid hN1
  clear hN1
  have HN2 := Lib.hid hN2
  clear hN2
  have gr0 := RR.out.frozen 0
  have gc0 := RR.out.cell 0
  have gr1 := RR.out.frozen 1
  have gc1 := RR.out.cell 1
  have gr2 := RR.out.frozen 2
  have gc2 := RR.out.cell 2
  have gr3 := RR.out.frozen 3
  have gc3 := RR.out.cell 3
  have hlt2 := RR.out.lt
  go_wp2
  refine bodyPost_ret (v := .tuple #[frV sr Ar nr cr tr Br mr dr, .int .i64 0]) ?_ rfl ⟨_, _, _, _, _, _, _, _, rfl, HN1.out.set4 RR.out (by have := HNN.out; omega) _ _ _ _, HN2.out.set4 RR.out (by have := HNN.out; omega) _ _ _ _, below_set4 HB.out (by omega) _ _ _ _⟩
  simp [results, Tryz.results39, go_sem, *]
set_option maxRecDepth 100000 in
set_option maxHeartbeats 8000000 in
theorem fsub_ok (w : World) (hN : N0 ≤ w.heap.size) (hp : IsBig N0 w (bigV s A n c) p) (hq : IsBig N0 w (bigV s' A' n' c') q) (hx : IsBig N0 w (bigV t B m d) x) (hy : IsBig N0 w (bigV t' B' m' d') y) (r1 : Rt p q) (r2 : Rt x y) (f1 : Fit (p * y)) (f2 : Fit (x * q)) (f3 : Fit (p * y - x * q)) (f4 : Fit (q * y)) :
    Calls Tryz.prog 41 #[frV s A n c s' A' n' c', frV t B m d t' B' m' d'] w fun e w' => ∃ s A n c s' A' n' c', e = .returned (.tuple #[frV s A n c s' A' n' c', .int .i64 0]) ∧ IsBig N0 w' (bigV s A n c) (np (p * y - x * q) (q * y)) ∧ IsBig N0 w' (bigV s' A' n' c') (nq (p * y - x * q) (q * y)) ∧ Below w.heap.size w w' := by
  have HR1 := Lib.hid r1
  have HR2 := Lib.hid r2
  have HF1 := Lib.hid f1
  have HF2 := Lib.hid f2
  have HF3 := Lib.hid f3
  have HF4 := Lib.hid f4
  have HP := Lib.hid hp
  have HQ := Lib.hid hq
  have HX := Lib.hid hx
  have HY := Lib.hid hy
  have HNN := Lib.hid hN
  have HB : Hid (Below w.heap.size w (((w.alloc (.cells (fC s A n c s' A' n' c') 43)).alloc (.cells (fC t B m d t' B' m' d') 43)).alloc (.cells fz4 43))) := Lib.hid (Gen.b_alloc (Gen.b_alloc (Gen.b_alloc (Below.refl _ _))))
  have RA : Hid (Row (((w.alloc (.cells (fC s A n c s' A' n' c') 43)).alloc (.cells (fC t B m d t' B' m' d') 43)).alloc (.cells fz4 43)) w.heap.size 43 (fC s A n c s' A' n' c')) := Lib.hid (((Row.new _ _ _).alloc _).alloc _)
  have RB : Hid (Row (((w.alloc (.cells (fC s A n c s' A' n' c') 43)).alloc (.cells (fC t B m d t' B' m' d') 43)).alloc (.cells fz4 43)) (w.heap.size + 1) 43 (fC t B m d t' B' m' d')) := Lib.hid (by
    have h := (Row.new (w.alloc (.cells (fC s A n c s' A' n' c') 43)) 43 (fC t B m d t' B' m' d')).alloc (.cells fz4 43)
    rwa [World.size_alloc] at h)
  have RR : Hid (Row (((w.alloc (.cells (fC s A n c s' A' n' c') 43)).alloc (.cells (fC t B m d t' B' m' d') 43)).alloc (.cells fz4 43)) (w.heap.size + 1 + 1) 43 fz4) := Lib.hid (by
    have h := Row.new (((w.alloc (.cells (fC s A n c s' A' n' c') 43)).alloc (.cells (fC t B m d t' B' m' d') 43))) 43 fz4
    rwa [World.size_alloc, World.size_alloc] at h)
  replace HP := Lib.hid (HP.out.keep HB.out)
  replace HQ := Lib.hid (HQ.out.keep HB.out)
  replace HX := Lib.hid (HX.out.keep HB.out)
  replace HY := Lib.hid (HY.out.keep HB.out)
  clear hp hq hx hy r1 r2 f1 f2 f3 f4 hN
  go_enter Tryz.func41, Tryz.ntmps41
  go_wp2_with (fail)
  go_must (refine (comb_sub _ (Nat.le_trans HNN.out HB.out.size) HP.out HQ.out HX.out HY.out HR1.out HR2.out HF1.out HF2.out HF3.out HF4.out).mono ?_)
  rintro e W1 ⟨sr, Ar, nr, cr, tr, Br, mr, dr, rfl, hN1, hN2, hb⟩
  replace RA := Lib.hid (RA.out.keep hb)
  replace RB := Lib.hid (RB.out.keep hb)
  replace RR := Lib.hid (RR.out.keep hb)
  replace HP := Lib.hid (HP.out.keep hb)
  replace HQ := Lib.hid (HQ.out.keep hb)
  replace HX := Lib.hid (HX.out.keep hb)
  replace HY := Lib.hid (HY.out.keep hb)
  replace HB := Lib.hid (Gen.over hb HB.out)
  clear hb 
  have HN1 := Lib.hid hN1
  clear hN1
  have HN2 := Lib.hid hN2
  clear hN2
  have gr0 := RR.out.frozen 0
  have gc0 := RR.out.cell 0
  have gr1 := RR.out.frozen 1
  have gc1 := RR.out.cell 1
  have gr2 := RR.out.frozen 2
  have gc2 := RR.out.cell 2
  have gr3 := RR.out.frozen 3
  have gc3 := RR.out.cell 3
  have hlt2 := RR.out.lt
  go_wp2
  refine bodyPost_ret (v := .tuple #[frV sr Ar nr cr tr Br mr dr, .int .i64 0]) ?_ rfl ⟨_, _, _, _, _, _, _, _, rfl, HN1.out.set4 RR.out (by have := HNN.out; omega) _ _ _ _, HN2.out.set4 RR.out (by have := HNN.out; omega) _ _ _ _, below_set4 HB.out (by omega) _ _ _ _⟩
  simp [results, Tryz.results41, go_sem, *]
set_option maxRecDepth 100000 in
set_option maxHeartbeats 8000000 in
theorem prods_ok (w : World) (hN : N0 ≤ w.heap.size) (hp : IsBig N0 w (bigV s A n c) p) (hx : IsBig N0 w (bigV t B m d) x) (hq : IsBig N0 w (bigV s' A' n' c') q) (hy : IsBig N0 w (bigV t' B' m' d') y) (f1 : Fit (p * x)) (f2 : Fit (q * y)) (h0 : q * y ≠ 0) :
    Calls Tryz.prog 97 #[bigV s A n c, bigV t B m d, bigV s' A' n' c', bigV t' B' m' d'] w fun e w' => ∃ s A n c s' A' n' c', e = .returned (.tuple #[frV s A n c s' A' n' c', .int .i64 0]) ∧ IsBig N0 w' (bigV s A n c) (np (p * x) (q * y)) ∧ IsBig N0 w' (bigV s' A' n' c') (nq (p * x) (q * y)) ∧ Below w.heap.size w w' := by
  have HF1 := Lib.hid f1
  have HF2 := Lib.hid f2
  have H0 := Lib.hid h0
  have HP := Lib.hid hp
  have HQ := Lib.hid hq
  have HX := Lib.hid hx
  have HY := Lib.hid hy
  have HNN := Lib.hid hN
  have HB : Hid (Below w.heap.size w (((((w.alloc (.cells #[.int .i64 s, .slice A n c] 24)).alloc (.cells #[.int .i64 t, .slice B m d] 24)).alloc (.cells #[.int .i64 s', .slice A' n' c'] 24)).alloc (.cells #[.int .i64 t', .slice B' m' d'] 24)).alloc (.cells fz4 43))) := Lib.hid (Gen.b_alloc (Gen.b_alloc (Gen.b_alloc (Gen.b_alloc (Gen.b_alloc (Below.refl _ _))))))
  have R1 : Hid (Row (((((w.alloc (.cells #[.int .i64 s, .slice A n c] 24)).alloc (.cells #[.int .i64 t, .slice B m d] 24)).alloc (.cells #[.int .i64 s', .slice A' n' c'] 24)).alloc (.cells #[.int .i64 t', .slice B' m' d'] 24)).alloc (.cells fz4 43)) w.heap.size 24 #[.int .i64 s, .slice A n c]) := Lib.hid (((((Row.new _ _ _).alloc _).alloc _).alloc _).alloc _)
  have R2 : Hid (Row (((((w.alloc (.cells #[.int .i64 s, .slice A n c] 24)).alloc (.cells #[.int .i64 t, .slice B m d] 24)).alloc (.cells #[.int .i64 s', .slice A' n' c'] 24)).alloc (.cells #[.int .i64 t', .slice B' m' d'] 24)).alloc (.cells fz4 43)) (w.heap.size + 1) 24 #[.int .i64 t, .slice B m d]) := Lib.hid (by
    have h := (((Row.new (w.alloc (.cells #[.int .i64 s, .slice A n c] 24)) 24 #[.int .i64 t, .slice B m d]).alloc (.cells #[.int .i64 s', .slice A' n' c'] 24)).alloc (.cells #[.int .i64 t', .slice B' m' d'] 24)).alloc (.cells fz4 43)
    rwa [World.size_alloc] at h)
  have R3 : Hid (Row (((((w.alloc (.cells #[.int .i64 s, .slice A n c] 24)).alloc (.cells #[.int .i64 t, .slice B m d] 24)).alloc (.cells #[.int .i64 s', .slice A' n' c'] 24)).alloc (.cells #[.int .i64 t', .slice B' m' d'] 24)).alloc (.cells fz4 43)) (w.heap.size + 1 + 1) 24 #[.int .i64 s', .slice A' n' c']) := Lib.hid (by
    have h := ((Row.new ((w.alloc (.cells #[.int .i64 s, .slice A n c] 24)).alloc (.cells #[.int .i64 t, .slice B m d] 24)) 24 #[.int .i64 s', .slice A' n' c']).alloc (.cells #[.int .i64 t', .slice B' m' d'] 24)).alloc (.cells fz4 43)
    rwa [World.size_alloc, World.size_alloc] at h)
  have R4 : Hid (Row (((((w.alloc (.cells #[.int .i64 s, .slice A n c] 24)).alloc (.cells #[.int .i64 t, .slice B m d] 24)).alloc (.cells #[.int .i64 s', .slice A' n' c'] 24)).alloc (.cells #[.int .i64 t', .slice B' m' d'] 24)).alloc (.cells fz4 43)) (w.heap.size + 1 + 1 + 1) 24 #[.int .i64 t', .slice B' m' d']) := Lib.hid (by
    have h := (Row.new (((w.alloc (.cells #[.int .i64 s, .slice A n c] 24)).alloc (.cells #[.int .i64 t, .slice B m d] 24)).alloc (.cells #[.int .i64 s', .slice A' n' c'] 24)) 24 #[.int .i64 t', .slice B' m' d']).alloc (.cells fz4 43)
    rwa [World.size_alloc, World.size_alloc, World.size_alloc] at h)
  have RR : Hid (Row (((((w.alloc (.cells #[.int .i64 s, .slice A n c] 24)).alloc (.cells #[.int .i64 t, .slice B m d] 24)).alloc (.cells #[.int .i64 s', .slice A' n' c'] 24)).alloc (.cells #[.int .i64 t', .slice B' m' d'] 24)).alloc (.cells fz4 43)) (w.heap.size + 1 + 1 + 1 + 1) 43 fz4) := Lib.hid (by
    have h := Row.new ((((w.alloc (.cells #[.int .i64 s, .slice A n c] 24)).alloc (.cells #[.int .i64 t, .slice B m d] 24)).alloc (.cells #[.int .i64 s', .slice A' n' c'] 24)).alloc (.cells #[.int .i64 t', .slice B' m' d'] 24)) 43 fz4
    rwa [World.size_alloc, World.size_alloc, World.size_alloc, World.size_alloc] at h)
  replace HP := Lib.hid (HP.out.keep HB.out)
  replace HQ := Lib.hid (HQ.out.keep HB.out)
  replace HX := Lib.hid (HX.out.keep HB.out)
  replace HY := Lib.hid (HY.out.keep HB.out)
  clear hp hq hx hy f1 f2 h0 hN
  go_enter Tryz.func97, Tryz.ntmps97
  go_wp2_with (fail)
  go_must (refine (mul_as _ HP.out HX.out HF1.out).mono ?_)
  rintro e W1 ⟨C1, k1, e1, rfl, hu1, hb⟩
  replace R1 := Lib.hid (R1.out.keep hb)
  replace R2 := Lib.hid (R2.out.keep hb)
  replace R3 := Lib.hid (R3.out.keep hb)
  replace R4 := Lib.hid (R4.out.keep hb)
  replace RR := Lib.hid (RR.out.keep hb)
  replace HP := Lib.hid (HP.out.keep hb)
  replace HQ := Lib.hid (HQ.out.keep hb)
  replace HX := Lib.hid (HX.out.keep hb)
  replace HY := Lib.hid (HY.out.keep hb)
  replace HB := Lib.hid (Gen.over hb HB.out)
  clear hb 
  have Hu1 := Lib.hid hu1
  clear hu1
  have Ru1 := Lib.hid (Row.new W1 24 #[.int .i64 (sg (p * x)), .slice C1 k1 e1])
  replace R1 := Lib.hid (R1.out.alloc (.cells #[.int .i64 (sg (p * x)), .slice C1 k1 e1] 24))
  replace R2 := Lib.hid (R2.out.alloc (.cells #[.int .i64 (sg (p * x)), .slice C1 k1 e1] 24))
  replace R3 := Lib.hid (R3.out.alloc (.cells #[.int .i64 (sg (p * x)), .slice C1 k1 e1] 24))
  replace R4 := Lib.hid (R4.out.alloc (.cells #[.int .i64 (sg (p * x)), .slice C1 k1 e1] 24))
  replace RR := Lib.hid (RR.out.alloc (.cells #[.int .i64 (sg (p * x)), .slice C1 k1 e1] 24))
  replace HP := Lib.hid (HP.out.keep (Gen.b_alloc (x := (.cells #[.int .i64 (sg (p * x)), .slice C1 k1 e1] 24)) (Below.refl _ _)))
  replace HQ := Lib.hid (HQ.out.keep (Gen.b_alloc (x := (.cells #[.int .i64 (sg (p * x)), .slice C1 k1 e1] 24)) (Below.refl _ _)))
  replace HX := Lib.hid (HX.out.keep (Gen.b_alloc (x := (.cells #[.int .i64 (sg (p * x)), .slice C1 k1 e1] 24)) (Below.refl _ _)))
  replace HY := Lib.hid (HY.out.keep (Gen.b_alloc (x := (.cells #[.int .i64 (sg (p * x)), .slice C1 k1 e1] 24)) (Below.refl _ _)))
  replace Hu1 := Lib.hid (Hu1.out.keep (Gen.b_alloc (x := (.cells #[.int .i64 (sg (p * x)), .slice C1 k1 e1] 24)) (Below.refl _ _)))
  replace HB := Lib.hid (Gen.b_alloc (x := (.cells #[.int .i64 (sg (p * x)), .slice C1 k1 e1] 24)) HB.out)
  have R3c0 := R3.out.cell 0
  have R3c1 := R3.out.cell 1
  have R4c0 := R4.out.cell 0
  have R4c1 := R4.out.cell 1
  go_wp2_with (fail)
  go_must (refine (mul_as _ HQ.out HY.out HF2.out).mono ?_)
  rintro e W2 ⟨C2, k2, e2, rfl, hu2, hb⟩
  replace R1 := Lib.hid (R1.out.keep hb)
  replace R2 := Lib.hid (R2.out.keep hb)
  replace R3 := Lib.hid (R3.out.keep hb)
  replace R4 := Lib.hid (R4.out.keep hb)
  replace RR := Lib.hid (RR.out.keep hb)
  replace Ru1 := Lib.hid (Ru1.out.keep hb)
  replace HP := Lib.hid (HP.out.keep hb)
  replace HQ := Lib.hid (HQ.out.keep hb)
  replace HX := Lib.hid (HX.out.keep hb)
  replace HY := Lib.hid (HY.out.keep hb)
  replace Hu1 := Lib.hid (Hu1.out.keep hb)
  replace HB := Lib.hid (Gen.over hb HB.out)
  clear hb R3c0 R3c1 R4c0 R4c1
  have Hu2 := Lib.hid hu2
  clear hu2
  have Ru2 := Lib.hid (Row.new W2 24 #[.int .i64 (sg (q * y)), .slice C2 k2 e2])
  replace R1 := Lib.hid (R1.out.alloc (.cells #[.int .i64 (sg (q * y)), .slice C2 k2 e2] 24))
  replace R2 := Lib.hid (R2.out.alloc (.cells #[.int .i64 (sg (q * y)), .slice C2 k2 e2] 24))
  replace R3 := Lib.hid (R3.out.alloc (.cells #[.int .i64 (sg (q * y)), .slice C2 k2 e2] 24))
  replace R4 := Lib.hid (R4.out.alloc (.cells #[.int .i64 (sg (q * y)), .slice C2 k2 e2] 24))
  replace RR := Lib.hid (RR.out.alloc (.cells #[.int .i64 (sg (q * y)), .slice C2 k2 e2] 24))
  replace Ru1 := Lib.hid (Ru1.out.alloc (.cells #[.int .i64 (sg (q * y)), .slice C2 k2 e2] 24))
  replace HP := Lib.hid (HP.out.keep (Gen.b_alloc (x := (.cells #[.int .i64 (sg (q * y)), .slice C2 k2 e2] 24)) (Below.refl _ _)))
  replace HQ := Lib.hid (HQ.out.keep (Gen.b_alloc (x := (.cells #[.int .i64 (sg (q * y)), .slice C2 k2 e2] 24)) (Below.refl _ _)))
  replace HX := Lib.hid (HX.out.keep (Gen.b_alloc (x := (.cells #[.int .i64 (sg (q * y)), .slice C2 k2 e2] 24)) (Below.refl _ _)))
  replace HY := Lib.hid (HY.out.keep (Gen.b_alloc (x := (.cells #[.int .i64 (sg (q * y)), .slice C2 k2 e2] 24)) (Below.refl _ _)))
  replace Hu1 := Lib.hid (Hu1.out.keep (Gen.b_alloc (x := (.cells #[.int .i64 (sg (q * y)), .slice C2 k2 e2] 24)) (Below.refl _ _)))
  replace Hu2 := Lib.hid (Hu2.out.keep (Gen.b_alloc (x := (.cells #[.int .i64 (sg (q * y)), .slice C2 k2 e2] 24)) (Below.refl _ _)))
  replace HB := Lib.hid (Gen.b_alloc (x := (.cells #[.int .i64 (sg (q * y)), .slice C2 k2 e2] 24)) HB.out)
  have Ru1c0 := Ru1.out.cell 0
  have Ru1c1 := Ru1.out.cell 1
  have Ru2c0 := Ru2.out.cell 0
  have Ru2c1 := Ru2.out.cell 1
  go_wp2_with (fail)
  go_must (refine (New_val _ (Nat.le_trans HNN.out HB.out.size) Hu1.out Hu2.out H0.out).mono ?_)
  rintro e W3 ⟨sr, Ar, nr, cr, tr, Br, mr, dr, rfl, hN1, hN2, hb⟩
  replace R1 := Lib.hid (R1.out.keep hb)
  replace R2 := Lib.hid (R2.out.keep hb)
  replace R3 := Lib.hid (R3.out.keep hb)
  replace R4 := Lib.hid (R4.out.keep hb)
  replace RR := Lib.hid (RR.out.keep hb)
  replace Ru1 := Lib.hid (Ru1.out.keep hb)
  replace Ru2 := Lib.hid (Ru2.out.keep hb)
  replace HP := Lib.hid (HP.out.keep hb)
  replace HQ := Lib.hid (HQ.out.keep hb)
  replace HX := Lib.hid (HX.out.keep hb)
  replace HY := Lib.hid (HY.out.keep hb)
  replace Hu1 := Lib.hid (Hu1.out.keep hb)
  replace Hu2 := Lib.hid (Hu2.out.keep hb)
  replace HB := Lib.hid (Gen.over hb HB.out)
  clear hb Ru1c0 Ru1c1 Ru2c0 Ru2c1
  have HN1 := Lib.hid hN1
  clear hN1
  have HN2 := Lib.hid hN2
  clear hN2
  have gr0 := RR.out.frozen 0
  have gc0 := RR.out.cell 0
  have gr1 := RR.out.frozen 1
  have gc1 := RR.out.cell 1
  have gr2 := RR.out.frozen 2
  have gc2 := RR.out.cell 2
  have gr3 := RR.out.frozen 3
  have gc3 := RR.out.cell 3
  have hlt2 := RR.out.lt
  go_wp2
  refine bodyPost_ret (v := .tuple #[frV sr Ar nr cr tr Br mr dr, .int .i64 0]) ?_ rfl ⟨_, _, _, _, _, _, _, _, rfl, HN1.out.set4 RR.out (by have := HNN.out; omega) _ _ _ _, HN2.out.set4 RR.out (by have := HNN.out; omega) _ _ _ _, below_set4 HB.out (by omega) _ _ _ _⟩
  simp [results, Tryz.results97, go_sem, *]
set_option maxRecDepth 100000 in
set_option maxHeartbeats 8000000 in
theorem fmul_ok (w : World) (hN : N0 ≤ w.heap.size) (hp : IsBig N0 w (bigV s A n c) p) (hq : IsBig N0 w (bigV s' A' n' c') q) (hx : IsBig N0 w (bigV t B m d) x) (hy : IsBig N0 w (bigV t' B' m' d') y) (r1 : Rt p q) (r2 : Rt x y) (f1 : Fit (p * x)) (f2 : Fit (q * y)) :
    Calls Tryz.prog 44 #[frV s A n c s' A' n' c', frV t B m d t' B' m' d'] w fun e w' => ∃ s A n c s' A' n' c', e = .returned (.tuple #[frV s A n c s' A' n' c', .int .i64 0]) ∧ IsBig N0 w' (bigV s A n c) (np (p * x) (q * y)) ∧ IsBig N0 w' (bigV s' A' n' c') (nq (p * x) (q * y)) ∧ Below w.heap.size w w' := by
  have H0 : Hid (q * y ≠ 0) := Lib.hid (Int.mul_ne_zero (by have := r1.1; omega) (by have := r2.1; omega))
  have HR1 := Lib.hid r1
  have HR2 := Lib.hid r2
  have HF1 := Lib.hid f1
  have HF2 := Lib.hid f2
  have HP := Lib.hid hp
  have HQ := Lib.hid hq
  have HX := Lib.hid hx
  have HY := Lib.hid hy
  have HNN := Lib.hid hN
  have HB : Hid (Below w.heap.size w (((w.alloc (.cells (fC s A n c s' A' n' c') 43)).alloc (.cells (fC t B m d t' B' m' d') 43)).alloc (.cells fz4 43))) := Lib.hid (Gen.b_alloc (Gen.b_alloc (Gen.b_alloc (Below.refl _ _))))
  have RA : Hid (Row (((w.alloc (.cells (fC s A n c s' A' n' c') 43)).alloc (.cells (fC t B m d t' B' m' d') 43)).alloc (.cells fz4 43)) w.heap.size 43 (fC s A n c s' A' n' c')) := Lib.hid (((Row.new _ _ _).alloc _).alloc _)
  have RB : Hid (Row (((w.alloc (.cells (fC s A n c s' A' n' c') 43)).alloc (.cells (fC t B m d t' B' m' d') 43)).alloc (.cells fz4 43)) (w.heap.size + 1) 43 (fC t B m d t' B' m' d')) := Lib.hid (by
    have h := (Row.new (w.alloc (.cells (fC s A n c s' A' n' c') 43)) 43 (fC t B m d t' B' m' d')).alloc (.cells fz4 43)
    rwa [World.size_alloc] at h)
  have RR : Hid (Row (((w.alloc (.cells (fC s A n c s' A' n' c') 43)).alloc (.cells (fC t B m d t' B' m' d') 43)).alloc (.cells fz4 43)) (w.heap.size + 1 + 1) 43 fz4) := Lib.hid (by
    have h := Row.new (((w.alloc (.cells (fC s A n c s' A' n' c') 43)).alloc (.cells (fC t B m d t' B' m' d') 43))) 43 fz4
    rwa [World.size_alloc, World.size_alloc] at h)
  replace HP := Lib.hid (HP.out.keep HB.out)
  replace HQ := Lib.hid (HQ.out.keep HB.out)
  replace HX := Lib.hid (HX.out.keep HB.out)
  replace HY := Lib.hid (HY.out.keep HB.out)
  clear hp hq hx hy r1 r2 f1 f2 hN
  go_enter Tryz.func44, Tryz.ntmps44
  go_wp2_with (fail)
  go_must (refine (fright_yes _ HP.out HQ.out HR1.out).mono ?_)
  rintro e W1 ⟨rfl, hb⟩
  replace RA := Lib.hid (RA.out.keep hb)
  replace RB := Lib.hid (RB.out.keep hb)
  replace RR := Lib.hid (RR.out.keep hb)
  replace HP := Lib.hid (HP.out.keep hb)
  replace HQ := Lib.hid (HQ.out.keep hb)
  replace HX := Lib.hid (HX.out.keep hb)
  replace HY := Lib.hid (HY.out.keep hb)
  replace HB := Lib.hid (Gen.over hb HB.out)
  clear hb 
  have RBc0 := RB.out.cell 0
  have RBc1 := RB.out.cell 1
  have RBc2 := RB.out.cell 2
  have RBc3 := RB.out.cell 3
  go_wp2_with (fail)
  go_must (refine (fright_yes _ HX.out HY.out HR2.out).mono ?_)
  rintro e W2 ⟨rfl, hb⟩
  replace RA := Lib.hid (RA.out.keep hb)
  replace RB := Lib.hid (RB.out.keep hb)
  replace RR := Lib.hid (RR.out.keep hb)
  replace HP := Lib.hid (HP.out.keep hb)
  replace HQ := Lib.hid (HQ.out.keep hb)
  replace HX := Lib.hid (HX.out.keep hb)
  replace HY := Lib.hid (HY.out.keep hb)
  replace HB := Lib.hid (Gen.over hb HB.out)
  clear hb RBc0 RBc1 RBc2 RBc3
  have RAc0 := RA.out.cell 0
  have RAc1 := RA.out.cell 1
  have RAc2 := RA.out.cell 2
  have RAc3 := RA.out.cell 3
  have RBc0 := RB.out.cell 0
  have RBc1 := RB.out.cell 1
  have RBc2 := RB.out.cell 2
  have RBc3 := RB.out.cell 3
  go_wp2_with (fail)
  go_must (refine (prods_ok _ (Nat.le_trans HNN.out HB.out.size) HP.out HX.out HQ.out HY.out HF1.out HF2.out H0.out).mono ?_)
  rintro e W3 ⟨sr, Ar, nr, cr, tr, Br, mr, dr, rfl, hN1, hN2, hb⟩
  replace RA := Lib.hid (RA.out.keep hb)
  replace RB := Lib.hid (RB.out.keep hb)
  replace RR := Lib.hid (RR.out.keep hb)
  replace HP := Lib.hid (HP.out.keep hb)
  replace HQ := Lib.hid (HQ.out.keep hb)
  replace HX := Lib.hid (HX.out.keep hb)
  replace HY := Lib.hid (HY.out.keep hb)
  replace HB := Lib.hid (Gen.over hb HB.out)
  clear hb RAc0 RAc1 RAc2 RAc3 RBc0 RBc1 RBc2 RBc3
  have HN1 := Lib.hid hN1
  clear hN1
  have HN2 := Lib.hid hN2
  clear hN2
  have gr0 := RR.out.frozen 0
  have gc0 := RR.out.cell 0
  have gr1 := RR.out.frozen 1
  have gc1 := RR.out.cell 1
  have gr2 := RR.out.frozen 2
  have gc2 := RR.out.cell 2
  have gr3 := RR.out.frozen 3
  have gc3 := RR.out.cell 3
  have hlt2 := RR.out.lt
  go_wp2
  refine bodyPost_ret (v := .tuple #[frV sr Ar nr cr tr Br mr dr, .int .i64 0]) ?_ rfl ⟨_, _, _, _, _, _, _, _, rfl, HN1.out.set4 RR.out (by have := HNN.out; omega) _ _ _ _, HN2.out.set4 RR.out (by have := HNN.out; omega) _ _ _ _, below_set4 HB.out (by omega) _ _ _ _⟩
  simp [results, Tryz.results44, go_sem, *]
set_option maxRecDepth 100000 in
set_option maxHeartbeats 8000000 in
theorem fdiv_ok (w : World) (hN : N0 ≤ w.heap.size) (hp : IsBig N0 w (bigV s A n c) p) (hq : IsBig N0 w (bigV s' A' n' c') q) (hx : IsBig N0 w (bigV t B m d) x) (hy : IsBig N0 w (bigV t' B' m' d') y) (r1 : Rt p q) (r2 : Rt x y) (f1 : Fit (p * y)) (f2 : Fit (q * x)) (hx0 : x ≠ 0) :
    Calls Tryz.prog 46 #[frV s A n c s' A' n' c', frV t B m d t' B' m' d'] w fun e w' => ∃ s A n c s' A' n' c', e = .returned (.tuple #[frV s A n c s' A' n' c', .int .i64 0]) ∧ IsBig N0 w' (bigV s A n c) (np (p * y) (q * x)) ∧ IsBig N0 w' (bigV s' A' n' c') (nq (p * y) (q * x)) ∧ Below w.heap.size w w' := by
  have H0 : Hid (q * x ≠ 0) := Lib.hid (Int.mul_ne_zero (by have := r1.1; omega) (hx0))
  have ht0 : (t == 0) = false := by
    have h1 := sg_cases x
    rw [← hx.sgn] at h1
    simp
    omega
  have HR1 := Lib.hid r1
  have HR2 := Lib.hid r2
  have HF1 := Lib.hid f1
  have HF2 := Lib.hid f2
  have HP := Lib.hid hp
  have HQ := Lib.hid hq
  have HX := Lib.hid hx
  have HY := Lib.hid hy
  have HNN := Lib.hid hN
  have HB : Hid (Below w.heap.size w (((w.alloc (.cells (fC s A n c s' A' n' c') 43)).alloc (.cells (fC t B m d t' B' m' d') 43)).alloc (.cells fz4 43))) := Lib.hid (Gen.b_alloc (Gen.b_alloc (Gen.b_alloc (Below.refl _ _))))
  have RA : Hid (Row (((w.alloc (.cells (fC s A n c s' A' n' c') 43)).alloc (.cells (fC t B m d t' B' m' d') 43)).alloc (.cells fz4 43)) w.heap.size 43 (fC s A n c s' A' n' c')) := Lib.hid (((Row.new _ _ _).alloc _).alloc _)
  have RB : Hid (Row (((w.alloc (.cells (fC s A n c s' A' n' c') 43)).alloc (.cells (fC t B m d t' B' m' d') 43)).alloc (.cells fz4 43)) (w.heap.size + 1) 43 (fC t B m d t' B' m' d')) := Lib.hid (by
    have h := (Row.new (w.alloc (.cells (fC s A n c s' A' n' c') 43)) 43 (fC t B m d t' B' m' d')).alloc (.cells fz4 43)
    rwa [World.size_alloc] at h)
  have RR : Hid (Row (((w.alloc (.cells (fC s A n c s' A' n' c') 43)).alloc (.cells (fC t B m d t' B' m' d') 43)).alloc (.cells fz4 43)) (w.heap.size + 1 + 1) 43 fz4) := Lib.hid (by
    have h := Row.new (((w.alloc (.cells (fC s A n c s' A' n' c') 43)).alloc (.cells (fC t B m d t' B' m' d') 43))) 43 fz4
    rwa [World.size_alloc, World.size_alloc] at h)
  replace HP := Lib.hid (HP.out.keep HB.out)
  replace HQ := Lib.hid (HQ.out.keep HB.out)
  replace HX := Lib.hid (HX.out.keep HB.out)
  replace HY := Lib.hid (HY.out.keep HB.out)
  clear hp hq hx hy r1 r2 f1 f2 hN hx0
  go_enter Tryz.func46, Tryz.ntmps46
  go_wp2_with (fail)
  go_must (refine (fright_yes _ HP.out HQ.out HR1.out).mono ?_)
  rintro e W1 ⟨rfl, hb⟩
  replace RA := Lib.hid (RA.out.keep hb)
  replace RB := Lib.hid (RB.out.keep hb)
  replace RR := Lib.hid (RR.out.keep hb)
  replace HP := Lib.hid (HP.out.keep hb)
  replace HQ := Lib.hid (HQ.out.keep hb)
  replace HX := Lib.hid (HX.out.keep hb)
  replace HY := Lib.hid (HY.out.keep hb)
  replace HB := Lib.hid (Gen.over hb HB.out)
  clear hb 
  have RBc0 := RB.out.cell 0
  have RBc1 := RB.out.cell 1
  have RBc2 := RB.out.cell 2
  have RBc3 := RB.out.cell 3
  go_wp2_with (fail)
  go_must (refine (fright_yes _ HX.out HY.out HR2.out).mono ?_)
  rintro e W2 ⟨rfl, hb⟩
  replace RA := Lib.hid (RA.out.keep hb)
  replace RB := Lib.hid (RB.out.keep hb)
  replace RR := Lib.hid (RR.out.keep hb)
  replace HP := Lib.hid (HP.out.keep hb)
  replace HQ := Lib.hid (HQ.out.keep hb)
  replace HX := Lib.hid (HX.out.keep hb)
  replace HY := Lib.hid (HY.out.keep hb)
  replace HB := Lib.hid (Gen.over hb HB.out)
  clear hb RBc0 RBc1 RBc2 RBc3
  have RAc0 := RA.out.cell 0
  have RAc1 := RA.out.cell 1
  have RAc2 := RA.out.cell 2
  have RAc3 := RA.out.cell 3
  have RBc0 := RB.out.cell 0
  have RBc1 := RB.out.cell 1
  have RBc2 := RB.out.cell 2
  have RBc3 := RB.out.cell 3
  go_wp2_with (fail)
  go_must (refine (prods_ok _ (Nat.le_trans HNN.out HB.out.size) HP.out HY.out HQ.out HX.out HF1.out HF2.out H0.out).mono ?_)
  rintro e W3 ⟨sr, Ar, nr, cr, tr, Br, mr, dr, rfl, hN1, hN2, hb⟩
  replace RA := Lib.hid (RA.out.keep hb)
  replace RB := Lib.hid (RB.out.keep hb)
  replace RR := Lib.hid (RR.out.keep hb)
  replace HP := Lib.hid (HP.out.keep hb)
  replace HQ := Lib.hid (HQ.out.keep hb)
  replace HX := Lib.hid (HX.out.keep hb)
  replace HY := Lib.hid (HY.out.keep hb)
  replace HB := Lib.hid (Gen.over hb HB.out)
  clear hb RAc0 RAc1 RAc2 RAc3 RBc0 RBc1 RBc2 RBc3
  have HN1 := Lib.hid hN1
  clear hN1
  have HN2 := Lib.hid hN2
  clear hN2
  have gr0 := RR.out.frozen 0
  have gc0 := RR.out.cell 0
  have gr1 := RR.out.frozen 1
  have gc1 := RR.out.cell 1
  have gr2 := RR.out.frozen 2
  have gc2 := RR.out.cell 2
  have gr3 := RR.out.frozen 3
  have gc3 := RR.out.cell 3
  have hlt2 := RR.out.lt
  go_wp2
  refine bodyPost_ret (v := .tuple #[frV sr Ar nr cr tr Br mr dr, .int .i64 0]) ?_ rfl ⟨_, _, _, _, _, _, _, _, rfl, HN1.out.set4 RR.out (by have := HNN.out; omega) _ _ _ _, HN2.out.set4 RR.out (by have := HNN.out; omega) _ _ _ _, below_set4 HB.out (by omega) _ _ _ _⟩
  simp [results, Tryz.results46, go_sem, *]
set_option maxRecDepth 100000 in
set_option maxHeartbeats 8000000 in
theorem fcmp_ok (w : World) (hN : N0 ≤ w.heap.size) (hp : IsBig N0 w (bigV s A n c) p) (hq : IsBig N0 w (bigV s' A' n' c') q) (hx : IsBig N0 w (bigV t B m d) x) (hy : IsBig N0 w (bigV t' B' m' d') y) (r1 : Rt p q) (r2 : Rt x y) (f1 : Fit (p * y)) (f2 : Fit (x * q)) :
    Calls Tryz.prog 56 #[frV s A n c s' A' n' c', frV t B m d t' B' m' d'] w fun e w' => e = .returned (.int .i64 (cmpI (p * y) (x * q))) ∧ Below w.heap.size w w' := by
  have HR1 := Lib.hid r1
  have HR2 := Lib.hid r2
  have HF1 := Lib.hid f1
  have HF2 := Lib.hid f2
  have HP := Lib.hid hp
  have HQ := Lib.hid hq
  have HX := Lib.hid hx
  have HY := Lib.hid hy
  have HNN := Lib.hid hN
  have HB : Hid (Below w.heap.size w (((w.alloc (.cells (fC s A n c s' A' n' c') 43)).alloc (.cells (fC t B m d t' B' m' d') 43)))) := Lib.hid (Gen.b_alloc (Gen.b_alloc (Below.refl _ _)))
  have RA : Hid (Row (((w.alloc (.cells (fC s A n c s' A' n' c') 43)).alloc (.cells (fC t B m d t' B' m' d') 43))) w.heap.size 43 (fC s A n c s' A' n' c')) := Lib.hid ((Row.new _ _ _).alloc _)
  have RB : Hid (Row (((w.alloc (.cells (fC s A n c s' A' n' c') 43)).alloc (.cells (fC t B m d t' B' m' d') 43))) (w.heap.size + 1) 43 (fC t B m d t' B' m' d')) := Lib.hid (by
    have h := (Row.new (w.alloc (.cells (fC s A n c s' A' n' c') 43)) 43 (fC t B m d t' B' m' d'))
    rwa [World.size_alloc] at h)
  replace HP := Lib.hid (HP.out.keep HB.out)
  replace HQ := Lib.hid (HQ.out.keep HB.out)
  replace HX := Lib.hid (HX.out.keep HB.out)
  replace HY := Lib.hid (HY.out.keep HB.out)
  clear hp hq hx hy r1 r2 f1 f2 hN
  go_enter Tryz.func56, Tryz.ntmps56
  go_wp2_with (fail)
  go_must (refine (fright_yes _ HP.out HQ.out HR1.out).mono ?_)
  rintro e W1 ⟨rfl, hb⟩
  replace RA := Lib.hid (RA.out.keep hb)
  replace RB := Lib.hid (RB.out.keep hb)
  replace HP := Lib.hid (HP.out.keep hb)
  replace HQ := Lib.hid (HQ.out.keep hb)
  replace HX := Lib.hid (HX.out.keep hb)
  replace HY := Lib.hid (HY.out.keep hb)
  replace HB := Lib.hid (Gen.over hb HB.out)
  clear hb 
  have RBc0 := RB.out.cell 0
  have RBc1 := RB.out.cell 1
  have RBc2 := RB.out.cell 2
  have RBc3 := RB.out.cell 3
  go_wp2_with (fail)
  go_must (refine (fright_yes _ HX.out HY.out HR2.out).mono ?_)
  rintro e W2 ⟨rfl, hb⟩
  replace RA := Lib.hid (RA.out.keep hb)
  replace RB := Lib.hid (RB.out.keep hb)
  replace HP := Lib.hid (HP.out.keep hb)
  replace HQ := Lib.hid (HQ.out.keep hb)
  replace HX := Lib.hid (HX.out.keep hb)
  replace HY := Lib.hid (HY.out.keep hb)
  replace HB := Lib.hid (Gen.over hb HB.out)
  clear hb RBc0 RBc1 RBc2 RBc3
  have RAc0 := RA.out.cell 0
  have RAc1 := RA.out.cell 1
  have RBc2 := RB.out.cell 2
  have RBc3 := RB.out.cell 3
  go_wp2_with (fail)
  go_must (refine (mul_as _ HP.out HY.out HF1.out).mono ?_)
  rintro e W3 ⟨C1, k1, e1, rfl, hu1, hb⟩
  replace RA := Lib.hid (RA.out.keep hb)
  replace RB := Lib.hid (RB.out.keep hb)
  replace HP := Lib.hid (HP.out.keep hb)
  replace HQ := Lib.hid (HQ.out.keep hb)
  replace HX := Lib.hid (HX.out.keep hb)
  replace HY := Lib.hid (HY.out.keep hb)
  replace HB := Lib.hid (Gen.over hb HB.out)
  clear hb RAc0 RAc1 RBc2 RBc3
  have Hu1 := Lib.hid hu1
  clear hu1
  have Ru1 := Lib.hid (Row.new W3 24 #[.int .i64 (sg (p * y)), .slice C1 k1 e1])
  replace RA := Lib.hid (RA.out.alloc (.cells #[.int .i64 (sg (p * y)), .slice C1 k1 e1] 24))
  replace RB := Lib.hid (RB.out.alloc (.cells #[.int .i64 (sg (p * y)), .slice C1 k1 e1] 24))
  replace HP := Lib.hid (HP.out.keep (Gen.b_alloc (x := (.cells #[.int .i64 (sg (p * y)), .slice C1 k1 e1] 24)) (Below.refl _ _)))
  replace HQ := Lib.hid (HQ.out.keep (Gen.b_alloc (x := (.cells #[.int .i64 (sg (p * y)), .slice C1 k1 e1] 24)) (Below.refl _ _)))
  replace HX := Lib.hid (HX.out.keep (Gen.b_alloc (x := (.cells #[.int .i64 (sg (p * y)), .slice C1 k1 e1] 24)) (Below.refl _ _)))
  replace HY := Lib.hid (HY.out.keep (Gen.b_alloc (x := (.cells #[.int .i64 (sg (p * y)), .slice C1 k1 e1] 24)) (Below.refl _ _)))
  replace Hu1 := Lib.hid (Hu1.out.keep (Gen.b_alloc (x := (.cells #[.int .i64 (sg (p * y)), .slice C1 k1 e1] 24)) (Below.refl _ _)))
  replace HB := Lib.hid (Gen.b_alloc (x := (.cells #[.int .i64 (sg (p * y)), .slice C1 k1 e1] 24)) HB.out)
  have RBc0 := RB.out.cell 0
  have RBc1 := RB.out.cell 1
  have RAc2 := RA.out.cell 2
  have RAc3 := RA.out.cell 3
  go_wp2_with (fail)
  go_must (refine (mul_as _ HX.out HQ.out HF2.out).mono ?_)
  rintro e W4 ⟨C2, k2, e2, rfl, hu2, hb⟩
  replace RA := Lib.hid (RA.out.keep hb)
  replace RB := Lib.hid (RB.out.keep hb)
  replace Ru1 := Lib.hid (Ru1.out.keep hb)
  replace HP := Lib.hid (HP.out.keep hb)
  replace HQ := Lib.hid (HQ.out.keep hb)
  replace HX := Lib.hid (HX.out.keep hb)
  replace HY := Lib.hid (HY.out.keep hb)
  replace Hu1 := Lib.hid (Hu1.out.keep hb)
  replace HB := Lib.hid (Gen.over hb HB.out)
  clear hb RBc0 RBc1 RAc2 RAc3
  have Hu2 := Lib.hid hu2
  clear hu2
  have Ru2 := Lib.hid (Row.new W4 24 #[.int .i64 (sg (x * q)), .slice C2 k2 e2])
  replace RA := Lib.hid (RA.out.alloc (.cells #[.int .i64 (sg (x * q)), .slice C2 k2 e2] 24))
  replace RB := Lib.hid (RB.out.alloc (.cells #[.int .i64 (sg (x * q)), .slice C2 k2 e2] 24))
  replace Ru1 := Lib.hid (Ru1.out.alloc (.cells #[.int .i64 (sg (x * q)), .slice C2 k2 e2] 24))
  replace HP := Lib.hid (HP.out.keep (Gen.b_alloc (x := (.cells #[.int .i64 (sg (x * q)), .slice C2 k2 e2] 24)) (Below.refl _ _)))
  replace HQ := Lib.hid (HQ.out.keep (Gen.b_alloc (x := (.cells #[.int .i64 (sg (x * q)), .slice C2 k2 e2] 24)) (Below.refl _ _)))
  replace HX := Lib.hid (HX.out.keep (Gen.b_alloc (x := (.cells #[.int .i64 (sg (x * q)), .slice C2 k2 e2] 24)) (Below.refl _ _)))
  replace HY := Lib.hid (HY.out.keep (Gen.b_alloc (x := (.cells #[.int .i64 (sg (x * q)), .slice C2 k2 e2] 24)) (Below.refl _ _)))
  replace Hu1 := Lib.hid (Hu1.out.keep (Gen.b_alloc (x := (.cells #[.int .i64 (sg (x * q)), .slice C2 k2 e2] 24)) (Below.refl _ _)))
  replace Hu2 := Lib.hid (Hu2.out.keep (Gen.b_alloc (x := (.cells #[.int .i64 (sg (x * q)), .slice C2 k2 e2] 24)) (Below.refl _ _)))
  replace HB := Lib.hid (Gen.b_alloc (x := (.cells #[.int .i64 (sg (x * q)), .slice C2 k2 e2] 24)) HB.out)
  have Ru1c0 := Ru1.out.cell 0
  have Ru1c1 := Ru1.out.cell 1
  have Ru2c0 := Ru2.out.cell 0
  have Ru2c1 := Ru2.out.cell 1
  go_wp2_with (fail)
  go_must (refine (compare_val _ Hu1.out Hu2.out).mono ?_)
  rintro e W5 ⟨rfl, hb⟩
  replace RA := Lib.hid (RA.out.keep hb)
  replace RB := Lib.hid (RB.out.keep hb)
  replace Ru1 := Lib.hid (Ru1.out.keep hb)
  replace Ru2 := Lib.hid (Ru2.out.keep hb)
  replace HP := Lib.hid (HP.out.keep hb)
  replace HQ := Lib.hid (HQ.out.keep hb)
  replace HX := Lib.hid (HX.out.keep hb)
  replace HY := Lib.hid (HY.out.keep hb)
  replace Hu1 := Lib.hid (Hu1.out.keep hb)
  replace Hu2 := Lib.hid (Hu2.out.keep hb)
  replace HB := Lib.hid (Gen.over hb HB.out)
  clear hb Ru1c0 Ru1c1 Ru2c0 Ru2c1
  go_wp2
  go_ret
  exact ⟨rfl, HB.out⟩
end
end Go.Proofs.YtnifkianjpjahaaGreatDoor.Bg
/- Fractions: the greatest integer below; the reference's SameBig, Same, Few. -/
namespace Go.Proofs.YtnifkianjpjahaaGreatDoor.Bg
open Go.ChangeShapes Go.WideShapes Go.ChangeAt Go.RowKit Go.Proofs.YtnifkianjpjahaaGreatDoor.Cell
set_option linter.unusedVariables false
set_option linter.unusedSimpArgs false
variable {N0 : Nat}
set_option maxRecDepth 100000 in
set_option maxHeartbeats 4000000 in
theorem sbig_raw {s s' : Int} {A A' : Option Addr} {n n' c c' : Nat} {a b : List Int} (w : World) (hn : a.length = n) (hn' : b.length = n') (ha : Ints N0 w A a) (hb : Ints N0 w A' b) (hbig : n ≤ 9223372036854775807) (hbig' : n' ≤ 9223372036854775807) :
    Calls Tryz.prog 60 #[bigV s A n c, bigV s' A' n' c'] w fun e w' => e = .returned (.bool (decide (s = s' ∧ a = b))) ∧ Below w.heap.size w w' := by
  have HB0 := Lib.hid (box2_bl (w := w) (s := s) (A := A) (n := n) (c := c) (s' := s') (A' := A') (n' := n') (c' := c'))
  have R0 := Lib.hid (box2_r0 (w := w) (s := s) (A := A) (n := n) (c := c) (s' := s') (A' := A') (n' := n') (c' := c'))
  have R1 := Lib.hid (box2_r1 (w := w) (s := s) (A := A) (n := n) (c := c) (s' := s') (A' := A') (n' := n') (c' := c'))
  obtain ⟨wb, hwb⟩ : ∃ W, box2 w s A n c s' A' n' c' = W := ⟨_, rfl⟩
  rw [hwb] at HB0 R0 R1
  unfold box2 at hwb
  have HW := Lib.hid hwb
  clear hwb
  by_cases hs : s = s'
  case neg =>
    have hsb : (s != s') = true := by simpa using hs
    have HV : Hid (decide (s = s' ∧ a = b) = false) := Lib.hid (decide_eq_false fun h => hs h.1)
    clear hs ha hb
    go_enter Tryz.func60, Tryz.ntmps60
    go_wp2
    go_ret
    exact ⟨ret_bool HV.out.symm, by rw [HW.out]; exact HB0.out⟩
  have hsb : (s != s') = false := by simpa using hs
  by_cases hl : n = n'
  case neg =>
    have hlb : ((n : Int) != (n' : Int)) = true := by simp; omega
    have HV : Hid (decide (s = s' ∧ a = b) = false) := Lib.hid (decide_eq_false fun h => hl (by rw [← hn, ← hn', h.2]))
    clear hs ha hb hn hn'
    go_enter Tryz.func60, Tryz.ntmps60
    go_wp2
    go_ret
    exact ⟨ret_bool HV.out.symm, by rw [HW.out]; exact HB0.out⟩
  subst hl
  have HS := Lib.hid hs
  have HN := Lib.hid hn
  have HN' := Lib.hid hn'
  have hlb : ((n : Int) != (n : Int)) = false := by simp
  clear hn hn' hs
  go_enter Tryz.func60, Tryz.ntmps60
  go_wp2
  rw [HW.out]
  clear hlb hsb HW
  go_loopw [5] (fun v wr => ∃ k : Nat, k ≤ n ∧ v = .int .i64 k ∧ Hid (a.take k = b.take k) ∧ ∃ q, wr = wb.drewN q) (fun v _ => n - (intOf v).toNat)
  case atStart => exact ⟨0, Nat.zero_le _, rfl, Lib.hid (by rw [List.take_zero, List.take_zero]), 0, rfl⟩
  case round =>
    obtain ⟨k, hk, rfl, HE, q, rfl⟩ := hrel
    have k0 : (0 : Int) ≤ (k : Int) := by omega
    have p0 : wb.cell? ⟨w.heap.size, 1, none⟩ = some (.slice A n c) := R0.out.cell 1
    have p1 : wb.cell? ⟨w.heap.size + 1, 1, none⟩ = some (.slice A' n c') := R1.out.cell 1
    by_cases hlt : k < n
    · have hltI : (k : Int) < (n : Int) := by omega
      obtain ⟨b1, o1, rfl, hc1⟩ := (ha.keep HB0.out) (by rw [HN.out]; omega)
      obtain ⟨b2, o2, rfl, hc2⟩ := (hb.keep HB0.out) (by rw [HN'.out]; omega)
      obtain ⟨x, hx⟩ := at_ a k (by rw [HN.out]; omega)
      obtain ⟨y, hy⟩ := at_ b k (by rw [HN'.out]; omega)
      have c1 := hc1 k x hx
      have c2 := hc2 k y hy
      have HX := Lib.hid hx
      have HY := Lib.hid hy
      clear hx hy hc1 hc2 ha hb
      by_cases hxy : x = y
      · have hxb : (x != y) = false := by simp [hxy]
        have HE2 : Hid (a.take (k + 1) = b.take (k + 1)) := Lib.hid (by rw [take_snoc HX.out, take_snoc HY.out, HE.out, hxy])
        clear hxy
        go_wp2
        go_quiet (fail)
        go_wp2
        go_roundw
        case rel => exact ⟨k + 1, by omega, by go_num, HE2, _, rfl⟩
        case measure => simp [intOf]; omega
      · have hxb : (x != y) = true := by simp [hxy]
        have HV : Hid (decide (s = s' ∧ a = b) = false) := Lib.hid (decide_eq_false (fun e => hxy (by
          have h1 := HX.out
          rw [e.2, HY.out] at h1
          injection h1 with h1
          exact h1.symm)))
        clear hxy
        go_wp2
        go_quiet (fail)
        go_wp2
        go_ret
        exact ⟨ret_bool HV.out.symm, Gen.dN (Gen.dN HB0.out _) _⟩
    · obtain rfl : n = k := by omega
      have HV : Hid (decide (s = s' ∧ a = b) = true) := Lib.hid (decide_eq_true ⟨HS.out, by
        have h := HE.out
        rwa [List.take_of_length_le (by rw [HN.out]; exact Nat.le_refl _), List.take_of_length_le (by rw [HN'.out]; exact Nat.le_refl _)] at h⟩)
      go_wp2
      go_ret
      exact ⟨ret_bool HV.out.symm, Gen.dN HB0.out _⟩
theorem sbig_val {x y : Int} {va vb : Value} (w : World) (hx : IsBig N0 w va x) (hy : IsBig N0 w vb y) :
    Calls Tryz.prog 60 #[va, vb] w fun e w' => e = .returned (.bool (decide (x = y))) ∧ Below w.heap.size w w' := by
  obtain ⟨A, c, a, rfl, ha, na, h60⟩ := hx.ex
  obtain ⟨A', c', b, rfl, hb, nb, h60'⟩ := hy.ex
  rw [show decide (x = y) = decide (sg x = sg y ∧ a = b) from decide_eq_decide.2 (big_inj na nb).symm]
  exact sbig_raw w rfl rfl ha hb (by omega) (by omega)
section
variable {s s' t t' : Int} {A A' B B' : Option Addr} {n c n' c' m d m' d' : Nat} {p q x y : Int}
set_option maxRecDepth 100000 in
set_option maxHeartbeats 8000000 in
theorem fsame_a (w : World) (hp : IsBig N0 w (bigV s A n c) p) (hq : IsBig N0 w (bigV s' A' n' c') q) (hx : IsBig N0 w (bigV t B m d) x) (hy : IsBig N0 w (bigV t' B' m' d') y) (h : p = x) : Calls Tryz.prog 43 #[frV s A n c s' A' n' c', frV t B m d t' B' m' d'] w fun e w' => e = .returned (.bool (decide (p = x ∧ q = y))) ∧ Below w.heap.size w w' := by
  have HH := Lib.hid h
  clear h
  have HP := Lib.hid hp
  have HQ := Lib.hid hq
  have HX := Lib.hid hx
  have HY := Lib.hid hy
  have HB : Hid (Below w.heap.size w ((w.alloc (.cells (fC s A n c s' A' n' c') 43)).alloc (.cells (fC t B m d t' B' m' d') 43))) := Lib.hid (Gen.b_alloc (Gen.b_alloc (Below.refl _ _)))
  have RA : Hid (Row ((w.alloc (.cells (fC s A n c s' A' n' c') 43)).alloc (.cells (fC t B m d t' B' m' d') 43)) w.heap.size 43 (fC s A n c s' A' n' c')) := Lib.hid ((Row.new _ _ _).alloc _)
  have RB : Hid (Row ((w.alloc (.cells (fC s A n c s' A' n' c') 43)).alloc (.cells (fC t B m d t' B' m' d') 43)) (w.heap.size + 1) 43 (fC t B m d t' B' m' d')) := Lib.hid (by
    have h := Row.new (w.alloc (.cells (fC s A n c s' A' n' c') 43)) 43 (fC t B m d t' B' m' d')
    rwa [World.size_alloc] at h)
  replace HP := Lib.hid (HP.out.keep HB.out)
  replace HQ := Lib.hid (HQ.out.keep HB.out)
  replace HX := Lib.hid (HX.out.keep HB.out)
  replace HY := Lib.hid (HY.out.keep HB.out)
  clear hp hq hx hy
  go_enter Tryz.func43, Tryz.ntmps43
  have RBc0 := RB.out.cell 0
  have RBc1 := RB.out.cell 1
  go_wp2_with (fail)
  go_must (refine (sbig_val _ HP.out HX.out).mono ?_)
  rintro e W1 ⟨rfl, hb⟩
  replace RA := Lib.hid (RA.out.keep hb)
  replace RB := Lib.hid (RB.out.keep hb)
  replace HP := Lib.hid (HP.out.keep hb)
  replace HQ := Lib.hid (HQ.out.keep hb)
  replace HX := Lib.hid (HX.out.keep hb)
  replace HY := Lib.hid (HY.out.keep hb)
  replace HB := Lib.hid (Gen.over hb HB.out)
  clear hb RBc0 RBc1
  rw [decide_eq_true HH.out]
  have RAc2 := RA.out.cell 2
  have RAc3 := RA.out.cell 3
  have RBc2 := RB.out.cell 2
  have RBc3 := RB.out.cell 3
  go_wp2_with (fail)
  go_must (refine (sbig_val _ HQ.out HY.out).mono ?_)
  rintro e W2 ⟨rfl, hb⟩
  replace RA := Lib.hid (RA.out.keep hb)
  replace RB := Lib.hid (RB.out.keep hb)
  replace HP := Lib.hid (HP.out.keep hb)
  replace HQ := Lib.hid (HQ.out.keep hb)
  replace HX := Lib.hid (HX.out.keep hb)
  replace HY := Lib.hid (HY.out.keep hb)
  replace HB := Lib.hid (Gen.over hb HB.out)
  clear hb RAc2 RAc3 RBc2 RBc3
  go_wp2
  go_ret
  exact ⟨ret_bool (decide_eq_decide.2 ⟨fun h => ⟨HH.out, h⟩, fun h => h.2⟩), HB.out⟩
set_option maxRecDepth 100000 in
set_option maxHeartbeats 8000000 in
theorem fsame_b (w : World) (hp : IsBig N0 w (bigV s A n c) p) (hq : IsBig N0 w (bigV s' A' n' c') q) (hx : IsBig N0 w (bigV t B m d) x) (hy : IsBig N0 w (bigV t' B' m' d') y) (h : p ≠ x) : Calls Tryz.prog 43 #[frV s A n c s' A' n' c', frV t B m d t' B' m' d'] w fun e w' => e = .returned (.bool (decide (p = x ∧ q = y))) ∧ Below w.heap.size w w' := by
  have HH := Lib.hid h
  clear h
  have HP := Lib.hid hp
  have HQ := Lib.hid hq
  have HX := Lib.hid hx
  have HY := Lib.hid hy
  have HB : Hid (Below w.heap.size w ((w.alloc (.cells (fC s A n c s' A' n' c') 43)).alloc (.cells (fC t B m d t' B' m' d') 43))) := Lib.hid (Gen.b_alloc (Gen.b_alloc (Below.refl _ _)))
  have RA : Hid (Row ((w.alloc (.cells (fC s A n c s' A' n' c') 43)).alloc (.cells (fC t B m d t' B' m' d') 43)) w.heap.size 43 (fC s A n c s' A' n' c')) := Lib.hid ((Row.new _ _ _).alloc _)
  have RB : Hid (Row ((w.alloc (.cells (fC s A n c s' A' n' c') 43)).alloc (.cells (fC t B m d t' B' m' d') 43)) (w.heap.size + 1) 43 (fC t B m d t' B' m' d')) := Lib.hid (by
    have h := Row.new (w.alloc (.cells (fC s A n c s' A' n' c') 43)) 43 (fC t B m d t' B' m' d')
    rwa [World.size_alloc] at h)
  replace HP := Lib.hid (HP.out.keep HB.out)
  replace HQ := Lib.hid (HQ.out.keep HB.out)
  replace HX := Lib.hid (HX.out.keep HB.out)
  replace HY := Lib.hid (HY.out.keep HB.out)
  clear hp hq hx hy
  go_enter Tryz.func43, Tryz.ntmps43
  have RBc0 := RB.out.cell 0
  have RBc1 := RB.out.cell 1
  go_wp2_with (fail)
  go_must (refine (sbig_val _ HP.out HX.out).mono ?_)
  rintro e W1 ⟨rfl, hb⟩
  replace RA := Lib.hid (RA.out.keep hb)
  replace RB := Lib.hid (RB.out.keep hb)
  replace HP := Lib.hid (HP.out.keep hb)
  replace HQ := Lib.hid (HQ.out.keep hb)
  replace HX := Lib.hid (HX.out.keep hb)
  replace HY := Lib.hid (HY.out.keep hb)
  replace HB := Lib.hid (Gen.over hb HB.out)
  clear hb RBc0 RBc1
  rw [decide_eq_false HH.out]
  go_wp2
  go_ret
  exact ⟨ret_bool (decide_eq_false (fun h => HH.out h.1)).symm, HB.out⟩
theorem fsame_val (w : World) (hp : IsBig N0 w (bigV s A n c) p) (hq : IsBig N0 w (bigV s' A' n' c') q) (hx : IsBig N0 w (bigV t B m d) x) (hy : IsBig N0 w (bigV t' B' m' d') y) : Calls Tryz.prog 43 #[frV s A n c s' A' n' c', frV t B m d t' B' m' d'] w fun e w' => e = .returned (.bool (decide (p = x ∧ q = y))) ∧ Below w.heap.size w w' := by
  by_cases h : p = x
  · exact fsame_a w hp hq hx hy h
  · exact fsame_b w hp hq hx hy h
set_option maxRecDepth 100000 in
set_option maxHeartbeats 8000000 in
theorem ffew_any (k : Int) (w : World) (h1 : n ≤ 9223372036854775807) (h2 : n' ≤ 9223372036854775807) : Calls Tryz.prog 38 #[frV s A n c s' A' n' c', .int .i64 k] w fun e w' => e = .returned (.bool (decide ((n : Int) ≤ k) && decide ((n' : Int) ≤ k))) ∧ Below w.heap.size w w' := by
  by_cases hk : (n : Int) ≤ k
  · have hb : Hid ((decide ((n : Int) ≤ k) && decide ((n' : Int) ≤ k)) = decide ((n' : Int) ≤ k)) := Lib.hid (by rw [decide_eq_true hk, Bool.true_and])
    go_enter Tryz.func38, Tryz.ntmps38
    go_wp2
    go_ret
    exact ⟨ret_bool hb.out.symm, by go_grown⟩
  · have hb : Hid ((decide ((n : Int) ≤ k) && decide ((n' : Int) ≤ k)) = false) := Lib.hid (by rw [decide_eq_false hk, Bool.false_and])
    go_enter Tryz.func38, Tryz.ntmps38
    go_wp2
    go_ret
    exact ⟨ret_bool hb.out.symm, by go_grown⟩
set_option maxRecDepth 100000 in
set_option maxHeartbeats 8000000 in
theorem ffloor_ok (w : World) (hN : N0 ≤ w.heap.size) (hp : IsBig N0 w (bigV s A n c) p) (hq : IsBig N0 w (bigV s' A' n' c') q) (r1 : Rt p q) :
    Calls Tryz.prog 61 #[frV s A n c s' A' n' c'] w fun e w' => ∃ A n c, e = .returned (bigV (sg (dq p q)) A n c) ∧ IsBig N0 w' (bigV (sg (dq p q)) A n c) (dq p q) ∧ Below w.heap.size w w' := by
  have HP := Lib.hid hp
  have HQ := Lib.hid hq
  have HR1 := Lib.hid r1
  have H0 : Hid (q ≠ 0) := Lib.hid (by have := r1.1; omega)
  have HNN := Lib.hid hN
  have HB : Hid (Below w.heap.size w ((w.alloc (.cells (fC s A n c s' A' n' c') 43)).alloc (.cells #[.int .i64 0, .slice none 0 0] 24))) := Lib.hid (Gen.b_alloc (Gen.b_alloc (Below.refl _ _)))
  have RA : Hid (Row ((w.alloc (.cells (fC s A n c s' A' n' c') 43)).alloc (.cells #[.int .i64 0, .slice none 0 0] 24)) w.heap.size 43 (fC s A n c s' A' n' c')) := Lib.hid ((Row.new _ _ _).alloc _)
  have RR : Hid (Row ((w.alloc (.cells (fC s A n c s' A' n' c') 43)).alloc (.cells #[.int .i64 0, .slice none 0 0] 24)) (w.heap.size + 1) 24 #[.int .i64 0, .slice none 0 0]) := Lib.hid (by
    have h := Row.new (w.alloc (.cells (fC s A n c s' A' n' c') 43)) 24 #[.int .i64 0, .slice none 0 0]
    rwa [World.size_alloc] at h)
  replace HP := Lib.hid (HP.out.keep HB.out)
  replace HQ := Lib.hid (HQ.out.keep HB.out)
  clear hp hq r1 hN
  go_enter Tryz.func61, Tryz.ntmps61
  go_wp2_with (fail)
  go_must (refine (fright_yes _ HP.out HQ.out HR1.out).mono ?_)
  rintro e W1 ⟨rfl, hb⟩
  replace RA := Lib.hid (RA.out.keep hb)
  replace RR := Lib.hid (RR.out.keep hb)
  replace HP := Lib.hid (HP.out.keep hb)
  replace HQ := Lib.hid (HQ.out.keep hb)
  replace HB := Lib.hid (Gen.over hb HB.out)
  clear hb 
  have RAc0 := RA.out.cell 0
  have RAc1 := RA.out.cell 1
  have RAc2 := RA.out.cell 2
  have RAc3 := RA.out.cell 3
  go_wp2_with (fail)
  go_must (refine (div_as _ HP.out HQ.out H0.out).mono ?_)
  rintro e W2 ⟨C1, k1, e1, C2, k2, e2, rfl, hu1, hu2, hb⟩
  replace RA := Lib.hid (RA.out.keep hb)
  replace RR := Lib.hid (RR.out.keep hb)
  replace HP := Lib.hid (HP.out.keep hb)
  replace HQ := Lib.hid (HQ.out.keep hb)
  replace HB := Lib.hid (Gen.over hb HB.out)
  clear hb RAc0 RAc1 RAc2 RAc3
  have Hu1 := Lib.hid hu1
  clear hu1
  have Hu2 := Lib.hid hu2
  clear hu2
  have Ru1 := Lib.hid (Row.new W2 24 #[.int .i64 (sg (dq p q)), .slice C1 k1 e1])
  replace RA := Lib.hid (RA.out.alloc (.cells #[.int .i64 (sg (dq p q)), .slice C1 k1 e1] 24))
  replace RR := Lib.hid (RR.out.alloc (.cells #[.int .i64 (sg (dq p q)), .slice C1 k1 e1] 24))
  replace HP := Lib.hid (HP.out.keep (Gen.b_alloc (x := (.cells #[.int .i64 (sg (dq p q)), .slice C1 k1 e1] 24)) (Below.refl _ _)))
  replace HQ := Lib.hid (HQ.out.keep (Gen.b_alloc (x := (.cells #[.int .i64 (sg (dq p q)), .slice C1 k1 e1] 24)) (Below.refl _ _)))
  replace Hu1 := Lib.hid (Hu1.out.keep (Gen.b_alloc (x := (.cells #[.int .i64 (sg (dq p q)), .slice C1 k1 e1] 24)) (Below.refl _ _)))
  replace Hu2 := Lib.hid (Hu2.out.keep (Gen.b_alloc (x := (.cells #[.int .i64 (sg (dq p q)), .slice C1 k1 e1] 24)) (Below.refl _ _)))
  replace HB := Lib.hid (Gen.b_alloc (x := (.cells #[.int .i64 (sg (dq p q)), .slice C1 k1 e1] 24)) HB.out)
  replace RA := Lib.hid (RA.out.alloc (.cells #[.int .i64 (sg (dr p q)), .slice C2 k2 e2] 24))
  replace RR := Lib.hid (RR.out.alloc (.cells #[.int .i64 (sg (dr p q)), .slice C2 k2 e2] 24))
  replace Ru1 := Lib.hid (Ru1.out.alloc (.cells #[.int .i64 (sg (dr p q)), .slice C2 k2 e2] 24))
  replace HP := Lib.hid (HP.out.keep (Gen.b_alloc (x := (.cells #[.int .i64 (sg (dr p q)), .slice C2 k2 e2] 24)) (Below.refl _ _)))
  replace HQ := Lib.hid (HQ.out.keep (Gen.b_alloc (x := (.cells #[.int .i64 (sg (dr p q)), .slice C2 k2 e2] 24)) (Below.refl _ _)))
  replace Hu1 := Lib.hid (Hu1.out.keep (Gen.b_alloc (x := (.cells #[.int .i64 (sg (dr p q)), .slice C2 k2 e2] 24)) (Below.refl _ _)))
  replace Hu2 := Lib.hid (Hu2.out.keep (Gen.b_alloc (x := (.cells #[.int .i64 (sg (dr p q)), .slice C2 k2 e2] 24)) (Below.refl _ _)))
  replace HB := Lib.hid (Gen.b_alloc (x := (.cells #[.int .i64 (sg (dr p q)), .slice C2 k2 e2] 24)) HB.out)
  have Ru1c0 := Ru1.out.cell 0
  have Ru1c1 := Ru1.out.cell 1
  have gr0 := RR.out.frozen 0
  have gc0 := RR.out.cell 0
  have gr1 := RR.out.frozen 1
  have gc1 := RR.out.cell 1
  have hlt2 := RR.out.lt
  go_wp2
  refine bodyPost_ret (v := bigV (sg (dq p q)) C1 k1 e1) ?_ rfl ⟨_, _, _, rfl, Hu1.out.set2 RR.out (by have := HNN.out; omega) _ _, below_set2 HB.out (by omega) _ _⟩
  simp [results, Tryz.results61, go_sem, *]
end
end Go.Proofs.YtnifkianjpjahaaGreatDoor.Bg
/- Fractions: Text. -/
namespace Go.Proofs.YtnifkianjpjahaaGreatDoor.Bg
open Go.ChangeShapes Go.WideShapes Go.ChangeAt Go.RowKit Go.Proofs.YtnifkianjpjahaaGreatDoor.Cell
set_option linter.unusedVariables false
set_option linter.unusedSimpArgs false
variable {N0 : Nat}

theorem text_be {x : Int} {T : ByteArray} {va : Value} (w : World) (hT : PowTab w) (hx : IsBig N0 w va x) (h : (⟨(txt x).toArray⟩ : ByteArray) = T) : Calls Tryz.prog 31 #[va] w fun e w' => e = .returned (.string T) ∧ Below w.heap.size w w' := by
  subst h
  exact text_all w hT hx
/-- the text of a fraction -/
def ftxt (p q : Int) : List UInt8 := txt p ++ 47 :: txt q
section
variable {s s' : Int} {A A' : Option Addr} {n c n' c' : Nat} {p q : Int}
set_option maxRecDepth 100000 in
set_option maxHeartbeats 8000000 in
theorem ftext_ok (w : World) (hT : PowTab w) (hp : IsBig N0 w (bigV s A n c) p) (hq : IsBig N0 w (bigV s' A' n' c') q) (r1 : Rt p q) :
    Calls Tryz.prog 58 #[frV s A n c s' A' n' c'] w fun e w' => e = .returned (.string ⟨(ftxt p q).toArray⟩) ∧ Below w.heap.size w w' := by
  obtain ⟨T1, hT1⟩ : ∃ T : ByteArray, (⟨(txt p).toArray⟩ : ByteArray) = T := ⟨_, rfl⟩
  obtain ⟨T2, hT2⟩ : ∃ T : ByteArray, (⟨(txt q).toArray⟩ : ByteArray) = T := ⟨_, rfl⟩
  have l1 := txt_len hp.fit
  have l2 := txt_len hq.fit
  have z1 : T1.size ≤ 400 := by rw [← hT1]; exact l1
  have z2 : T2.size ≤ 400 := by rw [← hT2]; exact l2
  have HE : Hid (T1 ++ ⟨#[47]⟩ ++ T2 = ⟨(ftxt p q).toArray⟩) := Lib.hid (by
    rw [← hT1, ← hT2]
    apply ByteArray.ext
    simp [ftxt, ByteArray.data_append])
  have hc1 : ¬ ((9223372036854775807 : Int) < (T1.size : Int) + 1) := by omega
  have hc2 : ¬ ((9223372036854775807 : Int) < (T1.size : Int) + 1 + (T2.size : Int)) := by omega
  have HT1 := Lib.hid hT1
  have HT2 := Lib.hid hT2
  have HP := Lib.hid hp
  have HQ := Lib.hid hq
  have HR1 := Lib.hid r1
  have HB : Hid (Below w.heap.size w (w.alloc (.cells (fC s A n c s' A' n' c') 43))) := Lib.hid (Gen.b_alloc (Below.refl _ _))
  have HT := Lib.hid (hT.keep HB.out)
  have RA : Hid (Row (w.alloc (.cells (fC s A n c s' A' n' c') 43)) w.heap.size 43 (fC s A n c s' A' n' c')) := Lib.hid (Row.new _ _ _)
  replace HP := Lib.hid (HP.out.keep HB.out)
  replace HQ := Lib.hid (HQ.out.keep HB.out)
  clear hp hq r1 hT hT1 hT2 l1 l2
  go_enter Tryz.func58, Tryz.ntmps58
  go_wp2_with (fail)
  go_must (refine (fright_yes _ HP.out HQ.out HR1.out).mono ?_)
  rintro e W1 ⟨rfl, hb⟩
  replace RA := Lib.hid (RA.out.keep hb)
  replace HP := Lib.hid (HP.out.keep hb)
  replace HQ := Lib.hid (HQ.out.keep hb)
  replace HT := Lib.hid (HT.out.keep hb)
  replace HB := Lib.hid (Gen.over hb HB.out)
  clear hb 
  have HS0 : Hid (Below W1.heap.size W1 W1 ∧ W1.cell? ⟨w.heap.size, 0, none⟩ = some (.int .i64 s) ∧ W1.cell? ⟨w.heap.size, 1, none⟩ = some (.slice A n c) ∧ W1.cell? ⟨w.heap.size, 2, none⟩ = some (.int .i64 s') ∧ W1.cell? ⟨w.heap.size, 3, none⟩ = some (.slice A' n' c')) := Lib.hid ⟨Below.refl _ _, RA.out.cell 0, RA.out.cell 1, RA.out.cell 2, RA.out.cell 3⟩
  go_wp2_with (fail)
  refine wp_region_noPanic ?_
  refine wp_region_held_drew (S := fun W' : World => Below W1.heap.size W1 W' ∧ W'.cell? ⟨w.heap.size, 0, none⟩ = some (.int .i64 s) ∧ W'.cell? ⟨w.heap.size, 1, none⟩ = some (.slice A n c) ∧ W'.cell? ⟨w.heap.size, 2, none⟩ = some (.int .i64 s') ∧ W'.cell? ⟨w.heap.size, 3, none⟩ = some (.slice A' n' c')) (by kernel_rfl) ⟨HS0.out.1.drew, HS0.out.2⟩ (fun hHeld => ?_)
  refine wpAnyH_take (i := 0) (v := .pointer (some ⟨w.heap.size, 0, none⟩)) rfl (by kernel_rfl) (by kernel_rfl) (by kernel_rfl) (fun _ _ _ h => h) (Or.inl ⟨by rfl, (by intro w hSw; (try dsimp only at hSw); go_simp <;> with_reducible rfl)⟩) (by assumption) ?_
  (try simp only [Act.put, List.getElem_toArray, List.getElem_cons_succ, List.getElem_cons_zero, List.setIfInBounds_toArray, List.set_cons_zero, List.set_cons_succ])
  refine wpAnyH_take (i := 1) (v := .agg #[.int .i64 s, .slice A n c]) rfl (by kernel_rfl) (by kernel_rfl) (by kernel_rfl) (fun _ _ _ h => h) (Or.inl ⟨by rfl, (by intro w hSw; (try dsimp only at hSw); go_simp <;> with_reducible rfl)⟩) (by assumption) ?_
  (try simp only [Act.put, List.getElem_toArray, List.getElem_cons_succ, List.getElem_cons_zero, List.setIfInBounds_toArray, List.set_cons_zero, List.set_cons_succ])
  refine wpAnyH_take (i := 4) (v := .pointer (some ⟨w.heap.size, 2, none⟩)) rfl (by kernel_rfl) (by kernel_rfl) (by kernel_rfl) (fun _ _ _ h => h) (Or.inl ⟨by rfl, (by intro w hSw; (try dsimp only at hSw); go_simp <;> with_reducible rfl)⟩) (by assumption) ?_
  (try simp only [Act.put, List.getElem_toArray, List.getElem_cons_succ, List.getElem_cons_zero, List.setIfInBounds_toArray, List.set_cons_zero, List.set_cons_succ])
  refine wpAnyH_take (i := 5) (v := .agg #[.int .i64 s', .slice A' n' c']) rfl (by kernel_rfl) (by kernel_rfl) (by kernel_rfl) (fun _ _ _ h => h) (Or.inl ⟨by rfl, (by intro w hSw; (try dsimp only at hSw); go_simp <;> with_reducible rfl)⟩) (by assumption) ?_
  (try simp only [Act.put, List.getElem_toArray, List.getElem_cons_succ, List.getElem_cons_zero, List.setIfInBounds_toArray, List.set_cons_zero, List.set_cons_succ])
  refine wpAnyH_ready (rs := [2]) (by kernel_rfl) (by simp) ?_
  refine AllReadyH.cons rfl (fun K hK => ?_) AllReadyH.nil
  rw [if_pos (by rfl)]
  (try simp only [Act.put, List.getElem_toArray, List.getElem_cons_succ, List.getElem_cons_zero, List.setIfInBounds_toArray, List.set_cons_zero, List.set_cons_succ])
  go_simp
  go_at_call 31
  refine (text_be _ (HT.out.keep hHeld.1) (HP.out.keep hHeld.1) HT1.out).mono ?_
  rintro e w2 ⟨rfl, hb2⟩
  refine hK.out _ _ ⟨Gen.over hb2 hHeld.1, Gen.keep hb2 hHeld.2.1, Gen.keep hb2 hHeld.2.2.1, Gen.keep hb2 hHeld.2.2.2.1, Gen.keep hb2 hHeld.2.2.2.2⟩ (fun hH2 => ?_)
  clear hK K
  (try simp only [Act.put, List.getElem_toArray, List.getElem_cons_succ, List.getElem_cons_zero, List.setIfInBounds_toArray, List.set_cons_zero, List.set_cons_succ])
  refine wpAnyH_take (i := 3) (v := .string (T1 ++ ⟨#[47]⟩)) rfl (by kernel_rfl) (by kernel_rfl) (by kernel_rfl) (fun _ _ _ h => h) (Or.inl ⟨by rfl, (by intro w hSw; (try dsimp only at hSw); go_simp <;> first | with_reducible rfl | omega)⟩) (by assumption) ?_
  (try simp only [Act.put, List.getElem_toArray, List.getElem_cons_succ, List.getElem_cons_zero, List.setIfInBounds_toArray, List.set_cons_zero, List.set_cons_succ])
  refine wpAnyH_ready (rs := [6]) (by kernel_rfl) (by simp) ?_
  refine AllReadyH.cons rfl (fun K hK => ?_) AllReadyH.nil
  rw [if_pos (by rfl)]
  (try simp only [Act.put, List.getElem_toArray, List.getElem_cons_succ, List.getElem_cons_zero, List.setIfInBounds_toArray, List.set_cons_zero, List.set_cons_succ])
  go_simp
  go_at_call 31
  refine (text_be _ (HT.out.keep hH2.1) (HQ.out.keep hH2.1) HT2.out).mono ?_
  rintro e w6 ⟨rfl, hb6⟩
  refine hK.out _ _ ⟨Gen.over hb6 hH2.1, Gen.keep hb6 hH2.2.1, Gen.keep hb6 hH2.2.2.1, Gen.keep hb6 hH2.2.2.2.1, Gen.keep hb6 hH2.2.2.2.2⟩ (fun hH6 => ?_)
  clear hK K
  (try simp only [Act.put, List.getElem_toArray, List.getElem_cons_succ, List.getElem_cons_zero, List.setIfInBounds_toArray, List.set_cons_zero, List.set_cons_succ])
  refine wpAnyH_take (i := 7) (v := .string (T1 ++ ⟨#[47]⟩ ++ T2)) rfl (by kernel_rfl) (by kernel_rfl) (by kernel_rfl) (fun _ _ _ h => h) (Or.inl ⟨by rfl, (by intro w hSw; (try dsimp only at hSw); go_simp <;> first | with_reducible rfl | omega)⟩) (by assumption) ?_
  (try simp only [Act.put, List.getElem_toArray, List.getElem_cons_succ, List.getElem_cons_zero, List.setIfInBounds_toArray, List.set_cons_zero, List.set_cons_succ])
  refine wpAnyH_take (i := 8) (v := .string (T1 ++ ⟨#[47]⟩ ++ T2)) rfl (by kernel_rfl) (by kernel_rfl) (by kernel_rfl) (fun _ _ _ h => h) (Or.inl ⟨by rfl, (by intro w hSw; (try dsimp only at hSw); go_simp <;> with_reducible rfl)⟩) (by assumption) ?_
  (try simp only [Act.put, List.getElem_toArray, List.getElem_cons_succ, List.getElem_cons_zero, List.setIfInBounds_toArray, List.set_cons_zero, List.set_cons_succ])
  refine wpAnyH_done (by kernel_rfl) ?_ _
  refine NoPanic.normal ?_
  have HF := Lib.hid (Gen.over hH6.1 HB.out)
  go_wp2
  go_ret
  exact ⟨congrArg (fun b => Ending.returned (Value.string b)) HE.out, HF.out⟩
end
end Go.Proofs.YtnifkianjpjahaaGreatDoor.Bg
/- Fractions: Read, of every string. -/
namespace Go.Proofs.YtnifkianjpjahaaGreatDoor.Bg
open Go.ChangeShapes Go.WideShapes Go.ChangeAt Go.RowKit Go.Proofs.YtnifkianjpjahaaGreatDoor.Cell
set_option linter.unusedVariables false
set_option linter.unusedSimpArgs false
variable {N0 : Nat}

/-- what internal/bytealg.MaxLen holds -/
def MaxL (w : World) : Prop := ∃ m, w.cell? ⟨0, 0, none⟩ = some (.int .i64 m)
theorem MaxL.keep {w w1 : World} (h : MaxL w) (hb : Below w.heap.size w w1) : MaxL w1 := by
  obtain ⟨m, h⟩ := h
  exact ⟨m, Gen.keep hb h⟩
def fa (s : List UInt8) : List UInt8 := (Lib.cut s [47]).1
def fb (s : List UInt8) : List UInt8 := (Lib.cut s [47]).2.1
theorem cut_len (s : List UInt8) : (fa s).length ≤ s.length ∧ (fb s).length ≤ s.length := by
  unfold fa fb Lib.cut
  split
  · simp only [List.length_take, List.length_drop]
    omega
  · simp
/-- whether a text is one of a right fraction -/
def fOk (s : List UInt8) : Prop := rdE (fa s) = 0 ∧ rdE (fb s) = 0 ∧ Rt (rdV (fa s)) (rdV (fb s))
instance (s : List UInt8) : Decidable (fOk s) := inferInstanceAs (Decidable (_ ∧ _))
theorem cut_as (s : List UInt8) (w : World) (hs : s.length ≤ 4000000000) (hM : MaxL w) : Calls Tryz.prog 98 #[.string ⟨s.toArray⟩, .string ⟨#[47]⟩] w fun e w' => ∃ b, e = .returned (.tuple #[.string ⟨(fa s).toArray⟩, .string ⟨(fb s).toArray⟩, .bool b]) ∧ Below w.heap.size w w' := by
  obtain ⟨m, hM⟩ := hM
  refine (Tryz.strings_Cut ⟨s.toArray⟩ ⟨#[47]⟩ m w (by show s.toArray.size < _; simp; omega) hM).mono fun e w' ⟨h1, k, h2⟩ => ⟨_, h1, ?_⟩
  subst h2
  exact Gen.dN (Below.refl _ _) k
theorem read_as (s : List UInt8) (w : World) (hl : s.length ≤ 9223372036854775807) :
    Calls Tryz.prog 22 #[.string ⟨s.toArray⟩] w fun e w' => ∃ A n c, e = .returned (.tuple #[bigV (sg (rdV s)) A n c, .int .i64 (rdE s)]) ∧ IsBig N0 w' (bigV (sg (rdV s)) A n c) (rdV s) ∧ Below w.heap.size w w' := read_gen s w hl rfl rfl rfl
set_option maxRecDepth 100000 in
set_option maxHeartbeats 8000000 in
theorem fread_ok (s : List UInt8) (w : World) (hN : N0 ≤ w.heap.size) (hM : MaxL w) (hl : s.length ≤ 4000000000) (h : fOk s) :
    Calls Tryz.prog 50 #[.string ⟨s.toArray⟩] w fun e w' => ∃ s1 A n c s2 A' n' c', e = .returned (.tuple #[frV s1 A n c s2 A' n' c', .int .i64 0]) ∧ IsBig N0 w' (bigV s1 A n c) (rdV (fa s)) ∧ IsBig N0 w' (bigV s2 A' n' c') (rdV (fb s)) ∧ Below w.heap.size w w' := by
  have HB : Hid (Below w.heap.size w (w.alloc (.cells fz4 43))) := Lib.hid (Gen.b_alloc (Below.refl _ _))
  have RR := Lib.hid (Row.new w 43 fz4)
  have HM := Lib.hid (hM.keep HB.out)
  have HNN := Lib.hid hN
  have HL := Lib.hid (cut_len s)
  have HLL := Lib.hid hl
  have HE1 := Lib.hid h.1
  have HE2 := Lib.hid h.2.1
  have HRT := Lib.hid h.2.2
  clear h hl hM hN
  go_enter Tryz.func50, Tryz.ntmps50
  go_wp2_with (fail)
  go_must (refine (cut_as s _ HLL.out HM.out).mono ?_)
  rintro e W1 ⟨bb, rfl, hb⟩
  replace RR := Lib.hid (RR.out.keep hb)
  replace HM := Lib.hid (HM.out.keep hb)
  replace HB := Lib.hid (Gen.over hb HB.out)
  clear hb 
  go_wp2_with (fail)
  go_must (refine (read_as (N0 := N0) (fa s) _ (by have := HL.out.1; have := HLL.out; omega)).mono ?_)
  rintro e W2 ⟨C1, k1, d1, rfl, hu1, hb⟩
  replace RR := Lib.hid (RR.out.keep hb)
  replace HM := Lib.hid (HM.out.keep hb)
  replace HB := Lib.hid (Gen.over hb HB.out)
  clear hb 
  have Hu1 := Lib.hid hu1
  clear hu1
  rw [HE1.out]
  have Ru1 := Lib.hid (Row.new W2 24 #[.int .i64 (sg (rdV (fa s))), .slice C1 k1 d1])
  replace RR := Lib.hid (RR.out.alloc (.cells #[.int .i64 (sg (rdV (fa s))), .slice C1 k1 d1] 24))
  replace HM := Lib.hid (HM.out.keep (Gen.b_alloc (x := (.cells #[.int .i64 (sg (rdV (fa s))), .slice C1 k1 d1] 24)) (Below.refl _ _)))
  replace Hu1 := Lib.hid (Hu1.out.keep (Gen.b_alloc (x := (.cells #[.int .i64 (sg (rdV (fa s))), .slice C1 k1 d1] 24)) (Below.refl _ _)))
  replace HB := Lib.hid (Gen.b_alloc (x := (.cells #[.int .i64 (sg (rdV (fa s))), .slice C1 k1 d1] 24)) HB.out)
  go_wp2_with (fail)
  go_must (refine (read_as (N0 := N0) (fb s) _ (by have := HL.out.2; have := HLL.out; omega)).mono ?_)
  rintro e W3 ⟨C2, k2, d2, rfl, hu2, hb⟩
  replace RR := Lib.hid (RR.out.keep hb)
  replace Ru1 := Lib.hid (Ru1.out.keep hb)
  replace HM := Lib.hid (HM.out.keep hb)
  replace Hu1 := Lib.hid (Hu1.out.keep hb)
  replace HB := Lib.hid (Gen.over hb HB.out)
  clear hb 
  have Hu2 := Lib.hid hu2
  clear hu2
  rw [HE2.out]
  have Ru2 := Lib.hid (Row.new W3 24 #[.int .i64 (sg (rdV (fb s))), .slice C2 k2 d2])
  replace RR := Lib.hid (RR.out.alloc (.cells #[.int .i64 (sg (rdV (fb s))), .slice C2 k2 d2] 24))
  replace Ru1 := Lib.hid (Ru1.out.alloc (.cells #[.int .i64 (sg (rdV (fb s))), .slice C2 k2 d2] 24))
  replace HM := Lib.hid (HM.out.keep (Gen.b_alloc (x := (.cells #[.int .i64 (sg (rdV (fb s))), .slice C2 k2 d2] 24)) (Below.refl _ _)))
  replace Hu1 := Lib.hid (Hu1.out.keep (Gen.b_alloc (x := (.cells #[.int .i64 (sg (rdV (fb s))), .slice C2 k2 d2] 24)) (Below.refl _ _)))
  replace Hu2 := Lib.hid (Hu2.out.keep (Gen.b_alloc (x := (.cells #[.int .i64 (sg (rdV (fb s))), .slice C2 k2 d2] 24)) (Below.refl _ _)))
  replace HB := Lib.hid (Gen.b_alloc (x := (.cells #[.int .i64 (sg (rdV (fb s))), .slice C2 k2 d2] 24)) HB.out)
  have Ru1c0 := Ru1.out.cell 0
  have Ru1c1 := Ru1.out.cell 1
  have Ru2c0 := Ru2.out.cell 0
  have Ru2c1 := Ru2.out.cell 1
  have Rf := Lib.hid (Row.new (W3.alloc (.cells #[.int .i64 (sg (rdV (fb s))), .slice C2 k2 d2] 24)) 43 (fC (sg (rdV (fa s))) C1 k1 d1 (sg (rdV (fb s))) C2 k2 d2))
  rw [World.size_alloc] at Rf
  replace RR := Lib.hid (RR.out.alloc (.cells (fC (sg (rdV (fa s))) C1 k1 d1 (sg (rdV (fb s))) C2 k2 d2) 43))
  replace Ru1 := Lib.hid (Ru1.out.alloc (.cells (fC (sg (rdV (fa s))) C1 k1 d1 (sg (rdV (fb s))) C2 k2 d2) 43))
  replace Ru2 := Lib.hid (Ru2.out.alloc (.cells (fC (sg (rdV (fa s))) C1 k1 d1 (sg (rdV (fb s))) C2 k2 d2) 43))
  replace HM := Lib.hid (HM.out.keep (Gen.b_alloc (x := (.cells (fC (sg (rdV (fa s))) C1 k1 d1 (sg (rdV (fb s))) C2 k2 d2) 43)) (Below.refl _ _)))
  replace Hu1 := Lib.hid (Hu1.out.keep (Gen.b_alloc (x := (.cells (fC (sg (rdV (fa s))) C1 k1 d1 (sg (rdV (fb s))) C2 k2 d2) 43)) (Below.refl _ _)))
  replace Hu2 := Lib.hid (Hu2.out.keep (Gen.b_alloc (x := (.cells (fC (sg (rdV (fa s))) C1 k1 d1 (sg (rdV (fb s))) C2 k2 d2) 43)) (Below.refl _ _)))
  replace HB := Lib.hid (Gen.b_alloc (x := (.cells (fC (sg (rdV (fa s))) C1 k1 d1 (sg (rdV (fb s))) C2 k2 d2) 43)) HB.out)
  go_wp2_with (fail)
  go_must (refine (fright_yes _ Hu1.out Hu2.out HRT.out).mono ?_)
  rintro e W4 ⟨rfl, hb⟩
  replace RR := Lib.hid (RR.out.keep hb)
  replace Ru1 := Lib.hid (Ru1.out.keep hb)
  replace Ru2 := Lib.hid (Ru2.out.keep hb)
  replace Rf := Lib.hid (Rf.out.keep hb)
  replace HM := Lib.hid (HM.out.keep hb)
  replace Hu1 := Lib.hid (Hu1.out.keep hb)
  replace Hu2 := Lib.hid (Hu2.out.keep hb)
  replace HB := Lib.hid (Gen.over hb HB.out)
  clear hb 
  clear Ru1c0 Ru1c1 Ru2c0 Ru2c1
  have gr0 := RR.out.frozen 0
  have gc0 := RR.out.cell 0
  have gr1 := RR.out.frozen 1
  have gc1 := RR.out.cell 1
  have gr2 := RR.out.frozen 2
  have gc2 := RR.out.cell 2
  have gr3 := RR.out.frozen 3
  have gc3 := RR.out.cell 3
  have hlt2 := RR.out.lt
  have Rfc0 := Rf.out.cell 0
  have Rfc1 := Rf.out.cell 1
  have Rfc2 := Rf.out.cell 2
  have Rfc3 := Rf.out.cell 3
  go_wp2
  refine bodyPost_ret (v := .tuple #[frV (sg (rdV (fa s))) C1 k1 d1 (sg (rdV (fb s))) C2 k2 d2, .int .i64 0]) ?_ rfl ⟨_, _, _, _, _, _, _, _, rfl, Hu1.out.set4 RR.out HNN.out _ _ _ _, Hu2.out.set4 RR.out HNN.out _ _ _ _, below_set4 HB.out (Nat.le_refl _) _ _ _ _⟩
  simp [results, Tryz.results50, go_sem, *]
set_option maxRecDepth 100000 in
set_option maxHeartbeats 8000000 in
theorem fread_e1 (s : List UInt8) (w : World) (hN : N0 ≤ w.heap.size) (hM : MaxL w) (hl : s.length ≤ 4000000000) (h : rdE (fa s) ≠ 0) :
    Calls Tryz.prog 50 #[.string ⟨s.toArray⟩] w fun e w' => e = .returned (.tuple #[.agg fz4, .int .i64 2]) ∧ Below w.heap.size w w' := by
  have HB : Hid (Below w.heap.size w (w.alloc (.cells fz4 43))) := Lib.hid (Gen.b_alloc (Below.refl _ _))
  have RR := Lib.hid (Row.new w 43 fz4)
  have HM := Lib.hid (hM.keep HB.out)
  have HNN := Lib.hid hN
  have HL := Lib.hid (cut_len s)
  have HLL := Lib.hid hl
  obtain ⟨e1, he1⟩ : ∃ e, rdE (fa s) = e := ⟨_, rfl⟩
  rw [he1] at h
  have HE1 := Lib.hid he1
  have hn1 : (e1 != 0) = true := by simp [h]
  clear h he1 hl hM hN
  go_enter Tryz.func50, Tryz.ntmps50
  go_wp2_with (fail)
  go_must (refine (cut_as s _ HLL.out HM.out).mono ?_)
  rintro e W1 ⟨bb, rfl, hb⟩
  replace RR := Lib.hid (RR.out.keep hb)
  replace HM := Lib.hid (HM.out.keep hb)
  replace HB := Lib.hid (Gen.over hb HB.out)
  clear hb 
  go_wp2_with (fail)
  go_must (refine (read_as (N0 := N0) (fa s) _ (by have := HL.out.1; have := HLL.out; omega)).mono ?_)
  rintro e W2 ⟨C1, k1, d1, rfl, hu1, hb⟩
  replace RR := Lib.hid (RR.out.keep hb)
  replace HM := Lib.hid (HM.out.keep hb)
  replace HB := Lib.hid (Gen.over hb HB.out)
  clear hb 
  have Hu1 := Lib.hid hu1
  clear hu1
  rw [HE1.out]
  have Ru1 := Lib.hid (Row.new W2 24 #[.int .i64 (sg (rdV (fa s))), .slice C1 k1 d1])
  replace RR := Lib.hid (RR.out.alloc (.cells #[.int .i64 (sg (rdV (fa s))), .slice C1 k1 d1] 24))
  replace HM := Lib.hid (HM.out.keep (Gen.b_alloc (x := (.cells #[.int .i64 (sg (rdV (fa s))), .slice C1 k1 d1] 24)) (Below.refl _ _)))
  replace Hu1 := Lib.hid (Hu1.out.keep (Gen.b_alloc (x := (.cells #[.int .i64 (sg (rdV (fa s))), .slice C1 k1 d1] 24)) (Below.refl _ _)))
  replace HB := Lib.hid (Gen.b_alloc (x := (.cells #[.int .i64 (sg (rdV (fa s))), .slice C1 k1 d1] 24)) HB.out)
  go_wp2_with (fail)
  go_must (refine (read_as (N0 := N0) (fb s) _ (by have := HL.out.2; have := HLL.out; omega)).mono ?_)
  rintro e W3 ⟨C2, k2, d2, rfl, hu2, hb⟩
  replace RR := Lib.hid (RR.out.keep hb)
  replace Ru1 := Lib.hid (Ru1.out.keep hb)
  replace HM := Lib.hid (HM.out.keep hb)
  replace Hu1 := Lib.hid (Hu1.out.keep hb)
  replace HB := Lib.hid (Gen.over hb HB.out)
  clear hb 
  have Hu2 := Lib.hid hu2
  clear hu2
  obtain ⟨e2, he2⟩ : ∃ e, rdE (fb s) = e := ⟨_, rfl⟩
  rw [he2]
  clear he2
  have Ru2 := Lib.hid (Row.new W3 24 #[.int .i64 (sg (rdV (fb s))), .slice C2 k2 d2])
  replace RR := Lib.hid (RR.out.alloc (.cells #[.int .i64 (sg (rdV (fb s))), .slice C2 k2 d2] 24))
  replace Ru1 := Lib.hid (Ru1.out.alloc (.cells #[.int .i64 (sg (rdV (fb s))), .slice C2 k2 d2] 24))
  replace HM := Lib.hid (HM.out.keep (Gen.b_alloc (x := (.cells #[.int .i64 (sg (rdV (fb s))), .slice C2 k2 d2] 24)) (Below.refl _ _)))
  replace Hu1 := Lib.hid (Hu1.out.keep (Gen.b_alloc (x := (.cells #[.int .i64 (sg (rdV (fb s))), .slice C2 k2 d2] 24)) (Below.refl _ _)))
  replace Hu2 := Lib.hid (Hu2.out.keep (Gen.b_alloc (x := (.cells #[.int .i64 (sg (rdV (fb s))), .slice C2 k2 d2] 24)) (Below.refl _ _)))
  replace HB := Lib.hid (Gen.b_alloc (x := (.cells #[.int .i64 (sg (rdV (fb s))), .slice C2 k2 d2] 24)) HB.out)
  have Ru1c0 := Ru1.out.cell 0
  have Ru1c1 := Ru1.out.cell 1
  have Ru2c0 := Ru2.out.cell 0
  have Ru2c1 := Ru2.out.cell 1
  have Rf := Lib.hid (Row.new (W3.alloc (.cells #[.int .i64 (sg (rdV (fb s))), .slice C2 k2 d2] 24)) 43 (fC (sg (rdV (fa s))) C1 k1 d1 (sg (rdV (fb s))) C2 k2 d2))
  rw [World.size_alloc] at Rf
  replace RR := Lib.hid (RR.out.alloc (.cells (fC (sg (rdV (fa s))) C1 k1 d1 (sg (rdV (fb s))) C2 k2 d2) 43))
  replace Ru1 := Lib.hid (Ru1.out.alloc (.cells (fC (sg (rdV (fa s))) C1 k1 d1 (sg (rdV (fb s))) C2 k2 d2) 43))
  replace Ru2 := Lib.hid (Ru2.out.alloc (.cells (fC (sg (rdV (fa s))) C1 k1 d1 (sg (rdV (fb s))) C2 k2 d2) 43))
  replace HM := Lib.hid (HM.out.keep (Gen.b_alloc (x := (.cells (fC (sg (rdV (fa s))) C1 k1 d1 (sg (rdV (fb s))) C2 k2 d2) 43)) (Below.refl _ _)))
  replace Hu1 := Lib.hid (Hu1.out.keep (Gen.b_alloc (x := (.cells (fC (sg (rdV (fa s))) C1 k1 d1 (sg (rdV (fb s))) C2 k2 d2) 43)) (Below.refl _ _)))
  replace Hu2 := Lib.hid (Hu2.out.keep (Gen.b_alloc (x := (.cells (fC (sg (rdV (fa s))) C1 k1 d1 (sg (rdV (fb s))) C2 k2 d2) 43)) (Below.refl _ _)))
  replace HB := Lib.hid (Gen.b_alloc (x := (.cells (fC (sg (rdV (fa s))) C1 k1 d1 (sg (rdV (fb s))) C2 k2 d2) 43)) HB.out)
  have gr0 := RR.out.frozen 0
  have gc0 := RR.out.cell 0
  have gr1 := RR.out.frozen 1
  have gc1 := RR.out.cell 1
  have gr2 := RR.out.frozen 2
  have gc2 := RR.out.cell 2
  have gr3 := RR.out.frozen 3
  have gc3 := RR.out.cell 3
  have hlt2 := RR.out.lt
  go_wp2
  refine bodyPost_ret (v := .tuple #[.agg fz4, .int .i64 2]) ?_ rfl ⟨rfl, below_set4 HB.out (Nat.le_refl _) _ _ _ _⟩
  simp [results, Tryz.results50, go_sem, *]
set_option maxRecDepth 100000 in
set_option maxHeartbeats 8000000 in
theorem fread_e2 (s : List UInt8) (w : World) (hN : N0 ≤ w.heap.size) (hM : MaxL w) (hl : s.length ≤ 4000000000) (h0 : rdE (fa s) = 0) (h : rdE (fb s) ≠ 0) :
    Calls Tryz.prog 50 #[.string ⟨s.toArray⟩] w fun e w' => e = .returned (.tuple #[.agg fz4, .int .i64 2]) ∧ Below w.heap.size w w' := by
  have HB : Hid (Below w.heap.size w (w.alloc (.cells fz4 43))) := Lib.hid (Gen.b_alloc (Below.refl _ _))
  have RR := Lib.hid (Row.new w 43 fz4)
  have HM := Lib.hid (hM.keep HB.out)
  have HNN := Lib.hid hN
  have HL := Lib.hid (cut_len s)
  have HLL := Lib.hid hl
  obtain ⟨e2, he2⟩ : ∃ e, rdE (fb s) = e := ⟨_, rfl⟩
  rw [he2] at h
  have HE1 := Lib.hid h0
  have HE2 := Lib.hid he2
  have hn1 : (e2 != 0) = true := by simp [h]
  clear h h0 he2 hl hM hN
  go_enter Tryz.func50, Tryz.ntmps50
  go_wp2_with (fail)
  go_must (refine (cut_as s _ HLL.out HM.out).mono ?_)
  rintro e W1 ⟨bb, rfl, hb⟩
  replace RR := Lib.hid (RR.out.keep hb)
  replace HM := Lib.hid (HM.out.keep hb)
  replace HB := Lib.hid (Gen.over hb HB.out)
  clear hb 
  go_wp2_with (fail)
  go_must (refine (read_as (N0 := N0) (fa s) _ (by have := HL.out.1; have := HLL.out; omega)).mono ?_)
  rintro e W2 ⟨C1, k1, d1, rfl, hu1, hb⟩
  replace RR := Lib.hid (RR.out.keep hb)
  replace HM := Lib.hid (HM.out.keep hb)
  replace HB := Lib.hid (Gen.over hb HB.out)
  clear hb 
  have Hu1 := Lib.hid hu1
  clear hu1
  rw [HE1.out]
  have Ru1 := Lib.hid (Row.new W2 24 #[.int .i64 (sg (rdV (fa s))), .slice C1 k1 d1])
  replace RR := Lib.hid (RR.out.alloc (.cells #[.int .i64 (sg (rdV (fa s))), .slice C1 k1 d1] 24))
  replace HM := Lib.hid (HM.out.keep (Gen.b_alloc (x := (.cells #[.int .i64 (sg (rdV (fa s))), .slice C1 k1 d1] 24)) (Below.refl _ _)))
  replace Hu1 := Lib.hid (Hu1.out.keep (Gen.b_alloc (x := (.cells #[.int .i64 (sg (rdV (fa s))), .slice C1 k1 d1] 24)) (Below.refl _ _)))
  replace HB := Lib.hid (Gen.b_alloc (x := (.cells #[.int .i64 (sg (rdV (fa s))), .slice C1 k1 d1] 24)) HB.out)
  go_wp2_with (fail)
  go_must (refine (read_as (N0 := N0) (fb s) _ (by have := HL.out.2; have := HLL.out; omega)).mono ?_)
  rintro e W3 ⟨C2, k2, d2, rfl, hu2, hb⟩
  replace RR := Lib.hid (RR.out.keep hb)
  replace Ru1 := Lib.hid (Ru1.out.keep hb)
  replace HM := Lib.hid (HM.out.keep hb)
  replace Hu1 := Lib.hid (Hu1.out.keep hb)
  replace HB := Lib.hid (Gen.over hb HB.out)
  clear hb 
  have Hu2 := Lib.hid hu2
  clear hu2
  rw [HE2.out]
  have Ru2 := Lib.hid (Row.new W3 24 #[.int .i64 (sg (rdV (fb s))), .slice C2 k2 d2])
  replace RR := Lib.hid (RR.out.alloc (.cells #[.int .i64 (sg (rdV (fb s))), .slice C2 k2 d2] 24))
  replace Ru1 := Lib.hid (Ru1.out.alloc (.cells #[.int .i64 (sg (rdV (fb s))), .slice C2 k2 d2] 24))
  replace HM := Lib.hid (HM.out.keep (Gen.b_alloc (x := (.cells #[.int .i64 (sg (rdV (fb s))), .slice C2 k2 d2] 24)) (Below.refl _ _)))
  replace Hu1 := Lib.hid (Hu1.out.keep (Gen.b_alloc (x := (.cells #[.int .i64 (sg (rdV (fb s))), .slice C2 k2 d2] 24)) (Below.refl _ _)))
  replace Hu2 := Lib.hid (Hu2.out.keep (Gen.b_alloc (x := (.cells #[.int .i64 (sg (rdV (fb s))), .slice C2 k2 d2] 24)) (Below.refl _ _)))
  replace HB := Lib.hid (Gen.b_alloc (x := (.cells #[.int .i64 (sg (rdV (fb s))), .slice C2 k2 d2] 24)) HB.out)
  have Ru1c0 := Ru1.out.cell 0
  have Ru1c1 := Ru1.out.cell 1
  have Ru2c0 := Ru2.out.cell 0
  have Ru2c1 := Ru2.out.cell 1
  have Rf := Lib.hid (Row.new (W3.alloc (.cells #[.int .i64 (sg (rdV (fb s))), .slice C2 k2 d2] 24)) 43 (fC (sg (rdV (fa s))) C1 k1 d1 (sg (rdV (fb s))) C2 k2 d2))
  rw [World.size_alloc] at Rf
  replace RR := Lib.hid (RR.out.alloc (.cells (fC (sg (rdV (fa s))) C1 k1 d1 (sg (rdV (fb s))) C2 k2 d2) 43))
  replace Ru1 := Lib.hid (Ru1.out.alloc (.cells (fC (sg (rdV (fa s))) C1 k1 d1 (sg (rdV (fb s))) C2 k2 d2) 43))
  replace Ru2 := Lib.hid (Ru2.out.alloc (.cells (fC (sg (rdV (fa s))) C1 k1 d1 (sg (rdV (fb s))) C2 k2 d2) 43))
  replace HM := Lib.hid (HM.out.keep (Gen.b_alloc (x := (.cells (fC (sg (rdV (fa s))) C1 k1 d1 (sg (rdV (fb s))) C2 k2 d2) 43)) (Below.refl _ _)))
  replace Hu1 := Lib.hid (Hu1.out.keep (Gen.b_alloc (x := (.cells (fC (sg (rdV (fa s))) C1 k1 d1 (sg (rdV (fb s))) C2 k2 d2) 43)) (Below.refl _ _)))
  replace Hu2 := Lib.hid (Hu2.out.keep (Gen.b_alloc (x := (.cells (fC (sg (rdV (fa s))) C1 k1 d1 (sg (rdV (fb s))) C2 k2 d2) 43)) (Below.refl _ _)))
  replace HB := Lib.hid (Gen.b_alloc (x := (.cells (fC (sg (rdV (fa s))) C1 k1 d1 (sg (rdV (fb s))) C2 k2 d2) 43)) HB.out)
  have gr0 := RR.out.frozen 0
  have gc0 := RR.out.cell 0
  have gr1 := RR.out.frozen 1
  have gc1 := RR.out.cell 1
  have gr2 := RR.out.frozen 2
  have gc2 := RR.out.cell 2
  have gr3 := RR.out.frozen 3
  have gc3 := RR.out.cell 3
  have hlt2 := RR.out.lt
  go_wp2
  refine bodyPost_ret (v := .tuple #[.agg fz4, .int .i64 2]) ?_ rfl ⟨rfl, below_set4 HB.out (Nat.le_refl _) _ _ _ _⟩
  simp [results, Tryz.results50, go_sem, *]
set_option maxRecDepth 100000 in
set_option maxHeartbeats 8000000 in
theorem fread_rt (s : List UInt8) (w : World) (hN : N0 ≤ w.heap.size) (hM : MaxL w) (hl : s.length ≤ 4000000000) (h0 : rdE (fa s) = 0) (h1 : rdE (fb s) = 0) (h : ¬ Rt (rdV (fa s)) (rdV (fb s))) :
    Calls Tryz.prog 50 #[.string ⟨s.toArray⟩] w fun e w' => e = .returned (.tuple #[.agg fz4, .int .i64 2]) ∧ Below w.heap.size w w' := by
  have HB : Hid (Below w.heap.size w (w.alloc (.cells fz4 43))) := Lib.hid (Gen.b_alloc (Below.refl _ _))
  have RR := Lib.hid (Row.new w 43 fz4)
  have HM := Lib.hid (hM.keep HB.out)
  have HNN := Lib.hid hN
  have HL := Lib.hid (cut_len s)
  have HLL := Lib.hid hl
  have HE1 := Lib.hid h0
  have HE2 := Lib.hid h1
  have HRT := Lib.hid h
  clear h h0 h1 hl hM hN
  go_enter Tryz.func50, Tryz.ntmps50
  go_wp2_with (fail)
  go_must (refine (cut_as s _ HLL.out HM.out).mono ?_)
  rintro e W1 ⟨bb, rfl, hb⟩
  replace RR := Lib.hid (RR.out.keep hb)
  replace HM := Lib.hid (HM.out.keep hb)
  replace HB := Lib.hid (Gen.over hb HB.out)
  clear hb 
  go_wp2_with (fail)
  go_must (refine (read_as (N0 := N0) (fa s) _ (by have := HL.out.1; have := HLL.out; omega)).mono ?_)
  rintro e W2 ⟨C1, k1, d1, rfl, hu1, hb⟩
  replace RR := Lib.hid (RR.out.keep hb)
  replace HM := Lib.hid (HM.out.keep hb)
  replace HB := Lib.hid (Gen.over hb HB.out)
  clear hb 
  have Hu1 := Lib.hid hu1
  clear hu1
  rw [HE1.out]
  have Ru1 := Lib.hid (Row.new W2 24 #[.int .i64 (sg (rdV (fa s))), .slice C1 k1 d1])
  replace RR := Lib.hid (RR.out.alloc (.cells #[.int .i64 (sg (rdV (fa s))), .slice C1 k1 d1] 24))
  replace HM := Lib.hid (HM.out.keep (Gen.b_alloc (x := (.cells #[.int .i64 (sg (rdV (fa s))), .slice C1 k1 d1] 24)) (Below.refl _ _)))
  replace Hu1 := Lib.hid (Hu1.out.keep (Gen.b_alloc (x := (.cells #[.int .i64 (sg (rdV (fa s))), .slice C1 k1 d1] 24)) (Below.refl _ _)))
  replace HB := Lib.hid (Gen.b_alloc (x := (.cells #[.int .i64 (sg (rdV (fa s))), .slice C1 k1 d1] 24)) HB.out)
  go_wp2_with (fail)
  go_must (refine (read_as (N0 := N0) (fb s) _ (by have := HL.out.2; have := HLL.out; omega)).mono ?_)
  rintro e W3 ⟨C2, k2, d2, rfl, hu2, hb⟩
  replace RR := Lib.hid (RR.out.keep hb)
  replace Ru1 := Lib.hid (Ru1.out.keep hb)
  replace HM := Lib.hid (HM.out.keep hb)
  replace Hu1 := Lib.hid (Hu1.out.keep hb)
  replace HB := Lib.hid (Gen.over hb HB.out)
  clear hb 
  have Hu2 := Lib.hid hu2
  clear hu2
  rw [HE2.out]
  have Ru2 := Lib.hid (Row.new W3 24 #[.int .i64 (sg (rdV (fb s))), .slice C2 k2 d2])
  replace RR := Lib.hid (RR.out.alloc (.cells #[.int .i64 (sg (rdV (fb s))), .slice C2 k2 d2] 24))
  replace Ru1 := Lib.hid (Ru1.out.alloc (.cells #[.int .i64 (sg (rdV (fb s))), .slice C2 k2 d2] 24))
  replace HM := Lib.hid (HM.out.keep (Gen.b_alloc (x := (.cells #[.int .i64 (sg (rdV (fb s))), .slice C2 k2 d2] 24)) (Below.refl _ _)))
  replace Hu1 := Lib.hid (Hu1.out.keep (Gen.b_alloc (x := (.cells #[.int .i64 (sg (rdV (fb s))), .slice C2 k2 d2] 24)) (Below.refl _ _)))
  replace Hu2 := Lib.hid (Hu2.out.keep (Gen.b_alloc (x := (.cells #[.int .i64 (sg (rdV (fb s))), .slice C2 k2 d2] 24)) (Below.refl _ _)))
  replace HB := Lib.hid (Gen.b_alloc (x := (.cells #[.int .i64 (sg (rdV (fb s))), .slice C2 k2 d2] 24)) HB.out)
  have Ru1c0 := Ru1.out.cell 0
  have Ru1c1 := Ru1.out.cell 1
  have Ru2c0 := Ru2.out.cell 0
  have Ru2c1 := Ru2.out.cell 1
  have Rf := Lib.hid (Row.new (W3.alloc (.cells #[.int .i64 (sg (rdV (fb s))), .slice C2 k2 d2] 24)) 43 (fC (sg (rdV (fa s))) C1 k1 d1 (sg (rdV (fb s))) C2 k2 d2))
  rw [World.size_alloc] at Rf
  replace RR := Lib.hid (RR.out.alloc (.cells (fC (sg (rdV (fa s))) C1 k1 d1 (sg (rdV (fb s))) C2 k2 d2) 43))
  replace Ru1 := Lib.hid (Ru1.out.alloc (.cells (fC (sg (rdV (fa s))) C1 k1 d1 (sg (rdV (fb s))) C2 k2 d2) 43))
  replace Ru2 := Lib.hid (Ru2.out.alloc (.cells (fC (sg (rdV (fa s))) C1 k1 d1 (sg (rdV (fb s))) C2 k2 d2) 43))
  replace HM := Lib.hid (HM.out.keep (Gen.b_alloc (x := (.cells (fC (sg (rdV (fa s))) C1 k1 d1 (sg (rdV (fb s))) C2 k2 d2) 43)) (Below.refl _ _)))
  replace Hu1 := Lib.hid (Hu1.out.keep (Gen.b_alloc (x := (.cells (fC (sg (rdV (fa s))) C1 k1 d1 (sg (rdV (fb s))) C2 k2 d2) 43)) (Below.refl _ _)))
  replace Hu2 := Lib.hid (Hu2.out.keep (Gen.b_alloc (x := (.cells (fC (sg (rdV (fa s))) C1 k1 d1 (sg (rdV (fb s))) C2 k2 d2) 43)) (Below.refl _ _)))
  replace HB := Lib.hid (Gen.b_alloc (x := (.cells (fC (sg (rdV (fa s))) C1 k1 d1 (sg (rdV (fb s))) C2 k2 d2) 43)) HB.out)
  go_wp2_with (fail)
  go_must (refine (fright_val _ Hu1.out Hu2.out).mono ?_)
  rintro e W4 ⟨rfl, hb⟩
  replace RR := Lib.hid (RR.out.keep hb)
  replace Ru1 := Lib.hid (Ru1.out.keep hb)
  replace Ru2 := Lib.hid (Ru2.out.keep hb)
  replace Rf := Lib.hid (Rf.out.keep hb)
  replace HM := Lib.hid (HM.out.keep hb)
  replace Hu1 := Lib.hid (Hu1.out.keep hb)
  replace Hu2 := Lib.hid (Hu2.out.keep hb)
  replace HB := Lib.hid (Gen.over hb HB.out)
  clear hb 
  rw [decide_eq_false HRT.out]
  clear Ru1c0 Ru1c1 Ru2c0 Ru2c1
  have gr0 := RR.out.frozen 0
  have gc0 := RR.out.cell 0
  have gr1 := RR.out.frozen 1
  have gc1 := RR.out.cell 1
  have gr2 := RR.out.frozen 2
  have gc2 := RR.out.cell 2
  have gr3 := RR.out.frozen 3
  have gc3 := RR.out.cell 3
  have hlt2 := RR.out.lt
  go_wp2
  refine bodyPost_ret (v := .tuple #[.agg fz4, .int .i64 2]) ?_ rfl ⟨rfl, below_set4 HB.out (Nat.le_refl _) _ _ _ _⟩
  simp [results, Tryz.results50, go_sem, *]
theorem fread_no (s : List UInt8) (w : World) (hN : N0 ≤ w.heap.size) (hM : MaxL w) (hl : s.length ≤ 4000000000) (h : ¬ fOk s) :
    Calls Tryz.prog 50 #[.string ⟨s.toArray⟩] w fun e w' => e = .returned (.tuple #[.agg fz4, .int .i64 2]) ∧ Below w.heap.size w w' := by
  by_cases h0 : rdE (fa s) = 0
  · by_cases h1 : rdE (fb s) = 0
    · exact fread_rt s w hN hM hl h0 h1 (fun hr => h ⟨h0, h1, hr⟩)
    · exact fread_e2 s w hN hM hl h0 h1
  · exact fread_e1 s w hN hM hl h0
end Go.Proofs.YtnifkianjpjahaaGreatDoor.Bg
