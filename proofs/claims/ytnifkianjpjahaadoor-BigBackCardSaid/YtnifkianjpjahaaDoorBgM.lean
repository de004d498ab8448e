/- Big integers: Mul, Neg by value. -/
import Derived.Test.YtnifkianjpjahaaDoorBgL
namespace Go.Proofs.YtnifkianjpjahaaDoor.Bg
open Go.ChangeShapes Go.WideShapes Go.ChangeAt Go.RowKit Go.Proofs.YtnifkianjpjahaaDoor.Cell
set_option linter.unusedVariables false
set_option linter.unusedSimpArgs false

section
variable {x y : Int} {va vb : Value}
theorem sg_mul (x y : Int) : sg (x * y) = sg x * sg y := by
  rcases sg_cases x with ⟨h, e⟩ | ⟨h, e⟩ | ⟨h, e⟩
  · rcases sg_cases y with ⟨h', e'⟩ | ⟨h', e'⟩ | ⟨h', e'⟩
    · rw [e, e', sg_pos (Int.mul_pos_of_neg_of_neg h h')]; rfl
    · subst h'; rw [Int.mul_zero, e, e']; rfl
    · rw [e, e', sg_neg (Int.mul_neg_of_neg_of_pos h h')]; rfl
  · subst h; rw [Int.zero_mul, e, Int.zero_mul]
  · rcases sg_cases y with ⟨h', e'⟩ | ⟨h', e'⟩ | ⟨h', e'⟩
    · rw [e, e', sg_neg (Int.mul_neg_of_pos_of_neg h h')]; rfl
    · subst h'; rw [Int.mul_zero, e, e']; rfl
    · rw [e, e', sg_pos (Int.mul_pos h h')]; rfl
theorem abs_mul' (x y : Int) : ((x * y).natAbs : Int) = (x.natAbs : Int) * (y.natAbs : Int) := by rw [Int.natAbs_mul]; rfl
/-- a product that is surely too long -/
theorem mul_long {a b : List Int} (na : Nm a x.natAbs) (nb : Nm b y.natAbs) (h : 62 ≤ a.length + b.length) (hx : x ≠ 0) (hy : y ≠ 0) : ¬ Fit (x * y) := fun hf => by
  have ha : a ≠ [] := fun e => hx (by have := na.nil.1 e; omega)
  have hb : b ≠ [] := fun e => hy (by have := nb.nil.1 e; omega)
  have h1 := val_ge na.1 na.2.1 ha
  have h2 := val_ge nb.1 nb.2.1 hb
  rw [na.2.2] at h1
  rw [nb.2.2] at h2
  have p1 := pw_pos (a.length - 1)
  have p2 := pw_pos (b.length - 1)
  have h3 : pw (a.length - 1) * pw (b.length - 1) ≤ (x.natAbs : Int) * (y.natAbs : Int) := Int.mul_le_mul h1 h2 (by omega) (by omega)
  rw [← pw_add, ← abs_mul'] at h3
  have h4 := pw_le (show 60 ≤ a.length - 1 + (b.length - 1) by omega)
  unfold Fit at hf
  omega
theorem mul_len {a b l : List Int} (na : Nm a x.natAbs) (nb : Nm b y.natAbs) (h : Nm l (val a * val b)) (ha : a.length ≤ 60) (hb : b.length ≤ 60) : l.length ≤ 120 := by
  refine (h.len 120).2 ?_
  have h1 := val_lt na.1
  have h2 := val_lt nb.1
  have h5 := pw_le ha
  have h6 := pw_le hb
  have h3 : val a * val b ≤ pw 60 * val b := Int.mul_le_mul_of_nonneg_right (by omega) (val_nonneg nb.1)
  have h4 : pw 60 * val b < pw 60 * pw 60 := Int.mul_lt_mul_of_pos_left (by omega) (by have := pw_pos 60; omega)
  have h7 : pw 60 * pw 60 = pw 120 := (pw_add 60 60).symm
  omega
set_option maxRecDepth 100000 in
set_option maxHeartbeats 4000000 in
theorem mul_no (w : World) (hx : IsBig w va x) (hy : IsBig w vb y) (hl : ∃ A c a A' c' b, va = bigV (sg x) A (List.length a) c ∧ vb = bigV (sg y) A' (List.length b) c' ∧ Nm a x.natAbs ∧ Nm b y.natAbs ∧ a.length ≤ 60 ∧ b.length ≤ 60 ∧ 62 ≤ a.length + b.length) (h0 : x ≠ 0) (h0' : y ≠ 0) :
    Calls Tryd.prog 14 #[va, vb] w fun e w' => ∃ v, e = .returned (.tuple #[v, .int .i64 (fe (x * y))]) ∧ IsBig w' v (fz (x * y)) ∧ Below w.heap.size w w' := by
  obtain ⟨A, c, a, A', c', b, rfl, rfl, na, nb, h60, h60', hlen⟩ := hl
  have hf := mul_long na nb hlen h0 h0'
  rw [fz_no hf, fe_no hf]
  obtain ⟨n, hn⟩ : ∃ n, a.length = n := ⟨_, rfl⟩
  obtain ⟨n', hn'⟩ : ∃ n, b.length = n := ⟨_, rfl⟩
  rw [hn] at hx h60 hlen ⊢
  rw [hn'] at hy h60' hlen ⊢
  have HX := Lib.hid hx
  have HY := Lib.hid hy
  have hww : IntKind.i64.wrap (sg x * sg y) = sg x * sg y := IntWalk.i64_in _ (by rw [← sg_mul]; have := sg_in (x * y); omega)
  have hwn : (sg x * sg y != 0) = true := by
    rw [← sg_mul]
    have := sg_cases (x * y)
    have h : x * y ≠ 0 := Int.mul_ne_zero h0 h0'
    simp; omega
  have e1 : IntKind.i64.wrap ((n : Int) + (n' : Int)) = (n : Int) + (n' : Int) := IntWalk.i64_in _ (by omega)
  have e2 : IntKind.i64.wrap ((n : Int) + (n' : Int) - 1) = (n : Int) + (n' : Int) - 1 := IntWalk.i64_in _ (by omega)
  have e3 : (60 : Int) < (n : Int) + (n' : Int) - 1 := by omega
  have HR0 := Lib.hid (box3_res (w := w) (s := sg x) (A := A) (n := n) (c := c) (s' := sg y) (A' := A') (n' := n') (c' := c'))
  have R0 := Lib.hid (Row.alloc (box2_r0 (w := w) (s := sg x) (A := A) (n := n) (c := c) (s' := sg y) (A' := A') (n' := n') (c' := c')) (.cells #[.int .i64 0, .slice none 0 0] 24))
  have R1 := Lib.hid (Row.alloc (box2_r1 (w := w) (s := sg x) (A := A) (n := n) (c := c) (s' := sg y) (A' := A') (n' := n') (c' := c')) (.cells #[.int .i64 0, .slice none 0 0] 24))
  unfold box2 at HR0 R0 R1
  clear hx hy na nb hn hn' hf h0 h0'
  go_enter Tryd.func14, Tryd.ntmps14
  go_wp2_with (fail)
  go_must (refine (right_val (HX.out.keep HR0.out.bl)).mono ?_)
  rintro e w2 ⟨rfl, hb2⟩
  have HR2 := Lib.hid (HR0.out.keep hb2)
  have r0 := R0.out.keep hb2
  have r1 := R1.out.keep hb2
  have c0 := r0.cell 0
  have c1 := r0.cell 1
  have c2 := r1.cell 0
  have c3 := r1.cell 1
  clear hb2 HR0 R0 R1
  go_wp2_with (fail)
  go_must (refine (right_val (HY.out.keep HR2.out.bl)).mono ?_)
  rintro e w3 ⟨rfl, hb3⟩
  have HR3 := Lib.hid (HR2.out.keep hb3)
  replace r0 := r0.keep hb3
  replace r1 := r1.keep hb3
  clear hb3 HR2 c0 c1 c2 c3
  have c0 := r0.cell 0
  have c1 := r0.cell 1
  have c2 := r1.cell 0
  have c3 := r1.cell 1
  have d0 := HR3.out.c0
  have d1 := HR3.out.c1
  have f0 := HR3.out.row.frozen 0
  have f1 := HR3.out.row.frozen 1
  have hg := HR3.out.row.lt
  go_wp2
  refine bodyPost_ret (v := .tuple #[zeroV, .int .i64 6]) ?_ rfl ⟨_, rfl, IsBig.zero _, HR3.out.put _ _⟩
  simp [results, Tryd.results14, go_sem, *]
set_option maxRecDepth 100000 in
set_option maxHeartbeats 4000000 in
theorem mul_a (w : World) (hx : IsBig w va x) (hy : IsBig w vb y) (hl : ∀ A c n A' c' n', va = bigV (sg x) A n c → vb = bigV (sg y) A' n' c' → (n : Int) + (n' : Int) - 1 ≤ 60) :
    Calls Tryd.prog 14 #[va, vb] w fun e w' => ∃ v, e = .returned (.tuple #[v, .int .i64 (fe (x * y))]) ∧ IsBig w' v (fz (x * y)) ∧ Below w.heap.size w w' := by
  obtain ⟨A, c, a, rfl, ha, na, h60⟩ := hx.ex
  obtain ⟨A', c', b, rfl, hb, nb, h60'⟩ := hy.ex
  obtain ⟨n, hn⟩ : ∃ n, a.length = n := ⟨_, rfl⟩
  obtain ⟨n', hn'⟩ : ∃ n, b.length = n := ⟨_, rfl⟩
  rw [hn] at hx h60 ⊢
  rw [hn'] at hy h60' ⊢
  have HX := Lib.hid hx
  have HY := Lib.hid hy
  have HAA := Lib.hid ha
  have HNA := Lib.hid na
  have HN := Lib.hid hn
  have HBB := Lib.hid hb
  have HNB := Lib.hid nb
  have HN' := Lib.hid hn'
  have HR0 := Lib.hid (box3_res (w := w) (s := sg x) (A := A) (n := n) (c := c) (s' := sg y) (A' := A') (n' := n') (c' := c'))
  have R0 := Lib.hid (Row.alloc (box2_r0 (w := w) (s := sg x) (A := A) (n := n) (c := c) (s' := sg y) (A' := A') (n' := n') (c' := c')) (.cells #[.int .i64 0, .slice none 0 0] 24))
  have R1 := Lib.hid (Row.alloc (box2_r1 (w := w) (s := sg x) (A := A) (n := n) (c := c) (s' := sg y) (A' := A') (n' := n') (c' := c')) (.cells #[.int .i64 0, .slice none 0 0] 24))
  unfold box2 at HR0 R0 R1
  have hlen := hl _ _ _ _ _ _ rfl rfl
  have HZ : Hid (∀ l, Nm l (val a * val b) → Nm l (x * y).natAbs) := Lib.hid fun l h => h.to (by rw [na.2.2, nb.2.2, abs_mul'])
  have HS : Hid (x * y ≠ 0 → sg x * sg y = sg (x * y)) := Lib.hid fun _ => (sg_mul x y).symm
  have HL : Hid (∀ l, Nm l (val a * val b) → l.length ≤ 1000) := Lib.hid fun l h => by have := mul_len na nb h (by omega) (by omega); omega
  have hww : IntKind.i64.wrap (sg x * sg y) = sg x * sg y := IntWalk.i64_in _ (by rw [← sg_mul]; have := sg_in (x * y); omega)
  have e1 : IntKind.i64.wrap ((n : Int) + (n' : Int)) = (n : Int) + (n' : Int) := IntWalk.i64_in _ (by omega)
  have e2 : IntKind.i64.wrap ((n : Int) + (n' : Int) - 1) = (n : Int) + (n' : Int) - 1 := IntWalk.i64_in _ (by omega)
  have e4 : ¬ ((60 : Int) < (n : Int) + (n' : Int) - 1) := by omega
  obtain ⟨s, hsx⟩ : ∃ s, sg x = s := ⟨_, rfl⟩
  obtain ⟨s', hsy⟩ : ∃ s, sg y = s := ⟨_, rfl⟩
  rw [hsx] at HR0 R0 R1 HX HS hww
  rw [hsy] at HR0 R0 R1 HY HS hww
  try rw [hsx, hsy] at hlen
  rw [hsx, hsy]
  obtain ⟨p, hp⟩ : ∃ p, s * s' = p := ⟨_, rfl⟩
  rw [hp] at HS hww
  try rw [hp] at hlen
  have HP := Lib.hid hp
  clear hx hy ha hb na nb hn hn' hl hsx hsy hlen
  go_enter Tryd.func14, Tryd.ntmps14
  go_wp2_with (fail)
  go_must (refine (right_val (HX.out.keep HR0.out.bl)).mono ?_)
  rintro e w2 ⟨rfl, hb2⟩
  have HR2 := Lib.hid (HR0.out.keep hb2)
  have r0 := R0.out.keep hb2
  have r1 := R1.out.keep hb2
  have c0 := r0.cell 0
  have c1 := r0.cell 1
  have c2 := r1.cell 0
  have c3 := r1.cell 1
  clear hb2 HR0 R0 R1
  go_wp2_with (fail)
  go_must (refine (right_val (HY.out.keep HR2.out.bl)).mono ?_)
  rintro e w3 ⟨rfl, hb3⟩
  have HR3 := Lib.hid (HR2.out.keep hb3)
  replace r0 := r0.keep hb3
  replace r1 := r1.keep hb3
  clear hb3 HR2 c0 c1 c2 c3
  have c0 := r0.cell 0
  have c1 := r0.cell 1
  have c2 := r1.cell 0
  have c3 := r1.cell 1
  have C0 := Lib.hid c0
  have C1 := Lib.hid c1
  have C2 := Lib.hid c2
  have C3 := Lib.hid c3
  go_wp2_with (fail)
  go_region_held3 (fun W' : World => Below w.heap.size w W' ∧ W'.cell? ⟨w.heap.size, 0, none⟩ = some (.int .i64 s) ∧ W'.cell? ⟨w.heap.size, 1, none⟩ = some (.slice A n c) ∧ W'.cell? ⟨w.heap.size + 1, 0, none⟩ = some (.int .i64 s') ∧ W'.cell? ⟨w.heap.size + 1, 1, none⟩ = some (.slice A' n' c'))
    (first | exact ⟨HR3.out.bl.drew, C0.out, C1.out, C2.out, C3.out⟩ | exact ⟨Gen.over (by assumption) (And.left (by assumption)), Gen.keep (by assumption) (And.left (And.right (by assumption))), Gen.keep (by assumption) (And.left (And.right (And.right (by assumption)))), Gen.keep (by assumption) (And.left (And.right (And.right (And.right (by assumption))))), Gen.keep (by assumption) (And.right (And.right (And.right (And.right (by assumption)))))⟩ | exact ⟨Res.put (by assumption) _ _, put_cell (by assumption) _ _ (by omega) (And.left (And.right (by assumption))), put_cell (by assumption) _ _ (by omega) (And.left (And.right (And.right (by assumption)))), put_cell (by assumption) _ _ (by omega) (And.left (And.right (And.right (And.right (by assumption))))), put_cell (by assumption) _ _ (by omega) (And.right (And.right (And.right (And.right (by assumption)))))⟩)
    (first
      | (go_at_call 28; refine (mul_any _ HN.out HN'.out (HAA.out.keep (And.left (by assumption))) (HBB.out.keep (And.left (by assumption))) HNA.out.1 HNB.out.1 h60 h60').mono ?_; rintro e' w' ⟨A2, c2', l2, rfl, hI2, hN2, hb2⟩; have hR2 := (HR3.out.keep (Below.refl _ _).drew).keep hb2)
      | (go_at_call 27; refine (fit_any _ rfl hI2 (HZ.out _ hN2) (HL.out _ hN2) HS.out).mono ?_; rintro e' w' ⟨v, rfl, hv, hb3⟩; obtain ⟨A3, c3, l3, rfl, _⟩ := hv.ex; have hR3 := hR2.keep hb3; have d0 := hR3.c0; have d1 := hR3.c1; have f0 := hR3.row.frozen 0; have f1 := hR3.row.frozen 1; have hg := hR3.row.lt))
  all_goals
    go_wp2
    refine bodyPost_ret (v := .tuple #[bigV (sg (fz (x * y))) A3 l3.length c3, .int .i64 (fe (x * y))]) ?_ rfl ⟨_, rfl, hR3.big hv _ _, hR3.put _ _⟩
    simp [results, Tryd.results14, go_sem, *]
set_option maxRecDepth 100000 in
set_option maxHeartbeats 4000000 in
theorem mul_b (w : World) (hx : IsBig w va x) (hy : IsBig w vb y) (hl : ∀ A c n A' c' n', va = bigV (sg x) A n c → vb = bigV (sg y) A' n' c' → (60 : Int) < (n : Int) + (n' : Int) - 1 ∧ sg x * sg y = 0) :
    Calls Tryd.prog 14 #[va, vb] w fun e w' => ∃ v, e = .returned (.tuple #[v, .int .i64 (fe (x * y))]) ∧ IsBig w' v (fz (x * y)) ∧ Below w.heap.size w w' := by
  obtain ⟨A, c, a, rfl, ha, na, h60⟩ := hx.ex
  obtain ⟨A', c', b, rfl, hb, nb, h60'⟩ := hy.ex
  obtain ⟨n, hn⟩ : ∃ n, a.length = n := ⟨_, rfl⟩
  obtain ⟨n', hn'⟩ : ∃ n, b.length = n := ⟨_, rfl⟩
  rw [hn] at hx h60 ⊢
  rw [hn'] at hy h60' ⊢
  have HX := Lib.hid hx
  have HY := Lib.hid hy
  have HAA := Lib.hid ha
  have HNA := Lib.hid na
  have HN := Lib.hid hn
  have HBB := Lib.hid hb
  have HNB := Lib.hid nb
  have HN' := Lib.hid hn'
  have HR0 := Lib.hid (box3_res (w := w) (s := sg x) (A := A) (n := n) (c := c) (s' := sg y) (A' := A') (n' := n') (c' := c'))
  have R0 := Lib.hid (Row.alloc (box2_r0 (w := w) (s := sg x) (A := A) (n := n) (c := c) (s' := sg y) (A' := A') (n' := n') (c' := c')) (.cells #[.int .i64 0, .slice none 0 0] 24))
  have R1 := Lib.hid (Row.alloc (box2_r1 (w := w) (s := sg x) (A := A) (n := n) (c := c) (s' := sg y) (A' := A') (n' := n') (c' := c')) (.cells #[.int .i64 0, .slice none 0 0] 24))
  unfold box2 at HR0 R0 R1
  have hlen := hl _ _ _ _ _ _ rfl rfl
  have HZ : Hid (∀ l, Nm l (val a * val b) → Nm l (x * y).natAbs) := Lib.hid fun l h => h.to (by rw [na.2.2, nb.2.2, abs_mul'])
  have HS : Hid (x * y ≠ 0 → sg x * sg y = sg (x * y)) := Lib.hid fun _ => (sg_mul x y).symm
  have HL : Hid (∀ l, Nm l (val a * val b) → l.length ≤ 1000) := Lib.hid fun l h => by have := mul_len na nb h (by omega) (by omega); omega
  have hww : IntKind.i64.wrap (sg x * sg y) = sg x * sg y := IntWalk.i64_in _ (by rw [← sg_mul]; have := sg_in (x * y); omega)
  have e1 : IntKind.i64.wrap ((n : Int) + (n' : Int)) = (n : Int) + (n' : Int) := IntWalk.i64_in _ (by omega)
  have e2 : IntKind.i64.wrap ((n : Int) + (n' : Int) - 1) = (n : Int) + (n' : Int) - 1 := IntWalk.i64_in _ (by omega)
  have e4 : (60 : Int) < (n : Int) + (n' : Int) - 1 := by have := hlen.1; omega
  obtain ⟨s, hsx⟩ : ∃ s, sg x = s := ⟨_, rfl⟩
  obtain ⟨s', hsy⟩ : ∃ s, sg y = s := ⟨_, rfl⟩
  rw [hsx] at HR0 R0 R1 HX HS hww
  rw [hsy] at HR0 R0 R1 HY HS hww
  try rw [hsx, hsy] at hlen
  rw [hsx, hsy]
  obtain ⟨p, hp⟩ : ∃ p, s * s' = p := ⟨_, rfl⟩
  rw [hp] at HS hww
  try rw [hp] at hlen
  have HP := Lib.hid hp
  have e5 : (p != 0) = false := by simp [hlen.2]
  clear hx hy ha hb na nb hn hn' hl hsx hsy hlen
  go_enter Tryd.func14, Tryd.ntmps14
  go_wp2_with (fail)
  go_must (refine (right_val (HX.out.keep HR0.out.bl)).mono ?_)
  rintro e w2 ⟨rfl, hb2⟩
  have HR2 := Lib.hid (HR0.out.keep hb2)
  have r0 := R0.out.keep hb2
  have r1 := R1.out.keep hb2
  have c0 := r0.cell 0
  have c1 := r0.cell 1
  have c2 := r1.cell 0
  have c3 := r1.cell 1
  clear hb2 HR0 R0 R1
  go_wp2_with (fail)
  go_must (refine (right_val (HY.out.keep HR2.out.bl)).mono ?_)
  rintro e w3 ⟨rfl, hb3⟩
  have HR3 := Lib.hid (HR2.out.keep hb3)
  replace r0 := r0.keep hb3
  replace r1 := r1.keep hb3
  clear hb3 HR2 c0 c1 c2 c3
  have c0 := r0.cell 0
  have c1 := r0.cell 1
  have c2 := r1.cell 0
  have c3 := r1.cell 1
  have C0 := Lib.hid c0
  have C1 := Lib.hid c1
  have C2 := Lib.hid c2
  have C3 := Lib.hid c3
  go_wp2_with (fail)
  go_region_held3 (fun W' : World => Below w.heap.size w W' ∧ W'.cell? ⟨w.heap.size, 0, none⟩ = some (.int .i64 s) ∧ W'.cell? ⟨w.heap.size, 1, none⟩ = some (.slice A n c) ∧ W'.cell? ⟨w.heap.size + 1, 0, none⟩ = some (.int .i64 s') ∧ W'.cell? ⟨w.heap.size + 1, 1, none⟩ = some (.slice A' n' c'))
    (first | exact ⟨HR3.out.bl.drew, C0.out, C1.out, C2.out, C3.out⟩ | exact ⟨Gen.over (by assumption) (And.left (by assumption)), Gen.keep (by assumption) (And.left (And.right (by assumption))), Gen.keep (by assumption) (And.left (And.right (And.right (by assumption)))), Gen.keep (by assumption) (And.left (And.right (And.right (And.right (by assumption))))), Gen.keep (by assumption) (And.right (And.right (And.right (And.right (by assumption)))))⟩ | exact ⟨Res.put (by assumption) _ _, put_cell (by assumption) _ _ (by omega) (And.left (And.right (by assumption))), put_cell (by assumption) _ _ (by omega) (And.left (And.right (And.right (by assumption)))), put_cell (by assumption) _ _ (by omega) (And.left (And.right (And.right (And.right (by assumption))))), put_cell (by assumption) _ _ (by omega) (And.right (And.right (And.right (And.right (by assumption)))))⟩)
    (first
      | (go_at_call 28; refine (mul_any _ HN.out HN'.out (HAA.out.keep (And.left (by assumption))) (HBB.out.keep (And.left (by assumption))) HNA.out.1 HNB.out.1 h60 h60').mono ?_; rintro e' w' ⟨A2, c2', l2, rfl, hI2, hN2, hb2⟩; have hR2 := (HR3.out.keep (Below.refl _ _).drew).keep hb2)
      | (go_at_call 27; refine (fit_any _ rfl hI2 (HZ.out _ hN2) (HL.out _ hN2) HS.out).mono ?_; rintro e' w' ⟨v, rfl, hv, hb3⟩; obtain ⟨A3, c3, l3, rfl, _⟩ := hv.ex; have hR3 := hR2.keep hb3; have d0 := hR3.c0; have d1 := hR3.c1; have f0 := hR3.row.frozen 0; have f1 := hR3.row.frozen 1; have hg := hR3.row.lt))
  all_goals
    go_wp2
    refine bodyPost_ret (v := .tuple #[bigV (sg (fz (x * y))) A3 l3.length c3, .int .i64 (fe (x * y))]) ?_ rfl ⟨_, rfl, hR3.big hv _ _, hR3.put _ _⟩
    simp [results, Tryd.results14, go_sem, *]
theorem mul_val (w : World) (hx : IsBig w va x) (hy : IsBig w vb y) :
    Calls Tryd.prog 14 #[va, vb] w fun e w' => ∃ v, e = .returned (.tuple #[v, .int .i64 (fe (x * y))]) ∧ IsBig w' v (fz (x * y)) ∧ Below w.heap.size w w' := by
  obtain ⟨A, c, a, rfl, ha, na, h60⟩ := hx.ex
  obtain ⟨A', c', b, rfl, hb, nb, h60'⟩ := hy.ex
  by_cases h : 62 ≤ a.length + b.length ∧ x ≠ 0 ∧ y ≠ 0
  · exact mul_no w hx hy ⟨A, c, a, A', c', b, rfl, rfl, na, nb, h60, h60', h.1⟩ h.2.1 h.2.2
  · by_cases hlt : a.length + b.length ≤ 61
    · refine mul_a w hx hy fun A1 c1 n1 A2 c2 n2 e1 e2 => ?_
      injection e1 with e1
      simp at e1
      injection e2 with e2
      simp at e2
      obtain ⟨_, f1, _⟩ := e1
      obtain ⟨_, f2, _⟩ := e2
      omega
    · refine mul_b w hx hy fun A1 c1 n1 A2 c2 n2 e1 e2 => ?_
      injection e1 with e1
      simp at e1
      injection e2 with e2
      simp at e2
      obtain ⟨_, f1, _⟩ := e1
      obtain ⟨_, f2, _⟩ := e2
      refine ⟨by omega, ?_⟩
      by_cases h3 : x = 0
      · rw [h3]; simp [sg]
      · by_cases h4 : y = 0
        · rw [h4]; simp [sg]
        · exact absurd ⟨by omega, h3, h4⟩ h
end
end Go.Proofs.YtnifkianjpjahaaDoor.Bg
