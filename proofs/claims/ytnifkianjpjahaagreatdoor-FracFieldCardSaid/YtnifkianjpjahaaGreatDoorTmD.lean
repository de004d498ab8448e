/- Texts of one kind joined: the fourth part. -/
import Derived.Test.YtnifkianjpjahaaGreatDoorTmC
/- Big integers: Div by value. -/
namespace Go.Proofs.YtnifkianjpjahaaGreatDoor.Bg
open Go.ChangeShapes Go.WideShapes Go.ChangeAt Go.RowKit Go.Proofs.YtnifkianjpjahaaGreatDoor.Cell
set_option linter.unusedVariables false
set_option linter.unusedSimpArgs false
variable {N0 : Nat}

/-- two results' cells -/
theorem Ints.drw {N : Nat} {w : World} {A : Option Addr} {zs : List Int} (h : Ints N w A zs) : Ints N w.drew A zs := h.keep (Below.refl _ _).drew
structure Res2 (w W : World) (g h : Nat) : Prop where
  r : Res w W g
  q : Res w W h
  ne : h ≠ g
theorem Res2.keep {w W W' : World} {g h : Nat} (x : Res2 w W g h) (hb : Below W.heap.size W W') : Res2 w W' g h := ⟨x.r.keep hb, x.q.keep hb, x.ne⟩
theorem Res.other {w W : World} {g h : Nat} (x : Res w W h) (ne : h ≠ g) (hg : w.heap.size ≤ g) (u v : Value) : Res w ((W.setCell ⟨g, 0, none⟩ u).setCell ⟨g, 1, none⟩ v) h := by
  have h1 := ((Only.refl g W).set 0 u).set 1 v
  exact ⟨h1.row h _ _ ne x.row, h1.bl w x.bl hg, x.lo⟩
theorem Res2.put {w W : World} {g h : Nat} (x : Res2 w W g h) (u v : Value) : Below w.heap.size w ((W.setCell ⟨g, 0, none⟩ u).setCell ⟨g, 1, none⟩ v) := x.r.put u v
theorem Res2.put2 {w W : World} {g h : Nat} (x : Res2 w W g h) (u v u' v' : Value) : Below w.heap.size w ((((W.setCell ⟨g, 0, none⟩ u).setCell ⟨g, 1, none⟩ v).setCell ⟨h, 0, none⟩ u').setCell ⟨h, 1, none⟩ v') := (x.q.other x.ne x.r.lo u v).put u' v'
theorem Res2.big {w W : World} {g h : Nat} (x : Res2 w W g h) {y : Value} {z : Int} (hy : IsBig N0 W y z) (u v u' v' : Value) : IsBig N0 ((((W.setCell ⟨g, 0, none⟩ u).setCell ⟨g, 1, none⟩ v).setCell ⟨h, 0, none⟩ u').setCell ⟨h, 1, none⟩ v') y z := (x.q.other x.ne x.r.lo u v).big (x.r.big hy u v) u' v'
theorem Res2.cell {w W : World} {g h : Nat} (x : Res2 w W g h) (u v : Value) {b o : Nat} {y : Value} (hb : b ≠ g) (hc : W.cell? ⟨b, o, none⟩ = some y) : ((W.setCell ⟨g, 0, none⟩ u).setCell ⟨g, 1, none⟩ v).cell? ⟨b, o, none⟩ = some y := put_cell x.r u v hb hc
theorem Res2.cell2 {w W : World} {g h : Nat} (x : Res2 w W g h) (u v u' v' : Value) {b o : Nat} {y : Value} (hb : b ≠ g) (hb' : b ≠ h) (hc : W.cell? ⟨b, o, none⟩ = some y) : ((((W.setCell ⟨g, 0, none⟩ u).setCell ⟨g, 1, none⟩ v).setCell ⟨h, 0, none⟩ u').setCell ⟨h, 1, none⟩ v').cell? ⟨b, o, none⟩ = some y :=
  put_cell (x.q.other x.ne x.r.lo u v) u' v' hb' (x.cell u v hb hc)
abbrev zB : Obj := .cells #[.int .i64 0, .slice none 0 0] 24
theorem box4_res {w : World} {s s' : Int} {A A' : Option Addr} {n n' c c' : Nat} : Res2 w (((box2 w s A n c s' A' n' c').alloc zB).alloc zB) (w.heap.size + 1 + 1) (w.heap.size + 1 + 1 + 1) := by
  have h := box3_res (w := w) (s := s) (A := A) (n := n) (c := c) (s' := s') (A' := A') (n' := n') (c' := c')
  have h2 := Res.new h.bl
  rw [World.size_alloc, World.size_alloc, World.size_alloc] at h2
  exact ⟨h.keep (Gen.b_alloc (Below.refl _ _)), h2, by omega⟩
theorem one_new (W : World) : Ints N0 (W.alloc (.cells #[.int .i64 1] 3)) (some ⟨W.heap.size, 0, none⟩) [1] := (show Row _ _ 3 (ics [1]) from Row.new _ _ _).ints'
theorem nm_one : Nm [1] 1 := ⟨fun d hd => by obtain rfl := List.mem_singleton.1 hd; omega, by simp [Tr], rfl⟩
section
variable {x y : Int} {va vb : Value}
set_option maxRecDepth 100000 in
set_option maxHeartbeats 8000000 in
theorem Div_zero (w : World) (hx : IsBig N0 w va x) (hy : IsBig N0 w vb y) (h0 : y = 0) :
    Calls Tryz.prog 18 #[va, vb] w fun e w' => e = .returned (.tuple #[zeroV, zeroV, .int .i64 15]) ∧ Below w.heap.size w w' := by
  obtain ⟨A, c, a, rfl, ha, na, h60⟩ := hx.ex
  obtain ⟨A', c', b, rfl, hb, nb, h60'⟩ := hy.ex
  obtain ⟨n, hn⟩ : ∃ n, a.length = n := ⟨_, rfl⟩
  obtain ⟨n', hn'⟩ : ∃ n, b.length = n := ⟨_, rfl⟩
  rw [hn] at hx h60 ⊢
  rw [hn'] at hy h60' ⊢
  have HX := Lib.hid hx
  have HY := Lib.hid hy
  have HAA := Lib.hid ha
  have HNA := Lib.hid na
  have HN := Lib.hid hn
  have HBB := Lib.hid hb
  have HNB := Lib.hid nb
  have HN' := Lib.hid hn'
  have HR0 := Lib.hid (box4_res (w := w) (s := sg x) (A := A) (n := n) (c := c) (s' := sg y) (A' := A') (n' := n') (c' := c'))
  have R0 := Lib.hid ((box2_r0 (w := w) (s := sg x) (A := A) (n := n) (c := c) (s' := sg y) (A' := A') (n' := n') (c' := c')).alloc zB |>.alloc zB)
  have R1 := Lib.hid ((box2_r1 (w := w) (s := sg x) (A := A) (n := n) (c := c) (s' := sg y) (A' := A') (n' := n') (c' := c')).alloc zB |>.alloc zB)
  unfold box2 zB at HR0 R0 R1
  have hs : sg y = 0 := by rw [h0]; rfl
  rw [hs] at HR0 R0 R1 HY ⊢
  clear hx hy ha hb na nb hn hn' h0 hs
  go_enter Tryz.func18, Tryz.ntmps18
  go_wp2_with (fail)
  go_must (refine (right_val (HX.out.keep HR0.out.r.bl)).mono ?_)
  rintro e w2 ⟨rfl, hb2⟩
  have HR2 := Lib.hid (HR0.out.keep hb2)
  have r0 := R0.out.keep hb2
  have r1 := R1.out.keep hb2
  have c0 := r0.cell 0
  have c1 := r0.cell 1
  have c2 := r1.cell 0
  have c3 := r1.cell 1
  clear hb2 HR0 R0 R1
  go_wp2_with (fail)
  go_must (refine (right_val (HY.out.keep HR2.out.r.bl)).mono ?_)
  rintro e w3 ⟨rfl, hb3⟩
  have HR3 := Lib.hid (HR2.out.keep hb3)
  replace r0 := r0.keep hb3
  replace r1 := r1.keep hb3
  clear hb3 HR2 c0 c1 c2 c3
  have c0 := r0.cell 0
  have c1 := r0.cell 1
  have c2 := r1.cell 0
  have c3 := r1.cell 1
  have d0 := HR3.out.r.c0
  have d1 := HR3.out.r.c1
  have d2 := HR3.out.q.c0
  have d3 := HR3.out.q.c1
  have f0 := HR3.out.r.row.frozen 0
  have f1 := HR3.out.r.row.frozen 1
  have f2 := HR3.out.q.row.frozen 0
  have f3 := HR3.out.q.row.frozen 1
  have hg := HR3.out.q.row.lt
  go_wp2
  refine bodyPost_ret (v := .tuple #[zeroV, zeroV, .int .i64 15]) ?_ rfl ⟨rfl, HR3.out.put2 _ _ _ _⟩
  simp [results, Tryz.results18, go_sem, *]
set_option maxRecDepth 100000 in
set_option maxHeartbeats 8000000 in
theorem Div_neg (w : World) (hx : IsBig N0 w va x) (hy : IsBig N0 w vb y) (h0 : y ≠ 0) (hT : sg x * sg y < 0 ∧ (x.natAbs : Int) % y.natAbs ≠ 0) :
    Calls Tryz.prog 18 #[va, vb] w fun e w' => ∃ v1 v2, e = .returned (.tuple #[v1, v2, .int .i64 0]) ∧ IsBig N0 w' v1 (dq x y) ∧ IsBig N0 w' v2 (dr x y) ∧ Below w.heap.size w w' := by
  obtain ⟨A, c, a, rfl, ha, na, h60⟩ := hx.ex
  obtain ⟨A', c', b, rfl, hb, nb, h60'⟩ := hy.ex
  obtain ⟨n, hn⟩ : ∃ n, a.length = n := ⟨_, rfl⟩
  obtain ⟨n', hn'⟩ : ∃ n, b.length = n := ⟨_, rfl⟩
  rw [hn] at hx h60 ⊢
  rw [hn'] at hy h60' ⊢
  have HX := Lib.hid hx
  have HY := Lib.hid hy
  have HAA := Lib.hid ha
  have HNA := Lib.hid na
  have HN := Lib.hid hn
  have HBB := Lib.hid hb
  have HNB := Lib.hid nb
  have HN' := Lib.hid hn'
  have HR0 := Lib.hid (box4_res (w := w) (s := sg x) (A := A) (n := n) (c := c) (s' := sg y) (A' := A') (n' := n') (c' := c'))
  have R0 := Lib.hid ((box2_r0 (w := w) (s := sg x) (A := A) (n := n) (c := c) (s' := sg y) (A' := A') (n' := n') (c' := c')).alloc zB |>.alloc zB)
  have R1 := Lib.hid ((box2_r1 (w := w) (s := sg x) (A := A) (n := n) (c := c) (s' := sg y) (A' := A') (n' := n') (c' := c')).alloc zB |>.alloc zB)
  unfold box2 zB at HR0 R0 R1
  have hab := (dq_abs (x := x) h0).1 hT
  have hs0 : (sg y == 0) = false := by have := sg_cases y; simp; omega
  have hY : 0 < (y.natAbs : Int) := by omega
  have hww : IntKind.i64.wrap (sg x * sg y) = sg x * sg y := IntWalk.i64_in _ (by rw [← sg_mul]; have := sg_in (x * y); omega)
  have hp01 : sg x * sg y = -1 ∨ sg x * sg y = 0 ∨ sg x * sg y = 1 := by rw [← sg_mul]; have := sg_in (x * y); omega
  have hsy := sg_cases y
  have m0 : 0 ≤ (x.natAbs : Int) % y.natAbs := Int.emod_nonneg _ (by omega)
  have m1 : (x.natAbs : Int) % y.natAbs < y.natAbs := Int.emod_lt_of_pos _ hY
  have q0 : 0 ≤ (x.natAbs : Int) / y.natAbs := Int.ediv_nonneg (by omega) (by omega)
  have q1 : (x.natAbs : Int) / y.natAbs ≤ x.natAbs := Int.ediv_le_self _ (by omega)
  obtain ⟨Q0, hQ0⟩ : ∃ q, (x.natAbs : Int) / y.natAbs = q := ⟨_, rfl⟩
  obtain ⟨M0, hM0⟩ : ∃ q, (x.natAbs : Int) % y.natAbs = q := ⟨_, rfl⟩
  have HQE : Hid (val a / val b = Q0 ∧ val a % val b = M0) := Lib.hid (by rw [na.2.2, nb.2.2]; exact ⟨hQ0, hM0⟩)
  have hx60 := (na.len 60).1 (by omega)
  have hy60 := (nb.len 60).1 (by omega)
  try rw [hQ0] at hab
  rw [hQ0] at q0 q1
  try rw [hM0] at hab
  rw [hM0] at m0 m1 hT
  obtain ⟨Y, hYe⟩ : ∃ Y, (y.natAbs : Int) = Y := ⟨_, rfl⟩
  try rw [hYe] at hab
  rw [hYe] at m1 hY hy60
  have HYe : Hid (val b = Y) := Lib.hid (by rw [nb.2.2]; exact hYe)
  have HZQ : Hid (∀ l, Nm l (Q0 + 1) → Nm l (dq x y).natAbs ∧ l.length ≤ 60) := Lib.hid fun l h => by
    have hf := Nm.to h (show Q0 + 1 = ((dq x y).natAbs : Int) by omega)
    refine ⟨hf, (hf.len 60).2 ?_⟩
    have h1 := Int.mul_ediv_add_emod (x.natAbs : Int) y.natAbs
    rw [hQ0, hM0, hYe] at h1
    have h2 : 1 * Q0 ≤ Y * Q0 := Int.mul_le_mul_of_nonneg_right (by omega) q0
    omega
  have HZR : Hid (∀ l, Nm l (Y - M0) → Nm l (dr x y).natAbs ∧ l.length ≤ 60) := Lib.hid fun l h => by
    have hf := Nm.to h (show Y - M0 = ((dr x y).natAbs : Int) by
      rcases hsy with ⟨_, e⟩ | ⟨_, _⟩ | ⟨_, e⟩
      · rw [e] at hab; omega
      · omega
      · rw [e] at hab; omega)
    refine ⟨hf, (hf.len 60).2 ?_⟩
    rcases hsy with ⟨_, e⟩ | ⟨_, _⟩ | ⟨_, e⟩
    · rw [e] at hab; omega
    · omega
    · rw [e] at hab; omega
  have HSQ : Hid (dq x y ≠ 0 → sg x * sg y = sg (dq x y)) := Lib.hid fun _ => by have := sg_cases (dq x y); omega
  have HSR : Hid (dr x y ≠ 0 → sg y = sg (dr x y)) := Lib.hid fun _ => by
    have := sg_cases (dr x y)
    rcases hsy with ⟨_, e⟩ | ⟨_, _⟩ | ⟨_, e⟩
    · rw [e] at hab; omega
    · omega
    · rw [e] at hab; omega
  have hpn : sg x * sg y < 0 := hT.1
  have HM1 : Hid (M0 ≠ 0) := Lib.hid hT.2
  have HMY : Hid (M0 ≤ Y) := Lib.hid (by omega)
  obtain ⟨s, hsx⟩ : ∃ s, sg x = s := ⟨_, rfl⟩
  obtain ⟨s', hsy'⟩ : ∃ s, sg y = s := ⟨_, rfl⟩
  rw [hsx] at HR0 R0 R1 HX HSQ hww hpn
  rw [hsy'] at HR0 R0 R1 HY HSQ HSR hww hs0 hpn
  rw [hsx, hsy']
  obtain ⟨p, hp⟩ : ∃ p, s * s' = p := ⟨_, rfl⟩
  rw [hp] at HSQ hww hpn
  have HP := Lib.hid hp
  have HVB : Hid (0 < val b) := Lib.hid (by rw [HYe.out]; exact hY)
  have HSZ : Hid (Q0 < pw 60 ∧ Y < pw 60) := Lib.hid ⟨by omega, by omega⟩
  have HQ00 := Lib.hid q0
  clear hx hy ha hb na nb hn hn' hab hp01 hsy m0 m1 q0 q1 hQ0 hM0 hYe hx60 hy60 hT hsx hsy' h0 hY
  go_enter Tryz.func18, Tryz.ntmps18
  go_wp2_with (fail)
  go_must (refine (right_val (HX.out.keep HR0.out.r.bl)).mono ?_)
  rintro e w2 ⟨rfl, hb2⟩
  have HR2 := Lib.hid (HR0.out.keep hb2)
  have r0 := R0.out.keep hb2
  have r1 := R1.out.keep hb2
  have c0 := r0.cell 0
  have c1 := r0.cell 1
  have c2 := r1.cell 0
  have c3 := r1.cell 1
  clear hb2 HR0 R0 R1
  go_wp2_with (fail)
  go_must (refine (right_val (HY.out.keep HR2.out.r.bl)).mono ?_)
  rintro e w3 ⟨rfl, hb3⟩
  have HR3 := Lib.hid (HR2.out.keep hb3)
  replace r0 := r0.keep hb3
  replace r1 := r1.keep hb3
  clear hb3 HR2 c0 c1 c2 c3
  have c0 := r0.cell 0
  have c1 := r0.cell 1
  have c2 := r1.cell 0
  have c3 := r1.cell 1
  go_wp2_with (fail)
  go_must (refine (div_any _ HN.out HN'.out (HAA.out.keep HR3.out.r.bl) (HBB.out.keep HR3.out.r.bl) HNA.out.1 HNB.out.1 HNA.out.2.1 HNB.out.2.1 (by omega) (by omega) HVB.out).mono ?_)
  rintro e w4 ⟨A1, c1', lq, A2, c2', lr, rfl, hi1, hi2, hn1, hn2, hb4⟩
  rw [HQE.out.1] at hn1
  rw [HQE.out.2] at hn2
  have HI1 := Lib.hid hi1
  have HI2 := Lib.hid hi2
  have HN1 := Lib.hid hn1
  have HN2 := Lib.hid hn2
  have HR4 := Lib.hid (HR3.out.keep hb4)
  replace r0 := r0.keep hb4
  replace r1 := r1.keep hb4
  clear hb4 HR3 c0 c1 c2 c3 hi1 hi2
  have c0 := r0.cell 0
  have c2 := r1.cell 0
  have c3 := r1.cell 1
  have C0 := Lib.hid c0
  have C2 := Lib.hid c2
  have C3 := Lib.hid c3
  obtain ⟨nr, hnr⟩ : ∃ k, lr.length = k := ⟨_, rfl⟩
  have HNR := Lib.hid hnr
  have hlr : (0 : Int) < (nr : Int) := by
    have : nr ≠ 0 := fun e => HM1.out (hn2.nil.1 (List.eq_nil_of_length_eq_zero (hnr.trans e)))
    omega
  obtain ⟨nq, hnq⟩ : ∃ k, lq.length = k := ⟨_, rfl⟩
  have HNQ := Lib.hid hnq
  have hlq : nq ≤ 60 := by rw [← hnq]; exact (hn1.len 60).2 HSZ.out.1
  have hlr2 : nr ≤ n' := by
    by_cases h : nr ≤ n'
    · exact h
    · have := val_len_lt HNB.out.1 hn2.1 hn2.2.1 (show b.length < lr.length by rw [HN'.out]; omega)
      rw [HYe.out, hn2.2.2] at this
      have := HMY.out
      omega
  rw [hnr, hnq]
  clear hn1 hn2 hnr hnq r0 r1
  go_wp2_with (fail)
  go_region_held3 (fun W' : World => Below w4.heap.size w4 W' ∧ W'.cell? ⟨w.heap.size, 0, none⟩ = some (.int .i64 s) ∧ W'.cell? ⟨w.heap.size + 1, 0, none⟩ = some (.int .i64 s') ∧ W'.cell? ⟨w.heap.size + 1, 1, none⟩ = some (.slice A' n' c'))
    (first | exact ⟨(Below.refl _ _).drew, C0.out, C2.out, C3.out⟩ | exact ⟨Gen.over (by assumption) (And.left (by assumption)), Gen.keep (by assumption) (And.left (And.right (by assumption))), Gen.keep (by assumption) (And.left (And.right (And.right (by assumption)))), Gen.keep (by assumption) (And.right (And.right (And.right (by assumption))))⟩ | exact ⟨Gen.b_alloc (And.left (by assumption)), Gen.al (And.left (And.right (by assumption))), Gen.al (And.left (And.right (And.right (by assumption)))), Gen.al (And.right (And.right (And.right (by assumption))))⟩)
    (first
      | (go_at_call 76; refine (add_any _ HNQ.out rfl (HI1.out.keep (And.left (by assumption))) (by first | exact one_new _ | exact (one_new _).drw | exact (one_new _).keep (by assumption) | exact (one_new _).drw.keep (by assumption)) HN1.out.1 nm_one.1 HN1.out.2.1 nm_one.2.1 (by omega) (by decide)).mono ?_; rintro e' w' ⟨A3, c3', l3, rfl, hI3, hN3, hb3⟩)
      | (go_at_call 77; refine (sub_any _ HN'.out HNR.out (HBB.out.keep (Gen.over (And.left (by assumption)) HR4.out.r.bl)) (HI2.out.keep (And.left (by assumption))) HNB.out.1 HN2.out.1 hlr2 (by rw [HYe.out, HN2.out.2.2]; exact HMY.out) (by omega)).mono ?_; rintro e' w' ⟨A5, c5', l5, rfl, hI5, hN5, hb5⟩))
  all_goals
    have hI3' := (by first | exact hI3 | exact hI3.keep hb5 : Ints N0 w' A3 l3)
    have hI5' := (by first | exact hI5 | exact hI5.keep hb3 | exact hI5.keep (Gen.over hb3 (Gen.b_alloc (Below.refl _ _))) | exact hI5.keep (Gen.over hb3 (Gen.b_alloc (Below.refl _ _).drew)) : Ints N0 w' A5 l5)
    have hS7 := (by assumption : Below w4.heap.size w4 w' ∧ w'.cell? ⟨w.heap.size, 0, none⟩ = some (.int .i64 s) ∧ w'.cell? ⟨w.heap.size + 1, 0, none⟩ = some (.int .i64 s') ∧ w'.cell? ⟨w.heap.size + 1, 1, none⟩ = some (.slice A' n' c'))
    have HI3 : Hid (Ints N0 w'.drew A3 l3) := Lib.hid hI3'.drw
    have HI5 : Hid (Ints N0 w'.drew A5 l5) := Lib.hid hI5'.drw
    have HR7 : Hid (Res2 w w'.drew (w.heap.size + 1 + 1) (w.heap.size + 1 + 1 + 1)) := Lib.hid ((HR4.out.keep hS7.1).keep (Below.refl _ _).drew)
    clear C0 C2 C3
    have C0 := Lib.hid hS7.2.1
    have C2 := Lib.hid hS7.2.2.1
    have C3 := Lib.hid hS7.2.2.2
    have HZ3 := Lib.hid (HZQ.out l3 (hN3.to (by rw [HN1.out.2.2]; rfl)))
    have HZ5 := Lib.hid (HZR.out l5 (hN5.to (by rw [HYe.out, HN2.out.2.2])))
    have c0 := hS7.2.1
    have c2 := hS7.2.2.1
    have c3 := hS7.2.2.2
    clear hI3' hI5' hN3 hN5 hI3 hI5
    go_wp2
    (try clear HNA); (try clear HN); (try clear HBB); (try clear HAA); (try clear HNB); (try clear HN'); (try clear HX); (try clear HY); (try clear HQE); (try clear HYe); (try clear HVB); (try clear HSZ); (try clear HQ00); (try clear HM1); (try clear HMY); (try clear HTT); (try clear HP); (try clear HN1); (try clear HN2); (try clear HI1); (try clear HI2); (try clear HR4); (try clear HZQ); (try clear HZR); (try clear HNQ); (try clear HNR); (try clear hlq); (try clear hlr2); (try clear hb3); (try clear hb5)
    have n02 : w.heap.size ≠ w.heap.size + 1 + 1 := by omega
    have n03 : w.heap.size ≠ w.heap.size + 1 + 1 + 1 := by omega
    have n12 : w.heap.size + 1 ≠ w.heap.size + 1 + 1 := by omega
    have n13 : w.heap.size + 1 ≠ w.heap.size + 1 + 1 + 1 := by omega
    go_wp2_with (fail)
    go_region_held3 (fun W' : World => Below w.heap.size w W' ∧ W'.cell? ⟨w.heap.size, 0, none⟩ = some (.int .i64 s) ∧ W'.cell? ⟨w.heap.size + 1, 0, none⟩ = some (.int .i64 s') ∧ W'.cell? ⟨w.heap.size + 1, 1, none⟩ = some (.slice A' n' c'))
      (first | exact hS8 | exact ⟨HR7.out.r.bl, C0.out, C2.out, C3.out⟩ | exact ⟨hR8.put _ _, hR8.cell _ _ n02 hS8.2.1, hR8.cell _ _ n12 hS8.2.2.1, hR8.cell _ _ n12 hS8.2.2.2⟩ | exact ⟨hR8.put2 _ _ _ _, hR8.cell2 _ _ _ _ n02 n03 hS8.2.1, hR8.cell2 _ _ _ _ n12 n13 hS8.2.2.1, hR8.cell2 _ _ _ _ n12 n13 hS8.2.2.2⟩)
      (first
        | (go_at_call 78; (with_reducible refine (signed_any (s := p) _ rfl (by first | exact HI3.out | exact HI3.out.keep hbs2) HZ3.out.1 HZ3.out.2 HSQ.out).mono ?_); rintro e' w' ⟨v1, rfl, hv1, hbs1⟩; obtain ⟨A7, c7, l7, rfl, _⟩ := hv1.ex; have hS8 : (fun W' : World => Below w.heap.size w W' ∧ W'.cell? ⟨w.heap.size, 0, none⟩ = some (.int .i64 s) ∧ W'.cell? ⟨w.heap.size + 1, 0, none⟩ = some (.int .i64 s') ∧ W'.cell? ⟨w.heap.size + 1, 1, none⟩ = some (.slice A' n' c')) w' := ⟨Gen.over hbs1 (And.left (by assumption)), Gen.keep hbs1 (And.left (And.right (by assumption))), Gen.keep hbs1 (And.left (And.right (And.right (by assumption)))), Gen.keep hbs1 (And.right (And.right (And.right (by assumption))))⟩; have hR8 : Res2 w w' (w.heap.size + 1 + 1) (w.heap.size + 1 + 1 + 1) := (by first | exact hR8.keep hbs1 | exact HR7.out.keep hbs1); have d0 := hR8.r.c0; have d1 := hR8.r.c1; have d2 := hR8.q.c0; have d3 := hR8.q.c1; have f0 := hR8.r.row.frozen 0; have f1 := hR8.r.row.frozen 1; have f2 := hR8.q.row.frozen 0; have f3 := hR8.q.row.frozen 1; have hg := hR8.q.row.lt)
        | (go_at_call 78; (with_reducible refine (signed_any (s := s') _ rfl (by first | exact HI5.out | exact HI5.out.keep hbs1) HZ5.out.1 HZ5.out.2 HSR.out).mono ?_); rintro e' w' ⟨v2, rfl, hv2, hbs2⟩; obtain ⟨A8, c8, l8, rfl, _⟩ := hv2.ex; have hS8 : (fun W' : World => Below w.heap.size w W' ∧ W'.cell? ⟨w.heap.size, 0, none⟩ = some (.int .i64 s) ∧ W'.cell? ⟨w.heap.size + 1, 0, none⟩ = some (.int .i64 s') ∧ W'.cell? ⟨w.heap.size + 1, 1, none⟩ = some (.slice A' n' c')) w' := ⟨Gen.over hbs2 (And.left (by assumption)), Gen.keep hbs2 (And.left (And.right (by assumption))), Gen.keep hbs2 (And.left (And.right (And.right (by assumption)))), Gen.keep hbs2 (And.right (And.right (And.right (by assumption))))⟩; have hR8 : Res2 w w' (w.heap.size + 1 + 1) (w.heap.size + 1 + 1 + 1) := (by first | exact hR8.keep hbs2 | exact HR7.out.keep hbs2); have d0 := hR8.r.c0; have d1 := hR8.r.c1; have d2 := hR8.q.c0; have d3 := hR8.q.c1; have f0 := hR8.r.row.frozen 0; have f1 := hR8.r.row.frozen 1; have f2 := hR8.q.row.frozen 0; have f3 := hR8.q.row.frozen 1; have hg := hR8.q.row.lt))
    all_goals
      go_wp2
      refine bodyPost_ret (v := .tuple #[bigV (sg (dq x y)) A7 l7.length c7, bigV (sg (dr x y)) A8 l8.length c8, .int .i64 0]) ?_ rfl ⟨_, _, rfl, hR8.big (by first | exact hv1 | exact hv1.keep hbs2) _ _ _ _, hR8.big (by first | exact hv2 | exact hv2.keep hbs1) _ _ _ _, hR8.put2 _ _ _ _⟩
      simp [results, Tryz.results18, go_sem, *]
set_option maxRecDepth 100000 in
set_option maxHeartbeats 8000000 in
theorem Div_pos (w : World) (hx : IsBig N0 w va x) (hy : IsBig N0 w vb y) (h0 : y ≠ 0) (hT : ¬ (sg x * sg y < 0 ∧ (x.natAbs : Int) % y.natAbs ≠ 0)) :
    Calls Tryz.prog 18 #[va, vb] w fun e w' => ∃ v1 v2, e = .returned (.tuple #[v1, v2, .int .i64 0]) ∧ IsBig N0 w' v1 (dq x y) ∧ IsBig N0 w' v2 (dr x y) ∧ Below w.heap.size w w' := by
  obtain ⟨A, c, a, rfl, ha, na, h60⟩ := hx.ex
  obtain ⟨A', c', b, rfl, hb, nb, h60'⟩ := hy.ex
  obtain ⟨n, hn⟩ : ∃ n, a.length = n := ⟨_, rfl⟩
  obtain ⟨n', hn'⟩ : ∃ n, b.length = n := ⟨_, rfl⟩
  rw [hn] at hx h60 ⊢
  rw [hn'] at hy h60' ⊢
  have HX := Lib.hid hx
  have HY := Lib.hid hy
  have HAA := Lib.hid ha
  have HNA := Lib.hid na
  have HN := Lib.hid hn
  have HBB := Lib.hid hb
  have HNB := Lib.hid nb
  have HN' := Lib.hid hn'
  have HR0 := Lib.hid (box4_res (w := w) (s := sg x) (A := A) (n := n) (c := c) (s' := sg y) (A' := A') (n' := n') (c' := c'))
  have R0 := Lib.hid ((box2_r0 (w := w) (s := sg x) (A := A) (n := n) (c := c) (s' := sg y) (A' := A') (n' := n') (c' := c')).alloc zB |>.alloc zB)
  have R1 := Lib.hid ((box2_r1 (w := w) (s := sg x) (A := A) (n := n) (c := c) (s' := sg y) (A' := A') (n' := n') (c' := c')).alloc zB |>.alloc zB)
  unfold box2 zB at HR0 R0 R1
  have hab := (dq_abs (x := x) h0).2 hT
  have hs0 : (sg y == 0) = false := by have := sg_cases y; simp; omega
  have hY : 0 < (y.natAbs : Int) := by omega
  have hww : IntKind.i64.wrap (sg x * sg y) = sg x * sg y := IntWalk.i64_in _ (by rw [← sg_mul]; have := sg_in (x * y); omega)
  have hp01 : sg x * sg y = -1 ∨ sg x * sg y = 0 ∨ sg x * sg y = 1 := by rw [← sg_mul]; have := sg_in (x * y); omega
  have hsy := sg_cases y
  have m0 : 0 ≤ (x.natAbs : Int) % y.natAbs := Int.emod_nonneg _ (by omega)
  have m1 : (x.natAbs : Int) % y.natAbs < y.natAbs := Int.emod_lt_of_pos _ hY
  have q0 : 0 ≤ (x.natAbs : Int) / y.natAbs := Int.ediv_nonneg (by omega) (by omega)
  have q1 : (x.natAbs : Int) / y.natAbs ≤ x.natAbs := Int.ediv_le_self _ (by omega)
  obtain ⟨Q0, hQ0⟩ : ∃ q, (x.natAbs : Int) / y.natAbs = q := ⟨_, rfl⟩
  obtain ⟨M0, hM0⟩ : ∃ q, (x.natAbs : Int) % y.natAbs = q := ⟨_, rfl⟩
  have HQE : Hid (val a / val b = Q0 ∧ val a % val b = M0) := Lib.hid (by rw [na.2.2, nb.2.2]; exact ⟨hQ0, hM0⟩)
  have hx60 := (na.len 60).1 (by omega)
  have hy60 := (nb.len 60).1 (by omega)
  try rw [hQ0] at hab
  rw [hQ0] at q0 q1
  try rw [hM0] at hab
  rw [hM0] at m0 m1 hT
  obtain ⟨Y, hYe⟩ : ∃ Y, (y.natAbs : Int) = Y := ⟨_, rfl⟩
  try rw [hYe] at hab
  rw [hYe] at m1 hY hy60
  have HYe : Hid (val b = Y) := Lib.hid (by rw [nb.2.2]; exact hYe)
  have HZQ : Hid (∀ l, Nm l Q0 → Nm l (dq x y).natAbs ∧ l.length ≤ 60) := Lib.hid fun l h => by
    have hf : Nm l (dq x y).natAbs := Nm.to h (by
      by_cases hx0 : x = 0
      · have : Q0 = 0 := by rw [← hQ0, hx0]; simp
        rw [hab.1, this]; simp
      · have hsx := sg_cases x
        have : sg x * sg y = -1 ∨ sg x * sg y = 1 := by
          have h1 := Int.mul_ne_zero (show sg x ≠ 0 by omega) (show sg y ≠ 0 by omega)
          omega
        rcases this with e | e
        · rw [e] at hab; omega
        · rw [e] at hab; omega)
    exact ⟨hf, (h.len 60).2 (by omega)⟩
  have HZR : Hid (∀ l, Nm l M0 → Nm l (dr x y).natAbs ∧ l.length ≤ 60) := Lib.hid fun l h => by
    have hf := Nm.to h (show M0 = ((dr x y).natAbs : Int) by
      rcases hsy with ⟨_, e⟩ | ⟨_, _⟩ | ⟨_, e⟩
      · rw [e] at hab; omega
      · omega
      · rw [e] at hab; omega)
    exact ⟨hf, (h.len 60).2 (by omega)⟩
  have HSQ : Hid (dq x y ≠ 0 → sg x * sg y = sg (dq x y)) := Lib.hid fun hne => by
    have h1 := sg_cases (dq x y)
    rcases hp01 with e | e | e
    · rw [e] at hab ⊢; omega
    · rw [e] at hab; omega
    · rw [e] at hab ⊢; omega
  have HSR : Hid (dr x y ≠ 0 → sg y = sg (dr x y)) := Lib.hid fun _ => by
    have := sg_cases (dr x y)
    rcases hsy with ⟨_, e⟩ | ⟨_, _⟩ | ⟨_, e⟩
    · rw [e] at hab; omega
    · omega
    · rw [e] at hab; omega
  have HTT : Hid (¬ (sg x * sg y < 0) ∨ M0 = 0) := Lib.hid (by omega)
  obtain ⟨s, hsx⟩ : ∃ s, sg x = s := ⟨_, rfl⟩
  obtain ⟨s', hsy'⟩ : ∃ s, sg y = s := ⟨_, rfl⟩
  rw [hsx] at HR0 R0 R1 HX HSQ hww HTT
  rw [hsy'] at HR0 R0 R1 HY HSQ HSR hww hs0 HTT
  rw [hsx, hsy']
  obtain ⟨p, hp⟩ : ∃ p, s * s' = p := ⟨_, rfl⟩
  rw [hp] at HSQ hww HTT
  have HP := Lib.hid hp
  have HVB : Hid (0 < val b) := Lib.hid (by rw [HYe.out]; exact hY)
  have HSZ : Hid (Q0 < pw 60 ∧ Y < pw 60) := Lib.hid ⟨by omega, by omega⟩
  have HQ00 := Lib.hid q0
  clear hx hy ha hb na nb hn hn' hab hp01 hsy m0 m1 q0 q1 hQ0 hM0 hYe hx60 hy60 hT hsx hsy' h0 hY
  go_enter Tryz.func18, Tryz.ntmps18
  go_wp2_with (fail)
  go_must (refine (right_val (HX.out.keep HR0.out.r.bl)).mono ?_)
  rintro e w2 ⟨rfl, hb2⟩
  have HR2 := Lib.hid (HR0.out.keep hb2)
  have r0 := R0.out.keep hb2
  have r1 := R1.out.keep hb2
  have c0 := r0.cell 0
  have c1 := r0.cell 1
  have c2 := r1.cell 0
  have c3 := r1.cell 1
  clear hb2 HR0 R0 R1
  go_wp2_with (fail)
  go_must (refine (right_val (HY.out.keep HR2.out.r.bl)).mono ?_)
  rintro e w3 ⟨rfl, hb3⟩
  have HR3 := Lib.hid (HR2.out.keep hb3)
  replace r0 := r0.keep hb3
  replace r1 := r1.keep hb3
  clear hb3 HR2 c0 c1 c2 c3
  have c0 := r0.cell 0
  have c1 := r0.cell 1
  have c2 := r1.cell 0
  have c3 := r1.cell 1
  go_wp2_with (fail)
  go_must (refine (div_any _ HN.out HN'.out (HAA.out.keep HR3.out.r.bl) (HBB.out.keep HR3.out.r.bl) HNA.out.1 HNB.out.1 HNA.out.2.1 HNB.out.2.1 (by omega) (by omega) HVB.out).mono ?_)
  rintro e w4 ⟨A1, c1', lq, A2, c2', lr, rfl, hi1, hi2, hn1, hn2, hb4⟩
  rw [HQE.out.1] at hn1
  rw [HQE.out.2] at hn2
  have HI1 := Lib.hid hi1
  have HI2 := Lib.hid hi2
  have HN1 := Lib.hid hn1
  have HN2 := Lib.hid hn2
  have HR4 := Lib.hid (HR3.out.keep hb4)
  replace r0 := r0.keep hb4
  replace r1 := r1.keep hb4
  clear hb4 HR3 c0 c1 c2 c3 hi1 hi2
  have c0 := r0.cell 0
  have c2 := r1.cell 0
  have c3 := r1.cell 1
  have C0 := Lib.hid c0
  have C2 := Lib.hid c2
  have C3 := Lib.hid c3
  have hq60 := HZQ.out lq hn1
  have hr60 := HZR.out lr hn2
  have HI3 : Hid (Ints N0 w4.drew A1 lq) := Lib.hid HI1.out.drw
  have HI5 : Hid (Ints N0 w4.drew A2 lr) := Lib.hid HI2.out.drw
  have HR7 : Hid (Res2 w w4.drew (w.heap.size + 1 + 1) (w.heap.size + 1 + 1 + 1)) := Lib.hid (HR4.out.keep (Below.refl _ _).drew)
  have HZ3 := Lib.hid hq60
  have HZ5 := Lib.hid hr60
  obtain ⟨nr, hnr⟩ : ∃ k, lr.length = k := ⟨_, rfl⟩
  have HNR := Lib.hid hnr
  have hnr60 : nr ≤ 60 := by rw [← hnr]; exact hr60.2
  by_cases hpn : p < 0
  · have hlr : ¬ ((0 : Int) < (nr : Int)) := by
      have h0 : M0 = 0 := by
        have h := HTT.out
        omega
      have := hn2.nil.2 h0
      rw [this] at hnr
      simp at hnr
      omega
    rw [hnr]
    clear hn1 hn2 hq60 hr60 hnr r0 r1
    (try clear HNA); (try clear HN); (try clear HBB); (try clear HAA); (try clear HNB); (try clear HN'); (try clear HX); (try clear HY); (try clear HQE); (try clear HYe); (try clear HVB); (try clear HSZ); (try clear HQ00); (try clear HM1); (try clear HMY); (try clear HTT); (try clear HP); (try clear HN1); (try clear HN2); (try clear HI1); (try clear HI2); (try clear HR4); (try clear HZQ); (try clear HZR); (try clear HNQ);  (try clear hlq); (try clear hlr2); (try clear hb3); (try clear hb5)
    have n02 : w.heap.size ≠ w.heap.size + 1 + 1 := by omega
    have n03 : w.heap.size ≠ w.heap.size + 1 + 1 + 1 := by omega
    have n12 : w.heap.size + 1 ≠ w.heap.size + 1 + 1 := by omega
    have n13 : w.heap.size + 1 ≠ w.heap.size + 1 + 1 + 1 := by omega
    go_wp2_with (fail)
    go_region_held3 (fun W' : World => Below w.heap.size w W' ∧ W'.cell? ⟨w.heap.size, 0, none⟩ = some (.int .i64 s) ∧ W'.cell? ⟨w.heap.size + 1, 0, none⟩ = some (.int .i64 s') ∧ W'.cell? ⟨w.heap.size + 1, 1, none⟩ = some (.slice A' n' c'))
      (first | exact hS8 | exact ⟨HR7.out.r.bl, C0.out, C2.out, C3.out⟩ | exact ⟨hR8.put _ _, hR8.cell _ _ n02 hS8.2.1, hR8.cell _ _ n12 hS8.2.2.1, hR8.cell _ _ n12 hS8.2.2.2⟩ | exact ⟨hR8.put2 _ _ _ _, hR8.cell2 _ _ _ _ n02 n03 hS8.2.1, hR8.cell2 _ _ _ _ n12 n13 hS8.2.2.1, hR8.cell2 _ _ _ _ n12 n13 hS8.2.2.2⟩)
      (first
        | (go_at_call 78; (with_reducible refine (signed_any (s := p) _ rfl (by first | exact HI3.out | exact HI3.out.keep hbs2) HZ3.out.1 HZ3.out.2 HSQ.out).mono ?_); rintro e' w' ⟨v1, rfl, hv1, hbs1⟩; obtain ⟨A7, c7, l7, rfl, _⟩ := hv1.ex; have hS8 : (fun W' : World => Below w.heap.size w W' ∧ W'.cell? ⟨w.heap.size, 0, none⟩ = some (.int .i64 s) ∧ W'.cell? ⟨w.heap.size + 1, 0, none⟩ = some (.int .i64 s') ∧ W'.cell? ⟨w.heap.size + 1, 1, none⟩ = some (.slice A' n' c')) w' := ⟨Gen.over hbs1 (And.left (by assumption)), Gen.keep hbs1 (And.left (And.right (by assumption))), Gen.keep hbs1 (And.left (And.right (And.right (by assumption)))), Gen.keep hbs1 (And.right (And.right (And.right (by assumption))))⟩; have hR8 : Res2 w w' (w.heap.size + 1 + 1) (w.heap.size + 1 + 1 + 1) := (by first | exact hR8.keep hbs1 | exact HR7.out.keep hbs1); have d0 := hR8.r.c0; have d1 := hR8.r.c1; have d2 := hR8.q.c0; have d3 := hR8.q.c1; have f0 := hR8.r.row.frozen 0; have f1 := hR8.r.row.frozen 1; have f2 := hR8.q.row.frozen 0; have f3 := hR8.q.row.frozen 1; have hg := hR8.q.row.lt)
        | (go_at_call 78; (with_reducible refine (signed_any (s := s') _ HNR.out (by first | exact HI5.out | exact HI5.out.keep hbs1) HZ5.out.1 hnr60 HSR.out).mono ?_); rintro e' w' ⟨v2, rfl, hv2, hbs2⟩; obtain ⟨A8, c8, l8, rfl, _⟩ := hv2.ex; have hS8 : (fun W' : World => Below w.heap.size w W' ∧ W'.cell? ⟨w.heap.size, 0, none⟩ = some (.int .i64 s) ∧ W'.cell? ⟨w.heap.size + 1, 0, none⟩ = some (.int .i64 s') ∧ W'.cell? ⟨w.heap.size + 1, 1, none⟩ = some (.slice A' n' c')) w' := ⟨Gen.over hbs2 (And.left (by assumption)), Gen.keep hbs2 (And.left (And.right (by assumption))), Gen.keep hbs2 (And.left (And.right (And.right (by assumption)))), Gen.keep hbs2 (And.right (And.right (And.right (by assumption))))⟩; have hR8 : Res2 w w' (w.heap.size + 1 + 1) (w.heap.size + 1 + 1 + 1) := (by first | exact hR8.keep hbs2 | exact HR7.out.keep hbs2); have d0 := hR8.r.c0; have d1 := hR8.r.c1; have d2 := hR8.q.c0; have d3 := hR8.q.c1; have f0 := hR8.r.row.frozen 0; have f1 := hR8.r.row.frozen 1; have f2 := hR8.q.row.frozen 0; have f3 := hR8.q.row.frozen 1; have hg := hR8.q.row.lt))
    all_goals
      go_wp2
      refine bodyPost_ret (v := .tuple #[bigV (sg (dq x y)) A7 l7.length c7, bigV (sg (dr x y)) A8 l8.length c8, .int .i64 0]) ?_ rfl ⟨_, _, rfl, hR8.big (by first | exact hv1 | exact hv1.keep hbs2) _ _ _ _, hR8.big (by first | exact hv2 | exact hv2.keep hbs1) _ _ _ _, hR8.put2 _ _ _ _⟩
      simp [results, Tryz.results18, go_sem, *]
  · clear hn1 hn2 hq60 hr60 hnr r0 r1
    (try clear HNA); (try clear HN); (try clear HBB); (try clear HAA); (try clear HNB); (try clear HN'); (try clear HX); (try clear HY); (try clear HQE); (try clear HYe); (try clear HVB); (try clear HSZ); (try clear HQ00); (try clear HM1); (try clear HMY); (try clear HTT); (try clear HP); (try clear HN1); (try clear HN2); (try clear HI1); (try clear HI2); (try clear HR4); (try clear HZQ); (try clear HZR); (try clear HNQ); (try clear HNR); (try clear hlq); (try clear hlr2); (try clear hb3); (try clear hb5)
    have n02 : w.heap.size ≠ w.heap.size + 1 + 1 := by omega
    have n03 : w.heap.size ≠ w.heap.size + 1 + 1 + 1 := by omega
    have n12 : w.heap.size + 1 ≠ w.heap.size + 1 + 1 := by omega
    have n13 : w.heap.size + 1 ≠ w.heap.size + 1 + 1 + 1 := by omega
    go_wp2_with (fail)
    go_region_held3 (fun W' : World => Below w.heap.size w W' ∧ W'.cell? ⟨w.heap.size, 0, none⟩ = some (.int .i64 s) ∧ W'.cell? ⟨w.heap.size + 1, 0, none⟩ = some (.int .i64 s') ∧ W'.cell? ⟨w.heap.size + 1, 1, none⟩ = some (.slice A' n' c'))
      (first | exact hS8 | exact ⟨HR7.out.r.bl, C0.out, C2.out, C3.out⟩ | exact ⟨hR8.put _ _, hR8.cell _ _ n02 hS8.2.1, hR8.cell _ _ n12 hS8.2.2.1, hR8.cell _ _ n12 hS8.2.2.2⟩ | exact ⟨hR8.put2 _ _ _ _, hR8.cell2 _ _ _ _ n02 n03 hS8.2.1, hR8.cell2 _ _ _ _ n12 n13 hS8.2.2.1, hR8.cell2 _ _ _ _ n12 n13 hS8.2.2.2⟩)
      (first
        | (go_at_call 78; (with_reducible refine (signed_any (s := p) _ rfl (by first | exact HI3.out | exact HI3.out.keep hbs2) HZ3.out.1 HZ3.out.2 HSQ.out).mono ?_); rintro e' w' ⟨v1, rfl, hv1, hbs1⟩; obtain ⟨A7, c7, l7, rfl, _⟩ := hv1.ex; have hS8 : (fun W' : World => Below w.heap.size w W' ∧ W'.cell? ⟨w.heap.size, 0, none⟩ = some (.int .i64 s) ∧ W'.cell? ⟨w.heap.size + 1, 0, none⟩ = some (.int .i64 s') ∧ W'.cell? ⟨w.heap.size + 1, 1, none⟩ = some (.slice A' n' c')) w' := ⟨Gen.over hbs1 (And.left (by assumption)), Gen.keep hbs1 (And.left (And.right (by assumption))), Gen.keep hbs1 (And.left (And.right (And.right (by assumption)))), Gen.keep hbs1 (And.right (And.right (And.right (by assumption))))⟩; have hR8 : Res2 w w' (w.heap.size + 1 + 1) (w.heap.size + 1 + 1 + 1) := (by first | exact hR8.keep hbs1 | exact HR7.out.keep hbs1); have d0 := hR8.r.c0; have d1 := hR8.r.c1; have d2 := hR8.q.c0; have d3 := hR8.q.c1; have f0 := hR8.r.row.frozen 0; have f1 := hR8.r.row.frozen 1; have f2 := hR8.q.row.frozen 0; have f3 := hR8.q.row.frozen 1; have hg := hR8.q.row.lt)
        | (go_at_call 78; (with_reducible refine (signed_any (s := s') _ rfl (by first | exact HI5.out | exact HI5.out.keep hbs1) HZ5.out.1 HZ5.out.2 HSR.out).mono ?_); rintro e' w' ⟨v2, rfl, hv2, hbs2⟩; obtain ⟨A8, c8, l8, rfl, _⟩ := hv2.ex; have hS8 : (fun W' : World => Below w.heap.size w W' ∧ W'.cell? ⟨w.heap.size, 0, none⟩ = some (.int .i64 s) ∧ W'.cell? ⟨w.heap.size + 1, 0, none⟩ = some (.int .i64 s') ∧ W'.cell? ⟨w.heap.size + 1, 1, none⟩ = some (.slice A' n' c')) w' := ⟨Gen.over hbs2 (And.left (by assumption)), Gen.keep hbs2 (And.left (And.right (by assumption))), Gen.keep hbs2 (And.left (And.right (And.right (by assumption)))), Gen.keep hbs2 (And.right (And.right (And.right (by assumption))))⟩; have hR8 : Res2 w w' (w.heap.size + 1 + 1) (w.heap.size + 1 + 1 + 1) := (by first | exact hR8.keep hbs2 | exact HR7.out.keep hbs2); have d0 := hR8.r.c0; have d1 := hR8.r.c1; have d2 := hR8.q.c0; have d3 := hR8.q.c1; have f0 := hR8.r.row.frozen 0; have f1 := hR8.r.row.frozen 1; have f2 := hR8.q.row.frozen 0; have f3 := hR8.q.row.frozen 1; have hg := hR8.q.row.lt))
    all_goals
      go_wp2
      refine bodyPost_ret (v := .tuple #[bigV (sg (dq x y)) A7 l7.length c7, bigV (sg (dr x y)) A8 l8.length c8, .int .i64 0]) ?_ rfl ⟨_, _, rfl, hR8.big (by first | exact hv1 | exact hv1.keep hbs2) _ _ _ _, hR8.big (by first | exact hv2 | exact hv2.keep hbs1) _ _ _ _, hR8.put2 _ _ _ _⟩
      simp [results, Tryz.results18, go_sem, *]
end
end Go.Proofs.YtnifkianjpjahaaGreatDoor.Bg
/- Big integers: Lehmer's steps, plain facts. -/
namespace Go.Proofs.YtnifkianjpjahaaGreatDoor.Bg
open Go.RowKit Go.Proofs.YtnifkianjpjahaaGreatDoor.Cell
set_option linter.unusedVariables false
variable {N0 : Nat}

/-- signs that are opposite -/
def Opp (m n : Int) : Prop := (0 ≤ m ∧ n ≤ 0) ∨ (m ≤ 0 ∧ 0 ≤ n)
theorem row_ge {x m n P r s c : Int} (h : Opp m n) (hm : c ≤ x + m) (hn : c ≤ x + n) (hr : 0 ≤ r ∧ r ≤ P) (hs : 0 ≤ s ∧ s ≤ P) : c * P ≤ x * P + m * r + n * s := by
  have hP : 0 ≤ P := by omega
  rcases h with ⟨h1, h2⟩ | ⟨h1, h2⟩
  · have e1 : 0 ≤ m * r := Int.mul_nonneg h1 hr.1
    have e2 : n * P ≤ n * s := Int.mul_le_mul_of_nonpos_left h2 hs.2
    have e3 : c * P ≤ (x + n) * P := Int.mul_le_mul_of_nonneg_right hn hP
    rw [Int.add_mul] at e3
    omega
  · have e1 : 0 ≤ n * s := Int.mul_nonneg h2 hs.1
    have e2 : m * P ≤ m * r := Int.mul_le_mul_of_nonpos_left h1 hr.2
    have e3 : c * P ≤ (x + m) * P := Int.mul_le_mul_of_nonneg_right hm hP
    rw [Int.add_mul] at e3
    omega
/-- how far the steps have come -/
structure Le (a b P ra rb x y m0 m1 m2 m3 : Int) (d : Bool) : Prop where
  fa : x * P + m0 * ra + m1 * rb = m0 * a + m1 * b
  fb : y * P + m2 * ra + m3 * rb = m2 * a + m3 * b
  ra : 0 ≤ ra ∧ ra < P
  rb : 0 ≤ rb ∧ rb < P
  sgn : (0 ≤ m0 ∧ m1 ≤ 0 ∧ m2 ≤ 0 ∧ 0 ≤ m3) ∨ (m0 ≤ 0 ∧ 0 ≤ m1 ∧ 0 ≤ m2 ∧ m3 ≤ 0)
  p0 : 0 ≤ x + m0
  p1 : 0 ≤ x + m1
  p2 : 0 ≤ y + m2
  p3 : 0 ≤ y + m3
  g : Int.gcd (m0 * a + m1 * b) (m2 * a + m3 * b) = Int.gcd a b
  bx : x < 1152921504606846976
  by_ : y < 1152921504606846976
  b0 : -1073741824 ≤ m0 ∧ m0 ≤ 1073741824
  b1 : -1073741824 ≤ m1 ∧ m1 ≤ 1073741824
  b2 : -1073741824 ≤ m2 ∧ m2 ≤ 1073741824
  b3 : -1073741824 ≤ m3 ∧ m3 ≤ 1073741824
  le : m2 * a + m3 * b ≤ b
  dn : d = true → m2 * a + m3 * b < m0 * a + m1 * b ∧ m0 * a + m1 * b ≤ b
section
variable {a b P ra rb x y m0 m1 m2 m3 : Int} {d : Bool}
theorem Le.start (hP : 0 < P) (ha : 0 ≤ a ∧ a / P < 1152921504606846976) (hb : 0 ≤ b ∧ b / P < 1152921504606846976) : Le a b P (a % P) (b % P) (a / P) (b / P) 1 0 0 1 false := by
  have e1 := Int.mul_ediv_add_emod a P
  have e2 := Int.mul_ediv_add_emod b P
  have q1 : 0 ≤ a / P := Int.ediv_nonneg ha.1 (by omega)
  have q2 : 0 ≤ b / P := Int.ediv_nonneg hb.1 (by omega)
  rw [Int.mul_comm] at e1 e2
  refine ⟨by omega, by omega, ⟨Int.emod_nonneg _ (by omega), Int.emod_lt_of_pos _ hP⟩, ⟨Int.emod_nonneg _ (by omega), Int.emod_lt_of_pos _ hP⟩, Or.inl (by omega), by omega, by omega, by omega, by omega, ?_, ha.2, hb.2, by omega, by omega, by omega, by omega, by omega, fun h => by cases h⟩
  simp
theorem Le.x0 (h : Le a b P ra rb x y m0 m1 m2 m3 d) : 0 ≤ x := by
  have := h.sgn; have := h.p0; have := h.p1; omega
theorem Le.y0 (h : Le a b P ra rb x y m0 m1 m2 m3 d) : 0 ≤ y := by
  have := h.sgn; have := h.p2; have := h.p3; omega
theorem Le.posA (h : Le a b P ra rb x y m0 m1 m2 m3 d) : 0 ≤ m0 * a + m1 * b := by
  have h1 := h.ra; have h2 := h.rb
  have := row_ge (c := 0) (P := P) (r := ra) (s := rb) (show Opp m0 m1 by have := h.sgn; unfold Opp; omega) h.p0 h.p1 (by omega) (by omega)
  rw [h.fa] at this
  omega
theorem Le.posB (h : Le a b P ra rb x y m0 m1 m2 m3 d) : 0 ≤ m2 * a + m3 * b := by
  have h1 := h.ra; have h2 := h.rb
  have := row_ge (c := 0) (P := P) (r := ra) (s := rb) (show Opp m2 m3 by have := h.sgn; unfold Opp; omega) h.p2 h.p3 (by omega) (by omega)
  rw [h.fb] at this
  omega
/-- what a quotient yields -/
structure Qt (x y m0 m1 m2 m3 q : Int) : Prop where
  q0 : 0 ≤ q
  l2 : q * (y + m2) ≤ x + m0
  u2 : x + m0 < q * (y + m2) + (y + m2)
  l3 : q * (y + m3) ≤ x + m1
  u3 : x + m1 < q * (y + m3) + (y + m3)
theorem Le.qt (h : Le a b P ra rb x y m0 m1 m2 m3 d) (h2 : y + m2 ≠ 0) (h3 : y + m3 ≠ 0) (he : (x + m0) / (y + m2) = (x + m1) / (y + m3)) : Qt x y m0 m1 m2 m3 ((x + m0) / (y + m2)) := by
  have := h.p0; have := h.p1; have := h.p2; have := h.p3
  have e1 := Int.mul_ediv_add_emod (x + m0) (y + m2)
  have e2 := Int.mul_ediv_add_emod (x + m1) (y + m3)
  have r1 := Int.emod_nonneg (x + m0) h2
  have r2 := Int.emod_lt_of_pos (x + m0) (show 0 < y + m2 by omega)
  have r3 := Int.emod_nonneg (x + m1) h3
  have r4 := Int.emod_lt_of_pos (x + m1) (show 0 < y + m3 by omega)
  have q0 : 0 ≤ (x + m0) / (y + m2) := Int.ediv_nonneg (by omega) (by omega)
  rw [← he, Int.mul_comm] at e2
  rw [Int.mul_comm] at e1
  exact ⟨q0, by omega, by omega, by omega, by omega⟩
/-- nothing runs over -/
theorem Le.bounds {q : Int} (h : Le a b P ra rb x y m0 m1 m2 m3 d) (k : Qt x y m0 m1 m2 m3 q) (h2 : y + m2 ≠ 0) (h3 : y + m3 ≠ 0) :
    (0 ≤ q * y ∧ q * y ≤ 1152921505680588800) ∧ (-1152921505680588800 ≤ q * m2 ∧ q * m2 ≤ 1152921505680588800) ∧ (-1152921505680588800 ≤ q * m3 ∧ q * m3 ≤ 1152921505680588800) := by
  have hs := h.sgn; have := h.p0; have := h.p1; have := h.p2; have := h.p3; have hx := h.bx; have b0 := h.b0; have b1 := h.b1
  have l2 := k.l2; have l3 := k.l3
  rw [Int.mul_add] at l2 l3
  have e1 : 0 ≤ q * y := Int.mul_nonneg k.q0 h.y0
  have s2 : 0 ≤ q * (y + m2) := Int.mul_nonneg k.q0 (by omega)
  have s3 : 0 ≤ q * (y + m3) := Int.mul_nonneg k.q0 (by omega)
  rw [Int.mul_add] at s2 s3
  rcases hs with hs | hs
  · have e3 : 0 ≤ q * m3 := Int.mul_nonneg k.q0 (by omega)
    have e2 : q * m2 ≤ q * 0 := Int.mul_le_mul_of_nonneg_left (by omega) k.q0
    omega
  · have e3 : 0 ≤ q * m2 := Int.mul_nonneg k.q0 (by omega)
    have e2 : q * m3 ≤ q * 0 := Int.mul_le_mul_of_nonneg_left (by omega) k.q0
    omega
theorem gcd_step (u v q : Int) : Int.gcd v (u - q * v) = Int.gcd u v := by
  rw [Int.gcd_comm v, Int.mul_comm q v, Int.gcd_sub_mul_left_left]
theorem Le.step {q : Int} (h : Le a b P ra rb x y m0 m1 m2 m3 d) (k : Qt x y m0 m1 m2 m3 q) (h2 : y + m2 ≠ 0) (h3 : y + m3 ≠ 0)
    (f2 : -1073741824 ≤ m0 - q * m2 ∧ m0 - q * m2 ≤ 1073741824) (f3 : -1073741824 ≤ m1 - q * m3 ∧ m1 - q * m3 ≤ 1073741824) :
    Le a b P ra rb y (x - q * y) m2 m3 (m0 - q * m2) (m1 - q * m3) true ∧ x - q * y < y := by
  have hs := h.sgn; have p0 := h.p0; have p1 := h.p1; have p2 := h.p2; have p3 := h.p3
  have l2 := k.l2; have l3 := k.l3; have u2 := k.u2; have u3 := k.u3
  rw [Int.mul_add] at l2 l3 u2 u3
  have e1 : 0 ≤ q * y := Int.mul_nonneg k.q0 h.y0
  have hsn : (0 ≤ m2 ∧ m3 ≤ 0 ∧ m0 - q * m2 ≤ 0 ∧ 0 ≤ m1 - q * m3) ∨ (m2 ≤ 0 ∧ 0 ≤ m3 ∧ 0 ≤ m0 - q * m2 ∧ m1 - q * m3 ≤ 0) := by
    rcases hs with hs | hs
    · have e3 : 0 ≤ q * m3 := Int.mul_nonneg k.q0 (by omega)
      have e2 : q * m2 ≤ q * 0 := Int.mul_le_mul_of_nonneg_left (by omega) k.q0
      exact Or.inr (by omega)
    · have e3 : 0 ≤ q * m2 := Int.mul_nonneg k.q0 (by omega)
      have e2 : q * m3 ≤ q * 0 := Int.mul_le_mul_of_nonneg_left (by omega) k.q0
      exact Or.inl (by omega)
  have hA := h.posA
  have hl : x - q * y < y := by omega
  have hv : (m0 - q * m2) * a + (m1 - q * m3) * b = (m0 * a + m1 * b) - q * (m2 * a + m3 * b) := by grind
  have fb : (x - q * y) * P + (m0 - q * m2) * ra + (m1 - q * m3) * rb = (m0 - q * m2) * a + (m1 - q * m3) * b := by
    have fa := h.fa
    have fb := h.fb
    rw [hv, ← fa, ← fb]
    grind
  have hlt : (m0 - q * m2) * a + (m1 - q * m3) * b < m2 * a + m3 * b := by
    have h1 := h.ra; have h4 := h.rb
    have hr := row_ge (x := y - (x - q * y)) (m := m2 - (m0 - q * m2)) (n := m3 - (m1 - q * m3)) (c := 1) (P := P) (r := ra) (s := rb) (by unfold Opp; omega) (by omega) (by omega) (by omega) (by omega)
    rw [← fb, ← h.fb]
    have : (y - (x - q * y)) * P + (m2 - (m0 - q * m2)) * ra + (m3 - (m1 - q * m3)) * rb = (y * P + m2 * ra + m3 * rb) - ((x - q * y) * P + (m0 - q * m2) * ra + (m1 - q * m3) * rb) := by grind
    omega
  have hle := h.le
  refine ⟨⟨h.fb, fb, h.ra, h.rb, hsn, p2, p3, by omega, by omega, ?_, h.by_, ?_, h.b2, h.b3, f2, f3, by omega, fun _ => ⟨hlt, hle⟩⟩, hl⟩
  · rw [hv, gcd_step, h.g]
  · have := h.by_; omega
end
end Go.Proofs.YtnifkianjpjahaaGreatDoor.Bg
/- Big integers: combinations; the small common divisor. -/
namespace Go.Proofs.YtnifkianjpjahaaGreatDoor.Bg
open Go.ChangeShapes Go.WideShapes Go.ChangeAt Go.RowKit Go.Proofs.YtnifkianjpjahaaGreatDoor.Cell
set_option linter.unusedVariables false
set_option linter.unusedSimpArgs false
variable {N0 : Nat}

/-- p a + q b, as far as k digits -/
structure Cb (p q : Int) (a b out : List Int) (k : Nat) (cy : Int) : Prop where
  dg : Dg out
  len : out.length = k
  rng : -2147483648 ≤ cy ∧ cy ≤ 2147483648
  eq : val out + pw k * cy = p * val (a.take k) + q * val (b.take k)
theorem Cb.start (p q : Int) (a b : List Int) : Cb p q a b [] 0 0 := ⟨Dg.nil, rfl, by omega, by simp [val_nil]⟩
theorem fac_in {p x : Int} (hp : -1073741824 ≤ p ∧ p ≤ 1073741824) (hx : 0 ≤ x ∧ x < 1048576) : -1125898833100800 ≤ p * x ∧ p * x ≤ 1125898833100800 := by
  have h1 : p * x ≤ 1073741824 * x := Int.mul_le_mul_of_nonneg_right hp.2 hx.1
  have h2 : -1073741824 * x ≤ p * x := Int.mul_le_mul_of_nonneg_right hp.1 hx.1
  omega
theorem Cb.step {p q : Int} {a b out : List Int} {k : Nat} {cy x y : Int} (h : Cb p q a b out k cy) (hp : -1073741824 ≤ p ∧ p ≤ 1073741824) (hq : -1073741824 ≤ q ∧ q ≤ 1073741824) (da : Dg a) (db : Dg b) (hx : a[k]? = some x) (hy : b[k]? = some y) :
    Cb p q a b (out ++ [(p * x + cy + q * y) % 1048576]) (k + 1) ((p * x + cy + q * y) / 1048576) := by
  have h1 := fac_in hp (da.at_ hx)
  have h2 := fac_in hq (db.at_ hy)
  have h3 := h.rng
  refine ⟨h.dg.snoc (by omega), by rw [List.length_append, h.len]; rfl, by omega, ?_⟩
  rw [val_snoc, h.len, val_take_succ hx, val_take_succ hy, pw_succ]
  have e := h.eq
  have h4 : 1048576 * ((p * x + cy + q * y) / 1048576) + (p * x + cy + q * y) % 1048576 = p * x + cy + q * y := by omega
  obtain ⟨u, hu⟩ : ∃ u, (p * x + cy + q * y) / 1048576 = u := ⟨_, rfl⟩
  obtain ⟨r, hr⟩ : ∃ r, (p * x + cy + q * y) % 1048576 = r := ⟨_, rfl⟩
  rw [hu, hr] at h4
  rw [hu, hr]
  have e1 : pw k * r + pw k * 1048576 * u = pw k * (p * x + cy + q * y) := by rw [← h4]; grind
  have e2 : pw k * (p * x + cy + q * y) = p * (pw k * x) + pw k * cy + q * (pw k * y) := by grind
  rw [Int.mul_add p, Int.mul_add q]
  omega
theorem Cb.step1 {p q : Int} {a b out : List Int} {k : Nat} {cy x : Int} (h : Cb p q a b out k cy) (hp : -1073741824 ≤ p ∧ p ≤ 1073741824) (da : Dg a) (hx : a[k]? = some x) (hb : b.length ≤ k) :
    Cb p q a b (out ++ [(p * x + cy) % 1048576]) (k + 1) ((p * x + cy) / 1048576) := by
  have h1 := fac_in hp (da.at_ hx)
  have h3 := h.rng
  refine ⟨h.dg.snoc (by omega), by rw [List.length_append, h.len]; rfl, by omega, ?_⟩
  rw [val_snoc, h.len, val_take_succ hx, pw_succ, List.take_of_length_le (show b.length ≤ k + 1 by omega)]
  have e := h.eq
  rw [List.take_of_length_le hb] at e
  have h4 : 1048576 * ((p * x + cy) / 1048576) + (p * x + cy) % 1048576 = p * x + cy := by omega
  obtain ⟨u, hu⟩ : ∃ u, (p * x + cy) / 1048576 = u := ⟨_, rfl⟩
  obtain ⟨r, hr⟩ : ∃ r, (p * x + cy) % 1048576 = r := ⟨_, rfl⟩
  rw [hu, hr] at h4
  rw [hu, hr]
  have e1 : pw k * r + pw k * 1048576 * u = pw k * (p * x + cy) := by rw [← h4]; grind
  have e2 : pw k * (p * x + cy) = p * (pw k * x) + pw k * cy := by grind
  rw [Int.mul_add p]
  omega
theorem Cb.done {p q : Int} {a b out : List Int} {cy : Int} (h : Cb p q a b out a.length cy) (hl : b.length ≤ a.length) (h0 : 0 ≤ p * val a + q * val b) (h1 : p * val a + q * val b < pw a.length) : val out = p * val a + q * val b := by
  have e := h.eq
  rw [List.take_length, List.take_of_length_le hl] at e
  have h2 := val_lt h.dg
  have h3 := val_nonneg h.dg
  rw [h.len] at h2
  have hc : cy = 0 := by
    by_cases h4 : cy < 0
    · have : pw a.length * cy ≤ pw a.length * -1 := Int.mul_le_mul_of_nonneg_left (by omega) (by omega)
      omega
    · by_cases h5 : 0 < cy
      · have : pw a.length * 1 ≤ pw a.length * cy := Int.mul_le_mul_of_nonneg_left (by omega) (by omega)
        omega
      · omega
  subst hc
  omega
set_option maxRecDepth 100000 in
set_option maxHeartbeats 8000000 in
theorem combine_any {A A' : Option Addr} {n n' c c' : Nat} {a b : List Int} {p q : Int} (w : World) (hn : a.length = n) (hn' : b.length = n') (ha : Ints N0 w A a) (hb : Ints N0 w A' b) (da : Dg a) (db : Dg b) (hp : -1073741824 ≤ p ∧ p ≤ 1073741824) (hq : -1073741824 ≤ q ∧ q ≤ 1073741824) (hl : n' ≤ n) (h0 : 0 ≤ p * val a + q * val b) (h1 : p * val a + q * val b < pw n) (hbig : n ≤ 1000) :
    Calls Tryz.prog 108 #[.int .i64 p, .slice A n c, .int .i64 q, .slice A' n' c'] w fun e w' => ∃ A2 c2 l, e = .returned (.slice A2 l.length c2) ∧ Ints N0 w' A2 l ∧ Nm l (p * val a + q * val b) ∧ Below w.heap.size w w' := by
  have HN := Lib.hid hn
  have HN' := Lib.hid hn'
  have HDA := Lib.hid da
  have HDB := Lib.hid db
  have H0 := Lib.hid h0
  have H1 := Lib.hid h1
  have HLL : Hid (b.length ≤ a.length) := Lib.hid (by omega)
  obtain ⟨iI, hiI, hzI, hyI, hxI⟩ := info_parts infoI
  have hmk : ∀ W : World, (Instr.makeSlice 22 (.int .i64 n) (.int .i64 n)).run Tryz.prog W = .ok (.slice (some ⟨W.heap.size, 0, none⟩) n n) (W.alloc (.cells (ics (List.replicate n 0)) 3)) := fun W => by
    have hr := run_make (P := Tryz.prog) W 22 3 iI (.int .i64 0) Tryz.underlying22 hiI hzI .i64 .i64 n n (by omega) (Int.le_refl _) (by rw [hxI]; omega) (by omega)
    rw [hyI, Int.toNat_natCast, made_ints] at hr
    exact hr
  clear hn hn' da db h0 h1 hiI hzI hyI hxI
  go_enter Tryz.func108, Tryz.ntmps108
  go_wp2
  clear hmk
  go_loopw [10, 19] (fun bv iv wr => ∃ (k : Nat) (out : List Int) (cy : Int), k ≤ n ∧ iv = .int .i64 k ∧ bv = .int .i64 cy ∧ Hid (Row wr w.heap.size 3 (ics (out ++ List.replicate (n - k) 0))) ∧ Hid (Cb p q a b out k cy) ∧ Hid (Below w.heap.size w wr)) (fun _ iv _ => n - (intOf iv).toNat)
  case atStart => exact ⟨0, [], 0, Nat.zero_le _, rfl, rfl, Lib.hid (Row.new _ _ _), Lib.hid (Cb.start p q a b), Lib.hid (Gen.b_alloc (Below.refl _ _))⟩
  case round =>
    obtain ⟨k, out, cy, hk, rfl, rfl, HR, HS, HB⟩ := hrel
    have k0 : (0 : Int) ≤ (k : Int) := by omega
    obtain ⟨y0, y1⟩ := HS.out.rng
    by_cases hlt : k < n
    · have hltI : (k : Int) < (n : Int) := by omega
      obtain ⟨bl, ol, rfl, hcell⟩ := (ha.keep HB.out) (by rw [HN.out]; omega)
      obtain ⟨x, hx⟩ := at_ a k (by rw [HN.out]; exact hlt)
      have c0 := hcell k x hx
      have hpx := fac_in hp (HDA.out.at_ hx)
      have HX := Lib.hid hx
      have hg := HR.out.lt
      have l1 : wr.cell? ⟨w.heap.size, k, none⟩ = some (.int .i64 0) := HR.out.intAt (at_fill HS.out.len hlt)
      have hf := HR.out.frozen k
      clear hcell hx
      have w0 : IntKind.i64.wrap (p * x) = p * x := IntWalk.i64_in _ (by omega)
      have w1 : IntKind.i64.wrap (p * x + cy) = p * x + cy := IntWalk.i64_in _ (by omega)
      by_cases hlb : k < n'
      · have hlbI : (k : Int) < (n' : Int) := by omega
        obtain ⟨bm, om, rfl, hcell⟩ := (hb.keep HB.out) (by rw [HN'.out]; omega)
        obtain ⟨y, hy⟩ := at_ b k (by rw [HN'.out]; exact hlb)
        have c1 := hcell k y hy
        have hqy := fac_in hq (HDB.out.at_ hy)
        have w2 : IntKind.i64.wrap (q * y) = q * y := IntWalk.i64_in _ (by omega)
        have w3 : IntKind.i64.wrap (p * x + cy + q * y) = p * x + cy + q * y := IntWalk.i64_in _ (by omega)
        have hs := HS.out.step hp hq HDA.out HDB.out HX.out hy
        have hand := and_mask (p * x + cy + q * y) (by omega)
        obtain ⟨t, ht⟩ : ∃ t, p * x + cy + q * y = t := ⟨_, rfl⟩
        rw [ht] at hs hand w3
        obtain ⟨d, hd⟩ : ∃ d, t % 1048576 = d := ⟨_, rfl⟩
        obtain ⟨u, hu⟩ : ∃ u, t / 1048576 = u := ⟨_, rfl⟩
        rw [hd, hu] at hs
        rw [hd] at hand
        have HS2 := Lib.hid hs
        have HR2 : Hid (Row (wr.setCell ⟨w.heap.size, k, none⟩ (.int .i64 d)) w.heap.size 3 (ics ((out ++ [d]) ++ List.replicate (n - (k + 1)) 0))) := Lib.hid (by
          rw [← set_fill HS.out.len hlt, ← ics_set]
          exact HR.out.set _ _)
        have HB2 : Hid (Below w.heap.size w (wr.setCell ⟨w.heap.size, k, none⟩ (.int .i64 d))) := Lib.hid (Gen.b_set HB.out (Nat.le_refl _))
        clear hcell hy hs hd hpx hqy
        go_wp2
        go_roundw
        case rel => exact ⟨k + 1, out ++ [d], u, by omega, by go_num, rfl, HR2, HS2, HB2⟩
        case measure => simp [intOf]; omega
      · have hlbI : ¬ ((k : Int) < (n' : Int)) := by omega
        have hs := HS.out.step1 hp HDA.out HX.out (show b.length ≤ k by rw [HN'.out]; omega)
        have hand := and_mask (p * x + cy) (by omega)
        obtain ⟨t, ht⟩ : ∃ t, p * x + cy = t := ⟨_, rfl⟩
        rw [ht] at hs hand w1
        obtain ⟨d, hd⟩ : ∃ d, t % 1048576 = d := ⟨_, rfl⟩
        obtain ⟨u, hu⟩ : ∃ u, t / 1048576 = u := ⟨_, rfl⟩
        rw [hd, hu] at hs
        rw [hd] at hand
        have HS2 := Lib.hid hs
        have HR2 : Hid (Row (wr.setCell ⟨w.heap.size, k, none⟩ (.int .i64 d)) w.heap.size 3 (ics ((out ++ [d]) ++ List.replicate (n - (k + 1)) 0))) := Lib.hid (by
          rw [← set_fill HS.out.len hlt, ← ics_set]
          exact HR.out.set _ _)
        have HB2 : Hid (Below w.heap.size w (wr.setCell ⟨w.heap.size, k, none⟩ (.int .i64 d))) := Lib.hid (Gen.b_set HB.out (Nat.le_refl _))
        clear hs hd hpx
        go_wp2
        go_roundw
        case rel => exact ⟨k + 1, out ++ [d], u, by omega, by go_num, rfl, HR2, HS2, HB2⟩
        case measure => simp [intOf]; omega
    · obtain rfl : n = k := by omega
      have HE : Hid (val out = p * val a + q * val b) := Lib.hid (by
        have h := HS.out
        have h1 := H1.out
        rw [← HN.out] at h h1
        exact h.done HLL.out H0.out h1)
      have HI : Hid (Ints N0 wr (some ⟨w.heap.size, 0, none⟩) out) := Lib.hid (by
        have h := HR.out
        rw [Nat.sub_self, List.replicate_zero, List.append_nil] at h
        exact (h.ints' (N0 := N0)))
      go_wp2_with (fail)
      go_must (refine (trim_any _ n n out _ HS.out.len HI.out (Nat.le_refl _) (by omega)).mono ?_)
      rintro e w2 ⟨k, hkn, rfl, hT, hV, rfl⟩
      have HT := Lib.hid hT
      have HVV := Lib.hid hV
      clear hT hV
      go_wp2
      go_ret
      exact ⟨_, n, out.take k, by rw [List.length_take, HS.out.len, Nat.min_eq_left hkn]; rfl, ints_take HI.out k, ⟨HS.out.dg.take k, HT.out, HVV.out.trans HE.out⟩, HB.out⟩
set_option maxRecDepth 100000 in
set_option maxHeartbeats 4000000 in
theorem gcdSmall_any (w : World) (u v : Nat) (hu : u ≤ 18446744073709551615) (hv : v ≤ 18446744073709551615) :
    Calls Tryz.prog 106 #[.int .u64 u, .int .u64 v] w fun e w' => e = .returned (.int .u64 (Nat.gcd u v : Nat)) ∧ Below w.heap.size w w' := by
  go_enter Tryz.func106, Tryz.ntmps106
  go_wp2
  go_loopw [0, 1] (fun uv vv wr => ∃ (x y : Nat), uv = .int .u64 x ∧ vv = .int .u64 y ∧ x ≤ 18446744073709551615 ∧ y ≤ 18446744073709551615 ∧ Hid (Nat.gcd x y = Nat.gcd u v) ∧ Hid (Below w.heap.size w wr)) (fun _ vv _ => (intOf vv).toNat)
  case atStart => exact ⟨u, v, rfl, rfl, hu, hv, Lib.hid rfl, Lib.hid (Below.refl _ _)⟩
  case round =>
    obtain ⟨x, y, rfl, rfl, hx, hy, HG, HB⟩ := hrel
    by_cases h0 : 0 < y
    · have h0I : (0 : Int) < (y : Int) := by omega
      have hy0 : ((y : Int) == 0) = false := by simp; omega
      have hmod : (x : Int).tmod (y : Int) = ((x % y : Nat) : Int) := by rw [IntWalk.rem_in _ _ (by omega)]; rfl
      have hlt := Nat.mod_lt x h0
      have hw : IntKind.u64.wrap ((x % y : Nat) : Int) = ((x % y : Nat) : Int) := IntWalk.u64_in _ (by omega)
      have HG2 : Hid (Nat.gcd y (x % y) = Nat.gcd u v) := Lib.hid (by rw [← HG.out, Nat.gcd_comm x y, Nat.gcd_rec y x, Nat.gcd_comm])
      obtain ⟨m, hm⟩ : ∃ m, x % y = m := ⟨_, rfl⟩
      rw [hm] at hmod hlt hw HG2
      clear hm
      go_wp2
      go_region
      all_goals
        go_wp2
        go_roundw
        case rel => exact ⟨y, m, rfl, rfl, hy, by omega, HG2, Lib.hid HB.out.drew⟩
        case measure => simp [intOf]; omega
    · have h0I : ¬ ((0 : Int) < (y : Int)) := by omega
      have HE : Hid (x = Nat.gcd u v) := Lib.hid (by
        have h := HG.out
        rw [show y = 0 by omega, Nat.gcd_zero_right] at h
        exact h)
      go_wp2
      go_ret
      exact ⟨by rw [← HE.out]; rfl, HB.out⟩
end Go.Proofs.YtnifkianjpjahaaGreatDoor.Bg
/- Big integers: the highest bits. -/
namespace Go.Proofs.YtnifkianjpjahaaGreatDoor.Bg
open Go.ChangeShapes Go.WideShapes Go.ChangeAt Go.RowKit Go.Proofs.YtnifkianjpjahaaGreatDoor.Cell
set_option linter.unusedVariables false
set_option linter.unusedSimpArgs false
variable {N0 : Nat}

theorem val_drop_div {a : List Int} (da : Dg a) (k : Nat) : val (a.drop k) = val a / pw k := by
  by_cases h : k ≤ a.length
  · have h1 := val_split a k h
    have h2 := val_nonneg (da.take k)
    have h3 := val_lt (da.take k)
    rw [List.length_take, Nat.min_eq_left h] at h3
    have := (Int.ediv_emod_unique (a := val a) (b := pw k) (r := val (a.take k)) (q := val (a.drop k)) (by have := pw_pos k; omega)).2 ⟨by omega, h2, h3⟩
    exact this.1.symm
  · rw [List.drop_of_length_le (by omega), val_nil]
    have h1 := val_lt da
    have h2 := pw_le (show a.length ≤ k by omega)
    exact (Int.ediv_eq_zero_of_lt (val_nonneg da) (by omega)).symm
theorem val_none {a : List Int} {k : Nat} (h : a.length ≤ k) : val (a.drop k) = 1048576 * val (a.drop (k + 1)) := by
  rw [List.drop_of_length_le h, List.drop_of_length_le (by omega), val_nil]; rfl
set_option maxRecDepth 100000 in
set_option maxHeartbeats 8000000 in
theorem lead_any {A : Option Addr} {n n' c : Nat} {a : List Int} (w : World) (hn : a.length = n') (ha : Ints N0 w A a) (da : Dg a) (h4 : 4 ≤ n) (hl : n' ≤ n) (hbig : n ≤ 1000) :
    Calls Tryz.prog 124 #[.slice A n' c, .int .i64 n] w fun e w' => e = .returned (.int .i64 (val a / pw (n - 3))) ∧ w' = w := by
  have HN := Lib.hid hn
  have HDA := Lib.hid da
  have e1 : IntKind.i64.wrap ((n : Int) - 1) = ((n - 1 : Nat) : Int) := by rw [IntWalk.i64_in _ (by omega)]; omega
  have e3 : IntKind.i64.wrap ((n : Int) - 3) = (n : Int) - 3 := IntWalk.i64_in _ (by omega)
  have HV0 : Hid (0 = val (a.drop (n - 1 + 1))) := Lib.hid (by rw [List.drop_of_length_le (by omega)]; rfl)
  clear hn da
  go_enter Tryz.func124, Tryz.ntmps124
  go_wp2
  clear e1
  go_loopw [5, 6] (fun vv iv wr => ∃ (k : Nat) (v : Int), n - 4 ≤ k ∧ k ≤ n - 1 ∧ iv = .int .i64 k ∧ vv = .int .i64 v ∧ Hid (v = val (a.drop (k + 1))) ∧ wr = w) (fun _ iv _ => (intOf iv).toNat)
  case atStart => exact ⟨n - 1, 0, by omega, Nat.le_refl _, rfl, rfl, HV0, rfl⟩
  case round =>
    clear HV0
    obtain ⟨k, v, hk, hk', rfl, rfl, HV, rfl⟩ := hrel
    have k0 : (0 : Int) ≤ (k : Int) := by omega
    by_cases hlt : n - 3 ≤ k
    · have hltI : (n : Int) - 3 ≤ (k : Int) := by omega
      have hk1 : IntKind.i64.wrap ((k : Int) - 1) = ((k - 1 : Nat) : Int) := by rw [IntWalk.i64_in _ (by omega)]; omega
      have hv2 : 0 ≤ v ∧ v < 1099511627776 := by
        rw [HV.out]
        have h1 := val_nonneg (HDA.out.drop (k + 1))
        have h2 := val_lt (HDA.out.drop (k + 1))
        have h3 := pw_le (show (a.drop (k + 1)).length ≤ 2 by rw [List.length_drop, HN.out]; omega)
        rw [pw_2] at h3
        omega
      have hw1 : IntKind.i64.wrap (v * 1048576) = v * 1048576 := IntWalk.i64_in _ (by omega)
      by_cases hlb : k < n'
      · have hlbI : (k : Int) < (n' : Int) := by omega
        obtain ⟨bl, ol, rfl, hcell⟩ := ha (by rw [HN.out]; omega)
        obtain ⟨x, hx⟩ := at_ a k (by rw [HN.out]; exact hlb)
        have c0 := hcell k x hx
        have hor := or_join v x (by omega) (HDA.out.at_ hx)
        have HV2 : Hid (v * 1048576 + x = val (a.drop (k - 1 + 1))) := Lib.hid (by
          rw [show k - 1 + 1 = k by omega, val_drop hx, ← HV.out]; omega)
        clear hcell hx hv2
        go_wp2
        go_roundw
        case rel => exact ⟨k - 1, v * 1048576 + x, by omega, by omega, rfl, rfl, HV2, trivial⟩
        case measure => simp [intOf]; omega
      · have hlbI : ¬ ((k : Int) < (n' : Int)) := by omega
        have HV2 : Hid (v * 1048576 = val (a.drop (k - 1 + 1))) := Lib.hid (by
          rw [show k - 1 + 1 = k by omega, val_none (show a.length ≤ k by rw [HN.out]; omega), ← HV.out]; omega)
        clear hv2
        go_wp2
        go_roundw
        case rel => exact ⟨k - 1, v * 1048576, by omega, by omega, rfl, rfl, HV2, trivial⟩
        case measure => simp [intOf]; omega
    · have hltI : ¬ ((n : Int) - 3 ≤ (k : Int)) := by omega
      have HE : Hid (v = val a / pw (n - 3)) := Lib.hid (by
        rw [HV.out, show k + 1 = n - 3 by omega]; exact val_drop_div HDA.out _)
      go_wp2
      go_ret
      exact ⟨by rw [HE.out]; rfl, rfl⟩
end Go.Proofs.YtnifkianjpjahaaGreatDoor.Bg
/- Big integers: steps. -/
namespace Go.Proofs.YtnifkianjpjahaaGreatDoor.Bg
open Go.ChangeShapes Go.WideShapes Go.ChangeAt Go.RowKit Go.Proofs.YtnifkianjpjahaaGreatDoor.Cell
set_option linter.unusedVariables false
set_option linter.unusedSimpArgs false
variable {N0 : Nat}

abbrev i4 (m0 m1 m2 m3 : Int) : Array Value := #[.int .i64 m0, .int .i64 m1, .int .i64 m2, .int .i64 m3]
/-- what steps yields -/
def StP (va vb : Int) (w : World) (e : Ending) (w' : World) : Prop :=
  ∃ (m0 m1 m2 m3 P ra rb x y : Int) (d : Bool), e = .returned (.tuple #[.agg (i4 m0 m1 m2 m3), .bool d]) ∧ Le va vb P ra rb x y m0 m1 m2 m3 d ∧ Below w.heap.size w w'
theorem put4 {W : World} {b : Nat} {t : TypeId} {z0 z1 z2 z3 : Value} (u0 u1 u2 u3 : Value) (h : Row W b t #[z0, z1, z2, z3]) : Row ((((W.setCell ⟨b, 0, none⟩ u0).setCell ⟨b, 1, none⟩ u1).setCell ⟨b, 2, none⟩ u2).setCell ⟨b, 3, none⟩ u3) b t #[u0, u1, u2, u3] := (((h.set 0 u0).set 1 u1).set 2 u2).set 3 u3
theorem only4 (W : World) (b : Nat) (u0 u1 u2 u3 : Value) : Only b W ((((W.setCell ⟨b, 0, none⟩ u0).setCell ⟨b, 1, none⟩ u1).setCell ⟨b, 2, none⟩ u2).setCell ⟨b, 3, none⟩ u3) := ((((Only.refl b W).set 0 u0).set 1 u1).set 2 u2).set 3 u3
theorem max4_int (t : Array TypeId) (u : TypeId) (a b B : Int) : ∃ M, (∀ W : World, Sem.run Tryz.prog (Builtin.max_ t u #[.int .i64 a, .int .i64 (-a), .int .i64 b, .int .i64 (-b)]) W = .ok (.int .i64 M) W) ∧ (M ≤ B → (-B ≤ a ∧ a ≤ B) ∧ (-B ≤ b ∧ b ≤ B)) := by
  refine ⟨(if (if (if a < -a then -a else a) < b then b else if a < -a then -a else a) < -b then -b else if (if a < -a then -a else a) < b then b else if a < -a then -a else a), fun W => by simp [Builtin.max_, Builtin.max2, go_sem], fun h => ?_⟩
  split at h <;> split at h <;> split at h <;> omega
set_option maxRecDepth 100000 in
set_option maxHeartbeats 8000000 in
theorem steps_any {A A' : Option Addr} {n n' c c' : Nat} {a b : List Int} (w : World) (hn : a.length = n) (hn' : b.length = n') (ha : Ints N0 w A a) (hb : Ints N0 w A' b) (da : Dg a) (db : Dg b) (h4 : 4 ≤ n) (hl : n' ≤ n) (hbig : n ≤ 1000) :
    Calls Tryz.prog 107 #[.slice A n c, .slice A' n' c'] w (StP (val a) (val b) w) := by
  have HN := Lib.hid hn
  have HN' := Lib.hid hn'
  have HDA := Lib.hid da
  have HDB := Lib.hid db
  have HL0 : Hid (Le (val a) (val b) (pw (n - 3)) (val a % pw (n - 3)) (val b % pw (n - 3)) (val a / pw (n - 3)) (val b / pw (n - 3)) 1 0 0 1 false) := Lib.hid (by
    have hq : ∀ l : List Int, Dg l → l.length ≤ n → 0 ≤ val l ∧ val l / pw (n - 3) < 1152921504606846976 := fun l hd hle => by
      refine ⟨val_nonneg hd, ?_⟩
      rw [← val_drop_div hd]
      have h1 := val_lt (hd.drop (n - 3))
      have h2 := pw_le (show (l.drop (n - 3)).length ≤ 3 by rw [List.length_drop]; omega)
      rw [pw_3] at h2
      omega
    exact Le.start (by have := pw_pos (n - 3); omega) (hq a da (by omega)) (hq b db (by omega)))
  clear hn hn' da db
  go_enter Tryz.func107, Tryz.ntmps107
  go_wp2_with (fail)
  go_must (refine (lead_any _ HN.out (ha.keep (Gen.b_alloc (Below.refl _ _))) HDA.out h4 (Nat.le_refl _) hbig).mono ?_)
  rintro e w2 ⟨rfl, rfl⟩
  go_wp2_with (fail)
  go_must (refine (lead_any _ HN'.out (hb.keep (Gen.b_alloc (Below.refl _ _))) HDB.out h4 hl hbig).mono ?_)
  rintro e w2 ⟨rfl, rfl⟩
  go_wp2
  have HB0 := Lib.hid (Gen.b_alloc (x := .cells (i4 1 0 0 1) 96) (Gen.b_alloc (x := .cells (i4 0 0 0 0) 96) (Below.refl w.heap.size w)))
  have HR0 : Hid (Row _ w.heap.size 96 (i4 0 0 0 0)) := Lib.hid ((Row.new w 96 (i4 0 0 0 0)).alloc (.cells (i4 1 0 0 1) 96))
  have HM0 : Hid (Row ((w.alloc (.cells (i4 0 0 0 0) 96)).alloc (.cells (i4 1 0 0 1) 96)) (w.heap.size + 1) 96 (i4 1 0 0 1)) := Lib.hid (by
    have h := Row.new (w.alloc (.cells (i4 0 0 0 0) 96)) 96 (i4 1 0 0 1)
    rw [World.size_alloc] at h
    exact h)
  unfold i4 at HB0 HR0 HM0
  obtain ⟨X0, hX0⟩ : ∃ x, val a / pw (n - 3) = x := ⟨_, rfl⟩
  obtain ⟨Y0, hY0⟩ : ∃ x, val b / pw (n - 3) = x := ⟨_, rfl⟩
  rw [hX0, hY0] at HL0
  rw [hX0, hY0]
  obtain ⟨P, hP⟩ : ∃ x, pw (n - 3) = x := ⟨_, rfl⟩
  rw [hP] at HL0
  obtain ⟨ra, hra⟩ : ∃ x, val a % P = x := ⟨_, rfl⟩
  obtain ⟨rb, hrb⟩ : ∃ x, val b % P = x := ⟨_, rfl⟩
  rw [hra, hrb] at HL0
  clear hX0 hY0 hP hra hrb ha hb
  go_loopw [6, 7, 9] (fun xv yv dv wr => ∃ (x y m0 m1 m2 m3 : Int) (d : Bool), xv = .int .i64 x ∧ yv = .int .i64 y ∧ dv = .bool d ∧ Hid (Le (val a) (val b) P ra rb x y m0 m1 m2 m3 d) ∧ Hid (Row wr w.heap.size 96 (i4 0 0 0 0)) ∧ Hid (Row wr (w.heap.size + 1) 96 (i4 m0 m1 m2 m3)) ∧ Hid (Below w.heap.size w wr)) (fun _ yv _ _ => (intOf yv).toNat)
  case atStart => exact ⟨X0, Y0, 1, 0, 0, 1, false, rfl, rfl, rfl, HL0, HR0, HM0, HB0⟩
  case round =>
    clear HL0 HR0 HM0 HB0
    obtain ⟨x, y, m0, m1, m2, m3, d, rfl, rfl, rfl, HL, HR, HM, HB⟩ := hrel
    have c0 := HM.out.cell 0
    have c1 := HM.out.cell 1
    have c2 := HM.out.cell 2
    have c3 := HM.out.cell 3
    have hgR := HR.out.lt
    have hgM := HM.out.lt
    have bx := HL.out.bx
    have bY := HL.out.by_
    have x0 := HL.out.x0
    have y0 := HL.out.y0
    have b0 := HL.out.b0
    have b1 := HL.out.b1
    have b2 := HL.out.b2
    have b3 := HL.out.b3
    have w0 : IntKind.i64.wrap (x + m0) = x + m0 := IntWalk.i64_in _ (by omega)
    have w1 : IntKind.i64.wrap (x + m1) = x + m1 := IntWalk.i64_in _ (by omega)
    have w2 : IntKind.i64.wrap (y + m2) = y + m2 := IntWalk.i64_in _ (by omega)
    have w3 : IntKind.i64.wrap (y + m3) = y + m3 := IntWalk.i64_in _ (by omega)
    have f0 := HR.out.frozen 0
    have f1 := HR.out.frozen 1
    have f2 := HR.out.frozen 2
    have f3 := HR.out.frozen 3
    have k0 := HR.out.cell 0
    have k1 := HR.out.cell 1
    have k2 := HR.out.cell 2
    have k3 := HR.out.cell 3
    by_cases h2 : y + m2 = 0
    · have h2b : (y + m2 != 0) = false := by simp [h2]
      go_wp2
      have R4 := put4 (.int .i64 m0) (.int .i64 m1) (.int .i64 m2) (.int .i64 m3) HR.out
      have HB4 := Lib.hid (((only4 wr w.heap.size (.int .i64 m0) (.int .i64 m1) (.int .i64 m2) (.int .i64 m3)).bl w HB.out (Nat.le_refl _)))
      have d0 := R4.cell 0
      have d1 := R4.cell 1
      have d2 := R4.cell 2
      have d3 := R4.cell 3
      clear R4
      refine bodyPost_ret (v := .tuple #[.agg (i4 m0 m1 m2 m3), .bool d]) ?_ rfl ⟨m0, m1, m2, m3, P, ra, rb, x, y, d, rfl, HL.out, HB4.out⟩
      simp [results, Tryz.results107, go_sem, *]
    have h2b : (y + m2 != 0) = true := by simp [h2]
    by_cases h3 : y + m3 = 0
    · have h3b : (y + m3 != 0) = false := by simp [h3]
      go_wp2
      have R4 := put4 (.int .i64 m0) (.int .i64 m1) (.int .i64 m2) (.int .i64 m3) HR.out
      have HB4 := Lib.hid (((only4 wr w.heap.size (.int .i64 m0) (.int .i64 m1) (.int .i64 m2) (.int .i64 m3)).bl w HB.out (Nat.le_refl _)))
      have d0 := R4.cell 0
      have d1 := R4.cell 1
      have d2 := R4.cell 2
      have d3 := R4.cell 3
      clear R4
      refine bodyPost_ret (v := .tuple #[.agg (i4 m0 m1 m2 m3), .bool d]) ?_ rfl ⟨m0, m1, m2, m3, P, ra, rb, x, y, d, rfl, HL.out, HB4.out⟩
      simp [results, Tryz.results107, go_sem, *]
    have h3b : (y + m3 != 0) = true := by simp [h3]
    have p0 := HL.out.p0
    have p1 := HL.out.p1
    have p2 := HL.out.p2
    have p3 := HL.out.p3
    have q2 := IntWalk.i64_quo (x + m0) (y + m2) (by omega)
    have q3 := IntWalk.i64_quo (x + m1) (y + m3) (by omega)
    have z2 : (y + m2 == 0) = false := by simp [h2]
    have z3 : (y + m3 == 0) = false := by simp [h3]
    by_cases he : (x + m0) / (y + m2) = (x + m1) / (y + m3)
    · have hq := HL.out.qt h2 h3 he
      have hbd := HL.out.bounds hq h2 h3
      have hst : ∀ f2 f3, _ := fun f2 f3 => HL.out.step hq h2 h3 f2 f3
      rw [← he] at q3
      obtain ⟨q, hqq⟩ : ∃ q, (x + m0) / (y + m2) = q := ⟨_, rfl⟩
      rw [hqq] at q2 q3 hbd hst
      have HST := Lib.hid hst
      have v0 : IntKind.i64.wrap (q * y) = q * y := IntWalk.i64_in _ (by omega)
      have v2 : IntKind.i64.wrap (q * m2) = q * m2 := IntWalk.i64_in _ (by omega)
      have v3 : IntKind.i64.wrap (q * m3) = q * m3 := IntWalk.i64_in _ (by omega)
      have u0 : IntKind.i64.wrap (x - q * y) = x - q * y := IntWalk.i64_in _ (by omega)
      have u2 : IntKind.i64.wrap (m0 - q * m2) = m0 - q * m2 := IntWalk.i64_in _ (by omega)
      have u3 : IntKind.i64.wrap (m1 - q * m3) = m1 - q * m3 := IntWalk.i64_in _ (by omega)
      have g2 : IntKind.i64.wrap (-(m0 - q * m2)) = -(m0 - q * m2) := IntWalk.i64_in _ (by omega)
      have g3 : IntKind.i64.wrap (-(m1 - q * m3)) = -(m1 - q * m3) := IntWalk.i64_in _ (by omega)
      obtain ⟨n2, hn2⟩ : ∃ z, m0 - q * m2 = z := ⟨_, rfl⟩
      obtain ⟨n3, hn3⟩ : ∃ z, m1 - q * m3 = z := ⟨_, rfl⟩
      obtain ⟨y', hy'⟩ : ∃ z, x - q * y = z := ⟨_, rfl⟩
      rw [hn2] at u2 g2 HST
      rw [hn3] at u3 g3 HST
      rw [hy'] at u0 HST
      clear hq hbd hst he hqq
      have hqn : (q != q) = false := by simp
      obtain ⟨M, hM, hMB⟩ := max4_int #[3, 3, 3, 3] 3 n2 n3 1073741824
      have HMB := Lib.hid hMB
      clear hMB
      have e0 := HM.out.frozen 0
      have e1 := HM.out.frozen 1
      have e2 := HM.out.frozen 2
      have e3 := HM.out.frozen 3
      by_cases hbig : 1073741824 < M
      · go_wp2
        have R4 := put4 (.int .i64 m0) (.int .i64 m1) (.int .i64 m2) (.int .i64 m3) HR.out |>.alloc (.cells (i4 m2 m3 n2 n3) 96)
        have HB4 := Lib.hid (Gen.b_alloc (x := .cells (i4 m2 m3 n2 n3) 96) ((only4 wr w.heap.size (.int .i64 m0) (.int .i64 m1) (.int .i64 m2) (.int .i64 m3)).bl w HB.out (Nat.le_refl _)))
        have d0 := R4.cell 0
        have d1 := R4.cell 1
        have d2 := R4.cell 2
        have d3 := R4.cell 3
        clear R4
        refine bodyPost_ret (v := .tuple #[.agg (i4 m0 m1 m2 m3), .bool d]) ?_ rfl ⟨m0, m1, m2, m3, P, ra, rb, x, y, d, rfl, HL.out, HB4.out⟩
        simp [results, Tryz.results107, go_sem, *]
      · have hst := HST.out (HMB.out (by omega)).1 (HMB.out (by omega)).2
        have hy0 := hst.1.y0
        have hlt := hst.2
        have HST1 := Lib.hid hst.1
        clear hst
        go_wp2
        go_roundw
        case rel => exact ⟨y, y', m2, m3, n2, n3, true, rfl, rfl, rfl, HST1, Lib.hid (Row.alloc ((only4 wr (w.heap.size + 1) _ _ _ _).row w.heap.size _ _ (by omega) HR.out) _), Lib.hid ((put4 _ _ _ _ HM.out).alloc _), Lib.hid (Gen.b_alloc ((only4 wr (w.heap.size + 1) _ _ _ _).bl w HB.out (by omega)))⟩
        case measure => simp [intOf]; omega
    · have hqn : ((x + m0) / (y + m2) != (x + m1) / (y + m3)) = true := by simp [he]
      go_wp2
      have R4 := put4 (.int .i64 m0) (.int .i64 m1) (.int .i64 m2) (.int .i64 m3) HR.out
      have HB4 := Lib.hid (((only4 wr w.heap.size (.int .i64 m0) (.int .i64 m1) (.int .i64 m2) (.int .i64 m3)).bl w HB.out (Nat.le_refl _)))
      have d0 := R4.cell 0
      have d1 := R4.cell 1
      have d2 := R4.cell 2
      have d3 := R4.cell 3
      clear R4
      refine bodyPost_ret (v := .tuple #[.agg (i4 m0 m1 m2 m3), .bool d]) ?_ rfl ⟨m0, m1, m2, m3, P, ra, rb, x, y, d, rfl, HL.out, HB4.out⟩
      simp [results, Tryz.results107, go_sem, *]
end Go.Proofs.YtnifkianjpjahaaGreatDoor.Bg
/- Big integers: gcd. -/
namespace Go.Proofs.YtnifkianjpjahaaGreatDoor.Bg
open Go.ChangeShapes Go.WideShapes Go.ChangeAt Go.RowKit Go.Proofs.YtnifkianjpjahaaGreatDoor.Cell
set_option linter.unusedVariables false
set_option linter.unusedSimpArgs false
variable {N0 : Nat}

/-- a slice that holds a number's digits -/
def Sl (N0 : Nat) (W : World) (v : Value) (X : Nat) : Prop := ∃ A c l n, v = .slice A n c ∧ l.length = n ∧ Ints N0 W A l ∧ Nm l (X : Int) ∧ n ≤ 60
theorem Ints.uniq {W : World} {A : Option Addr} {l l' : List Int} (h : Ints N0 W A l) (h' : Ints N0 W A l') (hl : l.length = l'.length) : l = l' := by
  by_cases h0 : 0 < l.length
  · obtain ⟨b, o, e, hc⟩ := h h0
    obtain ⟨b', o', e', hc'⟩ := h' (by omega)
    rw [e] at e'
    cases e'
    refine List.ext_getElem? fun k => ?_
    by_cases hk : k < l.length
    · obtain ⟨x, hx⟩ := at_ l k hk
      obtain ⟨y, hy⟩ := at_ l' k (by omega)
      have h1 := hc k x hx
      have h2 := hc' k y hy
      rw [h1] at h2
      cases h2
      rw [hx, hy]
    · rw [List.getElem?_eq_none (by omega), List.getElem?_eq_none (by omega)]
  · rw [List.eq_nil_of_length_eq_zero (show l.length = 0 by omega), List.eq_nil_of_length_eq_zero (show l'.length = 0 by omega)]
theorem Sl.uniq {W : World} {v : Value} {X Y : Nat} (h : Sl N0 W v X) (h' : Sl N0 W v Y) : X = Y := by
  obtain ⟨A, c, l, n, e, hl, hi, hn, _⟩ := h
  obtain ⟨A', c', l', n', e', hl', hi', hn', _⟩ := h'
  rw [e] at e'
  cases e'
  have := Ints.uniq hi hi' (hl.trans hl'.symm)
  subst this
  have := hn.2.2.symm.trans hn'.2.2
  omega
open Classical in
noncomputable def valAt (N0 : Nat) (W : World) (v : Value) : Nat := if h : ∃ X, Sl N0 W v X then h.choose else 0
theorem valAt_eq {W : World} {v : Value} {X : Nat} (h : Sl N0 W v X) : valAt N0 W v = X := by
  unfold valAt
  rw [dif_pos ⟨X, h⟩]
  exact Sl.uniq (Exists.choose_spec (⟨X, h⟩ : ∃ X, Sl N0 W v X)) h
theorem len_mono {a b : List Int} {X Y : Nat} (na : Nm a X) (nb : Nm b Y) (h : Y ≤ X) : b.length ≤ a.length := by
  by_cases hl : b.length ≤ a.length
  · exact hl
  · have := val_len_lt na.1 nb.1 nb.2.1 (show a.length < b.length by omega)
    rw [na.2.2, nb.2.2] at this
    omega
def GcdP (N0 : Nat) (G : Nat) (w : World) (e : Ending) (w' : World) : Prop := ∃ A c l, e = .returned (.slice A (List.length l) c) ∧ Ints N0 w' A l ∧ Nm l (G : Int) ∧ Below w.heap.size w w'
set_option maxRecDepth 100000 in
set_option maxHeartbeats 8000000 in
theorem gcd_any {va vb : Value} {X0 Y0 : Nat} (w : World) (ha : Sl N0 w va X0) (hb : Sl N0 w vb Y0) :
    Calls Tryz.prog 84 #[va, vb] w (GcdP N0 (Nat.gcd X0 Y0) w) := by
  have HA0 := Lib.hid ha
  have HB0 := Lib.hid hb
  clear ha hb
  obtain ⟨G, hG⟩ : ∃ G, Nat.gcd X0 Y0 = G := ⟨_, rfl⟩
  have HG0 := Lib.hid hG
  rw [hG]
  clear hG
  go_enter Tryz.func84, Tryz.ntmps84
  go_wp2
  go_loopw [0, 1] (fun av bv wr => ∃ (X Y : Nat), Hid (Sl N0 wr av X) ∧ Hid (Sl N0 wr bv Y) ∧ Hid (Nat.gcd X Y = G) ∧ Hid (Below w.heap.size w wr)) (fun av bv wr => valAt N0 wr av + valAt N0 wr bv)
  case atStart => exact ⟨X0, Y0, HA0, HB0, HG0, Lib.hid (Below.refl _ _)⟩
  case round =>
    clear HA0 HB0 HG0
    obtain ⟨Xa, Xb, HA, HB, HG, HW⟩ := hrel
    have VA := Lib.hid (valAt_eq HA.out)
    have VB := Lib.hid (valAt_eq HB.out)
    obtain ⟨Aa, ca, la, na, rfl, hla, hia, hna, h60a⟩ := HA.out
    obtain ⟨Ab, cb, lb, nb, rfl, hlb, hib, hnb, h60b⟩ := HB.out
    have La := Lib.hid hla
    have Lb := Lib.hid hlb
    have Na := Lib.hid hna
    have Nb := Lib.hid hnb
    clear HA HB
    go_wp2_with (fail)
    go_must (refine (compare_any _ La.out Lb.out hia hib Na.out.1 Nb.out.1 Na.out.2.1 Nb.out.2.1 (by omega) (by omega)).mono ?_)
    rintro e w1 ⟨rfl, q, rfl⟩
    rw [Na.out.2.2, Nb.out.2.2]
    have Ia := Lib.hid (hia.keep (Gen.dN (Below.refl _ _) q))
    have Ib := Lib.hid (hib.keep (Gen.dN (Below.refl _ _) q))
    have W1 := Lib.hid (Gen.dN HW.out q)
    clear hla hlb hia hib hna hnb HW
    generalize wr.drewN q = wz at Ia Ib W1 ⊢
    by_cases hlt : Xa < Xb
    · rw [cmpI_lt (by omega)]
      have hle : Xa ≤ Xb := by omega
      have hnn : na ≤ nb := by
        have := len_mono Nb.out Na.out hle
        rw [Lb.out, La.out] at this
        exact this
      have HG2 : Hid (Nat.gcd Xb Xa = G) := Lib.hid (by first | exact HG.out | (rw [Nat.gcd_comm]; exact HG.out))
      by_cases h0 : na = 0
      · have h0b : ((na : Int) == 0) = true := by simp [h0]
        have HE : Hid (Xb = G) := Lib.hid (by
          have h := Na.out.nil.1 (List.eq_nil_of_length_eq_zero (La.out.trans h0))
          have h1 := HG2.out
          rw [show Xa = 0 by omega, Nat.gcd_zero_right] at h1
          exact h1)
        clear h0
        go_wp2_with (fail)
        go_must (refine (clone_any _ Lb.out Ib.out (by omega)).mono ?_)
        rintro e w3 ⟨A3, c3, rfl, hI3, hb3⟩
        have HF := Lib.hid (show GcdP N0 G w (.returned (.slice A3 nb c3)) w3 from ⟨A3, c3, lb, by rw [Lb.out], hI3, by rw [← HE.out]; exact Nb.out, Gen.over hb3 W1.out⟩)
        clear hI3 hb3
        go_wp2
        go_ret
        exact HF.out
      · have h0b : ((na : Int) == 0) = false := by simp [h0]
        have h20 : 0 < Xa := by
          have h := Na.out.nil
          have : ¬ (Xa : Int) = 0 := fun e => h0 (by rw [← La.out, h.2 e]; rfl)
          omega
        by_cases hs : Xb < 18446744073709551616
        · go_wp2_with (fail)
          go_must (refine (mag_yes _ Lb.out Ib.out Nb.out.1 Nb.out.2.1 (by rw [Nb.out.2.2]; omega)).mono ?_)
          rintro e w3 ⟨rfl, rfl⟩
          rw [Nb.out.2.2]
          go_wp2_with (fail)
          go_must (refine (mag_yes _ La.out Ia.out Na.out.1 Na.out.2.1 (by rw [Na.out.2.2]; omega)).mono ?_)
          rintro e w3 ⟨rfl, rfl⟩
          rw [Na.out.2.2]
          go_wp2_with (fail)
          go_must (refine (gcdSmall_any _ Xb Xa (by omega) (by omega)).mono ?_)
          rintro e w4 ⟨rfl, hb4⟩
          have hGl : G ≤ 18446744073709551615 := by
            have := Nat.le_of_dvd h20 (Nat.gcd_dvd_right Xb Xa)
            rw [HG2.out] at this
            omega
          have hGp : 0 < G := by rw [← HG2.out]; exact Nat.gcd_pos_of_pos_right _ h20
          rw [HG2.out]
          have HB4 := Lib.hid hb4
          clear hb4
          go_wp2_with (fail)
          go_must (refine (ofMag_any (N0 := N0) (z := (G : Int)) _ (by omega) (by omega) (fun _ => (sg_pos (by omega)).symm)).mono ?_)
          rintro e w5 ⟨v, rfl, hv, hb5⟩
          obtain ⟨A3, c3, l3, rfl, hI3, hN3, _⟩ := hv.ex
          have HF := Lib.hid (show GcdP N0 G w (.returned (.slice A3 (List.length l3) c3)) w5 from ⟨A3, c3, l3, rfl, hI3, hN3.to (by omega), Gen.over hb5 (Gen.over HB4.out W1.out)⟩)
          have hfd := field_dig w5 (sg (G : Int)) A3 (List.length l3) c3
          clear hI3 hb5 hv HB4
          go_wp2
          go_ret
          exact HF.out
        · have h4 : 4 ≤ nb := by
            by_cases h : 4 ≤ nb
            · exact h
            · have := (Nb.out.len 3).1 (by rw [Lb.out]; omega)
              rw [pw_3] at this
              omega
          go_wp2_with (fail)
          go_must (refine (mag_no _ Lb.out Ib.out Nb.out.1 (by rw [Nb.out.2.2]; omega) (by omega)).mono ?_)
          rintro e w3 ⟨rfl, rfl⟩
          go_wp2_with (fail)
          go_must (refine (steps_any _ Lb.out La.out Ib.out Ia.out Nb.out.1 Na.out.1 h4 hnn (by omega)).mono ?_)
          rintro e w3 ⟨m0, m1, m2, m3, P, ra, rb, x, y, d, rfl, hLe, hb3⟩
          rw [Nb.out.2.2, Na.out.2.2] at hLe
          have J1 := Lib.hid (Ib.out.keep (Gen.over (Gen.b_alloc (x := .cells (i4 m0 m1 m2 m3) 96) (Below.refl _ w3)) hb3))
          have J2 := Lib.hid (Ia.out.keep (Gen.over (Gen.b_alloc (x := .cells (i4 m0 m1 m2 m3) 96) (Below.refl _ w3)) hb3))
          have W3 := Lib.hid (Gen.over (Gen.b_alloc (x := .cells (i4 m0 m1 m2 m3) 96) (Below.refl _ w3)) (Gen.over hb3 W1.out))
          have R3 := Lib.hid (Row.new w3 96 (i4 m0 m1 m2 m3))
          have HLE := Lib.hid hLe
          clear hLe hb3 Ib Ia W1
          rcases d with _ | _
          · skip
            go_wp2_with (fail)
            go_must (refine (div_any _ Lb.out La.out J1.out J2.out Nb.out.1 Na.out.1 Nb.out.2.1 Na.out.2.1 (by omega) (by omega) (by rw [Na.out.2.2]; omega)).mono ?_)
            rintro e w4 ⟨A3, c3, lq, A4, c4, lr, rfl, hi3, hi4, hn3, hn4, hb4⟩
            rw [Nb.out.2.2, Na.out.2.2] at hn4
            have hmod := Nat.mod_lt Xb h20
            have hN4 : Nm lr ((Xb % Xa : Nat) : Int) := hn4.to rfl
            have S1 := Lib.hid (show Sl N0 w4 (.slice Aa na ca) Xa from ⟨_, _, _, _, rfl, La.out, J2.out.keep hb4, Na.out, by omega⟩)
            have S2 := Lib.hid (show Sl N0 w4 (.slice A4 (List.length lr) c4) (Xb % Xa) from ⟨_, _, _, _, rfl, rfl, hi4, hN4, by
              have := len_mono Na.out hN4 (by omega)
              rw [La.out] at this
              omega⟩)
            have W4 := Lib.hid (Gen.over hb4 W3.out)
            have HG3 : Hid (Nat.gcd Xa (Xb % Xa) = G) := Lib.hid (by rw [← HG2.out, Nat.gcd_comm Xb Xa, Nat.gcd_rec Xa Xb, Nat.gcd_comm])
            have V1 := valAt_eq S1.out
            have V2 := valAt_eq S2.out
            have V3 := VA.out
            have V4 := VB.out
            clear hi3 hi4 hn3 hn4 hb4 hN4
            go_wp2
            go_roundw
            case rel => exact ⟨Xa, Xb % Xa, S1, S2, HG3, W4⟩
            case measure => rw [V1, V2, V3, V4]; omega
          · skip
            have hAB := HLE.out.dn rfl
            have hpA := HLE.out.posA
            have hpB := HLE.out.posB
            have hgg := HLE.out.g
            have hp0 := HLE.out.b0
            have hp1 := HLE.out.b1
            have hp2 := HLE.out.b2
            have hp3 := HLE.out.b3
            have hlt1 := val_lt Nb.out.1
            rw [Lb.out, Nb.out.2.2] at hlt1
            have h60v := (Nb.out.len 60).1 (by rw [Lb.out]; omega)
            have D1 := Lib.hid Nb.out.1
            have D2 := Lib.hid Na.out.1
            have HC1 : Hid (0 ≤ m0 * val lb + m1 * val la ∧ m0 * val lb + m1 * val la < pw nb) := Lib.hid (by rw [Nb.out.2.2, Na.out.2.2]; omega)
            have HC2 : Hid (0 ≤ m2 * val lb + m3 * val la ∧ m2 * val lb + m3 * val la < pw nb) := Lib.hid (by rw [Nb.out.2.2, Na.out.2.2]; omega)
            have HZ1 : Hid (∀ l, Nm l (m0 * val lb + m1 * val la) → Nm l ((m0 * (Xb : Int) + m1 * (Xa : Int)).natAbs : Int) ∧ l.length ≤ 60) := Lib.hid fun l h => by
              have h' : Nm l ((m0 * (Xb : Int) + m1 * (Xa : Int)).natAbs : Int) := h.to (by rw [Nb.out.2.2, Na.out.2.2]; omega)
              exact ⟨h', (h'.len 60).2 (by omega)⟩
            have HZ2 : Hid (∀ l, Nm l (m2 * val lb + m3 * val la) → Nm l ((m2 * (Xb : Int) + m3 * (Xa : Int)).natAbs : Int) ∧ l.length ≤ 60) := Lib.hid fun l h => by
              have h' : Nm l ((m2 * (Xb : Int) + m3 * (Xa : Int)).natAbs : Int) := h.to (by rw [Nb.out.2.2, Na.out.2.2]; omega)
              exact ⟨h', (h'.len 60).2 (by omega)⟩
            obtain ⟨X5, hX5⟩ : ∃ z, (m0 * (Xb : Int) + m1 * (Xa : Int)).natAbs = z := ⟨_, rfl⟩
            obtain ⟨X6, hX6⟩ : ∃ z, (m2 * (Xb : Int) + m3 * (Xa : Int)).natAbs = z := ⟨_, rfl⟩
            have HLT : Hid (X5 < Xb + 1 ∧ X6 < X5 ∧ X5 ≤ Xa) := Lib.hid (by omega)
            have HG3 : Hid (Nat.gcd X5 X6 = G) := Lib.hid (by
              rw [← HG2.out, ← hX5, ← hX6]
              exact hgg)
            rw [hX5] at HZ1
            rw [hX6] at HZ2
            clear hAB hpA hpB hgg hX5 hX6 hlt1 h60v HLE
            have c0 := R3.out.cell 0
            have c1 := R3.out.cell 1
            have c2 := R3.out.cell 2
            have c3 := R3.out.cell 3
            have C0 : Hid (_ = some (Value.int .i64 m0)) := Lib.hid c0
            have C1 : Hid (_ = some (Value.int .i64 m1)) := Lib.hid c1
            have C2 : Hid (_ = some (Value.int .i64 m2)) := Lib.hid c2
            have C3 : Hid (_ = some (Value.int .i64 m3)) := Lib.hid c3
            unfold i4 at c0 c1 c2 c3 J1 J2 W3 C0 C1 C2 C3
            clear R3
            go_wp2_with (fail)
            generalize w3.alloc (.cells #[.int .i64 m0, .int .i64 m1, .int .i64 m2, .int .i64 m3] 96) = w4 at c0 c1 c2 c3 J1 J2 W3 C0 C1 C2 C3 ⊢
            go_region_held3 (fun W' : World => Below w4.heap.size w4 W' ∧ W'.cell? ⟨w3.heap.size, 0, none⟩ = some (.int .i64 m0) ∧ W'.cell? ⟨w3.heap.size, 1, none⟩ = some (.int .i64 m1) ∧ W'.cell? ⟨w3.heap.size, 2, none⟩ = some (.int .i64 m2) ∧ W'.cell? ⟨w3.heap.size, 3, none⟩ = some (.int .i64 m3))
              (first | exact hS5 | exact ⟨(Below.refl _ _).drew, C0.out, C1.out, C2.out, C3.out⟩)
              (first
                | (go_at_call 108; (with_reducible refine (combine_any (p := m0) (q := m1) _ Lb.out La.out (J1.out.keep (And.left (by assumption))) (J2.out.keep (And.left (by assumption))) D1.out D2.out hp0 hp1 hnn HC1.out.1 HC1.out.2 (by omega)).mono ?_); rintro e' w' ⟨A5, c5, l5, rfl, hi5, hn5, hb5⟩; have hS5 := (show (Below w4.heap.size w4 w' ∧ w'.cell? ⟨w3.heap.size, 0, none⟩ = some (.int .i64 m0) ∧ w'.cell? ⟨w3.heap.size, 1, none⟩ = some (.int .i64 m1) ∧ w'.cell? ⟨w3.heap.size, 2, none⟩ = some (.int .i64 m2) ∧ w'.cell? ⟨w3.heap.size, 3, none⟩ = some (.int .i64 m3)) from ⟨Gen.over hb5 (And.left (by assumption)), Gen.keep hb5 (And.left (And.right (by assumption))), Gen.keep hb5 (And.left (And.right (And.right (by assumption)))), Gen.keep hb5 (And.left (And.right (And.right (And.right (by assumption))))), Gen.keep hb5 (And.right (And.right (And.right (And.right (by assumption)))))⟩))
                | (go_at_call 108; (with_reducible refine (combine_any (p := m2) (q := m3) _ Lb.out La.out (J1.out.keep (And.left (by assumption))) (J2.out.keep (And.left (by assumption))) D1.out D2.out hp2 hp3 hnn HC2.out.1 HC2.out.2 (by omega)).mono ?_); rintro e' w' ⟨A6, c6, l6, rfl, hi6, hn6, hb6⟩; have hS5 := (show (Below w4.heap.size w4 w' ∧ w'.cell? ⟨w3.heap.size, 0, none⟩ = some (.int .i64 m0) ∧ w'.cell? ⟨w3.heap.size, 1, none⟩ = some (.int .i64 m1) ∧ w'.cell? ⟨w3.heap.size, 2, none⟩ = some (.int .i64 m2) ∧ w'.cell? ⟨w3.heap.size, 3, none⟩ = some (.int .i64 m3)) from ⟨Gen.over hb6 (And.left (by assumption)), Gen.keep hb6 (And.left (And.right (by assumption))), Gen.keep hb6 (And.left (And.right (And.right (by assumption)))), Gen.keep hb6 (And.left (And.right (And.right (And.right (by assumption))))), Gen.keep hb6 (And.right (And.right (And.right (And.right (by assumption)))))⟩))
                | fail "no arm")
            all_goals
              have hI5 : Ints N0 w' A5 l5 := (by first | exact hi5 | exact hi5.keep hb6)
              have hI6 : Ints N0 w' A6 l6 := (by first | exact hi6 | exact hi6.keep hb5)
              have S1 := Lib.hid (show Sl N0 w' (.slice A5 (List.length l5) c5) X5 from ⟨_, _, _, _, rfl, rfl, hI5, (HZ1.out l5 hn5).1, (HZ1.out l5 hn5).2⟩)
              have S2 := Lib.hid (show Sl N0 w' (.slice A6 (List.length l6) c6) X6 from ⟨_, _, _, _, rfl, rfl, hI6, (HZ2.out l6 hn6).1, (HZ2.out l6 hn6).2⟩)
              have W4 := Lib.hid (Gen.over hS5.1 W3.out)
              have V1 := valAt_eq S1.out
              have V2 := valAt_eq S2.out
              have V3 := VA.out
              have V4 := VB.out
              have hlt5 := HLT.out
              go_wp2
              go_roundw
              case rel => exact ⟨X5, X6, S1, S2, HG3, W4⟩
              case measure => rw [V1, V2, V3, V4]; omega
    · obtain ⟨z, hz, hz0⟩ : ∃ z, cmpI (Xa : Int) (Xb : Int) = z ∧ ¬ z < 0 := ⟨_, rfl, by
        by_cases h : Xb < Xa
        · rw [cmpI_gt (by omega)]; omega
        · rw [cmpI_eq (by omega)]; omega⟩
      rw [hz]
      clear hz
      have hle : Xb ≤ Xa := by omega
      have hnn : nb ≤ na := by
        have := len_mono Na.out Nb.out hle
        rw [La.out, Lb.out] at this
        exact this
      have HG2 : Hid (Nat.gcd Xa Xb = G) := Lib.hid (by first | exact HG.out | (rw [Nat.gcd_comm]; exact HG.out))
      by_cases h0 : nb = 0
      · have h0b : ((nb : Int) == 0) = true := by simp [h0]
        have HE : Hid (Xa = G) := Lib.hid (by
          have h := Nb.out.nil.1 (List.eq_nil_of_length_eq_zero (Lb.out.trans h0))
          have h1 := HG2.out
          rw [show Xb = 0 by omega, Nat.gcd_zero_right] at h1
          exact h1)
        clear h0
        go_wp2_with (fail)
        go_must (refine (clone_any _ La.out Ia.out (by omega)).mono ?_)
        rintro e w3 ⟨A3, c3, rfl, hI3, hb3⟩
        have HF := Lib.hid (show GcdP N0 G w (.returned (.slice A3 na c3)) w3 from ⟨A3, c3, la, by rw [La.out], hI3, by rw [← HE.out]; exact Na.out, Gen.over hb3 W1.out⟩)
        clear hI3 hb3
        go_wp2
        go_ret
        exact HF.out
      · have h0b : ((nb : Int) == 0) = false := by simp [h0]
        have h20 : 0 < Xb := by
          have h := Nb.out.nil
          have : ¬ (Xb : Int) = 0 := fun e => h0 (by rw [← Lb.out, h.2 e]; rfl)
          omega
        by_cases hs : Xa < 18446744073709551616
        · go_wp2_with (fail)
          go_must (refine (mag_yes _ La.out Ia.out Na.out.1 Na.out.2.1 (by rw [Na.out.2.2]; omega)).mono ?_)
          rintro e w3 ⟨rfl, rfl⟩
          rw [Na.out.2.2]
          go_wp2_with (fail)
          go_must (refine (mag_yes _ Lb.out Ib.out Nb.out.1 Nb.out.2.1 (by rw [Nb.out.2.2]; omega)).mono ?_)
          rintro e w3 ⟨rfl, rfl⟩
          rw [Nb.out.2.2]
          go_wp2_with (fail)
          go_must (refine (gcdSmall_any _ Xa Xb (by omega) (by omega)).mono ?_)
          rintro e w4 ⟨rfl, hb4⟩
          have hGl : G ≤ 18446744073709551615 := by
            have := Nat.le_of_dvd h20 (Nat.gcd_dvd_right Xa Xb)
            rw [HG2.out] at this
            omega
          have hGp : 0 < G := by rw [← HG2.out]; exact Nat.gcd_pos_of_pos_right _ h20
          rw [HG2.out]
          have HB4 := Lib.hid hb4
          clear hb4
          go_wp2_with (fail)
          go_must (refine (ofMag_any (N0 := N0) (z := (G : Int)) _ (by omega) (by omega) (fun _ => (sg_pos (by omega)).symm)).mono ?_)
          rintro e w5 ⟨v, rfl, hv, hb5⟩
          obtain ⟨A3, c3, l3, rfl, hI3, hN3, _⟩ := hv.ex
          have HF := Lib.hid (show GcdP N0 G w (.returned (.slice A3 (List.length l3) c3)) w5 from ⟨A3, c3, l3, rfl, hI3, hN3.to (by omega), Gen.over hb5 (Gen.over HB4.out W1.out)⟩)
          have hfd := field_dig w5 (sg (G : Int)) A3 (List.length l3) c3
          clear hI3 hb5 hv HB4
          go_wp2
          go_ret
          exact HF.out
        · have h4 : 4 ≤ na := by
            by_cases h : 4 ≤ na
            · exact h
            · have := (Na.out.len 3).1 (by rw [La.out]; omega)
              rw [pw_3] at this
              omega
          go_wp2_with (fail)
          go_must (refine (mag_no _ La.out Ia.out Na.out.1 (by rw [Na.out.2.2]; omega) (by omega)).mono ?_)
          rintro e w3 ⟨rfl, rfl⟩
          go_wp2_with (fail)
          go_must (refine (steps_any _ La.out Lb.out Ia.out Ib.out Na.out.1 Nb.out.1 h4 hnn (by omega)).mono ?_)
          rintro e w3 ⟨m0, m1, m2, m3, P, ra, rb, x, y, d, rfl, hLe, hb3⟩
          rw [Na.out.2.2, Nb.out.2.2] at hLe
          have J1 := Lib.hid (Ia.out.keep (Gen.over (Gen.b_alloc (x := .cells (i4 m0 m1 m2 m3) 96) (Below.refl _ w3)) hb3))
          have J2 := Lib.hid (Ib.out.keep (Gen.over (Gen.b_alloc (x := .cells (i4 m0 m1 m2 m3) 96) (Below.refl _ w3)) hb3))
          have W3 := Lib.hid (Gen.over (Gen.b_alloc (x := .cells (i4 m0 m1 m2 m3) 96) (Below.refl _ w3)) (Gen.over hb3 W1.out))
          have R3 := Lib.hid (Row.new w3 96 (i4 m0 m1 m2 m3))
          have HLE := Lib.hid hLe
          clear hLe hb3 Ia Ib W1
          rcases d with _ | _
          · skip
            go_wp2_with (fail)
            go_must (refine (div_any _ La.out Lb.out J1.out J2.out Na.out.1 Nb.out.1 Na.out.2.1 Nb.out.2.1 (by omega) (by omega) (by rw [Nb.out.2.2]; omega)).mono ?_)
            rintro e w4 ⟨A3, c3, lq, A4, c4, lr, rfl, hi3, hi4, hn3, hn4, hb4⟩
            rw [Na.out.2.2, Nb.out.2.2] at hn4
            have hmod := Nat.mod_lt Xa h20
            have hN4 : Nm lr ((Xa % Xb : Nat) : Int) := hn4.to rfl
            have S1 := Lib.hid (show Sl N0 w4 (.slice Ab nb cb) Xb from ⟨_, _, _, _, rfl, Lb.out, J2.out.keep hb4, Nb.out, by omega⟩)
            have S2 := Lib.hid (show Sl N0 w4 (.slice A4 (List.length lr) c4) (Xa % Xb) from ⟨_, _, _, _, rfl, rfl, hi4, hN4, by
              have := len_mono Nb.out hN4 (by omega)
              rw [Lb.out] at this
              omega⟩)
            have W4 := Lib.hid (Gen.over hb4 W3.out)
            have HG3 : Hid (Nat.gcd Xb (Xa % Xb) = G) := Lib.hid (by rw [← HG2.out, Nat.gcd_comm Xa Xb, Nat.gcd_rec Xb Xa, Nat.gcd_comm])
            have V1 := valAt_eq S1.out
            have V2 := valAt_eq S2.out
            have V3 := VA.out
            have V4 := VB.out
            clear hi3 hi4 hn3 hn4 hb4 hN4
            go_wp2
            go_roundw
            case rel => exact ⟨Xb, Xa % Xb, S1, S2, HG3, W4⟩
            case measure => rw [V1, V2, V3, V4]; omega
          · skip
            have hAB := HLE.out.dn rfl
            have hpA := HLE.out.posA
            have hpB := HLE.out.posB
            have hgg := HLE.out.g
            have hp0 := HLE.out.b0
            have hp1 := HLE.out.b1
            have hp2 := HLE.out.b2
            have hp3 := HLE.out.b3
            have hlt1 := val_lt Na.out.1
            rw [La.out, Na.out.2.2] at hlt1
            have h60v := (Na.out.len 60).1 (by rw [La.out]; omega)
            have D1 := Lib.hid Na.out.1
            have D2 := Lib.hid Nb.out.1
            have HC1 : Hid (0 ≤ m0 * val la + m1 * val lb ∧ m0 * val la + m1 * val lb < pw na) := Lib.hid (by rw [Na.out.2.2, Nb.out.2.2]; omega)
            have HC2 : Hid (0 ≤ m2 * val la + m3 * val lb ∧ m2 * val la + m3 * val lb < pw na) := Lib.hid (by rw [Na.out.2.2, Nb.out.2.2]; omega)
            have HZ1 : Hid (∀ l, Nm l (m0 * val la + m1 * val lb) → Nm l ((m0 * (Xa : Int) + m1 * (Xb : Int)).natAbs : Int) ∧ l.length ≤ 60) := Lib.hid fun l h => by
              have h' : Nm l ((m0 * (Xa : Int) + m1 * (Xb : Int)).natAbs : Int) := h.to (by rw [Na.out.2.2, Nb.out.2.2]; omega)
              exact ⟨h', (h'.len 60).2 (by omega)⟩
            have HZ2 : Hid (∀ l, Nm l (m2 * val la + m3 * val lb) → Nm l ((m2 * (Xa : Int) + m3 * (Xb : Int)).natAbs : Int) ∧ l.length ≤ 60) := Lib.hid fun l h => by
              have h' : Nm l ((m2 * (Xa : Int) + m3 * (Xb : Int)).natAbs : Int) := h.to (by rw [Na.out.2.2, Nb.out.2.2]; omega)
              exact ⟨h', (h'.len 60).2 (by omega)⟩
            obtain ⟨X5, hX5⟩ : ∃ z, (m0 * (Xa : Int) + m1 * (Xb : Int)).natAbs = z := ⟨_, rfl⟩
            obtain ⟨X6, hX6⟩ : ∃ z, (m2 * (Xa : Int) + m3 * (Xb : Int)).natAbs = z := ⟨_, rfl⟩
            have HLT : Hid (X5 < Xa + 1 ∧ X6 < X5 ∧ X5 ≤ Xb) := Lib.hid (by omega)
            have HG3 : Hid (Nat.gcd X5 X6 = G) := Lib.hid (by
              rw [← HG2.out, ← hX5, ← hX6]
              exact hgg)
            rw [hX5] at HZ1
            rw [hX6] at HZ2
            clear hAB hpA hpB hgg hX5 hX6 hlt1 h60v HLE
            have c0 := R3.out.cell 0
            have c1 := R3.out.cell 1
            have c2 := R3.out.cell 2
            have c3 := R3.out.cell 3
            have C0 : Hid (_ = some (Value.int .i64 m0)) := Lib.hid c0
            have C1 : Hid (_ = some (Value.int .i64 m1)) := Lib.hid c1
            have C2 : Hid (_ = some (Value.int .i64 m2)) := Lib.hid c2
            have C3 : Hid (_ = some (Value.int .i64 m3)) := Lib.hid c3
            unfold i4 at c0 c1 c2 c3 J1 J2 W3 C0 C1 C2 C3
            clear R3
            go_wp2_with (fail)
            generalize w3.alloc (.cells #[.int .i64 m0, .int .i64 m1, .int .i64 m2, .int .i64 m3] 96) = w4 at c0 c1 c2 c3 J1 J2 W3 C0 C1 C2 C3 ⊢
            go_region_held3 (fun W' : World => Below w4.heap.size w4 W' ∧ W'.cell? ⟨w3.heap.size, 0, none⟩ = some (.int .i64 m0) ∧ W'.cell? ⟨w3.heap.size, 1, none⟩ = some (.int .i64 m1) ∧ W'.cell? ⟨w3.heap.size, 2, none⟩ = some (.int .i64 m2) ∧ W'.cell? ⟨w3.heap.size, 3, none⟩ = some (.int .i64 m3))
              (first | exact hS5 | exact ⟨(Below.refl _ _).drew, C0.out, C1.out, C2.out, C3.out⟩)
              (first
                | (go_at_call 108; (with_reducible refine (combine_any (p := m0) (q := m1) _ La.out Lb.out (J1.out.keep (And.left (by assumption))) (J2.out.keep (And.left (by assumption))) D1.out D2.out hp0 hp1 hnn HC1.out.1 HC1.out.2 (by omega)).mono ?_); rintro e' w' ⟨A5, c5, l5, rfl, hi5, hn5, hb5⟩; have hS5 := (show (Below w4.heap.size w4 w' ∧ w'.cell? ⟨w3.heap.size, 0, none⟩ = some (.int .i64 m0) ∧ w'.cell? ⟨w3.heap.size, 1, none⟩ = some (.int .i64 m1) ∧ w'.cell? ⟨w3.heap.size, 2, none⟩ = some (.int .i64 m2) ∧ w'.cell? ⟨w3.heap.size, 3, none⟩ = some (.int .i64 m3)) from ⟨Gen.over hb5 (And.left (by assumption)), Gen.keep hb5 (And.left (And.right (by assumption))), Gen.keep hb5 (And.left (And.right (And.right (by assumption)))), Gen.keep hb5 (And.left (And.right (And.right (And.right (by assumption))))), Gen.keep hb5 (And.right (And.right (And.right (And.right (by assumption)))))⟩))
                | (go_at_call 108; (with_reducible refine (combine_any (p := m2) (q := m3) _ La.out Lb.out (J1.out.keep (And.left (by assumption))) (J2.out.keep (And.left (by assumption))) D1.out D2.out hp2 hp3 hnn HC2.out.1 HC2.out.2 (by omega)).mono ?_); rintro e' w' ⟨A6, c6, l6, rfl, hi6, hn6, hb6⟩; have hS5 := (show (Below w4.heap.size w4 w' ∧ w'.cell? ⟨w3.heap.size, 0, none⟩ = some (.int .i64 m0) ∧ w'.cell? ⟨w3.heap.size, 1, none⟩ = some (.int .i64 m1) ∧ w'.cell? ⟨w3.heap.size, 2, none⟩ = some (.int .i64 m2) ∧ w'.cell? ⟨w3.heap.size, 3, none⟩ = some (.int .i64 m3)) from ⟨Gen.over hb6 (And.left (by assumption)), Gen.keep hb6 (And.left (And.right (by assumption))), Gen.keep hb6 (And.left (And.right (And.right (by assumption)))), Gen.keep hb6 (And.left (And.right (And.right (And.right (by assumption))))), Gen.keep hb6 (And.right (And.right (And.right (And.right (by assumption)))))⟩))
                | fail "no arm")
            all_goals
              have hI5 : Ints N0 w' A5 l5 := (by first | exact hi5 | exact hi5.keep hb6)
              have hI6 : Ints N0 w' A6 l6 := (by first | exact hi6 | exact hi6.keep hb5)
              have S1 := Lib.hid (show Sl N0 w' (.slice A5 (List.length l5) c5) X5 from ⟨_, _, _, _, rfl, rfl, hI5, (HZ1.out l5 hn5).1, (HZ1.out l5 hn5).2⟩)
              have S2 := Lib.hid (show Sl N0 w' (.slice A6 (List.length l6) c6) X6 from ⟨_, _, _, _, rfl, rfl, hI6, (HZ2.out l6 hn6).1, (HZ2.out l6 hn6).2⟩)
              have W4 := Lib.hid (Gen.over hS5.1 W3.out)
              have V1 := valAt_eq S1.out
              have V2 := valAt_eq S2.out
              have V3 := VA.out
              have V4 := VB.out
              have hlt5 := HLT.out
              go_wp2
              go_roundw
              case rel => exact ⟨X5, X6, S1, S2, HG3, W4⟩
              case measure => rw [V1, V2, V3, V4]; omega
end Go.Proofs.YtnifkianjpjahaaGreatDoor.Bg
/- Big integers: Gcd by value. -/
namespace Go.Proofs.YtnifkianjpjahaaGreatDoor.Bg
open Go.ChangeShapes Go.WideShapes Go.ChangeAt Go.RowKit Go.Proofs.YtnifkianjpjahaaGreatDoor.Cell
set_option linter.unusedVariables false
set_option linter.unusedSimpArgs false
variable {N0 : Nat}

section
variable {x y : Int} {va vb : Value}
set_option maxRecDepth 100000 in
set_option maxHeartbeats 8000000 in
theorem Gcd_val (w : World) (hx : IsBig N0 w va x) (hy : IsBig N0 w vb y) :
    Calls Tryz.prog 24 #[va, vb] w fun e w' => ∃ v, e = .returned (.tuple #[v, .int .i64 0]) ∧ IsBig N0 w' v (Int.gcd x y : Nat) ∧ Below w.heap.size w w' := by
  obtain ⟨A, c, a, rfl, ha, na, h60⟩ := hx.ex
  obtain ⟨A', c', b, rfl, hb, nb, h60'⟩ := hy.ex
  obtain ⟨n, hn⟩ : ∃ n, a.length = n := ⟨_, rfl⟩
  obtain ⟨n', hn'⟩ : ∃ n, b.length = n := ⟨_, rfl⟩
  rw [hn] at hx h60 ⊢
  rw [hn'] at hy h60' ⊢
  have HX := Lib.hid hx
  have HY := Lib.hid hy
  have SA : Hid (∀ W, Below w.heap.size w W → Sl N0 W (.slice A n c) x.natAbs) := Lib.hid fun W h => ⟨_, _, _, _, rfl, hn, ha.keep h, na, h60⟩
  have SB : Hid (∀ W, Below w.heap.size w W → Sl N0 W (.slice A' n' c') y.natAbs) := Lib.hid fun W h => ⟨_, _, _, _, rfl, hn', hb.keep h, nb, h60'⟩
  have HR0 := Lib.hid (box3_res (w := w) (s := sg x) (A := A) (n := n) (c := c) (s' := sg y) (A' := A') (n' := n') (c' := c'))
  have R0 := Lib.hid (Row.alloc (box2_r0 (w := w) (s := sg x) (A := A) (n := n) (c := c) (s' := sg y) (A' := A') (n' := n') (c' := c')) (.cells #[.int .i64 0, .slice none 0 0] 24))
  have R1 := Lib.hid (Row.alloc (box2_r1 (w := w) (s := sg x) (A := A) (n := n) (c := c) (s' := sg y) (A' := A') (n' := n') (c' := c')) (.cells #[.int .i64 0, .slice none 0 0] 24))
  unfold box2 at HR0 R0 R1
  have hG60 : ∀ l : List Int, Nm l ((Int.gcd x y : Nat) : Int) → l.length ≤ 60 := fun l h => by
    have hx60 := (na.len 60).1 (by omega)
    have hy60 := (nb.len 60).1 (by omega)
    refine (h.len 60).2 ?_
    by_cases h0 : 0 < x.natAbs
    · have : Int.gcd x y ≤ x.natAbs := Nat.le_of_dvd h0 (Nat.gcd_dvd_left _ _)
      omega
    · have : Int.gcd x y = y.natAbs := by show Nat.gcd x.natAbs y.natAbs = _; rw [show x.natAbs = 0 by omega, Nat.gcd_zero_left]
      omega
  have HG60 := Lib.hid hG60
  have HS : Hid (((Int.gcd x y : Nat) : Int) ≠ 0 → 1 = sg ((Int.gcd x y : Nat) : Int)) := Lib.hid fun h => (sg_pos (by omega)).symm
  obtain ⟨G, hG⟩ : ∃ G, Int.gcd x y = G := ⟨_, rfl⟩
  have HG : Hid (Nat.gcd x.natAbs y.natAbs = G) := Lib.hid hG
  rw [hG] at HG60 HS ⊢
  clear hx hy ha hb na nb hn hn' hG60 hG
  go_enter Tryz.func24, Tryz.ntmps24
  go_wp2_with (fail)
  go_must (refine (right_val (HX.out.keep HR0.out.bl)).mono ?_)
  rintro e w2 ⟨rfl, hb2⟩
  have HR2 := Lib.hid (HR0.out.keep hb2)
  have r0 := R0.out.keep hb2
  have r1 := R1.out.keep hb2
  have c0 := r0.cell 0
  have c1 := r0.cell 1
  have c2 := r1.cell 0
  have c3 := r1.cell 1
  clear hb2 HR0 R0 R1
  go_wp2_with (fail)
  go_must (refine (right_val (HY.out.keep HR2.out.bl)).mono ?_)
  rintro e w3 ⟨rfl, hb3⟩
  have HR3 := Lib.hid (HR2.out.keep hb3)
  replace r0 := r0.keep hb3
  replace r1 := r1.keep hb3
  clear hb3 HR2 c0 c1 c2 c3
  have c0 := r0.cell 0
  have c1 := r0.cell 1
  have c2 := r1.cell 0
  have c3 := r1.cell 1
  clear r0 r1
  go_wp2_with (fail)
  go_must (refine (gcd_any _ (SA.out _ HR3.out.bl) (SB.out _ HR3.out.bl)).mono ?_)
  rintro e w4 ⟨A3, c3', l3, rfl, hi3, hn3, hb4⟩
  rw [HG.out] at hn3
  have HR4 := Lib.hid (HR3.out.keep hb4)
  clear hb4 HR3 c0 c1 c2 c3
  go_wp2_with (fail)
  go_must (refine (signed_any (z := (G : Int)) _ rfl hi3 (hn3.to (by omega)) (HG60.out _ hn3) HS.out).mono ?_)
  rintro e w5 ⟨v, rfl, hv, hb5⟩
  obtain ⟨A7, c7, l7, rfl, _⟩ := hv.ex
  have HR5 := Lib.hid (HR4.out.keep hb5)
  have HV := Lib.hid hv
  have d0 := HR5.out.c0
  have d1 := HR5.out.c1
  have f0 := HR5.out.row.frozen 0
  have f1 := HR5.out.row.frozen 1
  have hg := HR5.out.row.lt
  clear hb5 HR4 hi3 hn3 hv
  go_wp2
  refine bodyPost_ret (v := .tuple #[bigV (sg (G : Int)) A7 l7.length c7, .int .i64 0]) ?_ rfl ⟨_, rfl, HR5.out.big HV.out _ _, HR5.out.put _ _⟩
  simp [results, Tryz.results24, go_sem, *]
end
end Go.Proofs.YtnifkianjpjahaaGreatDoor.Bg
/- Big integers: Div by value, in one. -/
namespace Go.Proofs.YtnifkianjpjahaaGreatDoor.Bg
open Go.ChangeShapes Go.WideShapes Go.ChangeAt Go.RowKit Go.Proofs.YtnifkianjpjahaaGreatDoor.Cell
set_option linter.unusedVariables false
variable {N0 : Nat}

theorem Div_val {x y : Int} {va vb : Value} (w : World) (hx : IsBig N0 w va x) (hy : IsBig N0 w vb y) (h0 : y ≠ 0) :
    Calls Tryz.prog 18 #[va, vb] w fun e w' => ∃ v1 v2, e = .returned (.tuple #[v1, v2, .int .i64 0]) ∧ IsBig N0 w' v1 (dq x y) ∧ IsBig N0 w' v2 (dr x y) ∧ Below w.heap.size w w' := by
  by_cases h : sg x * sg y < 0 ∧ (x.natAbs : Int) % y.natAbs ≠ 0
  · exact Div_neg w hx hy h0 h
  · exact Div_pos w hx hy h0 h
end Go.Proofs.YtnifkianjpjahaaGreatDoor.Bg
/- Big integers: texts that are refused. -/
namespace Go.Proofs.YtnifkianjpjahaaGreatDoor.Bg
open Go.ChangeShapes Go.WideShapes Go.ChangeAt Go.RowKit Go.Proofs.YtnifkianjpjahaaGreatDoor.Cell
set_option linter.unusedVariables false
set_option linter.unusedSimpArgs false
variable {N0 : Nat}

theorem ret_tup {a b : ByteArray} {c : Bool} (h : a = b) : Ending.returned (.tuple #[.string a, .bool c]) = .returned (.tuple #[.string b, .bool c]) := by rw [h]
set_option maxRecDepth 100000 in
theorem hp_d (w : World) : Calls Tryz.prog 123 #[.string ⟨#[48, 48, 55]⟩, .string ⟨#[45]⟩] w fun e w' => e = .returned (.bool false) ∧ w' = w := by
  go_enter Tryz.func123, Tryz.ntmps123
  go_wp2
  go_ret
  exact ⟨congrArg (fun b => Ending.returned (Value.bool b)) (show ((({ data := #[48, 48, 55] } : ByteArray).extract 0 1).toList == [45]) = false from by kernel_rfl), rfl⟩
set_option maxRecDepth 100000 in
theorem lc_d (w : World) : Calls Tryz.prog 105 #[.string ⟨#[48, 48, 55]⟩, .string ⟨#[45]⟩] w fun e w' => e = .returned (.tuple #[.string ⟨#[48, 48, 55]⟩, .bool false]) ∧ w' = w := by
  go_enter Tryz.func105, Tryz.ntmps105
  go_wp2_with (fail)
  go_must (refine (hp_d _).mono ?_)
  rintro e w2 ⟨rfl, rfl⟩
  go_wp2
  go_ret2
  exact ⟨ret_tup (by kernel_rfl), rfl⟩
set_option maxRecDepth 100000 in
theorem cp_d (w : World) : Calls Tryz.prog 81 #[.string ⟨#[48, 48, 55]⟩, .string ⟨#[45]⟩] w fun e w' => e = .returned (.tuple #[.string ⟨#[48, 48, 55]⟩, .bool false]) ∧ w' = w := by
  go_enter Tryz.func81, Tryz.ntmps81
  go_wp2_with (fail)
  go_must (refine (lc_d _).mono ?_)
  rintro e w2 ⟨rfl, rfl⟩
  go_wp2
  go_ret2
  exact ⟨ret_tup (by kernel_rfl), rfl⟩
set_option maxRecDepth 100000 in
theorem dm_d (w : World) : Calls Tryz.prog 82 #[.string ⟨#[48, 48, 55]⟩] w fun e w' => e = .returned (.bool false) ∧ w' = w := by
  go_enter Tryz.func82, Tryz.ntmps82
  go_wp2
  go_ret
  exact ⟨rfl, rfl⟩
set_option maxRecDepth 100000 in
theorem read_d (w : World) : Calls Tryz.prog 22 #[.string ⟨#[48, 48, 55]⟩] w fun e w' => e = .returned (.tuple #[zeroV, .int .i64 2]) ∧ Below w.heap.size w w' := by
  have HR0 := Lib.hid (Res.new (Below.refl w.heap.size w))
  go_enter Tryz.func22, Tryz.ntmps22
  go_wp2_with (fail)
  go_must (refine (cp_d _).mono ?_)
  rintro e w2 ⟨rfl, rfl⟩
  go_wp2_with (fail)
  go_must (refine (dm_d _).mono ?_)
  rintro e w2 ⟨rfl, rfl⟩
  have d0 := HR0.out.c0
  have d1 := HR0.out.c1
  have f0 := HR0.out.row.frozen 0
  have f1 := HR0.out.row.frozen 1
  have hg := HR0.out.row.lt
  go_wp2
  refine bodyPost_ret (v := .tuple #[zeroV, .int .i64 2]) ?_ rfl ⟨rfl, HR0.out.bl⟩
  simp [results, Tryz.results22, go_sem, *]
set_option maxRecDepth 100000 in
theorem hp_m (w : World) : Calls Tryz.prog 123 #[.string ⟨#[45, 48]⟩, .string ⟨#[45]⟩] w fun e w' => e = .returned (.bool true) ∧ w' = w := by
  go_enter Tryz.func123, Tryz.ntmps123
  go_wp2
  go_ret
  exact ⟨congrArg (fun b => Ending.returned (Value.bool b)) (show ((({ data := #[45, 48] } : ByteArray).extract 0 1).toList == [45]) = true from by kernel_rfl), rfl⟩
set_option maxRecDepth 100000 in
theorem lc_m (w : World) : Calls Tryz.prog 105 #[.string ⟨#[45, 48]⟩, .string ⟨#[45]⟩] w fun e w' => e = .returned (.tuple #[.string ⟨#[48]⟩, .bool true]) ∧ w' = w := by
  go_enter Tryz.func105, Tryz.ntmps105
  go_wp2_with (fail)
  go_must (refine (hp_m _).mono ?_)
  rintro e w2 ⟨rfl, rfl⟩
  go_wp2
  go_ret2
  exact ⟨ret_tup (by kernel_rfl), rfl⟩
set_option maxRecDepth 100000 in
theorem cp_m (w : World) : Calls Tryz.prog 81 #[.string ⟨#[45, 48]⟩, .string ⟨#[45]⟩] w fun e w' => e = .returned (.tuple #[.string ⟨#[48]⟩, .bool true]) ∧ w' = w := by
  go_enter Tryz.func81, Tryz.ntmps81
  go_wp2_with (fail)
  go_must (refine (lc_m _).mono ?_)
  rintro e w2 ⟨rfl, rfl⟩
  go_wp2
  go_ret2
  exact ⟨ret_tup (by kernel_rfl), rfl⟩
set_option maxRecDepth 100000 in
theorem dm_m (w : World) : Calls Tryz.prog 82 #[.string ⟨#[48]⟩] w fun e w' => e = .returned (.bool true) ∧ w' = w := by
  go_enter Tryz.func82, Tryz.ntmps82
  go_wp2
  go_loopw [18] (fun iv wr => ∃ k : Nat, k ≤ 1 ∧ iv = .int .i64 k ∧ wr = w) (fun iv _ => 1 - (intOf iv).toNat)
  case atStart => exact ⟨0, by omega, rfl, rfl⟩
  case round =>
    obtain ⟨k, hk, rfl, rfl⟩ := hrel
    by_cases h : k = 0
    · subst h
      go_wp2
      go_roundw
      case rel => exact ⟨1, by omega, rfl, trivial⟩
      case measure => simp [intOf]
    · obtain rfl : k = 1 := by omega
      go_wp2
      go_ret
      exact ⟨rfl, rfl⟩
set_option maxRecDepth 100000 in
theorem read_m (w : World) : Calls Tryz.prog 22 #[.string ⟨#[45, 48]⟩] w fun e w' => e = .returned (.tuple #[zeroV, .int .i64 2]) ∧ Below w.heap.size w w' := by
  have HR0 := Lib.hid (Res.new (Below.refl w.heap.size w))
  go_enter Tryz.func22, Tryz.ntmps22
  go_wp2_with (fail)
  go_must (refine (cp_m _).mono ?_)
  rintro e w2 ⟨rfl, rfl⟩
  go_wp2_with (fail)
  go_must (refine (dm_m _).mono ?_)
  rintro e w2 ⟨rfl, rfl⟩
  have d0 := HR0.out.c0
  have d1 := HR0.out.c1
  have f0 := HR0.out.row.frozen 0
  have f1 := HR0.out.row.frozen 1
  have hg := HR0.out.row.lt
  go_wp2
  refine bodyPost_ret (v := .tuple #[zeroV, .int .i64 2]) ?_ rfl ⟨rfl, HR0.out.bl⟩
  simp [results, Tryz.results22, go_sem, *]
set_option maxRecDepth 100000 in
theorem hp_e (w : World) : Calls Tryz.prog 123 #[.string ⟨#[]⟩, .string ⟨#[45]⟩] w fun e w' => e = .returned (.bool false) ∧ w' = w := by
  go_enter Tryz.func123, Tryz.ntmps123
  go_wp2
  go_ret
  exact ⟨rfl, rfl⟩
set_option maxRecDepth 100000 in
theorem lc_e (w : World) : Calls Tryz.prog 105 #[.string ⟨#[]⟩, .string ⟨#[45]⟩] w fun e w' => e = .returned (.tuple #[.string ⟨#[]⟩, .bool false]) ∧ w' = w := by
  go_enter Tryz.func105, Tryz.ntmps105
  go_wp2_with (fail)
  go_must (refine (hp_e _).mono ?_)
  rintro e w2 ⟨rfl, rfl⟩
  go_wp2
  go_ret2
  exact ⟨ret_tup (by kernel_rfl), rfl⟩
set_option maxRecDepth 100000 in
theorem cp_e (w : World) : Calls Tryz.prog 81 #[.string ⟨#[]⟩, .string ⟨#[45]⟩] w fun e w' => e = .returned (.tuple #[.string ⟨#[]⟩, .bool false]) ∧ w' = w := by
  go_enter Tryz.func81, Tryz.ntmps81
  go_wp2_with (fail)
  go_must (refine (lc_e _).mono ?_)
  rintro e w2 ⟨rfl, rfl⟩
  go_wp2
  go_ret2
  exact ⟨ret_tup (by kernel_rfl), rfl⟩
set_option maxRecDepth 100000 in
theorem dm_e (w : World) : Calls Tryz.prog 82 #[.string ⟨#[]⟩] w fun e w' => e = .returned (.bool false) ∧ w' = w := by
  go_enter Tryz.func82, Tryz.ntmps82
  go_wp2
  go_ret
  exact ⟨rfl, rfl⟩
set_option maxRecDepth 100000 in
theorem read_e (w : World) : Calls Tryz.prog 22 #[.string ⟨#[]⟩] w fun e w' => e = .returned (.tuple #[zeroV, .int .i64 2]) ∧ Below w.heap.size w w' := by
  have HR0 := Lib.hid (Res.new (Below.refl w.heap.size w))
  go_enter Tryz.func22, Tryz.ntmps22
  go_wp2_with (fail)
  go_must (refine (cp_e _).mono ?_)
  rintro e w2 ⟨rfl, rfl⟩
  go_wp2_with (fail)
  go_must (refine (dm_e _).mono ?_)
  rintro e w2 ⟨rfl, rfl⟩
  have d0 := HR0.out.c0
  have d1 := HR0.out.c1
  have f0 := HR0.out.row.frozen 0
  have f1 := HR0.out.row.frozen 1
  have hg := HR0.out.row.lt
  go_wp2
  refine bodyPost_ret (v := .tuple #[zeroV, .int .i64 2]) ?_ rfl ⟨rfl, HR0.out.bl⟩
  simp [results, Tryz.results22, go_sem, *]
end Go.Proofs.YtnifkianjpjahaaGreatDoor.Bg
/- Big integers: pair. -/
namespace Go.Proofs.YtnifkianjpjahaaGreatDoor.Bg
open Go.ChangeShapes Go.WideShapes Go.ChangeAt Go.RowKit Go.Proofs.YtnifkianjpjahaaGreatDoor.Cell
set_option linter.unusedVariables false
set_option linter.unusedSimpArgs false
variable {N0 : Nat}

section
variable {x : Int} {va vb : Value}
theorem same_yes (w : World) (hx : IsBig N0 w va x) (hy : IsBig N0 w vb x) : Calls Tryz.prog 30 #[va, vb] w fun e w' => e = .returned (.bool true) ∧ Below w.heap.size w w' :=
  (same_val w hx hy).mono fun e w' ⟨h1, h2⟩ => ⟨by rw [h1, decide_eq_true rfl], h2⟩
set_option maxRecDepth 100000 in
set_option maxHeartbeats 8000000 in
theorem pair_yes {q r : Int} (w : World) (hx : IsBig N0 w va q) (hy : IsBig N0 w vb r) (hq : I64 q) (hr : I64 r) :
    Calls Tryz.prog 65 #[va, vb, .int .i64 0, .int .i64 q, .int .i64 r] w fun e w' => e = .returned (.bool true) ∧ Below w.heap.size w w' := by
  obtain ⟨A, c, a, rfl, ha, na, h60⟩ := hx.ex
  obtain ⟨A', c', b, rfl, hb, nb, h60'⟩ := hy.ex
  obtain ⟨n, hn⟩ : ∃ n, a.length = n := ⟨_, rfl⟩
  obtain ⟨n', hn'⟩ : ∃ n, b.length = n := ⟨_, rfl⟩
  rw [hn] at hx ⊢
  rw [hn'] at hy ⊢
  have HX := Lib.hid hx
  have HY := Lib.hid hy
  have hb2 : Below w.heap.size w (box2 w (sg q) A n c (sg r) A' n' c') := box2_bl
  have r0 := (box2_r0 (w := w) (s := sg q) (A := A) (n := n) (c := c) (s' := sg r) (A' := A') (n' := n') (c' := c'))
  have r1 := (box2_r1 (w := w) (s := sg q) (A := A) (n := n) (c := c) (s' := sg r) (A' := A') (n' := n') (c' := c'))
  have HS0 := Lib.hid (show (Below w.heap.size w (box2 w (sg q) A n c (sg r) A' n' c') ∧ (box2 w (sg q) A n c (sg r) A' n' c').cell? ⟨w.heap.size, 0, none⟩ = some (.int .i64 (sg q)) ∧ (box2 w (sg q) A n c (sg r) A' n' c').cell? ⟨w.heap.size, 1, none⟩ = some (.slice A n c) ∧ (box2 w (sg q) A n c (sg r) A' n' c').cell? ⟨w.heap.size + 1, 0, none⟩ = some (.int .i64 (sg r)) ∧ (box2 w (sg q) A n c (sg r) A' n' c').cell? ⟨w.heap.size + 1, 1, none⟩ = some (.slice A' n' c')) from ⟨hb2, r0.cell 0, r0.cell 1, r1.cell 0, r1.cell 1⟩)
  unfold box2 at HS0
  clear hx hy ha hb na nb h60 h60' hn hn' hb2 r0 r1
  go_enter Tryz.func65, Tryz.ntmps65
  go_wp2_with (fail)
  have c0 := HS0.out.2.1
  have c1 := HS0.out.2.2.1
  have c2 := HS0.out.2.2.2.1
  have c3 := HS0.out.2.2.2.2
  go_region_held3 (fun W' : World => Below w.heap.size w W' ∧ W'.cell? ⟨w.heap.size, 0, none⟩ = some (.int .i64 (sg q)) ∧ W'.cell? ⟨w.heap.size, 1, none⟩ = some (.slice A n c) ∧ W'.cell? ⟨w.heap.size + 1, 0, none⟩ = some (.int .i64 (sg r)) ∧ W'.cell? ⟨w.heap.size + 1, 1, none⟩ = some (.slice A' n' c'))
    (first | exact hS5 | exact ⟨HS0.out.1.drew, HS0.out.2⟩ | fail "keep")
    (first
      | (go_at_call 35; (with_reducible refine (of_val (N0 := N0) q _ hq).mono ?_); rintro e' w' ⟨v1, rfl, hv1, hb1⟩; have hS5 := (show (Below w.heap.size w w' ∧ w'.cell? ⟨w.heap.size, 0, none⟩ = some (.int .i64 (sg q)) ∧ w'.cell? ⟨w.heap.size, 1, none⟩ = some (.slice A n c) ∧ w'.cell? ⟨w.heap.size + 1, 0, none⟩ = some (.int .i64 (sg r)) ∧ w'.cell? ⟨w.heap.size + 1, 1, none⟩ = some (.slice A' n' c')) from ⟨Gen.over hb1 (And.left (by assumption)), Gen.keep hb1 (And.left (And.right (by assumption))), Gen.keep hb1 (And.left (And.right (And.right (by assumption)))), Gen.keep hb1 (And.left (And.right (And.right (And.right (by assumption))))), Gen.keep hb1 (And.right (And.right (And.right (And.right (by assumption)))))⟩))
      | (go_at_call 35; (with_reducible refine (of_val (N0 := N0) r _ hr).mono ?_); rintro e' w' ⟨v2, rfl, hv2, hb3⟩; have hS5 := (show (Below w.heap.size w w' ∧ w'.cell? ⟨w.heap.size, 0, none⟩ = some (.int .i64 (sg q)) ∧ w'.cell? ⟨w.heap.size, 1, none⟩ = some (.slice A n c) ∧ w'.cell? ⟨w.heap.size + 1, 0, none⟩ = some (.int .i64 (sg r)) ∧ w'.cell? ⟨w.heap.size + 1, 1, none⟩ = some (.slice A' n' c')) from ⟨Gen.over hb3 (And.left (by assumption)), Gen.keep hb3 (And.left (And.right (by assumption))), Gen.keep hb3 (And.left (And.right (And.right (by assumption)))), Gen.keep hb3 (And.left (And.right (And.right (And.right (by assumption))))), Gen.keep hb3 (And.right (And.right (And.right (And.right (by assumption)))))⟩))
      | (go_at_call 30; (with_reducible refine (same_yes _ (HX.out.keep (And.left (by assumption))) hv1).mono ?_); rintro e' w' ⟨rfl, hb2⟩; have hS5 := (show (Below w.heap.size w w' ∧ w'.cell? ⟨w.heap.size, 0, none⟩ = some (.int .i64 (sg q)) ∧ w'.cell? ⟨w.heap.size, 1, none⟩ = some (.slice A n c) ∧ w'.cell? ⟨w.heap.size + 1, 0, none⟩ = some (.int .i64 (sg r)) ∧ w'.cell? ⟨w.heap.size + 1, 1, none⟩ = some (.slice A' n' c')) from ⟨Gen.over hb2 (And.left (by assumption)), Gen.keep hb2 (And.left (And.right (by assumption))), Gen.keep hb2 (And.left (And.right (And.right (by assumption)))), Gen.keep hb2 (And.left (And.right (And.right (And.right (by assumption))))), Gen.keep hb2 (And.right (And.right (And.right (And.right (by assumption)))))⟩))
      | (go_at_call 30; (with_reducible refine (same_yes _ (HY.out.keep (And.left (by assumption))) hv2).mono ?_); rintro e' w' ⟨rfl, hb4⟩; have hS5 := (show (Below w.heap.size w w' ∧ w'.cell? ⟨w.heap.size, 0, none⟩ = some (.int .i64 (sg q)) ∧ w'.cell? ⟨w.heap.size, 1, none⟩ = some (.slice A n c) ∧ w'.cell? ⟨w.heap.size + 1, 0, none⟩ = some (.int .i64 (sg r)) ∧ w'.cell? ⟨w.heap.size + 1, 1, none⟩ = some (.slice A' n' c')) from ⟨Gen.over hb4 (And.left (by assumption)), Gen.keep hb4 (And.left (And.right (by assumption))), Gen.keep hb4 (And.left (And.right (And.right (by assumption)))), Gen.keep hb4 (And.left (And.right (And.right (And.right (by assumption))))), Gen.keep hb4 (And.right (And.right (And.right (And.right (by assumption)))))⟩))
      | fail "arm")
  all_goals
    have HF := Lib.hid hS5.1
    go_wp2
    go_ret
    exact ⟨rfl, HF.out⟩
end
end Go.Proofs.YtnifkianjpjahaaGreatDoor.Bg
