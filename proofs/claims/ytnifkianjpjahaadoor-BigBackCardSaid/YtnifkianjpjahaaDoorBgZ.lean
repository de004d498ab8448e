/- Big integers: Div by value. -/
import Derived.Test.YtnifkianjpjahaaDoorBgY
namespace Go.Proofs.YtnifkianjpjahaaDoor.Bg
open Go.ChangeShapes Go.WideShapes Go.ChangeAt Go.RowKit Go.Proofs.YtnifkianjpjahaaDoor.Cell
set_option linter.unusedVariables false
set_option linter.unusedSimpArgs false

/-- two results' cells -/
structure Res2 (w W : World) (g h : Nat) : Prop where
  r : Res w W g
  q : Res w W h
  ne : h ≠ g
theorem Res2.keep {w W W' : World} {g h : Nat} (x : Res2 w W g h) (hb : Below W.heap.size W W') : Res2 w W' g h := ⟨x.r.keep hb, x.q.keep hb, x.ne⟩
theorem Res.other {w W : World} {g h : Nat} (x : Res w W h) (ne : h ≠ g) (hg : w.heap.size ≤ g) (u v : Value) : Res w ((W.setCell ⟨g, 0, none⟩ u).setCell ⟨g, 1, none⟩ v) h := by
  have h1 := ((Only.refl g W).set 0 u).set 1 v
  exact ⟨h1.row h _ _ ne x.row, h1.bl w x.bl hg, x.lo⟩
theorem Res2.put {w W : World} {g h : Nat} (x : Res2 w W g h) (u v : Value) : Below w.heap.size w ((W.setCell ⟨g, 0, none⟩ u).setCell ⟨g, 1, none⟩ v) := x.r.put u v
theorem Res2.put2 {w W : World} {g h : Nat} (x : Res2 w W g h) (u v u' v' : Value) : Below w.heap.size w ((((W.setCell ⟨g, 0, none⟩ u).setCell ⟨g, 1, none⟩ v).setCell ⟨h, 0, none⟩ u').setCell ⟨h, 1, none⟩ v') := (x.q.other x.ne x.r.lo u v).put u' v'
theorem Res2.big {w W : World} {g h : Nat} (x : Res2 w W g h) {y : Value} {z : Int} (hy : IsBig W y z) (u v u' v' : Value) : IsBig ((((W.setCell ⟨g, 0, none⟩ u).setCell ⟨g, 1, none⟩ v).setCell ⟨h, 0, none⟩ u').setCell ⟨h, 1, none⟩ v') y z := (x.q.other x.ne x.r.lo u v).big (x.r.big hy u v) u' v'
theorem Res2.cell {w W : World} {g h : Nat} (x : Res2 w W g h) (u v : Value) {b o : Nat} {y : Value} (hb : b ≠ g) (hc : W.cell? ⟨b, o, none⟩ = some y) : ((W.setCell ⟨g, 0, none⟩ u).setCell ⟨g, 1, none⟩ v).cell? ⟨b, o, none⟩ = some y := put_cell x.r u v hb hc
theorem Res2.cell2 {w W : World} {g h : Nat} (x : Res2 w W g h) (u v u' v' : Value) {b o : Nat} {y : Value} (hb : b ≠ g) (hb' : b ≠ h) (hc : W.cell? ⟨b, o, none⟩ = some y) : ((((W.setCell ⟨g, 0, none⟩ u).setCell ⟨g, 1, none⟩ v).setCell ⟨h, 0, none⟩ u').setCell ⟨h, 1, none⟩ v').cell? ⟨b, o, none⟩ = some y :=
  put_cell (x.q.other x.ne x.r.lo u v) u' v' hb' (x.cell u v hb hc)
abbrev zB : Obj := .cells #[.int .i64 0, .slice none 0 0] 24
theorem box4_res {w : World} {s s' : Int} {A A' : Option Addr} {n n' c c' : Nat} : Res2 w (((box2 w s A n c s' A' n' c').alloc zB).alloc zB) (w.heap.size + 1 + 1) (w.heap.size + 1 + 1 + 1) := by
  have h := box3_res (w := w) (s := s) (A := A) (n := n) (c := c) (s' := s') (A' := A') (n' := n') (c' := c')
  have h2 := Res.new h.bl
  rw [World.size_alloc, World.size_alloc, World.size_alloc] at h2
  exact ⟨h.keep (Gen.b_alloc (Below.refl _ _)), h2, by omega⟩
theorem one_new (W : World) : Ints (W.alloc (.cells #[.int .i64 1] 3)) (some ⟨W.heap.size, 0, none⟩) [1] := (show Row _ _ 3 (ics [1]) from Row.new _ _ _).ints
theorem nm_one : Nm [1] 1 := ⟨fun d hd => by obtain rfl := List.mem_singleton.1 hd; omega, by simp [Tr], rfl⟩
section
variable {x y : Int} {va vb : Value}
set_option maxRecDepth 100000 in
set_option maxHeartbeats 8000000 in
theorem Div_zero (w : World) (hx : IsBig w va x) (hy : IsBig w vb y) (h0 : y = 0) :
    Calls Tryd.prog 19 #[va, vb] w fun e w' => e = .returned (.tuple #[zeroV, zeroV, .int .i64 15]) ∧ Below w.heap.size w w' := by
  obtain ⟨A, c, a, rfl, ha, na, h60⟩ := hx.ex
  obtain ⟨A', c', b, rfl, hb, nb, h60'⟩ := hy.ex
  obtain ⟨n, hn⟩ : ∃ n, a.length = n := ⟨_, rfl⟩
  obtain ⟨n', hn'⟩ : ∃ n, b.length = n := ⟨_, rfl⟩
  rw [hn] at hx h60 ⊢
  rw [hn'] at hy h60' ⊢
  have HX := Lib.hid hx
  have HY := Lib.hid hy
  have HAA := Lib.hid ha
  have HNA := Lib.hid na
  have HN := Lib.hid hn
  have HBB := Lib.hid hb
  have HNB := Lib.hid nb
  have HN' := Lib.hid hn'
  have HR0 := Lib.hid (box4_res (w := w) (s := sg x) (A := A) (n := n) (c := c) (s' := sg y) (A' := A') (n' := n') (c' := c'))
  have R0 := Lib.hid ((box2_r0 (w := w) (s := sg x) (A := A) (n := n) (c := c) (s' := sg y) (A' := A') (n' := n') (c' := c')).alloc zB |>.alloc zB)
  have R1 := Lib.hid ((box2_r1 (w := w) (s := sg x) (A := A) (n := n) (c := c) (s' := sg y) (A' := A') (n' := n') (c' := c')).alloc zB |>.alloc zB)
  unfold box2 zB at HR0 R0 R1
  have hs : sg y = 0 := by rw [h0]; rfl
  rw [hs] at HR0 R0 R1 HY ⊢
  clear hx hy ha hb na nb hn hn' h0 hs
  go_enter Tryd.func19, Tryd.ntmps19
  go_wp2_with (fail)
  go_must (refine (right_val (HX.out.keep HR0.out.r.bl)).mono ?_)
  rintro e w2 ⟨rfl, hb2⟩
  have HR2 := Lib.hid (HR0.out.keep hb2)
  have r0 := R0.out.keep hb2
  have r1 := R1.out.keep hb2
  have c0 := r0.cell 0
  have c1 := r0.cell 1
  have c2 := r1.cell 0
  have c3 := r1.cell 1
  clear hb2 HR0 R0 R1
  go_wp2_with (fail)
  go_must (refine (right_val (HY.out.keep HR2.out.r.bl)).mono ?_)
  rintro e w3 ⟨rfl, hb3⟩
  have HR3 := Lib.hid (HR2.out.keep hb3)
  replace r0 := r0.keep hb3
  replace r1 := r1.keep hb3
  clear hb3 HR2 c0 c1 c2 c3
  have c0 := r0.cell 0
  have c1 := r0.cell 1
  have c2 := r1.cell 0
  have c3 := r1.cell 1
  have d0 := HR3.out.r.c0
  have d1 := HR3.out.r.c1
  have d2 := HR3.out.q.c0
  have d3 := HR3.out.q.c1
  have f0 := HR3.out.r.row.frozen 0
  have f1 := HR3.out.r.row.frozen 1
  have f2 := HR3.out.q.row.frozen 0
  have f3 := HR3.out.q.row.frozen 1
  have hg := HR3.out.q.row.lt
  go_wp2
  refine bodyPost_ret (v := .tuple #[zeroV, zeroV, .int .i64 15]) ?_ rfl ⟨rfl, HR3.out.put2 _ _ _ _⟩
  simp [results, Tryd.results19, go_sem, *]
set_option maxRecDepth 100000 in
set_option maxHeartbeats 8000000 in
theorem Div_neg (w : World) (hx : IsBig w va x) (hy : IsBig w vb y) (h0 : y ≠ 0) (hT : sg x * sg y < 0 ∧ (x.natAbs : Int) % y.natAbs ≠ 0) :
    Calls Tryd.prog 19 #[va, vb] w fun e w' => ∃ v1 v2, e = .returned (.tuple #[v1, v2, .int .i64 0]) ∧ IsBig w' v1 (dq x y) ∧ IsBig w' v2 (dr x y) ∧ Below w.heap.size w w' := by
  obtain ⟨A, c, a, rfl, ha, na, h60⟩ := hx.ex
  obtain ⟨A', c', b, rfl, hb, nb, h60'⟩ := hy.ex
  obtain ⟨n, hn⟩ : ∃ n, a.length = n := ⟨_, rfl⟩
  obtain ⟨n', hn'⟩ : ∃ n, b.length = n := ⟨_, rfl⟩
  rw [hn] at hx h60 ⊢
  rw [hn'] at hy h60' ⊢
  have HX := Lib.hid hx
  have HY := Lib.hid hy
  have HAA := Lib.hid ha
  have HNA := Lib.hid na
  have HN := Lib.hid hn
  have HBB := Lib.hid hb
  have HNB := Lib.hid nb
  have HN' := Lib.hid hn'
  have HR0 := Lib.hid (box4_res (w := w) (s := sg x) (A := A) (n := n) (c := c) (s' := sg y) (A' := A') (n' := n') (c' := c'))
  have R0 := Lib.hid ((box2_r0 (w := w) (s := sg x) (A := A) (n := n) (c := c) (s' := sg y) (A' := A') (n' := n') (c' := c')).alloc zB |>.alloc zB)
  have R1 := Lib.hid ((box2_r1 (w := w) (s := sg x) (A := A) (n := n) (c := c) (s' := sg y) (A' := A') (n' := n') (c' := c')).alloc zB |>.alloc zB)
  unfold box2 zB at HR0 R0 R1
  have hab := (dq_abs (x := x) h0).1 hT
  have hs0 : (sg y == 0) = false := by have := sg_cases y; simp; omega
  have hY : 0 < (y.natAbs : Int) := by omega
  have hww : IntKind.i64.wrap (sg x * sg y) = sg x * sg y := IntWalk.i64_in _ (by rw [← sg_mul]; have := sg_in (x * y); omega)
  have hp01 : sg x * sg y = -1 ∨ sg x * sg y = 0 ∨ sg x * sg y = 1 := by rw [← sg_mul]; have := sg_in (x * y); omega
  have hsy := sg_cases y
  have m0 : 0 ≤ (x.natAbs : Int) % y.natAbs := Int.emod_nonneg _ (by omega)
  have m1 : (x.natAbs : Int) % y.natAbs < y.natAbs := Int.emod_lt_of_pos _ hY
  have q0 : 0 ≤ (x.natAbs : Int) / y.natAbs := Int.ediv_nonneg (by omega) (by omega)
  have q1 : (x.natAbs : Int) / y.natAbs ≤ x.natAbs := Int.ediv_le_self _ (by omega)
  obtain ⟨Q0, hQ0⟩ : ∃ q, (x.natAbs : Int) / y.natAbs = q := ⟨_, rfl⟩
  obtain ⟨M0, hM0⟩ : ∃ q, (x.natAbs : Int) % y.natAbs = q := ⟨_, rfl⟩
  have HQE : Hid (val a / val b = Q0 ∧ val a % val b = M0) := Lib.hid (by rw [na.2.2, nb.2.2]; exact ⟨hQ0, hM0⟩)
  have hx60 := (na.len 60).1 (by omega)
  have hy60 := (nb.len 60).1 (by omega)
  try rw [hQ0] at hab
  rw [hQ0] at q0 q1
  try rw [hM0] at hab
  rw [hM0] at m0 m1 hT
  obtain ⟨Y, hYe⟩ : ∃ Y, (y.natAbs : Int) = Y := ⟨_, rfl⟩
  try rw [hYe] at hab
  rw [hYe] at m1 hY hy60
  have HYe : Hid (val b = Y) := Lib.hid (by rw [nb.2.2]; exact hYe)
  have HZQ : Hid (∀ l, Nm l (Q0 + 1) → Nm l (dq x y).natAbs ∧ l.length ≤ 60) := Lib.hid fun l h => by
    have hf := Nm.to h (show Q0 + 1 = ((dq x y).natAbs : Int) by omega)
    refine ⟨hf, (hf.len 60).2 ?_⟩
    have h1 := Int.mul_ediv_add_emod (x.natAbs : Int) y.natAbs
    rw [hQ0, hM0, hYe] at h1
    have h2 : 1 * Q0 ≤ Y * Q0 := Int.mul_le_mul_of_nonneg_right (by omega) q0
    omega
  have HZR : Hid (∀ l, Nm l (Y - M0) → Nm l (dr x y).natAbs ∧ l.length ≤ 60) := Lib.hid fun l h => by
    have hf := Nm.to h (show Y - M0 = ((dr x y).natAbs : Int) by
      rcases hsy with ⟨_, e⟩ | ⟨_, _⟩ | ⟨_, e⟩
      · rw [e] at hab; omega
      · omega
      · rw [e] at hab; omega)
    refine ⟨hf, (hf.len 60).2 ?_⟩
    rcases hsy with ⟨_, e⟩ | ⟨_, _⟩ | ⟨_, e⟩
    · rw [e] at hab; omega
    · omega
    · rw [e] at hab; omega
  have HSQ : Hid (dq x y ≠ 0 → sg x * sg y = sg (dq x y)) := Lib.hid fun _ => by have := sg_cases (dq x y); omega
  have HSR : Hid (dr x y ≠ 0 → sg y = sg (dr x y)) := Lib.hid fun _ => by
    have := sg_cases (dr x y)
    rcases hsy with ⟨_, e⟩ | ⟨_, _⟩ | ⟨_, e⟩
    · rw [e] at hab; omega
    · omega
    · rw [e] at hab; omega
  have hpn : sg x * sg y < 0 := hT.1
  have HM1 : Hid (M0 ≠ 0) := Lib.hid hT.2
  have HMY : Hid (M0 ≤ Y) := Lib.hid (by omega)
  obtain ⟨s, hsx⟩ : ∃ s, sg x = s := ⟨_, rfl⟩
  obtain ⟨s', hsy'⟩ : ∃ s, sg y = s := ⟨_, rfl⟩
  rw [hsx] at HR0 R0 R1 HX HSQ hww hpn
  rw [hsy'] at HR0 R0 R1 HY HSQ HSR hww hs0 hpn
  rw [hsx, hsy']
  obtain ⟨p, hp⟩ : ∃ p, s * s' = p := ⟨_, rfl⟩
  rw [hp] at HSQ hww hpn
  have HP := Lib.hid hp
  have HVB : Hid (0 < val b) := Lib.hid (by rw [HYe.out]; exact hY)
  have HSZ : Hid (Q0 < pw 60 ∧ Y < pw 60) := Lib.hid ⟨by omega, by omega⟩
  have HQ00 := Lib.hid q0
  clear hx hy ha hb na nb hn hn' hab hp01 hsy m0 m1 q0 q1 hQ0 hM0 hYe hx60 hy60 hT hsx hsy' h0 hY
  go_enter Tryd.func19, Tryd.ntmps19
  go_wp2_with (fail)
  go_must (refine (right_val (HX.out.keep HR0.out.r.bl)).mono ?_)
  rintro e w2 ⟨rfl, hb2⟩
  have HR2 := Lib.hid (HR0.out.keep hb2)
  have r0 := R0.out.keep hb2
  have r1 := R1.out.keep hb2
  have c0 := r0.cell 0
  have c1 := r0.cell 1
  have c2 := r1.cell 0
  have c3 := r1.cell 1
  clear hb2 HR0 R0 R1
  go_wp2_with (fail)
  go_must (refine (right_val (HY.out.keep HR2.out.r.bl)).mono ?_)
  rintro e w3 ⟨rfl, hb3⟩
  have HR3 := Lib.hid (HR2.out.keep hb3)
  replace r0 := r0.keep hb3
  replace r1 := r1.keep hb3
  clear hb3 HR2 c0 c1 c2 c3
  have c0 := r0.cell 0
  have c1 := r0.cell 1
  have c2 := r1.cell 0
  have c3 := r1.cell 1
  go_wp2_with (fail)
  go_must (refine (div_any _ HN.out HN'.out (HAA.out.keep HR3.out.r.bl) (HBB.out.keep HR3.out.r.bl) HNA.out.1 HNB.out.1 HNA.out.2.1 HNB.out.2.1 (by omega) (by omega) HVB.out).mono ?_)
  rintro e w4 ⟨A1, c1', lq, A2, c2', lr, rfl, hi1, hi2, hn1, hn2, hb4⟩
  rw [HQE.out.1] at hn1
  rw [HQE.out.2] at hn2
  have HI1 := Lib.hid hi1
  have HI2 := Lib.hid hi2
  have HN1 := Lib.hid hn1
  have HN2 := Lib.hid hn2
  have HR4 := Lib.hid (HR3.out.keep hb4)
  replace r0 := r0.keep hb4
  replace r1 := r1.keep hb4
  clear hb4 HR3 c0 c1 c2 c3 hi1 hi2
  have c0 := r0.cell 0
  have c2 := r1.cell 0
  have c3 := r1.cell 1
  have C0 := Lib.hid c0
  have C2 := Lib.hid c2
  have C3 := Lib.hid c3
  obtain ⟨nr, hnr⟩ : ∃ k, lr.length = k := ⟨_, rfl⟩
  have HNR := Lib.hid hnr
  have hlr : (0 : Int) < (nr : Int) := by
    have : nr ≠ 0 := fun e => HM1.out (hn2.nil.1 (List.eq_nil_of_length_eq_zero (hnr.trans e)))
    omega
  obtain ⟨nq, hnq⟩ : ∃ k, lq.length = k := ⟨_, rfl⟩
  have HNQ := Lib.hid hnq
  have hlq : nq ≤ 60 := by rw [← hnq]; exact (hn1.len 60).2 HSZ.out.1
  have hlr2 : nr ≤ n' := by
    by_cases h : nr ≤ n'
    · exact h
    · have := val_len_lt HNB.out.1 hn2.1 hn2.2.1 (show b.length < lr.length by rw [HN'.out]; omega)
      rw [HYe.out, hn2.2.2] at this
      have := HMY.out
      omega
  rw [hnr, hnq]
  clear hn1 hn2 hnr hnq r0 r1
  go_wp2_with (fail)
  go_region_held3 (fun W' : World => Below w4.heap.size w4 W' ∧ W'.cell? ⟨w.heap.size, 0, none⟩ = some (.int .i64 s) ∧ W'.cell? ⟨w.heap.size + 1, 0, none⟩ = some (.int .i64 s') ∧ W'.cell? ⟨w.heap.size + 1, 1, none⟩ = some (.slice A' n' c'))
    (first | exact ⟨(Below.refl _ _).drew, C0.out, C2.out, C3.out⟩ | exact ⟨Gen.over (by assumption) (And.left (by assumption)), Gen.keep (by assumption) (And.left (And.right (by assumption))), Gen.keep (by assumption) (And.left (And.right (And.right (by assumption)))), Gen.keep (by assumption) (And.right (And.right (And.right (by assumption))))⟩ | exact ⟨Gen.b_alloc (And.left (by assumption)), Gen.al (And.left (And.right (by assumption))), Gen.al (And.left (And.right (And.right (by assumption)))), Gen.al (And.right (And.right (And.right (by assumption))))⟩)
    (first
      | (go_at_call 33; refine (add_any _ HNQ.out rfl (HI1.out.keep (And.left (by assumption))) (by first | exact one_new _ | exact (one_new _).keep (by assumption)) HN1.out.1 nm_one.1 HN1.out.2.1 nm_one.2.1 (by omega) (by decide)).mono ?_; rintro e' w' ⟨A3, c3', l3, rfl, hI3, hN3, hb3⟩)
      | (go_at_call 34; refine (sub_any _ HN'.out HNR.out (HBB.out.keep (Gen.over (And.left (by assumption)) HR4.out.r.bl)) (HI2.out.keep (And.left (by assumption))) HNB.out.1 HN2.out.1 hlr2 (by rw [HYe.out, HN2.out.2.2]; exact HMY.out) (by omega)).mono ?_; rintro e' w' ⟨A5, c5', l5, rfl, hI5, hN5, hb5⟩))
  all_goals
    have hI3' := (by first | exact hI3 | exact hI3.keep hb5 : Ints w' A3 l3)
    have hI5' := (by first | exact hI5 | exact hI5.keep hb3 | exact hI5.keep (Gen.over hb3 (Gen.b_alloc (Below.refl _ _))) | exact hI5.keep (Gen.over hb3 (Gen.b_alloc (Below.refl _ _).drew)) : Ints w' A5 l5)
    have hS7 := (by assumption : Below w4.heap.size w4 w' ∧ w'.cell? ⟨w.heap.size, 0, none⟩ = some (.int .i64 s) ∧ w'.cell? ⟨w.heap.size + 1, 0, none⟩ = some (.int .i64 s') ∧ w'.cell? ⟨w.heap.size + 1, 1, none⟩ = some (.slice A' n' c'))
    have HI3 : Hid (Ints w'.drew A3 l3) := Lib.hid hI3'
    have HI5 : Hid (Ints w'.drew A5 l5) := Lib.hid hI5'
    have HR7 : Hid (Res2 w w'.drew (w.heap.size + 1 + 1) (w.heap.size + 1 + 1 + 1)) := Lib.hid ((HR4.out.keep hS7.1).keep (Below.refl _ _).drew)
    clear C0 C2 C3
    have C0 := Lib.hid hS7.2.1
    have C2 := Lib.hid hS7.2.2.1
    have C3 := Lib.hid hS7.2.2.2
    have HZ3 := Lib.hid (HZQ.out l3 (hN3.to (by rw [HN1.out.2.2]; rfl)))
    have HZ5 := Lib.hid (HZR.out l5 (hN5.to (by rw [HYe.out, HN2.out.2.2])))
    have c0 := hS7.2.1
    have c2 := hS7.2.2.1
    have c3 := hS7.2.2.2
    clear hI3' hI5' hN3 hN5 hI3 hI5
    go_wp2
    (try clear HNA); (try clear HN); (try clear HBB); (try clear HAA); (try clear HNB); (try clear HN'); (try clear HX); (try clear HY); (try clear HQE); (try clear HYe); (try clear HVB); (try clear HSZ); (try clear HQ00); (try clear HM1); (try clear HMY); (try clear HTT); (try clear HP); (try clear HN1); (try clear HN2); (try clear HI1); (try clear HI2); (try clear HR4); (try clear HZQ); (try clear HZR); (try clear HNQ); (try clear HNR); (try clear hlq); (try clear hlr2); (try clear hb3); (try clear hb5)
    have n02 : w.heap.size ≠ w.heap.size + 1 + 1 := by omega
    have n03 : w.heap.size ≠ w.heap.size + 1 + 1 + 1 := by omega
    have n12 : w.heap.size + 1 ≠ w.heap.size + 1 + 1 := by omega
    have n13 : w.heap.size + 1 ≠ w.heap.size + 1 + 1 + 1 := by omega
    go_wp2_with (fail)
    go_region_held3 (fun W' : World => Below w.heap.size w W' ∧ W'.cell? ⟨w.heap.size, 0, none⟩ = some (.int .i64 s) ∧ W'.cell? ⟨w.heap.size + 1, 0, none⟩ = some (.int .i64 s') ∧ W'.cell? ⟨w.heap.size + 1, 1, none⟩ = some (.slice A' n' c'))
      (first | exact hS8 | exact ⟨HR7.out.r.bl, C0.out, C2.out, C3.out⟩ | exact ⟨hR8.put _ _, hR8.cell _ _ n02 hS8.2.1, hR8.cell _ _ n12 hS8.2.2.1, hR8.cell _ _ n12 hS8.2.2.2⟩ | exact ⟨hR8.put2 _ _ _ _, hR8.cell2 _ _ _ _ n02 n03 hS8.2.1, hR8.cell2 _ _ _ _ n12 n13 hS8.2.2.1, hR8.cell2 _ _ _ _ n12 n13 hS8.2.2.2⟩)
      (first
        | (go_at_call 35; (with_reducible refine (signed_any (s := p) _ rfl (by first | exact HI3.out | exact HI3.out.keep hbs2) HZ3.out.1 HZ3.out.2 HSQ.out).mono ?_); rintro e' w' ⟨v1, rfl, hv1, hbs1⟩; obtain ⟨A7, c7, l7, rfl, _⟩ := hv1.ex; have hS8 : (fun W' : World => Below w.heap.size w W' ∧ W'.cell? ⟨w.heap.size, 0, none⟩ = some (.int .i64 s) ∧ W'.cell? ⟨w.heap.size + 1, 0, none⟩ = some (.int .i64 s') ∧ W'.cell? ⟨w.heap.size + 1, 1, none⟩ = some (.slice A' n' c')) w' := ⟨Gen.over hbs1 (And.left (by assumption)), Gen.keep hbs1 (And.left (And.right (by assumption))), Gen.keep hbs1 (And.left (And.right (And.right (by assumption)))), Gen.keep hbs1 (And.right (And.right (And.right (by assumption))))⟩; have hR8 : Res2 w w' (w.heap.size + 1 + 1) (w.heap.size + 1 + 1 + 1) := (by first | exact hR8.keep hbs1 | exact HR7.out.keep hbs1); have d0 := hR8.r.c0; have d1 := hR8.r.c1; have d2 := hR8.q.c0; have d3 := hR8.q.c1; have f0 := hR8.r.row.frozen 0; have f1 := hR8.r.row.frozen 1; have f2 := hR8.q.row.frozen 0; have f3 := hR8.q.row.frozen 1; have hg := hR8.q.row.lt)
        | (go_at_call 35; (with_reducible refine (signed_any (s := s') _ rfl (by first | exact HI5.out | exact HI5.out.keep hbs1) HZ5.out.1 HZ5.out.2 HSR.out).mono ?_); rintro e' w' ⟨v2, rfl, hv2, hbs2⟩; obtain ⟨A8, c8, l8, rfl, _⟩ := hv2.ex; have hS8 : (fun W' : World => Below w.heap.size w W' ∧ W'.cell? ⟨w.heap.size, 0, none⟩ = some (.int .i64 s) ∧ W'.cell? ⟨w.heap.size + 1, 0, none⟩ = some (.int .i64 s') ∧ W'.cell? ⟨w.heap.size + 1, 1, none⟩ = some (.slice A' n' c')) w' := ⟨Gen.over hbs2 (And.left (by assumption)), Gen.keep hbs2 (And.left (And.right (by assumption))), Gen.keep hbs2 (And.left (And.right (And.right (by assumption)))), Gen.keep hbs2 (And.right (And.right (And.right (by assumption))))⟩; have hR8 : Res2 w w' (w.heap.size + 1 + 1) (w.heap.size + 1 + 1 + 1) := (by first | exact hR8.keep hbs2 | exact HR7.out.keep hbs2); have d0 := hR8.r.c0; have d1 := hR8.r.c1; have d2 := hR8.q.c0; have d3 := hR8.q.c1; have f0 := hR8.r.row.frozen 0; have f1 := hR8.r.row.frozen 1; have f2 := hR8.q.row.frozen 0; have f3 := hR8.q.row.frozen 1; have hg := hR8.q.row.lt))
    all_goals
      go_wp2
      refine bodyPost_ret (v := .tuple #[bigV (sg (dq x y)) A7 l7.length c7, bigV (sg (dr x y)) A8 l8.length c8, .int .i64 0]) ?_ rfl ⟨_, _, rfl, hR8.big (by first | exact hv1 | exact hv1.keep hbs2) _ _ _ _, hR8.big (by first | exact hv2 | exact hv2.keep hbs1) _ _ _ _, hR8.put2 _ _ _ _⟩
      simp [results, Tryd.results19, go_sem, *]
set_option maxRecDepth 100000 in
set_option maxHeartbeats 8000000 in
theorem Div_pos (w : World) (hx : IsBig w va x) (hy : IsBig w vb y) (h0 : y ≠ 0) (hT : ¬ (sg x * sg y < 0 ∧ (x.natAbs : Int) % y.natAbs ≠ 0)) :
    Calls Tryd.prog 19 #[va, vb] w fun e w' => ∃ v1 v2, e = .returned (.tuple #[v1, v2, .int .i64 0]) ∧ IsBig w' v1 (dq x y) ∧ IsBig w' v2 (dr x y) ∧ Below w.heap.size w w' := by
  obtain ⟨A, c, a, rfl, ha, na, h60⟩ := hx.ex
  obtain ⟨A', c', b, rfl, hb, nb, h60'⟩ := hy.ex
  obtain ⟨n, hn⟩ : ∃ n, a.length = n := ⟨_, rfl⟩
  obtain ⟨n', hn'⟩ : ∃ n, b.length = n := ⟨_, rfl⟩
  rw [hn] at hx h60 ⊢
  rw [hn'] at hy h60' ⊢
  have HX := Lib.hid hx
  have HY := Lib.hid hy
  have HAA := Lib.hid ha
  have HNA := Lib.hid na
  have HN := Lib.hid hn
  have HBB := Lib.hid hb
  have HNB := Lib.hid nb
  have HN' := Lib.hid hn'
  have HR0 := Lib.hid (box4_res (w := w) (s := sg x) (A := A) (n := n) (c := c) (s' := sg y) (A' := A') (n' := n') (c' := c'))
  have R0 := Lib.hid ((box2_r0 (w := w) (s := sg x) (A := A) (n := n) (c := c) (s' := sg y) (A' := A') (n' := n') (c' := c')).alloc zB |>.alloc zB)
  have R1 := Lib.hid ((box2_r1 (w := w) (s := sg x) (A := A) (n := n) (c := c) (s' := sg y) (A' := A') (n' := n') (c' := c')).alloc zB |>.alloc zB)
  unfold box2 zB at HR0 R0 R1
  have hab := (dq_abs (x := x) h0).2 hT
  have hs0 : (sg y == 0) = false := by have := sg_cases y; simp; omega
  have hY : 0 < (y.natAbs : Int) := by omega
  have hww : IntKind.i64.wrap (sg x * sg y) = sg x * sg y := IntWalk.i64_in _ (by rw [← sg_mul]; have := sg_in (x * y); omega)
  have hp01 : sg x * sg y = -1 ∨ sg x * sg y = 0 ∨ sg x * sg y = 1 := by rw [← sg_mul]; have := sg_in (x * y); omega
  have hsy := sg_cases y
  have m0 : 0 ≤ (x.natAbs : Int) % y.natAbs := Int.emod_nonneg _ (by omega)
  have m1 : (x.natAbs : Int) % y.natAbs < y.natAbs := Int.emod_lt_of_pos _ hY
  have q0 : 0 ≤ (x.natAbs : Int) / y.natAbs := Int.ediv_nonneg (by omega) (by omega)
  have q1 : (x.natAbs : Int) / y.natAbs ≤ x.natAbs := Int.ediv_le_self _ (by omega)
  obtain ⟨Q0, hQ0⟩ : ∃ q, (x.natAbs : Int) / y.natAbs = q := ⟨_, rfl⟩
  obtain ⟨M0, hM0⟩ : ∃ q, (x.natAbs : Int) % y.natAbs = q := ⟨_, rfl⟩
  have HQE : Hid (val a / val b = Q0 ∧ val a % val b = M0) := Lib.hid (by rw [na.2.2, nb.2.2]; exact ⟨hQ0, hM0⟩)
  have hx60 := (na.len 60).1 (by omega)
  have hy60 := (nb.len 60).1 (by omega)
  try rw [hQ0] at hab
  rw [hQ0] at q0 q1
  try rw [hM0] at hab
  rw [hM0] at m0 m1 hT
  obtain ⟨Y, hYe⟩ : ∃ Y, (y.natAbs : Int) = Y := ⟨_, rfl⟩
  try rw [hYe] at hab
  rw [hYe] at m1 hY hy60
  have HYe : Hid (val b = Y) := Lib.hid (by rw [nb.2.2]; exact hYe)
  have HZQ : Hid (∀ l, Nm l Q0 → Nm l (dq x y).natAbs ∧ l.length ≤ 60) := Lib.hid fun l h => by
    have hf : Nm l (dq x y).natAbs := Nm.to h (by
      by_cases hx0 : x = 0
      · have : Q0 = 0 := by rw [← hQ0, hx0]; simp
        rw [hab.1, this]; simp
      · have hsx := sg_cases x
        have : sg x * sg y = -1 ∨ sg x * sg y = 1 := by
          have h1 := Int.mul_ne_zero (show sg x ≠ 0 by omega) (show sg y ≠ 0 by omega)
          omega
        rcases this with e | e
        · rw [e] at hab; omega
        · rw [e] at hab; omega)
    exact ⟨hf, (h.len 60).2 (by omega)⟩
  have HZR : Hid (∀ l, Nm l M0 → Nm l (dr x y).natAbs ∧ l.length ≤ 60) := Lib.hid fun l h => by
    have hf := Nm.to h (show M0 = ((dr x y).natAbs : Int) by
      rcases hsy with ⟨_, e⟩ | ⟨_, _⟩ | ⟨_, e⟩
      · rw [e] at hab; omega
      · omega
      · rw [e] at hab; omega)
    exact ⟨hf, (h.len 60).2 (by omega)⟩
  have HSQ : Hid (dq x y ≠ 0 → sg x * sg y = sg (dq x y)) := Lib.hid fun hne => by
    have h1 := sg_cases (dq x y)
    rcases hp01 with e | e | e
    · rw [e] at hab ⊢; omega
    · rw [e] at hab; omega
    · rw [e] at hab ⊢; omega
  have HSR : Hid (dr x y ≠ 0 → sg y = sg (dr x y)) := Lib.hid fun _ => by
    have := sg_cases (dr x y)
    rcases hsy with ⟨_, e⟩ | ⟨_, _⟩ | ⟨_, e⟩
    · rw [e] at hab; omega
    · omega
    · rw [e] at hab; omega
  have HTT : Hid (¬ (sg x * sg y < 0) ∨ M0 = 0) := Lib.hid (by omega)
  obtain ⟨s, hsx⟩ : ∃ s, sg x = s := ⟨_, rfl⟩
  obtain ⟨s', hsy'⟩ : ∃ s, sg y = s := ⟨_, rfl⟩
  rw [hsx] at HR0 R0 R1 HX HSQ hww HTT
  rw [hsy'] at HR0 R0 R1 HY HSQ HSR hww hs0 HTT
  rw [hsx, hsy']
  obtain ⟨p, hp⟩ : ∃ p, s * s' = p := ⟨_, rfl⟩
  rw [hp] at HSQ hww HTT
  have HP := Lib.hid hp
  have HVB : Hid (0 < val b) := Lib.hid (by rw [HYe.out]; exact hY)
  have HSZ : Hid (Q0 < pw 60 ∧ Y < pw 60) := Lib.hid ⟨by omega, by omega⟩
  have HQ00 := Lib.hid q0
  clear hx hy ha hb na nb hn hn' hab hp01 hsy m0 m1 q0 q1 hQ0 hM0 hYe hx60 hy60 hT hsx hsy' h0 hY
  go_enter Tryd.func19, Tryd.ntmps19
  go_wp2_with (fail)
  go_must (refine (right_val (HX.out.keep HR0.out.r.bl)).mono ?_)
  rintro e w2 ⟨rfl, hb2⟩
  have HR2 := Lib.hid (HR0.out.keep hb2)
  have r0 := R0.out.keep hb2
  have r1 := R1.out.keep hb2
  have c0 := r0.cell 0
  have c1 := r0.cell 1
  have c2 := r1.cell 0
  have c3 := r1.cell 1
  clear hb2 HR0 R0 R1
  go_wp2_with (fail)
  go_must (refine (right_val (HY.out.keep HR2.out.r.bl)).mono ?_)
  rintro e w3 ⟨rfl, hb3⟩
  have HR3 := Lib.hid (HR2.out.keep hb3)
  replace r0 := r0.keep hb3
  replace r1 := r1.keep hb3
  clear hb3 HR2 c0 c1 c2 c3
  have c0 := r0.cell 0
  have c1 := r0.cell 1
  have c2 := r1.cell 0
  have c3 := r1.cell 1
  go_wp2_with (fail)
  go_must (refine (div_any _ HN.out HN'.out (HAA.out.keep HR3.out.r.bl) (HBB.out.keep HR3.out.r.bl) HNA.out.1 HNB.out.1 HNA.out.2.1 HNB.out.2.1 (by omega) (by omega) HVB.out).mono ?_)
  rintro e w4 ⟨A1, c1', lq, A2, c2', lr, rfl, hi1, hi2, hn1, hn2, hb4⟩
  rw [HQE.out.1] at hn1
  rw [HQE.out.2] at hn2
  have HI1 := Lib.hid hi1
  have HI2 := Lib.hid hi2
  have HN1 := Lib.hid hn1
  have HN2 := Lib.hid hn2
  have HR4 := Lib.hid (HR3.out.keep hb4)
  replace r0 := r0.keep hb4
  replace r1 := r1.keep hb4
  clear hb4 HR3 c0 c1 c2 c3 hi1 hi2
  have c0 := r0.cell 0
  have c2 := r1.cell 0
  have c3 := r1.cell 1
  have C0 := Lib.hid c0
  have C2 := Lib.hid c2
  have C3 := Lib.hid c3
  have hq60 := HZQ.out lq hn1
  have hr60 := HZR.out lr hn2
  have HI3 : Hid (Ints w4.drew A1 lq) := Lib.hid HI1.out
  have HI5 : Hid (Ints w4.drew A2 lr) := Lib.hid HI2.out
  have HR7 : Hid (Res2 w w4.drew (w.heap.size + 1 + 1) (w.heap.size + 1 + 1 + 1)) := Lib.hid (HR4.out.keep (Below.refl _ _).drew)
  have HZ3 := Lib.hid hq60
  have HZ5 := Lib.hid hr60
  obtain ⟨nr, hnr⟩ : ∃ k, lr.length = k := ⟨_, rfl⟩
  have HNR := Lib.hid hnr
  have hnr60 : nr ≤ 60 := by rw [← hnr]; exact hr60.2
  by_cases hpn : p < 0
  · have hlr : ¬ ((0 : Int) < (nr : Int)) := by
      have h0 : M0 = 0 := by
        have h := HTT.out
        omega
      have := hn2.nil.2 h0
      rw [this] at hnr
      simp at hnr
      omega
    rw [hnr]
    clear hn1 hn2 hq60 hr60 hnr r0 r1
    (try clear HNA); (try clear HN); (try clear HBB); (try clear HAA); (try clear HNB); (try clear HN'); (try clear HX); (try clear HY); (try clear HQE); (try clear HYe); (try clear HVB); (try clear HSZ); (try clear HQ00); (try clear HM1); (try clear HMY); (try clear HTT); (try clear HP); (try clear HN1); (try clear HN2); (try clear HI1); (try clear HI2); (try clear HR4); (try clear HZQ); (try clear HZR); (try clear HNQ);  (try clear hlq); (try clear hlr2); (try clear hb3); (try clear hb5)
    have n02 : w.heap.size ≠ w.heap.size + 1 + 1 := by omega
    have n03 : w.heap.size ≠ w.heap.size + 1 + 1 + 1 := by omega
    have n12 : w.heap.size + 1 ≠ w.heap.size + 1 + 1 := by omega
    have n13 : w.heap.size + 1 ≠ w.heap.size + 1 + 1 + 1 := by omega
    go_wp2_with (fail)
    go_region_held3 (fun W' : World => Below w.heap.size w W' ∧ W'.cell? ⟨w.heap.size, 0, none⟩ = some (.int .i64 s) ∧ W'.cell? ⟨w.heap.size + 1, 0, none⟩ = some (.int .i64 s') ∧ W'.cell? ⟨w.heap.size + 1, 1, none⟩ = some (.slice A' n' c'))
      (first | exact hS8 | exact ⟨HR7.out.r.bl, C0.out, C2.out, C3.out⟩ | exact ⟨hR8.put _ _, hR8.cell _ _ n02 hS8.2.1, hR8.cell _ _ n12 hS8.2.2.1, hR8.cell _ _ n12 hS8.2.2.2⟩ | exact ⟨hR8.put2 _ _ _ _, hR8.cell2 _ _ _ _ n02 n03 hS8.2.1, hR8.cell2 _ _ _ _ n12 n13 hS8.2.2.1, hR8.cell2 _ _ _ _ n12 n13 hS8.2.2.2⟩)
      (first
        | (go_at_call 35; (with_reducible refine (signed_any (s := p) _ rfl (by first | exact HI3.out | exact HI3.out.keep hbs2) HZ3.out.1 HZ3.out.2 HSQ.out).mono ?_); rintro e' w' ⟨v1, rfl, hv1, hbs1⟩; obtain ⟨A7, c7, l7, rfl, _⟩ := hv1.ex; have hS8 : (fun W' : World => Below w.heap.size w W' ∧ W'.cell? ⟨w.heap.size, 0, none⟩ = some (.int .i64 s) ∧ W'.cell? ⟨w.heap.size + 1, 0, none⟩ = some (.int .i64 s') ∧ W'.cell? ⟨w.heap.size + 1, 1, none⟩ = some (.slice A' n' c')) w' := ⟨Gen.over hbs1 (And.left (by assumption)), Gen.keep hbs1 (And.left (And.right (by assumption))), Gen.keep hbs1 (And.left (And.right (And.right (by assumption)))), Gen.keep hbs1 (And.right (And.right (And.right (by assumption))))⟩; have hR8 : Res2 w w' (w.heap.size + 1 + 1) (w.heap.size + 1 + 1 + 1) := (by first | exact hR8.keep hbs1 | exact HR7.out.keep hbs1); have d0 := hR8.r.c0; have d1 := hR8.r.c1; have d2 := hR8.q.c0; have d3 := hR8.q.c1; have f0 := hR8.r.row.frozen 0; have f1 := hR8.r.row.frozen 1; have f2 := hR8.q.row.frozen 0; have f3 := hR8.q.row.frozen 1; have hg := hR8.q.row.lt)
        | (go_at_call 35; (with_reducible refine (signed_any (s := s') _ HNR.out (by first | exact HI5.out | exact HI5.out.keep hbs1) HZ5.out.1 hnr60 HSR.out).mono ?_); rintro e' w' ⟨v2, rfl, hv2, hbs2⟩; obtain ⟨A8, c8, l8, rfl, _⟩ := hv2.ex; have hS8 : (fun W' : World => Below w.heap.size w W' ∧ W'.cell? ⟨w.heap.size, 0, none⟩ = some (.int .i64 s) ∧ W'.cell? ⟨w.heap.size + 1, 0, none⟩ = some (.int .i64 s') ∧ W'.cell? ⟨w.heap.size + 1, 1, none⟩ = some (.slice A' n' c')) w' := ⟨Gen.over hbs2 (And.left (by assumption)), Gen.keep hbs2 (And.left (And.right (by assumption))), Gen.keep hbs2 (And.left (And.right (And.right (by assumption)))), Gen.keep hbs2 (And.right (And.right (And.right (by assumption))))⟩; have hR8 : Res2 w w' (w.heap.size + 1 + 1) (w.heap.size + 1 + 1 + 1) := (by first | exact hR8.keep hbs2 | exact HR7.out.keep hbs2); have d0 := hR8.r.c0; have d1 := hR8.r.c1; have d2 := hR8.q.c0; have d3 := hR8.q.c1; have f0 := hR8.r.row.frozen 0; have f1 := hR8.r.row.frozen 1; have f2 := hR8.q.row.frozen 0; have f3 := hR8.q.row.frozen 1; have hg := hR8.q.row.lt))
    all_goals
      go_wp2
      refine bodyPost_ret (v := .tuple #[bigV (sg (dq x y)) A7 l7.length c7, bigV (sg (dr x y)) A8 l8.length c8, .int .i64 0]) ?_ rfl ⟨_, _, rfl, hR8.big (by first | exact hv1 | exact hv1.keep hbs2) _ _ _ _, hR8.big (by first | exact hv2 | exact hv2.keep hbs1) _ _ _ _, hR8.put2 _ _ _ _⟩
      simp [results, Tryd.results19, go_sem, *]
  · clear hn1 hn2 hq60 hr60 hnr r0 r1
    (try clear HNA); (try clear HN); (try clear HBB); (try clear HAA); (try clear HNB); (try clear HN'); (try clear HX); (try clear HY); (try clear HQE); (try clear HYe); (try clear HVB); (try clear HSZ); (try clear HQ00); (try clear HM1); (try clear HMY); (try clear HTT); (try clear HP); (try clear HN1); (try clear HN2); (try clear HI1); (try clear HI2); (try clear HR4); (try clear HZQ); (try clear HZR); (try clear HNQ); (try clear HNR); (try clear hlq); (try clear hlr2); (try clear hb3); (try clear hb5)
    have n02 : w.heap.size ≠ w.heap.size + 1 + 1 := by omega
    have n03 : w.heap.size ≠ w.heap.size + 1 + 1 + 1 := by omega
    have n12 : w.heap.size + 1 ≠ w.heap.size + 1 + 1 := by omega
    have n13 : w.heap.size + 1 ≠ w.heap.size + 1 + 1 + 1 := by omega
    go_wp2_with (fail)
    go_region_held3 (fun W' : World => Below w.heap.size w W' ∧ W'.cell? ⟨w.heap.size, 0, none⟩ = some (.int .i64 s) ∧ W'.cell? ⟨w.heap.size + 1, 0, none⟩ = some (.int .i64 s') ∧ W'.cell? ⟨w.heap.size + 1, 1, none⟩ = some (.slice A' n' c'))
      (first | exact hS8 | exact ⟨HR7.out.r.bl, C0.out, C2.out, C3.out⟩ | exact ⟨hR8.put _ _, hR8.cell _ _ n02 hS8.2.1, hR8.cell _ _ n12 hS8.2.2.1, hR8.cell _ _ n12 hS8.2.2.2⟩ | exact ⟨hR8.put2 _ _ _ _, hR8.cell2 _ _ _ _ n02 n03 hS8.2.1, hR8.cell2 _ _ _ _ n12 n13 hS8.2.2.1, hR8.cell2 _ _ _ _ n12 n13 hS8.2.2.2⟩)
      (first
        | (go_at_call 35; (with_reducible refine (signed_any (s := p) _ rfl (by first | exact HI3.out | exact HI3.out.keep hbs2) HZ3.out.1 HZ3.out.2 HSQ.out).mono ?_); rintro e' w' ⟨v1, rfl, hv1, hbs1⟩; obtain ⟨A7, c7, l7, rfl, _⟩ := hv1.ex; have hS8 : (fun W' : World => Below w.heap.size w W' ∧ W'.cell? ⟨w.heap.size, 0, none⟩ = some (.int .i64 s) ∧ W'.cell? ⟨w.heap.size + 1, 0, none⟩ = some (.int .i64 s') ∧ W'.cell? ⟨w.heap.size + 1, 1, none⟩ = some (.slice A' n' c')) w' := ⟨Gen.over hbs1 (And.left (by assumption)), Gen.keep hbs1 (And.left (And.right (by assumption))), Gen.keep hbs1 (And.left (And.right (And.right (by assumption)))), Gen.keep hbs1 (And.right (And.right (And.right (by assumption))))⟩; have hR8 : Res2 w w' (w.heap.size + 1 + 1) (w.heap.size + 1 + 1 + 1) := (by first | exact hR8.keep hbs1 | exact HR7.out.keep hbs1); have d0 := hR8.r.c0; have d1 := hR8.r.c1; have d2 := hR8.q.c0; have d3 := hR8.q.c1; have f0 := hR8.r.row.frozen 0; have f1 := hR8.r.row.frozen 1; have f2 := hR8.q.row.frozen 0; have f3 := hR8.q.row.frozen 1; have hg := hR8.q.row.lt)
        | (go_at_call 35; (with_reducible refine (signed_any (s := s') _ rfl (by first | exact HI5.out | exact HI5.out.keep hbs1) HZ5.out.1 HZ5.out.2 HSR.out).mono ?_); rintro e' w' ⟨v2, rfl, hv2, hbs2⟩; obtain ⟨A8, c8, l8, rfl, _⟩ := hv2.ex; have hS8 : (fun W' : World => Below w.heap.size w W' ∧ W'.cell? ⟨w.heap.size, 0, none⟩ = some (.int .i64 s) ∧ W'.cell? ⟨w.heap.size + 1, 0, none⟩ = some (.int .i64 s') ∧ W'.cell? ⟨w.heap.size + 1, 1, none⟩ = some (.slice A' n' c')) w' := ⟨Gen.over hbs2 (And.left (by assumption)), Gen.keep hbs2 (And.left (And.right (by assumption))), Gen.keep hbs2 (And.left (And.right (And.right (by assumption)))), Gen.keep hbs2 (And.right (And.right (And.right (by assumption))))⟩; have hR8 : Res2 w w' (w.heap.size + 1 + 1) (w.heap.size + 1 + 1 + 1) := (by first | exact hR8.keep hbs2 | exact HR7.out.keep hbs2); have d0 := hR8.r.c0; have d1 := hR8.r.c1; have d2 := hR8.q.c0; have d3 := hR8.q.c1; have f0 := hR8.r.row.frozen 0; have f1 := hR8.r.row.frozen 1; have f2 := hR8.q.row.frozen 0; have f3 := hR8.q.row.frozen 1; have hg := hR8.q.row.lt))
    all_goals
      go_wp2
      refine bodyPost_ret (v := .tuple #[bigV (sg (dq x y)) A7 l7.length c7, bigV (sg (dr x y)) A8 l8.length c8, .int .i64 0]) ?_ rfl ⟨_, _, rfl, hR8.big (by first | exact hv1 | exact hv1.keep hbs2) _ _ _ _, hR8.big (by first | exact hv2 | exact hv2.keep hbs1) _ _ _ _, hR8.put2 _ _ _ _⟩
      simp [results, Tryd.results19, go_sem, *]
end
end Go.Proofs.YtnifkianjpjahaaDoor.Bg
