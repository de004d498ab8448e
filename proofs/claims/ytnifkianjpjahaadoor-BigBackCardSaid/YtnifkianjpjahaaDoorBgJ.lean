/- Big integers: Right, Add, Sub, Compare, Same by value. -/
import Derived.Test.YtnifkianjpjahaaDoorBgI
namespace Go.Proofs.YtnifkianjpjahaaDoor.Bg
open Go.ChangeShapes Go.WideShapes Go.ChangeAt Go.RowKit Go.Proofs.YtnifkianjpjahaaDoor.Cell
set_option linter.unusedVariables false
set_option linter.unusedSimpArgs false

theorem right_val {w : World} {v : Value} {x : Int} (h : IsBig w v x) : Calls Tryd.prog 11 #[v] w fun e w' => e = .returned (.bool true) ∧ Below w.heap.size w w' := by
  obtain ⟨A, c, l, rfl, h1, h2, h3⟩ := h.ex
  refine (right_any (sg x) A l.length c l w rfl h1 (by omega)).mono fun e w' h => ?_
  rwa [IsBig.right (A := A) (n := l.length) (c := c) (w := w) rfl h2 h3] at h
theorem big_inj {a b : List Int} {x y : Int} (ha : Nm a x.natAbs) (hb : Nm b y.natAbs) : (sg x = sg y ∧ a = b) ↔ x = y := by
  constructor
  · rintro ⟨h1, rfl⟩
    have h2 := ha.2.2
    have h3 := hb.2.2
    rw [sg_eq x, sg_eq y, h1]
    congr 1
    omega
  · rintro rfl
    exact ⟨rfl, ha.uniq hb⟩
abbrev box2 (w : World) (s : Int) (A : Option Addr) (n c : Nat) (s' : Int) (A' : Option Addr) (n' c' : Nat) : World := (w.alloc (.cells #[.int .i64 s, .slice A n c] 24)).alloc (.cells #[.int .i64 s', .slice A' n' c'] 24)
section
variable {w : World} {s s' : Int} {A A' : Option Addr} {n n' c c' : Nat}
theorem box2_bl : Below w.heap.size w (box2 w s A n c s' A' n' c') := Gen.b_alloc (Gen.b_alloc (Below.refl _ _))
theorem box2_r0 : Row (box2 w s A n c s' A' n' c') w.heap.size 24 #[.int .i64 s, .slice A n c] := (Row.new _ _ _).alloc _
theorem box2_r1 : Row (box2 w s A n c s' A' n' c') (w.heap.size + 1) 24 #[.int .i64 s', .slice A' n' c'] := by
  have h := Row.new (w.alloc (.cells #[.int .i64 s, .slice A n c] 24)) 24 #[.int .i64 s', .slice A' n' c']
  rwa [World.size_alloc] at h
theorem box3_res : Res w ((box2 w s A n c s' A' n' c').alloc (.cells #[.int .i64 0, .slice none 0 0] 24)) (w.heap.size + 1 + 1) := by
  have h := Res.new (w := w) (W := box2 w s A n c s' A' n' c') box2_bl
  rwa [World.size_alloc, World.size_alloc] at h
end
section
variable {x y : Int} {va vb : Value}
set_option maxRecDepth 100000 in
set_option maxHeartbeats 4000000 in
theorem add_val (w : World) (hx : IsBig w va x) (hy : IsBig w vb y) :
    Calls Tryd.prog 12 #[va, vb] w fun e w' => ∃ v, e = .returned (.tuple #[v, .int .i64 (fe (x + y))]) ∧ IsBig w' v (fz (x + y)) ∧ Below w.heap.size w w' := by
  obtain ⟨A, c, a, rfl, ha, na, h60⟩ := hx.ex
  obtain ⟨A', c', b, rfl, hb, nb, h60'⟩ := hy.ex
  obtain ⟨n, hn⟩ : ∃ n, a.length = n := ⟨_, rfl⟩
  obtain ⟨n', hn'⟩ : ∃ n, b.length = n := ⟨_, rfl⟩
  rw [hn] at hx h60 ⊢
  rw [hn'] at hy h60' ⊢
  have HX := Lib.hid hx
  have HY := Lib.hid hy
  have HBB := Lib.hid hb
  have HNB := Lib.hid nb
  have HN' := Lib.hid hn'
  have HR0 := Lib.hid (box3_res (w := w) (s := sg x) (A := A) (n := n) (c := c) (s' := sg y) (A' := A') (n' := n') (c' := c'))
  have R0 := Lib.hid (Row.alloc (box2_r0 (w := w) (s := sg x) (A := A) (n := n) (c := c) (s' := sg y) (A' := A') (n' := n') (c' := c')) (.cells #[.int .i64 0, .slice none 0 0] 24))
  have R1 := Lib.hid (Row.alloc (box2_r1 (w := w) (s := sg x) (A := A) (n := n) (c := c) (s' := sg y) (A' := A') (n' := n') (c' := c')) (.cells #[.int .i64 0, .slice none 0 0] 24))
  unfold box2 at HR0 R0 R1
  clear hx hy ha hb na nb hn hn' h60
  go_enter Tryd.func12, Tryd.ntmps12
  go_wp2_with (fail)
  go_must (refine (right_val (HX.out.keep HR0.out.bl)).mono ?_)
  rintro e w2 ⟨rfl, hb2⟩
  have HR2 := Lib.hid (HR0.out.keep hb2)
  have r0 := R0.out.keep hb2
  have r1 := R1.out.keep hb2
  have c0 := r0.cell 0
  have c1 := r0.cell 1
  have c2 := r1.cell 0
  have c3 := r1.cell 1
  clear hb2 HR0 R0 R1
  go_wp2_with (fail)
  go_must (refine (right_val (HY.out.keep HR2.out.bl)).mono ?_)
  rintro e w3 ⟨rfl, hb3⟩
  have HR3 := Lib.hid (HR2.out.keep hb3)
  replace r0 := r0.keep hb3
  replace r1 := r1.keep hb3
  clear hb3 HR2 c0 c1 c2 c3
  have c0 := r0.cell 0
  have c1 := r0.cell 1
  have c2 := r1.cell 0
  have c3 := r1.cell 1
  go_wp2_with (fail)
  go_must (refine (sum_any (y := y) _ (HX.out.keep HR3.out.bl) HN'.out (HBB.out.keep HR3.out.bl) HNB.out h60').mono ?_)
  rintro e w4 ⟨v, rfl, hv, hb4⟩
  obtain ⟨A3, c3', l3, rfl, _⟩ := hv.ex
  have HR := Lib.hid (HR3.out.keep hb4)
  have HV := Lib.hid hv
  have d0 := HR.out.c0
  have d1 := HR.out.c1
  have f0 := HR.out.row.frozen 0
  have f1 := HR.out.row.frozen 1
  have hg := HR.out.row.lt
  clear hb4 hv HR3 c0 c1 c2 c3 r0 r1
  go_wp2
  refine bodyPost_ret (v := .tuple #[bigV (sg (fz (x + y))) A3 l3.length c3', .int .i64 (fe (x + y))]) ?_ rfl ⟨_, rfl, HR.out.big HV.out _ _, HR.out.put _ _⟩
  simp [results, Tryd.results12, go_sem, *]
theorem sg_negate (y : Int) : sg (-y) = -sg y := by
  have h1 := sg_cases y
  have h2 := sg_cases (-y)
  omega
theorem wrap_sg (y : Int) : IntKind.i64.wrap (-sg y) = sg (-y) := by
  rw [sg_negate]
  exact IntWalk.i64_in _ (by have := sg_in y; omega)
set_option maxRecDepth 100000 in
set_option maxHeartbeats 4000000 in
theorem sub_val (w : World) (hx : IsBig w va x) (hy : IsBig w vb y) :
    Calls Tryd.prog 15 #[va, vb] w fun e w' => ∃ v, e = .returned (.tuple #[v, .int .i64 (fe (x - y))]) ∧ IsBig w' v (fz (x - y)) ∧ Below w.heap.size w w' := by
  obtain ⟨A, c, a, rfl, ha, na, h60⟩ := hx.ex
  obtain ⟨A', c', b, rfl, hb, nb, h60'⟩ := hy.ex
  obtain ⟨n, hn⟩ : ∃ n, a.length = n := ⟨_, rfl⟩
  obtain ⟨n', hn'⟩ : ∃ n, b.length = n := ⟨_, rfl⟩
  rw [hn] at hx h60 ⊢
  rw [hn'] at hy h60' ⊢
  have HX := Lib.hid hx
  have HY := Lib.hid hy
  have HBB := Lib.hid hb
  have HNB := Lib.hid nb
  have HN' := Lib.hid hn'
  have HR0 := Lib.hid (box3_res (w := w) (s := sg x) (A := A) (n := n) (c := c) (s' := sg y) (A' := A') (n' := n') (c' := c'))
  have R0 := Lib.hid (Row.alloc (box2_r0 (w := w) (s := sg x) (A := A) (n := n) (c := c) (s' := sg y) (A' := A') (n' := n') (c' := c')) (.cells #[.int .i64 0, .slice none 0 0] 24))
  have R1 := Lib.hid (Row.alloc (box2_r1 (w := w) (s := sg x) (A := A) (n := n) (c := c) (s' := sg y) (A' := A') (n' := n') (c' := c')) (.cells #[.int .i64 0, .slice none 0 0] 24))
  have hwn := wrap_sg y
  rw [Int.sub_eq_add_neg]
  unfold box2 at HR0 R0 R1
  clear hx hy ha hb na nb hn hn' h60
  go_enter Tryd.func15, Tryd.ntmps15
  go_wp2_with (fail)
  go_must (refine (right_val (HX.out.keep HR0.out.bl)).mono ?_)
  rintro e w2 ⟨rfl, hb2⟩
  have HR2 := Lib.hid (HR0.out.keep hb2)
  have r0 := R0.out.keep hb2
  have r1 := R1.out.keep hb2
  have c0 := r0.cell 0
  have c1 := r0.cell 1
  have c2 := r1.cell 0
  have c3 := r1.cell 1
  clear hb2 HR0 R0 R1
  go_wp2_with (fail)
  go_must (refine (right_val (HY.out.keep HR2.out.bl)).mono ?_)
  rintro e w3 ⟨rfl, hb3⟩
  have HR3 := Lib.hid (HR2.out.keep hb3)
  replace r0 := r0.keep hb3
  replace r1 := r1.keep hb3
  clear hb3 HR2 c0 c1 c2 c3
  have c0 := r0.cell 0
  have c1 := r0.cell 1
  have c2 := r1.cell 0
  have c3 := r1.cell 1
  go_wp2_with (fail)
  go_must (refine (sum_any (y := -y) _ (HX.out.keep HR3.out.bl) HN'.out (HBB.out.keep HR3.out.bl) (HNB.out.to (by omega)) h60').mono ?_)
  rintro e w4 ⟨v, rfl, hv, hb4⟩
  obtain ⟨A3, c3', l3, rfl, _⟩ := hv.ex
  have HR := Lib.hid (HR3.out.keep hb4)
  have HV := Lib.hid hv
  have d0 := HR.out.c0
  have d1 := HR.out.c1
  have f0 := HR.out.row.frozen 0
  have f1 := HR.out.row.frozen 1
  have hg := HR.out.row.lt
  clear hb4 hv HR3 c0 c1 c2 c3 r0 r1
  go_wp2
  refine bodyPost_ret (v := .tuple #[bigV (sg (fz (x + -y))) A3 l3.length c3', .int .i64 (fe (x + -y))]) ?_ rfl ⟨_, rfl, HR.out.big HV.out _ _, HR.out.put _ _⟩
  simp [results, Tryd.results15, go_sem, *]
end
end Go.Proofs.YtnifkianjpjahaaDoor.Bg
