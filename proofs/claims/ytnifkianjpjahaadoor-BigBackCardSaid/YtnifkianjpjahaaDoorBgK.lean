/- Big integers: Compare, Same, Mul by value. -/
import Derived.Test.YtnifkianjpjahaaDoorBgJ
namespace Go.Proofs.YtnifkianjpjahaaDoor.Bg
open Go.ChangeShapes Go.WideShapes Go.ChangeAt Go.RowKit Go.Proofs.YtnifkianjpjahaaDoor.Cell
set_option linter.unusedVariables false
set_option linter.unusedSimpArgs false

section
variable {x y : Int} {va vb : Value}
structure Bl (w W : World) : Prop where
  b : Below w.heap.size w W
theorem Bl.keep {w W W' : World} (h : Bl w W) (hb : Below W.heap.size W W') : Bl w W' := ⟨Gen.over hb h.b⟩
set_option maxRecDepth 100000 in
set_option maxHeartbeats 4000000 in
theorem compare_val (w : World) (hx : IsBig w va x) (hy : IsBig w vb y) :
    Calls Tryd.prog 17 #[va, vb] w fun e w' => e = .returned (.int .i64 (cmpI x y)) ∧ Below w.heap.size w w' := by
  obtain ⟨A, c, a, rfl, ha, na, h60⟩ := hx.ex
  obtain ⟨A', c', b, rfl, hb, nb, h60'⟩ := hy.ex
  obtain ⟨n, hn⟩ : ∃ n, a.length = n := ⟨_, rfl⟩
  obtain ⟨n', hn'⟩ : ∃ n, b.length = n := ⟨_, rfl⟩
  rw [hn] at hx h60 ⊢
  rw [hn'] at hy h60' ⊢
  have HX := Lib.hid hx
  have HY := Lib.hid hy
  have HAA := Lib.hid ha
  have HNA := Lib.hid na
  have HN := Lib.hid hn
  have HBB := Lib.hid hb
  have HNB := Lib.hid nb
  have HN' := Lib.hid hn'
  have HR0 : Hid (Bl w (box2 w (sg x) A n c (sg y) A' n' c')) := Lib.hid ⟨box2_bl⟩
  have R0 := Lib.hid (box2_r0 (w := w) (s := sg x) (A := A) (n := n) (c := c) (s' := sg y) (A' := A') (n' := n') (c' := c'))
  have R1 := Lib.hid (box2_r1 (w := w) (s := sg x) (A := A) (n := n) (c := c) (s' := sg y) (A' := A') (n' := n') (c' := c'))
  unfold box2 at HR0 R0 R1
  clear hx hy ha hb na nb hn hn'
  have hsx := sg_cases x
  have hsy := sg_cases y
  by_cases h1 : sg x < sg y
  · have HC : Hid (cmpI x y = -1) := Lib.hid (cmpI_lt (by omega))
    clear hsx hsy
    go_enter Tryd.func17, Tryd.ntmps17
    go_wp2_with (fail)
    go_must (refine (right_val (HX.out.keep HR0.out.b)).mono ?_)
    rintro e w2 ⟨rfl, hb2⟩
    have HR2 := Lib.hid (HR0.out.keep hb2)
    have r0 := R0.out.keep hb2
    have r1 := R1.out.keep hb2
    have c0 := r0.cell 0
    have c1 := r0.cell 1
    have c2 := r1.cell 0
    have c3 := r1.cell 1
    clear hb2 HR0 R0 R1
    go_wp2_with (fail)
    go_must (refine (right_val (HY.out.keep HR2.out.b)).mono ?_)
    rintro e w3 ⟨rfl, hb3⟩
    have HR3 := Lib.hid (HR2.out.keep hb3)
    replace r0 := r0.keep hb3
    replace r1 := r1.keep hb3
    clear hb3 HR2 c0 c1 c2 c3
    have c0 := r0.cell 0
    have c1 := r0.cell 1
    have c2 := r1.cell 0
    have c3 := r1.cell 1
    go_wp2
    go_ret
    exact ⟨ret_int HC.out.symm, HR3.out.b⟩
  · by_cases h2 : sg y < sg x
    · have HC : Hid (cmpI x y = 1) := Lib.hid (cmpI_gt (by omega))
      clear hsx hsy
      go_enter Tryd.func17, Tryd.ntmps17
      go_wp2_with (fail)
      go_must (refine (right_val (HX.out.keep HR0.out.b)).mono ?_)
      rintro e w2 ⟨rfl, hb2⟩
      have HR2 := Lib.hid (HR0.out.keep hb2)
      have r0 := R0.out.keep hb2
      have r1 := R1.out.keep hb2
      have c0 := r0.cell 0
      have c1 := r0.cell 1
      have c2 := r1.cell 0
      have c3 := r1.cell 1
      clear hb2 HR0 R0 R1
      go_wp2_with (fail)
      go_must (refine (right_val (HY.out.keep HR2.out.b)).mono ?_)
      rintro e w3 ⟨rfl, hb3⟩
      have HR3 := Lib.hid (HR2.out.keep hb3)
      replace r0 := r0.keep hb3
      replace r1 := r1.keep hb3
      clear hb3 HR2 c0 c1 c2 c3
      have c0 := r0.cell 0
      have c1 := r0.cell 1
      have c2 := r1.cell 0
      have c3 := r1.cell 1
      go_wp2
      go_ret
      exact ⟨ret_int HC.out.symm, HR3.out.b⟩
    · have h3 : sg y = sg x := by omega
      have HC : Hid (sg x * cmpI (val a) (val b) = cmpI x y) := Lib.hid (by
        have e1 := HNA.out.2.2
        have e2 := HNB.out.2.2
        have h : sg x = -1 ∨ sg x = 0 ∨ sg x = 1 := by omega
        rw [e1, e2]
        unfold cmpI
        rcases h with h | h | h
        · rw [h]; split <;> split <;> (try split) <;> (try split) <;> omega
        · rw [h]; split <;> split <;> (try split) <;> (try split) <;> omega
        · rw [h]; split <;> split <;> (try split) <;> (try split) <;> omega)
      have HW : Hid (IntKind.i64.wrap (sg x * cmpI (val a) (val b)) = sg x * cmpI (val a) (val b)) := Lib.hid (IntWalk.i64_in _ (by
        rw [HC.out]
        unfold cmpI
        split <;> (try split) <;> omega))
      rw [h3] at HR0 R0 R1 HY h1 h2 ⊢
      clear hsx hsy h1 h2 h3
      have hlt : ¬ (sg x < sg x) := by omega
      obtain ⟨s, hs⟩ : ∃ s, sg x = s := ⟨_, rfl⟩
      rw [hs] at HR0 R0 R1 HY HX HC HW hlt ⊢
      obtain ⟨m, hm⟩ : ∃ m, cmpI (val a) (val b) = m := ⟨_, rfl⟩
      have HM := Lib.hid hm
      rw [hm] at HC HW
      have hw := HW.out
      have HCL : Hid (∀ W : World, Below w.heap.size w W → Calls Tryd.prog 30 #[.slice A n c, .slice A' n' c'] W fun e w' => e = .returned (.int .i64 m) ∧ ∃ q, w' = W.drewN q) := Lib.hid fun W hW => by
        have h := compare_any (c := c) (c' := c') W HN.out HN'.out (HAA.out.keep hW) (HBB.out.keep hW) HNA.out.1 HNB.out.1 HNA.out.2.1 HNB.out.2.1 (by omega) (by omega)
        rwa [HM.out] at h
      clear hs hm
      go_enter Tryd.func17, Tryd.ntmps17
      go_wp2_with (fail)
      go_must (refine (right_val (HX.out.keep HR0.out.b)).mono ?_)
      rintro e w2 ⟨rfl, hb2⟩
      have HR2 := Lib.hid (HR0.out.keep hb2)
      have r0 := R0.out.keep hb2
      have r1 := R1.out.keep hb2
      have c0 := r0.cell 0
      have c1 := r0.cell 1
      have c2 := r1.cell 0
      have c3 := r1.cell 1
      clear hb2 HR0 R0 R1
      go_wp2_with (fail)
      go_must (refine (right_val (HY.out.keep HR2.out.b)).mono ?_)
      rintro e w3 ⟨rfl, hb3⟩
      have HR3 := Lib.hid (HR2.out.keep hb3)
      replace r0 := r0.keep hb3
      replace r1 := r1.keep hb3
      clear hb3 HR2 c0 c1 c2 c3
      have c0 := r0.cell 0
      have c1 := r0.cell 1
      have c2 := r1.cell 0
      have c3 := r1.cell 1
      go_wp2
      go_quiet ((go_at_call 30; refine Calls.quiet_of (HCL.out _ (Gen.dN HR3.out.b _))))
      go_wp2
      go_ret
      exact ⟨ret_int HC.out, Gen.dN HR3.out.b _⟩
end
end Go.Proofs.YtnifkianjpjahaaDoor.Bg
