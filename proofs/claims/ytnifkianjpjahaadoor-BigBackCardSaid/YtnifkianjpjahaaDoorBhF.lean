/- Big integers: Gcd by value. -/
import Derived.Test.YtnifkianjpjahaaDoorBhE
namespace Go.Proofs.YtnifkianjpjahaaDoor.Bg
open Go.ChangeShapes Go.WideShapes Go.ChangeAt Go.RowKit Go.Proofs.YtnifkianjpjahaaDoor.Cell
set_option linter.unusedVariables false
set_option linter.unusedSimpArgs false

section
variable {x y : Int} {va vb : Value}
set_option maxRecDepth 100000 in
set_option maxHeartbeats 8000000 in
theorem Gcd_val (w : World) (hx : IsBig w va x) (hy : IsBig w vb y) :
    Calls Tryd.prog 20 #[va, vb] w fun e w' => ∃ v, e = .returned (.tuple #[v, .int .i64 0]) ∧ IsBig w' v (Int.gcd x y : Nat) ∧ Below w.heap.size w w' := by
  obtain ⟨A, c, a, rfl, ha, na, h60⟩ := hx.ex
  obtain ⟨A', c', b, rfl, hb, nb, h60'⟩ := hy.ex
  obtain ⟨n, hn⟩ : ∃ n, a.length = n := ⟨_, rfl⟩
  obtain ⟨n', hn'⟩ : ∃ n, b.length = n := ⟨_, rfl⟩
  rw [hn] at hx h60 ⊢
  rw [hn'] at hy h60' ⊢
  have HX := Lib.hid hx
  have HY := Lib.hid hy
  have SA : Hid (∀ W, Below w.heap.size w W → Sl W (.slice A n c) x.natAbs) := Lib.hid fun W h => ⟨_, _, _, _, rfl, hn, ha.keep h, na, h60⟩
  have SB : Hid (∀ W, Below w.heap.size w W → Sl W (.slice A' n' c') y.natAbs) := Lib.hid fun W h => ⟨_, _, _, _, rfl, hn', hb.keep h, nb, h60'⟩
  have HR0 := Lib.hid (box3_res (w := w) (s := sg x) (A := A) (n := n) (c := c) (s' := sg y) (A' := A') (n' := n') (c' := c'))
  have R0 := Lib.hid (Row.alloc (box2_r0 (w := w) (s := sg x) (A := A) (n := n) (c := c) (s' := sg y) (A' := A') (n' := n') (c' := c')) (.cells #[.int .i64 0, .slice none 0 0] 24))
  have R1 := Lib.hid (Row.alloc (box2_r1 (w := w) (s := sg x) (A := A) (n := n) (c := c) (s' := sg y) (A' := A') (n' := n') (c' := c')) (.cells #[.int .i64 0, .slice none 0 0] 24))
  unfold box2 at HR0 R0 R1
  have hG60 : ∀ l : List Int, Nm l ((Int.gcd x y : Nat) : Int) → l.length ≤ 60 := fun l h => by
    have hx60 := (na.len 60).1 (by omega)
    have hy60 := (nb.len 60).1 (by omega)
    refine (h.len 60).2 ?_
    by_cases h0 : 0 < x.natAbs
    · have : Int.gcd x y ≤ x.natAbs := Nat.le_of_dvd h0 (Nat.gcd_dvd_left _ _)
      omega
    · have : Int.gcd x y = y.natAbs := by show Nat.gcd x.natAbs y.natAbs = _; rw [show x.natAbs = 0 by omega, Nat.gcd_zero_left]
      omega
  have HG60 := Lib.hid hG60
  have HS : Hid (((Int.gcd x y : Nat) : Int) ≠ 0 → 1 = sg ((Int.gcd x y : Nat) : Int)) := Lib.hid fun h => (sg_pos (by omega)).symm
  obtain ⟨G, hG⟩ : ∃ G, Int.gcd x y = G := ⟨_, rfl⟩
  have HG : Hid (Nat.gcd x.natAbs y.natAbs = G) := Lib.hid hG
  rw [hG] at HG60 HS ⊢
  clear hx hy ha hb na nb hn hn' hG60 hG
  go_enter Tryd.func20, Tryd.ntmps20
  go_wp2_with (fail)
  go_must (refine (right_val (HX.out.keep HR0.out.bl)).mono ?_)
  rintro e w2 ⟨rfl, hb2⟩
  have HR2 := Lib.hid (HR0.out.keep hb2)
  have r0 := R0.out.keep hb2
  have r1 := R1.out.keep hb2
  have c0 := r0.cell 0
  have c1 := r0.cell 1
  have c2 := r1.cell 0
  have c3 := r1.cell 1
  clear hb2 HR0 R0 R1
  go_wp2_with (fail)
  go_must (refine (right_val (HY.out.keep HR2.out.bl)).mono ?_)
  rintro e w3 ⟨rfl, hb3⟩
  have HR3 := Lib.hid (HR2.out.keep hb3)
  replace r0 := r0.keep hb3
  replace r1 := r1.keep hb3
  clear hb3 HR2 c0 c1 c2 c3
  have c0 := r0.cell 0
  have c1 := r0.cell 1
  have c2 := r1.cell 0
  have c3 := r1.cell 1
  clear r0 r1
  go_wp2_with (fail)
  go_must (refine (gcd_any _ (SA.out _ HR3.out.bl) (SB.out _ HR3.out.bl)).mono ?_)
  rintro e w4 ⟨A3, c3', l3, rfl, hi3, hn3, hb4⟩
  rw [HG.out] at hn3
  have HR4 := Lib.hid (HR3.out.keep hb4)
  clear hb4 HR3 c0 c1 c2 c3
  go_wp2_with (fail)
  go_must (refine (signed_any (z := (G : Int)) _ rfl hi3 (hn3.to (by omega)) (HG60.out _ hn3) HS.out).mono ?_)
  rintro e w5 ⟨v, rfl, hv, hb5⟩
  obtain ⟨A7, c7, l7, rfl, _⟩ := hv.ex
  have HR5 := Lib.hid (HR4.out.keep hb5)
  have HV := Lib.hid hv
  have d0 := HR5.out.c0
  have d1 := HR5.out.c1
  have f0 := HR5.out.row.frozen 0
  have f1 := HR5.out.row.frozen 1
  have hg := HR5.out.row.lt
  clear hb5 HR4 hi3 hn3 hv
  go_wp2
  refine bodyPost_ret (v := .tuple #[bigV (sg (G : Int)) A7 l7.length c7, .int .i64 0]) ?_ rfl ⟨_, rfl, HR5.out.big HV.out _ _, HR5.out.put _ _⟩
  simp [results, Tryd.results20, go_sem, *]
end
end Go.Proofs.YtnifkianjpjahaaDoor.Bg
