/- Fall: FallKeeps. -/
import Derived.Test.YtdmbgdbmfenbfaaFaO
import Derived.BigQuiet
namespace Go.Proofs.Ytdmbgdbmfenbfaa.Fa
open Go.ChangeShapes Go.WideShapes Go.ChangeAt Go.RowKit Go.Proofs.Ytdmbgdbmfenbfaa.Cell
set_option linter.unusedVariables false
set_option linter.unusedSimpArgs false

/-- Run of a right deal and of money: too much, or the deal at the bottom -/
theorem run_two (d : Dl) (p : Pl) (m : Int) (w : World) (h : Dm w d p) (hg : rgb d = true) (hm : mon m) : Calls Try.prog 8 #[dval d p, .int .i64 m] w fun e' w' =>
    (e' = .returned (errv 3) ∧ 1000000000000000 < m + d.t + d.e + d.r ∧ Below w.heap.size w w') ∨ (m + d.t ≤ 1000000000000000 ∧ (dwn d m).2.e ≤ 1000000000000000 ∧ RunP w d m e' w') := by
  have hr := rgb_iff.1 hg
  by_cases hs : m + d.t ≤ 1000000000000000
  · refine (run_any d p m w h hg hm hs).mono ?_
    intro e' w' hq
    obtain ⟨_, _, _, _, h5⟩ := dwn_keeps hr hm hs
    unfold RunQ at hq
    by_cases he : (dwn d m).2.e ≤ 1000000000000000
    · rw [if_pos he] at hq
      exact .inr ⟨hs, he, hq⟩
    · rw [if_neg he] at hq
      exact .inl ⟨hq.1, h5 he, hq.2⟩
  · refine (run_err d p m w h (fun x => hs x.2.2)).mono ?_
    rintro e' w' ⟨rfl, hb⟩
    rw [if_pos ⟨hg, hm⟩]
    have h1 := hr.e.1
    have h2 := hr.r.1
    exact .inl ⟨rfl, by omega, hb⟩
theorem two_lit (c r t e m : Int) (tr : List Tr) (te : List Te) (st : List St) (A1 A2 A3 : Option Addr) (c1 c2 c3 q v z : Nat) (w : World) (hq : tr.length = q) (hv : te.length = v) (hz : st.length = z) (h : Dm w ⟨c, r, t, e, tr, te, st⟩ ⟨A1, c1, A2, c2, A3, c3⟩) (hg : rgb ⟨c, r, t, e, tr, te, st⟩ = true) (hm : mon m) : Calls Try.prog 8 #[.agg #[.int .i64 c, .int .i64 r, .int .i64 t, .int .i64 e, .slice A1 q c1, .slice A2 v c2, .slice A3 z c3], .int .i64 m] w fun e' w' =>
    (e' = .returned (errv 3) ∧ 1000000000000000 < m + t + e + r ∧ Below w.heap.size w w') ∨ (m + t ≤ 1000000000000000 ∧ ∃ xs fp fr ft fe ftr B1 d1 B2 d2 B3 d3 At ct, dwn ⟨c, r, t, e, tr, te, st⟩ m = (xs, ⟨fp, fr, ft, fe, ftr⟩) ∧ fe ≤ 1000000000000000 ∧
      e' = .returned (.tuple #[.agg #[.int .i64 c, .int .i64 fr, .int .i64 (ft + fp), .int .i64 fe, .slice B1 q d1, .slice B2 v d2, .slice B3 z d3], .slice At z ct, .int .i64 0]) ∧ Dm w' ⟨c, fr, ft + fp, fe, ftr, te, st⟩ ⟨B1, d1, B2, d2, B3, d3⟩ ∧ Ints w' At xs ∧ Below w.heap.size w w' ∧ ftr.length = q ∧ xs.length = z ∧ q ≤ d1) := by
  subst hq hv hz
  refine (run_two ⟨c, r, t, e, tr, te, st⟩ ⟨A1, c1, A2, c2, A3, c3⟩ m w h hg hm).mono ?_
  rintro e' w' (⟨h1, h2, h3⟩ | ⟨hs, he, hR⟩)
  · exact .inl ⟨h1, h2, h3⟩
  · obtain ⟨a1, _, a3, _, _⟩ := dwn_keeps (rgb_iff.1 hg) hm hs
    obtain ⟨⟨B1, d1, B2, d2, B3, d3⟩, At, ct, rfl, o1, o2, o3, o4, hb⟩ := hR
    obtain ⟨⟨xs, ⟨fp, fr, ft, fe, ftr⟩⟩, hy⟩ : ∃ y, dwn ⟨c, r, t, e, tr, te, st⟩ m = y := ⟨_, rfl⟩
    rw [hy] at a1 a3 o1 o4 he ⊢
    dsimp only at a1 a3 o1 o2 o3 o4 he
    have hl : ftr.length = tr.length := a1.ls.1
    have hc := own_cap o1
    refine .inr ⟨hs, xs, fp, fr, ft, fe, ftr, B1, d1, B2, d2, B3, d3, At, ct, rfl, he, ?_, ⟨rs_own (f := tcs) (K := 2) (fun _ => rfl) rfl o1, rs_own (f := qcs) (K := 2) (fun _ => rfl) rfl o2, rs_own (f := scs) (K := 3) (fun _ => rfl) rfl o3⟩, ints_own o4, hb, hl, a3, by rw [← hl]; exact hc⟩
    show Ending.returned (.tuple #[.agg #[_, _, _, _, .slice B1 ftr.length d1, _, _], _, _]) = _
    rw [hl]
    rfl
section
variable (c r t e m : Int) (tr : List Tr) (te : List Te) (st : List St) (A1 A2 A3 : Option Addr) (c1 c2 c3 q v z : Nat) (w : World)
set_option maxRecDepth 100000 in
set_option maxHeartbeats 8000000 in
theorem keeps_no (hq : tr.length = q) (hv : te.length = v) (hz : st.length = z) (h : Dm w ⟨c, r, t, e, tr, te, st⟩ ⟨A1, c1, A2, c2, A3, c3⟩) (hg : rgb ⟨c, r, t, e, tr, te, st⟩ = false) :
    Calls Try.prog 4 #[.agg #[.int .i64 c, .int .i64 r, .int .i64 t, .int .i64 e, .slice A1 q c1, .slice A2 v c2, .slice A3 z c3], .int .i64 m] w fun e' w' => e' = .returned (.bool true) ∧ Below w.heap.size w w' := by
  have hB0 : Below w.heap.size w (w.alloc (.cells #[.int .i64 c, .int .i64 r, .int .i64 t, .int .i64 e, .slice A1 q c1, .slice A2 v c2, .slice A3 z c3] 26)) := Gen.b_alloc (Below.refl _ _)
  have HD0 := Lib.hid (show Row (w.alloc (.cells #[.int .i64 c, .int .i64 r, .int .i64 t, .int .i64 e, .slice A1 q c1, .slice A2 v c2, .slice A3 z c3] 26)) w.heap.size 26 #[.int .i64 c, .int .i64 r, .int .i64 t, .int .i64 e, .slice A1 q c1, .slice A2 v c2, .slice A3 z c3] from Row.new _ _ _)
  have HM0 := Lib.hid (h.keep hB0)
  have HB0 := Lib.hid hB0
  have HQ := Lib.hid hq
  have HV := Lib.hid hv
  have HZ := Lib.hid hz
  have HG := Lib.hid hg
  clear hg
  clear hB0 h hq hv hz
  go_enter Try.func4, Try.ntmps4
  go_wp2_with (fail)
  go_must (refine (small_any _).mono ?_)
  rintro e1 w1 ⟨rfl, hb⟩
  have HB1 := Lib.hid (Gen.over hb HB0.out)
  have HD1 := Lib.hid (HD0.out.keep hb)
  have HM1 := Lib.hid (HM0.out.keep hb)
  have k0 : w1.cell? ⟨w.heap.size, 0, none⟩ = some (.int .i64 c) := HD1.out.cell 0
  have k1 : w1.cell? ⟨w.heap.size, 1, none⟩ = some (.int .i64 r) := HD1.out.cell 1
  have k2 : w1.cell? ⟨w.heap.size, 2, none⟩ = some (.int .i64 t) := HD1.out.cell 2
  have k3 : w1.cell? ⟨w.heap.size, 3, none⟩ = some (.int .i64 e) := HD1.out.cell 3
  have k4 : w1.cell? ⟨w.heap.size, 4, none⟩ = some (.slice A1 q c1) := HD1.out.cell 4
  have k5 : w1.cell? ⟨w.heap.size, 5, none⟩ = some (.slice A2 v c2) := HD1.out.cell 5
  have k6 : w1.cell? ⟨w.heap.size, 6, none⟩ = some (.slice A3 z c3) := HD1.out.cell 6
  clear hb
  go_wp2_with (fail)
  go_must (refine (right_lit c r t e tr te st _ _ _ _ _ _ _ _ _ _ HQ.out HV.out HZ.out HM1.out).mono ?_)
  rintro e2 w2 ⟨rfl, hb⟩
  rw [HG.out]
  have HB2 := Lib.hid (Gen.over hb HB1.out)
  have HD2 := Lib.hid (HD1.out.keep hb)
  have HM2 := Lib.hid (HM1.out.keep hb)
  clear hb k0 k1 k2 k3 k4 k5 k6
  go_wp2
  go_ret
  exact ⟨rfl, HB2.out⟩
end
section
variable (c r t e m : Int) (tr : List Tr) (te : List Te) (st : List St) (A1 A2 A3 : Option Addr) (c1 c2 c3 q v z : Nat) (w : World)
set_option maxRecDepth 100000 in
set_option maxHeartbeats 8000000 in
theorem keeps_mon (hq : tr.length = q) (hv : te.length = v) (hz : st.length = z) (h : Dm w ⟨c, r, t, e, tr, te, st⟩ ⟨A1, c1, A2, c2, A3, c3⟩) (hg : rgb ⟨c, r, t, e, tr, te, st⟩ = true) (hm : ¬mon m) :
    Calls Try.prog 4 #[.agg #[.int .i64 c, .int .i64 r, .int .i64 t, .int .i64 e, .slice A1 q c1, .slice A2 v c2, .slice A3 z c3], .int .i64 m] w fun e' w' => e' = .returned (.bool true) ∧ Below w.heap.size w w' := by
  have hB0 : Below w.heap.size w (w.alloc (.cells #[.int .i64 c, .int .i64 r, .int .i64 t, .int .i64 e, .slice A1 q c1, .slice A2 v c2, .slice A3 z c3] 26)) := Gen.b_alloc (Below.refl _ _)
  have HD0 := Lib.hid (show Row (w.alloc (.cells #[.int .i64 c, .int .i64 r, .int .i64 t, .int .i64 e, .slice A1 q c1, .slice A2 v c2, .slice A3 z c3] 26)) w.heap.size 26 #[.int .i64 c, .int .i64 r, .int .i64 t, .int .i64 e, .slice A1 q c1, .slice A2 v c2, .slice A3 z c3] from Row.new _ _ _)
  have HM0 := Lib.hid (h.keep hB0)
  have HB0 := Lib.hid hB0
  have HQ := Lib.hid hq
  have HV := Lib.hid hv
  have HZ := Lib.hid hz
  have HG := Lib.hid hg
  have HMm := Lib.hid (decide_eq_false hm)
  clear hg hm
  clear hB0 h hq hv hz
  go_enter Try.func4, Try.ntmps4
  go_wp2_with (fail)
  go_must (refine (small_any _).mono ?_)
  rintro e1 w1 ⟨rfl, hb⟩
  have HB1 := Lib.hid (Gen.over hb HB0.out)
  have HD1 := Lib.hid (HD0.out.keep hb)
  have HM1 := Lib.hid (HM0.out.keep hb)
  have k0 : w1.cell? ⟨w.heap.size, 0, none⟩ = some (.int .i64 c) := HD1.out.cell 0
  have k1 : w1.cell? ⟨w.heap.size, 1, none⟩ = some (.int .i64 r) := HD1.out.cell 1
  have k2 : w1.cell? ⟨w.heap.size, 2, none⟩ = some (.int .i64 t) := HD1.out.cell 2
  have k3 : w1.cell? ⟨w.heap.size, 3, none⟩ = some (.int .i64 e) := HD1.out.cell 3
  have k4 : w1.cell? ⟨w.heap.size, 4, none⟩ = some (.slice A1 q c1) := HD1.out.cell 4
  have k5 : w1.cell? ⟨w.heap.size, 5, none⟩ = some (.slice A2 v c2) := HD1.out.cell 5
  have k6 : w1.cell? ⟨w.heap.size, 6, none⟩ = some (.slice A3 z c3) := HD1.out.cell 6
  clear hb
  go_wp2_with (fail)
  go_must (refine (right_lit c r t e tr te st _ _ _ _ _ _ _ _ _ _ HQ.out HV.out HZ.out HM1.out).mono ?_)
  rintro e2 w2 ⟨rfl, hb⟩
  rw [HG.out]
  have HB2 := Lib.hid (Gen.over hb HB1.out)
  have HD2 := Lib.hid (HD1.out.keep hb)
  have HM2 := Lib.hid (HM1.out.keep hb)
  clear hb k0 k1 k2 k3 k4 k5 k6
  go_wp2_with (fail)
  go_must (refine (rmoney_any _ _).mono ?_)
  rintro e3 w3 ⟨rfl, rfl⟩
  rw [HMm.out]
  go_wp2
  go_ret
  exact ⟨rfl, HB2.out⟩
end
section
variable (c r t e m : Int) (tr : List Tr) (te : List Te) (st : List St) (A1 A2 A3 : Option Addr) (c1 c2 c3 q v z : Nat) (w : World)
set_option maxRecDepth 100000 in
set_option maxHeartbeats 8000000 in
theorem keeps_yes (hq : tr.length = q) (hv : te.length = v) (hz : st.length = z) (h : Dm w ⟨c, r, t, e, tr, te, st⟩ ⟨A1, c1, A2, c2, A3, c3⟩) (hg : rgb ⟨c, r, t, e, tr, te, st⟩ = true) (hm : mon m) :
    Calls Try.prog 4 #[.agg #[.int .i64 c, .int .i64 r, .int .i64 t, .int .i64 e, .slice A1 q c1, .slice A2 v c2, .slice A3 z c3], .int .i64 m] w fun e' w' => e' = .returned (.bool true) ∧ Below w.heap.size w w' := by
  have hB0 : Below w.heap.size w (w.alloc (.cells #[.int .i64 c, .int .i64 r, .int .i64 t, .int .i64 e, .slice A1 q c1, .slice A2 v c2, .slice A3 z c3] 26)) := Gen.b_alloc (Below.refl _ _)
  have HD0 := Lib.hid (show Row (w.alloc (.cells #[.int .i64 c, .int .i64 r, .int .i64 t, .int .i64 e, .slice A1 q c1, .slice A2 v c2, .slice A3 z c3] 26)) w.heap.size 26 #[.int .i64 c, .int .i64 r, .int .i64 t, .int .i64 e, .slice A1 q c1, .slice A2 v c2, .slice A3 z c3] from Row.new _ _ _)
  have HM0 := Lib.hid (h.keep hB0)
  have HB0 := Lib.hid hB0
  have HQ := Lib.hid hq
  have HV := Lib.hid hv
  have HZ := Lib.hid hz
  have HG := Lib.hid hg
  have HMm := Lib.hid (decide_eq_true hm)
  have HMO := Lib.hid hm
  clear hg hm
  clear hB0 h hq hv hz
  go_enter Try.func4, Try.ntmps4
  go_wp2_with (fail)
  go_must (refine (small_any _).mono ?_)
  rintro e1 w1 ⟨rfl, hb⟩
  have HB1 := Lib.hid (Gen.over hb HB0.out)
  have HD1 := Lib.hid (HD0.out.keep hb)
  have HM1 := Lib.hid (HM0.out.keep hb)
  have k0 : w1.cell? ⟨w.heap.size, 0, none⟩ = some (.int .i64 c) := HD1.out.cell 0
  have k1 : w1.cell? ⟨w.heap.size, 1, none⟩ = some (.int .i64 r) := HD1.out.cell 1
  have k2 : w1.cell? ⟨w.heap.size, 2, none⟩ = some (.int .i64 t) := HD1.out.cell 2
  have k3 : w1.cell? ⟨w.heap.size, 3, none⟩ = some (.int .i64 e) := HD1.out.cell 3
  have k4 : w1.cell? ⟨w.heap.size, 4, none⟩ = some (.slice A1 q c1) := HD1.out.cell 4
  have k5 : w1.cell? ⟨w.heap.size, 5, none⟩ = some (.slice A2 v c2) := HD1.out.cell 5
  have k6 : w1.cell? ⟨w.heap.size, 6, none⟩ = some (.slice A3 z c3) := HD1.out.cell 6
  clear hb
  go_wp2_with (fail)
  go_must (refine (right_lit c r t e tr te st _ _ _ _ _ _ _ _ _ _ HQ.out HV.out HZ.out HM1.out).mono ?_)
  rintro e2 w2 ⟨rfl, hb⟩
  rw [HG.out]
  have HB2 := Lib.hid (Gen.over hb HB1.out)
  have HD2 := Lib.hid (HD1.out.keep hb)
  have HM2 := Lib.hid (HM1.out.keep hb)
  clear hb k0 k1 k2 k3 k4 k5 k6
  go_wp2_with (fail)
  go_must (refine (rmoney_any _ _).mono ?_)
  rintro e3 w3 ⟨rfl, rfl⟩
  rw [HMm.out]
  have k0 : w2.cell? ⟨w.heap.size, 0, none⟩ = some (.int .i64 c) := HD2.out.cell 0
  have k1 : w2.cell? ⟨w.heap.size, 1, none⟩ = some (.int .i64 r) := HD2.out.cell 1
  have k2 : w2.cell? ⟨w.heap.size, 2, none⟩ = some (.int .i64 t) := HD2.out.cell 2
  have k3 : w2.cell? ⟨w.heap.size, 3, none⟩ = some (.int .i64 e) := HD2.out.cell 3
  have k4 : w2.cell? ⟨w.heap.size, 4, none⟩ = some (.slice A1 q c1) := HD2.out.cell 4
  have k5 : w2.cell? ⟨w.heap.size, 5, none⟩ = some (.slice A2 v c2) := HD2.out.cell 5
  have k6 : w2.cell? ⟨w.heap.size, 6, none⟩ = some (.slice A3 z c3) := HD2.out.cell 6
  go_wp2_with (fail)
  go_must (refine (two_lit c r t e m tr te st _ _ _ _ _ _ _ _ _ _ HQ.out HV.out HZ.out HM2.out HG.out HMO.out).mono ?_)
  intro e3 w3 hcase
  have HRG := Lib.hid (rgb_iff.1 HG.out)
  have hl1 : q ≤ 40 := by rw [← HQ.out]; exact HRG.out.l1
  have hl3 : z ≤ 40 := by rw [← HZ.out]; exact HRG.out.l3
  have bm1 := HMO.out.1
  have bm2 := HMO.out.2
  have bt1 := HRG.out.t.1
  have bt2 := HRG.out.t.2
  have br1 := HRG.out.r.1
  have br2 := HRG.out.r.2
  have be1 := HRG.out.e.1
  have be2 := HRG.out.e.2
  dsimp only at bt1 bt2 br1 br2 be1 be2
  have y1 : IntKind.i64.wrap (m + t) = m + t := IntWalk.i64_in _ (by omega)
  have y2 : IntKind.i64.wrap (m + t + e) = m + t + e := IntWalk.i64_in _ (by omega)
  have y3 : IntKind.i64.wrap (m + t + e + r) = m + t + e + r := IntWalk.i64_in _ (by omega)
  clear k0 k1 k2 k3 k4 k5 k6
  rcases hcase with ⟨rfl, hbig, hb⟩ | ⟨hs, xs, fp, fr, ft, fe, ftr, B1, d1, B2, d2, B3, d3, At, ct, hd, he, rfl, hM3, hI3, hb, hfl, hxl, hqd⟩
  · have HD3 := HD2.out.keep hb
    have HB3 := Lib.hid (Gen.over hb HB2.out)
    have k1 : w3.cell? ⟨w.heap.size, 1, none⟩ = some (.int .i64 r) := HD3.cell 1
    have k2 : w3.cell? ⟨w.heap.size, 2, none⟩ = some (.int .i64 t) := HD3.cell 2
    have k3 : w3.cell? ⟨w.heap.size, 3, none⟩ = some (.int .i64 e) := HD3.cell 3
    have k1' := Gen.al (o := .cells #[.int .i64 0, .int .i64 0, .int .i64 0, .int .i64 0, .slice none 0 0, .slice none 0 0, .slice none 0 0] 26) k1
    have k2' := Gen.al (o := .cells #[.int .i64 0, .int .i64 0, .int .i64 0, .int .i64 0, .slice none 0 0, .slice none 0 0, .slice none 0 0] 26) k2
    have k3' := Gen.al (o := .cells #[.int .i64 0, .int .i64 0, .int .i64 0, .int .i64 0, .slice none 0 0, .slice none 0 0, .slice none 0 0] 26) k3
    have HB4 := Lib.hid (Gen.b_alloc (x := .cells #[.int .i64 0, .int .i64 0, .int .i64 0, .int .i64 0, .slice none 0 0, .slice none 0 0, .slice none 0 0] 26) HB3.out)
    clear HD3 hb k1 k2 k3
    dsimp only [errv]
    go_wp2
    go_ret
    exact ⟨rfl, HB4.out⟩
  · dsimp only
    obtain ⟨a1, a2, a3, a4, _⟩ := dwn_keeps HRG.out HMO.out hs
    rw [hd] at a1 a2 a3 a4
    have hrg2 : rgb ⟨c, fr, ft + fp, fe, ftr, te, st⟩ = true := rgb_iff.2 (a4.2 he)
    have HKP := Lib.hid a1.kp
    have HEQ : e ≤ fe := a1.e
    have HLS := Lib.hid a1.ls
    have HPS := Lib.hid (less_sum a1.ls)
    have hok := a1.ok
    have HOKT := Lib.hid hok.tr
    have bp := hok.p
    have bft := hok.t
    have bpt := hok.pt
    have bfe := hok.e
    have bfr1 := hok.r.1
    have bfr2 := hok.r.2
    dsimp only at bp bft bpt bfe bfr1 bfr2 he
    have HXS := Lib.hid a2
    have HFL := Lib.hid hfl
    have HXL := Lib.hid hxl
    have hx : Below w3.heap.size w3 (w3.alloc (.cells #[.int .i64 c, .int .i64 fr, .int .i64 (ft + fp), .int .i64 fe, .slice B1 q d1, .slice B2 v d2, .slice B3 z d3] 26)) := Gen.b_alloc (Below.refl _ _)
    have HB4 := Lib.hid (Gen.over hx (Gen.over hb HB2.out))
    have HD4 := Lib.hid ((HD2.out.keep hb).keep hx)
    have HM4 := Lib.hid ((HM2.out.keep hb).keep hx)
    have HA4 := Lib.hid (show Row (w3.alloc (.cells #[.int .i64 c, .int .i64 fr, .int .i64 (ft + fp), .int .i64 fe, .slice B1 q d1, .slice B2 v d2, .slice B3 z d3] 26)) w3.heap.size 26 #[.int .i64 c, .int .i64 fr, .int .i64 (ft + fp), .int .i64 fe, .slice B1 q d1, .slice B2 v d2, .slice B3 z d3] from Row.new _ _ _)
    have HN4 := Lib.hid (hM3.keep hx)
    have HI4 := Lib.hid (hI3.keep hx)
    have hgt : ¬ (w3.heap.size = w.heap.size) := by have := (HD2.out.keep hb).lt; omega
    have k0 : (w3.alloc (.cells #[.int .i64 c, .int .i64 fr, .int .i64 (ft + fp), .int .i64 fe, .slice B1 q d1, .slice B2 v d2, .slice B3 z d3] 26)).cell? ⟨w.heap.size, 0, none⟩ = some (.int .i64 c) := HD4.out.cell 0
    have k1 : (w3.alloc (.cells #[.int .i64 c, .int .i64 fr, .int .i64 (ft + fp), .int .i64 fe, .slice B1 q d1, .slice B2 v d2, .slice B3 z d3] 26)).cell? ⟨w.heap.size, 1, none⟩ = some (.int .i64 r) := HD4.out.cell 1
    have k2 : (w3.alloc (.cells #[.int .i64 c, .int .i64 fr, .int .i64 (ft + fp), .int .i64 fe, .slice B1 q d1, .slice B2 v d2, .slice B3 z d3] 26)).cell? ⟨w.heap.size, 2, none⟩ = some (.int .i64 t) := HD4.out.cell 2
    have k3 : (w3.alloc (.cells #[.int .i64 c, .int .i64 fr, .int .i64 (ft + fp), .int .i64 fe, .slice B1 q d1, .slice B2 v d2, .slice B3 z d3] 26)).cell? ⟨w.heap.size, 3, none⟩ = some (.int .i64 e) := HD4.out.cell 3
    have k4 : (w3.alloc (.cells #[.int .i64 c, .int .i64 fr, .int .i64 (ft + fp), .int .i64 fe, .slice B1 q d1, .slice B2 v d2, .slice B3 z d3] 26)).cell? ⟨w.heap.size, 4, none⟩ = some (.slice A1 q c1) := HD4.out.cell 4
    have k5 : (w3.alloc (.cells #[.int .i64 c, .int .i64 fr, .int .i64 (ft + fp), .int .i64 fe, .slice B1 q d1, .slice B2 v d2, .slice B3 z d3] 26)).cell? ⟨w.heap.size, 5, none⟩ = some (.slice A2 v c2) := HD4.out.cell 5
    have k6 : (w3.alloc (.cells #[.int .i64 c, .int .i64 fr, .int .i64 (ft + fp), .int .i64 fe, .slice B1 q d1, .slice B2 v d2, .slice B3 z d3] 26)).cell? ⟨w.heap.size, 6, none⟩ = some (.slice A3 z c3) := HD4.out.cell 6
    have a0 : (w3.alloc (.cells #[.int .i64 c, .int .i64 fr, .int .i64 (ft + fp), .int .i64 fe, .slice B1 q d1, .slice B2 v d2, .slice B3 z d3] 26)).cell? ⟨w3.heap.size, 0, none⟩ = some (.int .i64 c) := HA4.out.cell 0
    have a1 : (w3.alloc (.cells #[.int .i64 c, .int .i64 fr, .int .i64 (ft + fp), .int .i64 fe, .slice B1 q d1, .slice B2 v d2, .slice B3 z d3] 26)).cell? ⟨w3.heap.size, 1, none⟩ = some (.int .i64 fr) := HA4.out.cell 1
    have a2 : (w3.alloc (.cells #[.int .i64 c, .int .i64 fr, .int .i64 (ft + fp), .int .i64 fe, .slice B1 q d1, .slice B2 v d2, .slice B3 z d3] 26)).cell? ⟨w3.heap.size, 2, none⟩ = some (.int .i64 (ft + fp)) := HA4.out.cell 2
    have a3 : (w3.alloc (.cells #[.int .i64 c, .int .i64 fr, .int .i64 (ft + fp), .int .i64 fe, .slice B1 q d1, .slice B2 v d2, .slice B3 z d3] 26)).cell? ⟨w3.heap.size, 3, none⟩ = some (.int .i64 fe) := HA4.out.cell 3
    have a4 : (w3.alloc (.cells #[.int .i64 c, .int .i64 fr, .int .i64 (ft + fp), .int .i64 fe, .slice B1 q d1, .slice B2 v d2, .slice B3 z d3] 26)).cell? ⟨w3.heap.size, 4, none⟩ = some (.slice B1 q d1) := HA4.out.cell 4
    have a5 : (w3.alloc (.cells #[.int .i64 c, .int .i64 fr, .int .i64 (ft + fp), .int .i64 fe, .slice B1 q d1, .slice B2 v d2, .slice B3 z d3] 26)).cell? ⟨w3.heap.size, 5, none⟩ = some (.slice B2 v d2) := HA4.out.cell 5
    have a6 : (w3.alloc (.cells #[.int .i64 c, .int .i64 fr, .int .i64 (ft + fp), .int .i64 fe, .slice B1 q d1, .slice B2 v d2, .slice B3 z d3] 26)).cell? ⟨w3.heap.size, 6, none⟩ = some (.slice B3 z d3) := HA4.out.cell 6
    have HRG2 := Lib.hid hrg2
    clear hd a1 a2 a3 a4 hrg2 hok hx hb hM3 hI3 hfl hxl HB1 HD1 HM1 HB2 HD2 HM2 HB0 HD0 HM0 hs
    go_wp2_with (fail)
    go_must (refine (right_lit c fr (ft + fp) fe ftr te st _ _ _ _ _ _ _ _ _ _ HFL.out HV.out HZ.out HN4.out).mono ?_)
    rintro e5 w5 ⟨rfl, hb⟩
    rw [HRG2.out]
    have HB5 := Lib.hid (Gen.over hb HB4.out)
    have HD5 := Lib.hid (HD4.out.keep hb)
    have HA5 := Lib.hid (HA4.out.keep hb)
    have HM5 := Lib.hid (HM4.out.keep hb)
    have HN5 := Lib.hid (HN4.out.keep hb)
    have HI5 := Lib.hid (HI4.out.keep hb)
    clear hb k0 k1 k2 k3 k4 k5 k6 a0 a1 a2 a3 a4 a5 a6 HB4 HD4 HA4 HM4 HN4 HI4
    have k0 : w5.cell? ⟨w.heap.size, 0, none⟩ = some (.int .i64 c) := HD5.out.cell 0
    have k3 : w5.cell? ⟨w.heap.size, 3, none⟩ = some (.int .i64 e) := HD5.out.cell 3
    have a0 : w5.cell? ⟨w3.heap.size, 0, none⟩ = some (.int .i64 c) := HA5.out.cell 0
    have a3 : w5.cell? ⟨w3.heap.size, 3, none⟩ = some (.int .i64 fe) := HA5.out.cell 3
    go_wp2_with (fail)
    clear k0 k3 a0 a3
    go_loopw [9] (fun iv wr => ∃ k : Nat, k ≤ z ∧ iv = .int .i64 k ∧ Below w5.heap.size w5 wr) (fun iv _ => z - (intOf iv).toNat)
    case atStart => exact ⟨0, Nat.zero_le _, rfl, Below.refl _ _⟩
    case round =>
      obtain ⟨k, hk, rfl, hW⟩ := hrel
      have kk0 : (0 : Int) ≤ (k : Int) := by omega
      by_cases hlt : k < z
      · have hltI : (k : Int) < (z : Int) := by omega
        obtain ⟨x, hx⟩ := at_ xs k (by rw [HXL.out]; exact hlt)
        obtain ⟨b, off, rfl, hcell⟩ := (HI5.out.keep hW) (by rw [HXL.out]; omega)
        have c0 := hcell k x hx
        obtain ⟨x0, _⟩ := HXS.out x (mem_of_at hx)
        clear hcell hx
        go_wp2
        go_roundw
        case rel => first | exact ⟨k + 1, by omega, by go_num, hW⟩ | exact ⟨k + 1, by omega, by go_num⟩
        case measure => simp [intOf]; omega
      · obtain rfl : k = z := by omega
        have HB6 := Lib.hid (Gen.over hW HB5.out)
        have HD6 := Lib.hid (HD5.out.keep hW)
        have HA6 := Lib.hid (HA5.out.keep hW)
        have HM6 := Lib.hid (HM5.out.keep hW)
        have HN6 := Lib.hid (HN5.out.keep hW)
        clear hW HB5 HD5 HA5 HM5 HN5 HI5 hlt hk
        go_wp2_with (fail)
        obtain ⟨w6, rfl⟩ : ∃ x, x = wr := ⟨_, rfl⟩
        go_loopw [10] (fun iv wr => ∃ i : Nat, i ≤ q ∧ iv = .int .i64 i ∧ Below w6.heap.size w6 wr) (fun iv _ => q - (intOf iv).toNat)
        case atStart => exact ⟨0, Nat.zero_le _, rfl, Below.refl _ _⟩
        case round =>
          obtain ⟨i, hi, rfl, hW⟩ := hrel
          have ii0 : (0 : Int) ≤ (i : Int) := by omega
          have k4 : wr.cell? ⟨w.heap.size, 4, none⟩ = some (.slice A1 q c1) := (HD6.out.keep hW).cell 4
          have a4 : wr.cell? ⟨w3.heap.size, 4, none⟩ = some (.slice B1 q d1) := (HA6.out.keep hW).cell 4
          by_cases hlt : i < q
          · have hltI : (i : Int) < (q : Int) := by omega
            obtain ⟨⟨xb, xu⟩, hx⟩ := at_ tr i (by rw [HQ.out]; exact hlt)
            obtain ⟨⟨yb, yu⟩, hy⟩ := at_ ftr i (by rw [HFL.out]; exact hlt)
            obtain ⟨b, off, rfl, hcell⟩ := (HM6.out.keep hW).t1 (by dsimp only; rw [HQ.out]; omega)
            obtain ⟨b2, off2, rfl, hcell2⟩ := (HN6.out.keep hW).t1 (by dsimp only; rw [HFL.out]; omega)
            have e0 := hcell i _ hx 0 _ rfl
            have e1 := hcell i _ hx 1 _ rfl
            have g0 := hcell2 i _ hy 0 _ rfl
            have g1 := hcell2 i _ hy 1 _ rfl
            rw [Nat.add_zero] at e0 g0
            dsimp only at e0 e1 g0 g1
            obtain ⟨l1, l2⟩ := HLS.out.2 i _ _ hy hx
            dsimp only at l1 l2
            have l1' : decide (xb < yb) = false := decide_eq_false (by omega)
            have l2' : decide (xu < yu) = false := decide_eq_false (by omega)
            have HW := Lib.hid hW
            clear hcell hcell2 hx hy hW hlt
            go_wp2
            go_quiet (fail)
            go_wp2
            go_roundw
            case rel => first | exact ⟨i + 1, by omega, by go_num, Gen.dN HW.out _⟩ | exact ⟨i + 1, by omega, by go_num, HW.out⟩
            case measure => simp [intOf]; omega
          · obtain rfl : i = q := by omega
            have HB7 := Lib.hid (Gen.over hW HB6.out)
            have hD7 := HD6.out.keep hW
            have hA7 := HA6.out.keep hW
            have hM7 := HM6.out.keep hW
            have hN7 := HN6.out.keep hW
            have hP := HPS.out
            obtain ⟨o1, o2⟩ := owe_pos HRG.out.tr tr.length (Nat.le_refl _)
            obtain ⟨o3, o4⟩ := owe_pos HOKT.out ftr.length (Nat.le_refl _)
            rw [owe_all] at o1 o2 o3 o4
            dsimp only at o1 o2 o3 o4
            rw [HQ.out] at o2
            rw [HFL.out] at o4
            have hkp := HKP.out
            unfold top at hkp
            dsimp only at hkp
            obtain ⟨s1, hs1⟩ : ∃ s1, bal tr + due tr = s1 := ⟨_, rfl⟩
            obtain ⟨s2, hs2⟩ : ∃ s2, bal ftr + due ftr = s2 := ⟨_, rfl⟩
            rw [hs1] at o1 o2
            rw [hs2] at o3 o4
            have hkp2 : s2 - fp - fr - ft - fe = s1 - (m + t) - r - 0 - e := by omega
            have HSC : Hid (∀ W' : World, Below wr.heap.size wr W' → Below wr.heap.size wr W' ∧ W'.cell? ⟨w.heap.size, 0, none⟩ = some (.int .i64 c) ∧ W'.cell? ⟨w.heap.size, 1, none⟩ = some (.int .i64 r) ∧ W'.cell? ⟨w.heap.size, 2, none⟩ = some (.int .i64 t) ∧ W'.cell? ⟨w.heap.size, 3, none⟩ = some (.int .i64 e) ∧ W'.cell? ⟨w.heap.size, 4, none⟩ = some (.slice A1 i c1) ∧ W'.cell? ⟨w.heap.size, 5, none⟩ = some (.slice A2 v c2) ∧ W'.cell? ⟨w.heap.size, 6, none⟩ = some (.slice A3 k c3) ∧ W'.cell? ⟨w3.heap.size, 0, none⟩ = some (.int .i64 c) ∧ W'.cell? ⟨w3.heap.size, 1, none⟩ = some (.int .i64 fr) ∧ W'.cell? ⟨w3.heap.size, 2, none⟩ = some (.int .i64 (ft + fp)) ∧ W'.cell? ⟨w3.heap.size, 3, none⟩ = some (.int .i64 fe) ∧ W'.cell? ⟨w3.heap.size, 4, none⟩ = some (.slice B1 i d1) ∧ W'.cell? ⟨w3.heap.size, 5, none⟩ = some (.slice B2 v d2) ∧ W'.cell? ⟨w3.heap.size, 6, none⟩ = some (.slice B3 k d3)) := Lib.hid (fun W' hw => ⟨hw, (hD7.keep hw).cell 0, (hD7.keep hw).cell 1, (hD7.keep hw).cell 2, (hD7.keep hw).cell 3, (hD7.keep hw).cell 4, (hD7.keep hw).cell 5, (hD7.keep hw).cell 6, (hA7.keep hw).cell 0, (hA7.keep hw).cell 1, (hA7.keep hw).cell 2, (hA7.keep hw).cell 3, (hA7.keep hw).cell 4, (hA7.keep hw).cell 5, (hA7.keep hw).cell 6⟩)
            have HOD : Hid (∀ W' : World, Below wr.heap.size wr W' → Calls Try.prog 17 #[.agg #[.int .i64 c, .int .i64 r, .int .i64 t, .int .i64 e, .slice A1 i c1, .slice A2 v c2, .slice A3 k c3]] W' fun e' w' => e' = .returned (.int .i64 s1) ∧ Below W'.heap.size W' w') := Lib.hid (fun W' hw => by
              rw [← hs1]
              exact owed_lit c r t e tr A1 A2 A3 c1 c2 c3 i v k W' HQ.out (hM7.t1.keep hw) HRG.out.tr hl1)
            have HOA : Hid (∀ W' : World, Below wr.heap.size wr W' → Calls Try.prog 17 #[.agg #[.int .i64 c, .int .i64 fr, .int .i64 (ft + fp), .int .i64 fe, .slice B1 i d1, .slice B2 v d2, .slice B3 k d3]] W' fun e' w' => e' = .returned (.int .i64 s2) ∧ Below W'.heap.size W' w') := Lib.hid (fun W' hw => by
              rw [← hs2]
              exact owed_lit c fr (ft + fp) fe ftr B1 B2 B3 d1 d2 d3 i v k W' HFL.out (hN7.t1.keep hw) HOKT.out hl1)
            have x1 : IntKind.i64.wrap (m + t + r) = m + t + r := IntWalk.i64_in _ (by omega)
            have x2 : IntKind.i64.wrap (s1 - s2) = s1 - s2 := IntWalk.i64_in _ (by omega)
            have x3 : IntKind.i64.wrap (s1 - s2 + (ft + fp)) = s1 - s2 + (ft + fp) := IntWalk.i64_in _ (by omega)
            have x4 : IntKind.i64.wrap (s1 - s2 + (ft + fp) + fr) = s1 - s2 + (ft + fp) + fr := IntWalk.i64_in _ (by omega)
            have x5 : IntKind.i64.wrap (s1 - s2 + (ft + fp) + fr + fe) = s1 - s2 + (ft + fp) + fr + fe := IntWalk.i64_in _ (by omega)
            have x6 : IntKind.i64.wrap (s1 - s2 + (ft + fp) + fr + fe - e) = s1 - s2 + (ft + fp) + fr + fe - e := IntWalk.i64_in _ (by omega)
            have HFIN : Hid (m + t + r = s1 - s2 + (ft + fp) + fr + fe - e) := Lib.hid (by omega)
            have k1 : wr.cell? ⟨w.heap.size, 1, none⟩ = some (.int .i64 r) := hD7.cell 1
            have k2 : wr.cell? ⟨w.heap.size, 2, none⟩ = some (.int .i64 t) := hD7.cell 2
            have k4 : wr.cell? ⟨w.heap.size, 4, none⟩ = some (.slice A1 i c1) := hD7.cell 4
            clear hD7 hA7 hM7 hN7 hP hkp hkp2 hs1 hs2 hW HD6 HA6 HM6 HN6 hlt hi
            go_wp2
            clear y1 y2 y3
            go_region_held3 (fun W' : World => Below wr.heap.size wr W' ∧ W'.cell? ⟨w.heap.size, 0, none⟩ = some (.int .i64 c) ∧ W'.cell? ⟨w.heap.size, 1, none⟩ = some (.int .i64 r) ∧ W'.cell? ⟨w.heap.size, 2, none⟩ = some (.int .i64 t) ∧ W'.cell? ⟨w.heap.size, 3, none⟩ = some (.int .i64 e) ∧ W'.cell? ⟨w.heap.size, 4, none⟩ = some (.slice A1 i c1) ∧ W'.cell? ⟨w.heap.size, 5, none⟩ = some (.slice A2 v c2) ∧ W'.cell? ⟨w.heap.size, 6, none⟩ = some (.slice A3 k c3) ∧ W'.cell? ⟨w3.heap.size, 0, none⟩ = some (.int .i64 c) ∧ W'.cell? ⟨w3.heap.size, 1, none⟩ = some (.int .i64 fr) ∧ W'.cell? ⟨w3.heap.size, 2, none⟩ = some (.int .i64 (ft + fp)) ∧ W'.cell? ⟨w3.heap.size, 3, none⟩ = some (.int .i64 fe) ∧ W'.cell? ⟨w3.heap.size, 4, none⟩ = some (.slice B1 i d1) ∧ W'.cell? ⟨w3.heap.size, 5, none⟩ = some (.slice B2 v d2) ∧ W'.cell? ⟨w3.heap.size, 6, none⟩ = some (.slice B3 k d3))
              (first | exact HSC.out _ (Below.refl _ _).drew | exact HSC.out _ (Gen.over hz2 (And.left (by assumption))) | exact HSC.out _ (Gen.over hz1 (And.left (by assumption))))
              (first
                | (go_at_call 17; (with_reducible refine (HOD.out _ (And.left (by assumption))).mono ?_); rintro e' z1 ⟨rfl, hz1⟩; have hz1' := Gen.over hz1 (And.left (by assumption)))
                | (go_at_call 17; (with_reducible refine (HOA.out _ (And.left (by assumption))).mono ?_); rintro e' z2 ⟨rfl, hz2⟩; have hz2' := Gen.over hz2 (And.left (by assumption)))
                | fail "arm")
            all_goals
              have HB9 := Lib.hid (Gen.over hz2' HB7.out)
              go_wp2
              go_ret
              exact ⟨ret_bool (beq_iff_eq.2 HFIN.out), HB9.out⟩
end
theorem keeps_any (d : Dl) (p : Pl) (m : Int) (w : World) (h : Dm w d p) : Calls Try.prog 4 #[dval d p, .int .i64 m] w fun e' w' => e' = .returned (.bool true) ∧ Below w.heap.size w w' := by
  obtain ⟨c, r, t, e, tr, te, st⟩ := d
  obtain ⟨A1, c1, A2, c2, A3, c3⟩ := p
  by_cases hg : rgb ⟨c, r, t, e, tr, te, st⟩ = true
  · by_cases hm : mon m
    · exact keeps_yes c r t e m tr te st A1 A2 A3 c1 c2 c3 _ _ _ w rfl rfl rfl h hg hm
    · exact keeps_mon c r t e m tr te st A1 A2 A3 c1 c2 c3 _ _ _ w rfl rfl rfl h hg hm
  · exact keeps_no c r t e m tr te st A1 A2 A3 c1 c2 c3 _ _ _ w rfl rfl rfl h (by simpa using hg)
end Go.Proofs.Ytdmbgdbmfenbfaa.Fa
