/- Fall: Right. -/
import Derived.Test.YtdmbgdbmfenbfaaFaC
namespace Go.Proofs.Ytdmbgdbmfenbfaa.Fa
open Go.ChangeShapes Go.WideShapes Go.ChangeAt Go.RowKit Go.Proofs.Ytdmbgdbmfenbfaa.Cell
set_option linter.unusedVariables false
set_option linter.unusedSimpArgs false

/-- whether a deal is right -/
def rgb (d : Dl) : Bool := decide (mon d.c ∧ mon d.r ∧ mon d.t ∧ mon d.e) && decide (d.tr.length ≤ 40 ∧ d.te.length ≤ 40 ∧ d.st.length ≤ 40) && (!d.tr.any pT && !d.te.any (pQ d.tr.length) && !d.st.any (pS d.tr.length d.te.length))
theorem rgb_iff {d : Dl} : rgb d = true ↔ Rgt d := by
  unfold rgb pT pQ pS
  simp only [Bool.and_eq_true, decide_eq_true_iff, Bool.not_eq_true', List.any_eq_false, Bool.not_eq_true, Bool.not_eq_false', decide_eq_false_iff_not, Bool.not_eq_eq_eq_not, Decidable.not_not, Bool.not_true]
  constructor
  · rintro ⟨⟨⟨h1, h2, h3, h4⟩, h5, h6, h7⟩, ⟨h8, h9⟩, h10⟩
    exact ⟨h1, h2, h3, h4, h5, h6, h7, by simpa using h8, by simpa using h9, by simpa using h10⟩
  · rintro ⟨h1, h2, h3, h4, h5, h6, h7, h8, h9, h10⟩
    exact ⟨⟨⟨h1, h2, h3, h4⟩, h5, h6, h7⟩, ⟨by simpa using h8, by simpa using h9⟩, by simpa using h10⟩
theorem rgb_no {d : Dl} (h : ¬Rgt d) : rgb d = false := Bool.eq_false_iff.2 (fun e => h (rgb_iff.1 e))
set_option maxRecDepth 100000 in
set_option maxHeartbeats 8000000 in
theorem right_lit (c r t e : Int) (tr : List Tr) (te : List Te) (st : List St) (A1 A2 A3 : Option Addr) (c1 c2 c3 q v z : Nat) (w : World) (hq : tr.length = q) (hv : te.length = v) (hz : st.length = z) (h : Dm w ⟨c, r, t, e, tr, te, st⟩ ⟨A1, c1, A2, c2, A3, c3⟩) :
    Calls Try.prog 12 #[.agg #[.int .i64 c, .int .i64 r, .int .i64 t, .int .i64 e, .slice A1 q c1, .slice A2 v c2, .slice A3 z c3]] w fun e' w' => e' = .returned (.bool (rgb ⟨c, r, t, e, tr, te, st⟩)) ∧ Below w.heap.size w w' := by
  have hB : Below w.heap.size w (w.alloc (.cells #[.int .i64 c, .int .i64 r, .int .i64 t, .int .i64 e, .slice A1 q c1, .slice A2 v c2, .slice A3 z c3] 26)) := Gen.b_alloc (Below.refl _ _)
  have HM := Lib.hid (h.keep hB)
  have HA := Lib.hid (show DmAt (w.alloc (.cells #[.int .i64 c, .int .i64 r, .int .i64 t, .int .i64 e, .slice A1 q c1, .slice A2 v c2, .slice A3 z c3] 26)) w.heap.size ⟨c, r, t, e, tr, te, st⟩ ⟨A1, c1, A2, c2, A3, c3⟩ from by
    constructor <;> (dsimp only; (try rw [hq]); (try rw [hv]); (try rw [hz]); simp [go_sem]))
  have HB := Lib.hid hB
  have HQ := Lib.hid hq
  have HV := Lib.hid hv
  have HZ := Lib.hid hz
  clear hB h hq hv hz
  by_cases hmc : mon c
  · have HMc := Lib.hid hmc
    clear hmc
    by_cases hmr : mon r
    · have HMr := Lib.hid hmr
      clear hmr
      by_cases hmt : mon t
      · have HMt := Lib.hid hmt
        clear hmt
        by_cases hme : mon e
        · have HMe := Lib.hid hme
          clear hme
          by_cases hl1 : q ≤ 40
          · by_cases hl2 : v ≤ 40
            · by_cases hl3 : z ≤ 40
              · obtain ⟨y0, hy0⟩ : ∃ y, tr.any pT = y := ⟨_, rfl⟩
                cases y0
                · have HN0 := Lib.hid hy0
                  clear hy0
                  obtain ⟨y1, hy1⟩ : ∃ y, te.any (pQ tr.length) = y := ⟨_, rfl⟩
                  cases y1
                  · have HN1 := Lib.hid hy1
                    clear hy1
                    obtain ⟨y2, hy2⟩ : ∃ y, st.any (pS tr.length te.length) = y := ⟨_, rfl⟩
                    cases y2
                    · have HN2 := Lib.hid hy2
                      clear hy2
                      rw [show rgb ⟨c, r, t, e, tr, te, st⟩ = true by unfold rgb; dsimp only; rw [HN0.out, HN1.out, HN2.out, decide_eq_true ⟨HMc.out, HMr.out, HMt.out, HMe.out⟩, decide_eq_true (by rw [HQ.out, HV.out, HZ.out]; exact ⟨hl1, hl2, hl3⟩)]; rfl]
                      go_enter Try.func12, Try.ntmps12
                      go_wp2_with (fail)
                      go_must (refine (money_any _ _).mono ?_)
                      rintro e9 w1 ⟨rfl, rfl⟩
                      rw [show decide (mon c) = true from decide_eq_true HMc.out]
                      go_wp2_with (fail)
                      go_must (refine (money_any _ _).mono ?_)
                      rintro e9 w1 ⟨rfl, rfl⟩
                      rw [show decide (mon r) = true from decide_eq_true HMr.out]
                      go_wp2_with (fail)
                      go_must (refine (money_any _ _).mono ?_)
                      rintro e9 w1 ⟨rfl, rfl⟩
                      rw [show decide (mon t) = true from decide_eq_true HMt.out]
                      go_wp2_with (fail)
                      go_must (refine (money_any _ _).mono ?_)
                      rintro e9 w1 ⟨rfl, rfl⟩
                      rw [show decide (mon e) = true from decide_eq_true HMe.out]
                      go_wp2_with (fail)
                      go_must (refine (cont_t _ _ _ tr _ HQ.out (HM.out.t1) (by omega)).mono ?_)
                      rintro e9 w2 ⟨rfl, hb2⟩
                      have HB1 := Lib.hid (Gen.over hb2 HB.out)
                      have HM1 := Lib.hid (HM.out.keep hb2)
                      have HA1 := Lib.hid (HA.out.keep hb2)
                      have k9 := HA1.out.k5
                      dsimp only at k9
                      rw [HV.out] at k9
                      clear hb2
                      rw [HN0.out]
                      go_wp2_with (fail)
                      go_must (refine (cont_q _ _ _ te _ HV.out (HM1.out.t2) (by omega) (c1 := c1) (A1 := A1) (q := tr.length) HA1.out.k4).mono ?_)
                      rintro e9 w3 ⟨rfl, hb3⟩
                      have HB2 := Lib.hid (Gen.over hb3 HB1.out)
                      have HM2 := Lib.hid (HM1.out.keep hb3)
                      have HA2 := Lib.hid (HA1.out.keep hb3)
                      have k9 := HA2.out.k6
                      dsimp only at k9
                      rw [HZ.out] at k9
                      clear hb3
                      rw [HN1.out]
                      go_wp2_with (fail)
                      go_must (refine (cont_s _ _ _ st _ HZ.out (HM2.out.t3) (by omega) HA2.out).mono ?_)
                      rintro e9 w4 ⟨rfl, hb4⟩
                      have HB3 := Lib.hid (Gen.over hb4 HB2.out)
                      have HM3 := Lib.hid (HM2.out.keep hb4)
                      have HA3 := Lib.hid (HA2.out.keep hb4)
                      clear hb4
                      rw [HN2.out]
                      go_wp2
                      go_ret
                      exact ⟨rfl, HB3.out⟩
                    · have HN2 := Lib.hid hy2
                      clear hy2
                      rw [show rgb ⟨c, r, t, e, tr, te, st⟩ = false by unfold rgb; dsimp only; rw [HN2.out]; simp]
                      go_enter Try.func12, Try.ntmps12
                      go_wp2_with (fail)
                      go_must (refine (money_any _ _).mono ?_)
                      rintro e9 w1 ⟨rfl, rfl⟩
                      rw [show decide (mon c) = true from decide_eq_true HMc.out]
                      go_wp2_with (fail)
                      go_must (refine (money_any _ _).mono ?_)
                      rintro e9 w1 ⟨rfl, rfl⟩
                      rw [show decide (mon r) = true from decide_eq_true HMr.out]
                      go_wp2_with (fail)
                      go_must (refine (money_any _ _).mono ?_)
                      rintro e9 w1 ⟨rfl, rfl⟩
                      rw [show decide (mon t) = true from decide_eq_true HMt.out]
                      go_wp2_with (fail)
                      go_must (refine (money_any _ _).mono ?_)
                      rintro e9 w1 ⟨rfl, rfl⟩
                      rw [show decide (mon e) = true from decide_eq_true HMe.out]
                      go_wp2_with (fail)
                      go_must (refine (cont_t _ _ _ tr _ HQ.out (HM.out.t1) (by omega)).mono ?_)
                      rintro e9 w2 ⟨rfl, hb2⟩
                      have HB1 := Lib.hid (Gen.over hb2 HB.out)
                      have HM1 := Lib.hid (HM.out.keep hb2)
                      have HA1 := Lib.hid (HA.out.keep hb2)
                      have k9 := HA1.out.k5
                      dsimp only at k9
                      rw [HV.out] at k9
                      clear hb2
                      rw [HN0.out]
                      go_wp2_with (fail)
                      go_must (refine (cont_q _ _ _ te _ HV.out (HM1.out.t2) (by omega) (c1 := c1) (A1 := A1) (q := tr.length) HA1.out.k4).mono ?_)
                      rintro e9 w3 ⟨rfl, hb3⟩
                      have HB2 := Lib.hid (Gen.over hb3 HB1.out)
                      have HM2 := Lib.hid (HM1.out.keep hb3)
                      have HA2 := Lib.hid (HA1.out.keep hb3)
                      have k9 := HA2.out.k6
                      dsimp only at k9
                      rw [HZ.out] at k9
                      clear hb3
                      rw [HN1.out]
                      go_wp2_with (fail)
                      go_must (refine (cont_s _ _ _ st _ HZ.out (HM2.out.t3) (by omega) HA2.out).mono ?_)
                      rintro e9 w4 ⟨rfl, hb4⟩
                      have HB3 := Lib.hid (Gen.over hb4 HB2.out)
                      have HM3 := Lib.hid (HM2.out.keep hb4)
                      have HA3 := Lib.hid (HA2.out.keep hb4)
                      clear hb4
                      rw [HN2.out]
                      go_wp2
                      go_ret
                      exact ⟨rfl, HB3.out⟩
                  · have HN1 := Lib.hid hy1
                    clear hy1
                    rw [show rgb ⟨c, r, t, e, tr, te, st⟩ = false by unfold rgb; dsimp only; rw [HN1.out]; simp]
                    go_enter Try.func12, Try.ntmps12
                    go_wp2_with (fail)
                    go_must (refine (money_any _ _).mono ?_)
                    rintro e9 w1 ⟨rfl, rfl⟩
                    rw [show decide (mon c) = true from decide_eq_true HMc.out]
                    go_wp2_with (fail)
                    go_must (refine (money_any _ _).mono ?_)
                    rintro e9 w1 ⟨rfl, rfl⟩
                    rw [show decide (mon r) = true from decide_eq_true HMr.out]
                    go_wp2_with (fail)
                    go_must (refine (money_any _ _).mono ?_)
                    rintro e9 w1 ⟨rfl, rfl⟩
                    rw [show decide (mon t) = true from decide_eq_true HMt.out]
                    go_wp2_with (fail)
                    go_must (refine (money_any _ _).mono ?_)
                    rintro e9 w1 ⟨rfl, rfl⟩
                    rw [show decide (mon e) = true from decide_eq_true HMe.out]
                    go_wp2_with (fail)
                    go_must (refine (cont_t _ _ _ tr _ HQ.out (HM.out.t1) (by omega)).mono ?_)
                    rintro e9 w2 ⟨rfl, hb2⟩
                    have HB1 := Lib.hid (Gen.over hb2 HB.out)
                    have HM1 := Lib.hid (HM.out.keep hb2)
                    have HA1 := Lib.hid (HA.out.keep hb2)
                    have k9 := HA1.out.k5
                    dsimp only at k9
                    rw [HV.out] at k9
                    clear hb2
                    rw [HN0.out]
                    go_wp2_with (fail)
                    go_must (refine (cont_q _ _ _ te _ HV.out (HM1.out.t2) (by omega) (c1 := c1) (A1 := A1) (q := tr.length) HA1.out.k4).mono ?_)
                    rintro e9 w3 ⟨rfl, hb3⟩
                    have HB2 := Lib.hid (Gen.over hb3 HB1.out)
                    have HM2 := Lib.hid (HM1.out.keep hb3)
                    have HA2 := Lib.hid (HA1.out.keep hb3)
                    have k9 := HA2.out.k6
                    dsimp only at k9
                    rw [HZ.out] at k9
                    clear hb3
                    rw [HN1.out]
                    go_wp2
                    go_ret
                    exact ⟨rfl, HB2.out⟩
                · have HN0 := Lib.hid hy0
                  clear hy0
                  rw [show rgb ⟨c, r, t, e, tr, te, st⟩ = false by unfold rgb; dsimp only; rw [HN0.out]; simp]
                  go_enter Try.func12, Try.ntmps12
                  go_wp2_with (fail)
                  go_must (refine (money_any _ _).mono ?_)
                  rintro e9 w1 ⟨rfl, rfl⟩
                  rw [show decide (mon c) = true from decide_eq_true HMc.out]
                  go_wp2_with (fail)
                  go_must (refine (money_any _ _).mono ?_)
                  rintro e9 w1 ⟨rfl, rfl⟩
                  rw [show decide (mon r) = true from decide_eq_true HMr.out]
                  go_wp2_with (fail)
                  go_must (refine (money_any _ _).mono ?_)
                  rintro e9 w1 ⟨rfl, rfl⟩
                  rw [show decide (mon t) = true from decide_eq_true HMt.out]
                  go_wp2_with (fail)
                  go_must (refine (money_any _ _).mono ?_)
                  rintro e9 w1 ⟨rfl, rfl⟩
                  rw [show decide (mon e) = true from decide_eq_true HMe.out]
                  go_wp2_with (fail)
                  go_must (refine (cont_t _ _ _ tr _ HQ.out (HM.out.t1) (by omega)).mono ?_)
                  rintro e9 w2 ⟨rfl, hb2⟩
                  have HB1 := Lib.hid (Gen.over hb2 HB.out)
                  have HM1 := Lib.hid (HM.out.keep hb2)
                  have HA1 := Lib.hid (HA.out.keep hb2)
                  have k9 := HA1.out.k5
                  dsimp only at k9
                  rw [HV.out] at k9
                  clear hb2
                  rw [HN0.out]
                  go_wp2
                  go_ret
                  exact ⟨rfl, HB1.out⟩
              · rw [rgb_no (fun h => by have h9 := h.l3; dsimp only at h9; rw [HZ.out] at h9; omega)]
                go_enter Try.func12, Try.ntmps12
                go_wp2_with (fail)
                go_must (refine (money_any _ _).mono ?_)
                rintro e9 w1 ⟨rfl, rfl⟩
                rw [show decide (mon c) = true from decide_eq_true HMc.out]
                go_wp2_with (fail)
                go_must (refine (money_any _ _).mono ?_)
                rintro e9 w1 ⟨rfl, rfl⟩
                rw [show decide (mon r) = true from decide_eq_true HMr.out]
                go_wp2_with (fail)
                go_must (refine (money_any _ _).mono ?_)
                rintro e9 w1 ⟨rfl, rfl⟩
                rw [show decide (mon t) = true from decide_eq_true HMt.out]
                go_wp2_with (fail)
                go_must (refine (money_any _ _).mono ?_)
                rintro e9 w1 ⟨rfl, rfl⟩
                rw [show decide (mon e) = true from decide_eq_true HMe.out]
                go_wp2
                go_ret
                exact ⟨rfl, HB.out⟩
            · rw [rgb_no (fun h => by have h9 := h.l2; dsimp only at h9; rw [HV.out] at h9; omega)]
              go_enter Try.func12, Try.ntmps12
              go_wp2_with (fail)
              go_must (refine (money_any _ _).mono ?_)
              rintro e9 w1 ⟨rfl, rfl⟩
              rw [show decide (mon c) = true from decide_eq_true HMc.out]
              go_wp2_with (fail)
              go_must (refine (money_any _ _).mono ?_)
              rintro e9 w1 ⟨rfl, rfl⟩
              rw [show decide (mon r) = true from decide_eq_true HMr.out]
              go_wp2_with (fail)
              go_must (refine (money_any _ _).mono ?_)
              rintro e9 w1 ⟨rfl, rfl⟩
              rw [show decide (mon t) = true from decide_eq_true HMt.out]
              go_wp2_with (fail)
              go_must (refine (money_any _ _).mono ?_)
              rintro e9 w1 ⟨rfl, rfl⟩
              rw [show decide (mon e) = true from decide_eq_true HMe.out]
              go_wp2
              go_ret
              exact ⟨rfl, HB.out⟩
          · rw [rgb_no (fun h => by have h9 := h.l1; dsimp only at h9; rw [HQ.out] at h9; omega)]
            go_enter Try.func12, Try.ntmps12
            go_wp2_with (fail)
            go_must (refine (money_any _ _).mono ?_)
            rintro e9 w1 ⟨rfl, rfl⟩
            rw [show decide (mon c) = true from decide_eq_true HMc.out]
            go_wp2_with (fail)
            go_must (refine (money_any _ _).mono ?_)
            rintro e9 w1 ⟨rfl, rfl⟩
            rw [show decide (mon r) = true from decide_eq_true HMr.out]
            go_wp2_with (fail)
            go_must (refine (money_any _ _).mono ?_)
            rintro e9 w1 ⟨rfl, rfl⟩
            rw [show decide (mon t) = true from decide_eq_true HMt.out]
            go_wp2_with (fail)
            go_must (refine (money_any _ _).mono ?_)
            rintro e9 w1 ⟨rfl, rfl⟩
            rw [show decide (mon e) = true from decide_eq_true HMe.out]
            go_wp2
            go_ret
            exact ⟨rfl, HB.out⟩
        · have HMe := Lib.hid hme
          clear hme
          rw [rgb_no (fun h => HMe.out h.e)]
          go_enter Try.func12, Try.ntmps12
          go_wp2_with (fail)
          go_must (refine (money_any _ _).mono ?_)
          rintro e9 w1 ⟨rfl, rfl⟩
          rw [show decide (mon c) = true from decide_eq_true HMc.out]
          go_wp2_with (fail)
          go_must (refine (money_any _ _).mono ?_)
          rintro e9 w1 ⟨rfl, rfl⟩
          rw [show decide (mon r) = true from decide_eq_true HMr.out]
          go_wp2_with (fail)
          go_must (refine (money_any _ _).mono ?_)
          rintro e9 w1 ⟨rfl, rfl⟩
          rw [show decide (mon t) = true from decide_eq_true HMt.out]
          go_wp2_with (fail)
          go_must (refine (money_any _ _).mono ?_)
          rintro e9 w1 ⟨rfl, rfl⟩
          rw [show decide (mon e) = false from decide_eq_false HMe.out]
          go_wp2
          go_ret
          exact ⟨rfl, HB.out⟩
      · have HMt := Lib.hid hmt
        clear hmt
        rw [rgb_no (fun h => HMt.out h.t)]
        go_enter Try.func12, Try.ntmps12
        go_wp2_with (fail)
        go_must (refine (money_any _ _).mono ?_)
        rintro e9 w1 ⟨rfl, rfl⟩
        rw [show decide (mon c) = true from decide_eq_true HMc.out]
        go_wp2_with (fail)
        go_must (refine (money_any _ _).mono ?_)
        rintro e9 w1 ⟨rfl, rfl⟩
        rw [show decide (mon r) = true from decide_eq_true HMr.out]
        go_wp2_with (fail)
        go_must (refine (money_any _ _).mono ?_)
        rintro e9 w1 ⟨rfl, rfl⟩
        rw [show decide (mon t) = false from decide_eq_false HMt.out]
        go_wp2
        go_ret
        exact ⟨rfl, HB.out⟩
    · have HMr := Lib.hid hmr
      clear hmr
      rw [rgb_no (fun h => HMr.out h.r)]
      go_enter Try.func12, Try.ntmps12
      go_wp2_with (fail)
      go_must (refine (money_any _ _).mono ?_)
      rintro e9 w1 ⟨rfl, rfl⟩
      rw [show decide (mon c) = true from decide_eq_true HMc.out]
      go_wp2_with (fail)
      go_must (refine (money_any _ _).mono ?_)
      rintro e9 w1 ⟨rfl, rfl⟩
      rw [show decide (mon r) = false from decide_eq_false HMr.out]
      go_wp2
      go_ret
      exact ⟨rfl, HB.out⟩
  · have HMc := Lib.hid hmc
    clear hmc
    rw [rgb_no (fun h => HMc.out h.c)]
    go_enter Try.func12, Try.ntmps12
    go_wp2_with (fail)
    go_must (refine (money_any _ _).mono ?_)
    rintro e9 w1 ⟨rfl, rfl⟩
    rw [show decide (mon c) = false from decide_eq_false HMc.out]
    go_wp2
    go_ret
    exact ⟨rfl, HB.out⟩
theorem right_any (d : Dl) (p : Pl) (w : World) (h : Dm w d p) : Calls Try.prog 12 #[dval d p] w fun e' w' => e' = .returned (.bool (rgb d)) ∧ Below w.heap.size w w' := by
  obtain ⟨c, r, t, e, tr, te, st⟩ := d
  obtain ⟨A1, c1, A2, c2, A3, c3⟩ := p
  exact right_lit c r t e tr te st A1 A2 A3 c1 c2 c3 _ _ _ w rfl rfl rfl h
end Go.Proofs.Ytdmbgdbmfenbfaa.Fa
