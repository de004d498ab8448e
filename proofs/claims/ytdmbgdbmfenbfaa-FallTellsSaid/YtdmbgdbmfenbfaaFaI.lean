/- Fall: Passed. -/
import Derived.Test.YtdmbgdbmfenbfaaFaG
namespace Go.Proofs.Ytdmbgdbmfenbfaa.Fa
open Go.ChangeShapes Go.WideShapes Go.ChangeAt Go.RowKit Go.Proofs.Ytdmbgdbmfenbfaa.Cell
set_option linter.unusedVariables false
set_option linter.unusedSimpArgs false

/-- whether a deal passes one of its tests -/
def pasb (d : Dl) (i : Int) : Bool := rgb d && decide (0 ≤ i) && match d.te[i.toNat]? with
  | some x => decide (psd d.tr d.c x)
  | none => false
theorem pasb_no {d : Dl} {i : Int} (h : ¬(rgb d = true ∧ 0 ≤ i ∧ i < d.te.length)) : pasb d i = false := by
  unfold pasb
  by_cases h1 : rgb d = true
  · by_cases h2 : 0 ≤ i
    · rw [List.getElem?_eq_none (by have : ¬ i < d.te.length := fun c => h ⟨h1, h2, c⟩; omega)]
      simp
    · simp [h2]
  · simp [h1]
theorem pasb_yes {d : Dl} {i : Nat} {x : Te} (h1 : rgb d = true) (hx : d.te[i]? = some x) : pasb d (i : Int) = decide (psd d.tr d.c x) := by
  unfold pasb
  rw [Int.toNat_natCast, hx, h1]
  simp
set_option maxRecDepth 100000 in
set_option maxHeartbeats 8000000 in
theorem passd_lit (c r t e : Int) (tr : List Tr) (te : List Te) (st : List St) (A1 A2 A3 : Option Addr) (c1 c2 c3 q v z : Nat) (i : Int) (w : World) (hq : tr.length = q) (hv : te.length = v) (hz : st.length = z) (h : Dm w ⟨c, r, t, e, tr, te, st⟩ ⟨A1, c1, A2, c2, A3, c3⟩) (hcap : q ≤ c1) :
    Calls Try.prog 14 #[.agg #[.int .i64 c, .int .i64 r, .int .i64 t, .int .i64 e, .slice A1 q c1, .slice A2 v c2, .slice A3 z c3], .int .i64 i] w fun e' w' => e' = .returned (.bool (pasb ⟨c, r, t, e, tr, te, st⟩ i)) ∧ Below w.heap.size w w' := by
  have hB : Below w.heap.size w (w.alloc (.cells #[.int .i64 c, .int .i64 r, .int .i64 t, .int .i64 e, .slice A1 q c1, .slice A2 v c2, .slice A3 z c3] 26)) := Gen.b_alloc (Below.refl _ _)
  have HM := Lib.hid (h.keep hB)
  have hR : Row (w.alloc (.cells #[.int .i64 c, .int .i64 r, .int .i64 t, .int .i64 e, .slice A1 q c1, .slice A2 v c2, .slice A3 z c3] 26)) w.heap.size 26 #[.int .i64 c, .int .i64 r, .int .i64 t, .int .i64 e, .slice A1 q c1, .slice A2 v c2, .slice A3 z c3] := Row.new _ _ _
  have HR := Lib.hid hR
  have HB := Lib.hid hB
  have HQ := Lib.hid hq
  have HV := Lib.hid hv
  have HZ := Lib.hid hz
  clear hB h hq hv hz hR
  by_cases hr : rgb ⟨c, r, t, e, tr, te, st⟩ = true
  · have HG := Lib.hid hr
    clear hr
    by_cases h0 : 0 ≤ i
    · by_cases h1 : i < (v : Int)
      · obtain ⟨j, rfl⟩ := Int.eq_ofNat_of_zero_le h0
        obtain ⟨x, hx⟩ := at_ te j (by rw [HV.out]; omega)
        have HP := Lib.hid (pasb_yes (d := ⟨c, r, t, e, tr, te, st⟩) HG.out hx)
        have hg := rgb_iff.1 HG.out
        obtain ⟨t1, t2, t3, t4⟩ := hg.te x (List.mem_of_getElem? hx)
        have hl1 := hg.l1
        have HT := Lib.hid hg.tr
        have HC := Lib.hid hg.c
        dsimp only at t2 hl1
        rw [HQ.out] at t2 hl1
        have ⟨b, off, e2, hcell⟩ := HM.out.t2 (by dsimp only; rw [HV.out]; omega)
        dsimp only at e2
        subst e2
        have m0 := hcell j x hx 0 _ rfl
        have m1 := hcell j x hx 1 _ rfl
        rw [Nat.add_zero] at m0
        obtain ⟨xo, xm⟩ := x
        dsimp only at m0 m1 t1 t2 t3 t4
        have M0 := Lib.hid m0
        have M1 := Lib.hid m1
        have HT1 := Lib.hid t1
        have HT2 := Lib.hid t2
        have HT3 := Lib.hid t3
        have HT4 := Lib.hid t4
        clear hcell hx hg m0 m1 t1 t2 t3 t4
        rw [HP.out]
        go_enter Try.func14, Try.ntmps14
        go_wp2_with (fail)
        go_must (refine (right_lit c r t e tr te st _ _ _ _ _ _ _ _ _ _ HQ.out HV.out HZ.out HM.out).mono ?_)
        rintro e1 w1 ⟨rfl, hb⟩
        rw [HG.out]
        have hR1 := HR.out.keep hb
        have k5 : w1.cell? ⟨w.heap.size, 5, none⟩ = some (.slice (some ⟨b, off, none⟩) v c2) := hR1.cell 5
        have m0 := Gen.keep hb M0.out
        have m1 := Gen.keep hb M1.out
        have HB1 := Lib.hid (Gen.over hb HB.out)
        have HR1 := Lib.hid hR1
        have HM1 := Lib.hid (HM.out.keep hb)
        clear hb hR1
        go_wp2_with (fail)
        go_must (refine (passed_any _ (o := xo) (m := xm) (HR1.out.cell 0) (HR1.out.cell 4) HQ.out hcap hl1 HM1.out.t1 HT.out HC.out HT1.out HT2.out HT3.out HT4.out).mono ?_)
        rintro e1 w2 ⟨rfl, hb⟩
        have HB2 := Lib.hid (Gen.over hb HB1.out)
        clear hb
        go_wp2
        go_ret
        exact ⟨rfl, HB2.out⟩
      · rw [pasb_no (fun h => by have := h.2.2; dsimp only at this; rw [HV.out] at this; omega)]
        go_enter Try.func14, Try.ntmps14
        go_wp2_with (fail)
        go_must (refine (right_lit c r t e tr te st _ _ _ _ _ _ _ _ _ _ HQ.out HV.out HZ.out HM.out).mono ?_)
        rintro e1 w1 ⟨rfl, hb⟩
        rw [HG.out]
        have k5 : w1.cell? ⟨w.heap.size, 5, none⟩ = some (.slice A2 v c2) := (HR.out.keep hb).cell 5
        have HB1 := Lib.hid (Gen.over hb HB.out)
        clear hb
        go_wp2
        go_ret
        exact ⟨rfl, HB1.out⟩
    · rw [pasb_no (fun h => h0 h.2.1)]
      go_enter Try.func14, Try.ntmps14
      go_wp2_with (fail)
      go_must (refine (right_lit c r t e tr te st _ _ _ _ _ _ _ _ _ _ HQ.out HV.out HZ.out HM.out).mono ?_)
      rintro e1 w1 ⟨rfl, hb⟩
      rw [HG.out]
      have HB1 := Lib.hid (Gen.over hb HB.out)
      clear hb
      go_wp2
      go_ret
      exact ⟨rfl, HB1.out⟩
  · rw [pasb_no (fun h => hr h.1)]
    have HG := Lib.hid (show rgb ⟨c, r, t, e, tr, te, st⟩ = false from Bool.eq_false_iff.2 hr)
    clear hr
    go_enter Try.func14, Try.ntmps14
    go_wp2_with (fail)
    go_must (refine (right_lit c r t e tr te st _ _ _ _ _ _ _ _ _ _ HQ.out HV.out HZ.out HM.out).mono ?_)
    rintro e1 w1 ⟨rfl, hb⟩
    rw [HG.out]
    have HB1 := Lib.hid (Gen.over hb HB.out)
    clear hb
    go_wp2
    go_ret
    exact ⟨rfl, HB1.out⟩
theorem Passed_any (d : Dl) (p : Pl) (i : Int) (w : World) (h : Dm w d p) (hcap : d.tr.length ≤ p.c1) : Calls Try.prog 14 #[dval d p, .int .i64 i] w fun e' w' => e' = .returned (.bool (pasb d i)) ∧ Below w.heap.size w w' := by
  obtain ⟨c, r, t, e, tr, te, st⟩ := d
  obtain ⟨A1, c1, A2, c2, A3, c3⟩ := p
  exact passd_lit c r t e tr te st A1 A2 A3 c1 c2 c3 _ _ _ i w rfl rfl rfl h hcap
end Go.Proofs.Ytdmbgdbmfenbfaa.Fa
