/- Fall: Run, where it returns an error at once. -/
import Derived.Test.YtdmbgdbmfenbfaaFaH
import Derived.Test.YtdmbgdbmfenbfaaFaI
namespace Go.Proofs.Ytdmbgdbmfenbfaa.Fa
open Go.ChangeShapes Go.WideShapes Go.ChangeAt Go.RowKit Go.Proofs.Ytdmbgdbmfenbfaa.Cell
set_option linter.unusedVariables false
set_option linter.unusedSimpArgs false

/-- what Run returns with an error -/
def errv (k : Int) : Value := .tuple #[.agg #[.int .i64 0, .int .i64 0, .int .i64 0, .int .i64 0, .slice none 0 0, .slice none 0 0, .slice none 0 0], .slice none 0 0, .int .i64 k]
section
variable (c r t e m : Int) (tr : List Tr) (te : List Te) (st : List St) (A1 A2 A3 : Option Addr) (c1 c2 c3 q v z : Nat) (w : World)
set_option maxRecDepth 100000 in
set_option maxHeartbeats 8000000 in
theorem run_arg (hq : tr.length = q) (hv : te.length = v) (hz : st.length = z) (h : Dm w ⟨c, r, t, e, tr, te, st⟩ ⟨A1, c1, A2, c2, A3, c3⟩) (hg : rgb ⟨c, r, t, e, tr, te, st⟩ = false) :
    Calls Try.prog 8 #[.agg #[.int .i64 c, .int .i64 r, .int .i64 t, .int .i64 e, .slice A1 q c1, .slice A2 v c2, .slice A3 z c3], .int .i64 m] w fun e' w' => e' = .returned (errv 1) ∧ Below w.heap.size w w' := by
  have hB : Below w.heap.size w ((w.alloc (.cells #[.int .i64 c, .int .i64 r, .int .i64 t, .int .i64 e, .slice A1 q c1, .slice A2 v c2, .slice A3 z c3] 26)).alloc (.cells #[.int .i64 0, .int .i64 0, .int .i64 0, .int .i64 0, .slice none 0 0, .slice none 0 0, .slice none 0 0] 26)) := Gen.b_alloc (Gen.b_alloc (Below.refl _ _))
  have HM := Lib.hid (h.keep hB)
  have hr0 : Row ((w.alloc (.cells #[.int .i64 c, .int .i64 r, .int .i64 t, .int .i64 e, .slice A1 q c1, .slice A2 v c2, .slice A3 z c3] 26)).alloc (.cells #[.int .i64 0, .int .i64 0, .int .i64 0, .int .i64 0, .slice none 0 0, .slice none 0 0, .slice none 0 0] 26)) w.heap.size 26 #[.int .i64 c, .int .i64 r, .int .i64 t, .int .i64 e, .slice A1 q c1, .slice A2 v c2, .slice A3 z c3] := (Row.new _ _ _).alloc _
  have hr1 : Row ((w.alloc (.cells #[.int .i64 c, .int .i64 r, .int .i64 t, .int .i64 e, .slice A1 q c1, .slice A2 v c2, .slice A3 z c3] 26)).alloc (.cells #[.int .i64 0, .int .i64 0, .int .i64 0, .int .i64 0, .slice none 0 0, .slice none 0 0, .slice none 0 0] 26)) (w.heap.size + 1) 26 #[.int .i64 0, .int .i64 0, .int .i64 0, .int .i64 0, .slice none 0 0, .slice none 0 0, .slice none 0 0] := Gen.rowAt _ _ _ (by simp)
  have HR0 := Lib.hid hr0
  have HR1 := Lib.hid hr1
  have HB := Lib.hid hB
  have HQ := Lib.hid hq
  have HV := Lib.hid hv
  have HZ := Lib.hid hz
  clear hB h hq hv hz hr0 hr1
  have HG := Lib.hid hg
  clear hg
  go_enter Try.func8, Try.ntmps8
  go_wp2_with (fail)
  go_must (refine (right_lit c r t e tr te st _ _ _ _ _ _ _ _ _ _ HQ.out HV.out HZ.out HM.out).mono ?_)
  rintro e1 w1 ⟨rfl, hb⟩
  rw [HG.out]
  have r1 := HR1.out.keep hb
  have k0 := r1.cell 0
  have kf0 := r1.frozen 0
  have k1 := r1.cell 1
  have kf1 := r1.frozen 1
  have k2 := r1.cell 2
  have kf2 := r1.frozen 2
  have k3 := r1.cell 3
  have kf3 := r1.frozen 3
  have k4 := r1.cell 4
  have kf4 := r1.frozen 4
  have k5 := r1.cell 5
  have kf5 := r1.frozen 5
  have k6 := r1.cell 6
  have kf6 := r1.frozen 6
  have kl := r1.lt
  have r0 := HR0.out.keep hb
  have j2 : w1.cell? ⟨w.heap.size, 2, none⟩ = some (.int .i64 t) := r0.cell 2
  have hB1 := Gen.over hb HB.out
  clear hb r0 r1
  have HX := Lib.hid (Gen.b_set (p := ⟨w.heap.size + 1, 6, none⟩) (u := .slice none 0 0) (Gen.b_set (p := ⟨w.heap.size + 1, 5, none⟩) (u := .slice none 0 0) (Gen.b_set (p := ⟨w.heap.size + 1, 4, none⟩) (u := .slice none 0 0) (Gen.b_set (p := ⟨w.heap.size + 1, 3, none⟩) (u := .int .i64 0) (Gen.b_set (p := ⟨w.heap.size + 1, 2, none⟩) (u := .int .i64 0) (Gen.b_set (p := ⟨w.heap.size + 1, 1, none⟩) (u := .int .i64 0) (Gen.b_set (p := ⟨w.heap.size + 1, 0, none⟩) (u := .int .i64 0) hB1 (by show w.heap.size ≤ w.heap.size + 1; omega)) (by show w.heap.size ≤ w.heap.size + 1; omega)) (by show w.heap.size ≤ w.heap.size + 1; omega)) (by show w.heap.size ≤ w.heap.size + 1; omega)) (by show w.heap.size ≤ w.heap.size + 1; omega)) (by show w.heap.size ≤ w.heap.size + 1; omega)) (by show w.heap.size ≤ w.heap.size + 1; omega))
  clear hB1
  go_wp2
  exact bodyPost_ret (v := errv 1) (by simp [errv, results, Try.results8, go_sem, *]) rfl ⟨rfl, HX.out⟩
set_option maxRecDepth 100000 in
set_option maxHeartbeats 8000000 in
theorem run_mon (hq : tr.length = q) (hv : te.length = v) (hz : st.length = z) (h : Dm w ⟨c, r, t, e, tr, te, st⟩ ⟨A1, c1, A2, c2, A3, c3⟩) (hg : rgb ⟨c, r, t, e, tr, te, st⟩ = true) (hm : ¬mon m) :
    Calls Try.prog 8 #[.agg #[.int .i64 c, .int .i64 r, .int .i64 t, .int .i64 e, .slice A1 q c1, .slice A2 v c2, .slice A3 z c3], .int .i64 m] w fun e' w' => e' = .returned (errv 1) ∧ Below w.heap.size w w' := by
  have hB : Below w.heap.size w ((w.alloc (.cells #[.int .i64 c, .int .i64 r, .int .i64 t, .int .i64 e, .slice A1 q c1, .slice A2 v c2, .slice A3 z c3] 26)).alloc (.cells #[.int .i64 0, .int .i64 0, .int .i64 0, .int .i64 0, .slice none 0 0, .slice none 0 0, .slice none 0 0] 26)) := Gen.b_alloc (Gen.b_alloc (Below.refl _ _))
  have HM := Lib.hid (h.keep hB)
  have hr0 : Row ((w.alloc (.cells #[.int .i64 c, .int .i64 r, .int .i64 t, .int .i64 e, .slice A1 q c1, .slice A2 v c2, .slice A3 z c3] 26)).alloc (.cells #[.int .i64 0, .int .i64 0, .int .i64 0, .int .i64 0, .slice none 0 0, .slice none 0 0, .slice none 0 0] 26)) w.heap.size 26 #[.int .i64 c, .int .i64 r, .int .i64 t, .int .i64 e, .slice A1 q c1, .slice A2 v c2, .slice A3 z c3] := (Row.new _ _ _).alloc _
  have hr1 : Row ((w.alloc (.cells #[.int .i64 c, .int .i64 r, .int .i64 t, .int .i64 e, .slice A1 q c1, .slice A2 v c2, .slice A3 z c3] 26)).alloc (.cells #[.int .i64 0, .int .i64 0, .int .i64 0, .int .i64 0, .slice none 0 0, .slice none 0 0, .slice none 0 0] 26)) (w.heap.size + 1) 26 #[.int .i64 0, .int .i64 0, .int .i64 0, .int .i64 0, .slice none 0 0, .slice none 0 0, .slice none 0 0] := Gen.rowAt _ _ _ (by simp)
  have HR0 := Lib.hid hr0
  have HR1 := Lib.hid hr1
  have HB := Lib.hid hB
  have HQ := Lib.hid hq
  have HV := Lib.hid hv
  have HZ := Lib.hid hz
  clear hB h hq hv hz hr0 hr1
  have HG := Lib.hid hg
  have HMm := Lib.hid (decide_eq_false hm)
  clear hg hm
  go_enter Try.func8, Try.ntmps8
  go_wp2_with (fail)
  go_must (refine (right_lit c r t e tr te st _ _ _ _ _ _ _ _ _ _ HQ.out HV.out HZ.out HM.out).mono ?_)
  rintro e1 w1 ⟨rfl, hb⟩
  rw [HG.out]
  have r1 := HR1.out.keep hb
  have k0 := r1.cell 0
  have kf0 := r1.frozen 0
  have k1 := r1.cell 1
  have kf1 := r1.frozen 1
  have k2 := r1.cell 2
  have kf2 := r1.frozen 2
  have k3 := r1.cell 3
  have kf3 := r1.frozen 3
  have k4 := r1.cell 4
  have kf4 := r1.frozen 4
  have k5 := r1.cell 5
  have kf5 := r1.frozen 5
  have k6 := r1.cell 6
  have kf6 := r1.frozen 6
  have kl := r1.lt
  have r0 := HR0.out.keep hb
  have j2 : w1.cell? ⟨w.heap.size, 2, none⟩ = some (.int .i64 t) := r0.cell 2
  have hB1 := Gen.over hb HB.out
  clear hb r0 r1
  have HX := Lib.hid (Gen.b_set (p := ⟨w.heap.size + 1, 6, none⟩) (u := .slice none 0 0) (Gen.b_set (p := ⟨w.heap.size + 1, 5, none⟩) (u := .slice none 0 0) (Gen.b_set (p := ⟨w.heap.size + 1, 4, none⟩) (u := .slice none 0 0) (Gen.b_set (p := ⟨w.heap.size + 1, 3, none⟩) (u := .int .i64 0) (Gen.b_set (p := ⟨w.heap.size + 1, 2, none⟩) (u := .int .i64 0) (Gen.b_set (p := ⟨w.heap.size + 1, 1, none⟩) (u := .int .i64 0) (Gen.b_set (p := ⟨w.heap.size + 1, 0, none⟩) (u := .int .i64 0) hB1 (by show w.heap.size ≤ w.heap.size + 1; omega)) (by show w.heap.size ≤ w.heap.size + 1; omega)) (by show w.heap.size ≤ w.heap.size + 1; omega)) (by show w.heap.size ≤ w.heap.size + 1; omega)) (by show w.heap.size ≤ w.heap.size + 1; omega)) (by show w.heap.size ≤ w.heap.size + 1; omega)) (by show w.heap.size ≤ w.heap.size + 1; omega))
  clear hB1
  go_wp2_with (fail)
  go_must (refine (money_any _ _).mono ?_)
  rintro e2 w2 ⟨rfl, rfl⟩
  rw [HMm.out]
  go_wp2
  exact bodyPost_ret (v := errv 1) (by simp [errv, results, Try.results8, go_sem, *]) rfl ⟨rfl, HX.out⟩
set_option maxRecDepth 100000 in
set_option maxHeartbeats 8000000 in
theorem run_rng (hq : tr.length = q) (hv : te.length = v) (hz : st.length = z) (h : Dm w ⟨c, r, t, e, tr, te, st⟩ ⟨A1, c1, A2, c2, A3, c3⟩) (hg : rgb ⟨c, r, t, e, tr, te, st⟩ = true) (hm : mon m) (hs : 1000000000000000 < m + t) :
    Calls Try.prog 8 #[.agg #[.int .i64 c, .int .i64 r, .int .i64 t, .int .i64 e, .slice A1 q c1, .slice A2 v c2, .slice A3 z c3], .int .i64 m] w fun e' w' => e' = .returned (errv 3) ∧ Below w.heap.size w w' := by
  have hB : Below w.heap.size w ((w.alloc (.cells #[.int .i64 c, .int .i64 r, .int .i64 t, .int .i64 e, .slice A1 q c1, .slice A2 v c2, .slice A3 z c3] 26)).alloc (.cells #[.int .i64 0, .int .i64 0, .int .i64 0, .int .i64 0, .slice none 0 0, .slice none 0 0, .slice none 0 0] 26)) := Gen.b_alloc (Gen.b_alloc (Below.refl _ _))
  have HM := Lib.hid (h.keep hB)
  have hr0 : Row ((w.alloc (.cells #[.int .i64 c, .int .i64 r, .int .i64 t, .int .i64 e, .slice A1 q c1, .slice A2 v c2, .slice A3 z c3] 26)).alloc (.cells #[.int .i64 0, .int .i64 0, .int .i64 0, .int .i64 0, .slice none 0 0, .slice none 0 0, .slice none 0 0] 26)) w.heap.size 26 #[.int .i64 c, .int .i64 r, .int .i64 t, .int .i64 e, .slice A1 q c1, .slice A2 v c2, .slice A3 z c3] := (Row.new _ _ _).alloc _
  have hr1 : Row ((w.alloc (.cells #[.int .i64 c, .int .i64 r, .int .i64 t, .int .i64 e, .slice A1 q c1, .slice A2 v c2, .slice A3 z c3] 26)).alloc (.cells #[.int .i64 0, .int .i64 0, .int .i64 0, .int .i64 0, .slice none 0 0, .slice none 0 0, .slice none 0 0] 26)) (w.heap.size + 1) 26 #[.int .i64 0, .int .i64 0, .int .i64 0, .int .i64 0, .slice none 0 0, .slice none 0 0, .slice none 0 0] := Gen.rowAt _ _ _ (by simp)
  have HR0 := Lib.hid hr0
  have HR1 := Lib.hid hr1
  have HB := Lib.hid hB
  have HQ := Lib.hid hq
  have HV := Lib.hid hv
  have HZ := Lib.hid hz
  clear hB h hq hv hz hr0 hr1
  have HG := Lib.hid hg
  have HMm := Lib.hid (decide_eq_true hm)
  have ht := (rgb_iff.1 hg).t
  have ht1 := ht.1
  have ht2 := ht.2
  have hm1 := hm.1
  have hm2 := hm.2
  dsimp only at ht1 ht2
  clear hg hm ht
  go_enter Try.func8, Try.ntmps8
  go_wp2_with (fail)
  go_must (refine (right_lit c r t e tr te st _ _ _ _ _ _ _ _ _ _ HQ.out HV.out HZ.out HM.out).mono ?_)
  rintro e1 w1 ⟨rfl, hb⟩
  rw [HG.out]
  have r1 := HR1.out.keep hb
  have k0 := r1.cell 0
  have kf0 := r1.frozen 0
  have k1 := r1.cell 1
  have kf1 := r1.frozen 1
  have k2 := r1.cell 2
  have kf2 := r1.frozen 2
  have k3 := r1.cell 3
  have kf3 := r1.frozen 3
  have k4 := r1.cell 4
  have kf4 := r1.frozen 4
  have k5 := r1.cell 5
  have kf5 := r1.frozen 5
  have k6 := r1.cell 6
  have kf6 := r1.frozen 6
  have kl := r1.lt
  have r0 := HR0.out.keep hb
  have j2 : w1.cell? ⟨w.heap.size, 2, none⟩ = some (.int .i64 t) := r0.cell 2
  have hB1 := Gen.over hb HB.out
  clear hb r0 r1
  have HX := Lib.hid (Gen.b_set (p := ⟨w.heap.size + 1, 6, none⟩) (u := .slice none 0 0) (Gen.b_set (p := ⟨w.heap.size + 1, 5, none⟩) (u := .slice none 0 0) (Gen.b_set (p := ⟨w.heap.size + 1, 4, none⟩) (u := .slice none 0 0) (Gen.b_set (p := ⟨w.heap.size + 1, 3, none⟩) (u := .int .i64 0) (Gen.b_set (p := ⟨w.heap.size + 1, 2, none⟩) (u := .int .i64 0) (Gen.b_set (p := ⟨w.heap.size + 1, 1, none⟩) (u := .int .i64 0) (Gen.b_set (p := ⟨w.heap.size + 1, 0, none⟩) (u := .int .i64 0) hB1 (by show w.heap.size ≤ w.heap.size + 1; omega)) (by show w.heap.size ≤ w.heap.size + 1; omega)) (by show w.heap.size ≤ w.heap.size + 1; omega)) (by show w.heap.size ≤ w.heap.size + 1; omega)) (by show w.heap.size ≤ w.heap.size + 1; omega)) (by show w.heap.size ≤ w.heap.size + 1; omega)) (by show w.heap.size ≤ w.heap.size + 1; omega))
  clear hB1
  go_wp2_with (fail)
  go_must (refine (money_any _ _).mono ?_)
  rintro e2 w2 ⟨rfl, rfl⟩
  rw [HMm.out]
  go_wp2
  exact bodyPost_ret (v := errv 3) (by simp [errv, results, Try.results8, go_sem, *]) rfl ⟨rfl, HX.out⟩
end
end Go.Proofs.Ytdmbgdbmfenbfaa.Fa
