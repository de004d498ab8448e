/- Fall: the reference's Run. -/
import Derived.Test.YtdmbgdbmfenbfaaFaZl
namespace Go.Proofs.Ytdmbgdbmfenbfaa.Fa
open Go.ChangeShapes Go.WideShapes Go.ChangeAt Go.RowKit Go.Proofs.Ytdmbgdbmfenbfaa.Cell
set_option linter.unusedVariables false
set_option linter.unusedSimpArgs false
section
variable (c r t e m : Int) (tr : List Tr) (te : List Te) (st : List St) (A1 A2 A3 : Option Addr) (c1 c2 c3 q v z : Nat) (w : World)
set_option maxRecDepth 100000 in
set_option maxHeartbeats 16000000 in
theorem rrun_arg (hq : tr.length = q) (hv : te.length = v) (hz : st.length = z) (h : Dm w ⟨c, r, t, e, tr, te, st⟩ ⟨A1, c1, A2, c2, A3, c3⟩) (bq : q ≤ 1000000) (bv : v ≤ 1000000) (bz : z ≤ 1000000) (hg : rgb ⟨c, r, t, e, tr, te, st⟩ = false) :
    Calls Try.prog 9 #[.agg #[.int .i64 c, .int .i64 r, .int .i64 t, .int .i64 e, .slice A1 q c1, .slice A2 v c2, .slice A3 z c3], .int .i64 m] w (RunF w ⟨c, r, t, e, tr, te, st⟩ m) := by
  have hB : Below w.heap.size w ((w.alloc (.cells #[.int .i64 c, .int .i64 r, .int .i64 t, .int .i64 e, .slice A1 q c1, .slice A2 v c2, .slice A3 z c3] 26)).alloc (.cells #[.int .i64 0, .int .i64 0, .int .i64 0, .int .i64 0, .slice none 0 0, .slice none 0 0, .slice none 0 0] 26)) := Gen.b_alloc (Gen.b_alloc (Below.refl _ _))
  have HM := Lib.hid (h.keep hB)
  have HM0 := Lib.hid h
  have HR0 := Lib.hid (show Row ((w.alloc (.cells #[.int .i64 c, .int .i64 r, .int .i64 t, .int .i64 e, .slice A1 q c1, .slice A2 v c2, .slice A3 z c3] 26)).alloc (.cells #[.int .i64 0, .int .i64 0, .int .i64 0, .int .i64 0, .slice none 0 0, .slice none 0 0, .slice none 0 0] 26)) w.heap.size 26 #[.int .i64 c, .int .i64 r, .int .i64 t, .int .i64 e, .slice A1 q c1, .slice A2 v c2, .slice A3 z c3] from (Row.new _ _ _).alloc _)
  have HR1 := Lib.hid (show Row ((w.alloc (.cells #[.int .i64 c, .int .i64 r, .int .i64 t, .int .i64 e, .slice A1 q c1, .slice A2 v c2, .slice A3 z c3] 26)).alloc (.cells #[.int .i64 0, .int .i64 0, .int .i64 0, .int .i64 0, .slice none 0 0, .slice none 0 0, .slice none 0 0] 26)) (w.heap.size + 1) 26 #[.int .i64 0, .int .i64 0, .int .i64 0, .int .i64 0, .slice none 0 0, .slice none 0 0, .slice none 0 0] from Gen.rowAt _ _ _ (by simp))
  have HB := Lib.hid hB
  have HQ := Lib.hid hq
  have HV := Lib.hid hv
  have HZ := Lib.hid hz
  have HG := Lib.hid hg
  have HE := Lib.hid (runE_1 (d := ⟨c, r, t, e, tr, te, st⟩) (m := m) (fun x => by rw [hg] at x; cases x.1))
  clear hB h hq hv hz hg
  go_enter Try.func9, Try.ntmps9
  go_wp2_with (fail)
  go_must (refine (rright_lit c r t e tr te st _ _ _ _ _ _ _ _ _ _ HQ.out HV.out HZ.out HM.out bq bv bz).mono ?_)
  rintro e1 w1 ⟨rfl, hb⟩
  rw [HG.out]
  have r1 := HR1.out.keep hb
  have k0 := r1.cell 0
  have kf0 := r1.frozen 0
  have k1 := r1.cell 1
  have kf1 := r1.frozen 1
  have k2 := r1.cell 2
  have kf2 := r1.frozen 2
  have k3 := r1.cell 3
  have kf3 := r1.frozen 3
  have k4 := r1.cell 4
  have kf4 := r1.frozen 4
  have k5 := r1.cell 5
  have kf5 := r1.frozen 5
  have k6 := r1.cell 6
  have kf6 := r1.frozen 6
  have r0 := HR0.out.keep hb
  have j2 : w1.cell? ⟨w.heap.size, 2, none⟩ = some (.int .i64 t) := r0.cell 2
  have kl := r1.lt
  have hB1 := Gen.over hb HB.out
  clear hb r0 r1
  have HX := Lib.hid (Gen.b_set (p := ⟨w.heap.size + 1, 6, none⟩) (u := .slice none 0 0) (Gen.b_set (p := ⟨w.heap.size + 1, 5, none⟩) (u := .slice none 0 0) (Gen.b_set (p := ⟨w.heap.size + 1, 4, none⟩) (u := .slice none 0 0) (Gen.b_set (p := ⟨w.heap.size + 1, 3, none⟩) (u := .int .i64 0) (Gen.b_set (p := ⟨w.heap.size + 1, 2, none⟩) (u := .int .i64 0) (Gen.b_set (p := ⟨w.heap.size + 1, 1, none⟩) (u := .int .i64 0) (Gen.b_set (p := ⟨w.heap.size + 1, 0, none⟩) (u := .int .i64 0) (hB1) (by show w.heap.size ≤ w.heap.size + 1; omega)) (by show w.heap.size ≤ w.heap.size + 1; omega)) (by show w.heap.size ≤ w.heap.size + 1; omega)) (by show w.heap.size ≤ w.heap.size + 1; omega)) (by show w.heap.size ≤ w.heap.size + 1; omega)) (by show w.heap.size ≤ w.heap.size + 1; omega)) (by show w.heap.size ≤ w.heap.size + 1; omega))
  clear hB1
  go_wp2
  exact bodyPost_ret (v := errv 1) (by simp [errv, results, Try.results9, go_sem, *]) rfl (runF_err HE.out (by omega) HX.out)
set_option maxRecDepth 100000 in
set_option maxHeartbeats 16000000 in
theorem rrun_mon (hq : tr.length = q) (hv : te.length = v) (hz : st.length = z) (h : Dm w ⟨c, r, t, e, tr, te, st⟩ ⟨A1, c1, A2, c2, A3, c3⟩) (bq : q ≤ 1000000) (bv : v ≤ 1000000) (bz : z ≤ 1000000) (hg : rgb ⟨c, r, t, e, tr, te, st⟩ = true) (hm : ¬mon m) :
    Calls Try.prog 9 #[.agg #[.int .i64 c, .int .i64 r, .int .i64 t, .int .i64 e, .slice A1 q c1, .slice A2 v c2, .slice A3 z c3], .int .i64 m] w (RunF w ⟨c, r, t, e, tr, te, st⟩ m) := by
  have hB : Below w.heap.size w ((w.alloc (.cells #[.int .i64 c, .int .i64 r, .int .i64 t, .int .i64 e, .slice A1 q c1, .slice A2 v c2, .slice A3 z c3] 26)).alloc (.cells #[.int .i64 0, .int .i64 0, .int .i64 0, .int .i64 0, .slice none 0 0, .slice none 0 0, .slice none 0 0] 26)) := Gen.b_alloc (Gen.b_alloc (Below.refl _ _))
  have HM := Lib.hid (h.keep hB)
  have HM0 := Lib.hid h
  have HR0 := Lib.hid (show Row ((w.alloc (.cells #[.int .i64 c, .int .i64 r, .int .i64 t, .int .i64 e, .slice A1 q c1, .slice A2 v c2, .slice A3 z c3] 26)).alloc (.cells #[.int .i64 0, .int .i64 0, .int .i64 0, .int .i64 0, .slice none 0 0, .slice none 0 0, .slice none 0 0] 26)) w.heap.size 26 #[.int .i64 c, .int .i64 r, .int .i64 t, .int .i64 e, .slice A1 q c1, .slice A2 v c2, .slice A3 z c3] from (Row.new _ _ _).alloc _)
  have HR1 := Lib.hid (show Row ((w.alloc (.cells #[.int .i64 c, .int .i64 r, .int .i64 t, .int .i64 e, .slice A1 q c1, .slice A2 v c2, .slice A3 z c3] 26)).alloc (.cells #[.int .i64 0, .int .i64 0, .int .i64 0, .int .i64 0, .slice none 0 0, .slice none 0 0, .slice none 0 0] 26)) (w.heap.size + 1) 26 #[.int .i64 0, .int .i64 0, .int .i64 0, .int .i64 0, .slice none 0 0, .slice none 0 0, .slice none 0 0] from Gen.rowAt _ _ _ (by simp))
  have HB := Lib.hid hB
  have HQ := Lib.hid hq
  have HV := Lib.hid hv
  have HZ := Lib.hid hz
  have HG := Lib.hid hg
  have HE := Lib.hid (runE_1 (d := ⟨c, r, t, e, tr, te, st⟩) (m := m) (fun x => hm x.2))
  have HMm := Lib.hid (decide_eq_false hm)
  clear hB h hq hv hz hg hm
  go_enter Try.func9, Try.ntmps9
  go_wp2_with (fail)
  go_must (refine (rright_lit c r t e tr te st _ _ _ _ _ _ _ _ _ _ HQ.out HV.out HZ.out HM.out bq bv bz).mono ?_)
  rintro e1 w1 ⟨rfl, hb⟩
  rw [HG.out]
  have r1 := HR1.out.keep hb
  have k0 := r1.cell 0
  have kf0 := r1.frozen 0
  have k1 := r1.cell 1
  have kf1 := r1.frozen 1
  have k2 := r1.cell 2
  have kf2 := r1.frozen 2
  have k3 := r1.cell 3
  have kf3 := r1.frozen 3
  have k4 := r1.cell 4
  have kf4 := r1.frozen 4
  have k5 := r1.cell 5
  have kf5 := r1.frozen 5
  have k6 := r1.cell 6
  have kf6 := r1.frozen 6
  have r0 := HR0.out.keep hb
  have j2 : w1.cell? ⟨w.heap.size, 2, none⟩ = some (.int .i64 t) := r0.cell 2
  have kl := r1.lt
  have hB1 := Gen.over hb HB.out
  clear hb r0 r1
  have HX := Lib.hid (Gen.b_set (p := ⟨w.heap.size + 1, 6, none⟩) (u := .slice none 0 0) (Gen.b_set (p := ⟨w.heap.size + 1, 5, none⟩) (u := .slice none 0 0) (Gen.b_set (p := ⟨w.heap.size + 1, 4, none⟩) (u := .slice none 0 0) (Gen.b_set (p := ⟨w.heap.size + 1, 3, none⟩) (u := .int .i64 0) (Gen.b_set (p := ⟨w.heap.size + 1, 2, none⟩) (u := .int .i64 0) (Gen.b_set (p := ⟨w.heap.size + 1, 1, none⟩) (u := .int .i64 0) (Gen.b_set (p := ⟨w.heap.size + 1, 0, none⟩) (u := .int .i64 0) (hB1) (by show w.heap.size ≤ w.heap.size + 1; omega)) (by show w.heap.size ≤ w.heap.size + 1; omega)) (by show w.heap.size ≤ w.heap.size + 1; omega)) (by show w.heap.size ≤ w.heap.size + 1; omega)) (by show w.heap.size ≤ w.heap.size + 1; omega)) (by show w.heap.size ≤ w.heap.size + 1; omega)) (by show w.heap.size ≤ w.heap.size + 1; omega))
  clear hB1
  go_wp2_with (fail)
  go_must (refine (rmoney_any _ _).mono ?_)
  rintro e2 w2 ⟨rfl, rfl⟩
  rw [HMm.out]
  go_wp2
  exact bodyPost_ret (v := errv 1) (by simp [errv, results, Try.results9, go_sem, *]) rfl (runF_err HE.out (by omega) HX.out)
set_option maxRecDepth 100000 in
set_option maxHeartbeats 16000000 in
theorem rrun_rng (hq : tr.length = q) (hv : te.length = v) (hz : st.length = z) (h : Dm w ⟨c, r, t, e, tr, te, st⟩ ⟨A1, c1, A2, c2, A3, c3⟩) (bq : q ≤ 1000000) (bv : v ≤ 1000000) (bz : z ≤ 1000000) (hg : rgb ⟨c, r, t, e, tr, te, st⟩ = true) (hm : mon m) (hs : 1000000000000000 < m + t) :
    Calls Try.prog 9 #[.agg #[.int .i64 c, .int .i64 r, .int .i64 t, .int .i64 e, .slice A1 q c1, .slice A2 v c2, .slice A3 z c3], .int .i64 m] w (RunF w ⟨c, r, t, e, tr, te, st⟩ m) := by
  have hB : Below w.heap.size w ((w.alloc (.cells #[.int .i64 c, .int .i64 r, .int .i64 t, .int .i64 e, .slice A1 q c1, .slice A2 v c2, .slice A3 z c3] 26)).alloc (.cells #[.int .i64 0, .int .i64 0, .int .i64 0, .int .i64 0, .slice none 0 0, .slice none 0 0, .slice none 0 0] 26)) := Gen.b_alloc (Gen.b_alloc (Below.refl _ _))
  have HM := Lib.hid (h.keep hB)
  have HM0 := Lib.hid h
  have HR0 := Lib.hid (show Row ((w.alloc (.cells #[.int .i64 c, .int .i64 r, .int .i64 t, .int .i64 e, .slice A1 q c1, .slice A2 v c2, .slice A3 z c3] 26)).alloc (.cells #[.int .i64 0, .int .i64 0, .int .i64 0, .int .i64 0, .slice none 0 0, .slice none 0 0, .slice none 0 0] 26)) w.heap.size 26 #[.int .i64 c, .int .i64 r, .int .i64 t, .int .i64 e, .slice A1 q c1, .slice A2 v c2, .slice A3 z c3] from (Row.new _ _ _).alloc _)
  have HR1 := Lib.hid (show Row ((w.alloc (.cells #[.int .i64 c, .int .i64 r, .int .i64 t, .int .i64 e, .slice A1 q c1, .slice A2 v c2, .slice A3 z c3] 26)).alloc (.cells #[.int .i64 0, .int .i64 0, .int .i64 0, .int .i64 0, .slice none 0 0, .slice none 0 0, .slice none 0 0] 26)) (w.heap.size + 1) 26 #[.int .i64 0, .int .i64 0, .int .i64 0, .int .i64 0, .slice none 0 0, .slice none 0 0, .slice none 0 0] from Gen.rowAt _ _ _ (by simp))
  have HB := Lib.hid hB
  have HQ := Lib.hid hq
  have HV := Lib.hid hv
  have HZ := Lib.hid hz
  have HG := Lib.hid hg
  have HE := Lib.hid (runE_3 (d := ⟨c, r, t, e, tr, te, st⟩) (m := m) ⟨hg, hm⟩ (fun x => by have := x.1; dsimp only at this; omega))
  have HMm := Lib.hid (decide_eq_true hm)
  have HRG := Lib.hid (rgb_iff.1 hg)
  have ht1 := HRG.out.t.1
  have ht2 := HRG.out.t.2
  have hm1 := hm.1
  have hm2 := hm.2
  dsimp only at ht1 ht2
  have y1 : IntKind.i64.wrap (m + t) = m + t := IntWalk.i64_in _ (by omega)
  clear hB h hq hv hz hg hm
  go_enter Try.func9, Try.ntmps9
  go_wp2_with (fail)
  go_must (refine (rright_lit c r t e tr te st _ _ _ _ _ _ _ _ _ _ HQ.out HV.out HZ.out HM.out bq bv bz).mono ?_)
  rintro e1 w1 ⟨rfl, hb⟩
  rw [HG.out]
  have r1 := HR1.out.keep hb
  have k0 := r1.cell 0
  have kf0 := r1.frozen 0
  have k1 := r1.cell 1
  have kf1 := r1.frozen 1
  have k2 := r1.cell 2
  have kf2 := r1.frozen 2
  have k3 := r1.cell 3
  have kf3 := r1.frozen 3
  have k4 := r1.cell 4
  have kf4 := r1.frozen 4
  have k5 := r1.cell 5
  have kf5 := r1.frozen 5
  have k6 := r1.cell 6
  have kf6 := r1.frozen 6
  have r0 := HR0.out.keep hb
  have j2 : w1.cell? ⟨w.heap.size, 2, none⟩ = some (.int .i64 t) := r0.cell 2
  have kl := r1.lt
  have hB1 := Gen.over hb HB.out
  clear hb r0 r1
  have HX := Lib.hid (Gen.b_set (p := ⟨w.heap.size + 1, 6, none⟩) (u := .slice none 0 0) (Gen.b_set (p := ⟨w.heap.size + 1, 5, none⟩) (u := .slice none 0 0) (Gen.b_set (p := ⟨w.heap.size + 1, 4, none⟩) (u := .slice none 0 0) (Gen.b_set (p := ⟨w.heap.size + 1, 3, none⟩) (u := .int .i64 0) (Gen.b_set (p := ⟨w.heap.size + 1, 2, none⟩) (u := .int .i64 0) (Gen.b_set (p := ⟨w.heap.size + 1, 1, none⟩) (u := .int .i64 0) (Gen.b_set (p := ⟨w.heap.size + 1, 0, none⟩) (u := .int .i64 0) (hB1) (by show w.heap.size ≤ w.heap.size + 1; omega)) (by show w.heap.size ≤ w.heap.size + 1; omega)) (by show w.heap.size ≤ w.heap.size + 1; omega)) (by show w.heap.size ≤ w.heap.size + 1; omega)) (by show w.heap.size ≤ w.heap.size + 1; omega)) (by show w.heap.size ≤ w.heap.size + 1; omega)) (by show w.heap.size ≤ w.heap.size + 1; omega))
  clear hB1
  go_wp2_with (fail)
  go_must (refine (rmoney_any _ _).mono ?_)
  rintro e2 w2 ⟨rfl, rfl⟩
  rw [HMm.out]
  go_wp2
  exact bodyPost_ret (v := errv 3) (by simp [errv, results, Try.results9, go_sem, *]) rfl (runF_err HE.out (by omega) HX.out)
set_option maxRecDepth 100000 in
set_option maxHeartbeats 16000000 in
theorem rrun_ok (hq : tr.length = q) (hv : te.length = v) (hz : st.length = z) (h : Dm w ⟨c, r, t, e, tr, te, st⟩ ⟨A1, c1, A2, c2, A3, c3⟩) (bq : q ≤ 1000000) (bv : v ≤ 1000000) (bz : z ≤ 1000000) (hg : rgb ⟨c, r, t, e, tr, te, st⟩ = true) (hm : mon m) (hs : m + t ≤ 1000000000000000) :
    Calls Try.prog 9 #[.agg #[.int .i64 c, .int .i64 r, .int .i64 t, .int .i64 e, .slice A1 q c1, .slice A2 v c2, .slice A3 z c3], .int .i64 m] w (RunF w ⟨c, r, t, e, tr, te, st⟩ m) := by
  have hB : Below w.heap.size w ((w.alloc (.cells #[.int .i64 c, .int .i64 r, .int .i64 t, .int .i64 e, .slice A1 q c1, .slice A2 v c2, .slice A3 z c3] 26)).alloc (.cells #[.int .i64 0, .int .i64 0, .int .i64 0, .int .i64 0, .slice none 0 0, .slice none 0 0, .slice none 0 0] 26)) := Gen.b_alloc (Gen.b_alloc (Below.refl _ _))
  have HM := Lib.hid (h.keep hB)
  have HM0 := Lib.hid h
  have HR0 := Lib.hid (show Row ((w.alloc (.cells #[.int .i64 c, .int .i64 r, .int .i64 t, .int .i64 e, .slice A1 q c1, .slice A2 v c2, .slice A3 z c3] 26)).alloc (.cells #[.int .i64 0, .int .i64 0, .int .i64 0, .int .i64 0, .slice none 0 0, .slice none 0 0, .slice none 0 0] 26)) w.heap.size 26 #[.int .i64 c, .int .i64 r, .int .i64 t, .int .i64 e, .slice A1 q c1, .slice A2 v c2, .slice A3 z c3] from (Row.new _ _ _).alloc _)
  have HR1 := Lib.hid (show Row ((w.alloc (.cells #[.int .i64 c, .int .i64 r, .int .i64 t, .int .i64 e, .slice A1 q c1, .slice A2 v c2, .slice A3 z c3] 26)).alloc (.cells #[.int .i64 0, .int .i64 0, .int .i64 0, .int .i64 0, .slice none 0 0, .slice none 0 0, .slice none 0 0] 26)) (w.heap.size + 1) 26 #[.int .i64 0, .int .i64 0, .int .i64 0, .int .i64 0, .slice none 0 0, .slice none 0 0, .slice none 0 0] from Gen.rowAt _ _ _ (by simp))
  have HB := Lib.hid hB
  have HQ := Lib.hid hq
  have HV := Lib.hid hv
  have HZ := Lib.hid hz
  have HG := Lib.hid hg
  have HMm := Lib.hid (decide_eq_true hm)
  have HMO := Lib.hid hm
  have HRG := Lib.hid (rgb_iff.1 hg)
  have ht1 := HRG.out.t.1
  have ht2 := HRG.out.t.2
  have hm1 := hm.1
  have hm2 := hm.2
  dsimp only at ht1 ht2
  have y1 : IntKind.i64.wrap (m + t) = m + t := IntWalk.i64_in _ (by omega)
  have hl1 : q ≤ 40 := by rw [← hq]; exact HRG.out.l1
  have hl2 : v ≤ 40 := by rw [← hv]; exact HRG.out.l2
  have hl3 : z ≤ 40 := by rw [← hz]; exact HRG.out.l3
  clear hB h hq hv hz hg hm
  go_enter Try.func9, Try.ntmps9
  go_wp2_with (fail)
  go_must (refine (rright_lit c r t e tr te st _ _ _ _ _ _ _ _ _ _ HQ.out HV.out HZ.out HM.out bq bv bz).mono ?_)
  rintro e1 w1 ⟨rfl, hb⟩
  rw [HG.out]
  have HD1 := Lib.hid (HR0.out.keep hb)
  have HR1 := Lib.hid (HR1.out.keep hb)
  have HM1 := Lib.hid (HM.out.keep hb)
  have HB1 := Lib.hid (Gen.over hb HB.out)
  have kl := HR1.out.lt
  have j0 : w1.cell? ⟨w.heap.size, 0, none⟩ = some (.int .i64 c) := HD1.out.cell 0
  have j1 : w1.cell? ⟨w.heap.size, 1, none⟩ = some (.int .i64 r) := HD1.out.cell 1
  have j2 : w1.cell? ⟨w.heap.size, 2, none⟩ = some (.int .i64 t) := HD1.out.cell 2
  have j3 : w1.cell? ⟨w.heap.size, 3, none⟩ = some (.int .i64 e) := HD1.out.cell 3
  have j4 : w1.cell? ⟨w.heap.size, 4, none⟩ = some (.slice A1 q c1) := HD1.out.cell 4
  have j5 : w1.cell? ⟨w.heap.size, 5, none⟩ = some (.slice A2 v c2) := HD1.out.cell 5
  have j6 : w1.cell? ⟨w.heap.size, 6, none⟩ = some (.slice A3 z c3) := HD1.out.cell 6
  clear hb HR0 HM HB
  go_wp2_with (fail)
  go_must (refine (rmoney_any _ _).mono ?_)
  rintro e2 w2 ⟨rfl, rfl⟩
  rw [HMm.out]
  obtain ⟨i0, hi0, hz0, hz1, hz2⟩ := info_parts' info_t
  have hx : Below w1.heap.size w1 (w1.alloc (.cells #[.int .i64 c, .int .i64 r, .int .i64 0, .int .i64 e, .slice A1 q c1, .slice A2 v c2, .slice A3 z c3] 26)) := Gen.b_alloc (Below.refl _ _)
  have HG2 := Lib.hid (show Row (w1.alloc (.cells #[.int .i64 c, .int .i64 r, .int .i64 0, .int .i64 e, .slice A1 q c1, .slice A2 v c2, .slice A3 z c3] 26)) w1.heap.size 26 #[.int .i64 c, .int .i64 r, .int .i64 0, .int .i64 e, .slice A1 q c1, .slice A2 v c2, .slice A3 z c3] from Row.new _ _ _)
  have HD2 := Lib.hid (HD1.out.keep hx)
  have HR2 := Lib.hid (HR1.out.keep hx)
  have HB2 := Lib.hid (Gen.over hx HB1.out)
  have hr1 := rs_reads (f := tcs) (K := 2) (fun _ => rfl) (by omega) HQ.out ((HM1.out.keep hx).t1)
  have HRD := Lib.hid hr1
  have k4 : (w1.alloc (.cells #[.int .i64 c, .int .i64 r, .int .i64 0, .int .i64 e, .slice A1 q c1, .slice A2 v c2, .slice A3 z c3] 26)).cell? ⟨w.heap.size, 4, none⟩ = some (.slice A1 q c1) := HD2.out.cell 4
  have k4' := Gen.al (o := .cells #[] 39) k4
  have HG2' := Lib.hid (HG2.out.alloc (.cells #[] 39))
  have hgsz : (w1.alloc (.cells #[.int .i64 c, .int .i64 r, .int .i64 0, .int .i64 e, .slice A1 q c1, .slice A2 v c2, .slice A3 z c3] 26)).heap.size = w1.heap.size + 1 := by simp
  clear hx hr1
  go_wp2_with (first
      | (at_builtin
         go_must (refine App.wpList_append_any _ rfl (.tmp 31) (.tmp 33) _ rfl (w1.alloc (.cells #[.int .i64 c, .int .i64 r, .int .i64 0, .int .i64 e, .slice A1 q c1, .slice A2 v c2, .slice A3 z c3] 26)).heap.size 39 i0 _ 2 16 Try.underlying22 hi0 hz0 hz1 hz2 rfl (by omega) (.slice (some ⟨(w1.alloc (.cells #[.int .i64 c, .int .i64 r, .int .i64 0, .int .i64 e, .slice A1 q c1, .slice A2 v c2, .slice A3 z c3] 26)).heap.size, 0, none⟩) 0 0) 0 [] (by simp [Act.eval, Act.put]) (own_new (w1.alloc (.cells #[.int .i64 c, .int .i64 r, .int .i64 0, .int .i64 e, .slice A1 q c1, .slice A2 v c2, .slice A3 z c3] 26)) 39 2) (w1.alloc (.cells #[.int .i64 c, .int .i64 r, .int .i64 0, .int .i64 e, .slice A1 q c1, .slice A2 v c2, .slice A3 z c3] 26)).heap.size A1 q c1 (tr.flatMap tcs) rfl (HRD.out.alloc (Nat.le_refl _) _) (tcs_one tr) (by simp only [maxLen]; omega) (by omega) (by simp) ?_)
         intro v3 w3 hown3 hg3 hat3
         rw [List.nil_append, Nat.zero_add] at hown3
         have hb3 : Below (w1.alloc (.cells #[.int .i64 c, .int .i64 r, .int .i64 0, .int .i64 e, .slice A1 q c1, .slice A2 v c2, .slice A3 z c3] 26)).heap.size (w1.alloc (.cells #[.int .i64 c, .int .i64 r, .int .i64 0, .int .i64 e, .slice A1 q c1, .slice A2 v c2, .slice A3 z c3] 26)) w3 := Gen.g_below (own_new (w1.alloc (.cells #[.int .i64 c, .int .i64 r, .int .i64 0, .int .i64 e, .slice A1 q c1, .slice A2 v c2, .slice A3 z c3] 26)) 39 2) hg3 (Gen.b_alloc (Below.refl _ _)) (Nat.le_refl _)
         obtain ⟨A4, c4, rfl, _⟩ := Gen.own_slice hown3
         have HG3 := Lib.hid (HG2.out.keep hb3)
         have kg4 : w3.cell? ⟨w1.heap.size, 4, none⟩ = some (.slice A1 q c1) := HG3.out.cell 4
         have kgf := HG3.out.frozen 4
         have HO3 := Lib.hid hown3
         have HB3 := Lib.hid hb3
         clear hg3 hat3 hown3 hb3)
      | fail)
  have hsz1 : (w1.alloc (.cells #[.int .i64 c, .int .i64 r, .int .i64 0, .int .i64 e, .slice A1 q c1, .slice A2 v c2, .slice A3 z c3] 26)).heap.size ≤ w3.heap.size := HB3.out.size
  rw [hgsz] at hsz1
  have hA4 : ∀ a, A4 = some a → w1.heap.size + 1 ≤ a.block := fun a ha => by have := own_ab HO3.out a ha; rw [hgsz] at this; exact this
  have hA4' : ∀ a, A4 = some a → a.block < w3.heap.size := own_lt HO3.out
  obtain ⟨g, hg⟩ : ∃ g, g = w1.heap.size := ⟨_, rfl⟩
  rw [hgsz] at HO3
  have hgr := Row.set HG3.out 4 (.slice A4 q c4)
  have hgo := st_own (g := w1.heap.size) (i := 4) (u := .slice A4 q c4) HO3.out (by omega)
  have HD5 := Lib.hid (st_row (g := w1.heap.size) (i := 4) (u := .slice A4 q c4) (HD2.out.keep HB3.out) (by omega))
  have HR5 := Lib.hid (st_row (g := w1.heap.size) (i := 4) (u := .slice A4 q c4) (HR2.out.keep HB3.out) (by omega))
  have hb5 := Gen.b_set (p := ⟨w1.heap.size, 4, none⟩) (u := .slice A4 q c4) (Gen.over HB3.out HB2.out) (by show w.heap.size ≤ w1.heap.size; omega)
  have hsz5 : (w3.setCell ⟨w1.heap.size, 4, none⟩ (.slice A4 q c4)).heap.size = w3.heap.size := by rw [World.size_setCell]
  obtain ⟨W5, hW5⟩ : ∃ W, W = w3.setCell ⟨w1.heap.size, 4, none⟩ (.slice A4 q c4) := ⟨_, rfl⟩
  rw [← hW5] at hgr hgo HD5 HR5 hb5 hsz5
  rw [← hW5]
  have HB5 := Lib.hid hb5
  rw [← hg] at hgr hA4 hsz1
  rw [← hg]
  replace hgr : Row W5 g 26 #[.int .i64 c, .int .i64 r, .int .i64 0, .int .i64 e, .slice A4 q c4, .slice A2 v c2, .slice A3 z c3] := hgr
  have kg1 : w.heap.size + 1 < g := by rw [hg]; exact kl
  rw [← hg] at hgo
  clear hW5 k4 k4' kg4 kgf HG3 HO3 HB3 HG2 HG2' HD2 HR2 HB2 HRD HD1 HM1 HB1 kl hgsz hb5 j0 j1 j2 j3 j4 j5 j6
  have HGW : Hid (Gw W5 (g + 1) g c v z ⟨A4, c4, A2, c2, A3, c3⟩ (top ⟨c, r, t, e, tr, te, st⟩ m)) := Lib.hid ⟨by show Row W5 g 26 #[.int .i64 c, .int .i64 r, .int .i64 0, .int .i64 e, .slice A4 tr.length c4, .slice A2 v c2, .slice A3 z c3]; rw [HQ.out]; exact hgr, by show W5.ownsRow (g + 1) 39 2 (.slice A4 tr.length c4) tr.length (tr.flatMap tcs); rw [HQ.out]; exact hgo, fun a ha => by have := hA4 a ha; omega⟩
  have HWB : Hid (∀ b, (b = g ∨ ∃ a, A4 = some a ∧ b = a.block) → w.heap.size + 1 < b ∧ b < W5.heap.size) := Lib.hid (fun b hb => by
    rw [hsz5]
    rcases hb with rfl | ⟨a, ha, rfl⟩
    · omega
    · have := hA4 a ha; have := hA4' a ha; omega)
  have HRN := Lib.hid (fun (l : List St) => run_far (c := c) (te := te) (l := l) (f := top ⟨c, r, t, e, tr, te, st⟩ m))
  have HTOP := Lib.hid (top_ok HRG.out HMO.out (by exact hs))
  have HAP : Hid (∀ a, A4 = some a → a.block ≠ g) := Lib.hid (fun a ha => by have := hA4 a ha; omega)
  have HS9 := Lib.hid hs
  clear hgr hgo hA4 hA4' hsz1 hsz5 hg hs
  obtain ⟨iI, hiI, hzI, hyI, hxI⟩ := info_parts' info_i
  go_loopw [7, 9, 10] (fun pv tv iv wr => ∃ (k : Nat) (At : Option Addr) (ct : Nat), k ≤ z ∧ iv = .int .i64 k ∧ tv = .slice At k ct ∧ pv = .int .i64 (run c te (st.take k) (top ⟨c, r, t, e, tr, te, st⟩ m)).2.p ∧ Gw wr (g + 1) g c v z ⟨A4, c4, A2, c2, A3, c3⟩ (run c te (st.take k) (top ⟨c, r, t, e, tr, te, st⟩ m)).2 ∧ wr.ownsRow W5.heap.size 3 1 (.slice At k ct) k (ils (run c te (st.take k) (top ⟨c, r, t, e, tr, te, st⟩ m)).1) ∧ Only W5 wr (fun b => b = g ∨ ∃ a, A4 = some a ∧ b = a.block)) (fun _ _ iv _ => z - (intOf iv).toNat)
  case atStart => exact ⟨0, none, 0, Nat.zero_le _, rfl, rfl, rfl, HGW.out, ⟨rfl, .inl ⟨rfl, rfl⟩⟩, Only.refl _ _⟩
  case round =>
    obtain ⟨k, At, ct, hk, rfl, rfl, rfl, hF, hO, hW⟩ := hrel
    have kk0 : (0 : Int) ≤ (k : Int) := by omega
    have hBw : Below w.heap.size w wr := Only.below HB5.out hW (fun b hb => by have := (HWB.out b hb).1; omega)
    have k6 : wr.cell? ⟨w.heap.size, 6, none⟩ = some (.slice A3 z c3) := (Only.row hW HD5.out (fun hb => by have := (HWB.out _ hb).1; omega)).cell 6
    by_cases hlt : k < z
    · obtain ⟨b, off, rfl, hcell⟩ := (HM0.out.t3.keep hBw) (by dsimp only; rw [HZ.out]; omega)
      obtain ⟨⟨sk, sn, sa⟩, hx⟩ := at_ st k (by rw [HZ.out]; exact hlt)
      have hso := HRG.out.st _ (mem_of_at hx)
      obtain ⟨hfar, _, _⟩ := HRN.out (st.take k) HTOP.out (fun s hs => HRG.out.st s (List.mem_of_mem_take hs))
      have hok := hfar.ok
      have hlen : (run c te (st.take k) (top ⟨c, r, t, e, tr, te, st⟩ m)).2.tr.length = q := hfar.ls.1.trans HQ.out
      have hrun := run_take (c := c) (te := te) (f := top ⟨c, r, t, e, tr, te, st⟩ m) hx
      obtain ⟨⟨xs, f⟩, hf⟩ : ∃ y, run c te (st.take k) (top ⟨c, r, t, e, tr, te, st⟩ m) = y := ⟨_, rfl⟩
      rw [hf] at hF hO hok hlen hrun
      simp only [hf]
      dsimp only at hF hO hok hlen hrun
      have HRUN := Lib.hid hrun
      have d0 := hcell k _ hx 0 _ rfl
      have d1 := hcell k _ hx 1 _ rfl
      have d2 := hcell k _ hx 2 _ rfl
      rw [Nat.add_zero] at d0
      dsimp only at d0 d1 d2
      have hB0 : Below wr.heap.size wr (wr.alloc (.cells #[.int .i64 sk, .int .i64 sn, .int .i64 sa] 42)) := Gen.b_alloc (Below.refl _ _)
      have hR0 : Row (wr.alloc (.cells #[.int .i64 sk, .int .i64 sn, .int .i64 sa] 42)) wr.heap.size 42 #[.int .i64 sk, .int .i64 sn, .int .i64 sa] := Row.new _ _ _
      have HGX := Lib.hid (hF.keep hB0)
      have HOX := Lib.hid (be_own hO hB0)
      have HWX := Lib.hid (hW.more hB0)
      have HOx0 := Lib.hid hO
      have HSZ := Lib.hid (show W5.heap.size ≤ wr.heap.size from hW.size)
      have HBX := Lib.hid (Gen.over hB0 hBw)
      have e0 : (wr.alloc (.cells #[.int .i64 sk, .int .i64 sn, .int .i64 sa] 42)).cell? ⟨wr.heap.size, 0, none⟩ = some (.int .i64 sk) := hR0.cell 0
      have e1 : (wr.alloc (.cells #[.int .i64 sk, .int .i64 sn, .int .i64 sa] 42)).cell? ⟨wr.heap.size, 1, none⟩ = some (.int .i64 sn) := hR0.cell 1
      have e2 : (wr.alloc (.cells #[.int .i64 sk, .int .i64 sn, .int .i64 sa] 42)).cell? ⟨wr.heap.size, 2, none⟩ = some (.int .i64 sa) := hR0.cell 2
      have hk1 : (k : Int) < (z : Int) := by omega
      have HN1 := Lib.hid (show k + 1 ≤ maxLen from by simp only [maxLen]; omega)
      have HN2 := Lib.hid (show (k + 1) * 8 ≤ 140737488355328 from by omega)
      have HOK := Lib.hid hok
      have HLN := Lib.hid hlen
      have HSO := Lib.hid (show stOk f.tr.length te.length ⟨sk, sn, sa⟩ from by rw [hlen, ← HQ.out]; exact hso)
      clear hBw hcell hx hfar hok hrun hB0 hR0 hF hO hW hlt
      dsimp only at hso
      rw [HQ.out, HV.out] at hso
      unfold stOk at hso
      dsimp only at hso
      have hpot := stp_pot (c := c) (te := te) (s := ⟨sk, sn, sa⟩) HOK.out
      obtain ⟨_, hx1, hx2, _, _, hx3, _, _⟩ := stp_ok (c := c) HOK.out HSO.out
      have hfp := HOK.out.p
      have hfpt := HOK.out.pt
      have hft := HOK.out.t
      obtain ⟨⟨X, f2⟩, hst⟩ : ∃ y, stp c te f ⟨sk, sn, sa⟩ = y := ⟨_, rfl⟩
      rw [hst] at hpot hx1 hx2 hx3 HRUN
      dsimp only at hpot hx1 hx2 hx3 HRUN
      have HPOT := Lib.hid hpot
      have HST := Lib.hid hst
      clear hpot hst
      go_upto_block 2 with (fail)
      clear d0 d1 d2 k6
      go_cut [12] (fun xv wx => xv = .int .i64 X ∧ Gw wx (g + 1) g c v z ⟨A4, c4, A2, c2, (some ⟨b, off, none⟩), c3⟩ f2 ∧ wx.ownsRow W5.heap.size 3 1 (.slice At k ct) k (ils xs) ∧ Only W5 wx (fun b => b = g ∨ ∃ a, A4 = some a ∧ b = a.block))
      case first =>
        rcases hso with ⟨hkk, hn1, hn2, rfl⟩ | ⟨rfl, ha, rfl⟩ | ⟨rfl, hn1, hn2, rfl⟩ | ⟨rfl, rfl, rfl⟩
        · rcases hkk with rfl | rfl
          · skip
            have hfe := HOK.out.e
            have hfe2 := HOK.out.e2
            have hfr1 := HOK.out.r.1
            have hfr2 := HOK.out.r.2
            obtain ⟨n, rfl⟩ := Int.eq_ofNat_of_zero_le hn1
            have hnq : n < f.tr.length := by rw [HLN.out]; omega
            obtain ⟨⟨xb, xu⟩, hx⟩ := at_ f.tr n hnq
            obtain ⟨⟨x1, x2⟩, x3, x4⟩ := HOK.out.tr _ (mem_of_at hx)
            dsimp only at x1 x2 x3 x4
            have h9 := HST.out
            rw [stp_0 _ _ _ _ _ (x := ⟨xb, xu⟩) (by rw [Int.toNat_natCast]; exact hx), Int.toNat_natCast] at h9
            dsimp only at h9
            injection h9 with h91 h92
            rw [h91] at h92
            have HF2 := Lib.hid h92
            obtain ⟨gt, cap, hv, _, _⟩ := HGX.out.own.form (by omega)
            obtain rfl : A4 = some ⟨gt, 0, none⟩ := by injection hv
            clear hv
            have hgne : gt ≠ g := HAP.out _ rfl
            have m1 : (wr.alloc (.cells #[.int .i64 0, .int .i64 (n : Int), .int .i64 0] 42)).cell? ⟨gt, n * 2 + 1, none⟩ = some (.int .i64 xu) := by have := HGX.out.own.cells (g := gt) rfl (n * 2 + 1) _ (by rw [Gen.flat_at (f := tcs) (K := 2) (fun _ => rfl) f.tr _ _ hx 1 (by omega)]; rfl); rw [Addr.add_lit] at this; rwa [show 0 + (n * 2 + 1) = n * 2 + 1 by omega] at this
            have mf1 : (wr.alloc (.cells #[.int .i64 0, .int .i64 (n : Int), .int .i64 0] 42)).frozen? ⟨gt, n * 2 + 1, none⟩ = false := own_frozen HGX.out.own
            have n1 : (wr.alloc (.cells #[.int .i64 0, .int .i64 (n : Int), .int .i64 0] 42)).cell? ⟨g, 1, none⟩ = some (.int .i64 f.r) := HGX.out.row.cell 1
            have n4 : (wr.alloc (.cells #[.int .i64 0, .int .i64 (n : Int), .int .i64 0] 42)).cell? ⟨g, 4, none⟩ = some (.slice (some ⟨gt, 0, none⟩) q c4) := by have := HGX.out.row.cell 4; rw [HLN.out] at this; exact this
            have nf1 : (wr.alloc (.cells #[.int .i64 0, .int .i64 (n : Int), .int .i64 0] 42)).frozen? ⟨g, 1, none⟩ = false := HGX.out.row.frozen 1
            have hn3 : (n : Int) < (q : Int) := hn2
            have hn0 : (0 : Int) ≤ (n : Int) := by omega
            have HXX := Lib.hid hx
            clear hx hnq hn1 hn2 h92 e2
            have HVV := Lib.hid (show (if f.p + f.r < xu then f.p + f.r else xu) = X from by rw [← h91]; split <;> omega)
            have hX1 : X ≤ xu := by omega
            have hX2 : X ≤ f.p + f.r := by omega
            have y6 : IntKind.i64.wrap (f.p + f.r) = f.p + f.r := IntWalk.i64_in _ (by omega)
            have y9 : IntKind.i64.wrap (xu - X) = xu - X := IntWalk.i64_in _ (by omega)
            have y5 : IntKind.i64.wrap (X - f.p) = X - f.p := IntWalk.i64_in _ (by omega)
            have y4 : IntKind.i64.wrap (f.r - (X - f.p)) = f.r - (X - f.p) := IntWalk.i64_in _ (by omega)
            have HXE := Lib.hid h91
            clear h91
            have hX0 : 0 ≤ X := hx1
            by_cases hov : f.p < X
            · have hmin : min X f.p = f.p := by omega
              have hov2 : decide (f.p < X) = true := decide_eq_true hov
              go_wp2
              go_quiet (fail)
              rw [HVV.out]
              clear y6
              go_wp2
              go_region
              go_wp2
              go_meet
              have h92 := HF2.out
              rw [hmin] at h92
              subst h92
              have hG9 := Gw.putt (i := n) (o := 1) (y := ⟨xb, xu - X⟩) (u := .int .i64 (xu - X)) (f' := ⟨f.p - f.p, f.r, f.t, f.e, f.tr.set n ⟨xb, xu - X⟩⟩) (HGX.out.keep (Gen.dN (Below.refl _ _) (nq + 1))) HXX.out rfl rfl rfl rfl (by omega) rfl
              have hO9 := own_more (be_own HOX.out (Gen.dN (Below.refl _ _) (nq + 1))) (Only.set (p := ⟨gt, n * 2 + 1, none⟩) (Only.refl _ (fun b => b = gt)) (.inl rfl) (.int .i64 (xu - X))) (fun b hb => (HWB.out b (.inr ⟨_, rfl, hb⟩)).2)
              have hW9 := Only.set (p := ⟨gt, n * 2 + 1, none⟩) (HWX.out.more (Gen.dN (Below.refl _ _) (nq + 1))) (.inl (.inr ⟨_, rfl, rfl⟩)) (.int .i64 (xu - X))
              exact ⟨rfl, hG9.put (Only.set (p := ⟨g, 1, none⟩) (Only.refl _ (fun b => b = g)) (.inl rfl) (.int .i64 (f.r - (X - f.p)))) rfl (Row.set hG9.row 1 (.int .i64 (f.r - (X - f.p)))), own_more hO9 (Only.set (p := ⟨g, 1, none⟩) (Only.refl _ (fun b => b = g)) (.inl rfl) (.int .i64 (f.r - (X - f.p)))) (fun b hb => (HWB.out b (.inl hb)).2), Only.set (p := ⟨g, 1, none⟩) hW9 (.inl (.inl rfl)) (.int .i64 (f.r - (X - f.p)))⟩
            · have hmin : min X f.p = X := by omega
              have hov2 : decide (f.p < X) = false := decide_eq_false hov
              clear y5 y4
              go_wp2
              go_quiet (fail)
              rw [HVV.out]
              clear y6
              go_wp2
              go_region
              go_wp2
              go_meet
              have h92 := HF2.out
              rw [hmin, show X - X = 0 by omega, show f.r - 0 = f.r by omega] at h92
              subst h92
              have hG9 := Gw.putt (i := n) (o := 1) (y := ⟨xb, xu - X⟩) (u := .int .i64 (xu - X)) (f' := ⟨f.p - X, f.r, f.t, f.e, f.tr.set n ⟨xb, xu - X⟩⟩) (HGX.out.keep (Gen.dN (Below.refl _ _) (nq + 1))) HXX.out rfl rfl rfl rfl (by omega) rfl
              have hO9 := own_more (be_own HOX.out (Gen.dN (Below.refl _ _) (nq + 1))) (Only.set (p := ⟨gt, n * 2 + 1, none⟩) (Only.refl _ (fun b => b = gt)) (.inl rfl) (.int .i64 (xu - X))) (fun b hb => (HWB.out b (.inr ⟨_, rfl, hb⟩)).2)
              have hW9 := Only.set (p := ⟨gt, n * 2 + 1, none⟩) (HWX.out.more (Gen.dN (Below.refl _ _) (nq + 1))) (.inl (.inr ⟨_, rfl, rfl⟩)) (.int .i64 (xu - X))
              exact ⟨rfl, hG9, hO9, hW9⟩
          · skip
            have hfe := HOK.out.e
            have hfe2 := HOK.out.e2
            have hfr1 := HOK.out.r.1
            have hfr2 := HOK.out.r.2
            obtain ⟨n, rfl⟩ := Int.eq_ofNat_of_zero_le hn1
            have hnq : n < f.tr.length := by rw [HLN.out]; omega
            obtain ⟨⟨xb, xu⟩, hx⟩ := at_ f.tr n hnq
            obtain ⟨⟨x1, x2⟩, x3, x4⟩ := HOK.out.tr _ (mem_of_at hx)
            dsimp only at x1 x2 x3 x4
            have h9 := HST.out
            rw [stp_1 _ _ _ _ _ (x := ⟨xb, xu⟩) (by rw [Int.toNat_natCast]; exact hx), Int.toNat_natCast] at h9
            dsimp only at h9
            injection h9 with h91 h92
            rw [h91] at h92
            have HF2 := Lib.hid h92
            obtain ⟨gt, cap, hv, _, _⟩ := HGX.out.own.form (by omega)
            obtain rfl : A4 = some ⟨gt, 0, none⟩ := by injection hv
            clear hv
            have hgne : gt ≠ g := HAP.out _ rfl
            have m0 : (wr.alloc (.cells #[.int .i64 1, .int .i64 (n : Int), .int .i64 0] 42)).cell? ⟨gt, n * 2, none⟩ = some (.int .i64 xb) := by have := HGX.out.own.cells (g := gt) rfl (n * 2 + 0) _ (by rw [Gen.flat_at (f := tcs) (K := 2) (fun _ => rfl) f.tr _ _ hx 0 (by omega)]; rfl); rw [Addr.add_lit] at this; rwa [show 0 + (n * 2 + 0) = n * 2 by omega] at this
            have mf0 : (wr.alloc (.cells #[.int .i64 1, .int .i64 (n : Int), .int .i64 0] 42)).frozen? ⟨gt, n * 2, none⟩ = false := own_frozen HGX.out.own
            have n1 : (wr.alloc (.cells #[.int .i64 1, .int .i64 (n : Int), .int .i64 0] 42)).cell? ⟨g, 1, none⟩ = some (.int .i64 f.r) := HGX.out.row.cell 1
            have n4 : (wr.alloc (.cells #[.int .i64 1, .int .i64 (n : Int), .int .i64 0] 42)).cell? ⟨g, 4, none⟩ = some (.slice (some ⟨gt, 0, none⟩) q c4) := by have := HGX.out.row.cell 4; rw [HLN.out] at this; exact this
            have nf1 : (wr.alloc (.cells #[.int .i64 1, .int .i64 (n : Int), .int .i64 0] 42)).frozen? ⟨g, 1, none⟩ = false := HGX.out.row.frozen 1
            have hn3 : (n : Int) < (q : Int) := hn2
            have hn0 : (0 : Int) ≤ (n : Int) := by omega
            have HXX := Lib.hid hx
            clear hx hnq hn1 hn2 h92 e2
            have HVV := Lib.hid (show (if xb < f.p then xb else f.p) = X from by rw [← h91]; split <;> omega)
            have hX1 : X ≤ xb := by omega
            have y9 : IntKind.i64.wrap (xb - X) = xb - X := IntWalk.i64_in _ (by omega)
            clear h91
            go_upto_region 23 with (fail)
            rw [HVV.out]
            go_region
            go_wp2
            go_meet
            have h92 := HF2.out
            subst h92
            exact ⟨rfl, (Gw.putt (i := n) (o := 0) (y := ⟨xb - X, xu⟩) (u := .int .i64 (xb - X)) (f' := ⟨f.p - X, f.r, f.t, f.e, f.tr.set n ⟨xb - X, xu⟩⟩) HGX.out HXX.out rfl rfl rfl rfl (by omega) rfl).keep (Below.refl _ _).drew, own_more HOX.out ((Only.set (p := ⟨gt, n * 2, none⟩) (Only.refl _ (fun b => b = gt)) (.inl rfl) (.int .i64 (xb - X))).more (Below.refl _ _).drew) (fun b hb => (HWB.out b (.inr ⟨_, rfl, hb⟩)).2), (Only.set (p := ⟨gt, n * 2, none⟩) HWX.out (.inl (.inr ⟨_, rfl, rfl⟩)) (.int .i64 (xb - X))).more (Below.refl _ _).drew⟩
        · skip
          have hfe := HOK.out.e
          have hfe2 := HOK.out.e2
          have hfr1 := HOK.out.r.1
          have hfr2 := HOK.out.r.2
          have h9 := HST.out
          rw [stp_2] at h9
          injection h9 with h91 h92
          rw [h91] at h92
          subst h92
          have ha1 := ha.1
          have ha2 := ha.2
          have n1 : (wr.alloc (.cells #[.int .i64 2, .int .i64 0, .int .i64 sa] 42)).cell? ⟨g, 1, none⟩ = some (.int .i64 f.r) := HGX.out.row.cell 1
          have nf1 : (wr.alloc (.cells #[.int .i64 2, .int .i64 0, .int .i64 sa] 42)).frozen? ⟨g, 1, none⟩ = false := HGX.out.row.frozen 1
          have y9 : IntKind.i64.wrap (f.r + X) = f.r + X := IntWalk.i64_in _ (by omega)
          by_cases hra : f.r < sa
          · have HVV := Lib.hid (show (if sa - f.r < f.p then sa - f.r else f.p) = X from by rw [← h91]; split <;> omega)
            have y8 : IntKind.i64.wrap (sa - f.r) = sa - f.r := IntWalk.i64_in _ (by omega)
            clear e1 h91
            go_upto_region 28 with (fail)
            rw [HVV.out]
            clear y8
            go_wp2
            go_meet
            exact ⟨rfl, HGX.out.put (Only.set (p := ⟨g, 1, none⟩) (Only.refl _ (fun b => b = g)) (.inl rfl) (.int .i64 (f.r + X))) rfl (Row.set HGX.out.row 1 (.int .i64 (f.r + X))), own_more HOX.out (Only.set (p := ⟨g, 1, none⟩) (Only.refl _ (fun b => b = g)) (.inl rfl) (.int .i64 (f.r + X))) (fun b hb => (HWB.out b (.inl hb)).2), Only.set (p := ⟨g, 1, none⟩) HWX.out (.inl (.inl rfl)) (.int .i64 (f.r + X))⟩
          · obtain rfl : X = 0 := by rw [← h91]; omega
            clear e1 h91 y9
            have y7 : f.r + 0 = f.r := by omega
            have HGY := HGX
            go_wp2
            go_meet
            exact ⟨rfl, HGX.out.put (Only.set (p := ⟨g, 1, none⟩) (Only.refl _ (fun b => b = g)) (.inl rfl) (.int .i64 (f.r))) rfl (by rw [y7]; exact Row.set HGX.out.row 1 (.int .i64 (f.r))), own_more HOX.out (Only.set (p := ⟨g, 1, none⟩) (Only.refl _ (fun b => b = g)) (.inl rfl) (.int .i64 (f.r))) (fun b hb => (HWB.out b (.inl hb)).2), Only.set (p := ⟨g, 1, none⟩) HWX.out (.inl (.inl rfl)) (.int .i64 (f.r))⟩
        · skip
          have hfe := HOK.out.e
          have hfe2 := HOK.out.e2
          have hfr1 := HOK.out.r.1
          have hfr2 := HOK.out.r.2
          obtain ⟨n, rfl⟩ := Int.eq_ofNat_of_zero_le hn1
          obtain ⟨x, hx⟩ : ∃ x, te[n]? = some x := at_ te n (by rw [HV.out]; omega)
          have h9 := HST.out
          rw [stp_3 _ _ _ _ _ hx] at h9
          have n0 : (wr.alloc (.cells #[.int .i64 3, .int .i64 (n : Int), .int .i64 0] 42)).cell? ⟨g, 0, none⟩ = some (.int .i64 c) := HGX.out.row.cell 0
          have n1 : (wr.alloc (.cells #[.int .i64 3, .int .i64 (n : Int), .int .i64 0] 42)).cell? ⟨g, 1, none⟩ = some (.int .i64 f.r) := HGX.out.row.cell 1
          have n2 : (wr.alloc (.cells #[.int .i64 3, .int .i64 (n : Int), .int .i64 0] 42)).cell? ⟨g, 2, none⟩ = some (.int .i64 f.t) := HGX.out.row.cell 2
          have n3 : (wr.alloc (.cells #[.int .i64 3, .int .i64 (n : Int), .int .i64 0] 42)).cell? ⟨g, 3, none⟩ = some (.int .i64 f.e) := HGX.out.row.cell 3
          have n4 : (wr.alloc (.cells #[.int .i64 3, .int .i64 (n : Int), .int .i64 0] 42)).cell? ⟨g, 4, none⟩ = some (.slice A4 q c4) := by have := HGX.out.row.cell 4; rw [HLN.out] at this; exact this
          have n5 : (wr.alloc (.cells #[.int .i64 3, .int .i64 (n : Int), .int .i64 0] 42)).cell? ⟨g, 5, none⟩ = some (.slice A2 v c2) := HGX.out.row.cell 5
          have n6 : (wr.alloc (.cells #[.int .i64 3, .int .i64 (n : Int), .int .i64 0] 42)).cell? ⟨g, 6, none⟩ = some (.slice (some ⟨b, off, none⟩) z c3) := HGX.out.row.cell 6
          have nf2 : (wr.alloc (.cells #[.int .i64 3, .int .i64 (n : Int), .int .i64 0] 42)).frozen? ⟨g, 2, none⟩ = false := HGX.out.row.frozen 2
          have HXX := Lib.hid hx
          have hrs := rs_own (f := tcs) (K := 2) (fun _ => rfl) rfl HGX.out.own
          have HRS := Lib.hid hrs
          have HTO := Lib.hid (show teOk q x from by have := HRG.out.te x (mem_of_at hx); dsimp only at this; rw [HQ.out] at this; exact this)
          have HH9 := Lib.hid h9
          clear e2 hx hrs h9
          go_wp2_with (fail)
          go_must (refine (tested_lit c f.r f.t f.e f.tr te A4 A2 _ c4 c2 c3 q v z _ n x HLN.out HV.out HRS.out (HM0.out.t2.keep HBX.out) HXX.out HOK.out.tr HRG.out.c HTO.out hl1 hl2).mono ?_)
          rintro e8 w8 ⟨rfl, hb8⟩
          have hg8 := HGX.out.keep hb8
          have p2 : w8.cell? ⟨g, 2, none⟩ = some (.int .i64 f.t) := hg8.row.cell 2
          have pf2 := hg8.row.frozen 2
          have HG8 := Lib.hid hg8
          have HO8 := Lib.hid (be_own HOX.out hb8)
          have HW8 := Lib.hid (HWX.out.more hb8)
          have h9 := HH9.out
          clear n0 n1 n2 n3 n4 n5 n6 nf2 hg8 hb8 e1 HH9
          by_cases hps : psd f.tr c x
          · rw [if_pos hps] at h9
            injection h9 with h91 h92
            subst h91 h92
            rw [decide_eq_true hps]
            clear hps
            go_wp2
            go_meet
            exact ⟨rfl, HG8.out.put (Only.set (p := ⟨g, 2, none⟩) (Only.refl _ (fun b => b = g)) (.inl rfl) (.int .i64 (f.t))) rfl (Row.set HG8.out.row 2 (.int .i64 (f.t))), own_more HO8.out (Only.set (p := ⟨g, 2, none⟩) (Only.refl _ (fun b => b = g)) (.inl rfl) (.int .i64 (f.t))) (fun b hb => (HWB.out b (.inl hb)).2), Only.set (p := ⟨g, 2, none⟩) HW8.out (.inl (.inl rfl)) (.int .i64 (f.t))⟩
          · rw [if_neg hps] at h9
            injection h9 with h91 h92
            subst h91 h92
            rw [decide_eq_false hps]
            clear hps
            have y9 : IntKind.i64.wrap (f.t + f.p) = f.t + f.p := IntWalk.i64_in _ (by omega)
            go_wp2
            go_meet
            exact ⟨rfl, HG8.out.put (Only.set (p := ⟨g, 2, none⟩) (Only.refl _ (fun b => b = g)) (.inl rfl) (.int .i64 (f.t + f.p))) rfl (Row.set HG8.out.row 2 (.int .i64 (f.t + f.p))), own_more HO8.out (Only.set (p := ⟨g, 2, none⟩) (Only.refl _ (fun b => b = g)) (.inl rfl) (.int .i64 (f.t + f.p))) (fun b hb => (HWB.out b (.inl hb)).2), Only.set (p := ⟨g, 2, none⟩) HW8.out (.inl (.inl rfl)) (.int .i64 (f.t + f.p))⟩
        · skip
          have hfe := HOK.out.e
          have hfe2 := HOK.out.e2
          have hfr1 := HOK.out.r.1
          have hfr2 := HOK.out.r.2
          have h9 := HST.out
          rw [stp_4] at h9
          injection h9 with h91 h92
          subst h91 h92
          have n3 : (wr.alloc (.cells #[.int .i64 4, .int .i64 0, .int .i64 0] 42)).cell? ⟨g, 3, none⟩ = some (.int .i64 f.e) := HGX.out.row.cell 3
          have nf3 : (wr.alloc (.cells #[.int .i64 4, .int .i64 0, .int .i64 0] 42)).frozen? ⟨g, 3, none⟩ = false := HGX.out.row.frozen 3
          have y9 : IntKind.i64.wrap (f.e + f.p) = f.e + f.p := IntWalk.i64_in _ (by omega)
          clear e1 e2
          go_wp2
          go_meet
          exact ⟨rfl, HGX.out.put (Only.set (p := ⟨g, 3, none⟩) (Only.refl _ (fun b => b = g)) (.inl rfl) (.int .i64 (f.e + f.p))) rfl (Row.set HGX.out.row 3 (.int .i64 (f.e + f.p))), own_more HOX.out (Only.set (p := ⟨g, 3, none⟩) (Only.refl _ (fun b => b = g)) (.inl rfl) (.int .i64 (f.e + f.p))) (fun b hb => (HWB.out b (.inl hb)).2), Only.set (p := ⟨g, 3, none⟩) HWX.out (.inl (.inl rfl)) (.int .i64 (f.e + f.p))⟩
      case rest =>
        obtain ⟨rfl, hF2, hO2, hW2⟩ := hcut
        have hw1 : IntKind.i64.wrap (f.p - X) = f.p - X := IntWalk.i64_in _ (by omega)
        have HSZ2 := Lib.hid (show W5.heap.size ≤ wc.heap.size from hW2.size)
        have HF2 := Lib.hid hF2
        have HO2 := Lib.hid hO2
        have HW2 := Lib.hid hW2
        clear hF2 hO2 hW2 hso
        go_wp2_with (first
          | (at_builtin
             go_must (refine App.wpList_append_any _ rfl (.tmp 157) (.tmp 159) _ rfl W5.heap.size 3 iI _ 1 8 Try.underlying28 hiI hzI hyI hxI rfl (by omega) (.slice At k ct) k (ils xs) rfl (be_own HO2.out (Gen.b_alloc (Below.refl _ _))) _ _ 1 1 [.int .i64 X] rfl (Gen.reads_blk (by simp) rfl) (by simp [Value.oneCell']) HN1.out HN2.out (by have := HSZ2.out; rw [World.size_alloc]; omega) ?_)
             intro v7 w7 ho7 hg7 ha7
             have HF7 := Lib.hid ((HF2.out.keep (Gen.b_alloc (Below.refl _ _))).only (Only.of_grown hg7) (fun hb => by have := (HO2.out.lt _ hb).1; have := (HWB.out _ (.inl rfl)).2; omega) (fun a ha hb => by have := (HO2.out.lt _ hb).1; have := (HWB.out _ (.inr ⟨a, ha, rfl⟩)).2; omega))
             have HW7 := Lib.hid (Only.trans (HW2.out.more (Gen.b_alloc (Below.refl _ _))) (Only.of_grown hg7) (fun b hb => .inr (HO2.out.lt b hb).1))
             obtain ⟨A7, c7, rfl, _⟩ := Gen.own_slice ho7
             have HO7 := Lib.hid ho7
             clear ho7 hg7 ha7)
          | fail)
        go_roundw
        case rel => exact ⟨k + 1, A7, c7, by omega, by go_num, rfl, by rw [HRUN.out]; dsimp only; rw [HPOT.out]; congr 1; split <;> omega, by rw [HRUN.out]; exact HF7.out, by rw [HRUN.out]; dsimp only; rw [ils_snoc]; exact HO7.out, HW7.out⟩
        case measure => simp [intOf]; omega
    · obtain rfl : z = k := by omega
      have htk : st.take z = st := List.take_of_length_le (by rw [HZ.out]; exact Nat.le_refl _)
      rw [htk] at hF hO
      simp only [htk]
      obtain ⟨hfar, _, _⟩ := HRN.out st HTOP.out HRG.out.st
      obtain ⟨⟨xs, ⟨fp, fr, ft, fe, ftr⟩⟩, hy⟩ : ∃ y, run c te st (top ⟨c, r, t, e, tr, te, st⟩ m) = y := ⟨_, rfl⟩
      rw [hy] at hF hO hfar
      simp only [hy]
      have hok := hfar.ok
      have hlen : ftr.length = q := hfar.ls.1.trans HQ.out
      have HY := Lib.hid (show dwn ⟨c, r, t, e, tr, te, st⟩ m = (xs, ⟨fp, fr, ft, fe, ftr⟩) from hy)
      have hxl : xs.length = z := by
        have := run_len (c := c) (te := te) st (top ⟨c, r, t, e, tr, te, st⟩ m)
        rw [hy, HZ.out] at this
        exact this
      dsimp only at hF hO
      go_upto_region 37 with (fail)
      exact run_last HG HMO HS9 HV HZ (Lib.hid ⟨HM0.out.t2, HM0.out.t3⟩) HY HR5 HWB HAP hF hO hW hBw hok hlen hxl kg1 (by assumption)

end
end Go.Proofs.Ytdmbgdbmfenbfaa.Fa
