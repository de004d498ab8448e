/- The example of the statements of cal, 'small', returns true. -/
import Derived.Test.YtdndlipenjkfpaaCalF
namespace Go.Proofs.Ytdndlipenjkfpaa.Dat
open Go.ChangeShapes Go.WideShapes Go.ChangeAt Go.RowKit Go.Proofs.Ytdndlipenjkfpaa.Cell
set_option linter.unusedVariables false
set_option linter.unusedSimpArgs false

theorem adO_in {rs ds : List Int} {d how : Int} (h : rt rs ds = true) (h0 : 0 ≤ d) (h1 : d ≤ 200000) : adO rs ds d how = adj (bd rs ds) d how := if_pos ⟨h, dy_yes h0 h1⟩
theorem bkO_in {rs ds : List Int} {d n : Int} (h : rt rs ds = true) (h0 : 0 ≤ d) (h1 : d ≤ 200000) (n0 : 0 ≤ n) (n1 : n ≤ 1000) : bkO rs ds d n = bk (bd rs ds) n.toNat d := if_pos ⟨h, dy_yes h0 h1, n0, n1⟩
def xr : List Int := [5, 6]
def xd : List Int := [30]
theorem x_rt : rt xr xd = true := by decide
theorem x_n5 : nx (bd xr xd) 5 = (7, 0) := by
  rw [nx_step (by omega) (by decide), nx_step (by omega) (by decide), nx_here (by omega) (by decide), show (5 : Int) + 1 + 1 = 7 from rfl]
theorem x_b6 : bf (bd xr xd) 6 = (4, 0) := by
  rw [bf_step (by omega) (by decide), bf_step (by omega) (by decide), bf_here (by omega) (by decide), show (6 : Int) - 1 - 1 = 4 from rfl]
theorem x_n30 : nx (bd xr xd) 30 = (31, 0) := by
  rw [nx_step (by omega) (by decide), nx_here (by omega) (by decide), show (30 : Int) + 1 = 31 from rfl]
theorem x_b30 : bf (bd xr xd) 30 = (29, 0) := by
  rw [bf_step (by omega) (by decide), bf_here (by omega) (by decide), show (30 : Int) - 1 = 29 from rfl]
theorem x_pt30 : Pt 30 1900 1 31 := ⟨by omega, by omega, by omega, by omega, by decide, by decide⟩
theorem x_pt31 : Pt 31 1900 2 1 := ⟨by omega, by omega, by omega, by omega, by decide, by decide⟩
theorem x_sm : sm 30 31 = false := by rw [sm_of x_pt30 x_pt31]; decide
theorem adj_1 (p : Int → Bool) (d : Int) : adj p d 1 = nx p d := by unfold adj; rw [if_neg (by omega), if_pos rfl]
theorem adj_3 (p : Int → Bool) (d : Int) : adj p d 3 = bf p d := by unfold adj; rw [if_neg (by omega), if_neg (by omega), if_pos rfl]
theorem y1 : adO xr xd 5 1 = (7, 0) := by rw [adO_in x_rt (by omega) (by omega), adj_1, x_n5]
theorem y2 : adO xr xd 6 3 = (4, 0) := by rw [adO_in x_rt (by omega) (by omega), adj_3, x_b6]
theorem y3 : adO xr xd 30 1 = (31, 0) := by rw [adO_in x_rt (by omega) (by omega), adj_1, x_n30]
theorem y4 : adO xr xd 30 2 = (29, 0) := by
  rw [adO_in x_rt (by omega) (by omega)]
  unfold adj
  rw [if_neg (by omega), if_neg (by omega), if_neg (by omega), if_pos rfl, x_n30, if_neg (fun h => by have := h.2; rw [x_sm] at this; simp at this)]
  exact x_b30
theorem y5 : bkO xr xd 7 1 = (4, 0) := by
  rw [bkO_in x_rt (by omega) (by omega) (by omega) (by omega)]
  show bk (bd xr xd) 1 7 = _
  rw [bk_go (show bf (bd xr xd) (7 - 1) = (4, 0) from x_b6)]; rfl
theorem y6 : bkO xr xd 32 2 = (29, 0) := by
  rw [bkO_in x_rt (by omega) (by omega) (by omega) (by omega)]
  show bk (bd xr xd) 2 32 = _
  rw [bk_go (show bf (bd xr xd) (32 - 1) = (31, 0) from by rw [show (32 : Int) - 1 = 31 from rfl, bf_here (by omega) (by decide)]), bk_go (show bf (bd xr xd) (31 - 1) = (29, 0) from x_b30)]; rfl
theorem y7 : bkO xr xd 4 5 = (0, 3) := by
  rw [bkO_in x_rt (by omega) (by omega) (by omega) (by omega)]
  show bk (bd xr xd) 5 4 = _
  rw [bk_go (show bf (bd xr xd) (4 - 1) = (3, 0) from by rw [show (4 : Int) - 1 = 3 from rfl, bf_here (by omega) (by decide)]), bk_go (show bf (bd xr xd) (3 - 1) = (2, 0) from by rw [show (3 : Int) - 1 = 2 from rfl, bf_here (by omega) (by decide)]),
    bk_go (show bf (bd xr xd) (2 - 1) = (1, 0) from by rw [show (2 : Int) - 1 = 1 from rfl, bf_here (by omega) (by decide)]), bk_go (show bf (bd xr xd) (1 - 1) = (0, 0) from by rw [show (1 : Int) - 1 = 0 from rfl, bf_here (by omega) (by decide)]),
    bk_no (show bf (bd xr xd) (0 - 1) = (0, 3) from bf_end (by omega))]
theorem z1 : bz xr xd 0 = true := by decide
theorem z2 : bz xr xd 5 = false := by decide
theorem z3 : bz xr xd 30 = false := by decide

theorem r_new (w : World) : Ints (w.alloc (.cells #[.int .i64 5, .int .i64 6] 3)) (some ⟨w.heap.size, 0, none⟩) xr := (Row.new w 3 (ics xr)).ints
theorem d_new (w : World) : Ints (w.alloc (.cells #[.int .i64 30] 3)) (some ⟨w.heap.size, 0, none⟩) xd := (Row.new w 3 (ics xd)).ints
set_option maxHeartbeats 1000000 in
theorem some_any (w : World) : Calls Try.prog 42 #[] w fun e w' => ∃ A A', e = .returned (.agg #[.slice A 2 2, .slice A' 1 1]) ∧ Below w.heap.size w w' ∧ Ints w' A xr ∧ Ints w' A' xd := by
  go_enter Try.func42, Try.ntmps42
  go_wp2
  exact bodyPost_ret (v := .agg #[.slice (some ⟨w.heap.size + 1, 0, none⟩) 2 2, .slice (some ⟨w.heap.size + 1 + 1, 0, none⟩) 1 1]) (by simp [results, Try.results42, go_sem]) rfl ⟨_, _, rfl, by go_grown, (Gen.rowAt (t := 3) _ (ics xr) (by simp)).ints.keep (Gen.b_alloc (Below.refl _ _)), (Gen.rowAt (t := 3) _ (ics xd) (by simp)).ints⟩
set_option maxRecDepth 100000 in
set_option maxHeartbeats 4000000 in
theorem small_any (w : World) : Calls Try.prog 14 #[] w fun e w' => e = .returned (.bool true) ∧ Below w.heap.size w w' := by
  go_enter Try.func14, Try.ntmps14
  go_wp2_with (fail)
  go_must (refine (some_any _).mono ?_)
  rintro e w0 ⟨A, A', rfl, hb0, ir, id⟩
  have hr : Row (w0.alloc (.cells #[.slice A 2 2, .slice A' 1 1] 24)) w0.heap.size 24 #[.slice A 2 2, .slice A' 1 1] := Row.new _ _ _
  have hB : Below w.heap.size w (w0.alloc (.cells #[.slice A 2 2, .slice A' 1 1] 24)) := Gen.b_alloc hb0
  have ir1 := ir.keep (Gen.b_alloc (x := .cells #[.slice A 2 2, .slice A' 1 1] 24) (Below.refl _ _))
  have id1 := id.keep (Gen.b_alloc (x := .cells #[.slice A 2 2, .slice A' 1 1] 24) (Below.refl _ _))
  clear hb0 ir id
  go_wp2_with (fail)
  go_must (refine (next_is _ (rs := xr) (ds := xd) (n := 2) (m := 1) rfl ir1 (by omega) rfl id1 (by omega) y1).mono ?_)
  rintro e w1 ⟨rfl, hb⟩
  replace hB := Gen.over hb hB
  replace hr := hr.keep hb
  replace ir1 := ir1.keep hb
  replace id1 := id1.keep hb
  have k0 := hr.cell 0
  have k1 := hr.cell 1
  clear hb
  go_wp2_with (fail)
  go_must (refine (before_is _ (rs := xr) (ds := xd) (n := 2) (m := 1) rfl ir1 (by omega) rfl id1 (by omega) y2).mono ?_)
  rintro e w1 ⟨rfl, hb⟩
  replace hB := Gen.over hb hB
  replace hr := hr.keep hb
  replace ir1 := ir1.keep hb
  replace id1 := id1.keep hb
  have k0 := hr.cell 0
  have k1 := hr.cell 1
  clear hb
  go_wp2_with (fail)
  go_must (refine (next_is _ (rs := xr) (ds := xd) (n := 2) (m := 1) rfl ir1 (by omega) rfl id1 (by omega) y3).mono ?_)
  rintro e w1 ⟨rfl, hb⟩
  replace hB := Gen.over hb hB
  replace hr := hr.keep hb
  replace ir1 := ir1.keep hb
  replace id1 := id1.keep hb
  have k0 := hr.cell 0
  have k1 := hr.cell 1
  clear hb
  go_wp2_with (fail)
  go_must (refine (adjust_is _ (rs := xr) (ds := xd) (n := 2) (m := 1) rfl ir1 (by omega) rfl id1 (by omega) y4).mono ?_)
  rintro e w1 ⟨rfl, hb⟩
  replace hB := Gen.over hb hB
  replace hr := hr.keep hb
  replace ir1 := ir1.keep hb
  replace id1 := id1.keep hb
  have k0 := hr.cell 0
  have k1 := hr.cell 1
  clear hb
  go_wp2_with (fail)
  go_must (refine (adjust_is _ (rs := xr) (ds := xd) (n := 2) (m := 1) rfl ir1 (by omega) rfl id1 (by omega) y3).mono ?_)
  rintro e w1 ⟨rfl, hb⟩
  replace hB := Gen.over hb hB
  replace hr := hr.keep hb
  replace ir1 := ir1.keep hb
  replace id1 := id1.keep hb
  have k0 := hr.cell 0
  have k1 := hr.cell 1
  clear hb
  go_wp2_with (fail)
  go_must (refine (back_is _ (rs := xr) (ds := xd) (n := 2) (m := 1) rfl ir1 (by omega) rfl id1 (by omega) y5).mono ?_)
  rintro e w1 ⟨rfl, hb⟩
  replace hB := Gen.over hb hB
  replace hr := hr.keep hb
  replace ir1 := ir1.keep hb
  replace id1 := id1.keep hb
  have k0 := hr.cell 0
  have k1 := hr.cell 1
  clear hb
  go_wp2_with (fail)
  go_must (refine (back_is _ (rs := xr) (ds := xd) (n := 2) (m := 1) rfl ir1 (by omega) rfl id1 (by omega) y6).mono ?_)
  rintro e w1 ⟨rfl, hb⟩
  replace hB := Gen.over hb hB
  replace hr := hr.keep hb
  replace ir1 := ir1.keep hb
  replace id1 := id1.keep hb
  have k0 := hr.cell 0
  have k1 := hr.cell 1
  clear hb
  go_wp2_with (fail)
  go_must (refine (back_is _ (rs := xr) (ds := xd) (n := 2) (m := 1) rfl ir1 (by omega) rfl id1 (by omega) y7).mono ?_)
  rintro e w1 ⟨rfl, hb⟩
  replace hB := Gen.over hb hB
  replace hr := hr.keep hb
  replace ir1 := ir1.keep hb
  replace id1 := id1.keep hb
  have k0 := hr.cell 0
  have k1 := hr.cell 1
  clear hb
  go_wp2_with (fail)
  go_must (refine (bus_is _ (rs := xr) (ds := xd) (n := 2) (m := 1) rfl ir1 (by omega) rfl id1 (by omega) z1).mono ?_)
  rintro e w1 ⟨rfl, hb⟩
  replace hB := Gen.over hb hB
  replace hr := hr.keep hb
  replace ir1 := ir1.keep hb
  replace id1 := id1.keep hb
  have k0 := hr.cell 0
  have k1 := hr.cell 1
  clear hb
  go_wp2_with (fail)
  go_must (refine (bus_is _ (rs := xr) (ds := xd) (n := 2) (m := 1) rfl ir1 (by omega) rfl id1 (by omega) z2).mono ?_)
  rintro e w1 ⟨rfl, hb⟩
  replace hB := Gen.over hb hB
  replace hr := hr.keep hb
  replace ir1 := ir1.keep hb
  replace id1 := id1.keep hb
  have k0 := hr.cell 0
  have k1 := hr.cell 1
  clear hb
  go_wp2_with (fail)
  go_must (refine (bus_is _ (rs := xr) (ds := xd) (n := 2) (m := 1) rfl ir1 (by omega) rfl id1 (by omega) z3).mono ?_)
  rintro e w1 ⟨rfl, hb⟩
  replace hB := Gen.over hb hB
  replace hr := hr.keep hb
  replace ir1 := ir1.keep hb
  replace id1 := id1.keep hb
  have k0 := hr.cell 0
  have k1 := hr.cell 1
  clear hb
  go_wp2_with (fail)
  go_must (refine (right_is _ (rs := xr) (ds := xd) (n := 2) (m := 1) rfl ir1 (by omega) rfl id1 (by omega) x_rt).mono ?_)
  rintro e w1 ⟨rfl, hb⟩
  replace hB := Gen.over hb hB
  replace hr := hr.keep hb
  replace ir1 := ir1.keep hb
  replace id1 := id1.keep hb
  have k0 := hr.cell 0
  have k1 := hr.cell 1
  clear hb
  go_wp2
  go_ret
  exact ⟨rfl, hB⟩
end Go.Proofs.Ytdndlipenjkfpaa.Dat
