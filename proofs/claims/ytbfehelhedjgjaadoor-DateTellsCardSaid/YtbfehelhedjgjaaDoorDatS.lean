/- Law 07: Weekday, the examples hold. -/
import Derived.Test.YtbfehelhedjgjaaDoorDatK
namespace Go.Proofs.YtbfehelhedjgjaaDoor.Dat
open Go.ChangeShapes Go.WideShapes Go.ChangeAt Go.RowKit Go.Proofs.YtbfehelhedjgjaaDoor.Cell
set_option linter.unusedVariables false
set_option linter.unusedSimpArgs false

def wdO (day : Int) : Int := if 0 ≤ day ∧ day ≤ 200000 then day % 7 else -1
set_option maxHeartbeats 1000000 in
theorem wd_any (day : Int) (w : World) :
    Calls Tryd.prog 18 #[.int .i64 day] w fun e w' => e = .returned (.int .i64 (wdO day)) ∧ w = w' := by
  by_cases h : 0 ≤ day ∧ day ≤ 200000
  · have HF := Lib.hid (dayB_yes h.1 h.2)
    have HE := Lib.hid (show wdO day = day % 7 from if_pos h)
    obtain ⟨h0, h1⟩ := h
    go_enter Tryd.func18, Tryd.ntmps18
    go_wp2_with (fail)
    go_must (refine (dright_is _ HF.out).mono ?_)
    rintro e w1 ⟨rfl, rfl⟩
    go_wp2
    go_ret
    exact ⟨ret_int HE.out.symm, rfl⟩
  · have HF := Lib.hid (dayB_no h)
    have HE := Lib.hid (show wdO day = -1 from if_neg h)
    clear h
    go_enter Tryd.func18, Tryd.ntmps18
    go_wp2_with (fail)
    go_must (refine (dright_is _ HF.out).mono ?_)
    rintro e w1 ⟨rfl, rfl⟩
    go_wp2
    go_ret
    exact ⟨ret_int HE.out.symm, rfl⟩
theorem wd_is {day x : Int} (w : World) (h : wdO day = x) : Calls Tryd.prog 18 #[.int .i64 day] w fun e w' => e = .returned (.int .i64 x) ∧ w = w' := by
  have hh := wd_any day w
  rw [h] at hh
  exact hh
theorem pt_59 : Pt 59 1900 3 1 := ⟨by decide, by decide, by decide, by decide, by decide, by decide⟩
theorem pt_30 : Pt 30 1900 1 31 := ⟨by decide, by decide, by decide, by decide, by decide, by decide⟩
theorem pt_58 : Pt 58 1900 2 28 := ⟨by decide, by decide, by decide, by decide, by decide, by decide⟩
theorem pt_36583 : Pt 36583 2000 2 29 := ⟨by decide, by decide, by decide, by decide, by decide, by decide⟩
theorem am_30 : amO 30 1 = (58, 0) := by rw [amO_of pt_30 (by decide) (by decide) (by decide) (by decide)]; decide
theorem am_58 : amO 58 (-1) = (27, 0) := by rw [amO_of pt_58 (by decide) (by decide) (by decide) (by decide)]; decide
theorem text_36583 (w : World) (hT : PowTab w) :
    Calls Tryd.prog 20 #[.int .i64 36583] w fun e w' => e = .returned (.string ⟨#[50, 48, 48, 48, 45, 48, 50, 45, 50, 57]⟩) ∧ Below w.heap.size w w' := by
  have hh := text_is w (by decide) (by decide) pt_36583 hT
  rw [show str (tx 2000 2 29) = ⟨#[50, 48, 48, 48, 45, 48, 50, 45, 50, 57]⟩ by decide] at hh
  exact hh
theorem read_a (w : World) : Calls Tryd.prog 12 #[.string ⟨#[49, 57, 48, 48, 45, 49, 51, 45, 48, 49]⟩] w fun e w' => e = .returned (.tuple #[.int .i64 0, .int .i64 23]) ∧ Below w.heap.size w w' :=
  read_any (l := [49, 57, 48, 48, 45, 49, 51, 45, 48, 49]) w rfl (by decide) (by decide)
theorem read_b (w : World) : Calls Tryd.prog 12 #[.string ⟨#[49, 57, 48, 48, 45, 49, 45, 48, 49]⟩] w fun e w' => e = .returned (.tuple #[.int .i64 0, .int .i64 2]) ∧ Below w.heap.size w w' :=
  read_any (l := [49, 57, 48, 48, 45, 49, 45, 48, 49]) w rfl (by decide) (by decide)
set_option maxRecDepth 100000 in
set_option maxHeartbeats 4000000 in
theorem small_any (w : World) (hT : PowTab w) : Calls Tryd.prog 7 #[] w fun e w' => e = .returned (.bool true) ∧ Below w.heap.size w w' := by
  have HT := Lib.hid hT
  clear hT
  go_enter Tryd.func7, Tryd.ntmps7
  go_wp2_with (fail)
  go_must (refine (of_any (x := 0) (e := 0) _ (by decide) (by decide) (by decide)).mono ?_)
  rintro e w1 ⟨rfl, rfl⟩
  go_wp2_with (fail)
  go_must (refine (of_any (x := 0) (e := 23) _ (by decide) (by decide) (by decide)).mono ?_)
  rintro e w1 ⟨rfl, rfl⟩
  go_wp2_with (fail)
  go_must (refine (of_any (x := 36583) (e := 0) _ (by decide) (by decide) (by decide)).mono ?_)
  rintro e w1 ⟨rfl, rfl⟩
  go_wp2_with (fail)
  go_must (refine (of_any (x := 0) (e := 3) _ (by decide) (by decide) (by decide)).mono ?_)
  rintro e w1 ⟨rfl, rfl⟩
  go_wp2_with (fail)
  go_must (refine (parts_is _ (by decide) (by decide) pt_59).mono ?_)
  rintro e w1 ⟨rfl, rfl⟩
  go_wp2_with (fail)
  go_must (refine (am_is _ am_30).mono ?_)
  rintro e w1 ⟨rfl, rfl⟩
  go_wp2_with (fail)
  go_must (refine (am_is _ am_58).mono ?_)
  rintro e w1 ⟨rfl, rfl⟩
  go_wp2_with (fail)
  go_must (refine (read_a _).mono ?_)
  rintro e w1 ⟨rfl, hb1⟩
  go_wp2_with (fail)
  go_must (refine (read_b _).mono ?_)
  rintro e w2 ⟨rfl, hb2⟩
  have hB := Gen.over hb2 hb1
  have HT2 := Lib.hid (HT.out.keep hB)
  go_wp2_with (fail)
  go_must (refine (wd_is (x := 3) _ (by decide)).mono ?_)
  rintro e w3 ⟨rfl, rfl⟩
  go_wp2_with (fail)
  go_must (refine (text_36583 _ HT2.out).mono ?_)
  rintro e w4 ⟨rfl, hb4⟩
  have hB4 := Gen.over hb4 hB
  go_wp2_with (fail)
  go_must (refine (leap_is (b := true) _ (by decide) (by decide) (by decide)).mono ?_)
  rintro e w5 ⟨rfl, rfl⟩
  go_wp2_with (fail)
  go_must (refine (leap_is (b := false) _ (by decide) (by decide) (by decide)).mono ?_)
  rintro e w5 ⟨rfl, rfl⟩
  go_wp2_with (fail)
  go_must (refine (last_is (x := 28) _ (by decide) (by decide) (by decide)).mono ?_)
  rintro e w5 ⟨rfl, rfl⟩
  go_wp2
  go_ret
  exact ⟨rfl, hB4⟩
end Go.Proofs.YtbfehelhedjgjaaDoor.Dat
