/- Post: ways that are not right. -/
import Derived.Test.YtefikmfogbdhpaaPoU
namespace Go.Proofs.Ytefikmfogbdhpaa.Po
open Go.ChangeShapes Go.WideShapes Go.ChangeAt Go.RowKit Go.Proofs.Ytefikmfogbdhpaa.Cell
set_option linter.unusedVariables false
set_option linter.unusedSimpArgs false
section
variable {A A2 : Option Addr} {n c n2 c2 : Nat} {nxt : Int} {early : List Int}
set_option maxRecDepth 100000 in
set_option maxHeartbeats 4000000 in
theorem send_wrong (w : World) (hm : early.length = n2) (hI : Ints w A2 early) (hn : n ≤ 1000000) (hn2 : n2 ≤ 1000000) (hr : rgW n nxt early = false) :
    Calls Try.prog 10 #[.agg #[.slice A n c, .int .i64 nxt, .slice A2 n2 c2], .agg #[.int .i64 0, .int .i64 0, .int .i64 0, .int .i64 0, .int .i64 0]] w fun e w' => e = .returned (.tuple #[.agg #[.slice none 0 0, .int .i64 0, .slice none 0 0], .int .i64 1]) ∧ Below w.heap.size w w' := by
  have HM := Lib.hid hm
  have HR := Lib.hid hr
  have hB0 : Below w.heap.size w (((w.alloc (.cells #[.slice A n c, .int .i64 nxt, .slice A2 n2 c2] 27)).alloc (.cells #[.int .i64 0, .int .i64 0, .int .i64 0, .int .i64 0, .int .i64 0] 36)).alloc (.cells #[.slice none 0 0, .int .i64 0, .slice none 0 0] 27)) := Gen.b_alloc (Gen.b_alloc (Gen.b_alloc (Below.refl _ _)))
  have HI := Lib.hid (hI.keep hB0)
  have hr2 : Row (((w.alloc (.cells #[.slice A n c, .int .i64 nxt, .slice A2 n2 c2] 27)).alloc (.cells #[.int .i64 0, .int .i64 0, .int .i64 0, .int .i64 0, .int .i64 0] 36)).alloc (.cells #[.slice none 0 0, .int .i64 0, .slice none 0 0] 27)) (w.heap.size + 1 + 1) 27 #[.slice none 0 0, .int .i64 0, .slice none 0 0] := Gen.rowAt _ _ _ (by simp)
  clear hm hr hI
  go_enter Try.func10, Try.ntmps10
  go_wp2_with (fail)
  generalize ((w.alloc (.cells #[.slice A n c, .int .i64 nxt, .slice A2 n2 c2] 27)).alloc (.cells #[.int .i64 0, .int .i64 0, .int .i64 0, .int .i64 0, .int .i64 0] 36)).alloc (.cells #[.slice none 0 0, .int .i64 0, .slice none 0 0] 27) = W0 at *
  go_must (refine (right_any _ (by omega) (by omega) HM.out HI.out).mono ?_)
  rintro e w1 ⟨rfl, hb1⟩
  rw [HR.out]
  have hB1 := Gen.over hb1 hB0
  have r2 := hr2.keep hb1
  have k0 := r2.cell 0
  have k1 := r2.cell 1
  have k2 := r2.cell 2
  have kf0 := r2.frozen 0
  have kf1 := r2.frozen 1
  have kf2 := r2.frozen 2
  have kl := r2.lt
  have HB := Lib.hid (Gen.b_set (p := ⟨w.heap.size + 1 + 1, 2, none⟩) (u := .slice none 0 0) (Gen.b_set (p := ⟨w.heap.size + 1 + 1, 1, none⟩) (u := .int .i64 0) (Gen.b_set (p := ⟨w.heap.size + 1 + 1, 0, none⟩) (u := .slice none 0 0) hB1 (by show w.heap.size ≤ w.heap.size + 1 + 1; omega)) (by show w.heap.size ≤ w.heap.size + 1 + 1; omega)) (by show w.heap.size ≤ w.heap.size + 1 + 1; omega))
  clear hB1 hb1 hr2 HI hB0
  go_wp2
  exact bodyPost_ret (v := .tuple #[.agg #[.slice none 0 0, .int .i64 0, .slice none 0 0], .int .i64 1]) (by simp [results, Try.results10, go_sem, *]) rfl ⟨rfl, HB.out⟩
set_option maxRecDepth 100000 in
set_option maxHeartbeats 4000000 in
theorem arr_wrong (w : World) (hm : early.length = n2) (hI : Ints w A2 early) (hn : n ≤ 1000000) (hn2 : n2 ≤ 1000000) (hr : rgW n nxt early = false) :
    Calls Try.prog 11 #[.agg #[.slice A n c, .int .i64 nxt, .slice A2 n2 c2], .int .i64 0] w fun e w' => e = .returned (.tuple #[.agg #[.slice none 0 0, .int .i64 0, .slice none 0 0], .slice none 0 0, .int .i64 1]) ∧ Below w.heap.size w w' := by
  have HM := Lib.hid hm
  have HR := Lib.hid hr
  have hB0 : Below w.heap.size w ((w.alloc (.cells #[.slice A n c, .int .i64 nxt, .slice A2 n2 c2] 27)).alloc (.cells #[.slice none 0 0, .int .i64 0, .slice none 0 0] 27)) := Gen.b_alloc (Gen.b_alloc (Below.refl _ _))
  have HI := Lib.hid (hI.keep hB0)
  have hr2 : Row ((w.alloc (.cells #[.slice A n c, .int .i64 nxt, .slice A2 n2 c2] 27)).alloc (.cells #[.slice none 0 0, .int .i64 0, .slice none 0 0] 27)) (w.heap.size + 1) 27 #[.slice none 0 0, .int .i64 0, .slice none 0 0] := Gen.rowAt _ _ _ (by simp)
  clear hm hr hI
  go_enter Try.func11, Try.ntmps11
  go_wp2_with (fail)
  generalize (w.alloc (.cells #[.slice A n c, .int .i64 nxt, .slice A2 n2 c2] 27)).alloc (.cells #[.slice none 0 0, .int .i64 0, .slice none 0 0] 27) = W0 at *
  go_must (refine (right_any _ (by omega) (by omega) HM.out HI.out).mono ?_)
  rintro e w1 ⟨rfl, hb1⟩
  rw [HR.out]
  have hB1 := Gen.over hb1 hB0
  have r2 := hr2.keep hb1
  have k0 := r2.cell 0
  have k1 := r2.cell 1
  have k2 := r2.cell 2
  have kf0 := r2.frozen 0
  have kf1 := r2.frozen 1
  have kf2 := r2.frozen 2
  have kl := r2.lt
  have HB := Lib.hid (Gen.b_set (p := ⟨w.heap.size + 1, 2, none⟩) (u := .slice none 0 0) (Gen.b_set (p := ⟨w.heap.size + 1, 1, none⟩) (u := .int .i64 0) (Gen.b_set (p := ⟨w.heap.size + 1, 0, none⟩) (u := .slice none 0 0) hB1 (by show w.heap.size ≤ w.heap.size + 1; omega)) (by show w.heap.size ≤ w.heap.size + 1; omega)) (by show w.heap.size ≤ w.heap.size + 1; omega))
  clear hB1 hb1 hr2 HI hB0
  go_wp2
  exact bodyPost_ret (v := .tuple #[.agg #[.slice none 0 0, .int .i64 0, .slice none 0 0], .slice none 0 0, .int .i64 1]) (by simp [results, Try.results11, go_sem, *]) rfl ⟨rfl, HB.out⟩
set_option maxRecDepth 100000 in
set_option maxHeartbeats 4000000 in
theorem flight_wrong (w : World) (hm : early.length = n2) (hI : Ints w A2 early) (hn : n ≤ 1000000) (hn2 : n2 ≤ 1000000) (hr : rgW n nxt early = false) :
    Calls Try.prog 12 #[.agg #[.slice A n c, .int .i64 nxt, .slice A2 n2 c2]] w fun e w' => e = .returned (.slice none 0 0) ∧ Below w.heap.size w w' := by
  have HM := Lib.hid hm
  have HR := Lib.hid hr
  have hB0 : Below w.heap.size w (w.alloc (.cells #[.slice A n c, .int .i64 nxt, .slice A2 n2 c2] 27)) := Gen.b_alloc (Below.refl _ _)
  have HI := Lib.hid (hI.keep hB0)
  clear hm hr hI
  go_enter Try.func12, Try.ntmps12
  go_wp2_with (fail)
  generalize w.alloc (.cells #[.slice A n c, .int .i64 nxt, .slice A2 n2 c2] 27) = W0 at *
  go_must (refine (right_any _ (by omega) (by omega) HM.out HI.out).mono ?_)
  rintro e w1 ⟨rfl, hb1⟩
  rw [HR.out]
  have hB1 := Gen.over hb1 hB0
  have HB := Lib.hid hB1
  clear hB1 hb1 HI hB0
  go_wp2
  go_ret
  exact ⟨rfl, HB.out⟩
set_option maxRecDepth 100000 in
set_option maxHeartbeats 4000000 in
theorem again_wrong (w : World) (hm : early.length = n2) (hI : Ints w A2 early) (hn : n ≤ 1000000) (hn2 : n2 ≤ 1000000) (hr : rgW n nxt early = false) :
    Calls Try.prog 13 #[.agg #[.slice A n c, .int .i64 nxt, .slice A2 n2 c2]] w fun e w' => e = .returned (.slice none 0 0) ∧ Below w.heap.size w w' := by
  have HM := Lib.hid hm
  have HR := Lib.hid hr
  have hB0 : Below w.heap.size w (w.alloc (.cells #[.slice A n c, .int .i64 nxt, .slice A2 n2 c2] 27)) := Gen.b_alloc (Below.refl _ _)
  have HI := Lib.hid (hI.keep hB0)
  clear hm hr hI
  go_enter Try.func13, Try.ntmps13
  go_wp2_with (fail)
  generalize w.alloc (.cells #[.slice A n c, .int .i64 nxt, .slice A2 n2 c2] 27) = W0 at *
  go_must (refine (right_any _ (by omega) (by omega) HM.out HI.out).mono ?_)
  rintro e w1 ⟨rfl, hb1⟩
  rw [HR.out]
  have hB1 := Gen.over hb1 hB0
  have HB := Lib.hid hB1
  clear hB1 hb1 HI hB0
  go_wp2
  go_ret
  exact ⟨rfl, HB.out⟩
end
end Go.Proofs.Ytefikmfogbdhpaa.Po
