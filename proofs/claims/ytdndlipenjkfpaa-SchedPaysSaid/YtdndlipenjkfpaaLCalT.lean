/- CalTells returns true: every calendar, day, rule and number; no condition. -/
import Derived.Test.YtdndlipenjkfpaaCalS
import Derived.Test.YtdndlipenjkfpaaCalX
namespace Go.Proofs.Ytdndlipenjkfpaa.Dat
open Go.ChangeShapes Go.WideShapes Go.ChangeAt Go.RowKit Go.Proofs.Ytdndlipenjkfpaa.Cell
set_option linter.unusedVariables false
set_option linter.unusedSimpArgs false

theorem few_in {n m : Nat} (h : (decide (n ≤ 20) && decide (m ≤ 20)) = true) : n ≤ 20 ∧ m ≤ 20 := by simpa using h
section
variable {A A' : Option Addr} {n cap m cap' : Nat} {rs ds : List Int}
set_option maxRecDepth 100000 in
set_option maxHeartbeats 1000000 in
theorem tells_a (day how k : Int) (w : World) (hn : n ≤ 9223372036854775807) (hm : m ≤ 9223372036854775807) (h : (decide (n ≤ 20) && decide (m ≤ 20)) = false) :
    Calls Try.prog 3 #[.agg #[.slice A n cap, .slice A' m cap'], .int .i64 day, .int .i64 how, .int .i64 k] w fun e w' => e = .returned (.bool true) ∧ Below w.heap.size w w' := by
  have hB0 : Below w.heap.size w (w.alloc (.cells #[.slice A n cap, .slice A' m cap'] 24)) := Gen.b_alloc (Below.refl _ _)
  have hr0 : Row (w.alloc (.cells #[.slice A n cap, .slice A' m cap'] 24)) w.heap.size 24 #[.slice A n cap, .slice A' m cap'] := Row.new _ _ _
  have HF := Lib.hid h
  have HB0 := Lib.hid hB0
  clear h hB0
  go_enter Try.func3, Try.ntmps3
  go_wp2_with (fail)
  go_must (refine (small_any _).mono ?_)
  rintro e w1 ⟨rfl, hb⟩
  have hB1 := Gen.over hb HB0.out
  have k0 := (hr0.keep hb).cell 0
  have k1 := (hr0.keep hb).cell 1
  clear hr0 hb
  go_wp2_with (fail)
  go_must (refine (few_is _ hn hm HF.out).mono ?_)
  rintro e w2 ⟨rfl, hb2⟩
  have hB := Gen.over hb2 hB1
  go_wp2
  go_ret
  exact ⟨rfl, hB⟩

/-- what stays while calls make memory -/
structure Hd (w : World) (g : Nat) (A : Option Addr) (n cap : Nat) (A' : Option Addr) (m cap' : Nat) (rs ds : List Int) (W : World) : Prop where
  b : Below w.heap.size w W
  r : Row W g 24 #[.slice A n cap, .slice A' m cap']
  i : Ints W A rs
  j : Ints W A' ds
theorem Hd.keep {w W W' : World} {g : Nat} (h : Hd w g A n cap A' m cap' rs ds W) (hb : Below W.heap.size W W') : Hd w g A n cap A' m cap' rs ds W' :=
  ⟨Gen.over hb h.b, h.r.keep hb, h.i.keep hb, h.j.keep hb⟩
theorem Hd.drew {w W : World} {g : Nat} (h : Hd w g A n cap A' m cap' rs ds W) : Hd w g A n cap A' m cap' rs ds W.drew := ⟨h.b.drew, h.r, h.i, h.j⟩
theorem Hd.c0 {w W : World} {g : Nat} (h : Hd w g A n cap A' m cap' rs ds W) : W.cell? ⟨g, 0, none⟩ = some (.slice A n cap) := h.r.cell 0
theorem Hd.c1 {w W : World} {g : Nat} (h : Hd w g A n cap A' m cap' rs ds W) : W.cell? ⟨g, 1, none⟩ = some (.slice A' m cap') := h.r.cell 1
theorem Hd.new (w : World) (hc : Ints w A rs) (hc' : Ints w A' ds) : Hd w w.heap.size A n cap A' m cap' rs ds (w.alloc (.cells #[.slice A n cap, .slice A' m cap'] 24)) :=
  ⟨Gen.b_alloc (Below.refl _ _), Row.new _ _ _, hc.keep (Gen.b_alloc (Below.refl _ _)), hc'.keep (Gen.b_alloc (Below.refl _ _))⟩

set_option maxRecDepth 100000 in
set_option maxHeartbeats 8000000 in
theorem tells_b (day how k : Int) (w : World) (hn : rs.length = n) (hc : Ints w A rs) (hm : ds.length = m) (hc' : Ints w A' ds) (hf : (decide (n ≤ 20) && decide (m ≤ 20)) = true) :
    Calls Try.prog 3 #[.agg #[.slice A n cap, .slice A' m cap'], .int .i64 day, .int .i64 how, .int .i64 k] w fun e w' => e = .returned (.bool true) ∧ Below w.heap.size w w' := by
  obtain ⟨f1, f2⟩ := few_in hf
  have h0 := Hd.new (n := n) (cap := cap) (m := m) (cap' := cap') w hc hc'
  obtain ⟨x1, e1, hx1⟩ : ∃ x e, adO rs ds day 1 = (x, e) := ⟨_, _, rfl⟩
  obtain ⟨x2, e2, hx2⟩ : ∃ x e, adO rs ds day 3 = (x, e) := ⟨_, _, rfl⟩
  obtain ⟨x3, e3, hx3⟩ : ∃ x e, adO rs ds day how = (x, e) := ⟨_, _, rfl⟩
  obtain ⟨x4, e4, hx4⟩ : ∃ x e, bkO rs ds day k = (x, e) := ⟨_, _, rfl⟩
  obtain ⟨r, hr⟩ : ∃ r, rt rs ds = r := ⟨_, rfl⟩
  obtain ⟨z, hz⟩ : ∃ r, bz rs ds day = r := ⟨_, rfl⟩
  have X1 := Lib.hid hx1
  have X2 := Lib.hid hx2
  have X3 := Lib.hid hx3
  have X4 := Lib.hid hx4
  have R := Lib.hid hr
  have Z := Lib.hid hz
  have HN := Lib.hid hn
  have HM := Lib.hid hm
  have HF := Lib.hid hf
  clear hx1 hx2 hx3 hx4 hr hz hn hm hf hc hc'
  go_enter Try.func3, Try.ntmps3
  go_wp2_with (fail)
  go_must (refine (small_any _).mono ?_)
  rintro e w1 ⟨rfl, hb⟩
  have h1 := h0.keep hb
  have k0 := h1.c0
  have k1 := h1.c1
  clear h0 hb
  go_wp2_with (fail)
  go_must (refine (few_is _ (by omega) (by omega) HF.out).mono ?_)
  rintro e w2 ⟨rfl, hb⟩
  have h2 := h1.keep hb
  have k0 := h2.c0
  have k1 := h2.c1
  clear h1 hb
  go_wp2_with (fail)
  go_must (refine (next_is _ HN.out h2.i (by omega) HM.out h2.j (by omega) X1.out).mono ?_)
  rintro e w3 ⟨rfl, hb⟩
  have h3 := h2.keep hb
  have k0 := h3.c0
  have k1 := h3.c1
  clear h2 hb
  go_wp2_with (fail)
  go_must (refine (rnext_is _ HN.out h3.i (by omega) HM.out h3.j (by omega) X1.out).mono ?_)
  rintro e w4 ⟨rfl, hb⟩
  have h4 := h3.keep hb
  have k0 := h4.c0
  have k1 := h4.c1
  clear h3 hb
  go_wp2_with (fail)
  go_must (refine (before_is _ HN.out h4.i (by omega) HM.out h4.j (by omega) X2.out).mono ?_)
  rintro e w5 ⟨rfl, hb⟩
  have h5 := h4.keep hb
  have k0 := h5.c0
  have k1 := h5.c1
  clear h4 hb
  go_wp2_with (fail)
  go_must (refine (rbefore_is _ HN.out h5.i (by omega) HM.out h5.j (by omega) X2.out).mono ?_)
  rintro e w6 ⟨rfl, hb⟩
  have h6 := h5.keep hb
  have k0 := h6.c0
  have k1 := h6.c1
  clear h5 hb
  go_wp2
  go_region_held3 (fun W' => Hd w w.heap.size A n cap A' m cap' rs ds W' ∧ W'.cell? ⟨w.heap.size, 0, none⟩ = some (.slice A n cap) ∧ W'.cell? ⟨w.heap.size, 1, none⟩ = some (.slice A' m cap'))
    (first | exact ⟨h6.drew, h6.c0, h6.c1⟩ | exact ⟨Hd.keep (And.left (by assumption)) (by assumption), Hd.c0 (Hd.keep (And.left (by assumption)) (by assumption)), Hd.c1 (Hd.keep (And.left (by assumption)) (by assumption))⟩)
    (first | (go_at_call 20; refine (right_is _ HN.out (Hd.i (And.left (by assumption))) (by omega) HM.out (Hd.j (And.left (by assumption))) (by omega) R.out).mono ?_; rintro e w' ⟨rfl, hb'⟩) | (go_at_call 21; refine (rright_is _ HN.out (Hd.i (And.left (by assumption))) (by omega) HM.out (Hd.j (And.left (by assumption))) (by omega) R.out).mono ?_; rintro e w' ⟨rfl, hb'⟩) | (go_at_call 22; refine (bus_is _ HN.out (Hd.i (And.left (by assumption))) (by omega) HM.out (Hd.j (And.left (by assumption))) (by omega) Z.out).mono ?_; rintro e w' ⟨rfl, hb'⟩) | (go_at_call 23; refine (rbus_is _ HN.out (Hd.i (And.left (by assumption))) (by omega) HM.out (Hd.j (And.left (by assumption))) (by omega) Z.out).mono ?_; rintro e w' ⟨rfl, hb'⟩))
  all_goals
    rename_i hH
    obtain ⟨h7, k0, k1⟩ := hH
    clear h6
    go_wp2_with (fail)
    go_must (refine (adjust_is _ HN.out h7.i (by omega) HM.out h7.j (by omega) X3.out).mono ?_)
    rintro e w8 ⟨rfl, hb⟩
    have h8 := h7.keep hb
    have k0 := h8.c0
    have k1 := h8.c1
    clear h7 hb
    go_wp2_with (fail)
    go_must (refine (radjust_is _ HN.out h8.i (by omega) HM.out h8.j (by omega) X3.out).mono ?_)
    rintro e w9 ⟨rfl, hb⟩
    have h9 := h8.keep hb
    have k0 := h9.c0
    have k1 := h9.c1
    clear h8 hb
    go_wp2_with (fail)
    go_must (refine (back_is _ HN.out h9.i (by omega) HM.out h9.j (by omega) X4.out).mono ?_)
    rintro e w10 ⟨rfl, hb⟩
    have h10 := h9.keep hb
    have k0 := h10.c0
    have k1 := h10.c1
    clear h9 hb
    go_wp2_with (fail)
    go_must (refine (rback_is _ HN.out h10.i (by omega) HM.out h10.j (by omega) X4.out).mono ?_)
    rintro e w11 ⟨rfl, hb⟩
    have hB := Gen.over hb h10.b
    clear h10 hb k0 k1
    go_wp2
    go_ret
    exact ⟨rfl, hB⟩
theorem tells_any (day how k : Int) (w : World) (hc : Ints w A rs) (hc' : Ints w A' ds) (hn : rs.length ≤ 9223372036854775807) (hm : ds.length ≤ 9223372036854775807) :
    Calls Try.prog 3 #[.agg #[.slice A rs.length cap, .slice A' ds.length cap'], .int .i64 day, .int .i64 how, .int .i64 k] w fun e w' => e = .returned (.bool true) ∧ Below w.heap.size w w' := by
  cases hf : (decide (rs.length ≤ 20) && decide (ds.length ≤ 20))
  · exact tells_a day how k w hn hm hf
  · exact tells_b day how k w rfl hc rfl hc' hf
end
end Go.Proofs.Ytdndlipenjkfpaa.Dat
