/- Package cal: the contracts of Adjust, Next, Before, Back. -/
import Derived.Test.YtdndlipenjkfpaaCalE
namespace Go.Proofs.Ytdndlipenjkfpaa.Dat
open Go.ChangeShapes Go.WideShapes Go.ChangeAt Go.RowKit Go.Proofs.Ytdndlipenjkfpaa.Cell
set_option linter.unusedVariables false
set_option linter.unusedSimpArgs false

section
variable {A A' : Option Addr} {n cap m cap' : Nat} {rs ds : List Int}
set_option maxRecDepth 100000 in
set_option maxHeartbeats 4000000 in
theorem adjust_is {day how x e : Int} (w : World) (hn : rs.length = n) (hc : Ints w A rs) (hbig : n ≤ 1000000) (hm : ds.length = m) (hc' : Ints w A' ds) (hbig' : m ≤ 1000000) (h : adO rs ds day how = (x, e)) :
    Calls Try.prog 24 #[.agg #[.slice A n cap, .slice A' m cap'], .int .i64 day, .int .i64 how] w fun e' w' => e' = .returned (.tuple #[.int .i64 x, .int .i64 e]) ∧ Below w.heap.size w w' := by
  have hB0 : Below w.heap.size w (w.alloc (.cells #[.slice A n cap, .slice A' m cap'] 24)) := Gen.b_alloc (Below.refl _ _)
  have hr0 : Row (w.alloc (.cells #[.slice A n cap, .slice A' m cap'] 24)) w.heap.size 24 #[.slice A n cap, .slice A' m cap'] := Row.new _ _ _
  have hc1 := hc.keep hB0
  have hc1' := hc'.keep hB0
  have HN := Lib.hid hn
  have HM := Lib.hid hm
  have HB0 := Lib.hid hB0
  clear hB0 hn hm hc hc'
  unfold adO at h
  cases hr : rt rs ds
  · rw [hr, if_neg (by simp)] at h
    obtain rfl : 0 = x := by injection h
    obtain rfl : 1 = e := by injection h
    have HR := Lib.hid hr
    clear hr h hr0
    go_enter Try.func24, Try.ntmps24
    go_wp2_with (fail)
    go_must (refine (right_is _ HN.out hc1 hbig HM.out hc1' hbig' HR.out).mono ?_)
    rintro e w1 ⟨rfl, hb1⟩
    have hB1 := Gen.over hb1 HB0.out
    go_wp2
    exact bodyPost_ret (v := .tuple #[.int .i64 0, .int .i64 1]) (by simp [results, Try.results24, go_sem]) rfl ⟨rfl, hB1⟩
  cases hd : dy day
  · rw [hd, if_neg (by simp)] at h
    obtain rfl : 0 = x := by injection h
    obtain rfl : 1 = e := by injection h
    have HR := Lib.hid hr
    have HD := Lib.hid hd
    clear hr hd h hr0
    go_enter Try.func24, Try.ntmps24
    go_wp2_with (fail)
    go_must (refine (right_is _ HN.out hc1 hbig HM.out hc1' hbig' HR.out).mono ?_)
    rintro e w1 ⟨rfl, hb1⟩
    have hB1 := Gen.over hb1 HB0.out
    go_wp2_with (fail)
    go_must (refine (isDay_is _ HD.out).mono ?_)
    rintro e w1 ⟨rfl, rfl⟩
    go_wp2
    exact bodyPost_ret (v := .tuple #[.int .i64 0, .int .i64 1]) (by simp [results, Try.results24, go_sem]) rfl ⟨rfl, hB1⟩
  rw [hr, hd, if_pos ⟨rfl, rfl⟩] at h
  have HA := Lib.hid (asc_of (rt_in hr).2.2.2)
  obtain ⟨h0, h1⟩ := dy_in hd
  have HR := Lib.hid hr
  have HD := Lib.hid hd
  clear hr hd
  unfold adj at h
  by_cases e0 : how = 0
  · subst e0
    rw [if_pos rfl] at h
    obtain rfl : day = x := by injection h
    obtain rfl : 0 = e := by injection h
    clear h
    go_enter Try.func24, Try.ntmps24
    go_wp2_with (fail)
    go_must (refine (right_is _ HN.out hc1 hbig HM.out hc1' hbig' HR.out).mono ?_)
    rintro e w1 ⟨rfl, hb1⟩
    have hB1 := Gen.over hb1 HB0.out
    have k0 := (hr0.keep hb1).cell 0
    have k1 := (hr0.keep hb1).cell 1
    have hc2 := hc1.keep hb1
    have hc2' := hc1'.keep hb1
    have hr1 := hr0.keep hb1
    clear hr0 hc1 hc1' hb1
    go_wp2_with (fail)
    go_must (refine (isDay_is _ HD.out).mono ?_)
    rintro e w1 ⟨rfl, rfl⟩
    go_wp2
    exact bodyPost_ret (v := .tuple #[.int .i64 day, .int .i64 0]) (by simp [results, Try.results24, go_sem]) rfl ⟨rfl, hB1⟩
  rw [if_neg e0] at h
  have q0 : (how == 0) = false := by simpa using e0
  by_cases e1 : how = 1
  · subst e1
    rw [if_pos rfl] at h
    have HX := Lib.hid h
    clear h e0 q0
    go_enter Try.func24, Try.ntmps24
    go_wp2_with (fail)
    go_must (refine (right_is _ HN.out hc1 hbig HM.out hc1' hbig' HR.out).mono ?_)
    rintro e w1 ⟨rfl, hb1⟩
    have hB1 := Gen.over hb1 HB0.out
    have k0 := (hr0.keep hb1).cell 0
    have k1 := (hr0.keep hb1).cell 1
    have hc2 := hc1.keep hb1
    have hc2' := hc1'.keep hb1
    have hr1 := hr0.keep hb1
    clear hr0 hc1 hc1' hb1
    go_wp2_with (fail)
    go_must (refine (isDay_is _ HD.out).mono ?_)
    rintro e w1 ⟨rfl, rfl⟩
    go_wp2_with (fail)
    go_must (refine (walkUp_is _ HN.out hc2 hbig HM.out hc2' hbig' HA.out h0 (by omega) HX.out).mono ?_)
    rintro e w1 ⟨rfl, hb2⟩
    have hB2 := Gen.over hb2 hB1
    go_wp2
    exact bodyPost_ret (v := .tuple #[.int .i64 x, .int .i64 e]) (by simp [results, Try.results24, go_sem]) rfl ⟨rfl, hB2⟩
  rw [if_neg e1] at h
  have q1 : (how == 1) = false := by simpa using e1
  by_cases e3 : how = 3
  · subst e3
    rw [if_pos rfl] at h
    have HX := Lib.hid h
    clear h e0 q0 e1 q1
    go_enter Try.func24, Try.ntmps24
    go_wp2_with (fail)
    go_must (refine (right_is _ HN.out hc1 hbig HM.out hc1' hbig' HR.out).mono ?_)
    rintro e w1 ⟨rfl, hb1⟩
    have hB1 := Gen.over hb1 HB0.out
    have k0 := (hr0.keep hb1).cell 0
    have k1 := (hr0.keep hb1).cell 1
    have hc2 := hc1.keep hb1
    have hc2' := hc1'.keep hb1
    have hr1 := hr0.keep hb1
    clear hr0 hc1 hc1' hb1
    go_wp2_with (fail)
    go_must (refine (isDay_is _ HD.out).mono ?_)
    rintro e w1 ⟨rfl, rfl⟩
    go_wp2_with (fail)
    go_must (refine (walkDn_is _ HN.out hc2 hbig HM.out hc2' hbig' HA.out (by omega) h1 HX.out).mono ?_)
    rintro e w1 ⟨rfl, hb2⟩
    have hB2 := Gen.over hb2 hB1
    go_wp2
    exact bodyPost_ret (v := .tuple #[.int .i64 x, .int .i64 e]) (by simp [results, Try.results24, go_sem]) rfl ⟨rfl, hB2⟩
  rw [if_neg e3] at h
  have q3 : (how == 3) = false := by simpa using e3
  by_cases e2 : how = 2
  · subst e2
    rw [if_pos rfl] at h
    clear e0 q0 e1 q1 e3 q3
    obtain ⟨y, g, hy⟩ : ∃ y g, nx (bd rs ds) day = (y, g) := ⟨_, _, rfl⟩
    rw [hy] at h
    rcases nx_01 hy with ⟨rfl, y0, y1, _⟩ | ⟨rfl, rfl, _⟩
    · cases hs : sm day y
      · rw [if_neg (fun hh => by have := hh.2; rw [hs] at this; simp at this)] at h
        have HX := Lib.hid h
        have HY := Lib.hid hy
        have HS := Lib.hid hs
        have y00 : 0 ≤ y := by omega
        clear h hy hs
        go_enter Try.func24, Try.ntmps24
        go_wp2_with (fail)
        go_must (refine (right_is _ HN.out hc1 hbig HM.out hc1' hbig' HR.out).mono ?_)
        rintro e w1 ⟨rfl, hb1⟩
        have hB1 := Gen.over hb1 HB0.out
        have k0 := (hr0.keep hb1).cell 0
        have k1 := (hr0.keep hb1).cell 1
        have hc2 := hc1.keep hb1
        have hc2' := hc1'.keep hb1
        have hr1 := hr0.keep hb1
        clear hr0 hc1 hc1' hb1
        go_wp2_with (fail)
        go_must (refine (isDay_is _ HD.out).mono ?_)
        rintro e w1 ⟨rfl, rfl⟩
        go_wp2_with (fail)
        go_must (refine (walkUp_is _ HN.out hc2 hbig HM.out hc2' hbig' HA.out h0 (by omega) HY.out).mono ?_)
        rintro e w1 ⟨rfl, hb2⟩
        have hB2 := Gen.over hb2 hB1
        have k0 := (hr1.keep hb2).cell 0
        have k1 := (hr1.keep hb2).cell 1
        have hc3 := hc2.keep hb2
        have hc3' := hc2'.keep hb2
        clear hr1 hc2 hc2' hb2 hB1
        go_wp2_with (fail)
        go_must (refine (sameMonth_is _ h0 h1 y00 y1 HS.out).mono ?_)
        rintro e w1 ⟨rfl, rfl⟩
        go_wp2_with (fail)
        go_must (refine (walkDn_is _ HN.out hc3 hbig HM.out hc3' hbig' HA.out (by omega) h1 HX.out).mono ?_)
        rintro e w1 ⟨rfl, hb3⟩
        have hB3 := Gen.over hb3 hB2
        go_wp2
        exact bodyPost_ret (v := .tuple #[.int .i64 x, .int .i64 e]) (by simp [results, Try.results24, go_sem]) rfl ⟨rfl, hB3⟩
      · rw [if_pos ⟨rfl, hs⟩] at h
        obtain rfl : y = x := by injection h
        obtain rfl : 0 = e := by injection h
        have HY := Lib.hid hy
        have HS := Lib.hid hs
        have y00 : 0 ≤ y := by omega
        clear h hy hs
        go_enter Try.func24, Try.ntmps24
        go_wp2_with (fail)
        go_must (refine (right_is _ HN.out hc1 hbig HM.out hc1' hbig' HR.out).mono ?_)
        rintro e w1 ⟨rfl, hb1⟩
        have hB1 := Gen.over hb1 HB0.out
        have k0 := (hr0.keep hb1).cell 0
        have k1 := (hr0.keep hb1).cell 1
        have hc2 := hc1.keep hb1
        have hc2' := hc1'.keep hb1
        have hr1 := hr0.keep hb1
        clear hr0 hc1 hc1' hb1
        go_wp2_with (fail)
        go_must (refine (isDay_is _ HD.out).mono ?_)
        rintro e w1 ⟨rfl, rfl⟩
        go_wp2_with (fail)
        go_must (refine (walkUp_is _ HN.out hc2 hbig HM.out hc2' hbig' HA.out h0 (by omega) HY.out).mono ?_)
        rintro e w1 ⟨rfl, hb2⟩
        have hB2 := Gen.over hb2 hB1
        have k0 := (hr1.keep hb2).cell 0
        have k1 := (hr1.keep hb2).cell 1
        have hc3 := hc2.keep hb2
        have hc3' := hc2'.keep hb2
        clear hr1 hc2 hc2' hb2 hB1
        go_wp2_with (fail)
        go_must (refine (sameMonth_is _ h0 h1 y00 y1 HS.out).mono ?_)
        rintro e w1 ⟨rfl, rfl⟩
        go_wp2
        exact bodyPost_ret (v := .tuple #[.int .i64 y, .int .i64 0]) (by simp [results, Try.results24, go_sem]) rfl ⟨rfl, hB2⟩
    · rw [if_neg (fun hh => by have := hh.1; simp at this)] at h
      have HX := Lib.hid h
      have HY := Lib.hid hy
      clear h hy
      go_enter Try.func24, Try.ntmps24
      go_wp2_with (fail)
      go_must (refine (right_is _ HN.out hc1 hbig HM.out hc1' hbig' HR.out).mono ?_)
      rintro e w1 ⟨rfl, hb1⟩
      have hB1 := Gen.over hb1 HB0.out
      have k0 := (hr0.keep hb1).cell 0
      have k1 := (hr0.keep hb1).cell 1
      have hc2 := hc1.keep hb1
      have hc2' := hc1'.keep hb1
      have hr1 := hr0.keep hb1
      clear hr0 hc1 hc1' hb1
      go_wp2_with (fail)
      go_must (refine (isDay_is _ HD.out).mono ?_)
      rintro e w1 ⟨rfl, rfl⟩
      go_wp2_with (fail)
      go_must (refine (walkUp_is _ HN.out hc2 hbig HM.out hc2' hbig' HA.out h0 (by omega) HY.out).mono ?_)
      rintro e w1 ⟨rfl, hb2⟩
      have hB2 := Gen.over hb2 hB1
      have k0 := (hr1.keep hb2).cell 0
      have k1 := (hr1.keep hb2).cell 1
      have hc3 := hc2.keep hb2
      have hc3' := hc2'.keep hb2
      clear hr1 hc2 hc2' hb2 hB1
      go_wp2_with (fail)
      go_must (refine (walkDn_is _ HN.out hc3 hbig HM.out hc3' hbig' HA.out (by omega) h1 HX.out).mono ?_)
      rintro e w1 ⟨rfl, hb3⟩
      have hB3 := Gen.over hb3 hB2
      go_wp2
      exact bodyPost_ret (v := .tuple #[.int .i64 x, .int .i64 e]) (by simp [results, Try.results24, go_sem]) rfl ⟨rfl, hB3⟩
  rw [if_neg e2] at h
  have q2 : (how == 2) = false := by simpa using e2
  obtain rfl : 0 = x := by injection h
  obtain rfl : 1 = e := by injection h
  clear h e0 e1 e2 e3
  go_enter Try.func24, Try.ntmps24
  go_wp2_with (fail)
  go_must (refine (right_is _ HN.out hc1 hbig HM.out hc1' hbig' HR.out).mono ?_)
  rintro e w1 ⟨rfl, hb1⟩
  have hB1 := Gen.over hb1 HB0.out
  have k0 := (hr0.keep hb1).cell 0
  have k1 := (hr0.keep hb1).cell 1
  have hc2 := hc1.keep hb1
  have hc2' := hc1'.keep hb1
  have hr1 := hr0.keep hb1
  clear hr0 hc1 hc1' hb1
  go_wp2_with (fail)
  go_must (refine (isDay_is _ HD.out).mono ?_)
  rintro e w1 ⟨rfl, rfl⟩
  go_wp2
  exact bodyPost_ret (v := .tuple #[.int .i64 0, .int .i64 1]) (by simp [results, Try.results24, go_sem]) rfl ⟨rfl, hB1⟩

set_option maxRecDepth 100000 in
set_option maxHeartbeats 1000000 in
theorem next_is {day x e : Int} (w : World) (hn : rs.length = n) (hc : Ints w A rs) (hbig : n ≤ 1000000) (hm : ds.length = m) (hc' : Ints w A' ds) (hbig' : m ≤ 1000000) (h : adO rs ds day 1 = (x, e)) :
    Calls Try.prog 16 #[.agg #[.slice A n cap, .slice A' m cap'], .int .i64 day] w fun e' w' => e' = .returned (.tuple #[.int .i64 x, .int .i64 e]) ∧ Below w.heap.size w w' := by
  have hB0 : Below w.heap.size w (w.alloc (.cells #[.slice A n cap, .slice A' m cap'] 24)) := Gen.b_alloc (Below.refl _ _)
  have hr0 : Row (w.alloc (.cells #[.slice A n cap, .slice A' m cap'] 24)) w.heap.size 24 #[.slice A n cap, .slice A' m cap'] := Row.new _ _ _
  have hc1 := hc.keep hB0
  have hc1' := hc'.keep hB0
  have HN := Lib.hid hn
  have HM := Lib.hid hm
  have HB0 := Lib.hid hB0
  clear hB0 hn hm hc hc'
  have HX := Lib.hid h
  clear h
  go_enter Try.func16, Try.ntmps16
  go_wp2_with (fail)
  go_must (refine (adjust_is _ HN.out hc1 hbig HM.out hc1' hbig' HX.out).mono ?_)
  rintro e w1 ⟨rfl, hb1⟩
  have hB1 := Gen.over hb1 HB0.out
  go_wp2
  exact bodyPost_ret (v := .tuple #[.int .i64 x, .int .i64 e]) (by simp [results, Try.results16, go_sem]) rfl ⟨rfl, hB1⟩

set_option maxRecDepth 100000 in
set_option maxHeartbeats 1000000 in
theorem before_is {day x e : Int} (w : World) (hn : rs.length = n) (hc : Ints w A rs) (hbig : n ≤ 1000000) (hm : ds.length = m) (hc' : Ints w A' ds) (hbig' : m ≤ 1000000) (h : adO rs ds day 3 = (x, e)) :
    Calls Try.prog 18 #[.agg #[.slice A n cap, .slice A' m cap'], .int .i64 day] w fun e' w' => e' = .returned (.tuple #[.int .i64 x, .int .i64 e]) ∧ Below w.heap.size w w' := by
  have hB0 : Below w.heap.size w (w.alloc (.cells #[.slice A n cap, .slice A' m cap'] 24)) := Gen.b_alloc (Below.refl _ _)
  have hr0 : Row (w.alloc (.cells #[.slice A n cap, .slice A' m cap'] 24)) w.heap.size 24 #[.slice A n cap, .slice A' m cap'] := Row.new _ _ _
  have hc1 := hc.keep hB0
  have hc1' := hc'.keep hB0
  have HN := Lib.hid hn
  have HM := Lib.hid hm
  have HB0 := Lib.hid hB0
  clear hB0 hn hm hc hc'
  have HX := Lib.hid h
  clear h
  go_enter Try.func18, Try.ntmps18
  go_wp2_with (fail)
  go_must (refine (adjust_is _ HN.out hc1 hbig HM.out hc1' hbig' HX.out).mono ?_)
  rintro e w1 ⟨rfl, hb1⟩
  have hB1 := Gen.over hb1 HB0.out
  go_wp2
  exact bodyPost_ret (v := .tuple #[.int .i64 x, .int .i64 e]) (by simp [results, Try.results18, go_sem]) rfl ⟨rfl, hB1⟩

set_option maxRecDepth 100000 in
set_option maxHeartbeats 4000000 in
theorem back_is {day k x e : Int} (w : World) (hn : rs.length = n) (hc : Ints w A rs) (hbig : n ≤ 1000000) (hm : ds.length = m) (hc' : Ints w A' ds) (hbig' : m ≤ 1000000) (h : bkO rs ds day k = (x, e)) :
    Calls Try.prog 26 #[.agg #[.slice A n cap, .slice A' m cap'], .int .i64 day, .int .i64 k] w fun e' w' => e' = .returned (.tuple #[.int .i64 x, .int .i64 e]) ∧ Below w.heap.size w w' := by
  have hB0 : Below w.heap.size w (w.alloc (.cells #[.slice A n cap, .slice A' m cap'] 24)) := Gen.b_alloc (Below.refl _ _)
  have hr0 : Row (w.alloc (.cells #[.slice A n cap, .slice A' m cap'] 24)) w.heap.size 24 #[.slice A n cap, .slice A' m cap'] := Row.new _ _ _
  have hc1 := hc.keep hB0
  have hc1' := hc'.keep hB0
  have HN := Lib.hid hn
  have HM := Lib.hid hm
  have HB0 := Lib.hid hB0
  clear hB0 hn hm hc hc'
  unfold bkO at h
  cases hr : rt rs ds
  · rw [hr, if_neg (by simp)] at h
    obtain rfl : 0 = x := by injection h
    obtain rfl : 1 = e := by injection h
    have HR := Lib.hid hr
    clear hr h hr0
    go_enter Try.func26, Try.ntmps26
    go_wp2_with (fail)
    go_must (refine (right_is _ HN.out hc1 hbig HM.out hc1' hbig' HR.out).mono ?_)
    rintro e w1 ⟨rfl, hb1⟩
    have hB1 := Gen.over hb1 HB0.out
    go_wp2
    exact bodyPost_ret (v := .tuple #[.int .i64 0, .int .i64 1]) (by simp [results, Try.results26, go_sem]) rfl ⟨rfl, hB1⟩
  cases hd : dy day
  · rw [hd, if_neg (by simp)] at h
    obtain rfl : 0 = x := by injection h
    obtain rfl : 1 = e := by injection h
    have HR := Lib.hid hr
    have HD := Lib.hid hd
    clear hr hd h hr0
    go_enter Try.func26, Try.ntmps26
    go_wp2_with (fail)
    go_must (refine (right_is _ HN.out hc1 hbig HM.out hc1' hbig' HR.out).mono ?_)
    rintro e w1 ⟨rfl, hb1⟩
    have hB1 := Gen.over hb1 HB0.out
    go_wp2_with (fail)
    go_must (refine (isDay_is _ HD.out).mono ?_)
    rintro e w1 ⟨rfl, rfl⟩
    go_wp2
    exact bodyPost_ret (v := .tuple #[.int .i64 0, .int .i64 1]) (by simp [results, Try.results26, go_sem]) rfl ⟨rfl, hB1⟩
  have HA := Lib.hid (asc_of (rt_in hr).2.2.2)
  obtain ⟨h0, h1⟩ := dy_in hd
  by_cases hk : 0 ≤ k ∧ k ≤ 1000
  · rw [hr, hd, if_pos ⟨rfl, rfl, hk.1, hk.2⟩] at h
    obtain ⟨k0, k1⟩ := hk
    obtain ⟨j, rfl⟩ := Int.eq_ofNat_of_zero_le k0
    rw [Int.toNat_natCast] at h
    have HR := Lib.hid hr
    have HD := Lib.hid hd
    have HX := Lib.hid h
    clear hr hd h k0
    go_enter Try.func26, Try.ntmps26
    go_wp2_with (fail)
    go_must (refine (right_is _ HN.out hc1 hbig HM.out hc1' hbig' HR.out).mono ?_)
    rintro e w1 ⟨rfl, hb1⟩
    have hB1 := Gen.over hb1 HB0.out
    have hr1 := hr0.keep hb1
    have hc2 := hc1.keep hb1
    have hc2' := hc1'.keep hb1
    clear hr0 hc1 hc1' hb1
    go_wp2_with (fail)
    go_must (refine (isDay_is _ HD.out).mono ?_)
    rintro e w1 ⟨rfl, rfl⟩
    go_wp2_with (fail)
    go_loopw [1, 27] (fun dv iv wr => ∃ (d : Int) (i : Nat), 0 ≤ d ∧ d ≤ 200000 ∧ i ≤ j ∧ dv = .int .i64 d ∧ iv = .int .i64 i ∧ Hid (bk (bd rs ds) (j - i) d = (x, e)) ∧ Below w1.heap.size w1 wr) (fun _ iv _ => j - (intOf iv).toNat)
    case atStart => exact ⟨day, 0, h0, h1, Nat.zero_le _, rfl, rfl, HX, Below.refl _ _⟩
    case round =>
      obtain ⟨d, i, d0, d1, hi, rfl, rfl, HD2, hW⟩ := hrel
      have hB := Gen.over hW hB1
      have k0 := (hr1.keep hW).cell 0
      have k1 := (hr1.keep hW).cell 1
      have hc3 := hc2.keep hW
      have hc3' := hc2'.keep hW
      by_cases hlt : i < j
      · obtain ⟨y, g, hy⟩ : ∃ y g, bf (bd rs ds) (d - 1) = (y, g) := ⟨_, _, rfl⟩
        have hs := HD2.out
        rw [show j - i = (j - (i + 1)) + 1 by omega] at hs
        rcases bf_01 hy with ⟨rfl, y0, y1, _⟩ | ⟨rfl, rfl, _⟩
        · rw [bk_go hy] at hs
          have HS := Lib.hid hs
          have HY := Lib.hid hy
          clear hs hy hr1 hc2 hc2'
          go_wp2_with (fail)
          go_must (refine (walkDn_is _ HN.out hc3 hbig HM.out hc3' hbig' HA.out (by omega) (by omega) HY.out).mono ?_)
          rintro e w2 ⟨rfl, hb2⟩
          have hB2 := Gen.over hb2 hW
          clear hW hB k0 k1
          go_wp2
          go_roundw
          case rel => exact ⟨y, i + 1, y0, by omega, by omega, rfl, by go_num, HS, hB2⟩
          case measure => simp [intOf]; omega
        · rw [bk_no hy] at hs
          obtain rfl : 0 = x := by injection hs
          obtain rfl : 3 = e := by injection hs
          have HY := Lib.hid hy
          clear hs hy hr1 hc2 hc2'
          go_wp2_with (fail)
          go_must (refine (walkDn_is _ HN.out hc3 hbig HM.out hc3' hbig' HA.out (by omega) (by omega) HY.out).mono ?_)
          rintro e w2 ⟨rfl, hb2⟩
          have hB2 := Gen.over hb2 hB
          clear hW hB k0 k1
          go_wp2
          exact bodyPost_ret (v := .tuple #[.int .i64 0, .int .i64 3]) (by simp [results, Try.results26, go_sem]) rfl ⟨rfl, hB2⟩
      · obtain rfl : i = j := by omega
        have hs := HD2.out
        rw [Nat.sub_self, bk] at hs
        obtain rfl : d = x := by injection hs
        obtain rfl : 0 = e := by injection hs
        clear hs hr1 hc2 hc2' k0 k1
        go_wp2
        exact bodyPost_ret (v := .tuple #[.int .i64 d, .int .i64 0]) (by simp [results, Try.results26, go_sem]) rfl ⟨rfl, hB⟩
  · rw [if_neg (fun hh => hk hh.2.2)] at h
    obtain rfl : 0 = x := by injection h
    obtain rfl : 1 = e := by injection h
    have HR := Lib.hid hr
    have HD := Lib.hid hd
    clear hr hd h hr0
    rcases (show k < 0 ∨ (0 ≤ k ∧ 1000 < k) by omega) with a | ⟨a, b⟩
    all_goals
      clear hk
      go_enter Try.func26, Try.ntmps26
      go_wp2_with (fail)
      go_must (refine (right_is _ HN.out hc1 hbig HM.out hc1' hbig' HR.out).mono ?_)
      rintro e w1 ⟨rfl, hb1⟩
      have hB1 := Gen.over hb1 HB0.out
      go_wp2_with (fail)
      go_must (refine (isDay_is _ HD.out).mono ?_)
      rintro e w1 ⟨rfl, rfl⟩
      go_wp2
      exact bodyPost_ret (v := .tuple #[.int .i64 0, .int .i64 1]) (by simp [results, Try.results26, go_sem]) rfl ⟨rfl, hB1⟩
end
end Go.Proofs.Ytdndlipenjkfpaa.Dat
