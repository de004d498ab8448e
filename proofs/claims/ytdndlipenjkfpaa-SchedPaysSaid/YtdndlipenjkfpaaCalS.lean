/- The reference of cal: the contracts of Next, Before, Adjust, Back, Few. -/
import Derived.Test.YtdndlipenjkfpaaCalR
namespace Go.Proofs.Ytdndlipenjkfpaa.Dat
open Go.ChangeShapes Go.WideShapes Go.ChangeAt Go.RowKit Go.Proofs.Ytdndlipenjkfpaa.Cell
set_option linter.unusedVariables false
set_option linter.unusedSimpArgs false

section
variable {A A' : Option Addr} {n cap m cap' : Nat} {rs ds : List Int}

set_option maxRecDepth 100000 in
set_option maxHeartbeats 2000000 in
theorem rnext_is {day x e : Int} (w : World) (hn : rs.length = n) (hc : Ints w A rs) (hbig : n ≤ 1000000) (hm : ds.length = m) (hc' : Ints w A' ds) (hbig' : m ≤ 1000000) (h : adO rs ds day 1 = (x, e)) :
    Calls Try.prog 17 #[.agg #[.slice A n cap, .slice A' m cap'], .int .i64 day] w fun e' w' => e' = .returned (.tuple #[.int .i64 x, .int .i64 e]) ∧ Below w.heap.size w w' := by
  have hB0 : Below w.heap.size w (w.alloc (.cells #[.slice A n cap, .slice A' m cap'] 24)) := Gen.b_alloc (Below.refl _ _)
  have hr0 : Row (w.alloc (.cells #[.slice A n cap, .slice A' m cap'] 24)) w.heap.size 24 #[.slice A n cap, .slice A' m cap'] := Row.new _ _ _
  have hc1 := hc.keep hB0
  have hc1' := hc'.keep hB0
  have HN := Lib.hid hn
  have HM := Lib.hid hm
  have HB0 := Lib.hid hB0
  clear hB0 hn hm hc hc'
  unfold adO at h
  cases hr : rt rs ds
  · rw [hr, if_neg (by simp)] at h
    obtain rfl : 0 = x := by injection h
    obtain rfl : 1 = e := by injection h
    have HR := Lib.hid hr
    clear hr h hr0
    go_enter Try.func17, Try.ntmps17
    go_wp2_with (fail)
    go_must (refine (rright_is _ HN.out hc1 hbig HM.out hc1' hbig' HR.out).mono ?_)
    rintro e w1 ⟨rfl, hb1⟩
    have hB1 := Gen.over hb1 HB0.out
    go_wp2
    exact bodyPost_ret (v := .tuple #[.int .i64 0, .int .i64 1]) (by simp [results, Try.results17, go_sem]) rfl ⟨rfl, hB1⟩
  cases hd : dy day
  · rw [hd, if_neg (by simp)] at h
    obtain rfl : 0 = x := by injection h
    obtain rfl : 1 = e := by injection h
    have HR := Lib.hid hr
    have HD := Lib.hid hd
    clear hr hd h hr0
    go_enter Try.func17, Try.ntmps17
    go_wp2_with (fail)
    go_must (refine (rright_is _ HN.out hc1 hbig HM.out hc1' hbig' HR.out).mono ?_)
    rintro e w1 ⟨rfl, hb1⟩
    have hB1 := Gen.over hb1 HB0.out
    go_wp2_with (fail)
    go_must (refine (rday_is _ HD.out).mono ?_)
    rintro e w1 ⟨rfl, rfl⟩
    go_wp2
    exact bodyPost_ret (v := .tuple #[.int .i64 0, .int .i64 1]) (by simp [results, Try.results17, go_sem]) rfl ⟨rfl, hB1⟩
  rw [hr, hd, if_pos ⟨rfl, rfl⟩] at h
  obtain ⟨h0, h1⟩ := dy_in hd
  have HR := Lib.hid hr
  have HD := Lib.hid hd
  have HX := Lib.hid (show nx (bd rs ds) day = (x, e) from h)
  clear hr hd h
  go_enter Try.func17, Try.ntmps17
  go_wp2_with (fail)
  go_must (refine (rright_is _ HN.out hc1 hbig HM.out hc1' hbig' HR.out).mono ?_)
  rintro e w1 ⟨rfl, hb1⟩
  have hB1 := Gen.over hb1 HB0.out
  have k0 := (hr0.keep hb1).cell 0
  have k1 := (hr0.keep hb1).cell 1
  have hc2 := hc1.keep hb1
  have hc2' := hc1'.keep hb1
  have hr1 := hr0.keep hb1
  clear hr0 hc1 hc1' hb1
  go_wp2_with (fail)
  go_must (refine (rday_is _ HD.out).mono ?_)
  rintro e w1 ⟨rfl, rfl⟩
  go_wp2_with (fail)
  go_must (refine (rmovedUp_is _ HN.out hc2 hbig HM.out hc2' hbig' HR.out h0 (by omega) HX.out).mono ?_)
  rintro e w2 ⟨rfl, hb2⟩
  have hB2 := Gen.over hb2 hB1
  go_wp2
  exact bodyPost_ret (v := .tuple #[.int .i64 x, .int .i64 e]) (by simp [results, Try.results17, go_sem]) rfl ⟨rfl, hB2⟩

set_option maxRecDepth 100000 in
set_option maxHeartbeats 2000000 in
theorem rbefore_is {day x e : Int} (w : World) (hn : rs.length = n) (hc : Ints w A rs) (hbig : n ≤ 1000000) (hm : ds.length = m) (hc' : Ints w A' ds) (hbig' : m ≤ 1000000) (h : adO rs ds day 3 = (x, e)) :
    Calls Try.prog 19 #[.agg #[.slice A n cap, .slice A' m cap'], .int .i64 day] w fun e' w' => e' = .returned (.tuple #[.int .i64 x, .int .i64 e]) ∧ Below w.heap.size w w' := by
  have hB0 : Below w.heap.size w (w.alloc (.cells #[.slice A n cap, .slice A' m cap'] 24)) := Gen.b_alloc (Below.refl _ _)
  have hr0 : Row (w.alloc (.cells #[.slice A n cap, .slice A' m cap'] 24)) w.heap.size 24 #[.slice A n cap, .slice A' m cap'] := Row.new _ _ _
  have hc1 := hc.keep hB0
  have hc1' := hc'.keep hB0
  have HN := Lib.hid hn
  have HM := Lib.hid hm
  have HB0 := Lib.hid hB0
  clear hB0 hn hm hc hc'
  unfold adO at h
  cases hr : rt rs ds
  · rw [hr, if_neg (by simp)] at h
    obtain rfl : 0 = x := by injection h
    obtain rfl : 1 = e := by injection h
    have HR := Lib.hid hr
    clear hr h hr0
    go_enter Try.func19, Try.ntmps19
    go_wp2_with (fail)
    go_must (refine (rright_is _ HN.out hc1 hbig HM.out hc1' hbig' HR.out).mono ?_)
    rintro e w1 ⟨rfl, hb1⟩
    have hB1 := Gen.over hb1 HB0.out
    go_wp2
    exact bodyPost_ret (v := .tuple #[.int .i64 0, .int .i64 1]) (by simp [results, Try.results19, go_sem]) rfl ⟨rfl, hB1⟩
  cases hd : dy day
  · rw [hd, if_neg (by simp)] at h
    obtain rfl : 0 = x := by injection h
    obtain rfl : 1 = e := by injection h
    have HR := Lib.hid hr
    have HD := Lib.hid hd
    clear hr hd h hr0
    go_enter Try.func19, Try.ntmps19
    go_wp2_with (fail)
    go_must (refine (rright_is _ HN.out hc1 hbig HM.out hc1' hbig' HR.out).mono ?_)
    rintro e w1 ⟨rfl, hb1⟩
    have hB1 := Gen.over hb1 HB0.out
    go_wp2_with (fail)
    go_must (refine (rday_is _ HD.out).mono ?_)
    rintro e w1 ⟨rfl, rfl⟩
    go_wp2
    exact bodyPost_ret (v := .tuple #[.int .i64 0, .int .i64 1]) (by simp [results, Try.results19, go_sem]) rfl ⟨rfl, hB1⟩
  rw [hr, hd, if_pos ⟨rfl, rfl⟩] at h
  obtain ⟨h0, h1⟩ := dy_in hd
  have HR := Lib.hid hr
  have HD := Lib.hid hd
  have HX := Lib.hid (show bf (bd rs ds) day = (x, e) from h)
  clear hr hd h
  go_enter Try.func19, Try.ntmps19
  go_wp2_with (fail)
  go_must (refine (rright_is _ HN.out hc1 hbig HM.out hc1' hbig' HR.out).mono ?_)
  rintro e w1 ⟨rfl, hb1⟩
  have hB1 := Gen.over hb1 HB0.out
  have k0 := (hr0.keep hb1).cell 0
  have k1 := (hr0.keep hb1).cell 1
  have hc2 := hc1.keep hb1
  have hc2' := hc1'.keep hb1
  have hr1 := hr0.keep hb1
  clear hr0 hc1 hc1' hb1
  go_wp2_with (fail)
  go_must (refine (rday_is _ HD.out).mono ?_)
  rintro e w1 ⟨rfl, rfl⟩
  go_wp2_with (fail)
  go_must (refine (rmovedDn_is _ HN.out hc2 hbig HM.out hc2' hbig' HR.out (by omega) h1 HX.out).mono ?_)
  rintro e w2 ⟨rfl, hb2⟩
  have hB2 := Gen.over hb2 hB1
  go_wp2
  exact bodyPost_ret (v := .tuple #[.int .i64 x, .int .i64 e]) (by simp [results, Try.results19, go_sem]) rfl ⟨rfl, hB2⟩

set_option maxRecDepth 100000 in
set_option maxHeartbeats 8000000 in
theorem radjust_is {day how x e : Int} (w : World) (hn : rs.length = n) (hc : Ints w A rs) (hbig : n ≤ 1000000) (hm : ds.length = m) (hc' : Ints w A' ds) (hbig' : m ≤ 1000000) (h : adO rs ds day how = (x, e)) :
    Calls Try.prog 25 #[.agg #[.slice A n cap, .slice A' m cap'], .int .i64 day, .int .i64 how] w fun e' w' => e' = .returned (.tuple #[.int .i64 x, .int .i64 e]) ∧ Below w.heap.size w w' := by
  have hB0 : Below w.heap.size w (w.alloc (.cells #[.slice A n cap, .slice A' m cap'] 24)) := Gen.b_alloc (Below.refl _ _)
  have hr0 : Row (w.alloc (.cells #[.slice A n cap, .slice A' m cap'] 24)) w.heap.size 24 #[.slice A n cap, .slice A' m cap'] := Row.new _ _ _
  have hc1 := hc.keep hB0
  have hc1' := hc'.keep hB0
  have HN := Lib.hid hn
  have HM := Lib.hid hm
  have HB0 := Lib.hid hB0
  clear hB0 hn hm hc hc'
  unfold adO at h
  cases hr : rt rs ds
  · rw [hr, if_neg (by simp)] at h
    obtain rfl : 0 = x := by injection h
    obtain rfl : 1 = e := by injection h
    have HR := Lib.hid hr
    clear hr h hr0
    go_enter Try.func25, Try.ntmps25
    go_wp2_with (fail)
    go_must (refine (rright_is _ HN.out hc1 hbig HM.out hc1' hbig' HR.out).mono ?_)
    rintro e w1 ⟨rfl, hb1⟩
    have hB1 := Gen.over hb1 HB0.out
    go_wp2
    exact bodyPost_ret (v := .tuple #[.int .i64 0, .int .i64 1]) (by simp [results, Try.results25, go_sem]) rfl ⟨rfl, hB1⟩
  cases hd : dy day
  · rw [hd, if_neg (by simp)] at h
    obtain rfl : 0 = x := by injection h
    obtain rfl : 1 = e := by injection h
    have HR := Lib.hid hr
    have HD := Lib.hid hd
    clear hr hd h hr0
    go_enter Try.func25, Try.ntmps25
    go_wp2_with (fail)
    go_must (refine (rright_is _ HN.out hc1 hbig HM.out hc1' hbig' HR.out).mono ?_)
    rintro e w1 ⟨rfl, hb1⟩
    have hB1 := Gen.over hb1 HB0.out
    go_wp2_with (fail)
    go_must (refine (rday_is _ HD.out).mono ?_)
    rintro e w1 ⟨rfl, rfl⟩
    go_wp2
    exact bodyPost_ret (v := .tuple #[.int .i64 0, .int .i64 1]) (by simp [results, Try.results25, go_sem]) rfl ⟨rfl, hB1⟩
  rw [hr, hd, if_pos ⟨rfl, rfl⟩] at h
  obtain ⟨h0, h1⟩ := dy_in hd
  have HR := Lib.hid hr
  have HD := Lib.hid hd
  clear hr hd
  by_cases hw : how < 0 ∨ 4 ≤ how
  · unfold adj at h
    rw [if_neg (by omega), if_neg (by omega), if_neg (by omega), if_neg (by omega)] at h
    obtain rfl : 0 = x := by injection h
    obtain rfl : 1 = e := by injection h
    clear h
    rcases (show how < 0 ∨ (0 ≤ how ∧ 4 ≤ how) by omega) with a | ⟨a, b⟩
    all_goals
      clear hw hr0
      go_enter Try.func25, Try.ntmps25
      go_wp2_with (fail)
      go_must (refine (rright_is _ HN.out hc1 hbig HM.out hc1' hbig' HR.out).mono ?_)
      rintro e w1 ⟨rfl, hb1⟩
      have hB1 := Gen.over hb1 HB0.out
      go_wp2_with (fail)
      go_must (refine (rday_is _ HD.out).mono ?_)
      rintro e w1 ⟨rfl, rfl⟩
      go_wp2
      exact bodyPost_ret (v := .tuple #[.int .i64 0, .int .i64 1]) (by simp [results, Try.results25, go_sem]) rfl ⟨rfl, hB1⟩
  obtain ⟨w0, w1⟩ : 0 ≤ how ∧ how < 4 := by omega
  clear hw
  rcases (show how = 0 ∨ how = 1 ∨ how = 3 ∨ how = 2 by omega) with rfl | rfl | rfl | rfl
  all_goals clear w0 w1
  · have h' : ((day, 0) : Int × Int) = (x, e) := h
    obtain rfl : day = x := by injection h'
    obtain rfl : 0 = e := by injection h'
    clear h h'
    go_enter Try.func25, Try.ntmps25
    go_wp2_with (fail)
    go_must (refine (rright_is _ HN.out hc1 hbig HM.out hc1' hbig' HR.out).mono ?_)
    rintro e w1 ⟨rfl, hb1⟩
    have hB1 := Gen.over hb1 HB0.out
    have k0 := (hr0.keep hb1).cell 0
    have k1 := (hr0.keep hb1).cell 1
    have hc2 := hc1.keep hb1
    have hc2' := hc1'.keep hb1
    have hr1 := hr0.keep hb1
    clear hr0 hc1 hc1' hb1
    go_wp2_with (fail)
    go_must (refine (rday_is _ HD.out).mono ?_)
    rintro e w1 ⟨rfl, rfl⟩
    go_wp2
    exact bodyPost_ret (v := .tuple #[.int .i64 day, .int .i64 0]) (by simp [results, Try.results25, go_sem]) rfl ⟨rfl, hB1⟩
  · have HX := Lib.hid (show nx (bd rs ds) day = (x, e) from h)
    clear h
    go_enter Try.func25, Try.ntmps25
    go_wp2_with (fail)
    go_must (refine (rright_is _ HN.out hc1 hbig HM.out hc1' hbig' HR.out).mono ?_)
    rintro e w1 ⟨rfl, hb1⟩
    have hB1 := Gen.over hb1 HB0.out
    have k0 := (hr0.keep hb1).cell 0
    have k1 := (hr0.keep hb1).cell 1
    have hc2 := hc1.keep hb1
    have hc2' := hc1'.keep hb1
    have hr1 := hr0.keep hb1
    clear hr0 hc1 hc1' hb1
    go_wp2_with (fail)
    go_must (refine (rday_is _ HD.out).mono ?_)
    rintro e w1 ⟨rfl, rfl⟩
    go_wp2_with (fail)
    go_must (refine (rmovedUp_is _ HN.out hc2 hbig HM.out hc2' hbig' HR.out h0 (by omega) HX.out).mono ?_)
    rintro e w2 ⟨rfl, hb2⟩
    have hB2 := Gen.over hb2 hB1
    go_wp2
    exact bodyPost_ret (v := .tuple #[.int .i64 x, .int .i64 e]) (by simp [results, Try.results25, go_sem]) rfl ⟨rfl, hB2⟩
  · have HX := Lib.hid (show bf (bd rs ds) day = (x, e) from h)
    clear h
    obtain ⟨z, g, hz⟩ : ∃ z g, nx (bd rs ds) day = (z, g) := ⟨_, _, rfl⟩
    have z01 : 0 ≤ z ∧ z ≤ 200000 := by rcases nx_01 hz with a | a <;> omega
    obtain ⟨z0, z1⟩ := z01
    obtain ⟨y, mm, d, hp⟩ := pt_ex day h0 h1
    obtain ⟨y', mm', d', hp'⟩ := pt_ex z z0 z1
    have HZ := Lib.hid hz
    have HP := Lib.hid hp
    have HP' := Lib.hid hp'
    clear hz hp hp'
    go_enter Try.func25, Try.ntmps25
    go_wp2_with (fail)
    go_must (refine (rright_is _ HN.out hc1 hbig HM.out hc1' hbig' HR.out).mono ?_)
    rintro e w1 ⟨rfl, hb1⟩
    have hB1 := Gen.over hb1 HB0.out
    have k0 := (hr0.keep hb1).cell 0
    have k1 := (hr0.keep hb1).cell 1
    have hc2 := hc1.keep hb1
    have hc2' := hc1'.keep hb1
    have hr1 := hr0.keep hb1
    clear hr0 hc1 hc1' hb1
    go_wp2_with (fail)
    go_must (refine (rday_is _ HD.out).mono ?_)
    rintro e w1 ⟨rfl, rfl⟩
    go_wp2_with (fail)
    go_must (refine (rmovedUp_is _ HN.out hc2 hbig HM.out hc2' hbig' HR.out h0 (by omega) HZ.out).mono ?_)
    rintro e w2 ⟨rfl, hb2⟩
    have hB2 := Gen.over hb2 hB1
    go_wp2_with (fail)
    go_must (refine (rparts_is _ h0 h1 HP.out).mono ?_)
    rintro e w3 ⟨rfl, hb3⟩
    have hB3 := Gen.over hb3 hB2
    go_wp2_with (fail)
    go_must (refine (rparts_is _ z0 z1 HP'.out).mono ?_)
    rintro e w4 ⟨rfl, hb4⟩
    have hB4 := Gen.over hb4 hB3
    have hb5 := Gen.over hb4 (Gen.over hb3 hb2)
    have k0 := (hr1.keep hb5).cell 0
    have k1 := (hr1.keep hb5).cell 1
    have hc3 := hc2.keep hb5
    have hc3' := hc2'.keep hb5
    clear hb2 hb3 hb4 hb5 hr1 hc2 hc2' hB1 hB2 hB3
    go_wp2_with (fail)
    go_must (refine (rmovedDn_is _ HN.out hc3 hbig HM.out hc3' hbig' HR.out (by omega) h1 HX.out).mono ?_)
    rintro e w6 ⟨rfl, hb6⟩
    have hB6 := Gen.over hb6 hB4
    go_wp2
    exact bodyPost_ret (v := .tuple #[.int .i64 x, .int .i64 e]) (by simp [results, Try.results25, go_sem]) rfl ⟨rfl, hB6⟩
  · have h' : (if (nx (bd rs ds) day).2 = 0 ∧ sm day (nx (bd rs ds) day).1 = true then nx (bd rs ds) day else bf (bd rs ds) day) = (x, e) := h
    clear h
    obtain ⟨z, g, hz⟩ : ∃ z g, nx (bd rs ds) day = (z, g) := ⟨_, _, rfl⟩
    have z01 : 0 ≤ z ∧ z ≤ 200000 := by rcases nx_01 hz with a | a <;> omega
    obtain ⟨z0, z1⟩ := z01
    obtain ⟨y, mm, d, hp⟩ := pt_ex day h0 h1
    obtain ⟨y', mm', d', hp'⟩ := pt_ex z z0 z1
    rw [hz] at h'
    dsimp only at h'
    rw [sm_of hp hp'] at h'
    have g03 : g = 0 ∨ g = 3 := by rcases nx_01 hz with a | a <;> omega
    have HZ := Lib.hid hz
    have HP := Lib.hid hp
    have HP' := Lib.hid hp'
    clear hz hp hp'
    rcases g03 with rfl | rfl
    · by_cases ey : y = y'
      · by_cases em : mm = mm'
        · rw [decide_eq_true ⟨ey, em⟩, if_pos ⟨rfl, rfl⟩] at h'
          obtain rfl : z = x := by injection h'
          obtain rfl : 0 = e := by injection h'
          have b1' : (y == y') = true := by simpa using ey
          have b2' : ((mm : Int) == (mm' : Int)) = true := by simp [em]
          clear ey em h'
          go_enter Try.func25, Try.ntmps25
          go_wp2_with (fail)
          go_must (refine (rright_is _ HN.out hc1 hbig HM.out hc1' hbig' HR.out).mono ?_)
          rintro e w1 ⟨rfl, hb1⟩
          have hB1 := Gen.over hb1 HB0.out
          have k0 := (hr0.keep hb1).cell 0
          have k1 := (hr0.keep hb1).cell 1
          have hc2 := hc1.keep hb1
          have hc2' := hc1'.keep hb1
          have hr1 := hr0.keep hb1
          clear hr0 hc1 hc1' hb1
          go_wp2_with (fail)
          go_must (refine (rday_is _ HD.out).mono ?_)
          rintro e w1 ⟨rfl, rfl⟩
          go_wp2_with (fail)
          go_must (refine (rmovedUp_is _ HN.out hc2 hbig HM.out hc2' hbig' HR.out h0 (by omega) HZ.out).mono ?_)
          rintro e w2 ⟨rfl, hb2⟩
          have hB2 := Gen.over hb2 hB1
          go_wp2_with (fail)
          go_must (refine (rparts_is _ h0 h1 HP.out).mono ?_)
          rintro e w3 ⟨rfl, hb3⟩
          have hB3 := Gen.over hb3 hB2
          go_wp2_with (fail)
          go_must (refine (rparts_is _ z0 z1 HP'.out).mono ?_)
          rintro e w4 ⟨rfl, hb4⟩
          have hB4 := Gen.over hb4 hB3
          have hb5 := Gen.over hb4 (Gen.over hb3 hb2)
          have k0 := (hr1.keep hb5).cell 0
          have k1 := (hr1.keep hb5).cell 1
          have hc3 := hc2.keep hb5
          have hc3' := hc2'.keep hb5
          clear hb2 hb3 hb4 hb5 hr1 hc2 hc2' hB1 hB2 hB3
          go_wp2
          exact bodyPost_ret (v := .tuple #[.int .i64 z, .int .i64 0]) (by simp [results, Try.results25, go_sem]) rfl ⟨rfl, hB4⟩
        · rw [decide_eq_false (fun h => em h.2), if_neg (by simp)] at h'
          have HX := Lib.hid h'
          have b1' : (y == y') = true := by simpa using ey
          have b2' : ((mm : Int) == (mm' : Int)) = false := by simp; omega
          clear ey em h'
          go_enter Try.func25, Try.ntmps25
          go_wp2_with (fail)
          go_must (refine (rright_is _ HN.out hc1 hbig HM.out hc1' hbig' HR.out).mono ?_)
          rintro e w1 ⟨rfl, hb1⟩
          have hB1 := Gen.over hb1 HB0.out
          have k0 := (hr0.keep hb1).cell 0
          have k1 := (hr0.keep hb1).cell 1
          have hc2 := hc1.keep hb1
          have hc2' := hc1'.keep hb1
          have hr1 := hr0.keep hb1
          clear hr0 hc1 hc1' hb1
          go_wp2_with (fail)
          go_must (refine (rday_is _ HD.out).mono ?_)
          rintro e w1 ⟨rfl, rfl⟩
          go_wp2_with (fail)
          go_must (refine (rmovedUp_is _ HN.out hc2 hbig HM.out hc2' hbig' HR.out h0 (by omega) HZ.out).mono ?_)
          rintro e w2 ⟨rfl, hb2⟩
          have hB2 := Gen.over hb2 hB1
          go_wp2_with (fail)
          go_must (refine (rparts_is _ h0 h1 HP.out).mono ?_)
          rintro e w3 ⟨rfl, hb3⟩
          have hB3 := Gen.over hb3 hB2
          go_wp2_with (fail)
          go_must (refine (rparts_is _ z0 z1 HP'.out).mono ?_)
          rintro e w4 ⟨rfl, hb4⟩
          have hB4 := Gen.over hb4 hB3
          have hb5 := Gen.over hb4 (Gen.over hb3 hb2)
          have k0 := (hr1.keep hb5).cell 0
          have k1 := (hr1.keep hb5).cell 1
          have hc3 := hc2.keep hb5
          have hc3' := hc2'.keep hb5
          clear hb2 hb3 hb4 hb5 hr1 hc2 hc2' hB1 hB2 hB3
          go_wp2_with (fail)
          go_must (refine (rmovedDn_is _ HN.out hc3 hbig HM.out hc3' hbig' HR.out (by omega) h1 HX.out).mono ?_)
          rintro e w6 ⟨rfl, hb6⟩
          have hB6 := Gen.over hb6 hB4
          go_wp2
          exact bodyPost_ret (v := .tuple #[.int .i64 x, .int .i64 e]) (by simp [results, Try.results25, go_sem]) rfl ⟨rfl, hB6⟩
      · rw [decide_eq_false (fun h => ey h.1), if_neg (by simp)] at h'
        have HX := Lib.hid h'
        have b1' : (y == y') = false := by simpa using ey
        clear ey h'
        go_enter Try.func25, Try.ntmps25
        go_wp2_with (fail)
        go_must (refine (rright_is _ HN.out hc1 hbig HM.out hc1' hbig' HR.out).mono ?_)
        rintro e w1 ⟨rfl, hb1⟩
        have hB1 := Gen.over hb1 HB0.out
        have k0 := (hr0.keep hb1).cell 0
        have k1 := (hr0.keep hb1).cell 1
        have hc2 := hc1.keep hb1
        have hc2' := hc1'.keep hb1
        have hr1 := hr0.keep hb1
        clear hr0 hc1 hc1' hb1
        go_wp2_with (fail)
        go_must (refine (rday_is _ HD.out).mono ?_)
        rintro e w1 ⟨rfl, rfl⟩
        go_wp2_with (fail)
        go_must (refine (rmovedUp_is _ HN.out hc2 hbig HM.out hc2' hbig' HR.out h0 (by omega) HZ.out).mono ?_)
        rintro e w2 ⟨rfl, hb2⟩
        have hB2 := Gen.over hb2 hB1
        go_wp2_with (fail)
        go_must (refine (rparts_is _ h0 h1 HP.out).mono ?_)
        rintro e w3 ⟨rfl, hb3⟩
        have hB3 := Gen.over hb3 hB2
        go_wp2_with (fail)
        go_must (refine (rparts_is _ z0 z1 HP'.out).mono ?_)
        rintro e w4 ⟨rfl, hb4⟩
        have hB4 := Gen.over hb4 hB3
        have hb5 := Gen.over hb4 (Gen.over hb3 hb2)
        have k0 := (hr1.keep hb5).cell 0
        have k1 := (hr1.keep hb5).cell 1
        have hc3 := hc2.keep hb5
        have hc3' := hc2'.keep hb5
        clear hb2 hb3 hb4 hb5 hr1 hc2 hc2' hB1 hB2 hB3
        go_wp2_with (fail)
        go_must (refine (rmovedDn_is _ HN.out hc3 hbig HM.out hc3' hbig' HR.out (by omega) h1 HX.out).mono ?_)
        rintro e w6 ⟨rfl, hb6⟩
        have hB6 := Gen.over hb6 hB4
        go_wp2
        exact bodyPost_ret (v := .tuple #[.int .i64 x, .int .i64 e]) (by simp [results, Try.results25, go_sem]) rfl ⟨rfl, hB6⟩
    · rw [if_neg (by simp)] at h'
      have HX := Lib.hid h'
      clear h'
      go_enter Try.func25, Try.ntmps25
      go_wp2_with (fail)
      go_must (refine (rright_is _ HN.out hc1 hbig HM.out hc1' hbig' HR.out).mono ?_)
      rintro e w1 ⟨rfl, hb1⟩
      have hB1 := Gen.over hb1 HB0.out
      have k0 := (hr0.keep hb1).cell 0
      have k1 := (hr0.keep hb1).cell 1
      have hc2 := hc1.keep hb1
      have hc2' := hc1'.keep hb1
      have hr1 := hr0.keep hb1
      clear hr0 hc1 hc1' hb1
      go_wp2_with (fail)
      go_must (refine (rday_is _ HD.out).mono ?_)
      rintro e w1 ⟨rfl, rfl⟩
      go_wp2_with (fail)
      go_must (refine (rmovedUp_is _ HN.out hc2 hbig HM.out hc2' hbig' HR.out h0 (by omega) HZ.out).mono ?_)
      rintro e w2 ⟨rfl, hb2⟩
      have hB2 := Gen.over hb2 hB1
      go_wp2_with (fail)
      go_must (refine (rparts_is _ h0 h1 HP.out).mono ?_)
      rintro e w3 ⟨rfl, hb3⟩
      have hB3 := Gen.over hb3 hB2
      go_wp2_with (fail)
      go_must (refine (rparts_is _ z0 z1 HP'.out).mono ?_)
      rintro e w4 ⟨rfl, hb4⟩
      have hB4 := Gen.over hb4 hB3
      have hb5 := Gen.over hb4 (Gen.over hb3 hb2)
      have k0 := (hr1.keep hb5).cell 0
      have k1 := (hr1.keep hb5).cell 1
      have hc3 := hc2.keep hb5
      have hc3' := hc2'.keep hb5
      clear hb2 hb3 hb4 hb5 hr1 hc2 hc2' hB1 hB2 hB3
      go_wp2_with (fail)
      go_must (refine (rmovedDn_is _ HN.out hc3 hbig HM.out hc3' hbig' HR.out (by omega) h1 HX.out).mono ?_)
      rintro e w6 ⟨rfl, hb6⟩
      have hB6 := Gen.over hb6 hB4
      go_wp2
      exact bodyPost_ret (v := .tuple #[.int .i64 x, .int .i64 e]) (by simp [results, Try.results25, go_sem]) rfl ⟨rfl, hB6⟩

set_option maxRecDepth 100000 in
set_option maxHeartbeats 4000000 in
theorem rback_is {day k x e : Int} (w : World) (hn : rs.length = n) (hc : Ints w A rs) (hbig : n ≤ 1000000) (hm : ds.length = m) (hc' : Ints w A' ds) (hbig' : m ≤ 1000000) (h : bkO rs ds day k = (x, e)) :
    Calls Try.prog 27 #[.agg #[.slice A n cap, .slice A' m cap'], .int .i64 day, .int .i64 k] w fun e' w' => e' = .returned (.tuple #[.int .i64 x, .int .i64 e]) ∧ Below w.heap.size w w' := by
  have hB0 : Below w.heap.size w (w.alloc (.cells #[.slice A n cap, .slice A' m cap'] 24)) := Gen.b_alloc (Below.refl _ _)
  have hr0 : Row (w.alloc (.cells #[.slice A n cap, .slice A' m cap'] 24)) w.heap.size 24 #[.slice A n cap, .slice A' m cap'] := Row.new _ _ _
  have hc1 := hc.keep hB0
  have hc1' := hc'.keep hB0
  have HN := Lib.hid hn
  have HM := Lib.hid hm
  have HB0 := Lib.hid hB0
  clear hB0 hn hm hc hc'
  unfold bkO at h
  cases hr : rt rs ds
  · rw [hr, if_neg (by simp)] at h
    obtain rfl : 0 = x := by injection h
    obtain rfl : 1 = e := by injection h
    have HR := Lib.hid hr
    clear hr h hr0
    go_enter Try.func27, Try.ntmps27
    go_wp2_with (fail)
    go_must (refine (rright_is _ HN.out hc1 hbig HM.out hc1' hbig' HR.out).mono ?_)
    rintro e w1 ⟨rfl, hb1⟩
    have hB1 := Gen.over hb1 HB0.out
    go_wp2
    exact bodyPost_ret (v := .tuple #[.int .i64 0, .int .i64 1]) (by simp [results, Try.results27, go_sem]) rfl ⟨rfl, hB1⟩
  cases hd : dy day
  · rw [hd, if_neg (by simp)] at h
    obtain rfl : 0 = x := by injection h
    obtain rfl : 1 = e := by injection h
    have HR := Lib.hid hr
    have HD := Lib.hid hd
    clear hr hd h hr0
    go_enter Try.func27, Try.ntmps27
    go_wp2_with (fail)
    go_must (refine (rright_is _ HN.out hc1 hbig HM.out hc1' hbig' HR.out).mono ?_)
    rintro e w1 ⟨rfl, hb1⟩
    have hB1 := Gen.over hb1 HB0.out
    go_wp2_with (fail)
    go_must (refine (rday_is _ HD.out).mono ?_)
    rintro e w1 ⟨rfl, rfl⟩
    go_wp2
    exact bodyPost_ret (v := .tuple #[.int .i64 0, .int .i64 1]) (by simp [results, Try.results27, go_sem]) rfl ⟨rfl, hB1⟩
  have HA := Lib.hid (asc_of (rt_in hr).2.2.2)
  obtain ⟨h0, h1⟩ := dy_in hd
  by_cases hk : 0 ≤ k ∧ k ≤ 1000
  · rw [hr, hd, if_pos ⟨rfl, rfl, hk.1, hk.2⟩] at h
    obtain ⟨k0, k1⟩ := hk
    obtain ⟨j, rfl⟩ := Int.eq_ofNat_of_zero_le k0
    rw [Int.toNat_natCast] at h
    have HR := Lib.hid hr
    have HD := Lib.hid hd
    have HX := Lib.hid h
    clear hr hd h k0
    go_enter Try.func27, Try.ntmps27
    go_wp2_with (fail)
    go_must (refine (rright_is _ HN.out hc1 hbig HM.out hc1' hbig' HR.out).mono ?_)
    rintro e w1 ⟨rfl, hb1⟩
    have hB1 := Gen.over hb1 HB0.out
    have hr1 := hr0.keep hb1
    have hc2 := hc1.keep hb1
    have hc2' := hc1'.keep hb1
    clear hr0 hc1 hc1' hb1
    go_wp2_with (fail)
    go_must (refine (rday_is _ HD.out).mono ?_)
    rintro e w1 ⟨rfl, rfl⟩
    go_wp2_with (fail)
    go_loopw [1, 8] (fun dv iv wr => ∃ (d : Int) (i : Nat), 0 ≤ d ∧ d ≤ 200000 ∧ i ≤ j ∧ dv = .int .i64 d ∧ iv = .int .i64 i ∧ Hid (bk (bd rs ds) (j - i) d = (x, e)) ∧ Below w1.heap.size w1 wr) (fun _ iv _ => j - (intOf iv).toNat)
    case atStart => exact ⟨day, 0, h0, h1, Nat.zero_le _, rfl, rfl, HX, Below.refl _ _⟩
    case round =>
      obtain ⟨d, i, d0, d1, hi, rfl, rfl, HD2, hW⟩ := hrel
      have hB := Gen.over hW hB1
      have k0 := (hr1.keep hW).cell 0
      have k1 := (hr1.keep hW).cell 1
      have hc3 := hc2.keep hW
      have hc3' := hc2'.keep hW
      by_cases hlt : i < j
      · obtain ⟨y, g, hy⟩ : ∃ y g, bf (bd rs ds) (d - 1) = (y, g) := ⟨_, _, rfl⟩
        have hs := HD2.out
        rw [show j - i = (j - (i + 1)) + 1 by omega] at hs
        rcases bf_01 hy with ⟨rfl, y0, y1, _⟩ | ⟨rfl, rfl, _⟩
        · rw [bk_go hy] at hs
          have HS := Lib.hid hs
          have HY := Lib.hid hy
          clear hs hy hr1 hc2 hc2'
          go_wp2_with (fail)
          go_must (refine (rmovedDn_is _ HN.out hc3 hbig HM.out hc3' hbig' HR.out (by omega) (by omega) HY.out).mono ?_)
          rintro e w2 ⟨rfl, hb2⟩
          have hB2 := Gen.over hb2 hW
          clear hW hB k0 k1
          go_wp2
          go_roundw
          case rel => exact ⟨y, i + 1, y0, by omega, by omega, rfl, by go_num, HS, hB2⟩
          case measure => simp [intOf]; omega
        · rw [bk_no hy] at hs
          obtain rfl : 0 = x := by injection hs
          obtain rfl : 3 = e := by injection hs
          have HY := Lib.hid hy
          clear hs hy hr1 hc2 hc2'
          go_wp2_with (fail)
          go_must (refine (rmovedDn_is _ HN.out hc3 hbig HM.out hc3' hbig' HR.out (by omega) (by omega) HY.out).mono ?_)
          rintro e w2 ⟨rfl, hb2⟩
          have hB2 := Gen.over hb2 hB
          clear hW hB k0 k1
          go_wp2
          exact bodyPost_ret (v := .tuple #[.int .i64 0, .int .i64 3]) (by simp [results, Try.results27, go_sem]) rfl ⟨rfl, hB2⟩
      · obtain rfl : i = j := by omega
        have hs := HD2.out
        rw [Nat.sub_self, bk] at hs
        obtain rfl : d = x := by injection hs
        obtain rfl : 0 = e := by injection hs
        clear hs hr1 hc2 hc2' k0 k1
        go_wp2
        exact bodyPost_ret (v := .tuple #[.int .i64 d, .int .i64 0]) (by simp [results, Try.results27, go_sem]) rfl ⟨rfl, hB⟩
  · rw [if_neg (fun hh => hk hh.2.2)] at h
    obtain rfl : 0 = x := by injection h
    obtain rfl : 1 = e := by injection h
    have HR := Lib.hid hr
    have HD := Lib.hid hd
    clear hr hd h hr0
    rcases (show k < 0 ∨ (0 ≤ k ∧ 1000 < k) by omega) with a | ⟨a, b⟩
    all_goals
      clear hk
      go_enter Try.func27, Try.ntmps27
      go_wp2_with (fail)
      go_must (refine (rright_is _ HN.out hc1 hbig HM.out hc1' hbig' HR.out).mono ?_)
      rintro e w1 ⟨rfl, hb1⟩
      have hB1 := Gen.over hb1 HB0.out
      go_wp2_with (fail)
      go_must (refine (rday_is _ HD.out).mono ?_)
      rintro e w1 ⟨rfl, rfl⟩
      go_wp2
      exact bodyPost_ret (v := .tuple #[.int .i64 0, .int .i64 1]) (by simp [results, Try.results27, go_sem]) rfl ⟨rfl, hB1⟩

theorem few20 {a b : Nat} : (decide (a ≤ 20) && decide (b ≤ 20)) = true ↔ a ≤ 20 ∧ b ≤ 20 := by simp
set_option maxRecDepth 100000 in
set_option maxHeartbeats 1000000 in
theorem few_is {b : Bool} (w : World) (hbig : n ≤ 9223372036854775807) (hbig' : m ≤ 9223372036854775807) (h : (decide (n ≤ 20) && decide (m ≤ 20)) = b) :
    Calls Try.prog 15 #[.agg #[.slice A n cap, .slice A' m cap']] w fun e w' => e = .returned (.bool b) ∧ Below w.heap.size w w' := by
  have hB0 := Lib.hid (show Below w.heap.size w (w.alloc (.cells #[.slice A n cap, .slice A' m cap'] 24)) from Gen.b_alloc (Below.refl _ _))
  by_cases a : n ≤ 20
  · by_cases c : m ≤ 20
    · rw [decide_eq_true a, decide_eq_true c] at h
      subst h
      go_enter Try.func15, Try.ntmps15
      go_wp2
      go_ret
      exact ⟨ret_bool (decide_eq_true (by omega)), hB0.out⟩
    · rw [decide_eq_false c, Bool.and_false] at h
      subst h
      have c' : 20 < m := by omega
      clear c
      go_enter Try.func15, Try.ntmps15
      go_wp2
      go_ret
      exact ⟨ret_bool (decide_eq_false (by omega)), hB0.out⟩
  · rw [decide_eq_false a, Bool.false_and] at h
    subst h
    have a' : 20 < n := by omega
    clear a
    go_enter Try.func15, Try.ntmps15
    go_wp2
    go_ret
    exact ⟨rfl, hB0.out⟩
end
end Go.Proofs.Ytdndlipenjkfpaa.Dat
