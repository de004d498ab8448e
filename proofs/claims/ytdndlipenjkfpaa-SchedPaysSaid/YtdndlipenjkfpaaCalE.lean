/- Package cal: the contracts of walk, sameMonth, Adjust, Next, Before, Back. -/
import Derived.Test.YtdndlipenjkfpaaCalD
namespace Go.Proofs.Ytdndlipenjkfpaa.Dat
open Go.ChangeShapes Go.WideShapes Go.ChangeAt Go.RowKit Go.Proofs.Ytdndlipenjkfpaa.Cell
set_option linter.unusedVariables false
set_option linter.unusedSimpArgs false

section
variable {A A' : Option Addr} {n cap m cap' : Nat} {rs ds : List Int}
set_option maxRecDepth 100000 in
set_option maxHeartbeats 2000000 in
theorem walkUp_is {day x e : Int} (w : World) (hn : rs.length = n) (hc : Ints w A rs) (hbig : n ≤ 1000000) (hm : ds.length = m) (hc' : Ints w A' ds) (hbig' : m ≤ 1000000) (hd : asc ds) (h0 : 0 ≤ day) (h1 : day ≤ 200001) (h : nx (bd rs ds) day = (x, e)) :
    Calls Try.prog 50 #[.agg #[.slice A n cap, .slice A' m cap'], .int .i64 day, .int .i64 1] w fun e' w' => e' = .returned (.tuple #[.int .i64 x, .int .i64 e]) ∧ Below w.heap.size w w' := by
  have hB0 : Below w.heap.size w (w.alloc (.cells #[.slice A n cap, .slice A' m cap'] 24)) := Gen.b_alloc (Below.refl _ _)
  have hr0 : Row (w.alloc (.cells #[.slice A n cap, .slice A' m cap'] 24)) w.heap.size 24 #[.slice A n cap, .slice A' m cap'] := Row.new _ _ _
  have hc1 := hc.keep hB0
  have hc1' := hc'.keep hB0
  have HN := Lib.hid hn
  have HM := Lib.hid hm
  have HD := Lib.hid hd
  have HX := Lib.hid h
  have HB0 := Lib.hid hB0
  clear hB0 hn hm hd h hc hc'
  go_enter Try.func50, Try.ntmps50
  go_wp2_with (fail)
  go_loopw [1] (fun dv wr => ∃ d : Int, 0 ≤ d ∧ d ≤ 200001 ∧ dv = .int .i64 d ∧ Hid (nx (bd rs ds) d = (x, e)) ∧ Below (w.alloc (.cells #[.slice A n cap, .slice A' m cap'] 24)).heap.size (w.alloc (.cells #[.slice A n cap, .slice A' m cap'] 24)) wr) (fun dv _ => (200001 - intOf dv).toNat)
  case atStart => exact ⟨day, h0, h1, rfl, HX, Below.refl _ _⟩
  case round =>
    obtain ⟨d, d0, d1, rfl, HD2, hW⟩ := hrel
    have hB := Gen.over hW HB0.out
    have k0 := (hr0.keep hW).cell 0
    have k1 := (hr0.keep hW).cell 1
    have hc2 := hc1.keep hW
    have hc2' := hc1'.keep hW
    by_cases hlt : d ≤ 200000
    · have HY := Lib.hid (dy_yes d0 hlt)
      cases hp : bd rs ds d
      · have HS := Lib.hid (show nx (bd rs ds) (d + 1) = (x, e) from by rw [← nx_step hlt hp]; exact HD2.out)
        have HP := Lib.hid hp
        clear hp hr0 hc1 hc1'
        go_wp2_with (fail)
        go_must (refine (isDay_is _ HY.out).mono ?_)
        rintro e w1 ⟨rfl, rfl⟩
        go_wp2_with (fail)
        go_must (refine (open_is _ HN.out hc2 hbig HM.out hc2' hbig' HD.out d0 hlt HP.out).mono ?_)
        rintro e w2 ⟨rfl, hb2⟩
        have hB2 := Gen.over hb2 hW
        clear hW hB k0 k1
        go_wp2
        go_roundw
        case rel => exact ⟨d + 1, by omega, by omega, rfl, HS, hB2⟩
        case measure => simp [intOf]; omega
      · have hS := HD2.out
        rw [nx_here hlt hp] at hS
        have e1 : d = x := by injection hS
        have e2 : 0 = e := by injection hS
        subst e1 e2
        have HP := Lib.hid hp
        clear hp hr0 hc1 hc1' hS
        go_wp2_with (fail)
        go_must (refine (isDay_is _ HY.out).mono ?_)
        rintro e w1 ⟨rfl, rfl⟩
        go_wp2_with (fail)
        go_must (refine (open_is _ HN.out hc2 hbig HM.out hc2' hbig' HD.out d0 hlt HP.out).mono ?_)
        rintro e w2 ⟨rfl, hb2⟩
        have hB2 := Gen.over hb2 hB
        clear hW hB k0 k1
        go_wp2
        exact bodyPost_ret (v := .tuple #[.int .i64 d, .int .i64 0]) (by simp [results, Try.results50, go_sem]) rfl ⟨rfl, hB2⟩
    · have HY := Lib.hid (dy_no (day := d) (by omega))
      have hS := HD2.out
      rw [nx_end (by omega)] at hS
      have e1 : 0 = x := by injection hS
      have e2 : 3 = e := by injection hS
      subst e1 e2
      clear hS hr0 hc1 hc1' k0 k1
      go_wp2_with (fail)
      go_must (refine (isDay_is _ HY.out).mono ?_)
      rintro e w1 ⟨rfl, rfl⟩
      go_wp2
      exact bodyPost_ret (v := .tuple #[.int .i64 0, .int .i64 3]) (by simp [results, Try.results50, go_sem]) rfl ⟨rfl, hB⟩

set_option maxRecDepth 100000 in
set_option maxHeartbeats 2000000 in
theorem walkDn_is {day x e : Int} (w : World) (hn : rs.length = n) (hc : Ints w A rs) (hbig : n ≤ 1000000) (hm : ds.length = m) (hc' : Ints w A' ds) (hbig' : m ≤ 1000000) (hd : asc ds) (h0 : -1 ≤ day) (h1 : day ≤ 200000) (h : bf (bd rs ds) day = (x, e)) :
    Calls Try.prog 50 #[.agg #[.slice A n cap, .slice A' m cap'], .int .i64 day, .int .i64 (-1)] w fun e' w' => e' = .returned (.tuple #[.int .i64 x, .int .i64 e]) ∧ Below w.heap.size w w' := by
  have hB0 : Below w.heap.size w (w.alloc (.cells #[.slice A n cap, .slice A' m cap'] 24)) := Gen.b_alloc (Below.refl _ _)
  have hr0 : Row (w.alloc (.cells #[.slice A n cap, .slice A' m cap'] 24)) w.heap.size 24 #[.slice A n cap, .slice A' m cap'] := Row.new _ _ _
  have hc1 := hc.keep hB0
  have hc1' := hc'.keep hB0
  have HN := Lib.hid hn
  have HM := Lib.hid hm
  have HD := Lib.hid hd
  have HX := Lib.hid h
  have HB0 := Lib.hid hB0
  clear hB0 hn hm hd h hc hc'
  go_enter Try.func50, Try.ntmps50
  go_wp2_with (fail)
  go_loopw [1] (fun dv wr => ∃ d : Int, -1 ≤ d ∧ d ≤ 200000 ∧ dv = .int .i64 d ∧ Hid (bf (bd rs ds) d = (x, e)) ∧ Below (w.alloc (.cells #[.slice A n cap, .slice A' m cap'] 24)).heap.size (w.alloc (.cells #[.slice A n cap, .slice A' m cap'] 24)) wr) (fun dv _ => (1 + intOf dv).toNat)
  case atStart => exact ⟨day, h0, h1, rfl, HX, Below.refl _ _⟩
  case round =>
    obtain ⟨d, d0, d1, rfl, HD2, hW⟩ := hrel
    have hB := Gen.over hW HB0.out
    have k0 := (hr0.keep hW).cell 0
    have k1 := (hr0.keep hW).cell 1
    have hc2 := hc1.keep hW
    have hc2' := hc1'.keep hW
    by_cases hlt : 0 ≤ d
    · have HY := Lib.hid (dy_yes hlt d1)
      cases hp : bd rs ds d
      · have HS := Lib.hid (show bf (bd rs ds) (d - 1) = (x, e) from by rw [← bf_step hlt hp]; exact HD2.out)
        have HP := Lib.hid hp
        clear hp hr0 hc1 hc1'
        go_wp2_with (fail)
        go_must (refine (isDay_is _ HY.out).mono ?_)
        rintro e w1 ⟨rfl, rfl⟩
        go_wp2_with (fail)
        go_must (refine (open_is _ HN.out hc2 hbig HM.out hc2' hbig' HD.out hlt d1 HP.out).mono ?_)
        rintro e w2 ⟨rfl, hb2⟩
        have hB2 := Gen.over hb2 hW
        clear hW hB k0 k1
        go_wp2
        go_roundw
        case rel => exact ⟨d - 1, by omega, by omega, by first | rfl | go_num, HS, hB2⟩
        case measure => simp [intOf]; omega
      · have hS := HD2.out
        rw [bf_here hlt hp] at hS
        have e1 : d = x := by injection hS
        have e2 : 0 = e := by injection hS
        subst e1 e2
        have HP := Lib.hid hp
        clear hp hr0 hc1 hc1' hS
        go_wp2_with (fail)
        go_must (refine (isDay_is _ HY.out).mono ?_)
        rintro e w1 ⟨rfl, rfl⟩
        go_wp2_with (fail)
        go_must (refine (open_is _ HN.out hc2 hbig HM.out hc2' hbig' HD.out hlt d1 HP.out).mono ?_)
        rintro e w2 ⟨rfl, hb2⟩
        have hB2 := Gen.over hb2 hB
        clear hW hB k0 k1
        go_wp2
        exact bodyPost_ret (v := .tuple #[.int .i64 d, .int .i64 0]) (by simp [results, Try.results50, go_sem]) rfl ⟨rfl, hB2⟩
    · have HY := Lib.hid (dy_no (day := d) (by omega))
      have hS := HD2.out
      rw [bf_end (by omega)] at hS
      have e1 : 0 = x := by injection hS
      have e2 : 3 = e := by injection hS
      subst e1 e2
      clear hS hr0 hc1 hc1' k0 k1
      go_wp2_with (fail)
      go_must (refine (isDay_is _ HY.out).mono ?_)
      rintro e w1 ⟨rfl, rfl⟩
      go_wp2
      exact bodyPost_ret (v := .tuple #[.int .i64 0, .int .i64 3]) (by simp [results, Try.results50, go_sem]) rfl ⟨rfl, hB⟩

set_option maxHeartbeats 1000000 in
theorem sameMonth_is {a b : Int} {t : Bool} (w : World) (a0 : 0 ≤ a) (a1 : a ≤ 200000) (b0 : 0 ≤ b) (b1 : b ≤ 200000) (h : sm a b = t) :
    Calls Try.prog 51 #[.int .i64 a, .int .i64 b] w fun e w' => e = .returned (.bool t) ∧ w = w' := by
  obtain ⟨y, mm, d, hp⟩ := pt_ex a a0 a1
  obtain ⟨y', mm', d', hp'⟩ := pt_ex b b0 b1
  rw [sm_of hp hp'] at h
  have HP := Lib.hid hp
  have HP' := Lib.hid hp'
  clear hp hp'
  by_cases ey : y = y'
  · by_cases em : mm = mm'
    · rw [decide_eq_true ⟨ey, em⟩] at h
      have b1' : (y == y') = true := by simpa using ey
      have b2' : ((mm : Int) == (mm' : Int)) = true := by simp [em]
      subst h
      clear ey em
      go_enter Try.func51, Try.ntmps51
      go_wp2_with (fail)
      go_must (refine (parts_is _ a0 a1 HP.out).mono ?_)
      rintro e w1 ⟨rfl, rfl⟩
      go_wp2_with (fail)
      go_must (refine (parts_is _ b0 b1 HP'.out).mono ?_)
      rintro e w1 ⟨rfl, rfl⟩
      go_wp2
      go_ret
      exact ⟨ret_bool (by simp_all), rfl⟩
    · rw [decide_eq_false (fun h => em h.2)] at h
      have b1' : (y == y') = true := by simpa using ey
      have b2' : ((mm : Int) == (mm' : Int)) = false := by simp; omega
      subst h
      clear ey em
      go_enter Try.func51, Try.ntmps51
      go_wp2_with (fail)
      go_must (refine (parts_is _ a0 a1 HP.out).mono ?_)
      rintro e w1 ⟨rfl, rfl⟩
      go_wp2_with (fail)
      go_must (refine (parts_is _ b0 b1 HP'.out).mono ?_)
      rintro e w1 ⟨rfl, rfl⟩
      go_wp2
      go_ret
      exact ⟨ret_bool (by simp_all), rfl⟩
  · rw [decide_eq_false (fun h => ey h.1)] at h
    have b1' : (y == y') = false := by simpa using ey
    subst h
    clear ey
    go_enter Try.func51, Try.ntmps51
    go_wp2_with (fail)
    go_must (refine (parts_is _ a0 a1 HP.out).mono ?_)
    rintro e w1 ⟨rfl, rfl⟩
    go_wp2_with (fail)
    go_must (refine (parts_is _ b0 b1 HP'.out).mono ?_)
    rintro e w1 ⟨rfl, rfl⟩
    go_wp2
    go_ret
    exact ⟨ret_bool (by simp_all), rfl⟩
end
end Go.Proofs.Ytdndlipenjkfpaa.Dat
