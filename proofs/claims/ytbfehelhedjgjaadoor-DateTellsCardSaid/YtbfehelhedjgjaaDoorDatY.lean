/- Package date and its reference: Leap, Last, Of, at whatever year; Weekday. -/
import Derived.Test.YtbfehelhedjgjaaDoorDatX
import Derived.Test.YtbfehelhedjgjaaDoorCalQ
import Derived.Test.YtbfehelhedjgjaaDoorDatR
namespace Go.Proofs.YtbfehelhedjgjaaDoor.Dat
open Go.ChangeShapes Go.WideShapes Go.ChangeAt Go.RowKit Go.Proofs.YtbfehelhedjgjaaDoor.Cell
set_option linter.unusedVariables false
set_option linter.unusedSimpArgs false

theorem tm_of (y k : Int) : (y.tmod k == 0) = (y % k == 0) := by
  have h : (y.tmod k = 0) = (y % k = 0) := propext ⟨fun h => Int.emod_eq_zero_of_dvd (Int.dvd_of_tmod_eq_zero h), fun h => Int.tmod_eq_zero_of_dvd (Int.dvd_of_emod_eq_zero h)⟩
  have e1 : (y.tmod k == 0) = decide (y.tmod k = 0) := rfl
  have e2 : (y % k == 0) = decide (y % k = 0) := rfl
  rw [e1, e2]
  exact decide_eq_decide.2 (by rw [h])
theorem tm_ne (y k : Int) : (y.tmod k != 0) = (y % k != 0) := by
  have := tm_of y k
  simp only [bne, this]
set_option maxHeartbeats 1000000 in
theorem leap_no (y : Int) (w : World) (h0 : y < 0) :
    Calls Tryd.prog 14 #[.int .i64 y] w fun e w' => e = .returned (.bool (lp y)) ∧ w = w' := by
  rcases lp_cases y with ⟨hl, ⟨e1, e2⟩ | ⟨e1, e2, e3⟩⟩ | ⟨hl, ⟨e1, e3⟩ | ⟨e1, e2, e3⟩⟩
  all_goals
    have HL := Lib.hid hl
    clear hl
    try rw [← tm_of] at e1
    try rw [← tm_ne] at e2
    try rw [← tm_of] at e3
    go_enter Tryd.func14, Tryd.ntmps14
    go_wp2
    go_ret
    exact ⟨ret_bool HL.out.symm, rfl⟩
set_option maxHeartbeats 1000000 in
theorem leap_yes (y : Int) (w : World) (h0 : 0 ≤ y) :
    Calls Tryd.prog 14 #[.int .i64 y] w fun e w' => e = .returned (.bool (lp y)) ∧ w = w' := by
  rcases lp_cases y with ⟨hl, ⟨e1, e2⟩ | ⟨e1, e2, e3⟩⟩ | ⟨hl, ⟨e1, e3⟩ | ⟨e1, e2, e3⟩⟩
  all_goals
    have HL := Lib.hid hl
    clear hl
    go_enter Tryd.func14, Tryd.ntmps14
    go_wp2
    go_ret
    exact ⟨ret_bool HL.out.symm, rfl⟩
theorem leap_g {y : Int} {b : Bool} (w : World) (h : lp y = b) : Calls Tryd.prog 14 #[.int .i64 y] w fun e w' => e = .returned (.bool b) ∧ w = w' := by
  rw [← h]
  by_cases h0 : y < 0
  · exact leap_no y w h0
  · exact leap_yes y w (by omega)
set_option maxHeartbeats 1000000 in
theorem rleap_no (y : Int) (w : World) (h0 : y < 0) :
    Calls Tryd.prog 15 #[.int .i64 y] w fun e w' => e = .returned (.bool (lp y)) ∧ w = w' := by
  have h := lp_iff y
  by_cases h100 : y % 100 = 0
  · have e1 : (y.tmod 100 == 0) = true := by rw [tm_of]; simpa using h100
    by_cases h400 : y % 400 = 0
    · have HL := Lib.hid (show lp y = true from h.2 (.inr h400))
      have e3 : (y.tmod 400 == 0) = true := by rw [tm_of]; simpa using h400
      clear h h100 h400
      go_enter Tryd.func15, Tryd.ntmps15
      go_wp2
      go_ret
      exact ⟨ret_bool HL.out.symm, rfl⟩
    · have HL := Lib.hid (show lp y = false from Bool.eq_false_iff.2 fun hl => by have := h.1 hl; omega)
      have e3 : (y.tmod 400 == 0) = false := by rw [tm_of]; simpa using h400
      clear h h100 h400
      go_enter Tryd.func15, Tryd.ntmps15
      go_wp2
      go_ret
      exact ⟨ret_bool HL.out.symm, rfl⟩
  · have e1 : (y.tmod 100 == 0) = false := by rw [tm_of]; simpa using h100
    by_cases h4 : y % 4 = 0
    · have HL := Lib.hid (show lp y = true from h.2 (.inl ⟨h4, h100⟩))
      have e3 : (y.tmod 4 == 0) = true := by rw [tm_of]; simpa using h4
      clear h h100 h4
      go_enter Tryd.func15, Tryd.ntmps15
      go_wp2
      go_ret
      exact ⟨ret_bool HL.out.symm, rfl⟩
    · have HL := Lib.hid (show lp y = false from Bool.eq_false_iff.2 fun hl => by have := h.1 hl; omega)
      have e3 : (y.tmod 4 == 0) = false := by rw [tm_of]; simpa using h4
      clear h h100 h4
      go_enter Tryd.func15, Tryd.ntmps15
      go_wp2
      go_ret
      exact ⟨ret_bool HL.out.symm, rfl⟩
set_option maxHeartbeats 1000000 in
theorem rleap_yes (y : Int) (w : World) (h0 : 0 ≤ y) :
    Calls Tryd.prog 15 #[.int .i64 y] w fun e w' => e = .returned (.bool (lp y)) ∧ w = w' := by
  have h := lp_iff y
  by_cases h100 : y % 100 = 0
  · have e1 : (y % 100 == 0) = true := by simpa using h100
    by_cases h400 : y % 400 = 0
    · have HL := Lib.hid (show lp y = true from h.2 (.inr h400))
      have e3 : (y % 400 == 0) = true := by simpa using h400
      clear h h100 h400
      go_enter Tryd.func15, Tryd.ntmps15
      go_wp2
      go_ret
      exact ⟨ret_bool HL.out.symm, rfl⟩
    · have HL := Lib.hid (show lp y = false from Bool.eq_false_iff.2 fun hl => by have := h.1 hl; omega)
      have e3 : (y % 400 == 0) = false := by simpa using h400
      clear h h100 h400
      go_enter Tryd.func15, Tryd.ntmps15
      go_wp2
      go_ret
      exact ⟨ret_bool HL.out.symm, rfl⟩
  · have e1 : (y % 100 == 0) = false := by simpa using h100
    by_cases h4 : y % 4 = 0
    · have HL := Lib.hid (show lp y = true from h.2 (.inl ⟨h4, h100⟩))
      have e3 : (y % 4 == 0) = true := by simpa using h4
      clear h h100 h4
      go_enter Tryd.func15, Tryd.ntmps15
      go_wp2
      go_ret
      exact ⟨ret_bool HL.out.symm, rfl⟩
    · have HL := Lib.hid (show lp y = false from Bool.eq_false_iff.2 fun hl => by have := h.1 hl; omega)
      have e3 : (y % 4 == 0) = false := by simpa using h4
      clear h h100 h4
      go_enter Tryd.func15, Tryd.ntmps15
      go_wp2
      go_ret
      exact ⟨ret_bool HL.out.symm, rfl⟩
theorem rleap_g {y : Int} {b : Bool} (w : World) (h : lp y = b) : Calls Tryd.prog 15 #[.int .i64 y] w fun e w' => e = .returned (.bool b) ∧ w = w' := by
  rw [← h]
  by_cases h0 : y < 0
  · exact rleap_no y w h0
  · exact rleap_yes y w (by omega)
set_option maxHeartbeats 2000000 in
theorem lastg_any (y m : Int) (w : World) :
    Calls Tryd.prog 16 #[.int .i64 y, .int .i64 m] w fun e w' => e = .returned (.int .i64 (lst y m)) ∧ w = w' := by
  by_cases hm : m < 1 ∨ 12 < m
  · have HF := Lib.hid (lst_out (y := y) hm)
    rcases (show m < 1 ∨ (1 ≤ m ∧ 12 < m) from by omega) with a | ⟨a, b⟩
    all_goals
      clear hm
      go_enter Tryd.func16, Tryd.ntmps16
      go_wp2
      go_ret
      exact ⟨ret_int HF.out.symm, rfl⟩
  · have m1 : 1 ≤ m := by omega
    have m2 : m ≤ 12 := by omega
    clear hm
    by_cases e2 : m = 2
    · subst e2
      cases hl : lp y
      all_goals
        have HF := Lib.hid (show lst y 2 = _ from by unfold lst; rw [if_neg (by omega), if_pos rfl, hl])
        have HL := Lib.hid hl
        clear hl
        go_enter Tryd.func16, Tryd.ntmps16
        go_wp2_with (fail)
        go_must (refine (leap_g _ HL.out).mono ?_)
        rintro e w1 ⟨rfl, rfl⟩
        go_wp2
        go_ret
        exact ⟨ret_int (by rw [HF.out]; rfl), rfl⟩
    · have b2 : (m == 2) = false := by simpa using e2
      by_cases hs : m = 4 ∨ m = 6 ∨ m = 9 ∨ m = 11
      · have HF := Lib.hid (show lst y m = 30 from by unfold lst; rw [if_neg (by omega), if_neg e2, if_pos hs])
        clear b2 e2
        rcases hs with rfl | rfl | rfl | rfl
        all_goals
          go_enter Tryd.func16, Tryd.ntmps16
          go_wp2
          go_ret
          exact ⟨ret_int HF.out.symm, rfl⟩
      · have HF := Lib.hid (show lst y m = 31 from by unfold lst; rw [if_neg (by omega), if_neg e2, if_neg hs])
        have b4 : (m == 4) = false := by rw [beq_eq_false_iff_ne]; omega
        have b6 : (m == 6) = false := by rw [beq_eq_false_iff_ne]; omega
        have b9 : (m == 9) = false := by rw [beq_eq_false_iff_ne]; omega
        have b11 : (m == 11) = false := by rw [beq_eq_false_iff_ne]; omega
        clear e2 hs
        go_enter Tryd.func16, Tryd.ntmps16
        go_wp2
        go_ret
        exact ⟨ret_int HF.out.symm, rfl⟩
theorem last_g {y m x : Int} (w : World) (h : lst y m = x) :
    Calls Tryd.prog 16 #[.int .i64 y, .int .i64 m] w fun e w' => e = .returned (.int .i64 x) ∧ w = w' := by
  have hh := lastg_any y m w
  rw [h] at hh
  exact hh

set_option maxRecDepth 100000 in
set_option maxHeartbeats 4000000 in
theorem rlastg_any (y m : Int) (w : World) :
    Calls Tryd.prog 17 #[.int .i64 y, .int .i64 m] w fun e w' => e = .returned (.int .i64 (lst y m)) ∧ Below w.heap.size w w' := by
  by_cases hm : m < 1 ∨ 12 < m
  · have HF := Lib.hid (lst_out (y := y) hm)
    rcases (show m < 1 ∨ (1 ≤ m ∧ 12 < m) from by omega) with a | ⟨a, b⟩
    all_goals
      clear hm
      go_enter Tryd.func17, Tryd.ntmps17
      go_wp2
      go_ret
      exact ⟨ret_int HF.out.symm, Below.refl _ _⟩
  · by_cases e2 : m = 2
    · subst e2
      clear hm
      cases hl : lp y
      all_goals
        have HF := Lib.hid (show lst y 2 = _ from by unfold lst; rw [if_neg (by omega), if_pos rfl, hl])
        have HL := Lib.hid hl
        clear hl
        go_enter Tryd.func17, Tryd.ntmps17
        go_wp2_with (fail)
        go_must (refine (rleap_g _ HL.out).mono ?_)
        rintro e w1 ⟨rfl, rfl⟩
        go_wp2
        go_ret
        exact ⟨ret_int (by rw [HF.out]; rfl), by go_grown⟩
    · have key : ∀ x : Int, lst y m = x → (m = 1 ∧ x = 31 ∨ m = 3 ∧ x = 31 ∨ m = 5 ∧ x = 31 ∨ m = 7 ∧ x = 31 ∨ m = 8 ∧ x = 31 ∨ m = 10 ∧ x = 31 ∨ m = 12 ∧ x = 31 ∨ m = 4 ∧ x = 30 ∨ m = 6 ∧ x = 30 ∨ m = 9 ∧ x = 30 ∨ m = 11 ∧ x = 30) := by
        intro x hx
        subst hx
        unfold lst
        rw [if_neg hm, if_neg e2]
        split <;> omega
      obtain ⟨x, hx⟩ : ∃ x, lst y m = x := ⟨_, rfl⟩
      have HF := Lib.hid hx
      have k2 := key x hx
      clear key hx e2 hm
      rcases k2 with ⟨rfl, rfl⟩ | ⟨rfl, rfl⟩ | ⟨rfl, rfl⟩ | ⟨rfl, rfl⟩ | ⟨rfl, rfl⟩ | ⟨rfl, rfl⟩ | ⟨rfl, rfl⟩ | ⟨rfl, rfl⟩ | ⟨rfl, rfl⟩ | ⟨rfl, rfl⟩ | ⟨rfl, rfl⟩
      all_goals
        go_enter Tryd.func17, Tryd.ntmps17
        go_wp2
        go_ret
        exact ⟨ret_int HF.out.symm, by go_grown⟩
theorem rlast_g {y m x : Int} (w : World) (h : lst y m = x) :
    Calls Tryd.prog 17 #[.int .i64 y, .int .i64 m] w fun e w' => e = .returned (.int .i64 x) ∧ Below w.heap.size w w' := by
  have hh := rlastg_any y m w
  rw [h] at hh
  exact hh

/-- the day of a date, or why there is none, at whatever year -/
def ofA (y m d : Int) : Int × Int := if m < 1 ∨ 12 < m ∨ d < 1 ∨ lst y m < d then (0, 23) else if y < 1900 ∨ 2500 < y then (0, 3) else ofR y m d
theorem ofA_O {y m d : Int} (h0 : 0 ≤ y) : ofA y m d = ofO y m d := by
  unfold ofA ofO
  split
  · rfl
  · split
    · next h => unfold ofR; rw [if_neg (by omega)]
    · rfl
theorem of_g {y m d x e : Int} (w : World) (h : ofA y m d = (x, e)) :
    Calls Tryd.prog 8 #[.int .i64 y, .int .i64 m, .int .i64 d] w fun e' w' => e' = .returned (.tuple #[.int .i64 x, .int .i64 e]) ∧ w = w' := by
  by_cases hb : m < 1 ∨ 12 < m ∨ d < 1 ∨ lst y m < d
  · unfold ofA at h
    rw [if_pos hb] at h
    obtain rfl : 0 = x := by injection h
    obtain rfl : 23 = e := by injection h
    clear h
    by_cases hd : d < 1
    · clear hb
      go_enter Tryd.func8, Tryd.ntmps8
      go_wp2
      exact bodyPost_ret (v := .tuple #[.int .i64 0, .int .i64 23]) (by simp [results, Tryd.results8, go_sem]) rfl ⟨rfl, rfl⟩
    · obtain ⟨L, hL⟩ : ∃ L, lst y m = L := ⟨_, rfl⟩
      have hl : L < d := by
        rcases hb with c | c | c | c
        · rw [lst_out (.inl c)] at hL; omega
        · rw [lst_out (.inr c)] at hL; omega
        · omega
        · omega
      have hd' : 1 ≤ d := by omega
      have HL := Lib.hid hL
      clear hb hL hd
      go_enter Tryd.func8, Tryd.ntmps8
      go_wp2_with (fail)
      go_must (refine (last_g _ HL.out).mono ?_)
      rintro e w1 ⟨rfl, rfl⟩
      go_wp2
      exact bodyPost_ret (v := .tuple #[.int .i64 0, .int .i64 23]) (by simp [results, Tryd.results8, go_sem]) rfl ⟨rfl, rfl⟩
  · unfold ofA at h
    rw [if_neg hb] at h
    by_cases hy : y < 1900 ∨ 2500 < y
    · rw [if_pos hy] at h
      obtain rfl : 0 = x := by injection h
      obtain rfl : 3 = e := by injection h
      obtain ⟨L, hL⟩ : ∃ L, lst y m = L := ⟨_, rfl⟩
      have hd' : 1 ≤ d := by omega
      have hl : d ≤ L := by omega
      have HL := Lib.hid hL
      rcases (show y < 1900 ∨ (1900 ≤ y ∧ 2500 < y) by omega) with a | ⟨a, b⟩
      all_goals
        clear hb hL h hy
        go_enter Tryd.func8, Tryd.ntmps8
        go_wp2_with (fail)
        go_must (refine (last_g _ HL.out).mono ?_)
        rintro e w1 ⟨rfl, rfl⟩
        go_wp2
        exact bodyPost_ret (v := .tuple #[.int .i64 0, .int .i64 3]) (by simp [results, Tryd.results8, go_sem]) rfl ⟨rfl, rfl⟩
    · rw [if_neg hy] at h
      exact of_is w (by omega) (by omega) (by omega) (by omega) (by omega) (by omega) h
set_option maxRecDepth 100000 in
set_option maxHeartbeats 4000000 in
theorem rofg_is {y m d x e : Int} (w : World) (m0 : 1 ≤ m) (m1 : m ≤ 12) (d0 : 1 ≤ d) (d1 : d ≤ lst y m) (h : ofR y m d = (x, e)) :
    Calls Tryd.prog 9 #[.int .i64 y, .int .i64 m, .int .i64 d] w fun e' w' => e' = .returned (.tuple #[.int .i64 x, .int .i64 e]) ∧ Below w.heap.size w w' := by
  obtain ⟨L, hL⟩ : ∃ L, lst y m = L := ⟨_, rfl⟩
  have hl := lst_in y m m0 m1
  rw [hL] at d1 hl
  obtain ⟨l0, l1⟩ := hl
  have HL := Lib.hid hL
  have H := Lib.hid h
  clear hL h
  go_enter Tryd.func9, Tryd.ntmps9
  go_wp2_with (fail)
  go_must (refine (rlast_g _ HL.out).mono ?_)
  rintro e w1 ⟨rfl, hB1⟩
  go_wp2_with (fail)
  go_loopw [8, 9] (fun tv iv wr => ∃ (k : Nat) (t : Int), (k : Int) + 1 ≤ m ∧ iv = .int .i64 ((k : Int) + 1) ∧ tv = .int .i64 t ∧ Hid (t = d - 1 + cum y k) ∧ 0 ≤ t ∧ t ≤ 31 + 31 * k ∧ Below w.heap.size w wr) (fun _ iv _ => (20 - intOf iv).toNat)
  case atStart => exact ⟨0, d - 1, by omega, rfl, rfl, Lib.hid (by simp [cum]), by omega, by omega, hB1⟩
  case round =>
    obtain ⟨k, t, hk, rfl, rfl, HT, t0, t1, hB⟩ := hrel
    by_cases hlt : (k : Int) + 1 < m
    · obtain ⟨q, hq⟩ : ∃ q, lst y ((k : Int) + 1) = q := ⟨_, rfl⟩
      have q01 := lst_in y ((k : Int) + 1) (by omega) (by omega)
      rw [hq] at q01
      obtain ⟨q0, q1⟩ := q01
      have HQ := Lib.hid hq
      have HS := Lib.hid (show t + q = d - 1 + cum y (k + 1) from by rw [HT.out, cum_succ, hq]; omega)
      clear hq
      go_wp2_with (fail)
      go_must (refine (rlast_g _ HQ.out).mono ?_)
      rintro e w2 ⟨rfl, hb⟩
      have hB2 := Gen.over hb hB
      go_wp2
      go_roundw
      case rel => exact ⟨k + 1, t + q, by omega, by go_num, rfl, HS, by omega, by omega, hB2⟩
      case measure => simp [intOf]; omega
    · have hkm : (m - 1).toNat = k := by omega
      have hh := H.out
      unfold ofR at hh
      rw [hkm, show ny y + cum y k + d - 1 = t + ny y by rw [HT.out]; omega] at hh
      have HH := Lib.hid hh
      have s1 : t ≤ 403 := by omega
      clear hkm hh HT t1
      go_wp2_with (fail)
      go_loop [8, 10] (fun uv jv => ∃ j u : Int, 1900 ≤ j ∧ (j = 1900 ∨ j ≤ y) ∧ j ≤ 2448 ∧ jv = .int .i64 j ∧ uv = .int .i64 u ∧ Hid (u = t + ny j) ∧ 0 ≤ u ∧ u ≤ 201000) (fun _ jv => (20000 - intOf jv).toNat)
      case atStart => exact ⟨1900, t, by omega, .inl rfl, by omega, rfl, rfl, Lib.hid (by rw [ny_1900]; omega), by omega, by omega⟩
      case round =>
        obtain ⟨j, u, j0, j1, j2, rfl, rfl, HU, u0, u1⟩ := hrel
        by_cases hjy : j < y ∧ u ≤ 200000
        · obtain ⟨c1, c2⟩ := hjy
          have j3 : j + 1 ≤ 2448 := by
            by_cases c : j + 1 ≤ 2448
            · exact c
            · have hm := ny_mono (a := 2448) (b := j) (by omega) (by omega)
              have ht := ny_top
              have hu := HU.out
              omega
          obtain ⟨q, hq⟩ : ∃ q, ylen j = q := ⟨_, rfl⟩
          have q01 := ylen_in j
          rw [hq] at q01
          have q0 : 365 ≤ q := by omega
          have q1 : q ≤ 366 := by omega
          have HQ := Lib.hid hq
          have HS := Lib.hid (show u + q = t + ny (j + 1) from by rw [HU.out, ny_succ j (by omega), hq]; omega)
          clear hq q01 j1
          go_wp2_with (fail)
          go_must (refine (ryear_is _ (by omega) (by omega) HQ.out).mono ?_)
          rintro e w2 ⟨rfl, rfl⟩
          go_wp2
          go_round
          case rel => exact ⟨j + 1, u + q, by omega, .inr (by omega), j3, rfl, rfl, HS, by omega, by omega⟩
          case measure => simp [intOf]; omega
        · have hh := HH.out
          by_cases hy : y < 1900
          · rw [if_neg (by omega)] at hh
            obtain rfl : 0 = x := by injection hh
            obtain rfl : 3 = e := by injection hh
            obtain rfl : j = 1900 := by omega
            clear hjy hh j1
            go_wp2
            all_goals exact bodyPost_ret (v := .tuple #[.int .i64 0, .int .i64 3]) (by simp [results, Tryd.results9, go_sem]) rfl ⟨rfl, hB⟩
          · have hy' : 1900 ≤ y := by omega
            have hjy2 : j ≤ y := by omega
            by_cases hu : u ≤ 200000
            · obtain rfl : y = j := by omega
              have hn : ny y ≤ 200000 := by have := HU.out; omega
              have hy5 : y ≤ 2500 := by
                by_cases c : y ≤ 2500
                · exact c
                · have := ny_mono (a := 2448) (b := y) (by omega) (by omega)
                  have := ny_top
                  omega
              rw [← HU.out, if_pos ⟨hy', hy5, hu⟩] at hh
              obtain rfl : u = x := by injection hh
              obtain rfl : 0 = e := by injection hh
              clear hjy hh j1 hn hjy2
              go_wp2
              exact bodyPost_ret (v := .tuple #[.int .i64 u, .int .i64 0]) (by simp [results, Tryd.results9, go_sem]) rfl ⟨rfl, hB⟩
            · have hm := ny_mono (a := j) (b := y) (by omega) hjy2
              have hu2 := HU.out
              rw [if_neg (by omega)] at hh
              obtain rfl : 0 = x := by injection hh
              obtain rfl : 3 = e := by injection hh
              have hu' : 200000 < u := by omega
              clear hjy hh j1 hm hu2 hu
              rcases (show j < y ∨ (j ≤ y ∧ y ≤ j) by omega) with c | ⟨c, c'⟩
              all_goals
                go_wp2
                exact bodyPost_ret (v := .tuple #[.int .i64 0, .int .i64 3]) (by simp [results, Tryd.results9, go_sem]) rfl ⟨rfl, hB⟩

/-- the reference's Of, at whatever year, month and day -/
theorem rof_g {y m d x e : Int} (w : World) (h : ofA y m d = (x, e)) :
    Calls Tryd.prog 9 #[.int .i64 y, .int .i64 m, .int .i64 d] w fun e' w' => e' = .returned (.tuple #[.int .i64 x, .int .i64 e]) ∧ Below w.heap.size w w' := by
  by_cases hb : m < 1 ∨ 12 < m ∨ d < 1 ∨ lst y m < d
  · unfold ofA at h
    rw [if_pos hb] at h
    obtain rfl : 0 = x := by injection h
    obtain rfl : 23 = e := by injection h
    clear h
    obtain ⟨L, hL⟩ : ∃ L, lst y m = L := ⟨_, rfl⟩
    rw [hL] at hb
    have HL := Lib.hid hL
    rcases (show m < 1 ∨ (1 ≤ m ∧ 12 < m) ∨ (1 ≤ m ∧ m ≤ 12 ∧ d < 1) ∨ (1 ≤ m ∧ m ≤ 12 ∧ 1 ≤ d ∧ L < d) by omega) with a | ⟨a, b⟩ | ⟨a, b, c⟩ | ⟨a, b, c, f⟩
    case inr.inr.inr =>
      clear hb hL
      go_enter Tryd.func9, Tryd.ntmps9
      go_wp2_with (fail)
      go_must (refine (rlast_g _ HL.out).mono ?_)
      rintro e w1 ⟨rfl, hb1⟩
      go_wp2
      exact bodyPost_ret (v := .tuple #[.int .i64 0, .int .i64 23]) (by simp [results, Tryd.results9, go_sem]) rfl ⟨rfl, hb1⟩
    all_goals
      clear hb hL
      go_enter Tryd.func9, Tryd.ntmps9
      go_wp2
      exact bodyPost_ret (v := .tuple #[.int .i64 0, .int .i64 23]) (by simp [results, Tryd.results9, go_sem]) rfl ⟨rfl, Below.refl _ _⟩
  · unfold ofA at h
    rw [if_neg hb] at h
    refine rofg_is w (by omega) (by omega) (by omega) (by omega) ?_
    split at h
    · next hy => unfold ofR; rw [if_neg (by omega)]; exact h
    · exact h
set_option maxHeartbeats 1000000 in
theorem rwd_is {day x : Int} (w : World) (h : wdO day = x) : Calls Tryd.prog 19 #[.int .i64 day] w fun e w' => e = .returned (.int .i64 x) ∧ w = w' := by
  have HF := Lib.hid h
  rcases (show day < 0 ∨ (0 ≤ day ∧ 200000 < day) ∨ (0 ≤ day ∧ day ≤ 200000) by omega) with a | ⟨a, b⟩ | ⟨a, b⟩
  · have HE := Lib.hid (show x = -1 from by rw [← HF.out]; exact if_neg (by omega))
    clear h
    go_enter Tryd.func19, Tryd.ntmps19
    go_wp2
    go_ret
    exact ⟨ret_int HE.out.symm, rfl⟩
  · have HE := Lib.hid (show x = -1 from by rw [← HF.out]; exact if_neg (by omega))
    clear h
    go_enter Tryd.func19, Tryd.ntmps19
    go_wp2
    go_ret
    exact ⟨ret_int HE.out.symm, rfl⟩
  · have HE := Lib.hid (show x = day % 7 from by rw [← HF.out]; exact if_pos ⟨a, b⟩)
    clear h
    go_enter Tryd.func19, Tryd.ntmps19
    go_wp2
    go_ret
    exact ⟨ret_int HE.out.symm, rfl⟩
end Go.Proofs.YtbfehelhedjgjaaDoor.Dat
