/- The reference of date: the contracts of Leap, Last, year, Parts. -/
import Derived.Test.YtbfehelhedjgjaaDoorDatC
namespace Go.Proofs.YtbfehelhedjgjaaDoor.Dat
open Go.ChangeShapes Go.WideShapes Go.ChangeAt Go.RowKit Go.Proofs.YtbfehelhedjgjaaDoor.Cell
set_option linter.unusedVariables false
set_option linter.unusedSimpArgs false

set_option maxHeartbeats 1000000 in
theorem rleap_any (y : Int) (w : World) (h0 : 0 ≤ y) (h1 : y ≤ 1000000) :
    Calls Tryd.prog 15 #[.int .i64 y] w fun e w' => e = .returned (.bool (lp y)) ∧ w = w' := by
  have h := lp_iff y
  by_cases h100 : y % 100 = 0
  · have e1 : (y % 100 == 0) = true := by simpa using h100
    by_cases h400 : y % 400 = 0
    · have HL := Lib.hid (show lp y = true from h.2 (.inr h400))
      have e3 : (y % 400 == 0) = true := by simpa using h400
      clear h h100 h400
      go_enter Tryd.func15, Tryd.ntmps15
      go_wp2
      go_ret
      exact ⟨ret_bool HL.out.symm, rfl⟩
    · have HL := Lib.hid (show lp y = false from Bool.eq_false_iff.2 fun hl => by have := h.1 hl; omega)
      have e3 : (y % 400 == 0) = false := by simpa using h400
      clear h h100 h400
      go_enter Tryd.func15, Tryd.ntmps15
      go_wp2
      go_ret
      exact ⟨ret_bool HL.out.symm, rfl⟩
  · have e1 : (y % 100 == 0) = false := by simpa using h100
    by_cases h4 : y % 4 = 0
    · have HL := Lib.hid (show lp y = true from h.2 (.inl ⟨h4, h100⟩))
      have e3 : (y % 4 == 0) = true := by simpa using h4
      clear h h100 h4
      go_enter Tryd.func15, Tryd.ntmps15
      go_wp2
      go_ret
      exact ⟨ret_bool HL.out.symm, rfl⟩
    · have HL := Lib.hid (show lp y = false from Bool.eq_false_iff.2 fun hl => by have := h.1 hl; omega)
      have e3 : (y % 4 == 0) = false := by simpa using h4
      clear h h100 h4
      go_enter Tryd.func15, Tryd.ntmps15
      go_wp2
      go_ret
      exact ⟨ret_bool HL.out.symm, rfl⟩
theorem rleap_is {y : Int} {b : Bool} (w : World) (h0 : 0 ≤ y) (h1 : y ≤ 1000000) (h : lp y = b) : Calls Tryd.prog 15 #[.int .i64 y] w fun e w' => e = .returned (.bool b) ∧ w = w' := by
  have hh := rleap_any y w h0 h1
  rw [h] at hh
  exact hh
set_option maxHeartbeats 1000000 in
theorem ryear_any (y : Int) (w : World) (h0 : 0 ≤ y) (h1 : y ≤ 1000000) :
    Calls Tryd.prog 26 #[.int .i64 y] w fun e w' => e = .returned (.int .i64 (ylen y)) ∧ w = w' := by
  cases hl : lp y
  all_goals
    have HF := Lib.hid (show ylen y = _ from by unfold ylen; rw [hl])
    have HL := Lib.hid hl
    clear hl
    go_enter Tryd.func26, Tryd.ntmps26
    go_wp2_with (fail)
    go_must (refine (rleap_is _ h0 h1 HL.out).mono ?_)
    rintro e w1 ⟨rfl, rfl⟩
    go_wp2
    go_ret
    exact ⟨ret_int (by rw [HF.out]; rfl), rfl⟩
theorem ryear_is {y x : Int} (w : World) (h0 : 0 ≤ y) (h1 : y ≤ 1000000) (h : ylen y = x) : Calls Tryd.prog 26 #[.int .i64 y] w fun e w' => e = .returned (.int .i64 x) ∧ w = w' := by
  have hh := ryear_any y w h0 h1
  rw [h] at hh
  exact hh

set_option maxRecDepth 100000 in
set_option maxHeartbeats 4000000 in
theorem rlast_any (y m : Int) (w : World) (h0 : 0 ≤ y) (h1 : y ≤ 1000000) :
    Calls Tryd.prog 17 #[.int .i64 y, .int .i64 m] w fun e w' => e = .returned (.int .i64 (lst y m)) ∧ Below w.heap.size w w' := by
  by_cases hm : m < 1 ∨ 12 < m
  · have HF := Lib.hid (lst_out (y := y) hm)
    rcases (show m < 1 ∨ (1 ≤ m ∧ 12 < m) from by omega) with a | ⟨a, b⟩
    all_goals
      clear hm
      go_enter Tryd.func17, Tryd.ntmps17
      go_wp2
      go_ret
      exact ⟨ret_int HF.out.symm, Below.refl _ _⟩
  · by_cases e2 : m = 2
    · subst e2
      clear hm
      cases hl : lp y
      all_goals
        have HF := Lib.hid (show lst y 2 = _ from by unfold lst; rw [if_neg (by omega), if_pos rfl, hl])
        have HL := Lib.hid hl
        clear hl
        go_enter Tryd.func17, Tryd.ntmps17
        go_wp2_with (fail)
        go_must (refine (rleap_is _ h0 h1 HL.out).mono ?_)
        rintro e w1 ⟨rfl, rfl⟩
        go_wp2
        go_ret
        exact ⟨ret_int (by rw [HF.out]; rfl), by go_grown⟩
    · have key : ∀ x : Int, lst y m = x → (m = 1 ∧ x = 31 ∨ m = 3 ∧ x = 31 ∨ m = 5 ∧ x = 31 ∨ m = 7 ∧ x = 31 ∨ m = 8 ∧ x = 31 ∨ m = 10 ∧ x = 31 ∨ m = 12 ∧ x = 31 ∨ m = 4 ∧ x = 30 ∨ m = 6 ∧ x = 30 ∨ m = 9 ∧ x = 30 ∨ m = 11 ∧ x = 30) := by
        intro x hx
        subst hx
        unfold lst
        rw [if_neg hm, if_neg e2]
        split <;> omega
      obtain ⟨x, hx⟩ : ∃ x, lst y m = x := ⟨_, rfl⟩
      have HF := Lib.hid hx
      have k2 := key x hx
      clear key hx e2 hm
      rcases k2 with ⟨rfl, rfl⟩ | ⟨rfl, rfl⟩ | ⟨rfl, rfl⟩ | ⟨rfl, rfl⟩ | ⟨rfl, rfl⟩ | ⟨rfl, rfl⟩ | ⟨rfl, rfl⟩ | ⟨rfl, rfl⟩ | ⟨rfl, rfl⟩ | ⟨rfl, rfl⟩ | ⟨rfl, rfl⟩
      all_goals
        go_enter Tryd.func17, Tryd.ntmps17
        go_wp2
        go_ret
        exact ⟨ret_int HF.out.symm, by go_grown⟩
theorem rlast_is {y m x : Int} (w : World) (h0 : 0 ≤ y) (h1 : y ≤ 1000000) (h : lst y m = x) :
    Calls Tryd.prog 17 #[.int .i64 y, .int .i64 m] w fun e w' => e = .returned (.int .i64 x) ∧ Below w.heap.size w w' := by
  have hh := rlast_any y m w h0 h1
  rw [h] at hh
  exact hh

set_option maxHeartbeats 1000000 in
theorem rparts_no (day : Int) (w : World) (h : ¬ (0 ≤ day ∧ day ≤ 200000)) :
    Calls Tryd.prog 11 #[.int .i64 day] w fun e w' => e = .returned (.tuple #[.int .i64 0, .int .i64 0, .int .i64 0, .int .i64 3]) ∧ Below w.heap.size w w' := by
  rcases (show day < 0 ∨ (0 ≤ day ∧ 200000 < day) from by omega) with a | ⟨a, b⟩
  all_goals
    clear h
    go_enter Tryd.func11, Tryd.ntmps11
    go_wp2
    exact bodyPost_ret (v := .tuple #[.int .i64 0, .int .i64 0, .int .i64 0, .int .i64 3]) (by simp [results, Tryd.results11, go_sem]) rfl ⟨rfl, Below.refl _ _⟩
/-- what the reference's Parts returns -/
def RPartsPost (day : Int) (e : Ending) (w w' : World) : Prop := ∃ (y : Int) (m : Nat) (d : Int), Pt day y m d ∧ e = .returned (.tuple #[.int .i64 y, .int .i64 m, .int .i64 d, .int .i64 0]) ∧ Below w.heap.size w w'
set_option maxRecDepth 100000 in
set_option maxHeartbeats 4000000 in
theorem rparts_yes (day : Int) (w : World) (h0 : 0 ≤ day) (h1 : day ≤ 200000) :
    Calls Tryd.prog 11 #[.int .i64 day] w (fun e w' => RPartsPost day e w w') := by
  go_enter Tryd.func11, Tryd.ntmps11
  go_wp2_with (fail)
  go_loop [0, 6] (fun dv t => ∃ y r : Int, 1900 ≤ y ∧ y ≤ 2447 ∧ 0 ≤ r ∧ r ≤ 200000 ∧ day = ny y + r ∧ t = .int .i64 y ∧ dv = .int .i64 r) (fun _ t => (3000 - intOf t).toNat)
  case atStart => exact ⟨1900, day, by omega, by omega, h0, h1, by rw [ny_1900]; omega, rfl, rfl⟩
  case round =>
    obtain ⟨y, r, y0, y1, r0, r1, hr, rfl, rfl⟩ := hrel
    obtain ⟨l, hl⟩ : ∃ l, ylen y = l := ⟨_, rfl⟩
    have l01 := ylen_in y
    rw [hl] at l01
    have l0 : 365 ≤ l := by omega
    have l1 : l ≤ 366 := by omega
    have HL := Lib.hid hl
    have hs := ny_succ y (by omega)
    rw [hl] at hs
    by_cases hc : l ≤ r
    · have hy2 : y + 1 ≤ 2447 := by
        by_cases e : y = 2447
        · subst e
          have := ny_hi
          rw [show (2447 : Int) + 1 = 2448 from rfl] at hs
          omega
        · omega
      have HR := Lib.hid (show day = ny (y + 1) + (r - l) by omega)
      clear hl l01 hs hr
      go_wp2_with (fail)
      go_must (refine (ryear_is _ (by omega) (by omega) HL.out).mono ?_)
      rintro e w1 ⟨rfl, rfl⟩
      go_wp2_with (fail)
      go_must (refine (ryear_is _ (by omega) (by omega) HL.out).mono ?_)
      rintro e w1 ⟨rfl, rfl⟩
      go_wp2
      go_round
      case rel => exact ⟨y + 1, r - l, by omega, by omega, by omega, by omega, HR.out, rfl, rfl⟩
      case measure => simp [intOf]; omega
    · have hc' : r < l := by omega
      have HR := Lib.hid hr
      clear hl l01 hs hr hc
      go_wp2_with (fail)
      go_must (refine (ryear_is _ (by omega) (by omega) HL.out).mono ?_)
      rintro e w1 ⟨rfl, rfl⟩
      go_wp2_with (fail)
      go_loopw [0, 7] (fun dv mv wr => ∃ (k : Nat) (d : Int), k ≤ 11 ∧ 0 ≤ d ∧ d ≤ 366 ∧ mv = .int .i64 ((k : Int) + 1) ∧ dv = .int .i64 d ∧ r = cum y k + d ∧ Below w.heap.size w wr) (fun _ mv _ => (20 - intOf mv).toNat)
      case atStart => exact ⟨0, r, by omega, by omega, by omega, rfl, rfl, by simp [cum], Below.refl _ _⟩
      case round =>
        obtain ⟨k, d, hk, d0, d1, rfl, rfl, hd, hB⟩ := hrel
        obtain ⟨q, hq⟩ : ∃ l, lst y ((k : Int) + 1) = l := ⟨_, rfl⟩
        have q01 := lst_in y ((k : Int) + 1) (by omega) (by omega)
        rw [hq] at q01
        obtain ⟨q0, q1⟩ := q01
        have HQ := Lib.hid hq
        by_cases hdl : q ≤ d
        · have hd2 : r = cum y (k + 1) + (d - q) := by rw [cum_succ, hq]; omega
          have hk2 : k + 1 ≤ 11 := by
            by_cases e : k = 11
            · subst e
              have h12 := cum_12 y
              rw [show (11 + 1 : Nat) = 12 from rfl] at hd2
              rw [h12, HL.out] at hd2
              omega
            · omega
          have HD := Lib.hid hd2
          clear hq hd hd2
          go_wp2_with (fail)
          go_must (refine (rlast_is _ (by omega) (by omega) HQ.out).mono ?_)
          rintro e v1 ⟨rfl, hb1⟩
          have hB1 := Gen.over hb1 hB
          go_wp2_with (fail)
          go_must (refine (rlast_is _ (by omega) (by omega) HQ.out).mono ?_)
          rintro e v2 ⟨rfl, hb2⟩
          have hB2 := Gen.over hb2 hB1
          go_wp2
          go_roundw
          case rel => exact ⟨k + 1, d - q, by omega, by omega, by omega, by go_num, rfl, HD.out, hB2⟩
          case measure => simp [intOf]; omega
        · have HP : Hid (Pt day y (k + 1) (d + 1)) := Lib.hid ⟨by omega, by omega, by omega, by omega, by rw [show ((k + 1 : Nat) : Int) = (k : Int) + 1 from by omega, hq]; omega, by rw [HR.out]; show ny y + r = ny y + cum y k + (d + 1) - 1; omega⟩
          have hdl' : d < q := by omega
          clear hq hd hdl
          go_wp2_with (fail)
          go_must (refine (rlast_is _ (by omega) (by omega) HQ.out).mono ?_)
          rintro e v1 ⟨rfl, hb1⟩
          have hB1 := Gen.over hb1 hB
          go_wp2
          exact bodyPost_ret (v := .tuple #[.int .i64 y, .int .i64 ((k : Int) + 1), .int .i64 (d + 1), .int .i64 0]) (by simp [results, Tryd.results11, go_sem]) rfl ⟨y, k + 1, d + 1, HP.out, by rw [show ((k + 1 : Nat) : Int) = (k : Int) + 1 from by omega], hB1⟩
theorem rparts_is {day y : Int} {m : Nat} {d : Int} (w : World) (h0 : 0 ≤ day) (h1 : day ≤ 200000) (hp : Pt day y m d) :
    Calls Tryd.prog 11 #[.int .i64 day] w fun e w' => e = .returned (.tuple #[.int .i64 y, .int .i64 m, .int .i64 d, .int .i64 0]) ∧ Below w.heap.size w w' :=
  (rparts_yes day w h0 h1).mono fun e w' ⟨y', m', d', hp', he, hw⟩ => by
    obtain ⟨rfl, rfl, rfl⟩ := hp.uniq hp'
    exact ⟨he, hw⟩
end Go.Proofs.YtbfehelhedjgjaaDoor.Dat
