/- Package date: the contracts of Leap, Last, leaps, newYear, right, Parts, Of, AddMonths. -/
import Derived.Test.YtbfehelhedjgjaaDoorDm
namespace Go.Proofs.YtbfehelhedjgjaaDoor.Dat
open Go.ChangeShapes Go.WideShapes Go.ChangeAt Go.RowKit Go.Proofs.YtbfehelhedjgjaaDoor.Cell
set_option linter.unusedVariables false
set_option linter.unusedSimpArgs false

theorem lp_cases (y : Int) : (lp y = true ∧ (((y % 4 == 0) = true ∧ (y % 100 != 0) = true) ∨ ((y % 4 == 0) = true ∧ (y % 100 != 0) = false ∧ (y % 400 == 0) = true))) ∨
    (lp y = false ∧ (((y % 4 == 0) = false ∧ (y % 400 == 0) = false) ∨ ((y % 4 == 0) = true ∧ (y % 100 != 0) = false ∧ (y % 400 == 0) = false))) := by
  have h := lp_iff y
  have i4 : (y % 4 == 0) = decide (y % 4 = 0) := rfl
  have i1 : (y % 100 != 0) = !decide (y % 100 = 0) := rfl
  have i2 : (y % 400 == 0) = decide (y % 400 = 0) := rfl
  rw [i4, i1, i2]
  by_cases a : y % 4 = 0 <;> by_cases b : y % 100 = 0 <;> by_cases c : y % 400 = 0 <;> simp [a, b, c] at h ⊢ <;> first | exact h | omega
theorem ret_int2 {a b a' b' : Int} (h : a = b) (h' : a' = b') : Ending.returned (.tuple #[.int .i64 a, .int .i64 a']) = .returned (.tuple #[.int .i64 b, .int .i64 b']) := by rw [h, h']
set_option maxHeartbeats 1000000 in
theorem leap_any (y : Int) (w : World) (h0 : 0 ≤ y) (h1 : y ≤ 1000000) :
    Calls Tryd.prog 14 #[.int .i64 y] w fun e w' => e = .returned (.bool (lp y)) ∧ w = w' := by
  rcases lp_cases y with ⟨hl, ⟨e1, e2⟩ | ⟨e1, e2, e3⟩⟩ | ⟨hl, ⟨e1, e3⟩ | ⟨e1, e2, e3⟩⟩
  all_goals
    have HL := Lib.hid hl
    clear hl
    go_enter Tryd.func14, Tryd.ntmps14
    go_wp2
    go_ret
    exact ⟨ret_bool HL.out.symm, rfl⟩
theorem leap_is {y : Int} {b : Bool} (w : World) (h0 : 0 ≤ y) (h1 : y ≤ 1000000) (h : lp y = b) : Calls Tryd.prog 14 #[.int .i64 y] w fun e w' => e = .returned (.bool b) ∧ w = w' := by
  have hh := leap_any y w h0 h1
  rw [h] at hh
  exact hh

set_option maxHeartbeats 2000000 in
theorem last_any (y m : Int) (w : World) (h0 : 0 ≤ y) (h1 : y ≤ 1000000) :
    Calls Tryd.prog 16 #[.int .i64 y, .int .i64 m] w fun e w' => e = .returned (.int .i64 (lst y m)) ∧ w = w' := by
  by_cases hm : m < 1 ∨ 12 < m
  · have HF := Lib.hid (lst_out (y := y) hm)
    rcases (show m < 1 ∨ (1 ≤ m ∧ 12 < m) from by omega) with a | ⟨a, b⟩
    all_goals
      clear hm
      go_enter Tryd.func16, Tryd.ntmps16
      go_wp2
      go_ret
      exact ⟨ret_int HF.out.symm, rfl⟩
  · have m1 : 1 ≤ m := by omega
    have m2 : m ≤ 12 := by omega
    clear hm
    by_cases e2 : m = 2
    · subst e2
      cases hl : lp y
      all_goals
        have HF := Lib.hid (show lst y 2 = _ from by unfold lst; rw [if_neg (by omega), if_pos rfl, hl])
        have HL := Lib.hid hl
        clear hl
        go_enter Tryd.func16, Tryd.ntmps16
        go_wp2_with (fail)
        go_must (refine (leap_is _ h0 h1 HL.out).mono ?_)
        rintro e w1 ⟨rfl, rfl⟩
        go_wp2
        go_ret
        exact ⟨ret_int (by rw [HF.out]; rfl), rfl⟩
    · have b2 : (m == 2) = false := by simpa using e2
      by_cases hs : m = 4 ∨ m = 6 ∨ m = 9 ∨ m = 11
      · have HF := Lib.hid (show lst y m = 30 from by unfold lst; rw [if_neg (by omega), if_neg e2, if_pos hs])
        clear b2 e2
        rcases hs with rfl | rfl | rfl | rfl
        all_goals
          go_enter Tryd.func16, Tryd.ntmps16
          go_wp2
          go_ret
          exact ⟨ret_int HF.out.symm, rfl⟩
      · have HF := Lib.hid (show lst y m = 31 from by unfold lst; rw [if_neg (by omega), if_neg e2, if_neg hs])
        have b4 : (m == 4) = false := by rw [beq_eq_false_iff_ne]; omega
        have b6 : (m == 6) = false := by rw [beq_eq_false_iff_ne]; omega
        have b9 : (m == 9) = false := by rw [beq_eq_false_iff_ne]; omega
        have b11 : (m == 11) = false := by rw [beq_eq_false_iff_ne]; omega
        clear e2 hs
        go_enter Tryd.func16, Tryd.ntmps16
        go_wp2
        go_ret
        exact ⟨ret_int HF.out.symm, rfl⟩
theorem last_is {y m x : Int} (w : World) (h0 : 0 ≤ y) (h1 : y ≤ 1000000) (h : lst y m = x) :
    Calls Tryd.prog 16 #[.int .i64 y, .int .i64 m] w fun e w' => e = .returned (.int .i64 x) ∧ w = w' := by
  have hh := last_any y m w h0 h1
  rw [h] at hh
  exact hh

set_option maxHeartbeats 1000000 in
theorem leaps_any (y : Int) (w : World) (h0 : 0 ≤ y) (h1 : y ≤ 1000000) :
    Calls Tryd.prog 32 #[.int .i64 y] w fun e w' => e = .returned (.int .i64 (y / 4 - y / 100 + y / 400)) ∧ w = w' := by
  go_enter Tryd.func32, Tryd.ntmps32
  go_wp2
  go_ret
  exact ⟨rfl, rfl⟩
set_option maxHeartbeats 1000000 in
theorem newYear_any (y : Int) (w : World) (h0 : 1 ≤ y) (h1 : y ≤ 1000000) :
    Calls Tryd.prog 25 #[.int .i64 y] w fun e w' => e = .returned (.int .i64 (ny y)) ∧ w = w' := by
  obtain ⟨a, ha⟩ : ∃ a, (y - 1) / 4 - (y - 1) / 100 + (y - 1) / 400 = a := ⟨_, rfl⟩
  have a0 : 0 ≤ a := by omega
  have a1 : a ≤ 1000000 := by omega
  have HA := Lib.hid ha
  have HF := Lib.hid (show ny y = 365 * (y - 1900) + a - 460 from by unfold ny; rw [ha])
  clear ha
  go_enter Tryd.func25, Tryd.ntmps25
  go_wp2_with (fail)
  go_must (refine (leaps_any _ _ (by omega) (by omega)).mono ?_)
  rintro e w1 ⟨rfl, rfl⟩
  rw [HA.out]
  go_wp2_with (fail)
  go_must (refine (leaps_any _ _ (by omega) (by omega)).mono ?_)
  rintro e w1 ⟨rfl, rfl⟩
  go_wp2
  go_ret
  exact ⟨ret_int (by rw [HF.out]), rfl⟩
theorem newYear_is {y x : Int} (w : World) (h0 : 1 ≤ y) (h1 : y ≤ 1000000) (h : ny y = x) :
    Calls Tryd.prog 25 #[.int .i64 y] w fun e w' => e = .returned (.int .i64 x) ∧ w = w' := by
  have hh := newYear_any y w h0 h1
  rw [h] at hh
  exact hh
def dayB (day : Int) : Bool := decide (0 ≤ day ∧ day ≤ 200000)
theorem dayB_yes {day : Int} (h0 : 0 ≤ day) (h1 : day ≤ 200000) : dayB day = true := decide_eq_true ⟨h0, h1⟩
theorem dayB_no {day : Int} (h : ¬ (0 ≤ day ∧ day ≤ 200000)) : dayB day = false := decide_eq_false h
theorem dayB_in {day : Int} (h : dayB day = true) : 0 ≤ day ∧ day ≤ 200000 := of_decide_eq_true h
theorem dayB_out {day : Int} (h : dayB day = false) : day < 0 ∨ (0 ≤ day ∧ 200000 < day) := by
  have := of_decide_eq_false h
  omega
set_option maxHeartbeats 1000000 in
theorem dright_any (day : Int) (w : World) :
    Calls Tryd.prog 27 #[.int .i64 day] w fun e w' => e = .returned (.bool (dayB day)) ∧ w = w' := by
  cases h : dayB day
  · rcases dayB_out h with a | ⟨a, b⟩
    · clear h
      go_enter Tryd.func27, Tryd.ntmps27
      go_wp2
      go_ret
      exact ⟨rfl, rfl⟩
    · clear h
      go_enter Tryd.func27, Tryd.ntmps27
      go_wp2
      go_ret
      exact ⟨ret_bool (decide_eq_false (by omega)), rfl⟩
  · obtain ⟨a, b⟩ := dayB_in h
    clear h
    go_enter Tryd.func27, Tryd.ntmps27
    go_wp2
    go_ret
    exact ⟨rfl, rfl⟩
theorem dright_is {day : Int} {b : Bool} (w : World) (h : dayB day = b) :
    Calls Tryd.prog 27 #[.int .i64 day] w fun e w' => e = .returned (.bool b) ∧ w = w' := by
  have hh := dright_any day w
  rw [h] at hh
  exact hh

/-- what Parts returns -/
def PartsPost (day : Int) (e : Ending) (w w' : World) : Prop := ∃ (y : Int) (m : Nat) (d : Int), Pt day y m d ∧ e = .returned (.tuple #[.int .i64 y, .int .i64 m, .int .i64 d, .int .i64 0]) ∧ w = w'
set_option maxHeartbeats 1000000 in
theorem parts_no (day : Int) (w : World) (h : ¬ (0 ≤ day ∧ day ≤ 200000)) :
    Calls Tryd.prog 10 #[.int .i64 day] w fun e w' => e = .returned (.tuple #[.int .i64 0, .int .i64 0, .int .i64 0, .int .i64 3]) ∧ w = w' := by
  have HF := Lib.hid (dayB_no h)
  clear h
  go_enter Tryd.func10, Tryd.ntmps10
  go_wp2_with (fail)
  go_must (refine (dright_is _ HF.out).mono ?_)
  rintro e w1 ⟨rfl, rfl⟩
  go_wp2
  exact bodyPost_ret (v := .tuple #[.int .i64 0, .int .i64 0, .int .i64 0, .int .i64 3]) (by simp [results, Tryd.results10, go_sem]) rfl ⟨rfl, rfl⟩
theorem ny_lo (day : Int) (h : 0 ≤ day) : ny (1900 + day / 366) ≤ day := by
  unfold ny
  omega
theorem ny_hi : ny 2448 > 200000 := by decide
set_option maxRecDepth 100000 in
set_option maxHeartbeats 4000000 in
theorem parts_yes (day : Int) (w : World) (h0 : 0 ≤ day) (h1 : day ≤ 200000) :
    Calls Tryd.prog 10 #[.int .i64 day] w (fun e w' => PartsPost day e w w') := by
  have HF := Lib.hid (dayB_yes h0 h1)
  have g0 := ny_lo day h0
  go_enter Tryd.func10, Tryd.ntmps10
  go_wp2_with (fail)
  go_must (refine (dright_is _ HF.out).mono ?_)
  rintro e w1 ⟨rfl, rfl⟩
  go_wp2_with (fail)
  go_loop [2] (fun t => ∃ y : Int, 1900 ≤ y ∧ y ≤ 2447 ∧ ny y ≤ day ∧ t = .int .i64 y) (fun t => (3000 - intOf t).toNat)
  case atStart => exact ⟨_, by omega, by omega, g0, rfl⟩
  case round =>
    obtain ⟨y, y0, y1, hy, rfl⟩ := hrel
    clear g0
    obtain ⟨x, hx⟩ : ∃ x, ny (y + 1) = x := ⟨_, rfl⟩
    have HX := Lib.hid hx
    by_cases hc : x ≤ day
    · have hy2 : y + 1 ≤ 2447 := by
        have := ny_mono (a := y + 1) (b := 2448) (by omega) (by omega)
        by_cases e : y + 1 = 2448
        · rw [e] at hx; have := ny_hi; omega
        · omega
      have HC := Lib.hid (show ny (y + 1) ≤ day by rw [hx]; exact hc)
      clear hx hy
      go_wp2_with (fail)
      go_must (refine (newYear_is _ (by omega) (by omega) HX.out).mono ?_)
      rintro e w1 ⟨rfl, rfl⟩
      go_wp2
      go_round
      case rel => exact ⟨y + 1, by omega, by omega, HC.out, rfl⟩
      case measure => simp [intOf]; omega
    · have hc' : day < x := by omega
      obtain ⟨z, hz⟩ : ∃ z, ny y = z := ⟨_, rfl⟩
      have hxz : x = z + ylen y := by rw [← hx, ← hz, ny_succ y (by omega)]
      have hyl := ylen_in y
      rw [hz] at hy
      have hzx : x ≤ z + 366 := by omega
      have z0 : 0 ≤ z := by
        have := ny_mono (a := 1900) (b := y) (by omega) y0
        rw [ny_1900, hz] at this
        omega
      have HZ := Lib.hid hz
      have HXZ := Lib.hid hxz
      have h365 : day - z < 366 := by omega
      clear hx hz hc hxz hyl
      go_wp2_with (fail)
      go_must (refine (newYear_is _ (by omega) (by omega) HX.out).mono ?_)
      rintro e w1 ⟨rfl, rfl⟩
      go_wp2_with (fail)
      go_must (refine (newYear_is _ (by omega) (by omega) HZ.out).mono ?_)
      rintro e w1 ⟨rfl, rfl⟩
      go_wp2_with (fail)
      go_loop [3, 4] (fun mv dv => ∃ (k : Nat) (d : Int), k ≤ 11 ∧ 1 ≤ d ∧ d ≤ 366 ∧ mv = .int .i64 ((k : Int) + 1) ∧ dv = .int .i64 d ∧ day = z + cum y k + d - 1) (fun mv _ => (20 - intOf mv).toNat)
      case atStart => exact ⟨0, day - z + 1, by omega, by omega, by omega, rfl, rfl, by simp [cum]; omega⟩
      case round =>
        obtain ⟨k, d, hk, d0, d1, rfl, rfl, hd⟩ := hrel
        obtain ⟨l, hl⟩ : ∃ l, lst y ((k : Int) + 1) = l := ⟨_, rfl⟩
        have l01 := lst_in y ((k : Int) + 1) (by omega) (by omega)
        rw [hl] at l01
        obtain ⟨l0, l1⟩ := l01
        have HL := Lib.hid hl
        by_cases hdl : l < d
        · have hd2 : day = z + cum y (k + 1) + (d - l) - 1 := by rw [cum_succ, hl]; omega
          have hk2 : k + 1 ≤ 11 := by
            by_cases e : k = 11
            · subst e
              have h12 := cum_12 y
              rw [show (11 + 1 : Nat) = 12 from rfl] at hd2
              rw [h12] at hd2
              have := HXZ.out
              omega
            · omega
          have HD := Lib.hid hd2
          clear hl hd hd2
          go_wp2_with (fail)
          go_must (refine (last_is _ (by omega) (by omega) HL.out).mono ?_)
          rintro e w1 ⟨rfl, rfl⟩
          go_wp2_with (fail)
          go_must (refine (last_is _ (by omega) (by omega) HL.out).mono ?_)
          rintro e w1 ⟨rfl, rfl⟩
          go_wp2
          go_round
          case rel => exact ⟨k + 1, d - l, by omega, by omega, by omega, by go_num, rfl, HD.out⟩
          case measure => simp [intOf]; omega
        · have HP : Hid (Pt day y (k + 1) d) := Lib.hid ⟨by omega, by omega, by omega, by omega, by rw [show ((k + 1 : Nat) : Int) = (k : Int) + 1 from by omega, hl]; omega, by rw [HZ.out]; exact hd⟩
          have hdl' : d ≤ l := by omega
          clear hl hd hdl
          go_wp2_with (fail)
          go_must (refine (last_is _ (by omega) (by omega) HL.out).mono ?_)
          rintro e w1 ⟨rfl, rfl⟩
          go_wp2
          exact bodyPost_ret (v := .tuple #[.int .i64 y, .int .i64 ((k : Int) + 1), .int .i64 d, .int .i64 0]) (by simp [results, Tryd.results10, go_sem]) rfl ⟨y, k + 1, d, HP.out, by rw [show ((k + 1 : Nat) : Int) = (k : Int) + 1 from by omega], rfl⟩
theorem parts_is {day y : Int} {m : Nat} {d : Int} (w : World) (h0 : 0 ≤ day) (h1 : day ≤ 200000) (hp : Pt day y m d) :
    Calls Tryd.prog 10 #[.int .i64 day] w fun e w' => e = .returned (.tuple #[.int .i64 y, .int .i64 m, .int .i64 d, .int .i64 0]) ∧ w = w' :=
  (parts_yes day w h0 h1).mono fun e w' ⟨y', m', d', hp', he, hw⟩ => by
    obtain ⟨rfl, rfl, rfl⟩ := hp.uniq hp'
    exact ⟨he, hw⟩
end Go.Proofs.YtbfehelhedjgjaaDoor.Dat
