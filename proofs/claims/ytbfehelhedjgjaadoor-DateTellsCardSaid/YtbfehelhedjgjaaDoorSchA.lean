/- Package date: the contracts of Of and AddMonths. -/
import Derived.Test.YtbfehelhedjgjaaDoorSchP
import Derived.Test.YtbfehelhedjgjaaDoorDatC
namespace Go.Proofs.YtbfehelhedjgjaaDoor.Dat
open Go.ChangeShapes Go.WideShapes Go.ChangeAt Go.RowKit Go.Proofs.YtbfehelhedjgjaaDoor.Cell
set_option linter.unusedVariables false
set_option linter.unusedSimpArgs false

/-- the day of a date that exists -/
def ofR (y m d : Int) : Int × Int := if 1900 ≤ y ∧ y ≤ 2500 ∧ ny y + cum y (m - 1).toNat + d - 1 ≤ 200000 then (ny y + cum y (m - 1).toNat + d - 1, 0) else (0, 3)
set_option maxRecDepth 100000 in
set_option maxHeartbeats 2000000 in
theorem of_is {y m d x e : Int} (w : World) (y0 : 0 ≤ y) (y1 : y ≤ 10000) (m0 : 1 ≤ m) (m1 : m ≤ 12) (d0 : 1 ≤ d) (d1 : d ≤ lst y m) (h : ofR y m d = (x, e)) :
    Calls Tryd.prog 8 #[.int .i64 y, .int .i64 m, .int .i64 d] w fun e' w' => e' = .returned (.tuple #[.int .i64 x, .int .i64 e]) ∧ w = w' := by
  obtain ⟨L, hL⟩ : ∃ L, lst y m = L := ⟨_, rfl⟩
  have hl := lst_in y m m0 m1
  rw [hL] at d1 hl
  obtain ⟨l0, l1⟩ := hl
  have HL := Lib.hid hL
  clear hL
  by_cases hy : y < 1900 ∨ 2500 < y
  · unfold ofR at h
    rw [if_neg (by omega)] at h
    obtain rfl : 0 = x := by injection h
    obtain rfl : 3 = e := by injection h
    clear h
    rcases (show y < 1900 ∨ (1900 ≤ y ∧ 2500 < y) by omega) with a | ⟨a, b⟩
    all_goals
      clear hy
      go_enter Tryd.func8, Tryd.ntmps8
      go_wp2_with (fail)
      go_must (refine (last_is _ y0 (by omega) HL.out).mono ?_)
      rintro e w1 ⟨rfl, rfl⟩
      go_wp2
      exact bodyPost_ret (v := .tuple #[.int .i64 0, .int .i64 3]) (by simp [results, Tryd.results8, go_sem]) rfl ⟨rfl, rfl⟩
  · have a : 1900 ≤ y := by omega
    have b : y ≤ 2500 := by omega
    obtain ⟨z, hz⟩ : ∃ z, ny y = z := ⟨_, rfl⟩
    have z0 : 0 ≤ z := by
      have := ny_mono (a := 1900) (b := y) (by omega) a
      rw [ny_1900] at this; omega
    have z1 : z ≤ 1000000 := by rw [← hz]; unfold ny; omega
    have HZ := Lib.hid hz
    have H := Lib.hid h
    clear hy hz h
    go_enter Tryd.func8, Tryd.ntmps8
    go_wp2_with (fail)
    go_must (refine (last_is _ y0 (by omega) HL.out).mono ?_)
    rintro e w1 ⟨rfl, rfl⟩
    go_wp2_with (fail)
    go_must (refine (newYear_is _ (by omega) (by omega) HZ.out).mono ?_)
    rintro e w1 ⟨rfl, rfl⟩
    go_wp2_with (fail)
    go_loop [8, 9] (fun tv iv => ∃ (k : Nat) (t : Int), (k : Int) + 1 ≤ m ∧ iv = .int .i64 ((k : Int) + 1) ∧ tv = .int .i64 t ∧ Hid (t = z + cum y k + d - 1) ∧ 0 ≤ t ∧ t ≤ 1000100 + 31 * k) (fun _ iv => (20 - intOf iv).toNat)
    case atStart => exact ⟨0, z + d - 1, by omega, rfl, rfl, Lib.hid (by simp [cum]), by omega, by omega⟩
    case round =>
      obtain ⟨k, t, hk, rfl, rfl, HT, t0, t1⟩ := hrel
      by_cases hlt : (k : Int) + 1 < m
      · obtain ⟨q, hq⟩ : ∃ q, lst y ((k : Int) + 1) = q := ⟨_, rfl⟩
        have q01 := lst_in y ((k : Int) + 1) (by omega) (by omega)
        rw [hq] at q01
        obtain ⟨q0, q1⟩ := q01
        have HQ := Lib.hid hq
        have HS := Lib.hid (show t + q = z + cum y (k + 1) + d - 1 from by rw [HT.out, cum_succ, hq]; omega)
        clear hq
        go_wp2_with (fail)
        go_must (refine (last_is _ y0 (by omega) HQ.out).mono ?_)
        rintro e w1 ⟨rfl, rfl⟩
        go_wp2
        go_round
        case rel => exact ⟨k + 1, t + q, by omega, by go_num, rfl, HS, by omega, by omega⟩
        case measure => simp [intOf]; omega
      · have hkm : (m - 1).toNat = k := by omega
        have hh := H.out
        unfold ofR at hh
        rw [hkm, HZ.out, ← HT.out] at hh
        clear hkm
        by_cases ht : t ≤ 200000
        · rw [if_pos ⟨a, b, ht⟩] at hh
          obtain rfl : t = x := by injection hh
          obtain rfl : 0 = e := by injection hh
          clear hh
          go_wp2
          exact bodyPost_ret (v := .tuple #[.int .i64 t, .int .i64 0]) (by simp [results, Tryd.results8, go_sem]) rfl ⟨rfl, rfl⟩
        · rw [if_neg (by omega)] at hh
          obtain rfl : 0 = x := by injection hh
          obtain rfl : 3 = e := by injection hh
          clear hh
          go_wp2
          exact bodyPost_ret (v := .tuple #[.int .i64 0, .int .i64 3]) (by simp [results, Tryd.results8, go_sem]) rfl ⟨rfl, rfl⟩

theorem ofR_ms {M d y m n : Int} (hM : 12 * y + m - 1 + n = M) (h0 : 0 ≤ M) : ofR (M / 12) (M % 12 + 1) (min d (ll M)) = if 1900 ≤ M / 12 ∧ M / 12 ≤ 2500 ∧ ms M + min d (ll M) - 1 ≤ 200000 then (ms M + min d (ll M) - 1, 0) else (0, 3) := by
  unfold ofR ms
  rw [show M % 12 + 1 - 1 = M % 12 by omega]
set_option maxRecDepth 100000 in
set_option maxHeartbeats 2000000 in
theorem am_is {day n x e : Int} (w : World) (h : amO day n = (x, e)) :
    Calls Tryd.prog 22 #[.int .i64 day, .int .i64 n] w fun e' w' => e' = .returned (.tuple #[.int .i64 x, .int .i64 e]) ∧ w = w' := by
  by_cases hd : 0 ≤ day ∧ day ≤ 200000
  · obtain ⟨h0, h1⟩ := hd
    obtain ⟨y, m, d, hp⟩ := pt_ex day h0 h1
    have HP := Lib.hid hp
    by_cases hn : n < -10000 ∨ 10000 < n
    · rw [amO_far hn] at h
      obtain rfl : 0 = x := by injection h
      obtain rfl : 3 = e := by injection h
      rcases (show n < -10000 ∨ (-10000 ≤ n ∧ 10000 < n) by omega) with a | ⟨a, b⟩
      all_goals
        clear hn h hp
        go_enter Tryd.func22, Tryd.ntmps22
        go_wp2_with (fail)
        go_must (refine (parts_is _ h0 h1 HP.out).mono ?_)
        rintro e w1 ⟨rfl, rfl⟩
        go_wp2
        exact bodyPost_ret (v := .tuple #[.int .i64 0, .int .i64 3]) (by simp [results, Tryd.results22, go_sem]) rfl ⟨rfl, rfl⟩
    · have n0 : -10000 ≤ n := by omega
      have n1 : n ≤ 10000 := by omega
      rw [amO_of hp h0 h1 n0 n1] at h
      have y0 := hp.y0
      have hy1 := hp.in_
      have y1 : y ≤ 2448 := by
        by_cases c : y ≤ 2448
        · exact c
        · have := ny_mono (a := 2448) (b := y) (by omega) (by omega)
          have := ny_top
          omega
      have m0 := hp.m0
      have m1 := hp.m1
      have d0 := hp.d0
      have d31 := lst_in y m (by omega) (by omega)
      have d1 : d ≤ 31 := by have := hp.d1; omega
      obtain ⟨M, hM⟩ : ∃ M, y * 12 + (m : Int) - 1 + n = M := ⟨_, rfl⟩
      have M0 : 0 ≤ y * 12 + (m : Int) - 1 + n := by omega
      have M1 : y * 12 + (m : Int) - 1 + n ≤ 1000000 := by omega
      have M0' : 0 ≤ M := by omega
      have M1' : M ≤ 50000 := by omega
      obtain ⟨L, hL⟩ : ∃ L, ll M = L := ⟨_, rfl⟩
      have L01 := ll_in M
      rw [hL] at L01
      obtain ⟨l0, l1⟩ := L01
      unfold addR at h
      rw [show 12 * y + (m : Int) - 1 + n = M by omega, ← ofR_ms (y := y) (m := m) (n := n) (by omega) M0', hL] at h
      have HM := Lib.hid hM
      have HL := Lib.hid (show lst (M / 12) (M % 12 + 1) = L from hL)
      clear hM hL hp hy1 d31 hn
      by_cases hdl : d ≤ L
      · rw [Int.min_eq_left hdl] at h
        have H := Lib.hid h
        clear h
        go_enter Tryd.func22, Tryd.ntmps22
        go_wp2_with (fail)
        go_must (refine (parts_is _ h0 h1 HP.out).mono ?_)
        rintro e w1 ⟨rfl, rfl⟩
        go_wp2_with (fail)
        rw [HM.out]
        clear M0 M1
        go_must (refine (last_is _ (by omega) (by omega) HL.out).mono ?_)
        rintro e w1 ⟨rfl, rfl⟩
        go_wp2_with (fail)
        go_must (refine (of_is _ (by omega) (by omega) (by omega) (by omega) d0 (by rw [HL.out]; exact hdl) H.out).mono ?_)
        rintro e w1 ⟨rfl, rfl⟩
        go_wp2
        exact bodyPost_ret (v := .tuple #[.int .i64 x, .int .i64 e]) (by simp [results, Tryd.results22, go_sem]) rfl ⟨rfl, rfl⟩
      · have hdl' : L < d := by omega
        rw [Int.min_eq_right (by omega)] at h
        have H := Lib.hid h
        clear h hdl
        go_enter Tryd.func22, Tryd.ntmps22
        go_wp2_with (fail)
        go_must (refine (parts_is _ h0 h1 HP.out).mono ?_)
        rintro e w1 ⟨rfl, rfl⟩
        go_wp2_with (fail)
        rw [HM.out]
        clear M0 M1
        go_must (refine (last_is _ (by omega) (by omega) HL.out).mono ?_)
        rintro e w1 ⟨rfl, rfl⟩
        go_wp2_with (fail)
        go_must (refine (of_is _ (by omega) (by omega) (by omega) (by omega) (by omega) (by rw [HL.out]; exact Int.le_refl _) H.out).mono ?_)
        rintro e w1 ⟨rfl, rfl⟩
        go_wp2
        exact bodyPost_ret (v := .tuple #[.int .i64 x, .int .i64 e]) (by simp [results, Tryd.results22, go_sem]) rfl ⟨rfl, rfl⟩
  · rw [amO_off (show dy day = false from decide_eq_false hd)] at h
    obtain rfl : 0 = x := by injection h
    obtain rfl : 3 = e := by injection h
    clear h
    go_enter Tryd.func22, Tryd.ntmps22
    go_wp2_with (fail)
    go_must (refine (parts_no _ _ hd).mono ?_)
    rintro e w1 ⟨rfl, rfl⟩
    go_wp2
    exact bodyPost_ret (v := .tuple #[.int .i64 0, .int .i64 3]) (by simp [results, Tryd.results22, go_sem]) rfl ⟨rfl, rfl⟩
end Go.Proofs.YtbfehelhedjgjaaDoor.Dat
