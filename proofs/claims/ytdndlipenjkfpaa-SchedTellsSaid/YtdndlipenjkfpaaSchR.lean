/- The reference of date and sched: the contracts of Of, AddMonths, Right, At, Due. -/
import Derived.Test.YtdndlipenjkfpaaSchX
import Derived.Test.YtdndlipenjkfpaaDatR
namespace Go.Proofs.Ytdndlipenjkfpaa.Dat
open Go.ChangeShapes Go.WideShapes Go.ChangeAt Go.RowKit Go.Proofs.Ytdndlipenjkfpaa.Cell
set_option linter.unusedVariables false
set_option linter.unusedSimpArgs false

set_option maxRecDepth 100000 in
set_option maxHeartbeats 4000000 in
theorem rof_is {y m d x e : Int} (w : World) (y0 : 0 ≤ y) (y1 : y ≤ 10000) (m0 : 1 ≤ m) (m1 : m ≤ 12) (d0 : 1 ≤ d) (d1 : d ≤ lst y m) (h : ofR y m d = (x, e)) :
    Calls Try.prog 73 #[.int .i64 y, .int .i64 m, .int .i64 d] w fun e' w' => e' = .returned (.tuple #[.int .i64 x, .int .i64 e]) ∧ Below w.heap.size w w' := by
  obtain ⟨L, hL⟩ : ∃ L, lst y m = L := ⟨_, rfl⟩
  have hl := lst_in y m m0 m1
  rw [hL] at d1 hl
  obtain ⟨l0, l1⟩ := hl
  have HL := Lib.hid hL
  have H := Lib.hid h
  clear hL h
  go_enter Try.func73, Try.ntmps73
  go_wp2_with (fail)
  go_must (refine (rlast_is _ y0 (by omega) HL.out).mono ?_)
  rintro e w1 ⟨rfl, hB1⟩
  go_wp2_with (fail)
  go_loopw [8, 9] (fun tv iv wr => ∃ (k : Nat) (t : Int), (k : Int) + 1 ≤ m ∧ iv = .int .i64 ((k : Int) + 1) ∧ tv = .int .i64 t ∧ Hid (t = d - 1 + cum y k) ∧ 0 ≤ t ∧ t ≤ 31 + 31 * k ∧ Below w.heap.size w wr) (fun _ iv _ => (20 - intOf iv).toNat)
  case atStart => exact ⟨0, d - 1, by omega, rfl, rfl, Lib.hid (by simp [cum]), by omega, by omega, hB1⟩
  case round =>
    obtain ⟨k, t, hk, rfl, rfl, HT, t0, t1, hB⟩ := hrel
    by_cases hlt : (k : Int) + 1 < m
    · obtain ⟨q, hq⟩ : ∃ q, lst y ((k : Int) + 1) = q := ⟨_, rfl⟩
      have q01 := lst_in y ((k : Int) + 1) (by omega) (by omega)
      rw [hq] at q01
      obtain ⟨q0, q1⟩ := q01
      have HQ := Lib.hid hq
      have HS := Lib.hid (show t + q = d - 1 + cum y (k + 1) from by rw [HT.out, cum_succ, hq]; omega)
      clear hq
      go_wp2_with (fail)
      go_must (refine (rlast_is _ y0 (by omega) HQ.out).mono ?_)
      rintro e w2 ⟨rfl, hb⟩
      have hB2 := Gen.over hb hB
      go_wp2
      go_roundw
      case rel => exact ⟨k + 1, t + q, by omega, by go_num, rfl, HS, by omega, by omega, hB2⟩
      case measure => simp [intOf]; omega
    · have hkm : (m - 1).toNat = k := by omega
      have hh := H.out
      unfold ofR at hh
      rw [hkm, show ny y + cum y k + d - 1 = t + ny y by rw [HT.out]; omega] at hh
      have HH := Lib.hid hh
      have s1 : t ≤ 403 := by omega
      clear hkm hh HT t1
      go_wp2_with (fail)
      go_loop [8, 10] (fun uv jv => ∃ j u : Int, 1900 ≤ j ∧ (j = 1900 ∨ j ≤ y) ∧ jv = .int .i64 j ∧ uv = .int .i64 u ∧ Hid (u = t + ny j) ∧ 0 ≤ u ∧ u ≤ 201000) (fun _ jv => (20000 - intOf jv).toNat)
      case atStart => exact ⟨1900, t, by omega, .inl rfl, rfl, rfl, Lib.hid (by rw [ny_1900]; omega), by omega, by omega⟩
      case round =>
        obtain ⟨j, u, j0, j1, rfl, rfl, HU, u0, u1⟩ := hrel
        by_cases hjy : j < y ∧ u ≤ 200000
        · obtain ⟨c1, c2⟩ := hjy
          obtain ⟨q, hq⟩ : ∃ q, ylen j = q := ⟨_, rfl⟩
          have q01 := ylen_in j
          rw [hq] at q01
          have q0 : 365 ≤ q := by omega
          have q1 : q ≤ 366 := by omega
          have HQ := Lib.hid hq
          have HS := Lib.hid (show u + q = t + ny (j + 1) from by rw [HU.out, ny_succ j (by omega), hq]; omega)
          clear hq q01 j1
          go_wp2_with (fail)
          go_must (refine (ryear_is _ (by omega) (by omega) HQ.out).mono ?_)
          rintro e w2 ⟨rfl, rfl⟩
          go_wp2
          go_round
          case rel => exact ⟨j + 1, u + q, by omega, .inr (by omega), rfl, rfl, HS, by omega, by omega⟩
          case measure => simp [intOf]; omega
        · have hh := HH.out
          by_cases hy : y < 1900
          · rw [if_neg (by omega)] at hh
            obtain rfl : 0 = x := by injection hh
            obtain rfl : 3 = e := by injection hh
            obtain rfl : j = 1900 := by omega
            clear hjy hh j1
            go_wp2
            all_goals exact bodyPost_ret (v := .tuple #[.int .i64 0, .int .i64 3]) (by simp [results, Try.results73, go_sem]) rfl ⟨rfl, hB⟩
          · have hy' : 1900 ≤ y := by omega
            have hjy2 : j ≤ y := by omega
            by_cases hu : u ≤ 200000
            · obtain rfl : y = j := by omega
              have hn : ny y ≤ 200000 := by have := HU.out; omega
              have hy5 : y ≤ 2500 := by
                by_cases c : y ≤ 2500
                · exact c
                · have := ny_mono (a := 2448) (b := y) (by omega) (by omega)
                  have := ny_top
                  omega
              rw [← HU.out, if_pos ⟨hy', hy5, hu⟩] at hh
              obtain rfl : u = x := by injection hh
              obtain rfl : 0 = e := by injection hh
              clear hjy hh j1 hn hjy2
              go_wp2
              exact bodyPost_ret (v := .tuple #[.int .i64 u, .int .i64 0]) (by simp [results, Try.results73, go_sem]) rfl ⟨rfl, hB⟩
            · have hm := ny_mono (a := j) (b := y) (by omega) hjy2
              have hu2 := HU.out
              rw [if_neg (by omega)] at hh
              obtain rfl : 0 = x := by injection hh
              obtain rfl : 3 = e := by injection hh
              have hu' : 200000 < u := by omega
              clear hjy hh j1 hm hu2 hu
              rcases (show j < y ∨ (j ≤ y ∧ y ≤ j) by omega) with c | ⟨c, c'⟩
              all_goals
                go_wp2
                exact bodyPost_ret (v := .tuple #[.int .i64 0, .int .i64 3]) (by simp [results, Try.results73, go_sem]) rfl ⟨rfl, hB⟩

set_option maxRecDepth 100000 in
set_option maxHeartbeats 4000000 in
theorem ram_is {day n x e : Int} (w : World) (h0 : 0 ≤ day) (h1 : day ≤ 200000) (h : amO day n = (x, e)) :
    Calls Try.prog 68 #[.int .i64 day, .int .i64 n] w fun e' w' => e' = .returned (.tuple #[.int .i64 x, .int .i64 e]) ∧ Below w.heap.size w w' := by
  obtain ⟨y, m, d, hp⟩ := pt_ex day h0 h1
  have HP := Lib.hid hp
  by_cases hn : n < -10000 ∨ 10000 < n
  · rw [amO_far hn] at h
    obtain rfl : 0 = x := by injection h
    obtain rfl : 3 = e := by injection h
    rcases (show n < -10000 ∨ (-10000 ≤ n ∧ 10000 < n) by omega) with a | ⟨a, b⟩
    all_goals
      clear hn h hp
      go_enter Try.func68, Try.ntmps68
      go_wp2_with (fail)
      go_must (refine (rparts_is _ h0 h1 HP.out).mono ?_)
      rintro e w1 ⟨rfl, hB⟩
      go_wp2
      exact bodyPost_ret (v := .tuple #[.int .i64 0, .int .i64 3]) (by simp [results, Try.results68, go_sem]) rfl ⟨rfl, hB⟩
  · have n0 : -10000 ≤ n := by omega
    have n1 : n ≤ 10000 := by omega
    rw [amO_of hp h0 h1 n0 n1] at h
    have y0 := hp.y0
    have hy1 := hp.in_
    have y1 : y ≤ 2448 := by
      by_cases c : y ≤ 2448
      · exact c
      · have := ny_mono (a := 2448) (b := y) (by omega) (by omega)
        have := ny_top
        omega
    have m0 : (1 : Int) ≤ (m : Int) := by have := hp.m0; omega
    have m1 : (m : Int) ≤ 12 := by have := hp.m1; omega
    have d0 := hp.d0
    have d31 := lst_in y m (by omega) (by omega)
    have d1 : d ≤ 31 := by have := hp.d1; omega
    obtain ⟨M, hM⟩ : ∃ M, 12 * y + (m : Int) - 1 + n = M := ⟨_, rfl⟩
    have M0' : 0 ≤ M := by omega
    have M1' : M ≤ 50000 := by omega
    obtain ⟨L, hL⟩ : ∃ L, ll M = L := ⟨_, rfl⟩
    have L01 := ll_in M
    rw [hL] at L01
    obtain ⟨l0, l1⟩ := L01
    unfold addR at h
    rw [hM, ← ofR_ms (y := y) (m := m) (n := n) (by omega) M0', hL] at h
    have HM := Lib.hid hM
    have HL := Lib.hid (show lst (M / 12) (M % 12 + 1) = L from hL)
    have H := Lib.hid h
    clear hM hL hp hy1 d31 hn h
    rcases (show 0 ≤ n ∨ n < 0 by omega) with hs | hs
    · go_enter Try.func68, Try.ntmps68
      go_wp2_with (fail)
      go_must (refine (rparts_is _ h0 h1 HP.out).mono ?_)
      rintro e1 w1 ⟨rfl, hB⟩
      go_wp2_with (fail)
      go_loop [1, 6, 7] (fun nv yv mv => ∃ n' y' m' : Int, nv = .int .i64 n' ∧ yv = .int .i64 y' ∧ mv = .int .i64 m' ∧ Hid (12 * y' + m' + n' = M + 1) ∧ 0 ≤ n' ∧ n' ≤ 10000 ∧ 1 ≤ m' ∧ m' ≤ 12 ∧ 0 ≤ y' ∧ y' ≤ 10000) (fun nv _ _ => (intOf nv).toNat)
      case atStart => exact ⟨n, y, m, rfl, rfl, rfl, Lib.hid (by have := HM.out; omega), hs, n1, m0, m1, by omega, by omega⟩
      case round =>
        obtain ⟨n', y', m', rfl, rfl, rfl, HE, e0, e1, e2, e3, e4, e5⟩ := hrel
        by_cases hlt : 0 < n'
        · by_cases h12 : m' = 12
          · have HE2 := Lib.hid (show 12 * (y' + 1) + 1 + (n' - 1) = M + 1 from by have := HE.out; omega)
            have y5 : y' + 1 ≤ 10000 := by have := HE.out; omega
            subst h12
            go_wp2
            go_round
            case rel => exact ⟨n' - 1, y' + 1, 1, by first | rfl | go_num, rfl, rfl, HE2, by omega, by omega, by omega, by omega, by omega, y5⟩
            case measure => simp [intOf]; omega
          · have HE2 := Lib.hid (show 12 * y' + (m' + 1) + (n' - 1) = M + 1 from by have := HE.out; omega)
            have b13 : (m' + 1 == 13) = false := by rw [beq_eq_false_iff_ne]; omega
            have b12 : (m' == 12) = false := by rw [beq_eq_false_iff_ne]; omega
            go_wp2
            go_round
            case rel => exact ⟨n' - 1, y', m' + 1, by first | rfl | go_num, rfl, rfl, HE2, by omega, by omega, by omega, by omega, e4, e5⟩
            case measure => simp [intOf]; omega
        · obtain rfl : n' = 0 := by omega
          obtain rfl : y' = M / 12 := by have := HE.out; omega
          obtain rfl : m' = M % 12 + 1 := by have := HE.out; omega
          clear HE hlt e0 e1
          go_wp2_with (fail)
          go_loop [1, 6, 7] (fun nv yv mv => nv = .int .i64 0 ∧ yv = .int .i64 (M / 12) ∧ mv = .int .i64 (M % 12 + 1)) (fun _ _ _ => 0)
          case atStart => exact ⟨rfl, rfl, rfl⟩
          case round =>
            obtain ⟨rfl, rfl, rfl⟩ := hrel
            go_wp2_with (fail)
            go_must (refine (rlast_is _ (by omega) (by omega) HL.out).mono ?_)
            rintro e2 w2 ⟨rfl, hb⟩
            have hB2 := Gen.over hb hB
            clear hb hB
            by_cases hdl : d ≤ L
            · have H2 := Lib.hid (show ofR (M / 12) (M % 12 + 1) d = (x, e) from by have := H.out; rw [Int.min_eq_left hdl] at this; exact this)
              go_wp2_with (fail)
              go_must (refine (rof_is _ (by omega) (by omega) (by omega) (by omega) d0 (by rw [HL.out]; exact hdl) H2.out).mono ?_)
              rintro e3 w3 ⟨rfl, hb⟩
              have hB3 := Gen.over hb hB2
              go_wp2
              exact bodyPost_ret (v := .tuple #[.int .i64 x, .int .i64 e]) (by simp [results, Try.results68, go_sem]) rfl ⟨rfl, hB3⟩
            · have hdl' : L < d := by omega
              have H2 := Lib.hid (show ofR (M / 12) (M % 12 + 1) L = (x, e) from by have := H.out; rw [Int.min_eq_right (by omega)] at this; exact this)
              clear hdl
              go_wp2_with (fail)
              go_must (refine (rof_is _ (by omega) (by omega) (by omega) (by omega) (by omega) (by rw [HL.out]; exact Int.le_refl _) H2.out).mono ?_)
              rintro e3 w3 ⟨rfl, hb⟩
              have hB3 := Gen.over hb hB2
              go_wp2
              exact bodyPost_ret (v := .tuple #[.int .i64 x, .int .i64 e]) (by simp [results, Try.results68, go_sem]) rfl ⟨rfl, hB3⟩
    · go_enter Try.func68, Try.ntmps68
      go_wp2_with (fail)
      go_must (refine (rparts_is _ h0 h1 HP.out).mono ?_)
      rintro e1 w1 ⟨rfl, hB⟩
      go_wp2_with (fail)
      go_loop [1, 6, 7] (fun nv yv mv => nv = .int .i64 n ∧ yv = .int .i64 y ∧ mv = .int .i64 m) (fun _ _ _ => 0)
      case atStart => exact ⟨rfl, rfl, rfl⟩
      case round =>
        obtain ⟨rfl, rfl, rfl⟩ := hrel
        go_wp2_with (fail)
        go_loop [1, 6, 7] (fun nv yv mv => ∃ n' y' m' : Int, nv = .int .i64 n' ∧ yv = .int .i64 y' ∧ mv = .int .i64 m' ∧ Hid (12 * y' + m' + n' = M + 1) ∧ -10000 ≤ n' ∧ n' ≤ 0 ∧ 1 ≤ m' ∧ m' ≤ 12 ∧ 0 ≤ y' ∧ y' ≤ 10000) (fun nv _ _ => (-(intOf nv)).toNat)
        case atStart => exact ⟨n, y, m, rfl, rfl, rfl, Lib.hid (by have := HM.out; omega), n0, by omega, m0, m1, by omega, by omega⟩
        case round =>
          obtain ⟨n', y', m', rfl, rfl, rfl, HE, e0, e1, e2, e3, e4, e5⟩ := hrel
          by_cases hlt : n' < 0
          · by_cases h12 : m' = 1
            · have HE2 := Lib.hid (show 12 * (y' - 1) + 12 + (n' + 1) = M + 1 from by have := HE.out; omega)
              have y5 : 0 ≤ y' - 1 := by have := HE.out; omega
              subst h12
              go_wp2
              go_round
              case rel => exact ⟨n' + 1, y' - 1, 12, by first | rfl | go_num, by first | rfl | go_num, rfl, HE2, by omega, by omega, by omega, by omega, y5, by omega⟩
              case measure => simp [intOf]; omega
            · have HE2 := Lib.hid (show 12 * y' + (m' - 1) + (n' + 1) = M + 1 from by have := HE.out; omega)
              have b13 : (m' - 1 == 0) = false := by rw [beq_eq_false_iff_ne]; omega
              have b12 : (m' == 1) = false := by rw [beq_eq_false_iff_ne]; omega
              go_wp2
              go_round
              case rel => exact ⟨n' + 1, y', m' - 1, by first | rfl | go_num, rfl, by first | rfl | go_num, HE2, by omega, by omega, by omega, by omega, e4, e5⟩
              case measure => simp [intOf]; omega
          · obtain rfl : n' = 0 := by omega
            obtain rfl : y' = M / 12 := by have := HE.out; omega
            obtain rfl : m' = M % 12 + 1 := by have := HE.out; omega
            clear HE hlt e0 e1
            go_wp2_with (fail)
            go_must (refine (rlast_is _ (by omega) (by omega) HL.out).mono ?_)
            rintro e2 w2 ⟨rfl, hb⟩
            have hB2 := Gen.over hb hB
            clear hb hB
            by_cases hdl : d ≤ L
            · have H2 := Lib.hid (show ofR (M / 12) (M % 12 + 1) d = (x, e) from by have := H.out; rw [Int.min_eq_left hdl] at this; exact this)
              go_wp2_with (fail)
              go_must (refine (rof_is _ (by omega) (by omega) (by omega) (by omega) d0 (by rw [HL.out]; exact hdl) H2.out).mono ?_)
              rintro e3 w3 ⟨rfl, hb⟩
              have hB3 := Gen.over hb hB2
              go_wp2
              exact bodyPost_ret (v := .tuple #[.int .i64 x, .int .i64 e]) (by simp [results, Try.results68, go_sem]) rfl ⟨rfl, hB3⟩
            · have hdl' : L < d := by omega
              have H2 := Lib.hid (show ofR (M / 12) (M % 12 + 1) L = (x, e) from by have := H.out; rw [Int.min_eq_right (by omega)] at this; exact this)
              clear hdl
              go_wp2_with (fail)
              go_must (refine (rof_is _ (by omega) (by omega) (by omega) (by omega) (by omega) (by rw [HL.out]; exact Int.le_refl _) H2.out).mono ?_)
              rintro e3 w3 ⟨rfl, hb⟩
              have hB3 := Gen.over hb hB2
              go_wp2
              exact bodyPost_ret (v := .tuple #[.int .i64 x, .int .i64 e]) (by simp [results, Try.results68, go_sem]) rfl ⟨rfl, hB3⟩
end Go.Proofs.Ytdndlipenjkfpaa.Dat
