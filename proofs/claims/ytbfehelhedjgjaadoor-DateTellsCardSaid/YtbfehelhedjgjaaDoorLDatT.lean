/- DateTells returns true: every numbers and string, where the table of powers of ten holds what the text lays. -/
import Derived.Test.YtbfehelhedjgjaaDoorDatZ
namespace Go.Proofs.YtbfehelhedjgjaaDoor.Dat
open Go.ChangeShapes Go.WideShapes Go.ChangeAt Go.RowKit Go.Proofs.YtbfehelhedjgjaaDoor.Cell
set_option linter.unusedVariables false
set_option linter.unusedSimpArgs false

theorem ofA_R {y m d : Int} (m0 : 1 ≤ m) (m1 : m ≤ 12) (d0 : 1 ≤ d) (d1 : d ≤ lst y m) : ofA y m d = ofR y m d := by
  unfold ofA
  rw [if_neg (by omega)]
  split
  · unfold ofR; rw [if_neg (by omega)]
  · rfl
set_option maxRecDepth 100000 in
set_option maxHeartbeats 4000000 in
theorem ram_is {day n x e : Int} (w : World) (h0 : 0 ≤ day) (h1 : day ≤ 200000) (h : amO day n = (x, e)) :
    Calls Tryd.prog 23 #[.int .i64 day, .int .i64 n] w fun e' w' => e' = .returned (.tuple #[.int .i64 x, .int .i64 e]) ∧ Below w.heap.size w w' := by
  obtain ⟨y, m, d, hp⟩ := pt_ex day h0 h1
  have HP := Lib.hid hp
  by_cases hn : n < -10000 ∨ 10000 < n
  · rw [amO_far hn] at h
    obtain rfl : 0 = x := by injection h
    obtain rfl : 3 = e := by injection h
    rcases (show n < -10000 ∨ (-10000 ≤ n ∧ 10000 < n) by omega) with a | ⟨a, b⟩
    all_goals
      clear hn h hp
      go_enter Tryd.func23, Tryd.ntmps23
      go_wp2_with (fail)
      go_must (refine (rparts_is _ h0 h1 HP.out).mono ?_)
      rintro e w1 ⟨rfl, hB⟩
      go_wp2
      exact bodyPost_ret (v := .tuple #[.int .i64 0, .int .i64 3]) (by simp [results, Tryd.results23, go_sem]) rfl ⟨rfl, hB⟩
  · have n0 : -10000 ≤ n := by omega
    have n1 : n ≤ 10000 := by omega
    rw [amO_of hp h0 h1 n0 n1] at h
    have y0 := hp.y0
    have hy1 := hp.in_
    have y1 : y ≤ 2448 := by
      by_cases c : y ≤ 2448
      · exact c
      · have := ny_mono (a := 2448) (b := y) (by omega) (by omega)
        have := ny_top
        omega
    have m0 : (1 : Int) ≤ (m : Int) := by have := hp.m0; omega
    have m1 : (m : Int) ≤ 12 := by have := hp.m1; omega
    have d0 := hp.d0
    have d31 := lst_in y m (by omega) (by omega)
    have d1 : d ≤ 31 := by have := hp.d1; omega
    obtain ⟨M, hM⟩ : ∃ M, 12 * y + (m : Int) - 1 + n = M := ⟨_, rfl⟩
    have M0' : 0 ≤ M := by omega
    have M1' : M ≤ 50000 := by omega
    obtain ⟨L, hL⟩ : ∃ L, ll M = L := ⟨_, rfl⟩
    have L01 := ll_in M
    rw [hL] at L01
    obtain ⟨l0, l1⟩ := L01
    unfold addR at h
    rw [hM, ← ofR_ms (y := y) (m := m) (n := n) (by omega) M0', hL] at h
    have HM := Lib.hid hM
    have HL := Lib.hid (show lst (M / 12) (M % 12 + 1) = L from hL)
    have H := Lib.hid h
    clear hM hL hp hy1 d31 hn h
    rcases (show 0 ≤ n ∨ n < 0 by omega) with hs | hs
    · go_enter Tryd.func23, Tryd.ntmps23
      go_wp2_with (fail)
      go_must (refine (rparts_is _ h0 h1 HP.out).mono ?_)
      rintro e1 w1 ⟨rfl, hB⟩
      go_wp2_with (fail)
      go_loop [1, 6, 7] (fun nv yv mv => ∃ n' y' m' : Int, nv = .int .i64 n' ∧ yv = .int .i64 y' ∧ mv = .int .i64 m' ∧ Hid (12 * y' + m' + n' = M + 1) ∧ 0 ≤ n' ∧ n' ≤ 10000 ∧ 1 ≤ m' ∧ m' ≤ 12 ∧ 0 ≤ y' ∧ y' ≤ 10000) (fun nv _ _ => (intOf nv).toNat)
      case atStart => exact ⟨n, y, m, rfl, rfl, rfl, Lib.hid (by have := HM.out; omega), hs, n1, m0, m1, by omega, by omega⟩
      case round =>
        obtain ⟨n', y', m', rfl, rfl, rfl, HE, e0, e1, e2, e3, e4, e5⟩ := hrel
        by_cases hlt : 0 < n'
        · by_cases h12 : m' = 12
          · have HE2 := Lib.hid (show 12 * (y' + 1) + 1 + (n' - 1) = M + 1 from by have := HE.out; omega)
            have y5 : y' + 1 ≤ 10000 := by have := HE.out; omega
            subst h12
            go_wp2
            go_round
            case rel => exact ⟨n' - 1, y' + 1, 1, by first | rfl | go_num, rfl, rfl, HE2, by omega, by omega, by omega, by omega, by omega, y5⟩
            case measure => simp [intOf]; omega
          · have HE2 := Lib.hid (show 12 * y' + (m' + 1) + (n' - 1) = M + 1 from by have := HE.out; omega)
            have b13 : (m' + 1 == 13) = false := by rw [beq_eq_false_iff_ne]; omega
            have b12 : (m' == 12) = false := by rw [beq_eq_false_iff_ne]; omega
            go_wp2
            go_round
            case rel => exact ⟨n' - 1, y', m' + 1, by first | rfl | go_num, rfl, rfl, HE2, by omega, by omega, by omega, by omega, e4, e5⟩
            case measure => simp [intOf]; omega
        · obtain rfl : n' = 0 := by omega
          obtain rfl : y' = M / 12 := by have := HE.out; omega
          obtain rfl : m' = M % 12 + 1 := by have := HE.out; omega
          clear HE hlt e0 e1
          go_wp2_with (fail)
          go_loop [1, 6, 7] (fun nv yv mv => nv = .int .i64 0 ∧ yv = .int .i64 (M / 12) ∧ mv = .int .i64 (M % 12 + 1)) (fun _ _ _ => 0)
          case atStart => exact ⟨rfl, rfl, rfl⟩
          case round =>
            obtain ⟨rfl, rfl, rfl⟩ := hrel
            go_wp2_with (fail)
            go_must (refine (rlast_is _ (by omega) (by omega) HL.out).mono ?_)
            rintro e2 w2 ⟨rfl, hb⟩
            have hB2 := Gen.over hb hB
            clear hb hB
            by_cases hdl : d ≤ L
            · have H2 := Lib.hid (show ofA (M / 12) (M % 12 + 1) d = (x, e) from by rw [ofA_R (by omega) (by omega) d0 (by rw [HL.out]; exact hdl)]; have := H.out; rw [Int.min_eq_left hdl] at this; exact this)
              go_wp2_with (fail)
              rw [Int.min_eq_left hdl]
              go_must (refine (rof_g _ H2.out).mono ?_)
              rintro e3 w3 ⟨rfl, hb⟩
              have hB3 := Gen.over hb hB2
              go_wp2
              exact bodyPost_ret (v := .tuple #[.int .i64 x, .int .i64 e]) (by simp [results, Tryd.results23, go_sem]) rfl ⟨rfl, hB3⟩
            · have hdl' : L < d := by omega
              have H2 := Lib.hid (show ofA (M / 12) (M % 12 + 1) L = (x, e) from by rw [ofA_R (by omega) (by omega) (by omega) (by rw [HL.out]; exact Int.le_refl _)]; have := H.out; rw [Int.min_eq_right (by omega)] at this; exact this)
              clear hdl
              go_wp2_with (fail)
              rw [Int.min_eq_right (show L ≤ d by omega)]
              go_must (refine (rof_g _ H2.out).mono ?_)
              rintro e3 w3 ⟨rfl, hb⟩
              have hB3 := Gen.over hb hB2
              go_wp2
              exact bodyPost_ret (v := .tuple #[.int .i64 x, .int .i64 e]) (by simp [results, Tryd.results23, go_sem]) rfl ⟨rfl, hB3⟩
    · go_enter Tryd.func23, Tryd.ntmps23
      go_wp2_with (fail)
      go_must (refine (rparts_is _ h0 h1 HP.out).mono ?_)
      rintro e1 w1 ⟨rfl, hB⟩
      go_wp2_with (fail)
      go_loop [1, 6, 7] (fun nv yv mv => nv = .int .i64 n ∧ yv = .int .i64 y ∧ mv = .int .i64 m) (fun _ _ _ => 0)
      case atStart => exact ⟨rfl, rfl, rfl⟩
      case round =>
        obtain ⟨rfl, rfl, rfl⟩ := hrel
        go_wp2_with (fail)
        go_loop [1, 6, 7] (fun nv yv mv => ∃ n' y' m' : Int, nv = .int .i64 n' ∧ yv = .int .i64 y' ∧ mv = .int .i64 m' ∧ Hid (12 * y' + m' + n' = M + 1) ∧ -10000 ≤ n' ∧ n' ≤ 0 ∧ 1 ≤ m' ∧ m' ≤ 12 ∧ 0 ≤ y' ∧ y' ≤ 10000) (fun nv _ _ => (-(intOf nv)).toNat)
        case atStart => exact ⟨n, y, m, rfl, rfl, rfl, Lib.hid (by have := HM.out; omega), n0, by omega, m0, m1, by omega, by omega⟩
        case round =>
          obtain ⟨n', y', m', rfl, rfl, rfl, HE, e0, e1, e2, e3, e4, e5⟩ := hrel
          by_cases hlt : n' < 0
          · by_cases h12 : m' = 1
            · have HE2 := Lib.hid (show 12 * (y' - 1) + 12 + (n' + 1) = M + 1 from by have := HE.out; omega)
              have y5 : 0 ≤ y' - 1 := by have := HE.out; omega
              subst h12
              go_wp2
              go_round
              case rel => exact ⟨n' + 1, y' - 1, 12, by first | rfl | go_num, by first | rfl | go_num, rfl, HE2, by omega, by omega, by omega, by omega, y5, by omega⟩
              case measure => simp [intOf]; omega
            · have HE2 := Lib.hid (show 12 * y' + (m' - 1) + (n' + 1) = M + 1 from by have := HE.out; omega)
              have b13 : (m' - 1 == 0) = false := by rw [beq_eq_false_iff_ne]; omega
              have b12 : (m' == 1) = false := by rw [beq_eq_false_iff_ne]; omega
              go_wp2
              go_round
              case rel => exact ⟨n' + 1, y', m' - 1, by first | rfl | go_num, rfl, by first | rfl | go_num, HE2, by omega, by omega, by omega, by omega, e4, e5⟩
              case measure => simp [intOf]; omega
          · obtain rfl : n' = 0 := by omega
            obtain rfl : y' = M / 12 := by have := HE.out; omega
            obtain rfl : m' = M % 12 + 1 := by have := HE.out; omega
            clear HE hlt e0 e1
            go_wp2_with (fail)
            go_must (refine (rlast_is _ (by omega) (by omega) HL.out).mono ?_)
            rintro e2 w2 ⟨rfl, hb⟩
            have hB2 := Gen.over hb hB
            clear hb hB
            by_cases hdl : d ≤ L
            · have H2 := Lib.hid (show ofA (M / 12) (M % 12 + 1) d = (x, e) from by rw [ofA_R (by omega) (by omega) d0 (by rw [HL.out]; exact hdl)]; have := H.out; rw [Int.min_eq_left hdl] at this; exact this)
              go_wp2_with (fail)
              rw [Int.min_eq_left hdl]
              go_must (refine (rof_g _ H2.out).mono ?_)
              rintro e3 w3 ⟨rfl, hb⟩
              have hB3 := Gen.over hb hB2
              go_wp2
              exact bodyPost_ret (v := .tuple #[.int .i64 x, .int .i64 e]) (by simp [results, Tryd.results23, go_sem]) rfl ⟨rfl, hB3⟩
            · have hdl' : L < d := by omega
              have H2 := Lib.hid (show ofA (M / 12) (M % 12 + 1) L = (x, e) from by rw [ofA_R (by omega) (by omega) (by omega) (by rw [HL.out]; exact Int.le_refl _)]; have := H.out; rw [Int.min_eq_right (by omega)] at this; exact this)
              clear hdl
              go_wp2_with (fail)
              rw [Int.min_eq_right (show L ≤ d by omega)]
              go_must (refine (rof_g _ H2.out).mono ?_)
              rintro e3 w3 ⟨rfl, hb⟩
              have hB3 := Gen.over hb hB2
              go_wp2
              exact bodyPost_ret (v := .tuple #[.int .i64 x, .int .i64 e]) (by simp [results, Tryd.results23, go_sem]) rfl ⟨rfl, hB3⟩
theorem ram_no {day n : Int} (w : World) (h : ¬ (0 ≤ day ∧ day ≤ 200000)) :
    Calls Tryd.prog 23 #[.int .i64 day, .int .i64 n] w fun e' w' => e' = .returned (.tuple #[.int .i64 0, .int .i64 3]) ∧ Below w.heap.size w w' := by
  go_enter Tryd.func23, Tryd.ntmps23
  go_wp2_with (fail)
  go_must (refine (rparts_no _ _ h).mono ?_)
  rintro e w1 ⟨rfl, hB⟩
  go_wp2
  exact bodyPost_ret (v := .tuple #[.int .i64 0, .int .i64 3]) (by simp [results, Tryd.results23, go_sem]) rfl ⟨rfl, hB⟩
set_option maxRecDepth 100000 in
set_option maxHeartbeats 8000000 in
theorem dtells_ia (y m d day n : Int) (s : ByteArray) (w : World) (hT : PowTab w) (hbig : s.size ≤ 9223372036854775807) (h0 : 0 ≤ day) (h1 : day ≤ 200000) (n0 : 2000 < n) (n1 : n ≤ 10000) :
    Calls Tryd.prog 3 #[.int .i64 y, .int .i64 m, .int .i64 d, .int .i64 day, .int .i64 n, .string s] w fun e w' => e = .returned (.bool true) ∧ Below w.heap.size w w' := by
  obtain ⟨a, ea, ha⟩ : ∃ a e, ofA y m d = (a, e) := ⟨_, _, rfl⟩
  obtain ⟨c, ec, hc⟩ : ∃ a e, rdO s.data.toList = (a, e) := ⟨_, _, rfl⟩
  obtain ⟨lb, hlb⟩ : ∃ b, lp y = b := ⟨_, rfl⟩
  obtain ⟨lx, hlx⟩ : ∃ b, lst y m = b := ⟨_, rfl⟩
  obtain ⟨v, hv⟩ : ∃ v, wdO day = v := ⟨_, rfl⟩
  have HT := Lib.hid hT
  have HA := Lib.hid ha
  have HC := Lib.hid hc
  have HLB := Lib.hid hlb
  have HLX := Lib.hid hlx
  have HV := Lib.hid hv
  obtain ⟨py, pm, pd, hp⟩ := pt_ex day h0 h1
  obtain ⟨tt, htt⟩ : ∃ t, str (tx py pm pd) = t := ⟨_, rfl⟩
  have HP := Lib.hid hp
  have HTT := Lib.hid htt
  have HX1 : Hid (∀ W : World, PowTab W → Calls Tryd.prog 20 #[.int .i64 day] W fun e w' => e = .returned (.string tt) ∧ Below W.heap.size W w') := Lib.hid (fun W hW => by have := text_is W h0 h1 hp hW; rwa [htt] at this)
  have HX2 : Hid (∀ W : World, Calls Tryd.prog 21 #[.int .i64 day] W fun e w' => e = .returned (.string tt) ∧ Below W.heap.size W w') := Lib.hid (fun W => by have := rtext_is W h0 h1 hp; rwa [htt] at this)
  clear hT ha hc hlb hlx hv hp htt
  go_enter Tryd.func3, Tryd.ntmps3
  go_wp2_with (fail)
  go_must (refine (small_any _ HT.out).mono ?_)
  rintro e w0 ⟨rfl, hB⟩
  go_wp2_with (fail)
  go_must (refine (of_g _ HA.out).mono ?_)
  rintro e wz ⟨rfl, rfl⟩
  go_wp2_with (fail)
  go_must (refine (rof_g _ HA.out).mono ?_)
  rintro e w1 ⟨rfl, hb1⟩
  replace hB := Gen.over hb1 hB
  clear hb1
  go_wp2_with (fail)
  go_must (refine (parts_is _ h0 h1 HP.out).mono ?_)
  rintro e wz ⟨rfl, rfl⟩
  go_wp2_with (fail)
  go_must (refine (rparts_is _ h0 h1 HP.out).mono ?_)
  rintro e w2 ⟨rfl, hb2⟩
  replace hB := Gen.over hb2 hB
  clear hb2
  go_wp2_with (fail)
  go_must (refine (read_any _ rfl hbig HC.out).mono ?_)
  rintro e w3 ⟨rfl, hb3⟩
  replace hB := Gen.over hb3 hB
  clear hb3
  go_wp2_with (fail)
  go_must (refine (rread_any _ rfl hbig HC.out).mono ?_)
  rintro e w4 ⟨rfl, hb4⟩
  replace hB := Gen.over hb4 hB
  clear hb4
  go_wp2_with (fail)
  go_must (refine (leap_g _ HLB.out).mono ?_)
  rintro e wz ⟨rfl, rfl⟩
  go_wp2_with (fail)
  go_must (refine (rleap_g _ HLB.out).mono ?_)
  rintro e wz ⟨rfl, rfl⟩
  go_wp2_with (fail)
  go_must (refine (last_g _ HLX.out).mono ?_)
  rintro e wz ⟨rfl, rfl⟩
  go_wp2_with (fail)
  go_must (refine (rlast_g _ HLX.out).mono ?_)
  rintro e w5 ⟨rfl, hb5⟩
  replace hB := Gen.over hb5 hB
  clear hb5
  go_wp2_with (fail)
  go_must (refine (wd_is _ HV.out).mono ?_)
  rintro e wz ⟨rfl, rfl⟩
  go_wp2_with (fail)
  go_must (refine (rwd_is _ HV.out).mono ?_)
  rintro e wz ⟨rfl, rfl⟩
  go_wp2_with (fail)
  go_must (refine (HX1.out _ (HT.out.keep hB)).mono ?_)
  rintro e w6 ⟨rfl, hb6⟩
  replace hB := Gen.over hb6 hB
  clear hb6
  go_wp2_with (fail)
  go_must (refine (HX2.out _).mono ?_)
  rintro e w7 ⟨rfl, hb7⟩
  replace hB := Gen.over hb7 hB
  clear hb7
  go_wp2
  go_ret
  exact ⟨rfl, hB⟩
set_option maxRecDepth 100000 in
set_option maxHeartbeats 8000000 in
theorem dtells_ib (y m d day n : Int) (s : ByteArray) (w : World) (hT : PowTab w) (hbig : s.size ≤ 9223372036854775807) (h0 : 0 ≤ day) (h1 : day ≤ 200000) (n0 : n < -2000) (n1 : -10000 ≤ n) :
    Calls Tryd.prog 3 #[.int .i64 y, .int .i64 m, .int .i64 d, .int .i64 day, .int .i64 n, .string s] w fun e w' => e = .returned (.bool true) ∧ Below w.heap.size w w' := by
  obtain ⟨a, ea, ha⟩ : ∃ a e, ofA y m d = (a, e) := ⟨_, _, rfl⟩
  obtain ⟨c, ec, hc⟩ : ∃ a e, rdO s.data.toList = (a, e) := ⟨_, _, rfl⟩
  obtain ⟨lb, hlb⟩ : ∃ b, lp y = b := ⟨_, rfl⟩
  obtain ⟨lx, hlx⟩ : ∃ b, lst y m = b := ⟨_, rfl⟩
  obtain ⟨v, hv⟩ : ∃ v, wdO day = v := ⟨_, rfl⟩
  have HT := Lib.hid hT
  have HA := Lib.hid ha
  have HC := Lib.hid hc
  have HLB := Lib.hid hlb
  have HLX := Lib.hid hlx
  have HV := Lib.hid hv
  obtain ⟨py, pm, pd, hp⟩ := pt_ex day h0 h1
  obtain ⟨tt, htt⟩ : ∃ t, str (tx py pm pd) = t := ⟨_, rfl⟩
  have HP := Lib.hid hp
  have HTT := Lib.hid htt
  have HX1 : Hid (∀ W : World, PowTab W → Calls Tryd.prog 20 #[.int .i64 day] W fun e w' => e = .returned (.string tt) ∧ Below W.heap.size W w') := Lib.hid (fun W hW => by have := text_is W h0 h1 hp hW; rwa [htt] at this)
  have HX2 : Hid (∀ W : World, Calls Tryd.prog 21 #[.int .i64 day] W fun e w' => e = .returned (.string tt) ∧ Below W.heap.size W w') := Lib.hid (fun W => by have := rtext_is W h0 h1 hp; rwa [htt] at this)
  clear hT ha hc hlb hlx hv hp htt
  go_enter Tryd.func3, Tryd.ntmps3
  go_wp2_with (fail)
  go_must (refine (small_any _ HT.out).mono ?_)
  rintro e w0 ⟨rfl, hB⟩
  go_wp2_with (fail)
  go_must (refine (of_g _ HA.out).mono ?_)
  rintro e wz ⟨rfl, rfl⟩
  go_wp2_with (fail)
  go_must (refine (rof_g _ HA.out).mono ?_)
  rintro e w1 ⟨rfl, hb1⟩
  replace hB := Gen.over hb1 hB
  clear hb1
  go_wp2_with (fail)
  go_must (refine (parts_is _ h0 h1 HP.out).mono ?_)
  rintro e wz ⟨rfl, rfl⟩
  go_wp2_with (fail)
  go_must (refine (rparts_is _ h0 h1 HP.out).mono ?_)
  rintro e w2 ⟨rfl, hb2⟩
  replace hB := Gen.over hb2 hB
  clear hb2
  go_wp2_with (fail)
  go_must (refine (read_any _ rfl hbig HC.out).mono ?_)
  rintro e w3 ⟨rfl, hb3⟩
  replace hB := Gen.over hb3 hB
  clear hb3
  go_wp2_with (fail)
  go_must (refine (rread_any _ rfl hbig HC.out).mono ?_)
  rintro e w4 ⟨rfl, hb4⟩
  replace hB := Gen.over hb4 hB
  clear hb4
  go_wp2_with (fail)
  go_must (refine (leap_g _ HLB.out).mono ?_)
  rintro e wz ⟨rfl, rfl⟩
  go_wp2_with (fail)
  go_must (refine (rleap_g _ HLB.out).mono ?_)
  rintro e wz ⟨rfl, rfl⟩
  go_wp2_with (fail)
  go_must (refine (last_g _ HLX.out).mono ?_)
  rintro e wz ⟨rfl, rfl⟩
  go_wp2_with (fail)
  go_must (refine (rlast_g _ HLX.out).mono ?_)
  rintro e w5 ⟨rfl, hb5⟩
  replace hB := Gen.over hb5 hB
  clear hb5
  go_wp2_with (fail)
  go_must (refine (wd_is _ HV.out).mono ?_)
  rintro e wz ⟨rfl, rfl⟩
  go_wp2_with (fail)
  go_must (refine (rwd_is _ HV.out).mono ?_)
  rintro e wz ⟨rfl, rfl⟩
  go_wp2_with (fail)
  go_must (refine (HX1.out _ (HT.out.keep hB)).mono ?_)
  rintro e w6 ⟨rfl, hb6⟩
  replace hB := Gen.over hb6 hB
  clear hb6
  go_wp2_with (fail)
  go_must (refine (HX2.out _).mono ?_)
  rintro e w7 ⟨rfl, hb7⟩
  replace hB := Gen.over hb7 hB
  clear hb7
  go_wp2
  go_ret
  exact ⟨rfl, hB⟩
set_option maxRecDepth 100000 in
set_option maxHeartbeats 8000000 in
theorem dtells_ic (y m d day n : Int) (s : ByteArray) (w : World) (hT : PowTab w) (hbig : s.size ≤ 9223372036854775807) (h0 : 0 ≤ day) (h1 : day ≤ 200000) (n0 : 10000 < n) :
    Calls Tryd.prog 3 #[.int .i64 y, .int .i64 m, .int .i64 d, .int .i64 day, .int .i64 n, .string s] w fun e w' => e = .returned (.bool true) ∧ Below w.heap.size w w' := by
  obtain ⟨a, ea, ha⟩ : ∃ a e, ofA y m d = (a, e) := ⟨_, _, rfl⟩
  obtain ⟨c, ec, hc⟩ : ∃ a e, rdO s.data.toList = (a, e) := ⟨_, _, rfl⟩
  obtain ⟨lb, hlb⟩ : ∃ b, lp y = b := ⟨_, rfl⟩
  obtain ⟨lx, hlx⟩ : ∃ b, lst y m = b := ⟨_, rfl⟩
  obtain ⟨v, hv⟩ : ∃ v, wdO day = v := ⟨_, rfl⟩
  have HT := Lib.hid hT
  have HA := Lib.hid ha
  have HC := Lib.hid hc
  have HLB := Lib.hid hlb
  have HLX := Lib.hid hlx
  have HV := Lib.hid hv
  obtain ⟨py, pm, pd, hp⟩ := pt_ex day h0 h1
  obtain ⟨tt, htt⟩ : ∃ t, str (tx py pm pd) = t := ⟨_, rfl⟩
  have HP := Lib.hid hp
  have HTT := Lib.hid htt
  have HX1 : Hid (∀ W : World, PowTab W → Calls Tryd.prog 20 #[.int .i64 day] W fun e w' => e = .returned (.string tt) ∧ Below W.heap.size W w') := Lib.hid (fun W hW => by have := text_is W h0 h1 hp hW; rwa [htt] at this)
  have HX2 : Hid (∀ W : World, Calls Tryd.prog 21 #[.int .i64 day] W fun e w' => e = .returned (.string tt) ∧ Below W.heap.size W w') := Lib.hid (fun W => by have := rtext_is W h0 h1 hp; rwa [htt] at this)
  obtain ⟨z, ez, hz⟩ : ∃ a e, amO day n = (a, e) := ⟨_, _, rfl⟩
  have HZ := Lib.hid hz
  clear hT ha hc hlb hlx hv hp htt hz
  go_enter Tryd.func3, Tryd.ntmps3
  go_wp2_with (fail)
  go_must (refine (small_any _ HT.out).mono ?_)
  rintro e w0 ⟨rfl, hB⟩
  go_wp2_with (fail)
  go_must (refine (of_g _ HA.out).mono ?_)
  rintro e wz ⟨rfl, rfl⟩
  go_wp2_with (fail)
  go_must (refine (rof_g _ HA.out).mono ?_)
  rintro e w1 ⟨rfl, hb1⟩
  replace hB := Gen.over hb1 hB
  clear hb1
  go_wp2_with (fail)
  go_must (refine (parts_is _ h0 h1 HP.out).mono ?_)
  rintro e wz ⟨rfl, rfl⟩
  go_wp2_with (fail)
  go_must (refine (rparts_is _ h0 h1 HP.out).mono ?_)
  rintro e w2 ⟨rfl, hb2⟩
  replace hB := Gen.over hb2 hB
  clear hb2
  go_wp2_with (fail)
  go_must (refine (read_any _ rfl hbig HC.out).mono ?_)
  rintro e w3 ⟨rfl, hb3⟩
  replace hB := Gen.over hb3 hB
  clear hb3
  go_wp2_with (fail)
  go_must (refine (rread_any _ rfl hbig HC.out).mono ?_)
  rintro e w4 ⟨rfl, hb4⟩
  replace hB := Gen.over hb4 hB
  clear hb4
  go_wp2_with (fail)
  go_must (refine (leap_g _ HLB.out).mono ?_)
  rintro e wz ⟨rfl, rfl⟩
  go_wp2_with (fail)
  go_must (refine (rleap_g _ HLB.out).mono ?_)
  rintro e wz ⟨rfl, rfl⟩
  go_wp2_with (fail)
  go_must (refine (last_g _ HLX.out).mono ?_)
  rintro e wz ⟨rfl, rfl⟩
  go_wp2_with (fail)
  go_must (refine (rlast_g _ HLX.out).mono ?_)
  rintro e w5 ⟨rfl, hb5⟩
  replace hB := Gen.over hb5 hB
  clear hb5
  go_wp2_with (fail)
  go_must (refine (wd_is _ HV.out).mono ?_)
  rintro e wz ⟨rfl, rfl⟩
  go_wp2_with (fail)
  go_must (refine (rwd_is _ HV.out).mono ?_)
  rintro e wz ⟨rfl, rfl⟩
  go_wp2_with (fail)
  go_must (refine (HX1.out _ (HT.out.keep hB)).mono ?_)
  rintro e w6 ⟨rfl, hb6⟩
  replace hB := Gen.over hb6 hB
  clear hb6
  go_wp2_with (fail)
  go_must (refine (HX2.out _).mono ?_)
  rintro e w7 ⟨rfl, hb7⟩
  replace hB := Gen.over hb7 hB
  clear hb7
  go_wp2_with (fail)
  go_must (refine (am_is _ HZ.out).mono ?_)
  first | rintro e wz ⟨rfl, rfl⟩ | (rintro e wz ⟨rfl, hbz⟩; replace hB := Gen.over hbz hB)
  go_wp2_with (fail)
  go_must (refine (ram_is _ h0 h1 HZ.out).mono ?_)
  rintro e w8 ⟨rfl, hb8⟩
  replace hB := Gen.over hb8 hB
  clear hb8
  go_wp2
  go_ret
  exact ⟨rfl, hB⟩
set_option maxRecDepth 100000 in
set_option maxHeartbeats 8000000 in
theorem dtells_ie (y m d day n : Int) (s : ByteArray) (w : World) (hT : PowTab w) (hbig : s.size ≤ 9223372036854775807) (h0 : 0 ≤ day) (h1 : day ≤ 200000) (n0 : n < -10000) :
    Calls Tryd.prog 3 #[.int .i64 y, .int .i64 m, .int .i64 d, .int .i64 day, .int .i64 n, .string s] w fun e w' => e = .returned (.bool true) ∧ Below w.heap.size w w' := by
  obtain ⟨a, ea, ha⟩ : ∃ a e, ofA y m d = (a, e) := ⟨_, _, rfl⟩
  obtain ⟨c, ec, hc⟩ : ∃ a e, rdO s.data.toList = (a, e) := ⟨_, _, rfl⟩
  obtain ⟨lb, hlb⟩ : ∃ b, lp y = b := ⟨_, rfl⟩
  obtain ⟨lx, hlx⟩ : ∃ b, lst y m = b := ⟨_, rfl⟩
  obtain ⟨v, hv⟩ : ∃ v, wdO day = v := ⟨_, rfl⟩
  have HT := Lib.hid hT
  have HA := Lib.hid ha
  have HC := Lib.hid hc
  have HLB := Lib.hid hlb
  have HLX := Lib.hid hlx
  have HV := Lib.hid hv
  obtain ⟨py, pm, pd, hp⟩ := pt_ex day h0 h1
  obtain ⟨tt, htt⟩ : ∃ t, str (tx py pm pd) = t := ⟨_, rfl⟩
  have HP := Lib.hid hp
  have HTT := Lib.hid htt
  have HX1 : Hid (∀ W : World, PowTab W → Calls Tryd.prog 20 #[.int .i64 day] W fun e w' => e = .returned (.string tt) ∧ Below W.heap.size W w') := Lib.hid (fun W hW => by have := text_is W h0 h1 hp hW; rwa [htt] at this)
  have HX2 : Hid (∀ W : World, Calls Tryd.prog 21 #[.int .i64 day] W fun e w' => e = .returned (.string tt) ∧ Below W.heap.size W w') := Lib.hid (fun W => by have := rtext_is W h0 h1 hp; rwa [htt] at this)
  obtain ⟨z, ez, hz⟩ : ∃ a e, amO day n = (a, e) := ⟨_, _, rfl⟩
  have HZ := Lib.hid hz
  clear hT ha hc hlb hlx hv hp htt hz
  go_enter Tryd.func3, Tryd.ntmps3
  go_wp2_with (fail)
  go_must (refine (small_any _ HT.out).mono ?_)
  rintro e w0 ⟨rfl, hB⟩
  go_wp2_with (fail)
  go_must (refine (of_g _ HA.out).mono ?_)
  rintro e wz ⟨rfl, rfl⟩
  go_wp2_with (fail)
  go_must (refine (rof_g _ HA.out).mono ?_)
  rintro e w1 ⟨rfl, hb1⟩
  replace hB := Gen.over hb1 hB
  clear hb1
  go_wp2_with (fail)
  go_must (refine (parts_is _ h0 h1 HP.out).mono ?_)
  rintro e wz ⟨rfl, rfl⟩
  go_wp2_with (fail)
  go_must (refine (rparts_is _ h0 h1 HP.out).mono ?_)
  rintro e w2 ⟨rfl, hb2⟩
  replace hB := Gen.over hb2 hB
  clear hb2
  go_wp2_with (fail)
  go_must (refine (read_any _ rfl hbig HC.out).mono ?_)
  rintro e w3 ⟨rfl, hb3⟩
  replace hB := Gen.over hb3 hB
  clear hb3
  go_wp2_with (fail)
  go_must (refine (rread_any _ rfl hbig HC.out).mono ?_)
  rintro e w4 ⟨rfl, hb4⟩
  replace hB := Gen.over hb4 hB
  clear hb4
  go_wp2_with (fail)
  go_must (refine (leap_g _ HLB.out).mono ?_)
  rintro e wz ⟨rfl, rfl⟩
  go_wp2_with (fail)
  go_must (refine (rleap_g _ HLB.out).mono ?_)
  rintro e wz ⟨rfl, rfl⟩
  go_wp2_with (fail)
  go_must (refine (last_g _ HLX.out).mono ?_)
  rintro e wz ⟨rfl, rfl⟩
  go_wp2_with (fail)
  go_must (refine (rlast_g _ HLX.out).mono ?_)
  rintro e w5 ⟨rfl, hb5⟩
  replace hB := Gen.over hb5 hB
  clear hb5
  go_wp2_with (fail)
  go_must (refine (wd_is _ HV.out).mono ?_)
  rintro e wz ⟨rfl, rfl⟩
  go_wp2_with (fail)
  go_must (refine (rwd_is _ HV.out).mono ?_)
  rintro e wz ⟨rfl, rfl⟩
  go_wp2_with (fail)
  go_must (refine (HX1.out _ (HT.out.keep hB)).mono ?_)
  rintro e w6 ⟨rfl, hb6⟩
  replace hB := Gen.over hb6 hB
  clear hb6
  go_wp2_with (fail)
  go_must (refine (HX2.out _).mono ?_)
  rintro e w7 ⟨rfl, hb7⟩
  replace hB := Gen.over hb7 hB
  clear hb7
  go_wp2_with (fail)
  go_must (refine (am_is _ HZ.out).mono ?_)
  first | rintro e wz ⟨rfl, rfl⟩ | (rintro e wz ⟨rfl, hbz⟩; replace hB := Gen.over hbz hB)
  go_wp2_with (fail)
  go_must (refine (ram_is _ h0 h1 HZ.out).mono ?_)
  rintro e w8 ⟨rfl, hb8⟩
  replace hB := Gen.over hb8 hB
  clear hb8
  go_wp2
  go_ret
  exact ⟨rfl, hB⟩
set_option maxRecDepth 100000 in
set_option maxHeartbeats 8000000 in
theorem dtells_if (y m d day n : Int) (s : ByteArray) (w : World) (hT : PowTab w) (hbig : s.size ≤ 9223372036854775807) (h0 : 0 ≤ day) (h1 : day ≤ 200000) (n0 : -2000 ≤ n) (n1 : n ≤ 2000) :
    Calls Tryd.prog 3 #[.int .i64 y, .int .i64 m, .int .i64 d, .int .i64 day, .int .i64 n, .string s] w fun e w' => e = .returned (.bool true) ∧ Below w.heap.size w w' := by
  obtain ⟨a, ea, ha⟩ : ∃ a e, ofA y m d = (a, e) := ⟨_, _, rfl⟩
  obtain ⟨c, ec, hc⟩ : ∃ a e, rdO s.data.toList = (a, e) := ⟨_, _, rfl⟩
  obtain ⟨lb, hlb⟩ : ∃ b, lp y = b := ⟨_, rfl⟩
  obtain ⟨lx, hlx⟩ : ∃ b, lst y m = b := ⟨_, rfl⟩
  obtain ⟨v, hv⟩ : ∃ v, wdO day = v := ⟨_, rfl⟩
  have HT := Lib.hid hT
  have HA := Lib.hid ha
  have HC := Lib.hid hc
  have HLB := Lib.hid hlb
  have HLX := Lib.hid hlx
  have HV := Lib.hid hv
  obtain ⟨py, pm, pd, hp⟩ := pt_ex day h0 h1
  obtain ⟨tt, htt⟩ : ∃ t, str (tx py pm pd) = t := ⟨_, rfl⟩
  have HP := Lib.hid hp
  have HTT := Lib.hid htt
  have HX1 : Hid (∀ W : World, PowTab W → Calls Tryd.prog 20 #[.int .i64 day] W fun e w' => e = .returned (.string tt) ∧ Below W.heap.size W w') := Lib.hid (fun W hW => by have := text_is W h0 h1 hp hW; rwa [htt] at this)
  have HX2 : Hid (∀ W : World, Calls Tryd.prog 21 #[.int .i64 day] W fun e w' => e = .returned (.string tt) ∧ Below W.heap.size W w') := Lib.hid (fun W => by have := rtext_is W h0 h1 hp; rwa [htt] at this)
  obtain ⟨z, ez, hz⟩ : ∃ a e, amO day n = (a, e) := ⟨_, _, rfl⟩
  have HZ := Lib.hid hz
  clear hT ha hc hlb hlx hv hp htt hz
  go_enter Tryd.func3, Tryd.ntmps3
  go_wp2_with (fail)
  go_must (refine (small_any _ HT.out).mono ?_)
  rintro e w0 ⟨rfl, hB⟩
  go_wp2_with (fail)
  go_must (refine (of_g _ HA.out).mono ?_)
  rintro e wz ⟨rfl, rfl⟩
  go_wp2_with (fail)
  go_must (refine (rof_g _ HA.out).mono ?_)
  rintro e w1 ⟨rfl, hb1⟩
  replace hB := Gen.over hb1 hB
  clear hb1
  go_wp2_with (fail)
  go_must (refine (parts_is _ h0 h1 HP.out).mono ?_)
  rintro e wz ⟨rfl, rfl⟩
  go_wp2_with (fail)
  go_must (refine (rparts_is _ h0 h1 HP.out).mono ?_)
  rintro e w2 ⟨rfl, hb2⟩
  replace hB := Gen.over hb2 hB
  clear hb2
  go_wp2_with (fail)
  go_must (refine (read_any _ rfl hbig HC.out).mono ?_)
  rintro e w3 ⟨rfl, hb3⟩
  replace hB := Gen.over hb3 hB
  clear hb3
  go_wp2_with (fail)
  go_must (refine (rread_any _ rfl hbig HC.out).mono ?_)
  rintro e w4 ⟨rfl, hb4⟩
  replace hB := Gen.over hb4 hB
  clear hb4
  go_wp2_with (fail)
  go_must (refine (leap_g _ HLB.out).mono ?_)
  rintro e wz ⟨rfl, rfl⟩
  go_wp2_with (fail)
  go_must (refine (rleap_g _ HLB.out).mono ?_)
  rintro e wz ⟨rfl, rfl⟩
  go_wp2_with (fail)
  go_must (refine (last_g _ HLX.out).mono ?_)
  rintro e wz ⟨rfl, rfl⟩
  go_wp2_with (fail)
  go_must (refine (rlast_g _ HLX.out).mono ?_)
  rintro e w5 ⟨rfl, hb5⟩
  replace hB := Gen.over hb5 hB
  clear hb5
  go_wp2_with (fail)
  go_must (refine (wd_is _ HV.out).mono ?_)
  rintro e wz ⟨rfl, rfl⟩
  go_wp2_with (fail)
  go_must (refine (rwd_is _ HV.out).mono ?_)
  rintro e wz ⟨rfl, rfl⟩
  go_wp2_with (fail)
  go_must (refine (HX1.out _ (HT.out.keep hB)).mono ?_)
  rintro e w6 ⟨rfl, hb6⟩
  replace hB := Gen.over hb6 hB
  clear hb6
  go_wp2_with (fail)
  go_must (refine (HX2.out _).mono ?_)
  rintro e w7 ⟨rfl, hb7⟩
  replace hB := Gen.over hb7 hB
  clear hb7
  go_wp2_with (fail)
  go_must (refine (am_is _ HZ.out).mono ?_)
  first | rintro e wz ⟨rfl, rfl⟩ | (rintro e wz ⟨rfl, hbz⟩; replace hB := Gen.over hbz hB)
  go_wp2_with (fail)
  go_must (refine (ram_is _ h0 h1 HZ.out).mono ?_)
  rintro e w8 ⟨rfl, hb8⟩
  replace hB := Gen.over hb8 hB
  clear hb8
  go_wp2
  go_ret
  exact ⟨rfl, hB⟩
set_option maxRecDepth 100000 in
set_option maxHeartbeats 8000000 in
theorem dtells_oa (y m d day n : Int) (s : ByteArray) (w : World) (hT : PowTab w) (hbig : s.size ≤ 9223372036854775807) (hd : ¬ (0 ≤ day ∧ day ≤ 200000)) (n0 : 2000 < n) (n1 : n ≤ 10000) :
    Calls Tryd.prog 3 #[.int .i64 y, .int .i64 m, .int .i64 d, .int .i64 day, .int .i64 n, .string s] w fun e w' => e = .returned (.bool true) ∧ Below w.heap.size w w' := by
  obtain ⟨a, ea, ha⟩ : ∃ a e, ofA y m d = (a, e) := ⟨_, _, rfl⟩
  obtain ⟨c, ec, hc⟩ : ∃ a e, rdO s.data.toList = (a, e) := ⟨_, _, rfl⟩
  obtain ⟨lb, hlb⟩ : ∃ b, lp y = b := ⟨_, rfl⟩
  obtain ⟨lx, hlx⟩ : ∃ b, lst y m = b := ⟨_, rfl⟩
  obtain ⟨v, hv⟩ : ∃ v, wdO day = v := ⟨_, rfl⟩
  have HT := Lib.hid hT
  have HA := Lib.hid ha
  have HC := Lib.hid hc
  have HLB := Lib.hid hlb
  have HLX := Lib.hid hlx
  have HV := Lib.hid hv
  have HD := Lib.hid hd
  clear hT ha hc hlb hlx hv hd
  go_enter Tryd.func3, Tryd.ntmps3
  go_wp2_with (fail)
  go_must (refine (small_any _ HT.out).mono ?_)
  rintro e w0 ⟨rfl, hB⟩
  go_wp2_with (fail)
  go_must (refine (of_g _ HA.out).mono ?_)
  rintro e wz ⟨rfl, rfl⟩
  go_wp2_with (fail)
  go_must (refine (rof_g _ HA.out).mono ?_)
  rintro e w1 ⟨rfl, hb1⟩
  replace hB := Gen.over hb1 hB
  clear hb1
  go_wp2_with (fail)
  go_must (refine (parts_no _ _ HD.out).mono ?_)
  rintro e wz ⟨rfl, rfl⟩
  go_wp2_with (fail)
  go_must (refine (rparts_no _ _ HD.out).mono ?_)
  rintro e w2 ⟨rfl, hb2⟩
  replace hB := Gen.over hb2 hB
  clear hb2
  go_wp2_with (fail)
  go_must (refine (read_any _ rfl hbig HC.out).mono ?_)
  rintro e w3 ⟨rfl, hb3⟩
  replace hB := Gen.over hb3 hB
  clear hb3
  go_wp2_with (fail)
  go_must (refine (rread_any _ rfl hbig HC.out).mono ?_)
  rintro e w4 ⟨rfl, hb4⟩
  replace hB := Gen.over hb4 hB
  clear hb4
  go_wp2_with (fail)
  go_must (refine (leap_g _ HLB.out).mono ?_)
  rintro e wz ⟨rfl, rfl⟩
  go_wp2_with (fail)
  go_must (refine (rleap_g _ HLB.out).mono ?_)
  rintro e wz ⟨rfl, rfl⟩
  go_wp2_with (fail)
  go_must (refine (last_g _ HLX.out).mono ?_)
  rintro e wz ⟨rfl, rfl⟩
  go_wp2_with (fail)
  go_must (refine (rlast_g _ HLX.out).mono ?_)
  rintro e w5 ⟨rfl, hb5⟩
  replace hB := Gen.over hb5 hB
  clear hb5
  go_wp2_with (fail)
  go_must (refine (wd_is _ HV.out).mono ?_)
  rintro e wz ⟨rfl, rfl⟩
  go_wp2_with (fail)
  go_must (refine (rwd_is _ HV.out).mono ?_)
  rintro e wz ⟨rfl, rfl⟩
  go_wp2_with (fail)
  go_must (refine (text_no _ HD.out).mono ?_)
  rintro e wz ⟨rfl, rfl⟩
  go_wp2_with (fail)
  go_must (refine (rtext_no _ HD.out).mono ?_)
  rintro e w6 ⟨rfl, hb6⟩
  replace hB := Gen.over hb6 hB
  clear hb6
  go_wp2
  go_ret
  exact ⟨rfl, hB⟩
set_option maxRecDepth 100000 in
set_option maxHeartbeats 8000000 in
theorem dtells_ob (y m d day n : Int) (s : ByteArray) (w : World) (hT : PowTab w) (hbig : s.size ≤ 9223372036854775807) (hd : ¬ (0 ≤ day ∧ day ≤ 200000)) (n0 : n < -2000) (n1 : -10000 ≤ n) :
    Calls Tryd.prog 3 #[.int .i64 y, .int .i64 m, .int .i64 d, .int .i64 day, .int .i64 n, .string s] w fun e w' => e = .returned (.bool true) ∧ Below w.heap.size w w' := by
  obtain ⟨a, ea, ha⟩ : ∃ a e, ofA y m d = (a, e) := ⟨_, _, rfl⟩
  obtain ⟨c, ec, hc⟩ : ∃ a e, rdO s.data.toList = (a, e) := ⟨_, _, rfl⟩
  obtain ⟨lb, hlb⟩ : ∃ b, lp y = b := ⟨_, rfl⟩
  obtain ⟨lx, hlx⟩ : ∃ b, lst y m = b := ⟨_, rfl⟩
  obtain ⟨v, hv⟩ : ∃ v, wdO day = v := ⟨_, rfl⟩
  have HT := Lib.hid hT
  have HA := Lib.hid ha
  have HC := Lib.hid hc
  have HLB := Lib.hid hlb
  have HLX := Lib.hid hlx
  have HV := Lib.hid hv
  have HD := Lib.hid hd
  clear hT ha hc hlb hlx hv hd
  go_enter Tryd.func3, Tryd.ntmps3
  go_wp2_with (fail)
  go_must (refine (small_any _ HT.out).mono ?_)
  rintro e w0 ⟨rfl, hB⟩
  go_wp2_with (fail)
  go_must (refine (of_g _ HA.out).mono ?_)
  rintro e wz ⟨rfl, rfl⟩
  go_wp2_with (fail)
  go_must (refine (rof_g _ HA.out).mono ?_)
  rintro e w1 ⟨rfl, hb1⟩
  replace hB := Gen.over hb1 hB
  clear hb1
  go_wp2_with (fail)
  go_must (refine (parts_no _ _ HD.out).mono ?_)
  rintro e wz ⟨rfl, rfl⟩
  go_wp2_with (fail)
  go_must (refine (rparts_no _ _ HD.out).mono ?_)
  rintro e w2 ⟨rfl, hb2⟩
  replace hB := Gen.over hb2 hB
  clear hb2
  go_wp2_with (fail)
  go_must (refine (read_any _ rfl hbig HC.out).mono ?_)
  rintro e w3 ⟨rfl, hb3⟩
  replace hB := Gen.over hb3 hB
  clear hb3
  go_wp2_with (fail)
  go_must (refine (rread_any _ rfl hbig HC.out).mono ?_)
  rintro e w4 ⟨rfl, hb4⟩
  replace hB := Gen.over hb4 hB
  clear hb4
  go_wp2_with (fail)
  go_must (refine (leap_g _ HLB.out).mono ?_)
  rintro e wz ⟨rfl, rfl⟩
  go_wp2_with (fail)
  go_must (refine (rleap_g _ HLB.out).mono ?_)
  rintro e wz ⟨rfl, rfl⟩
  go_wp2_with (fail)
  go_must (refine (last_g _ HLX.out).mono ?_)
  rintro e wz ⟨rfl, rfl⟩
  go_wp2_with (fail)
  go_must (refine (rlast_g _ HLX.out).mono ?_)
  rintro e w5 ⟨rfl, hb5⟩
  replace hB := Gen.over hb5 hB
  clear hb5
  go_wp2_with (fail)
  go_must (refine (wd_is _ HV.out).mono ?_)
  rintro e wz ⟨rfl, rfl⟩
  go_wp2_with (fail)
  go_must (refine (rwd_is _ HV.out).mono ?_)
  rintro e wz ⟨rfl, rfl⟩
  go_wp2_with (fail)
  go_must (refine (text_no _ HD.out).mono ?_)
  rintro e wz ⟨rfl, rfl⟩
  go_wp2_with (fail)
  go_must (refine (rtext_no _ HD.out).mono ?_)
  rintro e w6 ⟨rfl, hb6⟩
  replace hB := Gen.over hb6 hB
  clear hb6
  go_wp2
  go_ret
  exact ⟨rfl, hB⟩
set_option maxRecDepth 100000 in
set_option maxHeartbeats 8000000 in
theorem dtells_oc (y m d day n : Int) (s : ByteArray) (w : World) (hT : PowTab w) (hbig : s.size ≤ 9223372036854775807) (hd : ¬ (0 ≤ day ∧ day ≤ 200000)) (n0 : 10000 < n) :
    Calls Tryd.prog 3 #[.int .i64 y, .int .i64 m, .int .i64 d, .int .i64 day, .int .i64 n, .string s] w fun e w' => e = .returned (.bool true) ∧ Below w.heap.size w w' := by
  obtain ⟨a, ea, ha⟩ : ∃ a e, ofA y m d = (a, e) := ⟨_, _, rfl⟩
  obtain ⟨c, ec, hc⟩ : ∃ a e, rdO s.data.toList = (a, e) := ⟨_, _, rfl⟩
  obtain ⟨lb, hlb⟩ : ∃ b, lp y = b := ⟨_, rfl⟩
  obtain ⟨lx, hlx⟩ : ∃ b, lst y m = b := ⟨_, rfl⟩
  obtain ⟨v, hv⟩ : ∃ v, wdO day = v := ⟨_, rfl⟩
  have HT := Lib.hid hT
  have HA := Lib.hid ha
  have HC := Lib.hid hc
  have HLB := Lib.hid hlb
  have HLX := Lib.hid hlx
  have HV := Lib.hid hv
  have HD := Lib.hid hd
  have HZ := Lib.hid (show amO day n = (0, 3) from amO_off (decide_eq_false hd))
  clear hT ha hc hlb hlx hv hd
  go_enter Tryd.func3, Tryd.ntmps3
  go_wp2_with (fail)
  go_must (refine (small_any _ HT.out).mono ?_)
  rintro e w0 ⟨rfl, hB⟩
  go_wp2_with (fail)
  go_must (refine (of_g _ HA.out).mono ?_)
  rintro e wz ⟨rfl, rfl⟩
  go_wp2_with (fail)
  go_must (refine (rof_g _ HA.out).mono ?_)
  rintro e w1 ⟨rfl, hb1⟩
  replace hB := Gen.over hb1 hB
  clear hb1
  go_wp2_with (fail)
  go_must (refine (parts_no _ _ HD.out).mono ?_)
  rintro e wz ⟨rfl, rfl⟩
  go_wp2_with (fail)
  go_must (refine (rparts_no _ _ HD.out).mono ?_)
  rintro e w2 ⟨rfl, hb2⟩
  replace hB := Gen.over hb2 hB
  clear hb2
  go_wp2_with (fail)
  go_must (refine (read_any _ rfl hbig HC.out).mono ?_)
  rintro e w3 ⟨rfl, hb3⟩
  replace hB := Gen.over hb3 hB
  clear hb3
  go_wp2_with (fail)
  go_must (refine (rread_any _ rfl hbig HC.out).mono ?_)
  rintro e w4 ⟨rfl, hb4⟩
  replace hB := Gen.over hb4 hB
  clear hb4
  go_wp2_with (fail)
  go_must (refine (leap_g _ HLB.out).mono ?_)
  rintro e wz ⟨rfl, rfl⟩
  go_wp2_with (fail)
  go_must (refine (rleap_g _ HLB.out).mono ?_)
  rintro e wz ⟨rfl, rfl⟩
  go_wp2_with (fail)
  go_must (refine (last_g _ HLX.out).mono ?_)
  rintro e wz ⟨rfl, rfl⟩
  go_wp2_with (fail)
  go_must (refine (rlast_g _ HLX.out).mono ?_)
  rintro e w5 ⟨rfl, hb5⟩
  replace hB := Gen.over hb5 hB
  clear hb5
  go_wp2_with (fail)
  go_must (refine (wd_is _ HV.out).mono ?_)
  rintro e wz ⟨rfl, rfl⟩
  go_wp2_with (fail)
  go_must (refine (rwd_is _ HV.out).mono ?_)
  rintro e wz ⟨rfl, rfl⟩
  go_wp2_with (fail)
  go_must (refine (text_no _ HD.out).mono ?_)
  rintro e wz ⟨rfl, rfl⟩
  go_wp2_with (fail)
  go_must (refine (rtext_no _ HD.out).mono ?_)
  rintro e w6 ⟨rfl, hb6⟩
  replace hB := Gen.over hb6 hB
  clear hb6
  go_wp2_with (fail)
  go_must (refine (am_is _ HZ.out).mono ?_)
  first | rintro e wz ⟨rfl, rfl⟩ | (rintro e wz ⟨rfl, hbz⟩; replace hB := Gen.over hbz hB)
  go_wp2_with (fail)
  go_must (refine (ram_no _ HD.out).mono ?_)
  rintro e w7 ⟨rfl, hb7⟩
  replace hB := Gen.over hb7 hB
  clear hb7
  go_wp2
  go_ret
  exact ⟨rfl, hB⟩
set_option maxRecDepth 100000 in
set_option maxHeartbeats 8000000 in
theorem dtells_oe (y m d day n : Int) (s : ByteArray) (w : World) (hT : PowTab w) (hbig : s.size ≤ 9223372036854775807) (hd : ¬ (0 ≤ day ∧ day ≤ 200000)) (n0 : n < -10000) :
    Calls Tryd.prog 3 #[.int .i64 y, .int .i64 m, .int .i64 d, .int .i64 day, .int .i64 n, .string s] w fun e w' => e = .returned (.bool true) ∧ Below w.heap.size w w' := by
  obtain ⟨a, ea, ha⟩ : ∃ a e, ofA y m d = (a, e) := ⟨_, _, rfl⟩
  obtain ⟨c, ec, hc⟩ : ∃ a e, rdO s.data.toList = (a, e) := ⟨_, _, rfl⟩
  obtain ⟨lb, hlb⟩ : ∃ b, lp y = b := ⟨_, rfl⟩
  obtain ⟨lx, hlx⟩ : ∃ b, lst y m = b := ⟨_, rfl⟩
  obtain ⟨v, hv⟩ : ∃ v, wdO day = v := ⟨_, rfl⟩
  have HT := Lib.hid hT
  have HA := Lib.hid ha
  have HC := Lib.hid hc
  have HLB := Lib.hid hlb
  have HLX := Lib.hid hlx
  have HV := Lib.hid hv
  have HD := Lib.hid hd
  have HZ := Lib.hid (show amO day n = (0, 3) from amO_off (decide_eq_false hd))
  clear hT ha hc hlb hlx hv hd
  go_enter Tryd.func3, Tryd.ntmps3
  go_wp2_with (fail)
  go_must (refine (small_any _ HT.out).mono ?_)
  rintro e w0 ⟨rfl, hB⟩
  go_wp2_with (fail)
  go_must (refine (of_g _ HA.out).mono ?_)
  rintro e wz ⟨rfl, rfl⟩
  go_wp2_with (fail)
  go_must (refine (rof_g _ HA.out).mono ?_)
  rintro e w1 ⟨rfl, hb1⟩
  replace hB := Gen.over hb1 hB
  clear hb1
  go_wp2_with (fail)
  go_must (refine (parts_no _ _ HD.out).mono ?_)
  rintro e wz ⟨rfl, rfl⟩
  go_wp2_with (fail)
  go_must (refine (rparts_no _ _ HD.out).mono ?_)
  rintro e w2 ⟨rfl, hb2⟩
  replace hB := Gen.over hb2 hB
  clear hb2
  go_wp2_with (fail)
  go_must (refine (read_any _ rfl hbig HC.out).mono ?_)
  rintro e w3 ⟨rfl, hb3⟩
  replace hB := Gen.over hb3 hB
  clear hb3
  go_wp2_with (fail)
  go_must (refine (rread_any _ rfl hbig HC.out).mono ?_)
  rintro e w4 ⟨rfl, hb4⟩
  replace hB := Gen.over hb4 hB
  clear hb4
  go_wp2_with (fail)
  go_must (refine (leap_g _ HLB.out).mono ?_)
  rintro e wz ⟨rfl, rfl⟩
  go_wp2_with (fail)
  go_must (refine (rleap_g _ HLB.out).mono ?_)
  rintro e wz ⟨rfl, rfl⟩
  go_wp2_with (fail)
  go_must (refine (last_g _ HLX.out).mono ?_)
  rintro e wz ⟨rfl, rfl⟩
  go_wp2_with (fail)
  go_must (refine (rlast_g _ HLX.out).mono ?_)
  rintro e w5 ⟨rfl, hb5⟩
  replace hB := Gen.over hb5 hB
  clear hb5
  go_wp2_with (fail)
  go_must (refine (wd_is _ HV.out).mono ?_)
  rintro e wz ⟨rfl, rfl⟩
  go_wp2_with (fail)
  go_must (refine (rwd_is _ HV.out).mono ?_)
  rintro e wz ⟨rfl, rfl⟩
  go_wp2_with (fail)
  go_must (refine (text_no _ HD.out).mono ?_)
  rintro e wz ⟨rfl, rfl⟩
  go_wp2_with (fail)
  go_must (refine (rtext_no _ HD.out).mono ?_)
  rintro e w6 ⟨rfl, hb6⟩
  replace hB := Gen.over hb6 hB
  clear hb6
  go_wp2_with (fail)
  go_must (refine (am_is _ HZ.out).mono ?_)
  first | rintro e wz ⟨rfl, rfl⟩ | (rintro e wz ⟨rfl, hbz⟩; replace hB := Gen.over hbz hB)
  go_wp2_with (fail)
  go_must (refine (ram_no _ HD.out).mono ?_)
  rintro e w7 ⟨rfl, hb7⟩
  replace hB := Gen.over hb7 hB
  clear hb7
  go_wp2
  go_ret
  exact ⟨rfl, hB⟩
set_option maxRecDepth 100000 in
set_option maxHeartbeats 8000000 in
theorem dtells_of (y m d day n : Int) (s : ByteArray) (w : World) (hT : PowTab w) (hbig : s.size ≤ 9223372036854775807) (hd : ¬ (0 ≤ day ∧ day ≤ 200000)) (n0 : -2000 ≤ n) (n1 : n ≤ 2000) :
    Calls Tryd.prog 3 #[.int .i64 y, .int .i64 m, .int .i64 d, .int .i64 day, .int .i64 n, .string s] w fun e w' => e = .returned (.bool true) ∧ Below w.heap.size w w' := by
  obtain ⟨a, ea, ha⟩ : ∃ a e, ofA y m d = (a, e) := ⟨_, _, rfl⟩
  obtain ⟨c, ec, hc⟩ : ∃ a e, rdO s.data.toList = (a, e) := ⟨_, _, rfl⟩
  obtain ⟨lb, hlb⟩ : ∃ b, lp y = b := ⟨_, rfl⟩
  obtain ⟨lx, hlx⟩ : ∃ b, lst y m = b := ⟨_, rfl⟩
  obtain ⟨v, hv⟩ : ∃ v, wdO day = v := ⟨_, rfl⟩
  have HT := Lib.hid hT
  have HA := Lib.hid ha
  have HC := Lib.hid hc
  have HLB := Lib.hid hlb
  have HLX := Lib.hid hlx
  have HV := Lib.hid hv
  have HD := Lib.hid hd
  have HZ := Lib.hid (show amO day n = (0, 3) from amO_off (decide_eq_false hd))
  clear hT ha hc hlb hlx hv hd
  go_enter Tryd.func3, Tryd.ntmps3
  go_wp2_with (fail)
  go_must (refine (small_any _ HT.out).mono ?_)
  rintro e w0 ⟨rfl, hB⟩
  go_wp2_with (fail)
  go_must (refine (of_g _ HA.out).mono ?_)
  rintro e wz ⟨rfl, rfl⟩
  go_wp2_with (fail)
  go_must (refine (rof_g _ HA.out).mono ?_)
  rintro e w1 ⟨rfl, hb1⟩
  replace hB := Gen.over hb1 hB
  clear hb1
  go_wp2_with (fail)
  go_must (refine (parts_no _ _ HD.out).mono ?_)
  rintro e wz ⟨rfl, rfl⟩
  go_wp2_with (fail)
  go_must (refine (rparts_no _ _ HD.out).mono ?_)
  rintro e w2 ⟨rfl, hb2⟩
  replace hB := Gen.over hb2 hB
  clear hb2
  go_wp2_with (fail)
  go_must (refine (read_any _ rfl hbig HC.out).mono ?_)
  rintro e w3 ⟨rfl, hb3⟩
  replace hB := Gen.over hb3 hB
  clear hb3
  go_wp2_with (fail)
  go_must (refine (rread_any _ rfl hbig HC.out).mono ?_)
  rintro e w4 ⟨rfl, hb4⟩
  replace hB := Gen.over hb4 hB
  clear hb4
  go_wp2_with (fail)
  go_must (refine (leap_g _ HLB.out).mono ?_)
  rintro e wz ⟨rfl, rfl⟩
  go_wp2_with (fail)
  go_must (refine (rleap_g _ HLB.out).mono ?_)
  rintro e wz ⟨rfl, rfl⟩
  go_wp2_with (fail)
  go_must (refine (last_g _ HLX.out).mono ?_)
  rintro e wz ⟨rfl, rfl⟩
  go_wp2_with (fail)
  go_must (refine (rlast_g _ HLX.out).mono ?_)
  rintro e w5 ⟨rfl, hb5⟩
  replace hB := Gen.over hb5 hB
  clear hb5
  go_wp2_with (fail)
  go_must (refine (wd_is _ HV.out).mono ?_)
  rintro e wz ⟨rfl, rfl⟩
  go_wp2_with (fail)
  go_must (refine (rwd_is _ HV.out).mono ?_)
  rintro e wz ⟨rfl, rfl⟩
  go_wp2_with (fail)
  go_must (refine (text_no _ HD.out).mono ?_)
  rintro e wz ⟨rfl, rfl⟩
  go_wp2_with (fail)
  go_must (refine (rtext_no _ HD.out).mono ?_)
  rintro e w6 ⟨rfl, hb6⟩
  replace hB := Gen.over hb6 hB
  clear hb6
  go_wp2_with (fail)
  go_must (refine (am_is _ HZ.out).mono ?_)
  first | rintro e wz ⟨rfl, rfl⟩ | (rintro e wz ⟨rfl, hbz⟩; replace hB := Gen.over hbz hB)
  go_wp2_with (fail)
  go_must (refine (ram_no _ HD.out).mono ?_)
  rintro e w7 ⟨rfl, hb7⟩
  replace hB := Gen.over hb7 hB
  clear hb7
  go_wp2
  go_ret
  exact ⟨rfl, hB⟩
theorem dtells_any (y m d day n : Int) (s : ByteArray) (w : World) (hT : PowTab w) (hbig : s.size ≤ 9223372036854775807) :
    Calls Tryd.prog 3 #[.int .i64 y, .int .i64 m, .int .i64 d, .int .i64 day, .int .i64 n, .string s] w fun e w' => e = .returned (.bool true) ∧ Below w.heap.size w w' := by
  by_cases hd : 0 ≤ day ∧ day ≤ 200000
  · obtain ⟨h0, h1⟩ := hd
    rcases (show (2000 < n ∧ n ≤ 10000) ∨ (n < -2000 ∧ -10000 ≤ n) ∨ 10000 < n ∨ n < -10000 ∨ (-2000 ≤ n ∧ n ≤ 2000) by omega) with ⟨a, b⟩ | ⟨a, b⟩ | a | a | ⟨a, b⟩
    · exact dtells_ia y m d day n s w hT hbig h0 h1 a b
    · exact dtells_ib y m d day n s w hT hbig h0 h1 a b
    · exact dtells_ic y m d day n s w hT hbig h0 h1 a
    · exact dtells_ie y m d day n s w hT hbig h0 h1 a
    · exact dtells_if y m d day n s w hT hbig h0 h1 a b
  · rcases (show (2000 < n ∧ n ≤ 10000) ∨ (n < -2000 ∧ -10000 ≤ n) ∨ 10000 < n ∨ n < -10000 ∨ (-2000 ≤ n ∧ n ≤ 2000) by omega) with ⟨a, b⟩ | ⟨a, b⟩ | a | a | ⟨a, b⟩
    · exact dtells_oa y m d day n s w hT hbig hd a b
    · exact dtells_ob y m d day n s w hT hbig hd a b
    · exact dtells_oc y m d day n s w hT hbig hd a
    · exact dtells_oe y m d day n s w hT hbig hd a
    · exact dtells_of y m d day n s w hT hbig hd a b
end Go.Proofs.YtbfehelhedjgjaaDoor.Dat
