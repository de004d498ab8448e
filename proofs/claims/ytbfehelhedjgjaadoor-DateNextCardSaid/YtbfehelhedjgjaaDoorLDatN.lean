/- DateNext returns true: every number; the table of powers of ten as the text lays it. -/
import Derived.Test.YtbfehelhedjgjaaDoorDatS
namespace Go.Proofs.YtbfehelhedjgjaaDoor.Dat
open Go.ChangeShapes Go.WideShapes Go.ChangeAt Go.RowKit Go.Proofs.YtbfehelhedjgjaaDoor.Cell
set_option linter.unusedVariables false
set_option linter.unusedSimpArgs false

theorem of_pt {day y : Int} {m : Nat} {d : Int} (hp : Pt day y m d) (h1 : day ≤ 200000) : ofO y m d = (day, 0) := by
  have y1 := pt_hi h1 hp
  have y0 := hp.y0
  have m0 := hp.m0
  have m1 := hp.m1
  have d0 := hp.d0
  have d1 := hp.d1
  have eq := hp.eq
  unfold ofO
  rw [if_neg (by omega)]
  unfold ofR
  rw [show ((m : Int) - 1).toNat = m - 1 by omega, if_pos ⟨y0, by omega, by omega⟩, ← eq]
theorem pt_next {day y : Int} {m : Nat} {d : Int} (hp : Pt day y m d) (h : d < lst y m) : Pt (day + 1) y m (d + 1) :=
  ⟨hp.y0, hp.m0, hp.m1, by have := hp.d0; omega, by omega, by have := hp.eq; omega⟩
theorem pt_month {day y : Int} {m : Nat} {d : Int} (hp : Pt day y m d) (h : lst y m ≤ d) (hm : m < 12) : Pt (day + 1) y (m + 1) 1 := by
  have m0 := hp.m0
  have d1 := hp.d1
  have eq := hp.eq
  have hl := lst_in y ((m + 1 : Nat) : Int) (by omega) (by omega)
  refine ⟨hp.y0, by omega, by omega, by omega, by omega, ?_⟩
  have hc := cum_succ y (m - 1)
  rw [show m - 1 + 1 = m by omega, show ((m - 1 : Nat) : Int) + 1 = m by omega] at hc
  rw [show m + 1 - 1 = m by omega, hc]
  omega
theorem pt_year {day y : Int} {m : Nat} {d : Int} (hp : Pt day y m d) (h : lst y m ≤ d) (hm : m = 12) : Pt (day + 1) (y + 1) 1 1 := by
  subst hm
  have y0 := hp.y0
  have d1 := hp.d1
  have eq := hp.eq
  have hl := lst_in (y + 1) ((1 : Nat) : Int) (by omega) (by omega)
  refine ⟨by omega, by omega, by omega, by omega, by omega, ?_⟩
  have hc := cum_succ y 11
  rw [show (11 : Nat) + 1 = 12 from rfl, cum_12, show ((11 : Nat) : Int) + 1 = 12 from rfl] at hc
  have hl' : lst y ((12 : Nat) : Int) = lst y 12 := rfl
  have hy := ny_succ y (by omega)
  rw [show (12 : Nat) - 1 = 11 from rfl] at eq
  show day + 1 = ny (y + 1) + cum (y + 1) 0 + 1 - 1
  simp only [cum]
  omega

set_option maxRecDepth 100000 in
set_option maxHeartbeats 4000000 in
theorem dnext_a (day : Int) (w : World) (hT : PowTab w) (h : ¬ (0 ≤ day ∧ day ≤ 200000)) :
    Calls Tryd.prog 4 #[.int .i64 day] w fun e w' => e = .returned (.bool true) ∧ Below w.heap.size w w' := by
  have HT := Lib.hid hT
  have HW := Lib.hid (show wdO day = -1 from if_neg h)
  have HH := Lib.hid h
  clear hT
  rcases (show day < 0 ∨ (0 ≤ day ∧ 200000 < day) by omega) with a | ⟨a, b⟩
  all_goals
    clear h
    go_enter Tryd.func4, Tryd.ntmps4
    go_wp2_with (fail)
    go_must (refine (small_any _ HT.out).mono ?_)
    rintro e w1 ⟨rfl, hb1⟩
    go_wp2_with (fail)
    go_must (refine (parts_no _ _ HH.out).mono ?_)
    rintro e w2 ⟨rfl, rfl⟩
    go_wp2_with (fail)
    go_must (refine (wd_is _ HW.out).mono ?_)
    rintro e w2 ⟨rfl, rfl⟩
    go_wp2_with (fail)
    go_must (refine (text_no _ HH.out).mono ?_)
    rintro e w2 ⟨rfl, rfl⟩
    go_wp2
    go_ret
    exact ⟨rfl, hb1⟩
set_option maxRecDepth 100000 in
set_option maxHeartbeats 4000000 in
theorem dnext_b (day y : Int) (m : Nat) (d : Int) (w : World) (hT : PowTab w) (h0 : 0 ≤ day) (h1 : day ≤ 200000) (hp : Pt day y m d) (hb : day = 200000) :
    Calls Tryd.prog 4 #[.int .i64 day] w fun e w' => e = .returned (.bool true) ∧ Below w.heap.size w w' := by
  have HT := Lib.hid hT
  have HP := Lib.hid hp
  have HO := Lib.hid (of_pt hp h1)
  have y0 := hp.y0
  have y1 := pt_hi h1 hp
  have m0 := hp.m0
  have m1 := hp.m1
  have d0 := hp.d0
  obtain ⟨L, hL⟩ : ∃ L, lst y m = L := ⟨_, rfl⟩
  have d1 : d ≤ L := by rw [← hL]; exact hp.d1
  have L1 : L ≤ 31 := by rw [← hL]; exact (lst_in y m (by omega) (by omega)).2
  obtain ⟨v, hv⟩ : ∃ v, wdO day = v := ⟨_, rfl⟩
  have v01 : 0 ≤ v ∧ v ≤ 6 := by rw [← hv]; unfold wdO; rw [if_pos ⟨h0, h1⟩]; omega
  obtain ⟨v0, v1⟩ := v01
  have HL := Lib.hid hL
  have HV := Lib.hid hv
  clear hT hp hL hv
  subst hb
  go_enter Tryd.func4, Tryd.ntmps4
  go_wp2_with (fail)
  go_must (refine (small_any _ HT.out).mono ?_)
  rintro e w1 ⟨rfl, hb1⟩
  go_wp2_with (fail)
  go_must (refine (parts_is _ h0 h1 HP.out).mono ?_)
  rintro e w2 ⟨rfl, rfl⟩
  go_wp2_with (fail)
  go_must (refine (of_any _ (by omega) (by omega) HO.out).mono ?_)
  rintro e w2 ⟨rfl, rfl⟩
  go_wp2_with (fail)
  go_must (refine (last_is _ (by omega) (by omega) HL.out).mono ?_)
  rintro e w2 ⟨rfl, rfl⟩
  go_wp2_with (fail)
  go_must (refine (wd_is _ HV.out).mono ?_)
  rintro e w2 ⟨rfl, rfl⟩
  go_wp2_with (fail)
  go_must (refine (wd_is _ HV.out).mono ?_)
  rintro e w2 ⟨rfl, rfl⟩
  go_wp2
  go_ret
  exact ⟨rfl, hb1⟩
set_option maxRecDepth 100000 in
set_option maxHeartbeats 4000000 in
theorem dnext_c (day y : Int) (m : Nat) (d : Int) (w : World) (hT : PowTab w) (h0 : 0 ≤ day) (h1 : day ≤ 200000) (hp : Pt day y m d) (hlt : day < 200000) (hn : d < lst y m) :
    Calls Tryd.prog 4 #[.int .i64 day] w fun e w' => e = .returned (.bool true) ∧ Below w.heap.size w w' := by
  have HT := Lib.hid hT
  have HP := Lib.hid hp
  have HO := Lib.hid (of_pt hp h1)
  have y0 := hp.y0
  have y1 := pt_hi h1 hp
  have m0 := hp.m0
  have m1 := hp.m1
  have d0 := hp.d0
  obtain ⟨L, hL⟩ : ∃ L, lst y m = L := ⟨_, rfl⟩
  have d1 : d ≤ L := by rw [← hL]; exact hp.d1
  have L1 : L ≤ 31 := by rw [← hL]; exact (lst_in y m (by omega) (by omega)).2
  obtain ⟨v, hv⟩ : ∃ v, wdO day = v := ⟨_, rfl⟩
  have v01 : 0 ≤ v ∧ v ≤ 6 := by rw [← hv]; unfold wdO; rw [if_pos ⟨h0, h1⟩]; omega
  obtain ⟨v0, v1⟩ := v01
  have HW := Lib.hid (show wdO (day + 1) = (v + 1) % 7 from by
    rw [← hv]
    unfold wdO
    rw [if_pos (show 0 ≤ day + 1 ∧ day + 1 ≤ 200000 from ⟨by omega, by omega⟩), if_pos (show 0 ≤ day ∧ day ≤ 200000 from ⟨h0, h1⟩)]
    omega)
  have hb : (day == 200000) = false := by rw [beq_eq_false_iff_ne]; omega
  have HN := Lib.hid (pt_next hp hn)
  have hd : d < L := by rw [← hL]; exact hn
  have HL := Lib.hid hL
  have HV := Lib.hid hv
  clear hT hp hL hv hn
  go_enter Tryd.func4, Tryd.ntmps4
  go_wp2_with (fail)
  go_must (refine (small_any _ HT.out).mono ?_)
  rintro e w1 ⟨rfl, hb1⟩
  go_wp2_with (fail)
  go_must (refine (parts_is _ h0 h1 HP.out).mono ?_)
  rintro e w2 ⟨rfl, rfl⟩
  go_wp2_with (fail)
  go_must (refine (of_any _ (by omega) (by omega) HO.out).mono ?_)
  rintro e w2 ⟨rfl, rfl⟩
  go_wp2_with (fail)
  go_must (refine (last_is _ (by omega) (by omega) HL.out).mono ?_)
  rintro e w2 ⟨rfl, rfl⟩
  go_wp2_with (fail)
  go_must (refine (wd_is _ HV.out).mono ?_)
  rintro e w2 ⟨rfl, rfl⟩
  go_wp2_with (fail)
  go_must (refine (wd_is _ HV.out).mono ?_)
  rintro e w2 ⟨rfl, rfl⟩
  go_wp2_with (fail)
  go_must (refine (parts_is _ (by omega) (by omega) HN.out).mono ?_)
  rintro e w2 ⟨rfl, rfl⟩
  go_wp2_with (fail)
  go_must (refine (wd_is _ HW.out).mono ?_)
  rintro e w2 ⟨rfl, rfl⟩
  go_wp2_with (fail)
  go_must (refine (wd_is _ HV.out).mono ?_)
  rintro e w2 ⟨rfl, rfl⟩
  go_wp2_with (fail)
  go_must (refine (last_is _ (by omega) (by omega) HL.out).mono ?_)
  rintro e w2 ⟨rfl, rfl⟩
  go_wp2
  go_ret
  exact ⟨rfl, hb1⟩
set_option maxRecDepth 100000 in
set_option maxHeartbeats 4000000 in
theorem dnext_d (day y : Int) (m : Nat) (d : Int) (w : World) (hT : PowTab w) (h0 : 0 ≤ day) (h1 : day ≤ 200000) (hp : Pt day y m d) (hlt : day < 200000) (hn : lst y m ≤ d) (hm : m < 12) :
    Calls Tryd.prog 4 #[.int .i64 day] w fun e w' => e = .returned (.bool true) ∧ Below w.heap.size w w' := by
  have HT := Lib.hid hT
  have HP := Lib.hid hp
  have HO := Lib.hid (of_pt hp h1)
  have y0 := hp.y0
  have y1 := pt_hi h1 hp
  have m0 := hp.m0
  have m1 := hp.m1
  have d0 := hp.d0
  obtain ⟨L, hL⟩ : ∃ L, lst y m = L := ⟨_, rfl⟩
  have d1 : d ≤ L := by rw [← hL]; exact hp.d1
  have L1 : L ≤ 31 := by rw [← hL]; exact (lst_in y m (by omega) (by omega)).2
  obtain ⟨v, hv⟩ : ∃ v, wdO day = v := ⟨_, rfl⟩
  have v01 : 0 ≤ v ∧ v ≤ 6 := by rw [← hv]; unfold wdO; rw [if_pos ⟨h0, h1⟩]; omega
  obtain ⟨v0, v1⟩ := v01
  have HW := Lib.hid (show wdO (day + 1) = (v + 1) % 7 from by
    rw [← hv]
    unfold wdO
    rw [if_pos (show 0 ≤ day + 1 ∧ day + 1 ≤ 200000 from ⟨by omega, by omega⟩), if_pos (show 0 ≤ day ∧ day ≤ 200000 from ⟨h0, h1⟩)]
    omega)
  have hb : (day == 200000) = false := by rw [beq_eq_false_iff_ne]; omega
  have HN := Lib.hid (pt_month hp hn hm)
  have hd : L ≤ d := by rw [← hL]; exact hn
  have HL := Lib.hid hL
  have HV := Lib.hid hv
  clear hT hp hL hv hn
  go_enter Tryd.func4, Tryd.ntmps4
  go_wp2_with (fail)
  go_must (refine (small_any _ HT.out).mono ?_)
  rintro e w1 ⟨rfl, hb1⟩
  go_wp2_with (fail)
  go_must (refine (parts_is _ h0 h1 HP.out).mono ?_)
  rintro e w2 ⟨rfl, rfl⟩
  go_wp2_with (fail)
  go_must (refine (of_any _ (by omega) (by omega) HO.out).mono ?_)
  rintro e w2 ⟨rfl, rfl⟩
  go_wp2_with (fail)
  go_must (refine (last_is _ (by omega) (by omega) HL.out).mono ?_)
  rintro e w2 ⟨rfl, rfl⟩
  go_wp2_with (fail)
  go_must (refine (wd_is _ HV.out).mono ?_)
  rintro e w2 ⟨rfl, rfl⟩
  go_wp2_with (fail)
  go_must (refine (wd_is _ HV.out).mono ?_)
  rintro e w2 ⟨rfl, rfl⟩
  go_wp2_with (fail)
  go_must (refine (parts_is _ (by omega) (by omega) HN.out).mono ?_)
  rintro e w2 ⟨rfl, rfl⟩
  go_wp2_with (fail)
  go_must (refine (wd_is _ HW.out).mono ?_)
  rintro e w2 ⟨rfl, rfl⟩
  go_wp2_with (fail)
  go_must (refine (wd_is _ HV.out).mono ?_)
  rintro e w2 ⟨rfl, rfl⟩
  go_wp2_with (fail)
  go_must (refine (last_is _ (by omega) (by omega) HL.out).mono ?_)
  rintro e w2 ⟨rfl, rfl⟩
  go_wp2
  go_ret
  exact ⟨rfl, hb1⟩
set_option maxRecDepth 100000 in
set_option maxHeartbeats 4000000 in
theorem dnext_e (day y : Int) (m : Nat) (d : Int) (w : World) (hT : PowTab w) (h0 : 0 ≤ day) (h1 : day ≤ 200000) (hp : Pt day y m d) (hlt : day < 200000) (hn : lst y m ≤ d) (hm : m = 12) :
    Calls Tryd.prog 4 #[.int .i64 day] w fun e w' => e = .returned (.bool true) ∧ Below w.heap.size w w' := by
  have HT := Lib.hid hT
  have HP := Lib.hid hp
  have HO := Lib.hid (of_pt hp h1)
  have y0 := hp.y0
  have y1 := pt_hi h1 hp
  have m0 := hp.m0
  have m1 := hp.m1
  have d0 := hp.d0
  obtain ⟨L, hL⟩ : ∃ L, lst y m = L := ⟨_, rfl⟩
  have d1 : d ≤ L := by rw [← hL]; exact hp.d1
  have L1 : L ≤ 31 := by rw [← hL]; exact (lst_in y m (by omega) (by omega)).2
  obtain ⟨v, hv⟩ : ∃ v, wdO day = v := ⟨_, rfl⟩
  have v01 : 0 ≤ v ∧ v ≤ 6 := by rw [← hv]; unfold wdO; rw [if_pos ⟨h0, h1⟩]; omega
  obtain ⟨v0, v1⟩ := v01
  have HW := Lib.hid (show wdO (day + 1) = (v + 1) % 7 from by
    rw [← hv]
    unfold wdO
    rw [if_pos (show 0 ≤ day + 1 ∧ day + 1 ≤ 200000 from ⟨by omega, by omega⟩), if_pos (show 0 ≤ day ∧ day ≤ 200000 from ⟨h0, h1⟩)]
    omega)
  have hb : (day == 200000) = false := by rw [beq_eq_false_iff_ne]; omega
  have HN := Lib.hid (pt_year hp hn hm)
  have hd : L ≤ d := by rw [← hL]; exact hn
  have HL := Lib.hid hL
  have HV := Lib.hid hv
  clear hT hp hL hv hn
  subst hm
  go_enter Tryd.func4, Tryd.ntmps4
  go_wp2_with (fail)
  go_must (refine (small_any _ HT.out).mono ?_)
  rintro e w1 ⟨rfl, hb1⟩
  go_wp2_with (fail)
  go_must (refine (parts_is _ h0 h1 HP.out).mono ?_)
  rintro e w2 ⟨rfl, rfl⟩
  go_wp2_with (fail)
  go_must (refine (of_any _ (by omega) (by omega) HO.out).mono ?_)
  rintro e w2 ⟨rfl, rfl⟩
  go_wp2_with (fail)
  go_must (refine (last_is _ (by omega) (by omega) HL.out).mono ?_)
  rintro e w2 ⟨rfl, rfl⟩
  go_wp2_with (fail)
  go_must (refine (wd_is _ HV.out).mono ?_)
  rintro e w2 ⟨rfl, rfl⟩
  go_wp2_with (fail)
  go_must (refine (wd_is _ HV.out).mono ?_)
  rintro e w2 ⟨rfl, rfl⟩
  go_wp2_with (fail)
  go_must (refine (parts_is _ (by omega) (by omega) HN.out).mono ?_)
  rintro e w2 ⟨rfl, rfl⟩
  go_wp2_with (fail)
  go_must (refine (wd_is _ HW.out).mono ?_)
  rintro e w2 ⟨rfl, rfl⟩
  go_wp2_with (fail)
  go_must (refine (wd_is _ HV.out).mono ?_)
  rintro e w2 ⟨rfl, rfl⟩
  go_wp2_with (fail)
  go_must (refine (last_is _ (by omega) (by omega) HL.out).mono ?_)
  rintro e w2 ⟨rfl, rfl⟩
  go_wp2
  go_ret
  exact ⟨rfl, hb1⟩
theorem dnext_any (day : Int) (w : World) (hT : PowTab w) :
    Calls Tryd.prog 4 #[.int .i64 day] w fun e w' => e = .returned (.bool true) ∧ Below w.heap.size w w' := by
  by_cases h : 0 ≤ day ∧ day ≤ 200000
  · obtain ⟨h0, h1⟩ := h
    obtain ⟨y, m, d, hp⟩ := pt_ex day h0 h1
    by_cases hb : day = 200000
    · exact dnext_b day y m d w hT h0 h1 hp hb
    · by_cases hn : d < lst y m
      · exact dnext_c day y m d w hT h0 h1 hp (by omega) hn
      · by_cases hm : m < 12
        · exact dnext_d day y m d w hT h0 h1 hp (by omega) (by omega) hm
        · exact dnext_e day y m d w hT h0 h1 hp (by omega) (by omega) (by have := hp.m1; omega)
  · exact dnext_a day w hT h
end Go.Proofs.YtbfehelhedjgjaaDoor.Dat
