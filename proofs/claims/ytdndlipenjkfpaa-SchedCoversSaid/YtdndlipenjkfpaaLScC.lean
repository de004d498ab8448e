/- SchedCovers returns true: all terms, calendars and days; no condition. -/
import Derived.Test.YtdndlipenjkfpaaSchL
namespace Go.Proofs.Ytdndlipenjkfpaa.Dat
open Go.ChangeShapes Go.WideShapes Go.ChangeAt Go.RowKit Go.Proofs.Ytdndlipenjkfpaa.Cell
set_option linter.unusedVariables false
set_option linter.unusedSimpArgs false

section
variable {cs : Array Value} {fr to ev ad re : Int} {A A' : Option Addr} {n cap m cap' : Nat} {rs ds : List Int}
set_option maxRecDepth 100000 in
set_option maxHeartbeats 8000000 in
theorem cov_err {e : Int} (day : Int) (w : World) (ht : Tm cs fr to ev ad re) (hn : rs.length = n) (hc : Ints w A rs) (hm : ds.length = m) (hc' : Ints w A' ds) (hbig : n ≤ 9223372036854775807) (hbig' : m ≤ 9223372036854775807) (hp : perO rs ds fr to ev ad re = ([], e)) (he : e = 1 ∨ e = 3) :
    Calls Try.prog 9 #[.agg cs, .agg #[.slice A n cap, .slice A' m cap'], .int .i64 day] w fun e w' => e = .returned (.bool true) ∧ Below w.heap.size w w' := by
  have h0 := Hp.new (cs := cs) (n := n) (cap := cap) (m := m) (cap' := cap') w hc hc'
  have HN := Lib.hid hn
  have HM := Lib.hid hm
  have T := Lib.hid ht
  have TI := Lib.hid infoTm
  clear hn hm hc hc' ht
  have X := Lib.hid hp
  have Q := Lib.hid (show ([] : List Pr).length = 0 from rfl)
  clear hp
  rcases he with rfl | rfl
  all_goals
    go_enter Try.func9, Try.ntmps9
    go_wp2_with (fail)
    go_must (refine (sch_small _).mono ?_)
    rintro e w1 ⟨rfl, hb⟩
    have h1 := h0.keep hb
    have k0 := h1.c0
    have k1 := h1.c1
    clear h0 hb
    go_wp2_with (first | (refine wpList_load_row rfl 46 _ rfl w.heap.size rfl _ cs _ _ (Row_hp (h1.x)) Try.underlying46 rfl (TI.out.trans (by rw [T.out.sz])) ?_) | fail)
    go_must (refine (fewS_any _ T.out (by assumption) (by assumption)).mono ?_)
    rintro e w2 ⟨b, rfl, hb, hf⟩
    have h2 := h1.keep hb
    cases b
    · clear k0 k1 h1 hb
      go_wp2
      go_ret
      exact ⟨rfl, h2.b⟩
    obtain ⟨f1, f2, f3⟩ := hf rfl
    clear k0 k1 h1 hb hf
    have k0 := h2.c0
    have k1 := h2.c1
    go_wp2_with (first | (refine wpList_load_row rfl 46 _ rfl w.heap.size rfl _ cs _ _ (Row_hp (h2.x)) Try.underlying46 rfl (TI.out.trans (by rw [T.out.sz])) ?_) | fail)
    go_must (refine (periods_is _ T.out HN.out h2.i (by omega) HM.out h2.j (by omega) X.out Q.out).mono ?_)
    rintro e w3 ⟨A3, c3, rfl, hb, ip⟩
    have h3 := h2.keep hb
    clear h2 hb k0 k1
    go_wp2
    go_ret
    exact ⟨rfl, h3.b⟩

set_option maxRecDepth 100000 in
set_option maxHeartbeats 8000000 in
theorem cov_ok {l : List Pr} {M : Nat} {at_ : Int} {b : Bool} (day : Int) (w : World) (ht : Tm cs fr to ev ad re) (hn : rs.length = n) (hc : Ints w A rs) (hm : ds.length = m) (hc' : Ints w A' ds) (hbig : n ≤ 9223372036854775807) (hbig' : m ≤ 9223372036854775807) (hp : perO rs ds fr to ev ad re = (l, 0)) (hM : l.length = M + 1) (ha : atA day 0 l = (at_, b)) :
    Calls Try.prog 9 #[.agg cs, .agg #[.slice A n cap, .slice A' m cap'], .int .i64 day] w fun e w' => e = .returned (.bool true) ∧ Below w.heap.size w w' := by
  have h0 := Hp.new (cs := cs) (n := n) (cap := cap) (m := m) (cap' := cap') w hc hc'
  have HN := Lib.hid hn
  have HM := Lib.hid hm
  have T := Lib.hid ht
  have TI := Lib.hid infoTm
  clear hn hm hc hc' ht
  have ok : PerOk rs ds fr to ev ad re l := by
    rcases perO_01 hp with h | h
    · exact h.2
    · have := h.1; omega
  have X := Lib.hid hp
  have Q := Lib.hid hM
  have AT := Lib.hid ha
  have OK := Lib.hid ok
  have M1 : M ≤ 10002 := by have := ok.pos; omega
  clear hp hM ha ok
  go_enter Try.func9, Try.ntmps9
  go_wp2_with (fail)
  go_must (refine (sch_small _).mono ?_)
  rintro e w1 ⟨rfl, hb⟩
  have h1 := h0.keep hb
  have k0 := h1.c0
  have k1 := h1.c1
  clear h0 hb
  go_wp2_with (first | (refine wpList_load_row rfl 46 _ rfl w.heap.size rfl _ cs _ _ (Row_hp (h1.x)) Try.underlying46 rfl (TI.out.trans (by rw [T.out.sz])) ?_) | fail)
  go_must (refine (fewS_any _ T.out (by assumption) (by assumption)).mono ?_)
  rintro e w2 ⟨b, rfl, hb, hf⟩
  have h2 := h1.keep hb
  cases b
  · clear k0 k1 h1 hb
    go_wp2
    go_ret
    exact ⟨rfl, h2.b⟩
  obtain ⟨f1, f2, f3⟩ := hf rfl
  clear k0 k1 h1 hb hf
  have k0 := h2.c0
  have k1 := h2.c1
  go_wp2_with (first | (refine wpList_load_row rfl 46 _ rfl w.heap.size rfl _ cs _ _ (Row_hp (h2.x)) Try.underlying46 rfl (TI.out.trans (by rw [T.out.sz])) ?_) | fail)
  go_must (refine (periods_is _ T.out HN.out h2.i (by omega) HM.out h2.j (by omega) X.out Q.out).mono ?_)
  rintro e w3 ⟨A3, c3, rfl, hb, ip⟩
  have h3 := h2.keep hb
  clear h2 hb k0 k1
  go_wp2_with (fail)
  go_loopw [10, 11] (fun mv iv wr => ∃ (k : Nat) (c x : Int), k ≤ M + 1 ∧ iv = .int .i64 k ∧ mv = .int .i64 c ∧ Hid ((bdL fr to ev)[k]? = some x) ∧ Hid (fr ≤ x) ∧ Hid (c = if fr ≤ day ∧ day < x then 1 else 0) ∧ 0 ≤ c ∧ c ≤ 1 ∧ Below w3.heap.size w3 wr) (fun _ iv _ => M + 1 - (intOf iv).toNat)
  case atStart => exact ⟨0, 0, fr, Nat.zero_le _, rfl, rfl, Lib.hid (bdL_0 _ _ _), Lib.hid (Int.le_refl _), Lib.hid (by rw [if_neg (by omega)]), by omega, by omega, Below.refl _ _⟩
  case round =>
    obtain ⟨k, c, x, hk, rfl, rfl, HX, HF, HC, c0, c1, hW⟩ := hrel
    by_cases hlt : k < M + 1
    · obtain ⟨bb, off, rfl, hcell⟩ := (ip.keep hW) (by rw [Q.out]; omega)
      obtain ⟨t, ht⟩ := Cell.at_ l k (by rw [Q.out]; exact hlt)
      obtain ⟨a0, a1, a2, a3⟩ := hcell k t ht
      obtain ⟨ta, tb⟩ := OK.out.each k t ht
      have tin := OK.out.in_ ht
      have htx : t.1 = x := by
        have := HX.out
        rw [this] at ta
        injection ta with ta
        exact ta.symm
      have HX2 := Lib.hid tb.1
      have HF2 := Lib.hid (show fr ≤ t.2.1 by omega)
      have hlt2 : t.1 < t.2.1 := tin.2.1
      have prev : ∀ j, k = j + 1 → ∃ u : Pr, wr.cell? ⟨bb, off + j * 4 + 1, none⟩ = some (.int .i64 u.2.1) ∧ u.2.1 = t.1 := fun j hj => by
        obtain ⟨u, hu⟩ := Cell.at_ l j (by rw [Q.out]; omega)
        subst hj
        exact ⟨u, (hcell j u hu).2.1, (OK.out.next hu ht).symm⟩
      have kk0 : (0 : Int) ≤ (k : Int) := by omega
      have kk1 : (k : Int) < (M : Int) + 1 := by omega
      have HIN := Lib.hid (show (if fr ≤ day ∧ day < t.2.1 then (1 : Int) else 0) = c + (if t.1 ≤ day ∧ day < t.2.1 then 1 else 0) from by
        have := HF.out
        rw [HC.out, htx]
        rw [htx] at hlt2
        by_cases q1 : fr ≤ day <;> by_cases q2 : day < x <;> by_cases q3 : day < t.2.1 <;> by_cases q4 : x ≤ day <;> simp [q1, q2, q3, q4] <;> omega)
      have HC01 := Lib.hid (show t.1 ≤ day → c = 0 from fun h => by rw [HC.out, if_neg (by omega)])
      clear hcell ht ta tb tin htx HX HF HC
      obtain ⟨f, u, p, r⟩ := t
      dsimp only at a0 a1 a2 a3 hlt2 prev HX2 HF2 HIN HC01
      have q0 : decide (u ≤ f) = false := decide_eq_false (by omega)
      rcases Nat.eq_zero_or_pos k with hk0 | hk0
      · subst hk0
        simp only [Nat.zero_mul, Nat.add_zero] at a0 a1 a2 a3
        clear prev
        go_wp2
        go_quiet (fail)
        by_cases d1 : f ≤ day ∧ day < u
        · obtain ⟨d1, d2⟩ := d1
          have hc0 := HC01.out d1
          have HG := Lib.hid (show c + 1 = if fr ≤ day ∧ day < u then 1 else 0 from by rw [HIN.out, if_pos ⟨d1, d2⟩])
          subst hc0
          go_wp2
          go_roundw
          case rel => exact ⟨0 + 1, 0 + 1, u, by omega, by go_num, rfl, HX2, HF2, HG, by omega, by omega, Gen.dN hW _⟩
          case measure => simp [intOf] <;> omega
        · have HG := Lib.hid (show c = if fr ≤ day ∧ day < u then 1 else 0 from by rw [HIN.out, if_neg d1, Int.add_zero])
          rcases (show day < f ∨ (f ≤ day ∧ u ≤ day) by omega) with d2 | ⟨d2, d3⟩
          all_goals
            clear d1
            go_wp2
            go_roundw
            case rel => first | exact ⟨0 + 1, c, u, by omega, by go_num, rfl, HX2, HF2, HG, c0, c1, Gen.dN hW _⟩ | exact ⟨_, _, _, ⟨0 + 1, by omega, by go_num, c, rfl, u, HX2, HF2, HG, c0, c1, Gen.dN hW _⟩, rfl, rfl, rfl⟩
            case measure => simp [intOf] <;> omega
      · obtain ⟨j, rfl⟩ : ∃ j, k = j + 1 := ⟨k - 1, by omega⟩
        obtain ⟨u', d0, hu'⟩ := prev j rfl
        rw [hu'] at d0
        have i0 : (0 : Int) ≤ (j : Int) := by omega
        have i1 : (j : Int) < (M : Int) + 1 := by omega
        have q4 : decide ((0 : Int) < (j : Int) + 1) = true := decide_eq_true (by omega)
        have q6 : (if (j : Int) < 0 then (0 : Int) else j) = j := if_neg (by omega)
        clear prev hu'
        go_wp2
        have q7 : IntKind.i64.wrap (j : Int) = j := IntWalk.i64_in _ (by omega)
        have q8 : IntKind.i64.wrap ((j : Int) + 1 - 1) = j := by rw [Int.add_sub_cancel]; exact q7
        go_quiet (fail)
        clear q7 q8 q4 q6
        by_cases d1 : f ≤ day ∧ day < u
        · obtain ⟨d1, d2⟩ := d1
          have hc0 := HC01.out d1
          have HG := Lib.hid (show c + 1 = if fr ≤ day ∧ day < u then 1 else 0 from by rw [HIN.out, if_pos ⟨d1, d2⟩])
          subst hc0
          go_wp2
          go_roundw
          case rel => exact ⟨j + 1 + 1, 0 + 1, u, by omega, by go_num, rfl, HX2, HF2, HG, by omega, by omega, Gen.dN hW _⟩
          case measure => simp [intOf] <;> omega
        · have HG := Lib.hid (show c = if fr ≤ day ∧ day < u then 1 else 0 from by rw [HIN.out, if_neg d1, Int.add_zero])
          rcases (show day < f ∨ (f ≤ day ∧ u ≤ day) by omega) with d2 | ⟨d2, d3⟩
          all_goals
            clear d1
            go_wp2
            go_roundw
            case rel => first | exact ⟨j + 1 + 1, c, u, by omega, by go_num, rfl, HX2, HF2, HG, c0, c1, Gen.dN hW _⟩ | exact ⟨_, _, _, ⟨j + 1 + 1, by omega, by go_num, c, rfl, u, HX2, HF2, HG, c0, c1, Gen.dN hW _⟩, rfl, rfl, rfl⟩
            case measure => simp [intOf] <;> omega
    · obtain rfl : k = M + 1 := by omega
      have hx := HX.out
      have hlen := OK.out.len
      have hlast := OK.out.bd.last
      rw [show (bdL fr to ev).length - 1 = M + 1 by rw [← hlen, Q.out]; omega, hx] at hlast
      obtain rfl : x = to := by injection hlast
      have hcv := HC.out
      have h4 := h3.keep hW
      have ip4 := ip.keep hW
      clear hx hlen hlast HX HF HC h3 ip hW
      rcases OK.out.at_ AT.out with ⟨rfl, e1, e2, j, t, rfl, htj, e3, e4⟩ | ⟨rfl, rfl, e1⟩
      · rw [if_pos ⟨e1, e2⟩] at hcv
        subst hcv
        have hj : j < M + 1 := by have := lt_of_at htj; rw [Q.out] at this; exact this
        have TJ := Lib.hid htj
        clear htj c0 c1
        go_wp2_with (fail)
        go_must (refine (at_is _ Q.out ip4 (by omega) AT.out).mono ?_)
        rintro e w5 ⟨rfl, hb⟩
        have h5 := h4.keep hb
        have ip5 := ip4.keep hb
        clear h4 ip4 hb
        have k3 := h5.t T.out.c3
        have k4 := h5.t T.out.c4
        obtain ⟨bb, off, rfl, hcell⟩ := ip5 (by rw [Q.out]; omega)
        obtain ⟨t0, ht0⟩ := Cell.at_ l 0 (by rw [Q.out]; omega)
        obtain ⟨tM, htM⟩ := Cell.at_ l M (by rw [Q.out]; omega)
        have a0 := (hcell 0 t0 ht0).1
        have b1 := (hcell M tM htM).2.1
        obtain ⟨g0, g1, _, _⟩ := hcell j t TJ.out
        rw [OK.out.first ht0] at a0
        rw [OK.out.last Q.out htM] at b1
        simp only [Nat.zero_mul, Nat.add_zero] at a0
        have j0 : (0 : Int) ≤ (j : Int) := by omega
        have j1 : (j : Int) < (M : Int) + 1 := by omega
        have m0 : (0 : Int) ≤ (M : Int) := by omega
        have m1 : (M : Int) < (M : Int) + 1 := by omega
        have m2 : (0 : Int) < (M : Int) + 1 := by omega
        obtain ⟨f, u, p, r⟩ := t
        dsimp only at g0 g1 e3 e4
        have q1 : decide (f ≤ day) = true := decide_eq_true e3
        have q2 : decide (day < u) = true := decide_eq_true e4
        have q6 : (if (M : Int) < 0 then (0 : Int) else M) = M := if_neg (by omega)
        clear hcell ht0 htM ip5
        go_wp2
        have q7 : IntKind.i64.wrap (M : Int) = M := IntWalk.i64_in _ (by omega)
        have q8 : IntKind.i64.wrap ((M : Int) + 1 - 1) = M := by rw [Int.add_sub_cancel]; exact q7
        go_quiet (fail)
        clear q7 q8
        go_wp2
        go_ret
        exact ⟨rfl, Gen.dN h5.b _⟩
      · rw [if_neg e1] at hcv
        subst hcv
        clear c0 c1
        rcases (show day < fr ∨ (fr ≤ day ∧ x ≤ day) by omega) with d1 | ⟨d1, d2⟩
        all_goals
          clear e1
          go_wp2_with (fail)
          go_must (refine (at_is _ Q.out ip4 (by omega) AT.out).mono ?_)
          rintro e w5 ⟨rfl, hb⟩
          have h5 := h4.keep hb
          have ip5 := ip4.keep hb
          clear h4 ip4 hb
          have k3 := h5.t T.out.c3
          have k4 := h5.t T.out.c4
          obtain ⟨bb, off, rfl, hcell⟩ := ip5 (by rw [Q.out]; omega)
          obtain ⟨t0, ht0⟩ := Cell.at_ l 0 (by rw [Q.out]; omega)
          obtain ⟨tM, htM⟩ := Cell.at_ l M (by rw [Q.out]; omega)
          have a0 := (hcell 0 t0 ht0).1
          have b1 := (hcell M tM htM).2.1
          rw [OK.out.first ht0] at a0
          rw [OK.out.last Q.out htM] at b1
          simp only [Nat.zero_mul, Nat.add_zero] at a0
          have m0 : (0 : Int) ≤ (M : Int) := by omega
          have m1 : (M : Int) < (M : Int) + 1 := by omega
          have m2 : (0 : Int) < (M : Int) + 1 := by omega
          have q6 : (if (M : Int) < 0 then (0 : Int) else M) = M := if_neg (by omega)
          clear hcell ht0 htM ip5
          go_wp2
          have q7 : IntKind.i64.wrap (M : Int) = M := IntWalk.i64_in _ (by omega)
          have q8 : IntKind.i64.wrap ((M : Int) + 1 - 1) = M := by rw [Int.add_sub_cancel]; exact q7
          go_quiet (fail)
          clear q7 q8
          go_wp2
          go_ret
          exact ⟨rfl, Gen.dN h5.b _⟩
theorem cov_any (day : Int) (w : World) (ht : Tm cs fr to ev ad re) (hc : Ints w A rs) (hc' : Ints w A' ds) (hn : rs.length ≤ 9223372036854775807) (hm : ds.length ≤ 9223372036854775807) :
    Calls Try.prog 9 #[.agg cs, .agg #[.slice A rs.length cap, .slice A' ds.length cap'], .int .i64 day] w fun e w' => e = .returned (.bool true) ∧ Below w.heap.size w w' := by
  obtain ⟨l, e, hp⟩ : ∃ u v, perO rs ds fr to ev ad re = (u, v) := ⟨_, _, rfl⟩
  rcases perO_01 hp with ⟨rfl, ok⟩ | ⟨he, rfl⟩
  · obtain ⟨M, hM⟩ : ∃ M, l.length = M + 1 := ⟨l.length - 1, by have := ok.pos; omega⟩
    obtain ⟨a, b, ha⟩ : ∃ u v, atA day 0 l = (u, v) := ⟨_, _, rfl⟩
    exact cov_ok day w ht rfl hc rfl hc' hn hm hp hM ha
  · exact cov_err day w ht rfl hc rfl hc' hn hm hp he
end
end Go.Proofs.Ytdndlipenjkfpaa.Dat
