/- SchedMonths returns true: all terms and calendars; no condition. -/
import Derived.Test.YtdndlipenjkfpaaSchL
namespace Go.Proofs.Ytdndlipenjkfpaa.Dat
open Go.ChangeShapes Go.WideShapes Go.ChangeAt Go.RowKit Go.Proofs.Ytdndlipenjkfpaa.Cell
set_option linter.unusedVariables false
set_option linter.unusedSimpArgs false

section
variable {cs : Array Value} {fr to ev ad re : Int} {A A' : Option Addr} {n cap m cap' : Nat} {rs ds : List Int}
/-- what is known of a bound -/
theorem PerOk.month {l : List Pr} (ok : PerOk rs ds fr to ev ad re l) {y : Int} {mm : Nat} {d : Int} (hp : Pt fr y mm d) {k : Nat} {t : Pr} (ht : l[k]? = some t) :
    ∃ (ya : Int) (mb : Nat) (nd : Int), Pt t.1 ya mb nd ∧ 12 * ya + mb = 12 * y + mm + k * ev ∧ nd = min d (lst ya mb) ∧ ya ≤ 2600 := by
  obtain ⟨a, _⟩ := ok.each k t ht
  have hk : k + 1 < (bdL fr to ev).length := by
    have := ok.len
    have := (List.getElem?_eq_some_iff.1 ht).1
    omega
  obtain ⟨hx, _⟩ := ok.bd.mo k t.1 hk a
  rcases amO_01 hx with ⟨_, h0, h1, hn, x0, x1, hX⟩ | ⟨h, _⟩
  · obtain ⟨e1, e2⟩ := hX y mm d hp
    refine ⟨_, _, _, e2, by omega, ?_, ?_⟩
    · unfold ll
      rw [show (((12 * y + (mm : Int) - 1 + k * ev) % 12).toNat + 1 : Nat) = (((12 * y + (mm : Int) - 1 + k * ev) % 12 + 1).toNat) by omega, show ((((12 * y + (mm : Int) - 1 + k * ev) % 12 + 1).toNat : Nat) : Int) = (12 * y + (mm : Int) - 1 + k * ev) % 12 + 1 by omega]
    · have g := e2.in_
      by_cases c : (12 * y + (mm : Int) - 1 + k * ev) / 12 ≤ 2600
      · exact c
      · have := ny_mono (a := 2448) (b := (12 * y + (mm : Int) - 1 + k * ev) / 12) (by omega) (by omega)
        have := ny_top
        omega
  · omega
/-- what AddMonths says of the next bound -/
theorem PerOk.then_ {l : List Pr} {M : Nat} (ok : PerOk rs ds fr to ev ad re l) (hM : l.length = M + 1) {k : Nat} {t : Pr} (ht : l[k]? = some t) {x h : Int} (hx : amO fr (((k : Int) + 1) * ev) = (x, h)) :
    (k < M ∧ h = 0 ∧ x = t.2.1) ∨ (k = M ∧ ((h = 0 ∧ t.2.1 ≤ x) ∨ h = 3)) := by
  have hlen := ok.len
  have hk := (List.getElem?_eq_some_iff.1 ht).1
  by_cases e : k < M
  · obtain ⟨_, b, _⟩ := ok.each k t ht
    obtain ⟨h1, _⟩ := ok.bd.mo (k + 1) t.2.1 (by omega) b
    rw [show ((k + 1 : Nat) : Int) = (k : Int) + 1 by omega, hx] at h1
    injection h1 with e1 e2
    exact .inl ⟨e, e2, e1⟩
  · have hkM : k = M := by omega
    refine .inr ⟨hkM, ?_⟩
    rcases amO_01 hx with ⟨rfl, _⟩ | ⟨rfl, _⟩
    · have hs := ok.bd.stop x (by rw [show (bdL fr to ev).length - 1 = k + 1 by omega, show ((k + 1 : Nat) : Int) = (k : Int) + 1 by omega]; exact hx)
      have := ok.last (k := k) (by omega) ht
      exact .inl ⟨rfl, by omega⟩
    · exact .inr rfl
set_option maxRecDepth 100000 in
set_option maxHeartbeats 8000000 in
theorem mon_err {e : Int} (w : World) (ht : Tm cs fr to ev ad re) (hn : rs.length = n) (hc : Ints w A rs) (hm : ds.length = m) (hc' : Ints w A' ds) (hbig : n ≤ 9223372036854775807) (hbig' : m ≤ 9223372036854775807) (hp : perO rs ds fr to ev ad re = ([], e)) (he : e = 1 ∨ e = 3) :
    Calls Try.prog 10 #[.agg cs, .agg #[.slice A n cap, .slice A' m cap']] w fun e w' => e = .returned (.bool true) ∧ Below w.heap.size w w' := by
  have h0 := Hp.new (cs := cs) (n := n) (cap := cap) (m := m) (cap' := cap') w hc hc'
  have HN := Lib.hid hn
  have HM := Lib.hid hm
  have T := Lib.hid ht
  have TI := Lib.hid infoTm
  clear hn hm hc hc' ht
  have X := Lib.hid hp
  have Q := Lib.hid (show ([] : List Pr).length = 0 from rfl)
  clear hp
  rcases he with rfl | rfl
  all_goals
    go_enter Try.func10, Try.ntmps10
    go_wp2_with (fail)
    go_must (refine (sch_small _).mono ?_)
    rintro e w1 ⟨rfl, hb⟩
    have h1 := h0.keep hb
    have k0 := h1.c0
    have k1 := h1.c1
    clear h0 hb
    go_wp2_with (first | (refine wpList_load_row rfl 46 _ rfl w.heap.size rfl _ cs _ _ (Row_hp (h1.x)) Try.underlying46 rfl (TI.out.trans (by rw [T.out.sz])) ?_) | fail)
    go_must (refine (fewS_any _ T.out (by assumption) (by assumption)).mono ?_)
    rintro e w2 ⟨b, rfl, hb, hf⟩
    have h2 := h1.keep hb
    cases b
    · clear k0 k1 h1 hb
      go_wp2
      go_ret
      exact ⟨rfl, h2.b⟩
    obtain ⟨f1, f2, f3⟩ := hf rfl
    clear k0 k1 h1 hb hf
    have k0 := h2.c0
    have k1 := h2.c1
    go_wp2_with (first | (refine wpList_load_row rfl 46 _ rfl w.heap.size rfl _ cs _ _ (Row_hp (h2.x)) Try.underlying46 rfl (TI.out.trans (by rw [T.out.sz])) ?_) | fail)
    go_must (refine (periods_is _ T.out HN.out h2.i (by omega) HM.out h2.j (by omega) X.out Q.out).mono ?_)
    rintro e w3 ⟨A3, c3, rfl, hb, ip⟩
    have h3 := h2.keep hb
    clear h2 hb k0 k1
    go_wp2
    go_ret
    exact ⟨rfl, h3.b⟩

set_option maxRecDepth 100000 in
set_option maxHeartbeats 8000000 in
theorem mon_ok {l : List Pr} {M : Nat} (w : World) (ht : Tm cs fr to ev ad re) (hn : rs.length = n) (hc : Ints w A rs) (hm : ds.length = m) (hc' : Ints w A' ds) (hbig : n ≤ 9223372036854775807) (hbig' : m ≤ 9223372036854775807) (hp : perO rs ds fr to ev ad re = (l, 0)) (hM : l.length = M + 1) :
    Calls Try.prog 10 #[.agg cs, .agg #[.slice A n cap, .slice A' m cap']] w fun e w' => e = .returned (.bool true) ∧ Below w.heap.size w w' := by
  have h0 := Hp.new (cs := cs) (n := n) (cap := cap) (m := m) (cap' := cap') w hc hc'
  have HN := Lib.hid hn
  have HM := Lib.hid hm
  have T := Lib.hid ht
  have TI := Lib.hid infoTm
  clear hn hm hc hc' ht
  have ok : PerOk rs ds fr to ev ad re l := by
    rcases perO_01 hp with h | h
    · exact h.2
    · have := h.1; omega
  have X := Lib.hid hp
  have Q := Lib.hid hM
  have OK := Lib.hid ok
  have M1 : M ≤ 10002 := by have := ok.pos; omega
  obtain ⟨fr0, frt, to0, ev0, ev1, _⟩ := vl_in ok.v
  obtain ⟨y, mm, d, hpt⟩ := pt_ex fr fr0 (by omega)
  have y0 := hpt.y0
  have y1 : y ≤ 2448 := by
    have hy1 := hpt.in_
    by_cases c : y ≤ 2448
    · exact c
    · have := ny_mono (a := 2448) (b := y) (by omega) (by omega)
      have := ny_top
      omega
  have mm0 : (1 : Int) ≤ (mm : Int) := by have := hpt.m0; omega
  have mm1 : (mm : Int) ≤ 12 := by have := hpt.m1; omega
  have HPT := Lib.hid hpt
  have fr1 : fr ≤ 200000 := by omega
  clear hp hM ok hpt
  go_enter Try.func10, Try.ntmps10
  go_wp2_with (fail)
  go_must (refine (sch_small _).mono ?_)
  rintro e w1 ⟨rfl, hb⟩
  have h1 := h0.keep hb
  have k0 := h1.c0
  have k1 := h1.c1
  clear h0 hb
  go_wp2_with (first | (refine wpList_load_row rfl 46 _ rfl w.heap.size rfl _ cs _ _ (Row_hp (h1.x)) Try.underlying46 rfl (TI.out.trans (by rw [T.out.sz])) ?_) | fail)
  go_must (refine (fewS_any _ T.out (by assumption) (by assumption)).mono ?_)
  rintro e w2 ⟨b, rfl, hb, hf⟩
  have h2 := h1.keep hb
  cases b
  · clear k0 k1 h1 hb
    go_wp2
    go_ret
    exact ⟨rfl, h2.b⟩
  obtain ⟨f1, f2, f3⟩ := hf rfl
  clear k0 k1 h1 hb hf
  have k0 := h2.c0
  have k1 := h2.c1
  go_wp2_with (first | (refine wpList_load_row rfl 46 _ rfl w.heap.size rfl _ cs _ _ (Row_hp (h2.x)) Try.underlying46 rfl (TI.out.trans (by rw [T.out.sz])) ?_) | fail)
  go_must (refine (periods_is _ T.out HN.out h2.i (by omega) HM.out h2.j (by omega) X.out Q.out).mono ?_)
  rintro e w3 ⟨A3, c3, rfl, hb, ip⟩
  have h3 := h2.keep hb
  clear h2 hb k0 k1
  have k3 := h3.t T.out.c3
  have k5 := h3.t T.out.c5
  go_wp2_with (fail)
  go_must (refine (parts_is _ fr0 fr1 HPT.out).mono ?_)
  rintro e w4 ⟨rfl, rfl⟩
  go_wp2_with (fail)
  go_loop [12] (fun iv => ∃ k : Nat, k ≤ M + 1 ∧ iv = .int .i64 k) (fun iv => M + 1 - (intOf iv).toNat)
  case atStart => exact ⟨0, Nat.zero_le _, rfl⟩
  case round =>
    obtain ⟨k, hk, rfl⟩ := hrel
    by_cases hlt : k < M + 1
    · obtain ⟨bb, off, rfl, hcell⟩ := ip (by rw [Q.out]; omega)
      obtain ⟨t, ht⟩ := Cell.at_ l k (by rw [Q.out]; exact hlt)
      obtain ⟨a0, a1, _, _⟩ := hcell k t ht
      obtain ⟨ya, mb, nd, hp, hsum, hnd, ya1⟩ := OK.out.month HPT.out ht
      obtain ⟨x, h, hx⟩ : ∃ u v, amO fr (((k : Int) + 1) * ev) = (u, v) := ⟨_, _, rfl⟩
      have th := OK.out.then_ Q.out ht hx
      have tin := OK.out.in_ ht
      have f0 : 0 ≤ t.1 := by omega
      have f1' : t.1 ≤ 200000 := by omega
      obtain ⟨L, hL⟩ : ∃ L, lst ya mb = L := ⟨_, rfl⟩
      rw [hL] at hnd
      have LL := Lib.hid hL
      have HP := Lib.hid hp
      have XX := Lib.hid hx
      have ya0 : 0 ≤ ya := by have := hp.y0; omega
      have mb0 : (1 : Int) ≤ (mb : Int) := by have := hp.m0; omega
      have mb1 : (mb : Int) ≤ 12 := by have := hp.m1; omega
      have p0 : 0 ≤ (k : Int) * ev := mul_0 ev0
      have p1 : (k : Int) * ev ≤ 12003600 := by
        have := Int.mul_le_mul (show (k : Int) ≤ 10003 by omega) ev1 (by omega) (by omega)
        omega
      have p2 : 0 ≤ ((k : Int) + 1) * ev := Int.mul_nonneg (by omega) (by omega)
      have p3 : ((k : Int) + 1) * ev ≤ 12004800 := by
        have := Int.mul_le_mul (show (k : Int) + 1 ≤ 10004 by omega) ev1 (by omega) (by omega)
        omega
      have hne : ((12 * ya + (mb : Int)) != (12 * y + (mm : Int) + (k : Int) * ev)) = false := by rw [hsum]; simp
      have kk0 : (0 : Int) ≤ (k : Int) := by omega
      have kk1 : (k : Int) < (M : Int) + 1 := by omega
      obtain ⟨f, u, p, r⟩ := t
      dsimp only at a0 a1 th f0 f1' HP
      clear hcell ht hp hsum hx hL tin
      have cont : True := trivial
      by_cases hdl : d ≤ L
      · rw [Int.min_eq_left hdl] at hnd
        subst hnd
        rcases th with ⟨t1, rfl, rfl⟩ | ⟨rfl, ⟨rfl, t1⟩ | rfl⟩
        · have q1 : decide (k < M) = true := decide_eq_true t1
          go_wp2_with (fail)
          go_must (refine (parts_is _ f0 f1' HP.out).mono ?_)
          rintro e w5 ⟨rfl, rfl⟩
          go_wp2_with (fail)
          go_must (refine (last_is _ ya0 (by omega) LL.out).mono ?_)
          rintro e w5 ⟨rfl, rfl⟩
          go_wp2_with (fail)
          go_must (refine (am_is _ XX.out).mono ?_)
          rintro e w5 ⟨rfl, rfl⟩
          go_wp2
          go_round
          case rel => first | exact ⟨k + 1, by omega, by go_num⟩ | exact ⟨_, _, ⟨k + 1, by omega, by go_num⟩, rfl, rfl⟩
          case measure => simp [intOf] <;> omega
        · go_wp2_with (fail)
          go_must (refine (parts_is _ f0 f1' HP.out).mono ?_)
          rintro e w5 ⟨rfl, rfl⟩
          go_wp2_with (fail)
          go_must (refine (last_is _ ya0 (by omega) LL.out).mono ?_)
          rintro e w5 ⟨rfl, rfl⟩
          go_wp2_with (fail)
          go_must (refine (am_is _ XX.out).mono ?_)
          rintro e w5 ⟨rfl, rfl⟩
          go_wp2
          go_round
          case rel => first | exact ⟨k + 1, by omega, by go_num⟩ | exact ⟨_, _, ⟨k + 1, by omega, by go_num⟩, rfl, rfl⟩
          case measure => simp [intOf] <;> omega
        · go_wp2_with (fail)
          go_must (refine (parts_is _ f0 f1' HP.out).mono ?_)
          rintro e w5 ⟨rfl, rfl⟩
          go_wp2_with (fail)
          go_must (refine (last_is _ ya0 (by omega) LL.out).mono ?_)
          rintro e w5 ⟨rfl, rfl⟩
          go_wp2_with (fail)
          go_must (refine (am_is _ XX.out).mono ?_)
          rintro e w5 ⟨rfl, rfl⟩
          go_wp2
          go_round
          case rel => first | exact ⟨k + 1, by omega, by go_num⟩ | exact ⟨_, _, ⟨k + 1, by omega, by go_num⟩, rfl, rfl⟩
          case measure => simp [intOf] <;> omega
      · rw [Int.min_eq_right (by omega)] at hnd
        have hdl' : L < d := by omega
        clear hdl
        subst hnd
        rcases th with ⟨t1, rfl, rfl⟩ | ⟨rfl, ⟨rfl, t1⟩ | rfl⟩
        · have q1 : decide (k < M) = true := decide_eq_true t1
          go_wp2_with (fail)
          go_must (refine (parts_is _ f0 f1' HP.out).mono ?_)
          rintro e w5 ⟨rfl, rfl⟩
          go_wp2_with (fail)
          go_must (refine (last_is _ ya0 (by omega) LL.out).mono ?_)
          rintro e w5 ⟨rfl, rfl⟩
          go_wp2_with (fail)
          go_must (refine (am_is _ XX.out).mono ?_)
          rintro e w5 ⟨rfl, rfl⟩
          go_wp2
          go_round
          case rel => first | exact ⟨k + 1, by omega, by go_num⟩ | exact ⟨_, _, ⟨k + 1, by omega, by go_num⟩, rfl, rfl⟩
          case measure => simp [intOf] <;> omega
        · go_wp2_with (fail)
          go_must (refine (parts_is _ f0 f1' HP.out).mono ?_)
          rintro e w5 ⟨rfl, rfl⟩
          go_wp2_with (fail)
          go_must (refine (last_is _ ya0 (by omega) LL.out).mono ?_)
          rintro e w5 ⟨rfl, rfl⟩
          go_wp2_with (fail)
          go_must (refine (am_is _ XX.out).mono ?_)
          rintro e w5 ⟨rfl, rfl⟩
          go_wp2
          go_round
          case rel => first | exact ⟨k + 1, by omega, by go_num⟩ | exact ⟨_, _, ⟨k + 1, by omega, by go_num⟩, rfl, rfl⟩
          case measure => simp [intOf] <;> omega
        · go_wp2_with (fail)
          go_must (refine (parts_is _ f0 f1' HP.out).mono ?_)
          rintro e w5 ⟨rfl, rfl⟩
          go_wp2_with (fail)
          go_must (refine (last_is _ ya0 (by omega) LL.out).mono ?_)
          rintro e w5 ⟨rfl, rfl⟩
          go_wp2_with (fail)
          go_must (refine (am_is _ XX.out).mono ?_)
          rintro e w5 ⟨rfl, rfl⟩
          go_wp2
          go_round
          case rel => first | exact ⟨k + 1, by omega, by go_num⟩ | exact ⟨_, _, ⟨k + 1, by omega, by go_num⟩, rfl, rfl⟩
          case measure => simp [intOf] <;> omega
    · obtain rfl : k = M + 1 := by omega
      go_wp2
      go_ret
      exact ⟨rfl, h3.b⟩
theorem mon_any  (w : World) (ht : Tm cs fr to ev ad re) (hc : Ints w A rs) (hc' : Ints w A' ds) (hn : rs.length ≤ 9223372036854775807) (hm : ds.length ≤ 9223372036854775807) :
    Calls Try.prog 10 #[.agg cs, .agg #[.slice A rs.length cap, .slice A' ds.length cap']] w fun e w' => e = .returned (.bool true) ∧ Below w.heap.size w w' := by
  obtain ⟨l, e, hp⟩ : ∃ u v, perO rs ds fr to ev ad re = (u, v) := ⟨_, _, rfl⟩
  rcases perO_01 hp with ⟨rfl, ok⟩ | ⟨he, rfl⟩
  · obtain ⟨M, hM⟩ : ∃ M, l.length = M + 1 := ⟨l.length - 1, by have := ok.pos; omega⟩
    exact mon_ok w ht rfl hc rfl hc' hn hm hp hM
  · exact mon_err w ht rfl hc rfl hc' hn hm hp he
end
end Go.Proofs.Ytdndlipenjkfpaa.Dat
