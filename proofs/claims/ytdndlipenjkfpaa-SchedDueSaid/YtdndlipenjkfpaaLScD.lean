/- SchedDue returns true: all terms, calendars and days; no condition. -/
import Derived.Test.YtdndlipenjkfpaaSchQ
namespace Go.Proofs.Ytdndlipenjkfpaa.Dat
open Go.ChangeShapes Go.WideShapes Go.ChangeAt Go.RowKit Go.Proofs.Ytdndlipenjkfpaa.Cell
set_option linter.unusedVariables false
set_option linter.unusedSimpArgs false

section
variable {cs : Array Value} {fr to ev ad re : Int} {A A' : Option Addr} {n cap m cap' : Nat} {rs ds : List Int}
set_option maxRecDepth 100000 in
set_option maxHeartbeats 8000000 in
theorem duel_err {e : Int} (day : Int) (w : World) (ht : Tm cs fr to ev ad re) (hn : rs.length = n) (hc : Ints w A rs) (hm : ds.length = m) (hc' : Ints w A' ds) (hbig : n ≤ 9223372036854775807) (hbig' : m ≤ 9223372036854775807) (hp : perO rs ds fr to ev ad re = ([], e)) (he : e = 1 ∨ e = 3) :
    Calls Try.prog 12 #[.agg cs, .agg #[.slice A n cap, .slice A' m cap'], .int .i64 day] w fun e w' => e = .returned (.bool true) ∧ Below w.heap.size w w' := by
  have h0 := Hp.new (cs := cs) (n := n) (cap := cap) (m := m) (cap' := cap') w hc hc'
  have HN := Lib.hid hn
  have HM := Lib.hid hm
  have T := Lib.hid ht
  have TI := Lib.hid infoTm
  clear hn hm hc hc' ht
  have X := Lib.hid hp
  have Q := Lib.hid (show ([] : List Pr).length = 0 from rfl)
  clear hp
  rcases he with rfl | rfl
  all_goals
    go_enter Try.func12, Try.ntmps12
    go_wp2_with (fail)
    go_must (refine (sch_small _).mono ?_)
    rintro e w1 ⟨rfl, hb⟩
    have h1 := h0.keep hb
    have k0 := h1.c0
    have k1 := h1.c1
    clear h0 hb
    go_wp2_with (first | (refine wpList_load_row rfl 46 _ rfl w.heap.size rfl _ cs _ _ (Row_hp (h1.x)) Try.underlying46 rfl (TI.out.trans (by rw [T.out.sz])) ?_) | fail)
    go_must (refine (fewS_any _ T.out (by assumption) (by assumption)).mono ?_)
    rintro e w2 ⟨b, rfl, hb, hf⟩
    have h2 := h1.keep hb
    cases b
    · clear k0 k1 h1 hb
      go_wp2
      go_ret
      exact ⟨rfl, h2.b⟩
    obtain ⟨f1, f2, f3⟩ := hf rfl
    clear k0 k1 h1 hb hf
    have k0 := h2.c0
    have k1 := h2.c1
    go_wp2_with (first | (refine wpList_load_row rfl 46 _ rfl w.heap.size rfl _ cs _ _ (Row_hp (h2.x)) Try.underlying46 rfl (TI.out.trans (by rw [T.out.sz])) ?_) | fail)
    go_must (refine (periods_is _ T.out HN.out h2.i (by omega) HM.out h2.j (by omega) X.out Q.out).mono ?_)
    rintro e w3 ⟨A3, c3, rfl, hb, ip⟩
    have h3 := h2.keep hb
    clear h2 hb k0 k1
    go_wp2
    go_ret
    exact ⟨rfl, h3.b⟩

set_option maxRecDepth 100000 in
set_option maxHeartbeats 8000000 in
theorem duel_ok {l : List Pr} {M : Nat} (day : Int) (w : World) (ht : Tm cs fr to ev ad re) (hn : rs.length = n) (hc : Ints w A rs) (hm : ds.length = m) (hc' : Ints w A' ds) (hbig : n ≤ 9223372036854775807) (hbig' : m ≤ 9223372036854775807) (hp : perO rs ds fr to ev ad re = (l, 0)) (hM : l.length = M) :
    Calls Try.prog 12 #[.agg cs, .agg #[.slice A n cap, .slice A' m cap'], .int .i64 day] w fun e w' => e = .returned (.bool true) ∧ Below w.heap.size w w' := by
  have h0 := Hp.new (cs := cs) (n := n) (cap := cap) (m := m) (cap' := cap') w hc hc'
  have HN := Lib.hid hn
  have HM := Lib.hid hm
  have T := Lib.hid ht
  have TI := Lib.hid infoTm
  clear hn hm hc hc' ht
  have ok : PerOk rs ds fr to ev ad re l := by
    rcases perO_01 hp with h | h
    · exact h.2
    · have := h.1; omega
  have X := Lib.hid hp
  have Q := Lib.hid hM
  have OK := Lib.hid ok
  have M1 : M ≤ 10002 := by have := ok.pos; omega
  clear hp hM ok
  go_enter Try.func12, Try.ntmps12
  go_wp2_with (fail)
  go_must (refine (sch_small _).mono ?_)
  rintro e w1 ⟨rfl, hb⟩
  have h1 := h0.keep hb
  have k0 := h1.c0
  have k1 := h1.c1
  clear h0 hb
  go_wp2_with (first | (refine wpList_load_row rfl 46 _ rfl w.heap.size rfl _ cs _ _ (Row_hp (h1.x)) Try.underlying46 rfl (TI.out.trans (by rw [T.out.sz])) ?_) | fail)
  go_must (refine (fewS_any _ T.out (by assumption) (by assumption)).mono ?_)
  rintro e w2 ⟨b, rfl, hb, hf⟩
  have h2 := h1.keep hb
  cases b
  · clear k0 k1 h1 hb
    go_wp2
    go_ret
    exact ⟨rfl, h2.b⟩
  obtain ⟨f1, f2, f3⟩ := hf rfl
  clear k0 k1 h1 hb hf
  have k0 := h2.c0
  have k1 := h2.c1
  go_wp2_with (first | (refine wpList_load_row rfl 46 _ rfl w.heap.size rfl _ cs _ _ (Row_hp (h2.x)) Try.underlying46 rfl (TI.out.trans (by rw [T.out.sz])) ?_) | fail)
  go_must (refine (periods_is _ T.out HN.out h2.i (by omega) HM.out h2.j (by omega) X.out Q.out).mono ?_)
  rintro e w3 ⟨A3, c3, rfl, hb, ip⟩
  have h3 := h2.keep hb
  clear h2 hb k0 k1
  go_wp2_with (fail)
  go_loopw [10] (fun iv wr => ∃ k : Nat, k ≤ M ∧ iv = .int .i64 k ∧ Below w3.heap.size w3 wr) (fun iv _ => M - (intOf iv).toNat)
  case atStart => exact ⟨0, Nat.zero_le _, rfl, Below.refl _ _⟩
  case round =>
    obtain ⟨k, hk, rfl, hW⟩ := hrel
    obtain ⟨wo, rfl⟩ : ∃ wo : World, wo = wr := ⟨_, rfl⟩
    by_cases hlt : k < M
    · obtain ⟨bb, off, rfl, hcell⟩ := (ip.keep hW) (by rw [Q.out]; omega)
      obtain ⟨t, ht⟩ := Cell.at_ l k (by rw [Q.out]; exact hlt)
      have a2 := (hcell k t ht).2.2.1
      obtain ⟨f, u, p, r⟩ := t
      dsimp only at a2
      obtain ⟨d, hd⟩ : ∃ d, duA p 0 l = d := ⟨_, rfl⟩
      obtain ⟨a, c, run⟩ := du_run p l 0 OK.out.mono
      have hq : d.length = c := by rw [← hd]; exact run.len
      have hin := (run.iff k _ ht).1 rfl
      have rhi := run.hi
      rw [Q.out] at rhi
      have EL := Lib.hid run.el
      have PAY := Lib.hid (show ∀ (i : Nat) (t : Pr), l[i]? = some t → a ≤ i → i < a + c → t.2.2.1 = p from fun i t h h1 h2 => (run.iff i t h).2 (by omega))
      have D := Lib.hid hd
      have DQ := Lib.hid hq
      have KA : a ≤ k := by omega
      have KC : k < a + c := by omega
      have kk0 : (0 : Int) ≤ (k : Int) := by omega
      have kk1 : (k : Int) < (M : Int) := by omega
      clear hcell ht run hd hq hin
      go_wp2_with (fail)
      go_must (refine (due_is _ Q.out (ip.keep hW) (by omega) D.out DQ.out).mono ?_)
      rintro e w4 ⟨A4, c4, rfl, hb, id4⟩
      have hW4 := Gen.over hb hW
      clear hb a2
      go_wp2_with (fail)
      go_loopw [12, 13] (fun nv jv wv => ∃ (j : Nat) (g : Int), j ≤ c ∧ jv = .int .i64 j ∧ nv = .int .i64 g ∧ Hid (g = if k < a + j then 1 else 0) ∧ 0 ≤ g ∧ g ≤ 1 ∧ Below w4.heap.size w4 wv) (fun _ jv _ => c - (intOf jv).toNat)
      case atStart => exact ⟨0, 0, Nat.zero_le _, rfl, rfl, Lib.hid (by rw [if_neg (by omega)]), by omega, by omega, Below.refl _ _⟩
      case round =>
        obtain ⟨j, g, hj, rfl, rfl, HG0, g0, g1, hV⟩ := hrel
        by_cases hjc : j < c
        · obtain ⟨b4, o4, rfl, hc4⟩ := (id4.keep hV) (by rw [DQ.out]; omega)
          have ip5 := (ip.keep hW4).keep hV
          obtain ⟨b5, o5, e5, hc5⟩ := ip5 (by rw [Q.out]; omega)
          obtain ⟨rfl, rfl⟩ : b5 = bb ∧ o5 = off := by
            have e6 := e5
            simp only [Option.some.injEq, Addr.mk.injEq] at e6
            exact ⟨e6.1.symm, e6.2.1.symm⟩
          obtain ⟨v, hv⟩ : ∃ v, a + j = v := ⟨_, rfl⟩
          have hvM : v < M := by omega
          have el := EL.out j hjc
          rw [D.out, hv] at el
          have d0 := hc4 j _ el
          obtain ⟨tv, htv⟩ := Cell.at_ l v (by rw [Q.out]; omega)
          obtain ⟨tk, htk⟩ := Cell.at_ l k (by rw [Q.out]; omega)
          have p0 := (hc5 v tv htv).2.2.1
          have p1 := (hc5 k tk htk).2.2.1
          rw [PAY.out v tv htv (by omega) (by omega)] at p0
          rw [PAY.out k tk htk KA KC] at p1
          have prev : ∀ j', j = j' + 1 → wr.cell? ⟨b4, o4 + j', none⟩ = some (.int .i64 ((v : Int) - 1)) := fun j' h => by
            have := hc4 j' _ (by rw [← D.out]; exact EL.out j' (by omega))
            rw [this, show ((a + j' : Nat) : Int) = (v : Int) - 1 by omega]
          have v0 : (0 : Int) ≤ (v : Int) := by omega
          have v1 : (v : Int) < (M : Int) := by omega
          have jj0 : (0 : Int) ≤ (j : Int) := by omega
          have jj1 : (j : Int) < (c : Int) := by omega
          have q1 : decide ((v : Int) < 0) = false := decide_eq_false (by omega)
          have q2 : decide ((M : Int) ≤ (v : Int)) = false := decide_eq_false (by omega)
          have q2n : decide (M ≤ v) = false := decide_eq_false (by omega)
          have HV := Lib.hid hv
          have HG1 := Lib.hid (show (if k < a + (j + 1) then (1 : Int) else 0) = g + if v = k then 1 else 0 from by
            rw [HG0.out, ← hv]
            by_cases q1 : k < a + j <;> by_cases q2 : a + j = k <;> by_cases q3 : k < a + (j + 1) <;> simp [q1, q2, q3] <;> omega)
          have HGE := Lib.hid (show v = k → g = 0 from fun h => by rw [HG0.out, if_neg (by omega)])
          clear hc4 hc5 el htv htk e5 hv HG0 ip5
          rcases Nat.eq_zero_or_pos j with hj0 | hj0
          · subst hj0
            rw [Nat.add_zero] at d0
            clear prev
            by_cases hvk : v = k
            · have hg := HGE.out hvk
              have HG := Lib.hid (show g + 1 = if k < a + (0 + 1) then 1 else 0 from by rw [HG1.out, if_pos hvk])
              subst hg hvk
              go_wp2
              go_quiet (fail)
              go_wp2
              go_quiet (fail)
              go_wp2
              go_roundw
              case rel => first | exact ⟨0 + 1, 0 + 1, by omega, by go_num, rfl, HG, by omega, by omega, Gen.dN hV _⟩ | exact ⟨_, _, _, ⟨0 + 1, by omega, by go_num, 0 + 1, rfl, HG, by omega, by omega, Gen.dN hV _⟩, rfl, rfl, rfl⟩
              case measure => simp [intOf] <;> omega
            · have HG := Lib.hid (show g = if k < a + (0 + 1) then 1 else 0 from by rw [HG1.out, if_neg hvk, Int.add_zero])
              have bvk : ((v : Int) == (k : Int)) = false := by rw [beq_eq_false_iff_ne]; omega
              have bvn : (v == k) = false := by rw [beq_eq_false_iff_ne]; omega
              clear hvk
              go_wp2
              go_quiet (fail)
              go_wp2
              go_quiet (fail)
              go_wp2
              go_roundw
              case rel => first | exact ⟨0 + 1, g, by omega, by go_num, rfl, HG, by omega, by omega, Gen.dN hV _⟩ | exact ⟨_, _, _, ⟨0 + 1, by omega, by go_num, g, rfl, HG, by omega, by omega, Gen.dN hV _⟩, rfl, rfl, rfl⟩
              case measure => simp [intOf] <;> omega
          · obtain ⟨j', rfl⟩ : ∃ j', j = j' + 1 := ⟨j - 1, by omega⟩
            have d1 := prev j' rfl
            have i0 : (0 : Int) ≤ (j' : Int) := by omega
            have i1 : (j' : Int) < (c : Int) := by omega
            have q4 : decide ((0 : Int) < (j' : Int) + 1) = true := decide_eq_true (by omega)
            have q6 : (if (j' : Int) < 0 then (0 : Int) else j') = j' := if_neg (by omega)
            have q9 : ((v : Int) != (v : Int) - 1 + 1) = false := by rw [Int.sub_add_cancel]; simp
            clear prev
            by_cases hvk : v = k
            · have hg := HGE.out hvk
              have HG := Lib.hid (show g + 1 = if k < a + (j' + 1 + 1) then 1 else 0 from by rw [HG1.out, if_pos hvk])
              subst hg hvk
              go_wp2
              have q7 : IntKind.i64.wrap (j' : Int) = j' := IntWalk.i64_in _ (by omega)
              have q8 : IntKind.i64.wrap ((j' : Int) + 1 - 1) = j' := by rw [Int.add_sub_cancel]; exact q7
              have q10 : IntKind.i64.wrap ((v : Int) - 1 + 1) = v := by rw [Int.sub_add_cancel]; exact IntWalk.i64_in _ (by omega)
              go_quiet (fail)
              clear q7 q8 q10 q4 q6
              go_wp2
              go_quiet (fail)
              go_wp2
              go_roundw
              case rel => first | exact ⟨j' + 1 + 1, 0 + 1, by omega, by go_num, rfl, HG, by omega, by omega, Gen.dN hV _⟩ | exact ⟨_, _, _, ⟨j' + 1 + 1, by omega, by go_num, 0 + 1, rfl, HG, by omega, by omega, Gen.dN hV _⟩, rfl, rfl, rfl⟩
              case measure => simp [intOf] <;> omega
            · have HG := Lib.hid (show g = if k < a + (j' + 1 + 1) then 1 else 0 from by rw [HG1.out, if_neg hvk, Int.add_zero])
              have bvk : ((v : Int) == (k : Int)) = false := by rw [beq_eq_false_iff_ne]; omega
              have bvn : (v == k) = false := by rw [beq_eq_false_iff_ne]; omega
              clear hvk
              go_wp2
              have q7 : IntKind.i64.wrap (j' : Int) = j' := IntWalk.i64_in _ (by omega)
              have q8 : IntKind.i64.wrap ((j' : Int) + 1 - 1) = j' := by rw [Int.add_sub_cancel]; exact q7
              have q10 : IntKind.i64.wrap ((v : Int) - 1 + 1) = v := by rw [Int.sub_add_cancel]; exact IntWalk.i64_in _ (by omega)
              go_quiet (fail)
              clear q7 q8 q10 q4 q6
              go_wp2
              go_quiet (fail)
              go_wp2
              go_roundw
              case rel => first | exact ⟨j' + 1 + 1, g, by omega, by go_num, rfl, HG, by omega, by omega, Gen.dN hV _⟩ | exact ⟨_, _, _, ⟨j' + 1 + 1, by omega, by go_num, g, rfl, HG, by omega, by omega, Gen.dN hV _⟩, rfl, rfl, rfl⟩
              case measure => simp [intOf] <;> omega
        · obtain rfl : j = c := by omega
          have hg := HG0.out
          rw [if_pos KC] at hg
          subst hg
          have hW5 := Gen.over hV hW4
          clear HG0 g0 g1 id4 hV hW hW4
          go_wp2
          go_roundw
          case rel => first | exact ⟨k + 1, by omega, by go_num, hW5⟩ | exact ⟨_, _, ⟨k + 1, by omega, by go_num, hW5⟩, rfl, rfl⟩
          case measure => simp [intOf] <;> omega
    · obtain rfl : k = M := by omega
      obtain ⟨d, hd⟩ : ∃ d, duA day 0 l = d := ⟨_, rfl⟩
      obtain ⟨a, c, run⟩ := du_run day l 0 OK.out.mono
      have hq : d.length = c := by rw [← hd]; exact run.len
      have rhi := run.hi
      rw [Q.out] at rhi
      have EL := Lib.hid run.el
      have PAY := Lib.hid (show ∀ (i : Nat) (t : Pr), l[i]? = some t → a ≤ i → i < a + c → t.2.2.1 = day from fun i t h h1 h2 => (run.iff i t h).2 (by omega))
      have D := Lib.hid hd
      have DQ := Lib.hid hq
      have h4 := h3.keep hW
      have ip4 := ip.keep hW
      clear run hd hq h3 ip hW
      go_wp2_with (fail)
      go_must (refine (due_is _ Q.out ip4 (by omega) D.out DQ.out).mono ?_)
      rintro e w5 ⟨A4, c4, rfl, hb, id4⟩
      have h5 := h4.keep hb
      have ip5 := ip4.keep hb
      clear hb h4 ip4
      go_wp2_with (fail)
      go_loopw [15] (fun jv wv => ∃ j : Nat, j ≤ c ∧ jv = .int .i64 j ∧ Below w5.heap.size w5 wv) (fun jv _ => c - (intOf jv).toNat)
      case atStart => exact ⟨0, Nat.zero_le _, rfl, Below.refl _ _⟩
      case round =>
        obtain ⟨j, hj, rfl, hV⟩ := hrel
        by_cases hjc : j < c
        · obtain ⟨b4, o4, rfl, hc4⟩ := (id4.keep hV) (by rw [DQ.out]; omega)
          obtain ⟨b5, o5, rfl, hc5⟩ := (ip5.keep hV) (by rw [Q.out]; omega)
          obtain ⟨v, hv⟩ : ∃ v, a + j = v := ⟨_, rfl⟩
          have hvM : v < k := by omega
          have el := EL.out j hjc
          rw [D.out, hv] at el
          have d0 := hc4 j _ el
          obtain ⟨tv, htv⟩ := Cell.at_ l v (by rw [Q.out]; omega)
          have p0 := (hc5 v tv htv).2.2.1
          rw [PAY.out v tv htv (by omega) (by omega)] at p0
          have v0 : (0 : Int) ≤ (v : Int) := by omega
          have v1 : (v : Int) < (k : Int) := by omega
          have jj0 : (0 : Int) ≤ (j : Int) := by omega
          have jj1 : (j : Int) < (c : Int) := by omega
          clear hc4 hc5 el htv hv
          go_wp2
          go_roundw
          case rel => first | exact ⟨j + 1, by omega, by go_num, hV⟩ | exact ⟨_, _, ⟨j + 1, by omega, by go_num, hV⟩, rfl, rfl⟩
          case measure => simp [intOf] <;> omega
        · obtain rfl : j = c := by omega
          have h6 := h5.keep hV
          clear h5 ip5 hV
          go_wp2
          go_ret
          exact ⟨rfl, h6.b⟩
theorem duel_any (day : Int) (w : World) (ht : Tm cs fr to ev ad re) (hc : Ints w A rs) (hc' : Ints w A' ds) (hn : rs.length ≤ 9223372036854775807) (hm : ds.length ≤ 9223372036854775807) :
    Calls Try.prog 12 #[.agg cs, .agg #[.slice A rs.length cap, .slice A' ds.length cap'], .int .i64 day] w fun e w' => e = .returned (.bool true) ∧ Below w.heap.size w w' := by
  obtain ⟨l, e, hp⟩ : ∃ u v, perO rs ds fr to ev ad re = (u, v) := ⟨_, _, rfl⟩
  rcases perO_01 hp with ⟨rfl, ok⟩ | ⟨he, rfl⟩
  · exact duel_ok day w ht rfl hc rfl hc' hn hm hp rfl
  · exact duel_err day w ht rfl hc rfl hc' hn hm hp he
end
end Go.Proofs.Ytdndlipenjkfpaa.Dat
