/- SchedTells returns true: all terms, calendars, lists of periods and days; no condition. -/
import Derived.Test.YtdndlipenjkfpaaSchT
import Derived.Test.YtdndlipenjkfpaaSchD
import Derived.Test.YtdndlipenjkfpaaSchQ
namespace Go.Proofs.Ytdndlipenjkfpaa.Dat
open Go.ChangeShapes Go.WideShapes Go.ChangeAt Go.RowKit Go.Proofs.Ytdndlipenjkfpaa.Cell
set_option linter.unusedVariables false
set_option linter.unusedSimpArgs false

section
variable {cs : Array Value} {fr to ev ad re : Int} {A A' : Option Addr} {n cap m cap' : Nat} {rs ds : List Int}
set_option maxRecDepth 100000 in
set_option maxHeartbeats 8000000 in
theorem stells {B3 : Option Addr} {n3 cap3 : Nat} {l3 l : List Pr} {e : Int} {q : Nat} (day : Int) (w : World) (ht : Tm cs fr to ev ad re) (hn : rs.length = n) (hc : Ints w A rs) (hm : ds.length = m) (hc' : Ints w A' ds) (hbig : n ≤ 9223372036854775807) (hbig' : m ≤ 9223372036854775807) (h3 : l3.length = n3) (hp3 : Pers w B3 l3) (hp : perO rs ds fr to ev ad re = (l, e)) (hq : l.length = q) (hq1 : q ≤ 10002) (he : e = 0 ∨ e = 1 ∨ e = 3) :
    Calls Try.prog 8 #[.agg cs, .agg #[.slice A n cap, .slice A' m cap'], .slice B3 n3 cap3, .int .i64 day] w fun e w' => e = .returned (.bool true) ∧ Below w.heap.size w w' := by
  have h0 := Hp.new (cs := cs) (n := n) (cap := cap) (m := m) (cap' := cap') w hc hc'
  have HN := Lib.hid hn
  have HM := Lib.hid hm
  have T := Lib.hid ht
  have TI := Lib.hid infoTm
  clear hn hm hc hc' ht
  have X := Lib.hid hp
  have Q := Lib.hid hq
  have H3 := Lib.hid h3
  have HE := Lib.hid he
  obtain ⟨x, b, hat⟩ : ∃ x b, atA day 0 l3 = (x, b) := ⟨_, _, rfl⟩
  have AT := Lib.hid hat
  obtain ⟨d, hd⟩ : ∃ d, duA day 0 l3 = d := ⟨_, rfl⟩
  have DU := Lib.hid hd
  obtain ⟨z, hz⟩ : ∃ z, d.length = z := ⟨_, rfl⟩
  have DQ := Lib.hid hz
  have z1 : z ≤ n3 := by rw [← hz, ← hd, ← h3]; exact duA_len day l3 0
  clear hp hq h3 he hat hd hz
  go_enter Try.func8, Try.ntmps8
  go_wp2_with (fail)
  go_must (refine (sch_small _).mono ?_)
  rintro e w1 ⟨rfl, hb⟩
  have h1 := h0.keep hb
  have k0 := h1.c0
  have k1 := h1.c1
  clear h0 hb
  go_wp2_with (first | (refine wpList_load_row rfl 46 _ rfl w.heap.size rfl _ cs _ _ (Row_hp (h1.x)) Try.underlying46 rfl (TI.out.trans (by rw [T.out.sz])) ?_) | fail)
  go_must (refine (fewS_any _ T.out (by assumption) (by assumption)).mono ?_)
  rintro e w2 ⟨b, rfl, hb, hf⟩
  have h2 := h1.keep hb
  cases b
  · clear k0 k1 h1 hb
    go_wp2
    go_ret
    exact ⟨rfl, h2.b⟩
  obtain ⟨f1, f2, f3⟩ := hf rfl
  clear k0 k1 h1 hb hf
  have k0 := h2.c0
  have k1 := h2.c1
  by_cases h60 : (60 : Int) < (n3 : Int)
  · go_wp2
    go_ret
    exact ⟨rfl, h2.b⟩
  have n60 : n3 ≤ 60 := by omega
  go_wp2_with (first | (refine wpList_load_row rfl 46 _ rfl w.heap.size rfl _ cs _ _ (Row_hp (h2.x)) Try.underlying46 rfl (TI.out.trans (by rw [T.out.sz])) ?_) | fail)
  go_must (refine (periods_is _ T.out HN.out h2.i (by omega) HM.out h2.j (by omega) X.out Q.out).mono ?_)
  rintro e w3 ⟨A3, c3, rfl, hb, ip⟩
  have h3 := h2.keep hb
  have k0 := h3.c0
  have k1 := h3.c1
  clear h2 hb
  go_wp2_with (first | (refine wpList_load_row rfl 46 _ rfl w.heap.size rfl _ cs _ _ (Row_hp (h3.x)) Try.underlying46 rfl (TI.out.trans (by rw [T.out.sz])) ?_) | fail)
  go_must (refine (rperiods_is _ T.out HN.out h3.i (by omega) HM.out h3.j (by omega) X.out Q.out).mono ?_)
  rintro e w4 ⟨A4, c4, rfl, hb, iq⟩
  have h4 := h3.keep hb
  have ip4 := ip.keep hb
  have hp4 := hp3.keep h4.b
  clear h3 hb ip k0 k1
  go_wp2_with (fail)
  go_must (refine (at_is _ H3.out hp4 (by omega) AT.out).mono ?_)
  rintro e w5 ⟨rfl, hb⟩
  have hB5 := Gen.over hb h4.b
  have hp5 := hp4.keep hb
  have ip5 := ip4.keep hb
  have iq5 := iq.keep hb
  clear hb hp4 ip4
  go_wp2_with (fail)
  go_must (refine (rat_is _ H3.out hp5 (by omega) AT.out).mono ?_)
  rintro e w6 ⟨rfl, hb⟩
  have hB6 := Gen.over hb hB5
  have hp6 := hp5.keep hb
  have ip6 := ip5.keep hb
  have iq6 := iq5.keep hb
  clear hb hp5 ip5 iq5
  go_wp2_with (fail)
  go_must (refine (same_b _ Q.out ip6 (by omega) Q.out iq6 (by omega) (decide_eq_true rfl)).mono ?_)
  rintro e w7 ⟨rfl, hb⟩
  have hB7 := Gen.over hb hB6
  have hp7 := hp6.keep hb
  clear hb hp6
  go_wp2_with (fail)
  go_must (refine (due_is _ H3.out hp7 (by omega) DU.out DQ.out).mono ?_)
  rintro e w8 ⟨A8, c8, rfl, hb, id8⟩
  have hB8 := Gen.over hb hB7
  have hp8 := hp7.keep hb
  clear hb hp7
  go_wp2_with (fail)
  go_must (refine (rdue_is _ H3.out hp8 (by omega) DU.out DQ.out).mono ?_)
  rintro e w9 ⟨A9, c9, rfl, hb, je9⟩
  have hB9 := Gen.over hb hB8
  have id9 := id8.keep hb
  clear hb id8
  go_wp2_with (fail)
  go_must (refine (ints_b _ DQ.out id9 (by omega) DQ.out je9 (by omega) (decide_eq_true rfl)).mono ?_)
  rintro e w10 ⟨rfl, hb⟩
  have hB10 := Gen.over hb hB9
  clear hb 
  go_wp2
  go_ret
  exact ⟨rfl, hB10⟩
theorem stells_any {B3 : Option Addr} {cap3 : Nat} {l3 : List Pr} (day : Int) (w : World) (ht : Tm cs fr to ev ad re) (hc : Ints w A rs) (hc' : Ints w A' ds) (hn : rs.length ≤ 9223372036854775807) (hm : ds.length ≤ 9223372036854775807) (hp3 : Pers w B3 l3) (h3 : l3.length ≤ 9223372036854775807) :
    Calls Try.prog 8 #[.agg cs, .agg #[.slice A rs.length cap, .slice A' ds.length cap'], .slice B3 l3.length cap3, .int .i64 day] w fun e w' => e = .returned (.bool true) ∧ Below w.heap.size w w' := by
  obtain ⟨l, e, hp⟩ : ∃ u v, perO rs ds fr to ev ad re = (u, v) := ⟨_, _, rfl⟩
  rcases perO_01 hp with ⟨rfl, ok⟩ | ⟨he, rfl⟩
  · exact stells day w ht rfl hc rfl hc' hn hm rfl hp3 hp rfl (by have := ok.pos; omega) (.inl rfl)
  · exact stells day w ht rfl hc rfl hc' hn hm rfl hp3 hp rfl (by simp) (.inr he)
end
end Go.Proofs.Ytdndlipenjkfpaa.Dat
