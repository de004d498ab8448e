/- SchedPays returns true: all terms and calendars; no condition. -/
import Derived.Test.YtdndlipenjkfpaaLScP0
import Derived.Test.YtdndlipenjkfpaaLScP1
import Derived.Test.YtdndlipenjkfpaaLScP2
import Derived.Test.YtdndlipenjkfpaaLScP3
import Derived.Deep.DeepCutAuto
import Derived.Deep.CutBlock
namespace Go.Proofs.Ytdndlipenjkfpaa.Dat
open Go.ChangeShapes Go.WideShapes Go.ChangeAt Go.RowKit Go.Proofs.Ytdndlipenjkfpaa.Cell
set_option linter.unusedVariables false
set_option linter.unusedSimpArgs false

section
variable {cs : Array Value} {fr tz ev ad re : Int} {A A' : Option Addr} {n cap m cap' : Nat} {rs ds : List Int}
set_option maxRecDepth 100000 in
set_option maxHeartbeats 8000000 in
theorem pays_err {e : Int} (w : World) (ht : Tm cs fr tz ev ad re) (hn : rs.length = n) (hc : Ints w A rs) (hm : ds.length = m) (hc' : Ints w A' ds) (hbig : n ≤ 9223372036854775807) (hbig' : m ≤ 9223372036854775807) (hp : perO rs ds fr tz ev ad re = ([], e)) (he : e = 1 ∨ e = 3) :
    Calls Try.prog 11 #[.agg cs, .agg #[.slice A n cap, .slice A' m cap']] w fun e w' => e = .returned (.bool true) ∧ Below w.heap.size w w' := by
  have h0 := Hp.new (cs := cs) (n := n) (cap := cap) (m := m) (cap' := cap') w hc hc'
  have HN := Lib.hid hn
  have HM := Lib.hid hm
  have T := Lib.hid ht
  have TI := Lib.hid infoTm
  clear hn hm hc hc' ht
  have X := Lib.hid hp
  have Q := Lib.hid (show ([] : List Pr).length = 0 from rfl)
  clear hp
  rcases he with rfl | rfl
  all_goals
    go_enter Try.func11, Try.ntmps11
    go_wp2_with (fail)
    go_must (refine (sch_small _).mono ?_)
    rintro e w1 ⟨rfl, hb⟩
    have h1 := h0.keep hb
    have k0 := h1.c0
    have k1 := h1.c1
    clear h0 hb
    go_wp2_with (first | (refine wpList_load_row rfl 46 _ rfl w.heap.size rfl _ cs _ _ (Row_hp (h1.x)) Try.underlying46 rfl (TI.out.trans (by rw [T.out.sz])) ?_) | fail)
    go_must (refine (fewS_any _ T.out (by assumption) (by assumption)).mono ?_)
    rintro e w2 ⟨b, rfl, hb, hf⟩
    have h2 := h1.keep hb
    cases b
    · clear k0 k1 h1 hb
      go_wp2
      go_ret
      exact ⟨rfl, h2.b⟩
    obtain ⟨f1, f2, f3⟩ := hf rfl
    clear k0 k1 h1 hb hf
    have k0 := h2.c0
    have k1 := h2.c1
    go_wp2_with (first | (refine wpList_load_row rfl 46 _ rfl w.heap.size rfl _ cs _ _ (Row_hp (h2.x)) Try.underlying46 rfl (TI.out.trans (by rw [T.out.sz])) ?_) | fail)
    go_must (refine (periods_is _ T.out HN.out h2.i (by omega) HM.out h2.j (by omega) X.out Q.out).mono ?_)
    rintro e w3 ⟨A3, c3, rfl, hb, ip⟩
    have h3 := h2.keep hb
    clear h2 hb k0 k1
    go_wp2
    go_ret
    exact ⟨rfl, h3.b⟩

theorem pays_any (w : World) (ht : Tm cs fr tz ev ad re) (hc : Ints w A rs) (hc' : Ints w A' ds) (hn : rs.length ≤ 9223372036854775807) (hm : ds.length ≤ 9223372036854775807) :
    Calls Try.prog 11 #[.agg cs, .agg #[.slice A rs.length cap, .slice A' ds.length cap']] w fun e w' => e = .returned (.bool true) ∧ Below w.heap.size w w' := by
  obtain ⟨l, e, hp⟩ : ∃ u v, perO rs ds fr tz ev ad re = (u, v) := ⟨_, _, rfl⟩
  rcases perO_01 hp with ⟨rfl, ok⟩ | ⟨he, rfl⟩
  · obtain ⟨_, _, _, _, _, ad0, ad1, _⟩ := vl_in ok.v
    rcases (show ad = 0 ∨ ad = 1 ∨ ad = 2 ∨ ad = 3 by omega) with h | h | h | h
    · exact pays_ok0 w ht rfl hc rfl hc' hn hm hp rfl h
    · exact pays_ok1 w ht rfl hc rfl hc' hn hm hp rfl h
    · exact pays_ok2 w ht rfl hc rfl hc' hn hm hp rfl h
    · exact pays_ok3 w ht rfl hc rfl hc' hn hm hp rfl h
  · exact pays_err w ht rfl hc rfl hc' hn hm hp he
end
end Go.Proofs.Ytdndlipenjkfpaa.Dat
