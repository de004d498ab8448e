/- SchedCut returns true: all terms, calendars and numbers; no condition. -/
import Derived.Test.YtdndlipenjkfpaaSchK
import Derived.Test.YtdndlipenjkfpaaSchCc
import Derived.Test.YtdndlipenjkfpaaSchD
import Derived.Test.YtdndlipenjkfpaaSchQ
namespace Go.Proofs.Ytdndlipenjkfpaa.Dat
open Go.ChangeShapes Go.WideShapes Go.ChangeAt Go.RowKit Go.Proofs.Ytdndlipenjkfpaa.Cell
set_option linter.unusedVariables false
set_option linter.unusedSimpArgs false

section
variable {P : Program} {ops : Array Oper}
theorem store_new {rest : List Oper} {o : Oper} {a : Act} {w : World} {Q : Exit → Act → World → Prop} (hgd : o.guard = none) (ty : TypeId) (x y : Operand) (ho : o.op = .store ty x y) (hd : o.dst = none)
    (g : Nat) (cells : Array Value) (hx : a.eval x = .pointer (some ⟨g, 0, none⟩)) (hy : a.eval y = .agg cells)
    (t : TypeId) (old : Array Value) (hg : w.heap[g]? = some (.cells old t (0, 0))) (hi : (P.info? ty).map (·.size) = some cells.size)
    (hold : old.size = cells.size) (h1 : cells.all (·.oneCell') = true)
    (h : ∀ w', Row w' g t cells → (∀ B a0, B ≤ g → Below B a0 w → Below B a0 w') → wpList P ops Q rest a w') : wpList P ops Q (o :: rest) a w :=
  wpList_store_row hgd ty x y ho g cells hx hy t old hg hi hold h1 (by rw [hd]; exact h _ (setRow_heap _ _ _ _ _ _ hg) (fun _ _ hB hb => below_setRow hb hB _))
end
theorem pers_take {w : World} {A : Option Addr} {l : List Pr} {i : Nat} (h : Pers w A l) : Pers w A (l.take i) := fun h0 => by
  obtain ⟨b, off, e, hc⟩ := h (by rw [List.length_take] at h0; omega)
  refine ⟨b, off, e, fun j t hj => hc j t ?_⟩
  have hj1 : j < i := by
    have := (List.getElem?_eq_some_iff.1 hj).1
    rw [List.length_take] at this
    omega
  rw [List.getElem?_take_of_lt hj1] at hj
  exact hj
theorem rem_in {k d : Int} (h0 : 0 ≤ k) (h1 : k ≤ 65535) (hd : 0 < d) : 0 ≤ k.tmod d ∧ k.tmod d < d := by
  rw [Int.tmod_eq_emod_of_nonneg h0]
  exact ⟨Int.emod_nonneg _ (by omega), Int.emod_lt_of_pos _ hd⟩
theorem tm_set {cs : Array Value} {fr to ev ad re : Int} (ht : Tm cs fr to ev ad re) (x : Int) : Tm (cs.setIfInBounds 4 (.int .i64 x)) fr x ev ad re := by
  obtain ⟨s, a, b, c, d, e⟩ := ht
  exact ⟨by simp [s], (Array.getElem?_setIfInBounds_ne (by omega)).trans a, by simp [s], (Array.getElem?_setIfInBounds_ne (by omega)).trans c, (Array.getElem?_setIfInBounds_ne (by omega)).trans d, (Array.getElem?_setIfInBounds_ne (by omega)).trans e⟩
section
variable {cs : Array Value} {fr to ev ad re : Int} {A A' : Option Addr} {n cap m cap' : Nat} {rs ds : List Int}
set_option maxRecDepth 100000 in
set_option maxHeartbeats 8000000 in
theorem cut_err {e kk : Int} (w : World) (ht : Tm cs fr to ev ad re) (hn : rs.length = n) (hc : Ints w A rs) (hm : ds.length = m) (hc' : Ints w A' ds) (hbig : n ≤ 9223372036854775807) (hbig' : m ≤ 9223372036854775807) (hp : perO rs ds fr to ev ad re = ([], e)) (he : e = 1 ∨ e = 3) :
    Calls Try.prog 13 #[.agg cs, .agg #[.slice A n cap, .slice A' m cap'], .int .u16 kk] w fun e w' => e = .returned (.bool true) ∧ Below w.heap.size w w' := by
  have h0 := Hp.new (cs := cs) (n := n) (cap := cap) (m := m) (cap' := cap') w hc hc'
  have HN := Lib.hid hn
  have HM := Lib.hid hm
  have T := Lib.hid ht
  have TI := Lib.hid infoTm
  clear hn hm hc hc' ht
  have X := Lib.hid hp
  have Q := Lib.hid (show ([] : List Pr).length = 0 from rfl)
  clear hp
  rcases he with rfl | rfl
  all_goals
    go_enter Try.func13, Try.ntmps13
    go_wp2_with (fail)
    go_must (refine (sch_small _).mono ?_)
    rintro e w1 ⟨rfl, hb⟩
    have h1 := h0.keep hb
    have k0 := h1.c0
    have k1 := h1.c1
    clear h0 hb
    go_wp2_with (first | (refine wpList_load_row rfl 46 _ rfl w.heap.size rfl _ cs _ _ (Row_hp (h1.x)) Try.underlying46 rfl (TI.out.trans (by rw [T.out.sz])) ?_) | fail)
    go_must (refine (fewS_any _ T.out (by assumption) (by assumption)).mono ?_)
    rintro e w2 ⟨b, rfl, hb, hf⟩
    have h2 := h1.keep hb
    cases b
    · clear k0 k1 h1 hb
      go_wp2
      go_ret
      exact ⟨rfl, h2.b⟩
    obtain ⟨f1, f2, f3⟩ := hf rfl
    clear k0 k1 h1 hb hf
    have k0 := h2.c0
    have k1 := h2.c1
    go_wp2_with (first | (refine wpList_load_row rfl 46 _ rfl w.heap.size rfl _ cs _ _ (Row_hp (h2.x)) Try.underlying46 rfl (TI.out.trans (by rw [T.out.sz])) ?_) | fail)
    go_must (refine (periods_is _ T.out HN.out h2.i (by omega) HM.out h2.j (by omega) X.out Q.out).mono ?_)
    rintro e w3 ⟨A3, c3, rfl, hb, ip⟩
    have h3 := h2.keep hb
    clear h2 hb k0 k1
    go_wp2
    go_ret
    exact ⟨rfl, h3.b⟩

set_option maxRecDepth 100000 in
set_option maxHeartbeats 8000000 in
theorem cut_ok {l : List Pr} {M : Nat} {kk : Int} (w : World) (ht : Tm cs fr to ev ad re) (hn : rs.length = n) (hc : Ints w A rs) (hm : ds.length = m) (hc' : Ints w A' ds) (hbig : n ≤ 9223372036854775807) (hbig' : m ≤ 9223372036854775807) (hp : perO rs ds fr to ev ad re = (l, 0)) (hM : l.length = M) (kk0 : 0 ≤ kk) (kk1 : kk ≤ 65535) (one : cs.all (·.oneCell') = true) :
    Calls Try.prog 13 #[.agg cs, .agg #[.slice A n cap, .slice A' m cap'], .int .u16 kk] w fun e w' => e = .returned (.bool true) ∧ Below w.heap.size w w' := by
  have h0 := Hp.new (cs := cs) (n := n) (cap := cap) (m := m) (cap' := cap') w hc hc'
  have HN := Lib.hid hn
  have HM := Lib.hid hm
  have T := Lib.hid ht
  have TI := Lib.hid infoTm
  clear hn hm hc hc' ht
  have ok : PerOk rs ds fr to ev ad re l := by
    rcases perO_01 hp with h | h
    · exact h.2
    · have := h.1; omega
  have X := Lib.hid hp
  have Q := Lib.hid hM
  have OK := Lib.hid ok
  have ONE := Lib.hid one
  have M1 : 1 ≤ M ∧ M ≤ 10002 := by have := ok.pos; omega
  obtain ⟨fr0, frt, to0, _⟩ := vl_in ok.v
  have d0 : 0 < to - fr := by omega
  have d2 : ¬ (to - fr = 0) := by omega
  have d1 : ((to - fr : Int) == 0) = false := by rw [beq_eq_false_iff_ne]; omega
  obtain ⟨r0, r1⟩ := rem_in kk0 kk1 d0
  obtain ⟨R, hR⟩ : ∃ R, kk.tmod (to - fr) = R := ⟨_, rfl⟩
  rw [hR] at r0 r1
  obtain ⟨to', hto⟩ : ∃ t, fr + 1 + R = t := ⟨_, rfl⟩
  have t0 : fr < to' := by omega
  have t1 : to' ≤ to := by omega
  obtain ⟨l', e', hp'⟩ : ∃ u v, perO rs ds fr to' ev ad re = (u, v) := ⟨_, _, rfl⟩
  obtain ⟨q', hq'⟩ : ∃ q, l'.length = q := ⟨_, rfl⟩
  obtain ⟨cs5, e5⟩ : ∃ c, cs.setIfInBounds 4 (.int .i64 to') = c := ⟨_, rfl⟩
  have T5 : Hid (Tm cs5 fr to' ev ad re) := Lib.hid (by rw [← e5]; exact tm_set T.out to')
  have E5 := Lib.hid e5
  have X' := Lib.hid hp'
  have Q' := Lib.hid hq'
  clear hp' hq' e5
  clear hp hM ok one
  go_enter Try.func13, Try.ntmps13
  go_wp2_with (fail)
  go_must (refine (sch_small _).mono ?_)
  rintro e w1 ⟨rfl, hb⟩
  have h1 := h0.keep hb
  have k0 := h1.c0
  have k1 := h1.c1
  clear h0 hb
  go_wp2_with (first | (refine wpList_load_row rfl 46 _ rfl w.heap.size rfl _ cs _ _ (Row_hp (h1.x)) Try.underlying46 rfl (TI.out.trans (by rw [T.out.sz])) ?_) | fail)
  go_must (refine (fewS_any _ T.out (by assumption) (by assumption)).mono ?_)
  rintro e w2 ⟨b, rfl, hb, hf⟩
  have h2 := h1.keep hb
  cases b
  · clear k0 k1 h1 hb
    go_wp2
    go_ret
    exact ⟨rfl, h2.b⟩
  obtain ⟨f1, f2, f3⟩ := hf rfl
  clear k0 k1 h1 hb hf
  have k0 := h2.c0
  have k1 := h2.c1
  go_wp2_with (first | (refine wpList_load_row rfl 46 _ rfl w.heap.size rfl _ cs _ _ (Row_hp (h2.x)) Try.underlying46 rfl (TI.out.trans (by rw [T.out.sz])) ?_) | fail)
  go_must (refine (periods_cap _ T.out HN.out h2.i (by omega) HM.out h2.j (by omega) X.out Q.out).mono ?_)
  rintro e w3 ⟨A3, c3, rfl, hb, ip, hcap3⟩
  have h3 := h2.keep hb
  clear h2 hb k0 k1
  go_wp2_with (first | (refine wpList_load_row rfl 46 _ rfl w.heap.size rfl _ cs _ _ (Row_hp (h3.x)) Try.underlying46 rfl (TI.out.trans (by rw [T.out.sz])) ?_) | (refine store_new rfl 46 (.tmp 10) (.tmp 29) rfl rfl w3.heap.size cs rfl rfl 46 _ (heap_alloc_new w3 _) (TI.out.trans (by rw [T.out.sz])) (by rw [T.out.sz]; kernel_rfl) ONE.out ?_; intro w4 hr4 hb4; have hB4 := hb4 w3.heap.size w3 (Nat.le_refl _) (Gen.b_alloc (Below.refl _ _)); clear hb4) | fail)
  have h4 := h3.keep hB4
  have g4 : w3.heap.size < w4.heap.size := hr4.lt
  have k3 := h4.t T.out.c3
  have k4 := h4.t T.out.c4
  have s4 := (hr4.cell 4).trans T.out.c4
  have f4 := hr4.frozen 4
  have q1 : IntKind.i64.wrap (fr + 1) = fr + 1 := IntWalk.i64_in _ (by omega)
  have q2 : IntKind.i64.wrap kk = kk := IntWalk.i64_in _ (by omega)
  have q3 : IntKind.i64.wrap (to - fr) = to - fr := IntWalk.i64_in _ (by omega)
  have q4 : IntKind.i64.wrap R = R := IntWalk.i64_in _ (by omega)
  have q5 : IntKind.i64.wrap (fr + 1 + R) = to' := by rw [hto]; exact IntWalk.i64_in _ (by omega)
  clear hto h4
  go_region
  clear q1 q2 q3 q4 q5 k3 k4 s4 f4 d2 d1 hR r0 r1 d0 g4
  have hB5 : Below w3.heap.size w3 (w4.setCell ⟨w3.heap.size, 4, none⟩ (.int .i64 to')).drew := (Gen.b_set hB4 (Nat.le_refl _)).drew
  have hr5 : Row (w4.setCell ⟨w3.heap.size, 4, none⟩ (.int .i64 to')).drew w3.heap.size 46 cs5 := by
    rw [← E5.out]
    exact hr4.set 4 _
  generalize (w4.setCell ⟨w3.heap.size, 4, none⟩ (.int .i64 to')).drew = w5 at *
  clear hr4 hB4
  have h5 := h3.keep hB5
  have ip5 := ip.keep hB5
  have k0 := h5.c0
  have k1 := h5.c1
  clear h3 ip
  go_wp2_with (first | (refine wpList_load_row rfl 46 _ rfl w3.heap.size rfl _ cs5 _ _ (Row_hp hr5) Try.underlying46 rfl (TI.out.trans (by rw [T5.out.sz])) ?_) | fail)
  go_must (refine (periods_cap _ T5.out HN.out h5.i (by omega) HM.out h5.j (by omega) X'.out Q'.out).mono ?_)
  rintro e w6 ⟨A6, c6, rfl, hb, iq, hcap6⟩
  have h6 := h5.keep hb
  have hr6 := hr5.keep hb
  have ip6 := ip5.keep hb
  clear hb h5 hr5 ip5 hB5 k0 k1
  rcases perO_01 X'.out with ⟨rfl, ok'⟩ | ⟨he, rfl⟩
  case inr =>
    obtain rfl : 0 = q' := Q'.out
    rcases he with rfl | rfl
    all_goals
      go_wp2
      go_ret
      exact ⟨rfl, h6.b⟩
  obtain ⟨i, rfl⟩ : ∃ i, q' = i + 1 := ⟨q' - 1, by have := ok'.pos; have := Q'.out; omega⟩
  have CUT := Lib.hid (cut_of OK.out ok' Q'.out t1)
  have HF : Hid (∀ t t' : Pr, l[i]? = some t → l'[i]? = some t' → t'.1 = t.1 ∧ t'.2.1 = to') := Lib.hid CUT.out.here
  have iM : i < M := by have := CUT.out.lt; rw [Q.out] at this; exact this
  clear ok'
  go_wp2_with (fail)
  go_loopw [13] (fun iv wr => ∃ k : Nat, k ≤ i ∧ iv = .int .i64 k ∧ Below w6.heap.size w6 wr) (fun iv _ => i - (intOf iv).toNat)
  case atStart => exact ⟨0, Nat.zero_le _, rfl, Below.refl _ _⟩
  case round =>
    obtain ⟨k, hk, rfl, hW⟩ := hrel
    obtain ⟨wo, rfl⟩ : ∃ wo : World, wo = wr := ⟨_, rfl⟩
    obtain ⟨bb, off, rfl, hcell⟩ := (ip6.keep hW) (by rw [Q.out]; omega)
    obtain ⟨t, ht⟩ := Cell.at_ l k (by rw [Q.out]; omega)
    have hiff := CUT.out.before_le hk ht
    have a0 := (hcell k t ht).1
    have a1 := (hcell k t ht).2.1
    have s5 := ((hr6.keep hW).cell 4).trans T5.out.c4
    obtain ⟨f, u, p, r⟩ := t
    dsimp only at hiff a0 a1
    have kk0' : (0 : Int) ≤ (k : Int) := by omega
    have kk1' : (k : Int) < (M : Int) := by omega
    clear hcell
    by_cases hlt : k < i
    · have lt := hiff.2 hlt
      clear ht hiff a0
      go_wp2
      go_quiet (fail)
      rename_i nq
      have hW' := Gen.dN hW nq
      go_wp2
      go_roundw
      case rel => exact ⟨k + 1, by omega, by go_num, hW'⟩
      case measure => simp [intOf]; omega
    · obtain rfl : k = i := by omega
      have ge : to' ≤ u := by have : ¬ u < to' := fun h => hlt (hiff.1 h); omega
      clear hiff hlt
      go_wp2
      go_quiet (fail)
      rename_i nq
      have hW' := Gen.dN hW nq
      go_wp2
      have hk1 := CUT.out.lt
      obtain ⟨b2, o2, rfl, hc2⟩ := (iq.keep hW') (by rw [Q'.out]; omega)
      obtain ⟨t2, ht2⟩ := Cell.at_ l' k (by rw [Q'.out]; omega)
      obtain ⟨e1, e2⟩ := HF.out _ _ ht ht2
      have a2 := (hc2 k t2 ht2).1
      have a3 := (hc2 k t2 ht2).2.1
      rw [e1] at a2
      rw [e2] at a3
      dsimp only at a2
      have TAKE := Lib.hid CUT.out.take
      have LQ := Lib.hid (show (l'.take k).length = k from by rw [List.length_take, Q'.out]; omega)
      have LP := Lib.hid (show (l.take k).length = k from by rw [List.length_take, Q.out]; omega)
      have pq := pers_take (i := k) (iq.keep hW')
      have pp := pers_take (i := k) (ip6.keep hW')
      have h7 := h6.keep hW'
      have a0' : (wo.drewN nq).cell? ⟨bb, off + k * 4, none⟩ = some (.int .i64 f) := a0
      have s5' : (wo.drewN nq).cell? ⟨w3.heap.size, 4, none⟩ = some (.int .i64 to') := s5
      clear a0 s5 a1 ht ht2 hc2 e1 e2 hW hW' h6 hr6 ip6 iq HF hk1
      generalize wo.drewN nq = w7 at *
      have hc6 : (k : Int) ≤ (c6 : Int) := by omega
      have hc3 : (k : Int) ≤ (c3 : Int) := by omega
      have hk6 : (k : Int) < (k : Int) + 1 := by omega
      go_region_held3 (fun W' => Below w7.heap.size w7 W' ∧ W'.cell? ⟨bb, off + k * 4, none⟩ = some (.int .i64 f) ∧ W'.cell? ⟨b2, o2 + k * 4, none⟩ = some (.int .i64 f) ∧ W'.cell? ⟨b2, o2 + k * 4 + 1, none⟩ = some (.int .i64 to') ∧ W'.cell? ⟨w3.heap.size, 4, none⟩ = some (.int .i64 to'))
        (first | exact ⟨(Below.refl _ _).drew, a0', a2, a3, s5'⟩ | exact sk4 (by assumption) (by assumption))
        (first | (go_at_call 36; refine (same_b (l := l'.take k) (l' := l.take k) (n := k) (m := k) _ LQ.out (pq.keep (And.left (by assumption))) (by omega) LP.out (pp.keep (And.left (by assumption))) (by omega) (decide_eq_true TAKE.out)).mono ?_; rintro e w' ⟨rfl, hb'⟩))
      rename_i hH
      have hB8 := Gen.over hH.1 h7.b
      go_wp2
      go_ret
      exact ⟨rfl, hB8⟩
theorem u16_of {x : Int} (g : (Lit.int .u16 x).wf = true) : 0 ≤ x ∧ x ≤ 65535 := by
  have := g
  simp [Lit.wf, IntKind.has, IntKind.min, IntKind.max, IntKind.signed, IntKind.bits] at this
  omega
theorem cut_any {kk : Int} (w : World) (ht : Tm cs fr to ev ad re) (one : cs.all (·.oneCell') = true) (hc : Ints w A rs) (hc' : Ints w A' ds) (hn : rs.length ≤ 9223372036854775807) (hm : ds.length ≤ 9223372036854775807) (g : (Lit.int .u16 kk).wf = true) :
    Calls Try.prog 13 #[.agg cs, .agg #[.slice A rs.length cap, .slice A' ds.length cap'], .int .u16 kk] w fun e w' => e = .returned (.bool true) ∧ Below w.heap.size w w' := by
  obtain ⟨k0, k1⟩ := u16_of g
  obtain ⟨l, e, hp⟩ : ∃ u v, perO rs ds fr to ev ad re = (u, v) := ⟨_, _, rfl⟩
  rcases perO_01 hp with ⟨rfl, ok⟩ | ⟨he, rfl⟩
  · exact cut_ok w ht rfl hc rfl hc' hn hm hp rfl k0 k1 one
  · exact cut_err w ht rfl hc rfl hc' hn hm hp he
end
end Go.Proofs.Ytdndlipenjkfpaa.Dat
