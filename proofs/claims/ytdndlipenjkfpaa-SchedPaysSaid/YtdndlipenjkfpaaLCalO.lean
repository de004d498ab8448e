/- CalOrder returns true: every calendar, two days, and rule; no condition. -/
import Derived.Test.YtdndlipenjkfpaaLCalT
import Derived.Test.YtdndlipenjkfpaaCalQ
namespace Go.Proofs.Ytdndlipenjkfpaa.Dat
open Go.ChangeShapes Go.WideShapes Go.ChangeAt Go.RowKit Go.Proofs.Ytdndlipenjkfpaa.Cell
set_option linter.unusedVariables false
set_option linter.unusedSimpArgs false

section
variable {A A' : Option Addr} {n cap m cap' : Nat} {rs ds : List Int}
theorem nx_two {p : Int → Bool} {a b x e y f : Int} (hab : a ≤ b) (hx : nx p a = (x, e)) (hy : nx p b = (y, f)) : (e = 0 ∧ f = 0 ∧ x ≤ y) ∨ (e = 0 ∧ f = 3) ∨ (e = 3 ∧ f = 3) := by
  rcases nx_01 hy with ⟨rfl, _⟩ | ⟨rfl, _⟩
  · obtain ⟨x', h1, h2⟩ := nx_mono (p := p) (fun k h => h) hab hy
    rw [hx] at h1
    injection h1 with h1 h3
    subst h1 h3
    exact .inl ⟨rfl, rfl, h2⟩
  · rcases nx_01 hx with ⟨rfl, _⟩ | ⟨rfl, _⟩
    · exact .inr (.inl ⟨rfl, rfl⟩)
    · exact .inr (.inr ⟨rfl, rfl⟩)
theorem bf_two {p : Int → Bool} {a b u g v h : Int} (hab : a ≤ b) (hx : bf p a = (u, g)) (hy : bf p b = (v, h)) : (g = 0 ∧ h = 0 ∧ u ≤ v) ∨ (g = 3 ∧ h = 0) ∨ (g = 3 ∧ h = 3) := by
  rcases bf_01 hx with ⟨rfl, _⟩ | ⟨rfl, _⟩
  · obtain ⟨x', h1, h2⟩ := bf_mono (p := p) (fun k h => h) hab hx
    rw [hy] at h1
    injection h1 with h1 h3
    subst h1 h3
    exact .inl ⟨rfl, rfl, h2⟩
  · rcases bf_01 hy with ⟨rfl, _⟩ | ⟨rfl, _⟩
    · exact .inr (.inl ⟨rfl, rfl⟩)
    · exact .inr (.inr ⟨rfl, rfl⟩)
theorem adO_1 {rs ds : List Int} {d x e : Int} (h : rt rs ds = true) (h0 : 0 ≤ d) (h1 : d ≤ 200000) (hx : nx (bd rs ds) d = (x, e)) : adO rs ds d 1 = (x, e) := by rw [adO_in h h0 h1, adj_1, hx]
theorem adO_3 {rs ds : List Int} {d x e : Int} (h : rt rs ds = true) (h0 : 0 ≤ d) (h1 : d ≤ 200000) (hx : bf (bd rs ds) d = (x, e)) : adO rs ds d 3 = (x, e) := by rw [adO_in h h0 h1, adj_3, hx]

set_option maxRecDepth 100000 in
set_option maxHeartbeats 1000000 in
theorem order_few (a b how : Int) (w : World) (hn : rs.length = n) (hc : Ints w A rs) (hm : ds.length = m) (hc' : Ints w A' ds) (hbig : n ≤ 9223372036854775807) (hbig' : m ≤ 9223372036854775807) (h : (decide (n ≤ 20) && decide (m ≤ 20)) = false) :
    Calls Try.prog 5 #[.agg #[.slice A n cap, .slice A' m cap'], .int .i64 a, .int .i64 b, .int .i64 how] w fun e w' => e = .returned (.bool true) ∧ Below w.heap.size w w' := by
  have h0 := Hd.new (n := n) (cap := cap) (m := m) (cap' := cap') w hc hc'
  have HN := Lib.hid hn
  have HM := Lib.hid hm
  clear hn hm hc hc'
  have HF := Lib.hid h
  clear h
  go_enter Try.func5, Try.ntmps5
  go_wp2_with (fail)
  go_must (refine (small_any _).mono ?_)
  rintro e w1 ⟨rfl, hb⟩
  have h1 := h0.keep hb
  have k0 := h1.c0
  have k1 := h1.c1
  clear h0 hb
  go_wp2_with (fail)
  go_must (refine (few_is _ (by assumption) (by assumption) HF.out).mono ?_)
  rintro e w2 ⟨rfl, hb⟩
  have h2 := h1.keep hb
  have k0 := h2.c0
  have k1 := h2.c1
  clear h1 hb
  go_wp2
  go_ret
  exact ⟨rfl, h2.b⟩

set_option maxRecDepth 100000 in
set_option maxHeartbeats 1000000 in
theorem order_right (a b how : Int) (w : World) (hn : rs.length = n) (hc : Ints w A rs) (hm : ds.length = m) (hc' : Ints w A' ds) (hf : (decide (n ≤ 20) && decide (m ≤ 20)) = true) (h : rt rs ds = false) :
    Calls Try.prog 5 #[.agg #[.slice A n cap, .slice A' m cap'], .int .i64 a, .int .i64 b, .int .i64 how] w fun e w' => e = .returned (.bool true) ∧ Below w.heap.size w w' := by
  have h0 := Hd.new (n := n) (cap := cap) (m := m) (cap' := cap') w hc hc'
  have HN := Lib.hid hn
  have HM := Lib.hid hm
  clear hn hm hc hc'
  have HF := Lib.hid hf
  obtain ⟨f1, f2⟩ := few_in hf
  have R := Lib.hid h
  clear h hf
  go_enter Try.func5, Try.ntmps5
  go_wp2_with (fail)
  go_must (refine (small_any _).mono ?_)
  rintro e w1 ⟨rfl, hb⟩
  have h1 := h0.keep hb
  have k0 := h1.c0
  have k1 := h1.c1
  clear h0 hb
  go_wp2_with (fail)
  go_must (refine (few_is _ (by omega) (by omega) HF.out).mono ?_)
  rintro e w2 ⟨rfl, hb⟩
  have h2 := h1.keep hb
  have k0 := h2.c0
  have k1 := h2.c1
  clear h1 hb
  go_wp2_with (fail)
  go_must (refine (right_is _ HN.out h2.i (by omega) HM.out h2.j (by omega) R.out).mono ?_)
  rintro e w3 ⟨rfl, hb⟩
  have h3 := h2.keep hb
  have k0 := h3.c0
  have k1 := h3.c1
  clear h2 hb
  go_wp2
  go_ret
  exact ⟨rfl, h3.b⟩

set_option maxRecDepth 100000 in
set_option maxHeartbeats 1000000 in
theorem order_out (a b how : Int) (w : World) (hn : rs.length = n) (hc : Ints w A rs) (hm : ds.length = m) (hc' : Ints w A' ds) (hf : (decide (n ≤ 20) && decide (m ≤ 20)) = true) (h : rt rs ds = true) (ho : a < 0 ∨ (0 ≤ a ∧ b < a) ∨ (0 ≤ a ∧ a ≤ b ∧ 200000 < b)) :
    Calls Try.prog 5 #[.agg #[.slice A n cap, .slice A' m cap'], .int .i64 a, .int .i64 b, .int .i64 how] w fun e w' => e = .returned (.bool true) ∧ Below w.heap.size w w' := by
  have h0 := Hd.new (n := n) (cap := cap) (m := m) (cap' := cap') w hc hc'
  have HN := Lib.hid hn
  have HM := Lib.hid hm
  clear hn hm hc hc'
  have HF := Lib.hid hf
  obtain ⟨f1, f2⟩ := few_in hf
  have R := Lib.hid h
  clear h hf
  rcases ho with a0 | ⟨a0, a1⟩ | ⟨a0, a1, a2⟩
  all_goals
    go_enter Try.func5, Try.ntmps5
    go_wp2_with (fail)
    go_must (refine (small_any _).mono ?_)
    rintro e w1 ⟨rfl, hb⟩
    have h1 := h0.keep hb
    have k0 := h1.c0
    have k1 := h1.c1
    clear h0 hb
    go_wp2_with (fail)
    go_must (refine (few_is _ (by omega) (by omega) HF.out).mono ?_)
    rintro e w2 ⟨rfl, hb⟩
    have h2 := h1.keep hb
    have k0 := h2.c0
    have k1 := h2.c1
    clear h1 hb
    go_wp2_with (fail)
    go_must (refine (right_is _ HN.out h2.i (by omega) HM.out h2.j (by omega) R.out).mono ?_)
    rintro e w3 ⟨rfl, hb⟩
    have h3 := h2.keep hb
    have k0 := h3.c0
    have k1 := h3.c1
    clear h2 hb
    go_wp2
    go_ret
    exact ⟨rfl, h3.b⟩

set_option maxRecDepth 100000 in
set_option maxHeartbeats 8000000 in
theorem order_in (a b how : Int) (w : World) (hn : rs.length = n) (hc : Ints w A rs) (hm : ds.length = m) (hc' : Ints w A' ds) (hf : (decide (n ≤ 20) && decide (m ≤ 20)) = true) (hr : rt rs ds = true) (a0 : 0 ≤ a) (ab : a ≤ b) (b1 : b ≤ 200000) :
    Calls Try.prog 5 #[.agg #[.slice A n cap, .slice A' m cap'], .int .i64 a, .int .i64 b, .int .i64 how] w fun e w' => e = .returned (.bool true) ∧ Below w.heap.size w w' := by
  have h0 := Hd.new (n := n) (cap := cap) (m := m) (cap' := cap') w hc hc'
  have HN := Lib.hid hn
  have HM := Lib.hid hm
  clear hn hm hc hc'
  have HF := Lib.hid hf
  obtain ⟨f1, f2⟩ := few_in hf
  have a1 : a ≤ 200000 := by omega
  have b0 : 0 ≤ b := by omega
  obtain ⟨x, e, hx⟩ : ∃ x e, nx (bd rs ds) a = (x, e) := ⟨_, _, rfl⟩
  obtain ⟨y, f, hy⟩ : ∃ x e, nx (bd rs ds) b = (x, e) := ⟨_, _, rfl⟩
  obtain ⟨u, g, hu⟩ : ∃ x e, bf (bd rs ds) a = (x, e) := ⟨_, _, rfl⟩
  obtain ⟨v, h, hv⟩ : ∃ x e, bf (bd rs ds) b = (x, e) := ⟨_, _, rfl⟩
  obtain ⟨q, i, hq⟩ : ∃ x e, adj (bd rs ds) a how = (x, e) := ⟨_, _, rfl⟩
  have t1 := nx_two ab hx hy
  have t2 := bf_two ab hu hv
  have R := Lib.hid hr
  have X := Lib.hid (adO_1 hr a0 a1 hx)
  have Y := Lib.hid (adO_1 hr b0 b1 hy)
  have U := Lib.hid (adO_3 hr a0 a1 hu)
  have V := Lib.hid (adO_3 hr b0 b1 hv)
  have Q := Lib.hid (show adO rs ds a how = (q, i) from by rw [adO_in hr a0 a1, hq])
  rcases adj_01 a0 a1 hq with ⟨rfl, q0, q1⟩ | ⟨hi, rfl⟩
  · have Q2 := Lib.hid (show adO rs ds q how = (q, 0) from by rw [adO_in hr q0 q1, adj_again a0 a1 hq])
    clear hx hy hu hv hq hr hf
    rcases t1 with ⟨rfl, rfl, hxy⟩ | ⟨rfl, rfl⟩ | ⟨rfl, rfl⟩ <;> rcases t2 with ⟨rfl, rfl, huv⟩ | ⟨rfl, rfl⟩ | ⟨rfl, rfl⟩
    all_goals
      go_enter Try.func5, Try.ntmps5
      go_wp2_with (fail)
      go_must (refine (small_any _).mono ?_)
      rintro e w1 ⟨rfl, hb⟩
      have h1 := h0.keep hb
      have k0 := h1.c0
      have k1 := h1.c1
      clear h0 hb
      go_wp2_with (fail)
      go_must (refine (few_is _ (by omega) (by omega) HF.out).mono ?_)
      rintro e w2 ⟨rfl, hb⟩
      have h2 := h1.keep hb
      have k0 := h2.c0
      have k1 := h2.c1
      clear h1 hb
      go_wp2_with (fail)
      go_must (refine (right_is _ HN.out h2.i (by omega) HM.out h2.j (by omega) R.out).mono ?_)
      rintro e w3 ⟨rfl, hb⟩
      have h3 := h2.keep hb
      have k0 := h3.c0
      have k1 := h3.c1
      clear h2 hb
      go_wp2_with (fail)
      go_must (refine (next_is _ HN.out h3.i (by omega) HM.out h3.j (by omega) X.out).mono ?_)
      rintro e w4 ⟨rfl, hb⟩
      have h4 := h3.keep hb
      have k0 := h4.c0
      have k1 := h4.c1
      clear h3 hb
      go_wp2_with (fail)
      go_must (refine (next_is _ HN.out h4.i (by omega) HM.out h4.j (by omega) Y.out).mono ?_)
      rintro e w5 ⟨rfl, hb⟩
      have h5 := h4.keep hb
      have k0 := h5.c0
      have k1 := h5.c1
      clear h4 hb
      go_wp2_with (fail)
      go_must (refine (before_is _ HN.out h5.i (by omega) HM.out h5.j (by omega) U.out).mono ?_)
      rintro e w6 ⟨rfl, hb⟩
      have h6 := h5.keep hb
      have k0 := h6.c0
      have k1 := h6.c1
      clear h5 hb
      go_wp2_with (fail)
      go_must (refine (before_is _ HN.out h6.i (by omega) HM.out h6.j (by omega) V.out).mono ?_)
      rintro e w7 ⟨rfl, hb⟩
      have h7 := h6.keep hb
      have k0 := h7.c0
      have k1 := h7.c1
      clear h6 hb
      go_wp2_with (fail)
      go_must (refine (adjust_is _ HN.out h7.i (by omega) HM.out h7.j (by omega) Q.out).mono ?_)
      rintro e w8 ⟨rfl, hb⟩
      have h8 := h7.keep hb
      have k0 := h8.c0
      have k1 := h8.c1
      clear h7 hb
      go_wp2_with (fail)
      go_must (refine (adjust_is _ HN.out h8.i (by omega) HM.out h8.j (by omega) Q2.out).mono ?_)
      rintro e w9 ⟨rfl, hb⟩
      have h9 := h8.keep hb
      have k0 := h9.c0
      have k1 := h9.c1
      clear h8 hb
      go_wp2
      go_ret
      exact ⟨rfl, h9.b⟩
  · clear hx hy hu hv hq hr hf
    rcases t1 with ⟨rfl, rfl, hxy⟩ | ⟨rfl, rfl⟩ | ⟨rfl, rfl⟩ <;> rcases t2 with ⟨rfl, rfl, huv⟩ | ⟨rfl, rfl⟩ | ⟨rfl, rfl⟩ <;> rcases hi with rfl | rfl
    all_goals
      go_enter Try.func5, Try.ntmps5
      go_wp2_with (fail)
      go_must (refine (small_any _).mono ?_)
      rintro e w1 ⟨rfl, hb⟩
      have h1 := h0.keep hb
      have k0 := h1.c0
      have k1 := h1.c1
      clear h0 hb
      go_wp2_with (fail)
      go_must (refine (few_is _ (by omega) (by omega) HF.out).mono ?_)
      rintro e w2 ⟨rfl, hb⟩
      have h2 := h1.keep hb
      have k0 := h2.c0
      have k1 := h2.c1
      clear h1 hb
      go_wp2_with (fail)
      go_must (refine (right_is _ HN.out h2.i (by omega) HM.out h2.j (by omega) R.out).mono ?_)
      rintro e w3 ⟨rfl, hb⟩
      have h3 := h2.keep hb
      have k0 := h3.c0
      have k1 := h3.c1
      clear h2 hb
      go_wp2_with (fail)
      go_must (refine (next_is _ HN.out h3.i (by omega) HM.out h3.j (by omega) X.out).mono ?_)
      rintro e w4 ⟨rfl, hb⟩
      have h4 := h3.keep hb
      have k0 := h4.c0
      have k1 := h4.c1
      clear h3 hb
      go_wp2_with (fail)
      go_must (refine (next_is _ HN.out h4.i (by omega) HM.out h4.j (by omega) Y.out).mono ?_)
      rintro e w5 ⟨rfl, hb⟩
      have h5 := h4.keep hb
      have k0 := h5.c0
      have k1 := h5.c1
      clear h4 hb
      go_wp2_with (fail)
      go_must (refine (before_is _ HN.out h5.i (by omega) HM.out h5.j (by omega) U.out).mono ?_)
      rintro e w6 ⟨rfl, hb⟩
      have h6 := h5.keep hb
      have k0 := h6.c0
      have k1 := h6.c1
      clear h5 hb
      go_wp2_with (fail)
      go_must (refine (before_is _ HN.out h6.i (by omega) HM.out h6.j (by omega) V.out).mono ?_)
      rintro e w7 ⟨rfl, hb⟩
      have h7 := h6.keep hb
      have k0 := h7.c0
      have k1 := h7.c1
      clear h6 hb
      go_wp2_with (fail)
      go_must (refine (adjust_is _ HN.out h7.i (by omega) HM.out h7.j (by omega) Q.out).mono ?_)
      rintro e w8 ⟨rfl, hb⟩
      have h8 := h7.keep hb
      have k0 := h8.c0
      have k1 := h8.c1
      clear h7 hb
      go_wp2
      go_ret
      exact ⟨rfl, h8.b⟩
theorem order_any (a b how : Int) (w : World) (hc : Ints w A rs) (hc' : Ints w A' ds) (hn : rs.length ≤ 9223372036854775807) (hm : ds.length ≤ 9223372036854775807) :
    Calls Try.prog 5 #[.agg #[.slice A rs.length cap, .slice A' ds.length cap'], .int .i64 a, .int .i64 b, .int .i64 how] w fun e w' => e = .returned (.bool true) ∧ Below w.heap.size w w' := by
  cases hf : (decide (rs.length ≤ 20) && decide (ds.length ≤ 20))
  · exact order_few a b how w rfl hc rfl hc' hn hm hf
  cases hr : rt rs ds
  · exact order_right a b how w rfl hc rfl hc' hf hr
  by_cases ho : a < 0 ∨ (0 ≤ a ∧ b < a) ∨ (0 ≤ a ∧ a ≤ b ∧ 200000 < b)
  · exact order_out a b how w rfl hc rfl hc' hf hr ho
  · exact order_in a b how w rfl hc rfl hc' hf hr (by omega) (by omega) (by omega)
end
end Go.Proofs.Ytdndlipenjkfpaa.Dat
