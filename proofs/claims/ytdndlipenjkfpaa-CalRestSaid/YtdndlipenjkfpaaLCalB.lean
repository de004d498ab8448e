/- CalBack returns true: every calendar, day, and two numbers; no condition. -/
import Derived.Test.YtdndlipenjkfpaaLCalT
import Derived.Test.YtdndlipenjkfpaaLCalO
import Derived.Test.YtdndlipenjkfpaaCalQ
namespace Go.Proofs.Ytdndlipenjkfpaa.Dat
open Go.ChangeShapes Go.WideShapes Go.ChangeAt Go.RowKit Go.Proofs.Ytdndlipenjkfpaa.Cell
set_option linter.unusedVariables false
set_option linter.unusedSimpArgs false

section
variable {A A' : Option Addr} {n cap m cap' : Nat} {rs ds : List Int}
theorem bkO_0 {rs ds : List Int} {d k x e : Int} (h : rt rs ds = true) (h0 : 0 ≤ d) (h1 : d ≤ 200000) (k0 : 0 ≤ k) (k1 : k ≤ 1000) (hx : bk (bd rs ds) k.toNat d = (x, e)) : bkO rs ds d k = (x, e) := by rw [bkO_in h h0 h1 k0 k1, hx]
theorem u8_of {n : Int} (h : (Lit.int .u8 n).wf = true) : 0 ≤ n ∧ n ≤ 255 := by
  simpa [Lit.wf, IntKind.min, IntKind.max, IntKind.signed, IntKind.bits] using h
set_option maxRecDepth 100000 in
set_option maxHeartbeats 1000000 in
theorem backs_few (day a2 a3 : Int) (w : World) (hn : rs.length = n) (hc : Ints w A rs) (hm : ds.length = m) (hc' : Ints w A' ds) (hbig : n ≤ 9223372036854775807) (hbig' : m ≤ 9223372036854775807) (h : (decide (n ≤ 20) && decide (m ≤ 20)) = false) :
    Calls Try.prog 6 #[.agg #[.slice A n cap, .slice A' m cap'], .int .i64 day, .int .u8 a2, .int .u8 a3] w fun e w' => e = .returned (.bool true) ∧ Below w.heap.size w w' := by
  have h0 := Hd.new (n := n) (cap := cap) (m := m) (cap' := cap') w hc hc'
  have HN := Lib.hid hn
  have HM := Lib.hid hm
  clear hn hm hc hc'
  have HF := Lib.hid h
  clear h
  go_enter Try.func6, Try.ntmps6
  go_wp2_with (fail)
  go_must (refine (small_any _).mono ?_)
  rintro e w1 ⟨rfl, hb⟩
  have h1 := h0.keep hb
  have k0 := h1.c0
  have k1 := h1.c1
  clear h0 hb
  go_wp2_with (fail)
  go_must (refine (few_is _ (by assumption) (by assumption) HF.out).mono ?_)
  rintro e w2 ⟨rfl, hb⟩
  have h2 := h1.keep hb
  have k0 := h2.c0
  have k1 := h2.c1
  clear h1 hb
  go_wp2
  go_ret
  exact ⟨rfl, h2.b⟩

set_option maxRecDepth 100000 in
set_option maxHeartbeats 1000000 in
theorem backs_right (day a2 a3 : Int) (w : World) (hn : rs.length = n) (hc : Ints w A rs) (hm : ds.length = m) (hc' : Ints w A' ds) (hf : (decide (n ≤ 20) && decide (m ≤ 20)) = true) (h : rt rs ds = false) :
    Calls Try.prog 6 #[.agg #[.slice A n cap, .slice A' m cap'], .int .i64 day, .int .u8 a2, .int .u8 a3] w fun e w' => e = .returned (.bool true) ∧ Below w.heap.size w w' := by
  have h0 := Hd.new (n := n) (cap := cap) (m := m) (cap' := cap') w hc hc'
  have HN := Lib.hid hn
  have HM := Lib.hid hm
  clear hn hm hc hc'
  have HF := Lib.hid hf
  obtain ⟨f1, f2⟩ := few_in hf
  have R := Lib.hid h
  clear h hf
  go_enter Try.func6, Try.ntmps6
  go_wp2_with (fail)
  go_must (refine (small_any _).mono ?_)
  rintro e w1 ⟨rfl, hb⟩
  have h1 := h0.keep hb
  have k0 := h1.c0
  have k1 := h1.c1
  clear h0 hb
  go_wp2_with (fail)
  go_must (refine (few_is _ (by omega) (by omega) HF.out).mono ?_)
  rintro e w2 ⟨rfl, hb⟩
  have h2 := h1.keep hb
  have k0 := h2.c0
  have k1 := h2.c1
  clear h1 hb
  go_wp2_with (fail)
  go_must (refine (right_is _ HN.out h2.i (by omega) HM.out h2.j (by omega) R.out).mono ?_)
  rintro e w3 ⟨rfl, hb⟩
  have h3 := h2.keep hb
  have k0 := h3.c0
  have k1 := h3.c1
  clear h2 hb
  go_wp2
  go_ret
  exact ⟨rfl, h3.b⟩

set_option maxRecDepth 100000 in
set_option maxHeartbeats 1000000 in
theorem backs_out (day a2 a3 : Int) (w : World) (hn : rs.length = n) (hc : Ints w A rs) (hm : ds.length = m) (hc' : Ints w A' ds) (hf : (decide (n ≤ 20) && decide (m ≤ 20)) = true) (h : rt rs ds = true) (ho : day < 0 ∨ (0 ≤ day ∧ 200000 < day)) :
    Calls Try.prog 6 #[.agg #[.slice A n cap, .slice A' m cap'], .int .i64 day, .int .u8 a2, .int .u8 a3] w fun e w' => e = .returned (.bool true) ∧ Below w.heap.size w w' := by
  have h0 := Hd.new (n := n) (cap := cap) (m := m) (cap' := cap') w hc hc'
  have HN := Lib.hid hn
  have HM := Lib.hid hm
  clear hn hm hc hc'
  have HF := Lib.hid hf
  obtain ⟨f1, f2⟩ := few_in hf
  have R := Lib.hid h
  clear h hf
  rcases ho with a0 | ⟨a0, a1⟩
  all_goals
    go_enter Try.func6, Try.ntmps6
    go_wp2_with (fail)
    go_must (refine (small_any _).mono ?_)
    rintro e w1 ⟨rfl, hb⟩
    have h1 := h0.keep hb
    have k0 := h1.c0
    have k1 := h1.c1
    clear h0 hb
    go_wp2_with (fail)
    go_must (refine (few_is _ (by omega) (by omega) HF.out).mono ?_)
    rintro e w2 ⟨rfl, hb⟩
    have h2 := h1.keep hb
    have k0 := h2.c0
    have k1 := h2.c1
    clear h1 hb
    go_wp2_with (fail)
    go_must (refine (right_is _ HN.out h2.i (by omega) HM.out h2.j (by omega) R.out).mono ?_)
    rintro e w3 ⟨rfl, hb⟩
    have h3 := h2.keep hb
    have k0 := h3.c0
    have k1 := h3.c1
    clear h2 hb
    go_wp2
    go_ret
    exact ⟨rfl, h3.b⟩

set_option maxRecDepth 100000 in
set_option maxHeartbeats 4000000 in
theorem backs_none (day a2 a3 p q : Int) (w : World) (hn : rs.length = n) (hc : Ints w A rs) (hm : ds.length = m) (hc' : Ints w A' ds) (hf : (decide (n ≤ 20) && decide (m ≤ 20)) = true) (hr : rt rs ds = true) (d0 : 0 ≤ day) (d1 : day ≤ 200000) (u0 : 0 ≤ a2) (u1 : a2 ≤ 255) (v0 : 0 ≤ a3) (v1 : a3 ≤ 255) (hp : a2 % 40 = p) (hq : a3 % 40 = q) (hx : bk (bd rs ds) p.toNat day = (0, 3)) :
    Calls Try.prog 6 #[.agg #[.slice A n cap, .slice A' m cap'], .int .i64 day, .int .u8 a2, .int .u8 a3] w fun e w' => e = .returned (.bool true) ∧ Below w.heap.size w w' := by
  have h0 := Hd.new (n := n) (cap := cap) (m := m) (cap' := cap') w hc hc'
  have HN := Lib.hid hn
  have HM := Lib.hid hm
  clear hn hm hc hc'
  have HF := Lib.hid hf
  obtain ⟨f1, f2⟩ := few_in hf
  have p0 : 0 ≤ p := by omega
  have p1 : p ≤ 39 := by omega
  have q0 : 0 ≤ q := by omega
  have q1 : q ≤ 39 := by omega
  have R := Lib.hid hr
  have P := Lib.hid hp
  have Q := Lib.hid hq
  have X := Lib.hid (bkO_0 hr d0 d1 p0 (by omega) hx)
  have Y := Lib.hid (bkO_0 (k := p + q) (x := 0) (e := 3) hr d0 d1 (by omega) (by omega) (by rw [show (p + q).toNat = p.toNat + q.toNat by omega]; exact bk_none hx))
  clear hp hq hr hf hx
  go_enter Try.func6, Try.ntmps6
  go_wp2_with (fail)
  go_must (refine (small_any _).mono ?_)
  rintro e w1 ⟨rfl, hb⟩
  have h1 := h0.keep hb
  have k0 := h1.c0
  have k1 := h1.c1
  clear h0 hb
  go_wp2_with (fail)
  go_must (refine (few_is _ (by omega) (by omega) HF.out).mono ?_)
  rintro e w2 ⟨rfl, hb⟩
  have h2 := h1.keep hb
  have k0 := h2.c0
  have k1 := h2.c1
  clear h1 hb
  go_wp2_with (fail)
  go_must (refine (right_is _ HN.out h2.i (by omega) HM.out h2.j (by omega) R.out).mono ?_)
  rintro e w3 ⟨rfl, hb⟩
  have h3 := h2.keep hb
  have k0 := h3.c0
  have k1 := h3.c1
  clear h2 hb
  go_wp2_with (fail)
  rw [P.out, Q.out]
  go_must (refine (back_is _ HN.out h3.i (by omega) HM.out h3.j (by omega) X.out).mono ?_)
  rintro e w4 ⟨rfl, hb⟩
  have h4 := h3.keep hb
  have k0 := h4.c0
  have k1 := h4.c1
  clear h3 hb
  go_wp2_with (fail)
  go_must (refine (back_is _ HN.out h4.i (by omega) HM.out h4.j (by omega) Y.out).mono ?_)
  rintro e w5 ⟨rfl, hb⟩
  have h5 := h4.keep hb
  have k0 := h5.c0
  have k1 := h5.c1
  clear h4 hb
  go_wp2
  go_ret
  exact ⟨rfl, h5.b⟩

set_option maxRecDepth 100000 in
set_option maxHeartbeats 8000000 in
theorem backs_pos (day a2 a3 p q a b f : Int) (w : World) (hn : rs.length = n) (hc : Ints w A rs) (hm : ds.length = m) (hc' : Ints w A' ds) (hf : (decide (n ≤ 20) && decide (m ≤ 20)) = true) (hr : rt rs ds = true) (d0 : 0 ≤ day) (d1 : day ≤ 200000) (u0 : 0 ≤ a2) (u1 : a2 ≤ 255) (v0 : 0 ≤ a3) (v1 : a3 ≤ 255) (hp : a2 % 40 = p) (hq : a3 % 40 = q) (pp : 0 < p) (hx : bk (bd rs ds) (p : Int).toNat day = (a, 0)) (hb2 : bk (bd rs ds) q.toNat a = (b, f)) (a0 : 0 ≤ a) (a1 : a ≤ day) (pa : bd rs ds a = true) :
    Calls Try.prog 6 #[.agg #[.slice A n cap, .slice A' m cap'], .int .i64 day, .int .u8 a2, .int .u8 a3] w fun e w' => e = .returned (.bool true) ∧ Below w.heap.size w w' := by
  have h0 := Hd.new (n := n) (cap := cap) (m := m) (cap' := cap') w hc hc'
  have HN := Lib.hid hn
  have HM := Lib.hid hm
  clear hn hm hc hc'
  have HF := Lib.hid hf
  obtain ⟨f1, f2⟩ := few_in hf
  have p0 : 0 ≤ p := by omega
  have p1 : p ≤ 39 := by omega
  have q0 : 0 ≤ q := by omega
  have q1 : q ≤ 39 := by omega
  have R := Lib.hid hr
  have P := Lib.hid hp
  have Q := Lib.hid hq
  have X := Lib.hid (bkO_0 (k := p) hr d0 d1 (by omega) (by omega) hx)
  have Y := Lib.hid (bkO_0 (k := p + q) (x := b) (e := f) hr d0 d1 (by omega) (by omega) (by rw [show (p + q).toNat = (p : Int).toNat + q.toNat by omega, bk_add hx]; exact hb2))
  have Z := Lib.hid (bkO_0 (k := q) (x := b) (e := f) hr a0 (by omega) (by omega) (by omega) hb2)
  have C := Lib.hid (show cnt (bd rs ds) a (day - a).toNat = p from by
    have := bk_cnt d0 d1 hx
    omega)
  obtain ⟨x, hxx, hax⟩ := bk_mono (p := bd rs ds) (fun k h => h) (show day ≤ day + 1 by omega) hx
  have PA := Lib.hid ((bz_of hr a0 (by omega)).trans pa)
  have BZ := Lib.hid (show ∀ k, 0 ≤ k → k ≤ 200000 → bz rs ds k = bd rs ds k from fun k h1 h2 => bz_of hr h1 h2)
  have W1 := Lib.hid (show day + 1 ≤ 200000 → bkO rs ds (day + 1) p = (x, 0) from fun h => bkO_0 hr (by omega) h (by omega) (by omega) hxx)
  clear hp hq hr hf hx hb2 hxx pa
  go_enter Try.func6, Try.ntmps6
  go_wp2_with (fail)
  go_must (refine (small_any _).mono ?_)
  rintro e w1 ⟨rfl, hb⟩
  have h1 := h0.keep hb
  have k0 := h1.c0
  have k1 := h1.c1
  clear h0 hb
  go_wp2_with (fail)
  go_must (refine (few_is _ (by omega) (by omega) HF.out).mono ?_)
  rintro e w2 ⟨rfl, hb⟩
  have h2 := h1.keep hb
  have k0 := h2.c0
  have k1 := h2.c1
  clear h1 hb
  go_wp2_with (fail)
  go_must (refine (right_is _ HN.out h2.i (by omega) HM.out h2.j (by omega) R.out).mono ?_)
  rintro e w3 ⟨rfl, hb⟩
  have h3 := h2.keep hb
  have k0 := h3.c0
  have k1 := h3.c1
  clear h2 hb
  go_wp2_with (fail)
  rw [P.out, Q.out]
  go_must (refine (back_is _ HN.out h3.i (by omega) HM.out h3.j (by omega) X.out).mono ?_)
  rintro e w4 ⟨rfl, hb⟩
  have h4 := h3.keep hb
  have k0 := h4.c0
  have k1 := h4.c1
  clear h3 hb
  go_wp2_with (fail)
  go_must (refine (back_is _ HN.out h4.i (by omega) HM.out h4.j (by omega) Y.out).mono ?_)
  rintro e w5 ⟨rfl, hb⟩
  have h5 := h4.keep hb
  have k0 := h5.c0
  have k1 := h5.c1
  clear h4 hb
  go_wp2_with (fail)
  go_must (refine (back_is _ HN.out h5.i (by omega) HM.out h5.j (by omega) Z.out).mono ?_)
  rintro e w6 ⟨rfl, hb⟩
  have h6 := h5.keep hb
  have k0 := h6.c0
  have k1 := h6.c1
  clear h5 hb
  have f03 : (f == 0) = true ∨ (f == 0) = false := by cases (f == 0) <;> simp
  rcases f03 with f03 | f03
  all_goals
    clear k0 k1
    go_wp2_with (fail)
    go_loopw [18, 19] (fun mv kv wr => ∃ k c : Int, a ≤ k ∧ k ≤ day ∧ kv = .int .i64 k ∧ mv = .int .i64 c ∧ Hid (c = cnt (bd rs ds) a (k - a).toNat) ∧ Hd w w.heap.size A n cap A' m cap' rs ds wr) (fun _ kv _ => (day - intOf kv).toNat)
    case atStart => exact ⟨a, 0, by omega, by omega, rfl, rfl, Lib.hid (by rw [Int.sub_self]; rfl), h6⟩
    case round =>
      obtain ⟨k, c, e0, e1, rfl, rfl, HC, g0⟩ := hrel
      have k0 := g0.c0
      have k1 := g0.c1
      clear h6
      by_cases hlt : k < day
      · have c01 := cnt_in (bd rs ds) a (k - a).toNat
        rw [← HC.out] at c01
        have c0 : 0 ≤ c := c01.1
        have c1 : c ≤ 300000 := by omega
        clear c01
        cases hk : bd rs ds k
        · have PK := Lib.hid ((BZ.out k (by omega) (by omega)).trans hk)
          have HS := Lib.hid (show c = cnt (bd rs ds) a (k + 1 - a).toNat from by
            rw [show (k + 1 - a).toNat = (k - a).toNat + 1 by omega, cnt, ← HC.out, show a + ((k - a).toNat : Int) = k by omega, hk]
            simp)
          clear hk
          go_wp2_with (fail)
          go_must (refine (bus_is _ HN.out g0.i (by omega) HM.out g0.j (by omega) PK.out).mono ?_)
          rintro e w30 ⟨rfl, hb⟩
          have h30 := g0.keep hb
          have k0 := h30.c0
          have k1 := h30.c1
          clear g0 hb
          clear k0 k1
          go_wp2
          go_roundw
          case rel => exact ⟨k + 1, c, by omega, by omega, rfl, rfl, HS, h30⟩
          case measure => simp [intOf]; omega
        · have PK := Lib.hid ((BZ.out k (by omega) (by omega)).trans hk)
          have HS := Lib.hid (show c + 1 = cnt (bd rs ds) a (k + 1 - a).toNat from by
            rw [show (k + 1 - a).toNat = (k - a).toNat + 1 by omega, cnt, ← HC.out, show a + ((k - a).toNat : Int) = k by omega, hk]
            simp)
          clear hk
          go_wp2_with (fail)
          go_must (refine (bus_is _ HN.out g0.i (by omega) HM.out g0.j (by omega) PK.out).mono ?_)
          rintro e w30 ⟨rfl, hb⟩
          have h30 := g0.keep hb
          have k0 := h30.c0
          have k1 := h30.c1
          clear g0 hb
          clear k0 k1
          go_wp2
          go_roundw
          case rel => exact ⟨k + 1, c + 1, by omega, by omega, rfl, rfl, HS, h30⟩
          case measure => simp [intOf]; omega
      · have hkd : k = day := by omega
        subst hkd
        obtain rfl : c = p := HC.out.trans C.out
        by_cases hM : k = 200000
        · subst hM
          go_wp2_with (fail)
          go_must (refine (bus_is _ HN.out g0.i (by omega) HM.out g0.j (by omega) PA.out).mono ?_)
          rintro e w31 ⟨rfl, hb⟩
          have h31 := g0.keep hb
          have k0 := h31.c0
          have k1 := h31.c1
          clear g0 hb
          go_wp2
          go_ret
          exact ⟨rfl, h31.b⟩
        · have W2 := Lib.hid (W1.out (by omega))
          have bM : (k == 200000) = false := by simpa using hM
          have hK : k < 200000 := by omega
          clear hM
          go_wp2_with (fail)
          go_must (refine (bus_is _ HN.out g0.i (by omega) HM.out g0.j (by omega) PA.out).mono ?_)
          rintro e w31 ⟨rfl, hb⟩
          have h31 := g0.keep hb
          have k0 := h31.c0
          have k1 := h31.c1
          clear g0 hb
          go_wp2_with (fail)
          go_must (refine (back_is _ HN.out h31.i (by omega) HM.out h31.j (by omega) W2.out).mono ?_)
          rintro e w32 ⟨rfl, hb⟩
          have h32 := h31.keep hb
          have k0 := h32.c0
          have k1 := h32.c1
          clear h31 hb
          go_wp2
          go_ret
          exact ⟨rfl, h32.b⟩

set_option maxRecDepth 100000 in
set_option maxHeartbeats 8000000 in
theorem backs_zero (day a2 a3 q b f : Int) (w : World) (hn : rs.length = n) (hc : Ints w A rs) (hm : ds.length = m) (hc' : Ints w A' ds) (hf : (decide (n ≤ 20) && decide (m ≤ 20)) = true) (hr : rt rs ds = true) (d0 : 0 ≤ day) (d1 : day ≤ 200000) (u0 : 0 ≤ a2) (u1 : a2 ≤ 255) (v0 : 0 ≤ a3) (v1 : a3 ≤ 255) (hp : a2 % 40 = 0) (hq : a3 % 40 = q) (hx : bk (bd rs ds) (0 : Int).toNat day = (day, 0)) (hb2 : bk (bd rs ds) q.toNat day = (b, f)) (a0 : 0 ≤ day) (a1 : day ≤ day) :
    Calls Try.prog 6 #[.agg #[.slice A n cap, .slice A' m cap'], .int .i64 day, .int .u8 a2, .int .u8 a3] w fun e w' => e = .returned (.bool true) ∧ Below w.heap.size w w' := by
  have h0 := Hd.new (n := n) (cap := cap) (m := m) (cap' := cap') w hc hc'
  have HN := Lib.hid hn
  have HM := Lib.hid hm
  clear hn hm hc hc'
  have HF := Lib.hid hf
  obtain ⟨f1, f2⟩ := few_in hf
  have q0 : 0 ≤ q := by omega
  have q1 : q ≤ 39 := by omega
  have R := Lib.hid hr
  have P := Lib.hid hp
  have Q := Lib.hid hq
  have X := Lib.hid (bkO_0 (k := 0) hr d0 d1 (by omega) (by omega) hx)
  have Y := Lib.hid (bkO_0 (k := q) (x := b) (e := f) hr d0 d1 (by omega) (by omega) (by rw [show q.toNat = (0 : Int).toNat + q.toNat by omega, bk_add hx]; exact hb2))
  have Z := Lib.hid (bkO_0 (k := q) (x := b) (e := f) hr a0 (by omega) (by omega) (by omega) hb2)
  have C := Lib.hid (show cnt (bd rs ds) day (day - day).toNat = 0 from by
    have := bk_cnt d0 d1 hx
    omega)
  obtain ⟨x, hxx, hax⟩ := bk_mono (p := bd rs ds) (fun k h => h) (show day ≤ day + 1 by omega) hx
  have BZ := Lib.hid (show ∀ k, 0 ≤ k → k ≤ 200000 → bz rs ds k = bd rs ds k from fun k h1 h2 => bz_of hr h1 h2)
  have W1 := Lib.hid (show day + 1 ≤ 200000 → bkO rs ds (day + 1) 0 = (x, 0) from fun h => bkO_0 hr (by omega) h (by omega) (by omega) hxx)
  clear hp hq hr hf hx hb2 hxx
  go_enter Try.func6, Try.ntmps6
  go_wp2_with (fail)
  go_must (refine (small_any _).mono ?_)
  rintro e w1 ⟨rfl, hb⟩
  have h1 := h0.keep hb
  have k0 := h1.c0
  have k1 := h1.c1
  clear h0 hb
  go_wp2_with (fail)
  go_must (refine (few_is _ (by omega) (by omega) HF.out).mono ?_)
  rintro e w2 ⟨rfl, hb⟩
  have h2 := h1.keep hb
  have k0 := h2.c0
  have k1 := h2.c1
  clear h1 hb
  go_wp2_with (fail)
  go_must (refine (right_is _ HN.out h2.i (by omega) HM.out h2.j (by omega) R.out).mono ?_)
  rintro e w3 ⟨rfl, hb⟩
  have h3 := h2.keep hb
  have k0 := h3.c0
  have k1 := h3.c1
  clear h2 hb
  go_wp2_with (fail)
  rw [P.out, Q.out]
  go_must (refine (back_is _ HN.out h3.i (by omega) HM.out h3.j (by omega) X.out).mono ?_)
  rintro e w4 ⟨rfl, hb⟩
  have h4 := h3.keep hb
  have k0 := h4.c0
  have k1 := h4.c1
  clear h3 hb
  go_wp2_with (fail)
  go_must (refine (back_is _ HN.out h4.i (by omega) HM.out h4.j (by omega) Y.out).mono ?_)
  rintro e w5 ⟨rfl, hb⟩
  have h5 := h4.keep hb
  have k0 := h5.c0
  have k1 := h5.c1
  clear h4 hb
  go_wp2_with (fail)
  go_must (refine (back_is _ HN.out h5.i (by omega) HM.out h5.j (by omega) Z.out).mono ?_)
  rintro e w6 ⟨rfl, hb⟩
  have h6 := h5.keep hb
  have k0 := h6.c0
  have k1 := h6.c1
  clear h5 hb
  have f03 : (f == 0) = true ∨ (f == 0) = false := by cases (f == 0) <;> simp
  rcases f03 with f03 | f03
  all_goals
    clear k0 k1
    go_wp2_with (fail)
    go_loopw [18, 19] (fun mv kv wr => ∃ k c : Int, day ≤ k ∧ k ≤ day ∧ kv = .int .i64 k ∧ mv = .int .i64 c ∧ Hid (c = cnt (bd rs ds) day (k - day).toNat) ∧ Hd w w.heap.size A n cap A' m cap' rs ds wr) (fun _ kv _ => (day - intOf kv).toNat)
    case atStart => exact ⟨day, 0, by omega, by omega, rfl, rfl, Lib.hid (by rw [Int.sub_self]; rfl), h6⟩
    case round =>
      obtain ⟨k, c, e0, e1, rfl, rfl, HC, g0⟩ := hrel
      have k0 := g0.c0
      have k1 := g0.c1
      clear h6
      by_cases hlt : k < day
      · have c01 := cnt_in (bd rs ds) day (k - day).toNat
        rw [← HC.out] at c01
        have c0 : 0 ≤ c := c01.1
        have c1 : c ≤ 300000 := by omega
        clear c01
        cases hk : bd rs ds k
        · have PK := Lib.hid ((BZ.out k (by omega) (by omega)).trans hk)
          have HS := Lib.hid (show c = cnt (bd rs ds) day (k + 1 - day).toNat from by
            rw [show (k + 1 - day).toNat = (k - day).toNat + 1 by omega, cnt, ← HC.out, show day + ((k - day).toNat : Int) = k by omega, hk]
            simp)
          clear hk
          go_wp2_with (fail)
          go_must (refine (bus_is _ HN.out g0.i (by omega) HM.out g0.j (by omega) PK.out).mono ?_)
          rintro e w30 ⟨rfl, hb⟩
          have h30 := g0.keep hb
          have k0 := h30.c0
          have k1 := h30.c1
          clear g0 hb
          clear k0 k1
          go_wp2
          go_roundw
          case rel => exact ⟨k + 1, c, by omega, by omega, rfl, rfl, HS, h30⟩
          case measure => simp [intOf]; omega
        · have PK := Lib.hid ((BZ.out k (by omega) (by omega)).trans hk)
          have HS := Lib.hid (show c + 1 = cnt (bd rs ds) day (k + 1 - day).toNat from by
            rw [show (k + 1 - day).toNat = (k - day).toNat + 1 by omega, cnt, ← HC.out, show day + ((k - day).toNat : Int) = k by omega, hk]
            simp)
          clear hk
          go_wp2_with (fail)
          go_must (refine (bus_is _ HN.out g0.i (by omega) HM.out g0.j (by omega) PK.out).mono ?_)
          rintro e w30 ⟨rfl, hb⟩
          have h30 := g0.keep hb
          have k0 := h30.c0
          have k1 := h30.c1
          clear g0 hb
          clear k0 k1
          go_wp2
          go_roundw
          case rel => exact ⟨k + 1, c + 1, by omega, by omega, rfl, rfl, HS, h30⟩
          case measure => simp [intOf]; omega
      · have hkd : k = day := by omega
        subst hkd
        obtain rfl : c = 0 := HC.out.trans C.out
        by_cases hM : k = 200000
        · subst hM
          go_wp2
          go_ret
          exact ⟨rfl, g0.b⟩
        · have W2 := Lib.hid (W1.out (by omega))
          have bM : (k == 200000) = false := by simpa using hM
          have hK : k < 200000 := by omega
          clear hM
          go_wp2_with (fail)
          go_must (refine (back_is _ HN.out g0.i (by omega) HM.out g0.j (by omega) W2.out).mono ?_)
          rintro e w32 ⟨rfl, hb⟩
          have h32 := g0.keep hb
          have k0 := h32.c0
          have k1 := h32.c1
          clear g0 hb
          go_wp2
          go_ret
          exact ⟨rfl, h32.b⟩
theorem backs_any (day a2 a3 : Int) (w : World) (hc : Ints w A rs) (hc' : Ints w A' ds) (hn : rs.length ≤ 9223372036854775807) (hm : ds.length ≤ 9223372036854775807) (g2 : (Lit.int .u8 a2).wf = true) (g3 : (Lit.int .u8 a3).wf = true) :
    Calls Try.prog 6 #[.agg #[.slice A rs.length cap, .slice A' ds.length cap'], .int .i64 day, .int .u8 a2, .int .u8 a3] w fun e w' => e = .returned (.bool true) ∧ Below w.heap.size w w' := by
  obtain ⟨u0, u1⟩ := u8_of g2
  obtain ⟨v0, v1⟩ := u8_of g3
  cases hf : (decide (rs.length ≤ 20) && decide (ds.length ≤ 20))
  · exact backs_few day a2 a3 w rfl hc rfl hc' hn hm hf
  cases hr : rt rs ds
  · exact backs_right day a2 a3 w rfl hc rfl hc' hf hr
  by_cases ho : day < 0 ∨ (0 ≤ day ∧ 200000 < day)
  · exact backs_out day a2 a3 w rfl hc rfl hc' hf hr ho
  have d0 : 0 ≤ day := by omega
  have d1 : day ≤ 200000 := by omega
  obtain ⟨p, hp⟩ : ∃ p, a2 % 40 = p := ⟨_, rfl⟩
  obtain ⟨q, hq⟩ : ∃ p, a3 % 40 = p := ⟨_, rfl⟩
  obtain ⟨a, e, hx⟩ : ∃ x e, bk (bd rs ds) p.toNat day = (x, e) := ⟨_, _, rfl⟩
  rcases bk_01 d0 d1 hx with ⟨rfl, a0, a1, ap, az⟩ | ⟨rfl, rfl⟩
  · obtain ⟨b, f, hb⟩ : ∃ x e, bk (bd rs ds) q.toNat a = (x, e) := ⟨_, _, rfl⟩
    by_cases pp : 0 < p
    · exact backs_pos day a2 a3 p q a b f w rfl hc rfl hc' hf hr d0 d1 u0 u1 v0 v1 hp hq pp hx hb a0 a1 (ap (by omega))
    · obtain rfl : p = 0 := by omega
      obtain rfl : a = day := az rfl
      exact backs_zero a a2 a3 q b f w rfl hc rfl hc' hf hr d0 d1 u0 u1 v0 v1 hp hq hx hb a0 a1
  · exact backs_none day a2 a3 p q w rfl hc rfl hc' hf hr d0 d1 u0 u1 v0 v1 hp hq hx
end
end Go.Proofs.Ytdndlipenjkfpaa.Dat
