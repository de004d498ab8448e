/- CalMoves returns true: every calendar and day; no condition. -/
import Derived.Test.YtdndlipenjkfpaaLCalT
import Derived.Test.YtdndlipenjkfpaaLCalO
import Derived.Test.YtdndlipenjkfpaaCalQ
namespace Go.Proofs.Ytdndlipenjkfpaa.Dat
open Go.ChangeShapes Go.WideShapes Go.ChangeAt Go.RowKit Go.Proofs.Ytdndlipenjkfpaa.Cell
set_option linter.unusedVariables false
set_option linter.unusedSimpArgs false

section
variable {A A' : Option Addr} {n cap m cap' : Nat} {rs ds : List Int}
set_option maxHeartbeats 1000000 in
theorem same_is {a b y : Int} {mm : Nat} {d : Int} {t : Bool} (w : World) (b0 : 0 ≤ b) (b1 : b ≤ 200000) (hp : Pt a y mm d) (h : sm a b = t) :
    Calls Try.prog 29 #[.int .i64 b, .int .i64 y, .int .i64 mm] w fun e w' => e = .returned (.bool t) ∧ w = w' := by
  obtain ⟨y', mm', d', hp'⟩ := pt_ex b b0 b1
  rw [sm_of hp hp'] at h
  have HP' := Lib.hid hp'
  clear hp hp'
  by_cases ey : y = y'
  · by_cases em : mm = mm'
    · rw [decide_eq_true ⟨ey, em⟩] at h
      have b1' : (y' == y) = true := by simpa using ey.symm
      have b2' : ((mm' : Int) == (mm : Int)) = true := by simp [em]
      subst h
      clear ey em
      go_enter Try.func29, Try.ntmps29
      go_wp2_with (fail)
      go_must (refine (parts_is _ b0 b1 HP'.out).mono ?_)
      rintro e w1 ⟨rfl, rfl⟩
      go_wp2
      go_ret
      exact ⟨ret_bool (by simp_all), rfl⟩
    · rw [decide_eq_false (fun h => em h.2)] at h
      have b1' : (y' == y) = true := by simpa using ey.symm
      have b2' : ((mm' : Int) == (mm : Int)) = false := by simp; omega
      subst h
      clear ey em
      go_enter Try.func29, Try.ntmps29
      go_wp2_with (fail)
      go_must (refine (parts_is _ b0 b1 HP'.out).mono ?_)
      rintro e w1 ⟨rfl, rfl⟩
      go_wp2
      go_ret
      exact ⟨ret_bool (by simp_all), rfl⟩
  · rw [decide_eq_false (fun h => ey h.1)] at h
    have b1' : (y' == y) = false := by simpa using fun h => ey h.symm
    subst h
    clear ey
    go_enter Try.func29, Try.ntmps29
    go_wp2_with (fail)
    go_must (refine (parts_is _ b0 b1 HP'.out).mono ?_)
    rintro e w1 ⟨rfl, rfl⟩
    go_wp2
    go_ret
    exact ⟨ret_bool (by simp_all), rfl⟩

theorem adO_2y {rs ds : List Int} {d x : Int} (h : rt rs ds = true) (h0 : 0 ≤ d) (h1 : d ≤ 200000) (hx : nx (bd rs ds) d = (x, 0)) (hs : sm d x = true) : adO rs ds d 2 = (x, 0) := by
  rw [adO_in h h0 h1]; unfold adj
  rw [if_neg (by omega), if_neg (by omega), if_neg (by omega), if_pos rfl, hx, if_pos ⟨rfl, hs⟩]
theorem adO_2n {rs ds : List Int} {d x y f : Int} (h : rt rs ds = true) (h0 : 0 ≤ d) (h1 : d ≤ 200000) (hx : nx (bd rs ds) d = (x, 0)) (hs : sm d x = false) (hy : bf (bd rs ds) d = (y, f)) : adO rs ds d 2 = (y, f) := by
  rw [adO_in h h0 h1]; unfold adj
  rw [if_neg (by omega), if_neg (by omega), if_neg (by omega), if_pos rfl, hx, if_neg (fun h => by have := h.2; rw [hs] at this; simp at this), hy]
theorem adO_23 {rs ds : List Int} {d x y f : Int} (h : rt rs ds = true) (h0 : 0 ≤ d) (h1 : d ≤ 200000) (hx : nx (bd rs ds) d = (x, 3)) (hy : bf (bd rs ds) d = (y, f)) : adO rs ds d 2 = (y, f) := by
  rw [adO_in h h0 h1]; unfold adj
  rw [if_neg (by omega), if_neg (by omega), if_neg (by omega), if_pos rfl, hx, if_neg (fun h => by have := h.1; simp at this), hy]
theorem adO_0 {rs ds : List Int} {d : Int} (h : rt rs ds = true) (h0 : 0 ≤ d) (h1 : d ≤ 200000) : adO rs ds d 0 = (d, 0) := by
  rw [adO_in h h0 h1]; unfold adj
  rw [if_pos rfl]

set_option maxRecDepth 100000 in
set_option maxHeartbeats 1000000 in
theorem moves_few (day : Int) (w : World) (hn : rs.length = n) (hc : Ints w A rs) (hm : ds.length = m) (hc' : Ints w A' ds) (hbig : n ≤ 9223372036854775807) (hbig' : m ≤ 9223372036854775807) (h : (decide (n ≤ 20) && decide (m ≤ 20)) = false) :
    Calls Try.prog 4 #[.agg #[.slice A n cap, .slice A' m cap'], .int .i64 day] w fun e w' => e = .returned (.bool true) ∧ Below w.heap.size w w' := by
  have h0 := Hd.new (n := n) (cap := cap) (m := m) (cap' := cap') w hc hc'
  have HN := Lib.hid hn
  have HM := Lib.hid hm
  clear hn hm hc hc'
  have HF := Lib.hid h
  clear h
  go_enter Try.func4, Try.ntmps4
  go_wp2_with (fail)
  go_must (refine (small_any _).mono ?_)
  rintro e w1 ⟨rfl, hb⟩
  have h1 := h0.keep hb
  have k0 := h1.c0
  have k1 := h1.c1
  clear h0 hb
  go_wp2_with (fail)
  go_must (refine (few_is _ (by assumption) (by assumption) HF.out).mono ?_)
  rintro e w2 ⟨rfl, hb⟩
  have h2 := h1.keep hb
  have k0 := h2.c0
  have k1 := h2.c1
  clear h1 hb
  go_wp2
  go_ret
  exact ⟨rfl, h2.b⟩

set_option maxRecDepth 100000 in
set_option maxHeartbeats 1000000 in
theorem moves_right (day : Int) (w : World) (hn : rs.length = n) (hc : Ints w A rs) (hm : ds.length = m) (hc' : Ints w A' ds) (hf : (decide (n ≤ 20) && decide (m ≤ 20)) = true) (h : rt rs ds = false) :
    Calls Try.prog 4 #[.agg #[.slice A n cap, .slice A' m cap'], .int .i64 day] w fun e w' => e = .returned (.bool true) ∧ Below w.heap.size w w' := by
  have h0 := Hd.new (n := n) (cap := cap) (m := m) (cap' := cap') w hc hc'
  have HN := Lib.hid hn
  have HM := Lib.hid hm
  clear hn hm hc hc'
  have HF := Lib.hid hf
  obtain ⟨f1, f2⟩ := few_in hf
  have R := Lib.hid h
  clear h hf
  go_enter Try.func4, Try.ntmps4
  go_wp2_with (fail)
  go_must (refine (small_any _).mono ?_)
  rintro e w1 ⟨rfl, hb⟩
  have h1 := h0.keep hb
  have k0 := h1.c0
  have k1 := h1.c1
  clear h0 hb
  go_wp2_with (fail)
  go_must (refine (few_is _ (by omega) (by omega) HF.out).mono ?_)
  rintro e w2 ⟨rfl, hb⟩
  have h2 := h1.keep hb
  have k0 := h2.c0
  have k1 := h2.c1
  clear h1 hb
  go_wp2_with (fail)
  go_must (refine (right_is _ HN.out h2.i (by omega) HM.out h2.j (by omega) R.out).mono ?_)
  rintro e w3 ⟨rfl, hb⟩
  have h3 := h2.keep hb
  have k0 := h3.c0
  have k1 := h3.c1
  clear h2 hb
  go_wp2
  go_ret
  exact ⟨rfl, h3.b⟩

set_option maxRecDepth 100000 in
set_option maxHeartbeats 1000000 in
theorem moves_out (day : Int) (w : World) (hn : rs.length = n) (hc : Ints w A rs) (hm : ds.length = m) (hc' : Ints w A' ds) (hf : (decide (n ≤ 20) && decide (m ≤ 20)) = true) (h : rt rs ds = true) (ho : day < 0 ∨ (0 ≤ day ∧ 200000 < day)) :
    Calls Try.prog 4 #[.agg #[.slice A n cap, .slice A' m cap'], .int .i64 day] w fun e w' => e = .returned (.bool true) ∧ Below w.heap.size w w' := by
  have h0 := Hd.new (n := n) (cap := cap) (m := m) (cap' := cap') w hc hc'
  have HN := Lib.hid hn
  have HM := Lib.hid hm
  clear hn hm hc hc'
  have HF := Lib.hid hf
  obtain ⟨f1, f2⟩ := few_in hf
  have R := Lib.hid h
  clear h hf
  rcases ho with a0 | ⟨a0, a1⟩
  all_goals
    go_enter Try.func4, Try.ntmps4
    go_wp2_with (fail)
    go_must (refine (small_any _).mono ?_)
    rintro e w1 ⟨rfl, hb⟩
    have h1 := h0.keep hb
    have k0 := h1.c0
    have k1 := h1.c1
    clear h0 hb
    go_wp2_with (fail)
    go_must (refine (few_is _ (by omega) (by omega) HF.out).mono ?_)
    rintro e w2 ⟨rfl, hb⟩
    have h2 := h1.keep hb
    have k0 := h2.c0
    have k1 := h2.c1
    clear h1 hb
    go_wp2_with (fail)
    go_must (refine (right_is _ HN.out h2.i (by omega) HM.out h2.j (by omega) R.out).mono ?_)
    rintro e w3 ⟨rfl, hb⟩
    have h3 := h2.keep hb
    have k0 := h3.c0
    have k1 := h3.c1
    clear h2 hb
    go_wp2
    go_ret
    exact ⟨rfl, h3.b⟩

set_option maxRecDepth 100000 in
set_option maxHeartbeats 4000000 in
theorem moves_here (day : Int) (w : World) (hn : rs.length = n) (hc : Ints w A rs) (hm : ds.length = m) (hc' : Ints w A' ds) (hf : (decide (n ≤ 20) && decide (m ≤ 20)) = true) (hr : rt rs ds = true) (d0 : 0 ≤ day) (d1 : day ≤ 200000) (hp : bd rs ds day = true) :
    Calls Try.prog 4 #[.agg #[.slice A n cap, .slice A' m cap'], .int .i64 day] w fun e w' => e = .returned (.bool true) ∧ Below w.heap.size w w' := by
  have h0 := Hd.new (n := n) (cap := cap) (m := m) (cap' := cap') w hc hc'
  have HN := Lib.hid hn
  have HM := Lib.hid hm
  clear hn hm hc hc'
  have HF := Lib.hid hf
  obtain ⟨f1, f2⟩ := few_in hf
  have R := Lib.hid hr
  have X := Lib.hid (adO_1 hr d0 d1 (nx_here d1 hp))
  have Y := Lib.hid (adO_3 hr d0 d1 (bf_here d0 hp))
  have Z := Lib.hid (adO_0 hr d0 d1)
  have M := Lib.hid (adO_2y hr d0 d1 (nx_here d1 hp) (sm_self d0 d1))
  have P := Lib.hid ((bz_of hr d0 d1).trans hp)
  clear hr hf hp
  go_enter Try.func4, Try.ntmps4
  go_wp2_with (fail)
  go_must (refine (small_any _).mono ?_)
  rintro e w1 ⟨rfl, hb⟩
  have h1 := h0.keep hb
  have k0 := h1.c0
  have k1 := h1.c1
  clear h0 hb
  go_wp2_with (fail)
  go_must (refine (few_is _ (by omega) (by omega) HF.out).mono ?_)
  rintro e w2 ⟨rfl, hb⟩
  have h2 := h1.keep hb
  have k0 := h2.c0
  have k1 := h2.c1
  clear h1 hb
  go_wp2_with (fail)
  go_must (refine (right_is _ HN.out h2.i (by omega) HM.out h2.j (by omega) R.out).mono ?_)
  rintro e w3 ⟨rfl, hb⟩
  have h3 := h2.keep hb
  have k0 := h3.c0
  have k1 := h3.c1
  clear h2 hb
  go_wp2_with (fail)
  go_must (refine (next_is _ HN.out h3.i (by omega) HM.out h3.j (by omega) X.out).mono ?_)
  rintro e w4 ⟨rfl, hb⟩
  have h4 := h3.keep hb
  have k0 := h4.c0
  have k1 := h4.c1
  clear h3 hb
  go_wp2_with (fail)
  go_must (refine (before_is _ HN.out h4.i (by omega) HM.out h4.j (by omega) Y.out).mono ?_)
  rintro e w5 ⟨rfl, hb⟩
  have h5 := h4.keep hb
  have k0 := h5.c0
  have k1 := h5.c1
  clear h4 hb
  go_wp2_with (fail)
  go_must (refine (adjust_is _ HN.out h5.i (by omega) HM.out h5.j (by omega) M.out).mono ?_)
  rintro e w6 ⟨rfl, hb⟩
  have h6 := h5.keep hb
  have k0 := h6.c0
  have k1 := h6.c1
  clear h5 hb
  go_wp2_with (fail)
  go_must (refine (adjust_is _ HN.out h6.i (by omega) HM.out h6.j (by omega) X.out).mono ?_)
  rintro e w7 ⟨rfl, hb⟩
  have h7 := h6.keep hb
  have k0 := h7.c0
  have k1 := h7.c1
  clear h6 hb
  go_wp2_with (fail)
  go_must (refine (adjust_is _ HN.out h7.i (by omega) HM.out h7.j (by omega) Y.out).mono ?_)
  rintro e w8 ⟨rfl, hb⟩
  have h8 := h7.keep hb
  have k0 := h8.c0
  have k1 := h8.c1
  clear h7 hb
  go_wp2_with (fail)
  go_must (refine (adjust_is _ HN.out h8.i (by omega) HM.out h8.j (by omega) Z.out).mono ?_)
  rintro e w9 ⟨rfl, hb⟩
  have h9 := h8.keep hb
  have k0 := h9.c0
  have k1 := h9.c1
  clear h8 hb
  go_wp2_with (fail)
  go_must (refine (bus_is _ HN.out h9.i (by omega) HM.out h9.j (by omega) P.out).mono ?_)
  rintro e w10 ⟨rfl, hb⟩
  have h10 := h9.keep hb
  have k0 := h10.c0
  have k1 := h10.c1
  clear h9 hb
  go_wp2_with (fail)
  go_must (refine (bus_is _ HN.out h10.i (by omega) HM.out h10.j (by omega) P.out).mono ?_)
  rintro e w11 ⟨rfl, hb⟩
  have h11 := h10.keep hb
  have k0 := h11.c0
  have k1 := h11.c1
  clear h10 hb
  go_wp2
  go_ret
  exact ⟨rfl, h11.b⟩

set_option maxRecDepth 100000 in
set_option maxHeartbeats 8000000 in
theorem moves_m00t (day q b : Int) (w : World) (hn : rs.length = n) (hc : Ints w A rs) (hm : ds.length = m) (hc' : Ints w A' ds) (hf : (decide (n ≤ 20) && decide (m ≤ 20)) = true) (hr : rt rs ds = true) (d0 : 0 ≤ day) (d1 : day ≤ 200000) (hx : nx (bd rs ds) day = (q, 0)) (hy : bf (bd rs ds) day = (b, 0)) (q0 : day < q) (c0 : b < day) (hs : sm day q = true) :
    Calls Try.prog 4 #[.agg #[.slice A n cap, .slice A' m cap'], .int .i64 day] w fun e w' => e = .returned (.bool true) ∧ Below w.heap.size w w' := by
  have h0 := Hd.new (n := n) (cap := cap) (m := m) (cap' := cap') w hc hc'
  have HN := Lib.hid hn
  have HM := Lib.hid hm
  clear hn hm hc hc'
  have HF := Lib.hid hf
  obtain ⟨f1, f2⟩ := few_in hf
  have R := Lib.hid hr
  have X := Lib.hid (adO_1 hr d0 d1 hx)
  have Y := Lib.hid (adO_3 hr d0 d1 hy)
  have Z := Lib.hid (adO_0 hr d0 d1)
  obtain ⟨yy, mm, dd, hpt⟩ := pt_ex day d0 d1
  have M := Lib.hid (adO_2y hr d0 d1 hx hs)
  have nxi : q ≤ 200000 ∧ bd rs ds q = true ∧ ∀ k, day ≤ k → k < q → bd rs ds k = false := by
    rcases nx_01 hx with a | a
    · exact ⟨a.2.2.1, a.2.2.2.1, a.2.2.2.2⟩
    · have := a.1; omega
  obtain ⟨q1, qp, qn⟩ := nxi
  have PQ := Lib.hid ((bz_of hr (by omega) q1).trans qp)
  have bfi : 0 ≤ b ∧ bd rs ds b = true ∧ ∀ k, b < k → k ≤ day → bd rs ds k = false := by
    rcases bf_01 hy with a | a
    · exact ⟨a.2.1, a.2.2.2.1, a.2.2.2.2⟩
    · have := a.1; omega
  obtain ⟨c1, cp, cn⟩ := bfi
  have PB := Lib.hid ((bz_of hr c1 (by omega)).trans cp)
  have ALL := Lib.hid (show ∀ k, b + 1 ≤ k → k < q → bz rs ds k = false from fun k h1 h2 => by
    rw [bz_of hr (by omega) (by omega)]
    by_cases hk : day ≤ k
    · exact qn k hk (by omega)
    · exact cn k (by omega) (by omega))
  have bq : (b == q) = false := by rw [beq_eq_false_iff_ne]; omega
  have S := Lib.hid hs
  clear hs
  have HPT := Lib.hid hpt
  clear hr hf hx hy qn cn hpt qp cp
  go_enter Try.func4, Try.ntmps4
  go_wp2_with (fail)
  go_must (refine (small_any _).mono ?_)
  rintro e w1 ⟨rfl, hb⟩
  have h1 := h0.keep hb
  have k0 := h1.c0
  have k1 := h1.c1
  clear h0 hb
  go_wp2_with (fail)
  go_must (refine (few_is _ (by omega) (by omega) HF.out).mono ?_)
  rintro e w2 ⟨rfl, hb⟩
  have h2 := h1.keep hb
  have k0 := h2.c0
  have k1 := h2.c1
  clear h1 hb
  go_wp2_with (fail)
  go_must (refine (right_is _ HN.out h2.i (by omega) HM.out h2.j (by omega) R.out).mono ?_)
  rintro e w3 ⟨rfl, hb⟩
  have h3 := h2.keep hb
  have k0 := h3.c0
  have k1 := h3.c1
  clear h2 hb
  go_wp2_with (fail)
  go_must (refine (next_is _ HN.out h3.i (by omega) HM.out h3.j (by omega) X.out).mono ?_)
  rintro e w4 ⟨rfl, hb⟩
  have h4 := h3.keep hb
  have k0 := h4.c0
  have k1 := h4.c1
  clear h3 hb
  go_wp2_with (fail)
  go_must (refine (before_is _ HN.out h4.i (by omega) HM.out h4.j (by omega) Y.out).mono ?_)
  rintro e w5 ⟨rfl, hb⟩
  have h5 := h4.keep hb
  have k0 := h5.c0
  have k1 := h5.c1
  clear h4 hb
  go_wp2_with (fail)
  go_must (refine (adjust_is _ HN.out h5.i (by omega) HM.out h5.j (by omega) M.out).mono ?_)
  rintro e w6 ⟨rfl, hb⟩
  have h6 := h5.keep hb
  have k0 := h6.c0
  have k1 := h6.c1
  clear h5 hb
  go_wp2_with (fail)
  go_must (refine (adjust_is _ HN.out h6.i (by omega) HM.out h6.j (by omega) X.out).mono ?_)
  rintro e w7 ⟨rfl, hb⟩
  have h7 := h6.keep hb
  have k0 := h7.c0
  have k1 := h7.c1
  clear h6 hb
  go_wp2_with (fail)
  go_must (refine (adjust_is _ HN.out h7.i (by omega) HM.out h7.j (by omega) Y.out).mono ?_)
  rintro e w8 ⟨rfl, hb⟩
  have h8 := h7.keep hb
  have k0 := h8.c0
  have k1 := h8.c1
  clear h7 hb
  go_wp2_with (fail)
  go_must (refine (adjust_is _ HN.out h8.i (by omega) HM.out h8.j (by omega) Z.out).mono ?_)
  rintro e w9 ⟨rfl, hb⟩
  have h9 := h8.keep hb
  have k0 := h9.c0
  have k1 := h9.c1
  clear h8 hb
  go_wp2_with (fail)
  go_must (refine (bus_is _ HN.out h9.i (by omega) HM.out h9.j (by omega) PQ.out).mono ?_)
  rintro e w10 ⟨rfl, hb⟩
  have h10 := h9.keep hb
  have k0 := h10.c0
  have k1 := h10.c1
  clear h9 hb
  go_wp2_with (fail)
  go_must (refine (bus_is _ HN.out h10.i (by omega) HM.out h10.j (by omega) PB.out).mono ?_)
  rintro e w11 ⟨rfl, hb⟩
  have h11 := h10.keep hb
  have k0 := h11.c0
  have k1 := h11.c1
  clear h10 hb
  have qpos : 0 ≤ q := by omega
  clear k0 k1
  go_wp2_with (fail)
  go_loopw [20] (fun kv wr => ∃ k : Int, b + 1 ≤ k ∧ k ≤ q ∧ kv = .int .i64 k ∧ Hd w w.heap.size A n cap A' m cap' rs ds wr) (fun kv _ => (q - intOf kv).toNat)
  case atStart => exact ⟨b + 1, by omega, by omega, rfl, h11⟩
  case round =>
    obtain ⟨k, e0, e1, rfl, g0⟩ := hrel
    have k0 := g0.c0
    have k1 := g0.c1
    clear h11
    by_cases hlt : k < q
    · have PK := Lib.hid (ALL.out k e0 hlt)
      go_wp2_with (fail)
      go_must (refine (bus_is _ HN.out g0.i (by omega) HM.out g0.j (by omega) PK.out).mono ?_)
      rintro e w30 ⟨rfl, hb⟩
      have h30 := g0.keep hb
      have k0 := h30.c0
      have k1 := h30.c1
      clear g0 hb
      by_cases hk : 200 < k - (b + 1)
      · go_wp2
        go_ret
        exact ⟨rfl, h30.b⟩
      · clear k0 k1
        go_wp2
        go_roundw
        case rel => exact ⟨k + 1, by omega, by omega, rfl, h30⟩
        case measure => simp [intOf]; omega
    · go_wp2_with (fail)
      go_must (refine (parts_is _ d0 d1 HPT.out).mono ?_)
      rintro e w1 ⟨rfl, rfl⟩
      go_wp2_with (fail)
      go_must (refine (same_is _ qpos q1 HPT.out S.out).mono ?_)
      rintro e w1 ⟨rfl, rfl⟩
      go_wp2
      go_ret
      exact ⟨rfl, g0.b⟩

set_option maxRecDepth 100000 in
set_option maxHeartbeats 8000000 in
theorem moves_m00f (day q b : Int) (w : World) (hn : rs.length = n) (hc : Ints w A rs) (hm : ds.length = m) (hc' : Ints w A' ds) (hf : (decide (n ≤ 20) && decide (m ≤ 20)) = true) (hr : rt rs ds = true) (d0 : 0 ≤ day) (d1 : day ≤ 200000) (hx : nx (bd rs ds) day = (q, 0)) (hy : bf (bd rs ds) day = (b, 0)) (q0 : day < q) (c0 : b < day) (hs : sm day q = false) :
    Calls Try.prog 4 #[.agg #[.slice A n cap, .slice A' m cap'], .int .i64 day] w fun e w' => e = .returned (.bool true) ∧ Below w.heap.size w w' := by
  have h0 := Hd.new (n := n) (cap := cap) (m := m) (cap' := cap') w hc hc'
  have HN := Lib.hid hn
  have HM := Lib.hid hm
  clear hn hm hc hc'
  have HF := Lib.hid hf
  obtain ⟨f1, f2⟩ := few_in hf
  have R := Lib.hid hr
  have X := Lib.hid (adO_1 hr d0 d1 hx)
  have Y := Lib.hid (adO_3 hr d0 d1 hy)
  have Z := Lib.hid (adO_0 hr d0 d1)
  obtain ⟨yy, mm, dd, hpt⟩ := pt_ex day d0 d1
  have M := Lib.hid (adO_2n hr d0 d1 hx hs hy)
  have nxi : q ≤ 200000 ∧ bd rs ds q = true ∧ ∀ k, day ≤ k → k < q → bd rs ds k = false := by
    rcases nx_01 hx with a | a
    · exact ⟨a.2.2.1, a.2.2.2.1, a.2.2.2.2⟩
    · have := a.1; omega
  obtain ⟨q1, qp, qn⟩ := nxi
  have PQ := Lib.hid ((bz_of hr (by omega) q1).trans qp)
  have bfi : 0 ≤ b ∧ bd rs ds b = true ∧ ∀ k, b < k → k ≤ day → bd rs ds k = false := by
    rcases bf_01 hy with a | a
    · exact ⟨a.2.1, a.2.2.2.1, a.2.2.2.2⟩
    · have := a.1; omega
  obtain ⟨c1, cp, cn⟩ := bfi
  have PB := Lib.hid ((bz_of hr c1 (by omega)).trans cp)
  have ALL := Lib.hid (show ∀ k, b + 1 ≤ k → k < q → bz rs ds k = false from fun k h1 h2 => by
    rw [bz_of hr (by omega) (by omega)]
    by_cases hk : day ≤ k
    · exact qn k hk (by omega)
    · exact cn k (by omega) (by omega))
  have bq : (b == q) = false := by rw [beq_eq_false_iff_ne]; omega
  have S := Lib.hid hs
  clear hs
  have HPT := Lib.hid hpt
  clear hr hf hx hy qn cn hpt qp cp
  go_enter Try.func4, Try.ntmps4
  go_wp2_with (fail)
  go_must (refine (small_any _).mono ?_)
  rintro e w1 ⟨rfl, hb⟩
  have h1 := h0.keep hb
  have k0 := h1.c0
  have k1 := h1.c1
  clear h0 hb
  go_wp2_with (fail)
  go_must (refine (few_is _ (by omega) (by omega) HF.out).mono ?_)
  rintro e w2 ⟨rfl, hb⟩
  have h2 := h1.keep hb
  have k0 := h2.c0
  have k1 := h2.c1
  clear h1 hb
  go_wp2_with (fail)
  go_must (refine (right_is _ HN.out h2.i (by omega) HM.out h2.j (by omega) R.out).mono ?_)
  rintro e w3 ⟨rfl, hb⟩
  have h3 := h2.keep hb
  have k0 := h3.c0
  have k1 := h3.c1
  clear h2 hb
  go_wp2_with (fail)
  go_must (refine (next_is _ HN.out h3.i (by omega) HM.out h3.j (by omega) X.out).mono ?_)
  rintro e w4 ⟨rfl, hb⟩
  have h4 := h3.keep hb
  have k0 := h4.c0
  have k1 := h4.c1
  clear h3 hb
  go_wp2_with (fail)
  go_must (refine (before_is _ HN.out h4.i (by omega) HM.out h4.j (by omega) Y.out).mono ?_)
  rintro e w5 ⟨rfl, hb⟩
  have h5 := h4.keep hb
  have k0 := h5.c0
  have k1 := h5.c1
  clear h4 hb
  go_wp2_with (fail)
  go_must (refine (adjust_is _ HN.out h5.i (by omega) HM.out h5.j (by omega) M.out).mono ?_)
  rintro e w6 ⟨rfl, hb⟩
  have h6 := h5.keep hb
  have k0 := h6.c0
  have k1 := h6.c1
  clear h5 hb
  go_wp2_with (fail)
  go_must (refine (adjust_is _ HN.out h6.i (by omega) HM.out h6.j (by omega) X.out).mono ?_)
  rintro e w7 ⟨rfl, hb⟩
  have h7 := h6.keep hb
  have k0 := h7.c0
  have k1 := h7.c1
  clear h6 hb
  go_wp2_with (fail)
  go_must (refine (adjust_is _ HN.out h7.i (by omega) HM.out h7.j (by omega) Y.out).mono ?_)
  rintro e w8 ⟨rfl, hb⟩
  have h8 := h7.keep hb
  have k0 := h8.c0
  have k1 := h8.c1
  clear h7 hb
  go_wp2_with (fail)
  go_must (refine (adjust_is _ HN.out h8.i (by omega) HM.out h8.j (by omega) Z.out).mono ?_)
  rintro e w9 ⟨rfl, hb⟩
  have h9 := h8.keep hb
  have k0 := h9.c0
  have k1 := h9.c1
  clear h8 hb
  go_wp2_with (fail)
  go_must (refine (bus_is _ HN.out h9.i (by omega) HM.out h9.j (by omega) PQ.out).mono ?_)
  rintro e w10 ⟨rfl, hb⟩
  have h10 := h9.keep hb
  have k0 := h10.c0
  have k1 := h10.c1
  clear h9 hb
  go_wp2_with (fail)
  go_must (refine (bus_is _ HN.out h10.i (by omega) HM.out h10.j (by omega) PB.out).mono ?_)
  rintro e w11 ⟨rfl, hb⟩
  have h11 := h10.keep hb
  have k0 := h11.c0
  have k1 := h11.c1
  clear h10 hb
  have qpos : 0 ≤ q := by omega
  clear k0 k1
  go_wp2_with (fail)
  go_loopw [20] (fun kv wr => ∃ k : Int, b + 1 ≤ k ∧ k ≤ q ∧ kv = .int .i64 k ∧ Hd w w.heap.size A n cap A' m cap' rs ds wr) (fun kv _ => (q - intOf kv).toNat)
  case atStart => exact ⟨b + 1, by omega, by omega, rfl, h11⟩
  case round =>
    obtain ⟨k, e0, e1, rfl, g0⟩ := hrel
    have k0 := g0.c0
    have k1 := g0.c1
    clear h11
    by_cases hlt : k < q
    · have PK := Lib.hid (ALL.out k e0 hlt)
      go_wp2_with (fail)
      go_must (refine (bus_is _ HN.out g0.i (by omega) HM.out g0.j (by omega) PK.out).mono ?_)
      rintro e w30 ⟨rfl, hb⟩
      have h30 := g0.keep hb
      have k0 := h30.c0
      have k1 := h30.c1
      clear g0 hb
      by_cases hk : 200 < k - (b + 1)
      · go_wp2
        go_ret
        exact ⟨rfl, h30.b⟩
      · clear k0 k1
        go_wp2
        go_roundw
        case rel => exact ⟨k + 1, by omega, by omega, rfl, h30⟩
        case measure => simp [intOf]; omega
    · go_wp2_with (fail)
      go_must (refine (parts_is _ d0 d1 HPT.out).mono ?_)
      rintro e w1 ⟨rfl, rfl⟩
      go_wp2_with (fail)
      go_must (refine (same_is _ qpos q1 HPT.out S.out).mono ?_)
      rintro e w1 ⟨rfl, rfl⟩
      go_wp2
      go_ret
      exact ⟨rfl, g0.b⟩

set_option maxRecDepth 100000 in
set_option maxHeartbeats 8000000 in
theorem moves_m03t (day q : Int) (w : World) (hn : rs.length = n) (hc : Ints w A rs) (hm : ds.length = m) (hc' : Ints w A' ds) (hf : (decide (n ≤ 20) && decide (m ≤ 20)) = true) (hr : rt rs ds = true) (d0 : 0 ≤ day) (d1 : day ≤ 200000) (hx : nx (bd rs ds) day = (q, 0)) (hy : bf (bd rs ds) day = (0, 3)) (q0 : day < q) (hs : sm day q = true) :
    Calls Try.prog 4 #[.agg #[.slice A n cap, .slice A' m cap'], .int .i64 day] w fun e w' => e = .returned (.bool true) ∧ Below w.heap.size w w' := by
  have h0 := Hd.new (n := n) (cap := cap) (m := m) (cap' := cap') w hc hc'
  have HN := Lib.hid hn
  have HM := Lib.hid hm
  clear hn hm hc hc'
  have HF := Lib.hid hf
  obtain ⟨f1, f2⟩ := few_in hf
  have R := Lib.hid hr
  have X := Lib.hid (adO_1 hr d0 d1 hx)
  have Y := Lib.hid (adO_3 hr d0 d1 hy)
  have Z := Lib.hid (adO_0 hr d0 d1)
  obtain ⟨yy, mm, dd, hpt⟩ := pt_ex day d0 d1
  have M := Lib.hid (adO_2y hr d0 d1 hx hs)
  have nxi : q ≤ 200000 ∧ bd rs ds q = true ∧ ∀ k, day ≤ k → k < q → bd rs ds k = false := by
    rcases nx_01 hx with a | a
    · exact ⟨a.2.2.1, a.2.2.2.1, a.2.2.2.2⟩
    · have := a.1; omega
  obtain ⟨q1, qp, qn⟩ := nxi
  have PQ := Lib.hid ((bz_of hr (by omega) q1).trans qp)
  have cn : ∀ k, 0 ≤ k → k ≤ day → bd rs ds k = false := by
    rcases bf_01 hy with a | a
    · have := a.1; omega
    · exact a.2.2
  have ALL := Lib.hid (show ∀ k, 0 ≤ k → k < q → bz rs ds k = false from fun k h1 h2 => by
    rw [bz_of hr (by omega) (by omega)]
    by_cases hk : day ≤ k
    · exact qn k hk (by omega)
    · exact cn k (by omega) (by omega))
  have bq : ((0 : Int) == q) = false := by rw [beq_eq_false_iff_ne]; omega
  have S := Lib.hid hs
  clear hs
  have HPT := Lib.hid hpt
  clear hr hf hx hy qn cn hpt qp
  go_enter Try.func4, Try.ntmps4
  go_wp2_with (fail)
  go_must (refine (small_any _).mono ?_)
  rintro e w1 ⟨rfl, hb⟩
  have h1 := h0.keep hb
  have k0 := h1.c0
  have k1 := h1.c1
  clear h0 hb
  go_wp2_with (fail)
  go_must (refine (few_is _ (by omega) (by omega) HF.out).mono ?_)
  rintro e w2 ⟨rfl, hb⟩
  have h2 := h1.keep hb
  have k0 := h2.c0
  have k1 := h2.c1
  clear h1 hb
  go_wp2_with (fail)
  go_must (refine (right_is _ HN.out h2.i (by omega) HM.out h2.j (by omega) R.out).mono ?_)
  rintro e w3 ⟨rfl, hb⟩
  have h3 := h2.keep hb
  have k0 := h3.c0
  have k1 := h3.c1
  clear h2 hb
  go_wp2_with (fail)
  go_must (refine (next_is _ HN.out h3.i (by omega) HM.out h3.j (by omega) X.out).mono ?_)
  rintro e w4 ⟨rfl, hb⟩
  have h4 := h3.keep hb
  have k0 := h4.c0
  have k1 := h4.c1
  clear h3 hb
  go_wp2_with (fail)
  go_must (refine (before_is _ HN.out h4.i (by omega) HM.out h4.j (by omega) Y.out).mono ?_)
  rintro e w5 ⟨rfl, hb⟩
  have h5 := h4.keep hb
  have k0 := h5.c0
  have k1 := h5.c1
  clear h4 hb
  go_wp2_with (fail)
  go_must (refine (adjust_is _ HN.out h5.i (by omega) HM.out h5.j (by omega) M.out).mono ?_)
  rintro e w6 ⟨rfl, hb⟩
  have h6 := h5.keep hb
  have k0 := h6.c0
  have k1 := h6.c1
  clear h5 hb
  go_wp2_with (fail)
  go_must (refine (adjust_is _ HN.out h6.i (by omega) HM.out h6.j (by omega) X.out).mono ?_)
  rintro e w7 ⟨rfl, hb⟩
  have h7 := h6.keep hb
  have k0 := h7.c0
  have k1 := h7.c1
  clear h6 hb
  go_wp2_with (fail)
  go_must (refine (adjust_is _ HN.out h7.i (by omega) HM.out h7.j (by omega) Y.out).mono ?_)
  rintro e w8 ⟨rfl, hb⟩
  have h8 := h7.keep hb
  have k0 := h8.c0
  have k1 := h8.c1
  clear h7 hb
  go_wp2_with (fail)
  go_must (refine (adjust_is _ HN.out h8.i (by omega) HM.out h8.j (by omega) Z.out).mono ?_)
  rintro e w9 ⟨rfl, hb⟩
  have h9 := h8.keep hb
  have k0 := h9.c0
  have k1 := h9.c1
  clear h8 hb
  go_wp2_with (fail)
  go_must (refine (bus_is _ HN.out h9.i (by omega) HM.out h9.j (by omega) PQ.out).mono ?_)
  rintro e w10 ⟨rfl, hb⟩
  have h10 := h9.keep hb
  have k0 := h10.c0
  have k1 := h10.c1
  clear h9 hb
  have qpos : 0 ≤ q := by omega
  clear k0 k1
  go_wp2_with (fail)
  go_loopw [20] (fun kv wr => ∃ k : Int, 0 ≤ k ∧ k ≤ q ∧ kv = .int .i64 k ∧ Hd w w.heap.size A n cap A' m cap' rs ds wr) (fun kv _ => (q - intOf kv).toNat)
  case atStart => exact ⟨0, by omega, by omega, rfl, h10⟩
  case round =>
    obtain ⟨k, e0, e1, rfl, g0⟩ := hrel
    have k0 := g0.c0
    have k1 := g0.c1
    clear h10
    by_cases hlt : k < q
    · have PK := Lib.hid (ALL.out k e0 hlt)
      go_wp2_with (fail)
      go_must (refine (bus_is _ HN.out g0.i (by omega) HM.out g0.j (by omega) PK.out).mono ?_)
      rintro e w30 ⟨rfl, hb⟩
      have h30 := g0.keep hb
      have k0 := h30.c0
      have k1 := h30.c1
      clear g0 hb
      by_cases hk : 200 < k - 0
      · go_wp2
        go_ret
        exact ⟨rfl, h30.b⟩
      · clear k0 k1
        go_wp2
        go_roundw
        case rel => exact ⟨k + 1, by omega, by omega, rfl, h30⟩
        case measure => simp [intOf]; omega
    · go_wp2_with (fail)
      go_must (refine (parts_is _ d0 d1 HPT.out).mono ?_)
      rintro e w1 ⟨rfl, rfl⟩
      go_wp2_with (fail)
      go_must (refine (same_is _ qpos q1 HPT.out S.out).mono ?_)
      rintro e w1 ⟨rfl, rfl⟩
      go_wp2
      go_ret
      exact ⟨rfl, g0.b⟩

set_option maxRecDepth 100000 in
set_option maxHeartbeats 8000000 in
theorem moves_m03f (day q : Int) (w : World) (hn : rs.length = n) (hc : Ints w A rs) (hm : ds.length = m) (hc' : Ints w A' ds) (hf : (decide (n ≤ 20) && decide (m ≤ 20)) = true) (hr : rt rs ds = true) (d0 : 0 ≤ day) (d1 : day ≤ 200000) (hx : nx (bd rs ds) day = (q, 0)) (hy : bf (bd rs ds) day = (0, 3)) (q0 : day < q) (hs : sm day q = false) :
    Calls Try.prog 4 #[.agg #[.slice A n cap, .slice A' m cap'], .int .i64 day] w fun e w' => e = .returned (.bool true) ∧ Below w.heap.size w w' := by
  have h0 := Hd.new (n := n) (cap := cap) (m := m) (cap' := cap') w hc hc'
  have HN := Lib.hid hn
  have HM := Lib.hid hm
  clear hn hm hc hc'
  have HF := Lib.hid hf
  obtain ⟨f1, f2⟩ := few_in hf
  have R := Lib.hid hr
  have X := Lib.hid (adO_1 hr d0 d1 hx)
  have Y := Lib.hid (adO_3 hr d0 d1 hy)
  have Z := Lib.hid (adO_0 hr d0 d1)
  obtain ⟨yy, mm, dd, hpt⟩ := pt_ex day d0 d1
  have M := Lib.hid (adO_2n hr d0 d1 hx hs hy)
  have nxi : q ≤ 200000 ∧ bd rs ds q = true ∧ ∀ k, day ≤ k → k < q → bd rs ds k = false := by
    rcases nx_01 hx with a | a
    · exact ⟨a.2.2.1, a.2.2.2.1, a.2.2.2.2⟩
    · have := a.1; omega
  obtain ⟨q1, qp, qn⟩ := nxi
  have PQ := Lib.hid ((bz_of hr (by omega) q1).trans qp)
  have cn : ∀ k, 0 ≤ k → k ≤ day → bd rs ds k = false := by
    rcases bf_01 hy with a | a
    · have := a.1; omega
    · exact a.2.2
  have ALL := Lib.hid (show ∀ k, 0 ≤ k → k < q → bz rs ds k = false from fun k h1 h2 => by
    rw [bz_of hr (by omega) (by omega)]
    by_cases hk : day ≤ k
    · exact qn k hk (by omega)
    · exact cn k (by omega) (by omega))
  have bq : ((0 : Int) == q) = false := by rw [beq_eq_false_iff_ne]; omega
  have S := Lib.hid hs
  clear hs
  have HPT := Lib.hid hpt
  clear hr hf hx hy qn cn hpt qp
  go_enter Try.func4, Try.ntmps4
  go_wp2_with (fail)
  go_must (refine (small_any _).mono ?_)
  rintro e w1 ⟨rfl, hb⟩
  have h1 := h0.keep hb
  have k0 := h1.c0
  have k1 := h1.c1
  clear h0 hb
  go_wp2_with (fail)
  go_must (refine (few_is _ (by omega) (by omega) HF.out).mono ?_)
  rintro e w2 ⟨rfl, hb⟩
  have h2 := h1.keep hb
  have k0 := h2.c0
  have k1 := h2.c1
  clear h1 hb
  go_wp2_with (fail)
  go_must (refine (right_is _ HN.out h2.i (by omega) HM.out h2.j (by omega) R.out).mono ?_)
  rintro e w3 ⟨rfl, hb⟩
  have h3 := h2.keep hb
  have k0 := h3.c0
  have k1 := h3.c1
  clear h2 hb
  go_wp2_with (fail)
  go_must (refine (next_is _ HN.out h3.i (by omega) HM.out h3.j (by omega) X.out).mono ?_)
  rintro e w4 ⟨rfl, hb⟩
  have h4 := h3.keep hb
  have k0 := h4.c0
  have k1 := h4.c1
  clear h3 hb
  go_wp2_with (fail)
  go_must (refine (before_is _ HN.out h4.i (by omega) HM.out h4.j (by omega) Y.out).mono ?_)
  rintro e w5 ⟨rfl, hb⟩
  have h5 := h4.keep hb
  have k0 := h5.c0
  have k1 := h5.c1
  clear h4 hb
  go_wp2_with (fail)
  go_must (refine (adjust_is _ HN.out h5.i (by omega) HM.out h5.j (by omega) M.out).mono ?_)
  rintro e w6 ⟨rfl, hb⟩
  have h6 := h5.keep hb
  have k0 := h6.c0
  have k1 := h6.c1
  clear h5 hb
  go_wp2_with (fail)
  go_must (refine (adjust_is _ HN.out h6.i (by omega) HM.out h6.j (by omega) X.out).mono ?_)
  rintro e w7 ⟨rfl, hb⟩
  have h7 := h6.keep hb
  have k0 := h7.c0
  have k1 := h7.c1
  clear h6 hb
  go_wp2_with (fail)
  go_must (refine (adjust_is _ HN.out h7.i (by omega) HM.out h7.j (by omega) Y.out).mono ?_)
  rintro e w8 ⟨rfl, hb⟩
  have h8 := h7.keep hb
  have k0 := h8.c0
  have k1 := h8.c1
  clear h7 hb
  go_wp2_with (fail)
  go_must (refine (adjust_is _ HN.out h8.i (by omega) HM.out h8.j (by omega) Z.out).mono ?_)
  rintro e w9 ⟨rfl, hb⟩
  have h9 := h8.keep hb
  have k0 := h9.c0
  have k1 := h9.c1
  clear h8 hb
  go_wp2_with (fail)
  go_must (refine (bus_is _ HN.out h9.i (by omega) HM.out h9.j (by omega) PQ.out).mono ?_)
  rintro e w10 ⟨rfl, hb⟩
  have h10 := h9.keep hb
  have k0 := h10.c0
  have k1 := h10.c1
  clear h9 hb
  have qpos : 0 ≤ q := by omega
  clear k0 k1
  go_wp2_with (fail)
  go_loopw [20] (fun kv wr => ∃ k : Int, 0 ≤ k ∧ k ≤ q ∧ kv = .int .i64 k ∧ Hd w w.heap.size A n cap A' m cap' rs ds wr) (fun kv _ => (q - intOf kv).toNat)
  case atStart => exact ⟨0, by omega, by omega, rfl, h10⟩
  case round =>
    obtain ⟨k, e0, e1, rfl, g0⟩ := hrel
    have k0 := g0.c0
    have k1 := g0.c1
    clear h10
    by_cases hlt : k < q
    · have PK := Lib.hid (ALL.out k e0 hlt)
      go_wp2_with (fail)
      go_must (refine (bus_is _ HN.out g0.i (by omega) HM.out g0.j (by omega) PK.out).mono ?_)
      rintro e w30 ⟨rfl, hb⟩
      have h30 := g0.keep hb
      have k0 := h30.c0
      have k1 := h30.c1
      clear g0 hb
      by_cases hk : 200 < k - 0
      · go_wp2
        go_ret
        exact ⟨rfl, h30.b⟩
      · clear k0 k1
        go_wp2
        go_roundw
        case rel => exact ⟨k + 1, by omega, by omega, rfl, h30⟩
        case measure => simp [intOf]; omega
    · go_wp2_with (fail)
      go_must (refine (parts_is _ d0 d1 HPT.out).mono ?_)
      rintro e w1 ⟨rfl, rfl⟩
      go_wp2_with (fail)
      go_must (refine (same_is _ qpos q1 HPT.out S.out).mono ?_)
      rintro e w1 ⟨rfl, rfl⟩
      go_wp2
      go_ret
      exact ⟨rfl, g0.b⟩

set_option maxRecDepth 100000 in
set_option maxHeartbeats 8000000 in
theorem moves_m30 (day b : Int) (w : World) (hn : rs.length = n) (hc : Ints w A rs) (hm : ds.length = m) (hc' : Ints w A' ds) (hf : (decide (n ≤ 20) && decide (m ≤ 20)) = true) (hr : rt rs ds = true) (d0 : 0 ≤ day) (d1 : day ≤ 200000) (hx : nx (bd rs ds) day = (0, 3)) (hy : bf (bd rs ds) day = (b, 0)) (c0 : b < day) :
    Calls Try.prog 4 #[.agg #[.slice A n cap, .slice A' m cap'], .int .i64 day] w fun e w' => e = .returned (.bool true) ∧ Below w.heap.size w w' := by
  have h0 := Hd.new (n := n) (cap := cap) (m := m) (cap' := cap') w hc hc'
  have HN := Lib.hid hn
  have HM := Lib.hid hm
  clear hn hm hc hc'
  have HF := Lib.hid hf
  obtain ⟨f1, f2⟩ := few_in hf
  have R := Lib.hid hr
  have X := Lib.hid (adO_1 hr d0 d1 hx)
  have Y := Lib.hid (adO_3 hr d0 d1 hy)
  have Z := Lib.hid (adO_0 hr d0 d1)
  obtain ⟨yy, mm, dd, hpt⟩ := pt_ex day d0 d1
  have M := Lib.hid (adO_23 hr d0 d1 hx hy)
  have qn : ∀ k, day ≤ k → k < 200001 → bd rs ds k = false := by
    rcases nx_01 hx with a | a
    · have := a.1; omega
    · exact fun k h1 h2 => a.2.2 k h1 (by omega)
  have bfi : 0 ≤ b ∧ bd rs ds b = true ∧ ∀ k, b < k → k ≤ day → bd rs ds k = false := by
    rcases bf_01 hy with a | a
    · exact ⟨a.2.1, a.2.2.2.1, a.2.2.2.2⟩
    · have := a.1; omega
  obtain ⟨c1, cp, cn⟩ := bfi
  have PB := Lib.hid ((bz_of hr c1 (by omega)).trans cp)
  have ALL := Lib.hid (show ∀ k, b + 1 ≤ k → k < 200001 → bz rs ds k = false from fun k h1 h2 => by
    rw [bz_of hr (by omega) (by omega)]
    by_cases hk : day ≤ k
    · exact qn k hk (by omega)
    · exact cn k (by omega) (by omega))
  have HPT := Lib.hid hpt
  clear hr hf hx hy qn cn hpt cp
  cases bq : (b == 0)
  all_goals
    go_enter Try.func4, Try.ntmps4
    go_wp2_with (fail)
    go_must (refine (small_any _).mono ?_)
    rintro e w1 ⟨rfl, hb⟩
    have h1 := h0.keep hb
    have k0 := h1.c0
    have k1 := h1.c1
    clear h0 hb
    go_wp2_with (fail)
    go_must (refine (few_is _ (by omega) (by omega) HF.out).mono ?_)
    rintro e w2 ⟨rfl, hb⟩
    have h2 := h1.keep hb
    have k0 := h2.c0
    have k1 := h2.c1
    clear h1 hb
    go_wp2_with (fail)
    go_must (refine (right_is _ HN.out h2.i (by omega) HM.out h2.j (by omega) R.out).mono ?_)
    rintro e w3 ⟨rfl, hb⟩
    have h3 := h2.keep hb
    have k0 := h3.c0
    have k1 := h3.c1
    clear h2 hb
    go_wp2_with (fail)
    go_must (refine (next_is _ HN.out h3.i (by omega) HM.out h3.j (by omega) X.out).mono ?_)
    rintro e w4 ⟨rfl, hb⟩
    have h4 := h3.keep hb
    have k0 := h4.c0
    have k1 := h4.c1
    clear h3 hb
    go_wp2_with (fail)
    go_must (refine (before_is _ HN.out h4.i (by omega) HM.out h4.j (by omega) Y.out).mono ?_)
    rintro e w5 ⟨rfl, hb⟩
    have h5 := h4.keep hb
    have k0 := h5.c0
    have k1 := h5.c1
    clear h4 hb
    go_wp2_with (fail)
    go_must (refine (adjust_is _ HN.out h5.i (by omega) HM.out h5.j (by omega) M.out).mono ?_)
    rintro e w6 ⟨rfl, hb⟩
    have h6 := h5.keep hb
    have k0 := h6.c0
    have k1 := h6.c1
    clear h5 hb
    go_wp2_with (fail)
    go_must (refine (adjust_is _ HN.out h6.i (by omega) HM.out h6.j (by omega) X.out).mono ?_)
    rintro e w7 ⟨rfl, hb⟩
    have h7 := h6.keep hb
    have k0 := h7.c0
    have k1 := h7.c1
    clear h6 hb
    go_wp2_with (fail)
    go_must (refine (adjust_is _ HN.out h7.i (by omega) HM.out h7.j (by omega) Y.out).mono ?_)
    rintro e w8 ⟨rfl, hb⟩
    have h8 := h7.keep hb
    have k0 := h8.c0
    have k1 := h8.c1
    clear h7 hb
    go_wp2_with (fail)
    go_must (refine (adjust_is _ HN.out h8.i (by omega) HM.out h8.j (by omega) Z.out).mono ?_)
    rintro e w9 ⟨rfl, hb⟩
    have h9 := h8.keep hb
    have k0 := h9.c0
    have k1 := h9.c1
    clear h8 hb
    go_wp2_with (fail)
    go_must (refine (bus_is _ HN.out h9.i (by omega) HM.out h9.j (by omega) PB.out).mono ?_)
    rintro e w10 ⟨rfl, hb⟩
    have h10 := h9.keep hb
    have k0 := h10.c0
    have k1 := h10.c1
    clear h9 hb
    clear k0 k1
    go_wp2_with (fail)
    go_loopw [20] (fun kv wr => ∃ k : Int, b + 1 ≤ k ∧ k ≤ 200001 ∧ kv = .int .i64 k ∧ Hd w w.heap.size A n cap A' m cap' rs ds wr) (fun kv _ => (200001 - intOf kv).toNat)
    case atStart => exact ⟨b + 1, by omega, by omega, rfl, h10⟩
    case round =>
      obtain ⟨k, e0, e1, rfl, g0⟩ := hrel
      have k0 := g0.c0
      have k1 := g0.c1
      clear h10
      by_cases hlt : k < 200001
      · have PK := Lib.hid (ALL.out k e0 hlt)
        go_wp2_with (fail)
        go_must (refine (bus_is _ HN.out g0.i (by omega) HM.out g0.j (by omega) PK.out).mono ?_)
        rintro e w30 ⟨rfl, hb⟩
        have h30 := g0.keep hb
        have k0 := h30.c0
        have k1 := h30.c1
        clear g0 hb
        by_cases hk : 200 < k - (b + 1)
        · go_wp2
          go_ret
          exact ⟨rfl, h30.b⟩
        · clear k0 k1
          go_wp2
          go_roundw
          case rel => exact ⟨k + 1, by omega, by omega, rfl, h30⟩
          case measure => simp [intOf]; omega
      · go_wp2_with (fail)
        go_must (refine (parts_is _ d0 d1 HPT.out).mono ?_)
        rintro e w1 ⟨rfl, rfl⟩
        go_wp2
        go_ret
        exact ⟨rfl, g0.b⟩

set_option maxRecDepth 100000 in
set_option maxHeartbeats 8000000 in
theorem moves_m33 (day : Int) (w : World) (hn : rs.length = n) (hc : Ints w A rs) (hm : ds.length = m) (hc' : Ints w A' ds) (hf : (decide (n ≤ 20) && decide (m ≤ 20)) = true) (hr : rt rs ds = true) (d0 : 0 ≤ day) (d1 : day ≤ 200000) (hx : nx (bd rs ds) day = (0, 3)) (hy : bf (bd rs ds) day = (0, 3)) :
    Calls Try.prog 4 #[.agg #[.slice A n cap, .slice A' m cap'], .int .i64 day] w fun e w' => e = .returned (.bool true) ∧ Below w.heap.size w w' := by
  have h0 := Hd.new (n := n) (cap := cap) (m := m) (cap' := cap') w hc hc'
  have HN := Lib.hid hn
  have HM := Lib.hid hm
  clear hn hm hc hc'
  have HF := Lib.hid hf
  obtain ⟨f1, f2⟩ := few_in hf
  have R := Lib.hid hr
  have X := Lib.hid (adO_1 hr d0 d1 hx)
  have Y := Lib.hid (adO_3 hr d0 d1 hy)
  have Z := Lib.hid (adO_0 hr d0 d1)
  obtain ⟨yy, mm, dd, hpt⟩ := pt_ex day d0 d1
  have M := Lib.hid (adO_23 hr d0 d1 hx hy)
  have qn : ∀ k, day ≤ k → k < 200001 → bd rs ds k = false := by
    rcases nx_01 hx with a | a
    · have := a.1; omega
    · exact fun k h1 h2 => a.2.2 k h1 (by omega)
  have cn : ∀ k, 0 ≤ k → k ≤ day → bd rs ds k = false := by
    rcases bf_01 hy with a | a
    · have := a.1; omega
    · exact a.2.2
  have ALL := Lib.hid (show ∀ k, 0 ≤ k → k < 200001 → bz rs ds k = false from fun k h1 h2 => by
    rw [bz_of hr (by omega) (by omega)]
    by_cases hk : day ≤ k
    · exact qn k hk (by omega)
    · exact cn k (by omega) (by omega))
  have HPT := Lib.hid hpt
  clear hr hf hx hy qn cn hpt
  go_enter Try.func4, Try.ntmps4
  go_wp2_with (fail)
  go_must (refine (small_any _).mono ?_)
  rintro e w1 ⟨rfl, hb⟩
  have h1 := h0.keep hb
  have k0 := h1.c0
  have k1 := h1.c1
  clear h0 hb
  go_wp2_with (fail)
  go_must (refine (few_is _ (by omega) (by omega) HF.out).mono ?_)
  rintro e w2 ⟨rfl, hb⟩
  have h2 := h1.keep hb
  have k0 := h2.c0
  have k1 := h2.c1
  clear h1 hb
  go_wp2_with (fail)
  go_must (refine (right_is _ HN.out h2.i (by omega) HM.out h2.j (by omega) R.out).mono ?_)
  rintro e w3 ⟨rfl, hb⟩
  have h3 := h2.keep hb
  have k0 := h3.c0
  have k1 := h3.c1
  clear h2 hb
  go_wp2_with (fail)
  go_must (refine (next_is _ HN.out h3.i (by omega) HM.out h3.j (by omega) X.out).mono ?_)
  rintro e w4 ⟨rfl, hb⟩
  have h4 := h3.keep hb
  have k0 := h4.c0
  have k1 := h4.c1
  clear h3 hb
  go_wp2_with (fail)
  go_must (refine (before_is _ HN.out h4.i (by omega) HM.out h4.j (by omega) Y.out).mono ?_)
  rintro e w5 ⟨rfl, hb⟩
  have h5 := h4.keep hb
  have k0 := h5.c0
  have k1 := h5.c1
  clear h4 hb
  go_wp2_with (fail)
  go_must (refine (adjust_is _ HN.out h5.i (by omega) HM.out h5.j (by omega) M.out).mono ?_)
  rintro e w6 ⟨rfl, hb⟩
  have h6 := h5.keep hb
  have k0 := h6.c0
  have k1 := h6.c1
  clear h5 hb
  go_wp2_with (fail)
  go_must (refine (adjust_is _ HN.out h6.i (by omega) HM.out h6.j (by omega) X.out).mono ?_)
  rintro e w7 ⟨rfl, hb⟩
  have h7 := h6.keep hb
  have k0 := h7.c0
  have k1 := h7.c1
  clear h6 hb
  go_wp2_with (fail)
  go_must (refine (adjust_is _ HN.out h7.i (by omega) HM.out h7.j (by omega) Y.out).mono ?_)
  rintro e w8 ⟨rfl, hb⟩
  have h8 := h7.keep hb
  have k0 := h8.c0
  have k1 := h8.c1
  clear h7 hb
  go_wp2_with (fail)
  go_must (refine (adjust_is _ HN.out h8.i (by omega) HM.out h8.j (by omega) Z.out).mono ?_)
  rintro e w9 ⟨rfl, hb⟩
  have h9 := h8.keep hb
  have k0 := h9.c0
  have k1 := h9.c1
  clear h8 hb
  clear k0 k1
  go_wp2_with (fail)
  go_loopw [20] (fun kv wr => ∃ k : Int, 0 ≤ k ∧ k ≤ 200001 ∧ kv = .int .i64 k ∧ Hd w w.heap.size A n cap A' m cap' rs ds wr) (fun kv _ => (200001 - intOf kv).toNat)
  case atStart => exact ⟨0, by omega, by omega, rfl, h9⟩
  case round =>
    obtain ⟨k, e0, e1, rfl, g0⟩ := hrel
    have k0 := g0.c0
    have k1 := g0.c1
    clear h9
    by_cases hlt : k < 200001
    · have PK := Lib.hid (ALL.out k e0 hlt)
      go_wp2_with (fail)
      go_must (refine (bus_is _ HN.out g0.i (by omega) HM.out g0.j (by omega) PK.out).mono ?_)
      rintro e w30 ⟨rfl, hb⟩
      have h30 := g0.keep hb
      have k0 := h30.c0
      have k1 := h30.c1
      clear g0 hb
      by_cases hk : 200 < k - 0
      · go_wp2
        go_ret
        exact ⟨rfl, h30.b⟩
      · clear k0 k1
        go_wp2
        go_roundw
        case rel => exact ⟨k + 1, by omega, by omega, rfl, h30⟩
        case measure => simp [intOf]; omega
    · go_wp2_with (fail)
      go_must (refine (parts_is _ d0 d1 HPT.out).mono ?_)
      rintro e w1 ⟨rfl, rfl⟩
      go_wp2
      go_ret
      exact ⟨rfl, g0.b⟩
theorem moves_any (day : Int) (w : World) (hc : Ints w A rs) (hc' : Ints w A' ds) (hn : rs.length ≤ 9223372036854775807) (hm : ds.length ≤ 9223372036854775807) :
    Calls Try.prog 4 #[.agg #[.slice A rs.length cap, .slice A' ds.length cap'], .int .i64 day] w fun e w' => e = .returned (.bool true) ∧ Below w.heap.size w w' := by
  cases hf : (decide (rs.length ≤ 20) && decide (ds.length ≤ 20))
  · exact moves_few day w rfl hc rfl hc' hn hm hf
  cases hr : rt rs ds
  · exact moves_right day w rfl hc rfl hc' hf hr
  by_cases ho : day < 0 ∨ (0 ≤ day ∧ 200000 < day)
  · exact moves_out day w rfl hc rfl hc' hf hr ho
  have d0 : 0 ≤ day := by omega
  have d1 : day ≤ 200000 := by omega
  cases hp : bd rs ds day
  · obtain ⟨q, e, hx⟩ : ∃ x e, nx (bd rs ds) day = (x, e) := ⟨_, _, rfl⟩
    obtain ⟨b, f, hy⟩ : ∃ x e, bf (bd rs ds) day = (x, e) := ⟨_, _, rfl⟩
    have hne : ∀ x, bd rs ds x = true → x ≠ day := fun x h e => by rw [e, hp] at h; simp at h
    rcases nx_01 hx with ⟨rfl, a1, a2, a3, _⟩ | ⟨rfl, rfl, _⟩
    · have q0 : day < q := by have := hne q a3; omega
      rcases bf_01 hy with ⟨rfl, b1, b2, b3, _⟩ | ⟨rfl, rfl, _⟩
      · have c0 : b < day := by have := hne b b3; omega
        cases hs : sm day q
        · exact moves_m00f day q b w rfl hc rfl hc' hf hr d0 d1 hx hy q0 c0 hs
        · exact moves_m00t day q b w rfl hc rfl hc' hf hr d0 d1 hx hy q0 c0 hs
      · cases hs : sm day q
        · exact moves_m03f day q w rfl hc rfl hc' hf hr d0 d1 hx hy q0 hs
        · exact moves_m03t day q w rfl hc rfl hc' hf hr d0 d1 hx hy q0 hs
    · rcases bf_01 hy with ⟨rfl, b1, b2, b3, _⟩ | ⟨rfl, rfl, _⟩
      · have c0 : b < day := by have := hne b b3; omega
        exact moves_m30 day b w rfl hc rfl hc' hf hr d0 d1 hx hy c0
      · exact moves_m33 day w rfl hc rfl hc' hf hr d0 d1 hx hy
  · exact moves_here day w rfl hc rfl hc' hf hr d0 d1 hp
end
end Go.Proofs.Ytdndlipenjkfpaa.Dat
