/- VoteTells returns true: every units, votes, numbers; no condition. -/
import Derived.Test.YtblegaclcpoonaaVoteU
namespace Go.Proofs.Ytblegaclcpoonaa.Vote
open Go.ChangeShapes Go.WideShapes Go.ChangeAt Go.RowKit
set_option linter.unusedVariables false
set_option linter.unusedSimpArgs false

set_option maxRecDepth 100000 in
set_option maxHeartbeats 4000000 in
theorem tells_a (A : Option Addr) (n cap : Nat) (zs : List Int) (A' : Option Addr) (m cap' : Nat) (vs : List V) (u c g y a : Int) (w : World) (hn : zs.length = n) (hc : Ints w A zs) (hm : vs.length = m) (hc' : Votes w A' vs) (h : 40 < n) :
    Calls Try.prog 8 #[.slice A n cap, .slice A' m cap', .int .i64 u, .int .i64 c, .int .i64 g, .int .i64 y, .int .i64 a] w fun e w' => e = .returned (.bool true) ∧ Below w.heap.size w w' := by
  have HN := Lib.hid hn
  have HM := Lib.hid hm
  clear hn hm
  go_enter Try.func8, Try.ntmps8
  go_wp2_with (fail)
  refine (small_any _).mono ?_
  rintro e w1 ⟨rfl, hb1⟩
  go_wp2
  go_ret
  exact ⟨rfl, hb1⟩

set_option maxRecDepth 100000 in
set_option maxHeartbeats 4000000 in
theorem tells_b (A : Option Addr) (n cap : Nat) (zs : List Int) (A' : Option Addr) (m cap' : Nat) (vs : List V) (u c g y a : Int) (w : World) (hn : zs.length = n) (hc : Ints w A zs) (hm : vs.length = m) (hc' : Votes w A' vs) (h : n ≤ 40) (h2 : 60 < m) :
    Calls Try.prog 8 #[.slice A n cap, .slice A' m cap', .int .i64 u, .int .i64 c, .int .i64 g, .int .i64 y, .int .i64 a] w fun e w' => e = .returned (.bool true) ∧ Below w.heap.size w w' := by
  have HN := Lib.hid hn
  have HM := Lib.hid hm
  clear hn hm
  go_enter Try.func8, Try.ntmps8
  go_wp2_with (fail)
  refine (small_any _).mono ?_
  rintro e w1 ⟨rfl, hb1⟩
  go_wp2
  go_ret
  exact ⟨rfl, hb1⟩

set_option maxRecDepth 100000 in
set_option maxHeartbeats 4000000 in
theorem tells_c (A : Option Addr) (n cap : Nat) (zs : List Int) (A' : Option Addr) (m cap' : Nat) (vs : List V) (u c g y a : Int) (w : World) (hn : zs.length = n) (hc : Ints w A zs) (hm : vs.length = m) (hc' : Votes w A' vs) (h : n ≤ 40) (h2 : m ≤ 60) (h3 : c < 0) :
    Calls Try.prog 8 #[.slice A n cap, .slice A' m cap', .int .i64 u, .int .i64 c, .int .i64 g, .int .i64 y, .int .i64 a] w fun e w' => e = .returned (.bool true) ∧ Below w.heap.size w w' := by
  have HN := Lib.hid hn
  have HM := Lib.hid hm
  clear hn hm
  go_enter Try.func8, Try.ntmps8
  go_wp2_with (fail)
  refine (small_any _).mono ?_
  rintro e w1 ⟨rfl, hb1⟩
  go_wp2_with (fail)
  go_must (refine (tally_any A n cap zs A' m cap' vs u _ HN.out (hc.keep hb1) (by omega) HM.out (hc'.keep hb1) (by omega)).mono ?_)
  rintro e w2 ⟨rfl, hb2⟩
  have k2 := Gen.over hb2 hb1
  go_wp2_with (fail)
  go_must (refine (rtally_any A n cap zs A' m cap' vs u _ HN.out (hc.keep k2) h HM.out (hc'.keep k2) h2).mono ?_)
  rintro e w3 ⟨rfl, hb3⟩
  have k3 := Gen.over hb3 k2
  clear hb1 hb2 hb3 k2
  generalize tY zs vs u = t1
  generalize tA zs vs = t2
  generalize tE zs vs = t3
  go_wp2_with (fail)
  go_must (refine (reached_any _ _ _ _).mono ?_)
  rintro e w' ⟨rfl, rfl⟩
  generalize hrr : rch g y a = rr
  have HRR := Lib.hid hrr
  clear hrr
  go_wp2_with (fail)
  go_must (refine (rreached_is HRR.out _).mono ?_)
  rintro e w' ⟨rfl, rfl⟩
  have hrb : (rr != rr) = false := by cases rr <;> rfl
  go_wp2_with (fail)
  go_must (refine (missing_any _ _ _ _).mono ?_)
  rintro e w' ⟨rfl, rfl⟩
  go_wp2_with (fail)
  go_must (refine (rmissing_any _ _ _ _).mono ?_)
  rintro e w' ⟨rfl, rfl⟩
  generalize mis g y a = mm
  go_wp2_with (fail)
  go_must (refine (last_no _ _ _ _ _ _ (by omega)).mono ?_)
  rintro e w' ⟨rfl, rfl⟩
  go_wp2_with (fail)
  go_must (refine (rlast_no _ _ _ _ _ _ (by omega)).mono ?_)
  rintro e w' ⟨rfl, rfl⟩
  go_wp2_with (fail)
  go_must (refine (bools_any none 0 0 [] none 0 0 [] _ rfl (fun h => absurd h (by simp)) (by omega) rfl (fun h => absurd h (by simp)) (by omega)).mono ?_)
  rintro e w4 ⟨rfl, hb4⟩
  have k4 := Gen.over hb4 k3
  go_wp2
  go_ret
  exact ⟨rfl, k4⟩

set_option maxRecDepth 100000 in
set_option maxHeartbeats 4000000 in
theorem tells_d (A : Option Addr) (n cap : Nat) (zs : List Int) (A' : Option Addr) (m cap' : Nat) (vs : List V) (u c g y a : Int) (w : World) (hn : zs.length = n) (hc : Ints w A zs) (hm : vs.length = m) (hc' : Votes w A' vs) (h : n ≤ 40) (h2 : m ≤ 60) (h3 : 60 < c) (h4 : c ≤ 20000) :
    Calls Try.prog 8 #[.slice A n cap, .slice A' m cap', .int .i64 u, .int .i64 c, .int .i64 g, .int .i64 y, .int .i64 a] w fun e w' => e = .returned (.bool true) ∧ Below w.heap.size w w' := by
  have HN := Lib.hid hn
  have HM := Lib.hid hm
  clear hn hm
  go_enter Try.func8, Try.ntmps8
  go_wp2_with (fail)
  refine (small_any _).mono ?_
  rintro e w1 ⟨rfl, hb1⟩
  go_wp2_with (fail)
  go_must (refine (tally_any A n cap zs A' m cap' vs u _ HN.out (hc.keep hb1) (by omega) HM.out (hc'.keep hb1) (by omega)).mono ?_)
  rintro e w2 ⟨rfl, hb2⟩
  have k2 := Gen.over hb2 hb1
  go_wp2_with (fail)
  go_must (refine (rtally_any A n cap zs A' m cap' vs u _ HN.out (hc.keep k2) h HM.out (hc'.keep k2) h2).mono ?_)
  rintro e w3 ⟨rfl, hb3⟩
  have k3 := Gen.over hb3 k2
  clear hb1 hb2 hb3 k2
  generalize tY zs vs u = t1
  generalize tA zs vs = t2
  generalize tE zs vs = t3
  go_wp2_with (fail)
  go_must (refine (reached_any _ _ _ _).mono ?_)
  rintro e w' ⟨rfl, rfl⟩
  generalize hrr : rch g y a = rr
  have HRR := Lib.hid hrr
  clear hrr
  go_wp2_with (fail)
  go_must (refine (rreached_is HRR.out _).mono ?_)
  rintro e w' ⟨rfl, rfl⟩
  have hrb : (rr != rr) = false := by cases rr <;> rfl
  go_wp2_with (fail)
  go_must (refine (missing_any _ _ _ _).mono ?_)
  rintro e w' ⟨rfl, rfl⟩
  go_wp2_with (fail)
  go_must (refine (rmissing_any _ _ _ _).mono ?_)
  rintro e w' ⟨rfl, rfl⟩
  generalize mis g y a = mm
  go_wp2
  go_ret
  exact ⟨rfl, k3⟩

set_option maxRecDepth 100000 in
set_option maxHeartbeats 4000000 in
theorem tells_e (A : Option Addr) (n cap : Nat) (zs : List Int) (A' : Option Addr) (m cap' : Nat) (vs : List V) (u c g y a : Int) (w : World) (hn : zs.length = n) (hc : Ints w A zs) (hm : vs.length = m) (hc' : Votes w A' vs) (h : n ≤ 40) (h2 : m ≤ 60) (h3 : 20000 < c) :
    Calls Try.prog 8 #[.slice A n cap, .slice A' m cap', .int .i64 u, .int .i64 c, .int .i64 g, .int .i64 y, .int .i64 a] w fun e w' => e = .returned (.bool true) ∧ Below w.heap.size w w' := by
  have HN := Lib.hid hn
  have HM := Lib.hid hm
  clear hn hm
  go_enter Try.func8, Try.ntmps8
  go_wp2_with (fail)
  refine (small_any _).mono ?_
  rintro e w1 ⟨rfl, hb1⟩
  go_wp2_with (fail)
  go_must (refine (tally_any A n cap zs A' m cap' vs u _ HN.out (hc.keep hb1) (by omega) HM.out (hc'.keep hb1) (by omega)).mono ?_)
  rintro e w2 ⟨rfl, hb2⟩
  have k2 := Gen.over hb2 hb1
  go_wp2_with (fail)
  go_must (refine (rtally_any A n cap zs A' m cap' vs u _ HN.out (hc.keep k2) h HM.out (hc'.keep k2) h2).mono ?_)
  rintro e w3 ⟨rfl, hb3⟩
  have k3 := Gen.over hb3 k2
  clear hb1 hb2 hb3 k2
  generalize tY zs vs u = t1
  generalize tA zs vs = t2
  generalize tE zs vs = t3
  go_wp2_with (fail)
  go_must (refine (reached_any _ _ _ _).mono ?_)
  rintro e w' ⟨rfl, rfl⟩
  generalize hrr : rch g y a = rr
  have HRR := Lib.hid hrr
  clear hrr
  go_wp2_with (fail)
  go_must (refine (rreached_is HRR.out _).mono ?_)
  rintro e w' ⟨rfl, rfl⟩
  have hrb : (rr != rr) = false := by cases rr <;> rfl
  go_wp2_with (fail)
  go_must (refine (missing_any _ _ _ _).mono ?_)
  rintro e w' ⟨rfl, rfl⟩
  go_wp2_with (fail)
  go_must (refine (rmissing_any _ _ _ _).mono ?_)
  rintro e w' ⟨rfl, rfl⟩
  generalize mis g y a = mm
  go_wp2_with (fail)
  go_must (refine (last_no _ _ _ _ _ _ (by omega)).mono ?_)
  rintro e w' ⟨rfl, rfl⟩
  go_wp2_with (fail)
  go_must (refine (rlast_no _ _ _ _ _ _ (by omega)).mono ?_)
  rintro e w' ⟨rfl, rfl⟩
  go_wp2_with (fail)
  go_must (refine (bools_any none 0 0 [] none 0 0 [] _ rfl (fun h => absurd h (by simp)) (by omega) rfl (fun h => absurd h (by simp)) (by omega)).mono ?_)
  rintro e w4 ⟨rfl, hb4⟩
  have k4 := Gen.over hb4 k3
  go_wp2
  go_ret
  exact ⟨rfl, k4⟩

set_option maxRecDepth 100000 in
set_option maxHeartbeats 4000000 in
theorem tells_f (A : Option Addr) (n cap : Nat) (zs : List Int) (A' : Option Addr) (m cap' : Nat) (vs : List V) (u c g y a : Int) (w : World) (hn : zs.length = n) (hc : Ints w A zs) (hm : vs.length = m) (hc' : Votes w A' vs) (h : n ≤ 40) (h2 : m ≤ 60) (h3 : 0 ≤ c) (h4 : c ≤ 60) :
    Calls Try.prog 8 #[.slice A n cap, .slice A' m cap', .int .i64 u, .int .i64 c, .int .i64 g, .int .i64 y, .int .i64 a] w fun e w' => e = .returned (.bool true) ∧ Below w.heap.size w w' := by
  obtain ⟨C, rfl⟩ := Int.eq_ofNat_of_zero_le h3
  have HN := Lib.hid hn
  have HM := Lib.hid hm
  clear hn hm
  go_enter Try.func8, Try.ntmps8
  go_wp2_with (fail)
  refine (small_any _).mono ?_
  rintro e w1 ⟨rfl, hb1⟩
  go_wp2_with (fail)
  go_must (refine (tally_any A n cap zs A' m cap' vs u _ HN.out (hc.keep hb1) (by omega) HM.out (hc'.keep hb1) (by omega)).mono ?_)
  rintro e w2 ⟨rfl, hb2⟩
  have k2 := Gen.over hb2 hb1
  go_wp2_with (fail)
  go_must (refine (rtally_any A n cap zs A' m cap' vs u _ HN.out (hc.keep k2) h HM.out (hc'.keep k2) h2).mono ?_)
  rintro e w3 ⟨rfl, hb3⟩
  have k3 := Gen.over hb3 k2
  clear hb1 hb2 hb3 k2
  generalize tY zs vs u = t1
  generalize tA zs vs = t2
  generalize tE zs vs = t3
  go_wp2_with (fail)
  go_must (refine (reached_any _ _ _ _).mono ?_)
  rintro e w' ⟨rfl, rfl⟩
  generalize hrr : rch g y a = rr
  have HRR := Lib.hid hrr
  clear hrr
  go_wp2_with (fail)
  go_must (refine (rreached_is HRR.out _).mono ?_)
  rintro e w' ⟨rfl, rfl⟩
  have hrb : (rr != rr) = false := by cases rr <;> rfl
  go_wp2_with (fail)
  go_must (refine (missing_any _ _ _ _).mono ?_)
  rintro e w' ⟨rfl, rfl⟩
  go_wp2_with (fail)
  go_must (refine (rmissing_any _ _ _ _).mono ?_)
  rintro e w' ⟨rfl, rfl⟩
  generalize mis g y a = mm
  go_wp2_with (fail)
  go_must (refine (last_any A' m cap' vs C u _ HM.out (hc'.keep k3) (by omega) (by omega) (by omega)).mono ?_)
  rintro e w4 ⟨rfl, hb4, r4⟩
  have k4 := Gen.over hb4 k3
  rw [Int.toNat_natCast]
  go_wp2_with (fail)
  go_must (refine (rlast_any A' m cap' vs C u _ HM.out (hc'.keep k4) h2 (by omega)).mono ?_)
  rintro e w5 ⟨rfl, hb5, r5⟩
  have k5 := Gen.over hb5 k4
  replace r4 := r4.keep hb5
  have hl : (lastV C u vs).length = C := by rw [lastV_length]; simp
  have HL := Lib.hid hl
  clear hl
  go_wp2_with (fail)
  go_must (refine (bools_any _ C C (lastV C u vs) _ C C (lastV C u vs) _ HL.out r4.boos (by omega) HL.out r5.boos (by omega)).mono ?_)
  rintro e w6 ⟨rfl, hb6⟩
  have k6 := Gen.over hb6 k5
  have hbe : bEq (lastV C u vs) (lastV C u vs) = true := decide_eq_true rfl
  go_wp2
  go_ret
  exact ⟨rfl, k6⟩

theorem tells_any (A : Option Addr) (cap : Nat) (zs : List Int) (A' : Option Addr) (cap' : Nat) (vs : List V) (u c g y a : Int) (w : World) (hc : Ints w A zs) (x0 : zs.length ≤ 9223372036854775807) (hc' : Votes w A' vs) (x1 : vs.length ≤ 9223372036854775807) :
    Calls Try.prog 8 #[.slice A zs.length cap, .slice A' vs.length cap', .int .i64 u, .int .i64 c, .int .i64 g, .int .i64 y, .int .i64 a] w fun e w' => e = .returned (.bool true) ∧ Below w.heap.size w w' := by
  by_cases h1 : zs.length ≤ 40
  case neg => exact tells_a A _ cap zs A' _ cap' vs u c g y a w rfl hc rfl hc' (by omega)
  by_cases h2 : vs.length ≤ 60
  case neg => exact tells_b A _ cap zs A' _ cap' vs u c g y a w rfl hc rfl hc' h1 (by omega)
  by_cases h3 : 0 ≤ c
  case neg => exact tells_c A _ cap zs A' _ cap' vs u c g y a w rfl hc rfl hc' h1 h2 (by omega)
  by_cases h4 : c ≤ 60
  case pos => exact tells_f A _ cap zs A' _ cap' vs u c g y a w rfl hc rfl hc' h1 h2 h3 h4
  by_cases h5 : c ≤ 20000
  case pos => exact tells_d A _ cap zs A' _ cap' vs u c g y a w rfl hc rfl hc' h1 h2 (by omega) h5
  exact tells_e A _ cap zs A' _ cap' vs u c g y a w rfl hc rfl hc' h1 h2 (by omega)
end Go.Proofs.Ytblegaclcpoonaa.Vote
