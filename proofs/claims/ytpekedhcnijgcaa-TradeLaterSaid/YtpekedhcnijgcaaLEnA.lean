/- EntitleAdds returns true: every list of seats, units and trades, trade, and day; no condition. -/
import Derived.Test.YtpekedhcnijgcaaTrdS
import Derived.Test.YtpekedhcnijgcaaEntM
import Derived.Test.YtpekedhcnijgcaaLEnT
namespace Go.Proofs.Ytpekedhcnijgcaa.Book
open Go.ChangeShapes Go.WideShapes Go.ChangeAt Go.RowKit Go.Proofs.Ytpekedhcnijgcaa.Cell
set_option linter.unusedVariables false
set_option linter.unusedSimpArgs false

theorem leaf_b {ss : List (Int × Int)} (hr : rg ss = true) {i : Nat} (hlf : lf ss i = true) : ∀ j, j < ss.length → bB ss i j = decide (j = i) := by
  intro j
  induction j using Nat.strongRecOn with
  | ind j ih =>
    intro hj
    by_cases e : j = i
    · subst e; rw [bB_self hj]; simp
    · rw [decide_eq_false e]
      by_cases hp : 0 ≤ par ss j
      · obtain ⟨h1, h2⟩ := bB_up (pre_of hr) hj e hp
        rw [h2, ih _ h1 (by omega)]
        refine decide_eq_false fun c => ?_
        obtain ⟨s, hs⟩ := at_ ss j hj
        have h3 := (lf_no (ss := ss) (k := i) (by have := (lf_in hlf).2; omega)).2 ⟨j, s, hs, by rw [par_at hs] at hp c; omega⟩
        rw [hlf] at h3
        cases h3
      · rw [bB_top hj (by omega)]
        exact decide_eq_false e
theorem leaf_h {ss : List (Int × Int)} {S : List Int} (hr : rg ss = true) (hl : S.length = ss.length) {i : Nat} (hlf : lf ss i = true) : hN ss S i = S.getD i 0 := by
  have hi : i < ss.length := by have := (lf_in hlf).2; omega
  rw [hN_sm hl, sm_congr (g := fun c => if c = i then S.getD i 0 else 0) (fun j hj => by
    rw [leaf_b hr hlf j hj]
    by_cases e : j = i
    · subst e; simp
    · simp [e]), sm_point _ hi]
theorem pd_S {ss : List (Int × Int)} {us : List Int} {l : List Tr} {day : Int} {L : List (Int × Int)} (h : pdO ss us l day = (L, 0)) {i : Nat} (hlf : lf ss i = true) : thO ss L i = (sums day us l).getD i 0 := by
  unfold pdO at h
  split at h
  · rename_i hok
    obtain ⟨hv, hr, _, _⟩ := hok
    have R : Rt ss us l := ⟨hv, hr⟩
    have hi : i < ss.length := by have := (lf_in hlf).2; omega
    obtain rfl : sel (pf (sums day us l)) ss.length = L := by injection h
    have hls : (sums day us l).length = ss.length := by rw [sums_length, R.len]
    rw [thO_hN (vd_in hv).1 hls hi, leaf_h (vd_in hv).1 hls hlf]
  · cases h
theorem adT_in {ss : List (Int × Int)} {l M : List Tr} {x : Tr} (h : adT ss l x = (M, 0)) : rtT ss l = true ∧ okT ss x = true ∧ x.o = -1 ∧ l ++ [x] = M := by
  unfold adT at h
  split at h
  · rename_i c
    split at h
    · cases h
    · exact ⟨c.1, c.2.1, c.2.2, by injection h⟩
  · cases h
theorem rtT_app {ss : List (Int × Int)} {l : List Tr} {x : Tr} (h : rtT ss l = true) (hx : okT ss x = true) (hl : l.length ≤ 9999) : rtT ss (l ++ [x]) = true := by
  obtain ⟨a, b, c⟩ := rtT_in h
  refine rtT_on a (by rw [List.length_append, List.length_singleton]; omega) fun y hy => ?_
  rw [List.mem_append] at hy
  rcases hy with hy | hy
  · exact c y hy
  · rw [List.mem_singleton.1 hy]; exact hx
theorem pd_err {ss : List (Int × Int)} {us : List Int} {l : List Tr} {x : Tr} {day E E' : Int} {L L' : List (Int × Int)} (hr : rtT ss l = true) (hx : okT ss x = true) (hl : l.length ≤ 9999) (h : pdO ss us l day = (L, E)) (h' : pdO ss us (l ++ [x]) day = (L', E')) : E = E' ∧ (E = 0 ∨ (E != 0) = true) := by
  have hr' := rtT_app hr hx hl
  unfold pdO at h h'
  rw [hr] at h
  rw [hr'] at h'
  by_cases c : vd ss us = true ∧ True ∧ 0 ≤ day ∧ day ≤ 200000
  · rw [if_pos (by simpa using c)] at h h'
    obtain rfl : 0 = E := by injection h
    obtain rfl : 0 = E' := by injection h'
    exact ⟨rfl, .inl rfl⟩
  · rw [if_neg (by simpa using c)] at h h'
    obtain rfl : 1 = E := by injection h
    obtain rfl : 1 = E' := by injection h'
    exact ⟨rfl, .inr rfl⟩
theorem pd_add {ss : List (Int × Int)} {us : List Int} {l : List Tr} {x : Tr} {day : Int} {L L' : List (Int × Int)} (h : pdO ss us l day = (L, 0)) (h' : pdO ss us (l ++ [x]) day = (L', 0)) {i : Nat} (hlf : lf ss i = true) : thO ss L' i = thO ss L i + dlt day x i := by
  have hv : vd ss us = true ∧ rtT ss (l ++ [x]) = true := by
    unfold pdO at h'
    split at h'
    · rename_i c; exact ⟨c.1, c.2.1⟩
    · cases h'
  have R : Rt ss us (l ++ [x]) := ⟨hv.1, hv.2⟩
  rw [pd_S h hlf, pd_S h' hlf, sums_snoc]
  obtain ⟨m1, m2, _⟩ := R.mem (k := l.length) (x := x) (by rw [List.getElem?_append_right (Nat.le_refl _), Nat.sub_self]; rfl)
  have := stp_at (day := day) (us := sums day us l) (x := x) (j := (i : Int)) (by rw [sums_length]; exact m1) (by rw [sums_length]; exact m2) (by omega)
  rwa [Int.toNat_natCast] at this
theorem pd_bd {ss : List (Int × Int)} {us : List Int} {l : List Tr} {day : Int} {L : List (Int × Int)} (hn : ss.length ≤ 10) (hl : l.length ≤ 12) (h : pdO ss us l day = (L, 0)) {i : Nat} (hlf : lf ss i = true) : -13000000000 ≤ thO ss L i ∧ thO ss L i ≤ 13000000000 := by
  obtain ⟨S, hS⟩ := pd_ok hn hl h
  have hi : i < ss.length := by have := (lf_in hlf).2; omega
  rw [hS.th i hi, leaf_h hS.r hS.ls hlf]
  exact hS.bd i
section
variable {A A' A3 : Option Addr} {n cap m cap' q cap3 : Nat} {ss : List (Int × Int)} {us : List Int} {l : List Tr} {k f t u mm d o b day : Int}
set_option maxRecDepth 100000 in
set_option maxHeartbeats 1000000 in
theorem ena_a (w : World) (hn : n ≤ 9223372036854775807) (hm : m ≤ 9223372036854775807) (hq : q ≤ 9223372036854775807) (h : fewB n m q = false) :
    Calls Try.prog 10 #[.slice A n cap, .slice A' m cap', .slice A3 q cap3, .agg #[.int .i64 k, .int .i64 f, .int .i64 t, .int .i64 u, .int .i64 mm, .int .i64 d, .int .i64 o, .int .i64 b], .int .i64 day] w fun e w' => e = .returned (.bool true) ∧ Below w.heap.size w w' := by
  have HF := Lib.hid h
  have hB0 : Below w.heap.size w (w.alloc (.cells #[.int .i64 k, .int .i64 f, .int .i64 t, .int .i64 u, .int .i64 mm, .int .i64 d, .int .i64 o, .int .i64 b] 26)) := Gen.b_alloc (Below.refl _ _)
  clear h
  go_enter Try.func10, Try.ntmps10
  go_wp2_with (fail)
  go_must (refine (small33_any _).mono ?_)
  rintro e w1 ⟨rfl, hb⟩
  have hB1 := Gen.over hb hB0
  go_wp2_with (fail)
  go_must (refine (tfew_is _ hn hm hq HF.out).mono ?_)
  rintro e w2 ⟨rfl, rfl⟩
  go_wp2
  go_ret
  exact ⟨rfl, hB1⟩
set_option maxRecDepth 100000 in
set_option maxHeartbeats 1000000 in
theorem ena_b (w : World) (h : fewB n m q = true) (hq : 11 < q) :
    Calls Try.prog 10 #[.slice A n cap, .slice A' m cap', .slice A3 q cap3, .agg #[.int .i64 k, .int .i64 f, .int .i64 t, .int .i64 u, .int .i64 mm, .int .i64 d, .int .i64 o, .int .i64 b], .int .i64 day] w fun e w' => e = .returned (.bool true) ∧ Below w.heap.size w w' := by
  obtain ⟨f1, f2, f3⟩ := fewB_in h
  have HF := Lib.hid h
  have hqI : 11 < (q : Int) := by omega
  have hB0 : Below w.heap.size w (w.alloc (.cells #[.int .i64 k, .int .i64 f, .int .i64 t, .int .i64 u, .int .i64 mm, .int .i64 d, .int .i64 o, .int .i64 b] 26)) := Gen.b_alloc (Below.refl _ _)
  clear h
  go_enter Try.func10, Try.ntmps10
  go_wp2_with (fail)
  go_must (refine (small33_any _).mono ?_)
  rintro e w1 ⟨rfl, hb⟩
  have hB1 := Gen.over hb hB0
  go_wp2_with (fail)
  go_must (refine (tfew_is _ (by omega) (by omega) (by omega) HF.out).mono ?_)
  rintro e w2 ⟨rfl, rfl⟩
  go_wp2
  go_ret
  exact ⟨rfl, hB1⟩
set_option maxRecDepth 100000 in
set_option maxHeartbeats 8000000 in
theorem ena_c (w : World) (hn : ss.length = n) (hc : Prs w A ss) (hm : us.length = m) (hc' : Ints w A' us) (hq : l.length = q) (hl : Trs w A3 l) (hf : fewB n m q = true) (hq11 : q ≤ 11) {M : List Tr} {E : Int} (hA : adT ss l ⟨k, f, t, u, mm, d, o, b⟩ = (M, E)) (hE : (E != 0) = true) :
    Calls Try.prog 10 #[.slice A n cap, .slice A' m cap', .slice A3 q cap3, .agg #[.int .i64 k, .int .i64 f, .int .i64 t, .int .i64 u, .int .i64 mm, .int .i64 d, .int .i64 o, .int .i64 b], .int .i64 day] w fun e w' => e = .returned (.bool true) ∧ Below w.heap.size w w' := by
  obtain ⟨f1, f2, f3⟩ := fewB_in hf
  have HN := Lib.hid hn
  have HM := Lib.hid hm
  have HQ := Lib.hid hq
  have HF := Lib.hid hf
  have hqI : (q : Int) ≤ 11 := by omega
  have HA := Lib.hid hA
  have hB0 : Below w.heap.size w (w.alloc (.cells #[.int .i64 k, .int .i64 f, .int .i64 t, .int .i64 u, .int .i64 mm, .int .i64 d, .int .i64 o, .int .i64 b] 26)) := Gen.b_alloc (Below.refl _ _)
  have HBX : Hid (Row (w.alloc (.cells #[.int .i64 k, .int .i64 f, .int .i64 t, .int .i64 u, .int .i64 mm, .int .i64 d, .int .i64 o, .int .i64 b] 26)) w.heap.size 26 #[.int .i64 k, .int .i64 f, .int .i64 t, .int .i64 u, .int .i64 mm, .int .i64 d, .int .i64 o, .int .i64 b]) := Lib.hid (Row.new _ _ _)
  have HC := Lib.hid (hc.keep hB0)
  have HC1 := Lib.hid (hc'.keep hB0)
  have HC2 := Lib.hid (hl.keep hB0)
  clear hn hm hq hf hc hc' hl hA
  go_enter Try.func10, Try.ntmps10
  go_wp2_with (fail)
  go_must (refine (small33_any _).mono ?_)
  rintro e w1 ⟨rfl, hb⟩
  have hB1 := Gen.over hb hB0
  have hx1 := HBX.out.keep hb
  replace HC := Lib.hid (HC.out.keep hb)
  replace HC1 := Lib.hid (HC1.out.keep hb)
  replace HC2 := Lib.hid (HC2.out.keep hb)
  have d0 := hx1.cell 0
  have d1 := hx1.cell 1
  have d2 := hx1.cell 2
  have d3 := hx1.cell 3
  have d4 := hx1.cell 4
  have d5 := hx1.cell 5
  have d6 := hx1.cell 6
  have d7 := hx1.cell 7
  clear hb hB0 HBX
  go_wp2_with (fail)
  go_must (refine (tfew_is _ (by omega) (by omega) (by omega) HF.out).mono ?_)
  rintro e w2 ⟨rfl, rfl⟩
  go_wp2_with (fail)
  go_must (refine (tadd_any ⟨k, f, t, u, mm, d, o, b⟩ _ _ _ ss _ _ _ l _ _ _ HN.out HC.out (by omega) HQ.out HC2.out (by omega) HA.out).mono ?_)
  rintro e w2 ⟨A5, c5, rfl, hb2, hp5⟩
  have hB2 := Gen.over hb2 hB1
  go_wp2
  go_ret
  exact ⟨rfl, hB2⟩
set_option maxRecDepth 100000 in
set_option maxHeartbeats 8000000 in
theorem ena_d (w : World) (hn : ss.length = n) (hc : Prs w A ss) (hm : us.length = m) (hc' : Ints w A' us) (hq : l.length = q) (hl : Trs w A3 l) (hf : fewB n m q = true) (hq11 : q ≤ 11) {M : List Tr} (hA : adT ss l ⟨k, f, t, u, mm, d, o, b⟩ = (M, 0)) {La Lb : List (Int × Int)} {E : Int} (hP : pdO ss us l day = (La, E)) (hP2 : pdO ss us M day = (Lb, E)) (hE : (E != 0) = true) :
    Calls Try.prog 10 #[.slice A n cap, .slice A' m cap', .slice A3 q cap3, .agg #[.int .i64 k, .int .i64 f, .int .i64 t, .int .i64 u, .int .i64 mm, .int .i64 d, .int .i64 o, .int .i64 b], .int .i64 day] w fun e w' => e = .returned (.bool true) ∧ Below w.heap.size w w' := by
  obtain ⟨f1, f2, f3⟩ := fewB_in hf
  have HN := Lib.hid hn
  have HM := Lib.hid hm
  have HQ := Lib.hid hq
  have HF := Lib.hid hf
  have hqI : (q : Int) ≤ 11 := by omega
  obtain ⟨r1, r2, r3, r4⟩ := adT_in hA
  have HA := Lib.hid hA
  have HML := Lib.hid (show M.length = q + 1 from by rw [← r4, List.length_append, hq]; rfl)
  have HP := Lib.hid hP
  have HP2 := Lib.hid hP2
  clear r1 r2 r3 r4
  have hB0 : Below w.heap.size w (w.alloc (.cells #[.int .i64 k, .int .i64 f, .int .i64 t, .int .i64 u, .int .i64 mm, .int .i64 d, .int .i64 o, .int .i64 b] 26)) := Gen.b_alloc (Below.refl _ _)
  have HBX : Hid (Row (w.alloc (.cells #[.int .i64 k, .int .i64 f, .int .i64 t, .int .i64 u, .int .i64 mm, .int .i64 d, .int .i64 o, .int .i64 b] 26)) w.heap.size 26 #[.int .i64 k, .int .i64 f, .int .i64 t, .int .i64 u, .int .i64 mm, .int .i64 d, .int .i64 o, .int .i64 b]) := Lib.hid (Row.new _ _ _)
  have HC := Lib.hid (hc.keep hB0)
  have HC1 := Lib.hid (hc'.keep hB0)
  have HC2 := Lib.hid (hl.keep hB0)
  clear hn hm hq hf hc hc' hl hA hP hP2
  go_enter Try.func10, Try.ntmps10
  go_wp2_with (fail)
  go_must (refine (small33_any _).mono ?_)
  rintro e w1 ⟨rfl, hb⟩
  have hB1 := Gen.over hb hB0
  have hx1 := HBX.out.keep hb
  replace HC := Lib.hid (HC.out.keep hb)
  replace HC1 := Lib.hid (HC1.out.keep hb)
  replace HC2 := Lib.hid (HC2.out.keep hb)
  have d0 := hx1.cell 0
  have d1 := hx1.cell 1
  have d2 := hx1.cell 2
  have d3 := hx1.cell 3
  have d4 := hx1.cell 4
  have d5 := hx1.cell 5
  have d6 := hx1.cell 6
  have d7 := hx1.cell 7
  clear hb hB0 HBX
  go_wp2_with (fail)
  go_must (refine (tfew_is _ (by omega) (by omega) (by omega) HF.out).mono ?_)
  rintro e w2 ⟨rfl, rfl⟩
  go_wp2_with (fail)
  go_must (refine (tadd_any ⟨k, f, t, u, mm, d, o, b⟩ _ _ _ ss _ _ _ l _ _ _ HN.out HC.out (by omega) HQ.out HC2.out (by omega) HA.out).mono ?_)
  rintro e w2 ⟨A5, c5, rfl, hb2, hp5⟩
  have hB2 := Gen.over hb2 hB1
  rw [HML.out]
  replace hx1 := hx1.keep hb2
  replace HC := Lib.hid (HC.out.keep hb2)
  replace HC1 := Lib.hid (HC1.out.keep hb2)
  replace HC2 := Lib.hid (HC2.out.keep hb2)
  clear d0 d1 d2 d3 d4 d5 d6 d7 hb2 hB1
  go_wp2_with (fail)
  go_must (refine (paid_any _ _ _ ss _ _ _ us _ _ _ l day _ _ _ HN.out HC.out (by omega) HM.out HC1.out (by omega) HQ.out HC2.out (by omega) HP.out).mono ?_)
  rintro e w3 ⟨B1, c1, rfl, hb3, hp1⟩
  have hB3 := Gen.over hb3 hB2
  replace hx1 := hx1.keep hb3
  replace HC := Lib.hid (HC.out.keep hb3)
  replace HC1 := Lib.hid (HC1.out.keep hb3)
  replace hp5 := hp5.keep hb3
  clear hb3 hB2 HC2
  go_wp2_with (fail)
  go_must (refine (paid_any _ _ _ ss _ _ _ us _ _ _ M day _ _ _ HN.out HC.out (by omega) HM.out HC1.out (by omega) HML.out hp5 (by omega) HP2.out).mono ?_)
  rintro e w4 ⟨B2, c2, rfl, hb4, hp2⟩
  have hB4 := Gen.over hb4 hB3
  go_wp2
  go_ret
  exact ⟨rfl, hB4⟩
set_option maxRecDepth 100000 in
set_option maxHeartbeats 8000000 in
theorem ena_e (w : World) (hn : ss.length = n) (hc : Prs w A ss) (hm : us.length = m) (hc' : Ints w A' us) (hq : l.length = q) (hl : Trs w A3 l) (hf : fewB n m q = true) (hq11 : q ≤ 11) {M : List Tr} (hA : adT ss l ⟨k, f, t, u, mm, d, o, b⟩ = (M, 0)) {La Lb : List (Int × Int)} (hP : pdO ss us l day = (La, 0)) (hP2 : pdO ss us M day = (Lb, 0)) :
    Calls Try.prog 10 #[.slice A n cap, .slice A' m cap', .slice A3 q cap3, .agg #[.int .i64 k, .int .i64 f, .int .i64 t, .int .i64 u, .int .i64 mm, .int .i64 d, .int .i64 o, .int .i64 b], .int .i64 day] w fun e w' => e = .returned (.bool true) ∧ Below w.heap.size w w' := by
  obtain ⟨f1, f2, f3⟩ := fewB_in hf
  have HN := Lib.hid hn
  have HM := Lib.hid hm
  have HQ := Lib.hid hq
  have HF := Lib.hid hf
  have hqI : (q : Int) ≤ 11 := by omega
  obtain ⟨r1, r2, r3, r4⟩ := adT_in hA
  have HA := Lib.hid hA
  have HML := Lib.hid (show M.length = q + 1 from by rw [← r4, List.length_append, hq]; rfl)
  have HP := Lib.hid hP
  have HP2 := Lib.hid hP2
  have hLa := pdO_len hP
  have hLb := pdO_len hP2
  rw [hn] at hLa hLb
  have HSA := Lib.hid (show Sml La from by obtain ⟨S, hS⟩ := pd_ok (by omega) (by omega) hP; exact hS.sml)
  have HSB := Lib.hid (show Sml Lb from by obtain ⟨S, hS⟩ := pd_ok (by omega) (by rw [← r4, List.length_append, hq]; show q + 1 ≤ 12; omega) hP2; exact hS.sml)
  have HAD := Lib.hid (fun (i : Nat) (hlf : lf ss i = true) => (by rw [← r4] at hP2; exact pd_add hP hP2 hlf : thO ss Lb i = thO ss La i + dlt day ⟨k, f, t, u, mm, d, o, b⟩ i))
  have HBD := Lib.hid (fun (i : Nat) (hlf : lf ss i = true) => pd_bd (i := i) (show ss.length ≤ 10 by omega) (show l.length ≤ 12 by omega) hP hlf)
  have HRG := Lib.hid (rtT_in r1).1
  obtain ⟨_, _, r5⟩ := okT_in r2
  obtain ⟨u0, u1, une⟩ := okD_u r5
  have hoD := of_decide_eq_true r5
  dsimp only at r3 u0 u1 une hoD
  have HUNE := Lib.hid une
  have HK := Lib.hid (show (k = 0 ∨ k = 1) ∧ o = -1 from ⟨by omega, r3⟩)
  clear une hoD r1 r2 r3 r4 r5
  have hB0 : Below w.heap.size w (w.alloc (.cells #[.int .i64 k, .int .i64 f, .int .i64 t, .int .i64 u, .int .i64 mm, .int .i64 d, .int .i64 o, .int .i64 b] 26)) := Gen.b_alloc (Below.refl _ _)
  have HBX : Hid (Row (w.alloc (.cells #[.int .i64 k, .int .i64 f, .int .i64 t, .int .i64 u, .int .i64 mm, .int .i64 d, .int .i64 o, .int .i64 b] 26)) w.heap.size 26 #[.int .i64 k, .int .i64 f, .int .i64 t, .int .i64 u, .int .i64 mm, .int .i64 d, .int .i64 o, .int .i64 b]) := Lib.hid (Row.new _ _ _)
  have HC := Lib.hid (hc.keep hB0)
  have HC1 := Lib.hid (hc'.keep hB0)
  have HC2 := Lib.hid (hl.keep hB0)
  clear hn hm hq hf hc hc' hl hA hP hP2
  go_enter Try.func10, Try.ntmps10
  go_wp2_with (fail)
  go_must (refine (small33_any _).mono ?_)
  rintro e w1 ⟨rfl, hb⟩
  have hB1 := Gen.over hb hB0
  have hx1 := HBX.out.keep hb
  replace HC := Lib.hid (HC.out.keep hb)
  replace HC1 := Lib.hid (HC1.out.keep hb)
  replace HC2 := Lib.hid (HC2.out.keep hb)
  have d0 := hx1.cell 0
  have d1 := hx1.cell 1
  have d2 := hx1.cell 2
  have d3 := hx1.cell 3
  have d4 := hx1.cell 4
  have d5 := hx1.cell 5
  have d6 := hx1.cell 6
  have d7 := hx1.cell 7
  clear hb hB0 HBX
  go_wp2_with (fail)
  go_must (refine (tfew_is _ (by omega) (by omega) (by omega) HF.out).mono ?_)
  rintro e w2 ⟨rfl, rfl⟩
  go_wp2_with (fail)
  go_must (refine (tadd_any ⟨k, f, t, u, mm, d, o, b⟩ _ _ _ ss _ _ _ l _ _ _ HN.out HC.out (by omega) HQ.out HC2.out (by omega) HA.out).mono ?_)
  rintro e w2 ⟨A5, c5, rfl, hb2, hp5⟩
  have hB2 := Gen.over hb2 hB1
  rw [HML.out]
  replace hx1 := hx1.keep hb2
  replace HC := Lib.hid (HC.out.keep hb2)
  replace HC1 := Lib.hid (HC1.out.keep hb2)
  replace HC2 := Lib.hid (HC2.out.keep hb2)
  clear d0 d1 d2 d3 d4 d5 d6 d7 hb2 hB1
  go_wp2_with (fail)
  go_must (refine (paid_any _ _ _ ss _ _ _ us _ _ _ l day _ _ _ HN.out HC.out (by omega) HM.out HC1.out (by omega) HQ.out HC2.out (by omega) HP.out).mono ?_)
  rintro e w3 ⟨B1, c1, rfl, hb3, hp1⟩
  have hB3 := Gen.over hb3 hB2
  replace hx1 := hx1.keep hb3
  replace HC := Lib.hid (HC.out.keep hb3)
  replace HC1 := Lib.hid (HC1.out.keep hb3)
  replace hp5 := hp5.keep hb3
  clear hb3 hB2 HC2
  go_wp2_with (fail)
  go_must (refine (paid_any _ _ _ ss _ _ _ us _ _ _ M day _ _ _ HN.out HC.out (by omega) HM.out HC1.out (by omega) HML.out hp5 (by omega) HP2.out).mono ?_)
  rintro e w4 ⟨B2, c2, rfl, hb4, hp2⟩
  have hB4 := Gen.over hb4 hB3
  have hx4 := hx1.keep hb4
  have hc4 := HC.out.keep hb4
  have hq4 := hp1.keep hb4
  obtain ⟨wo, hwo⟩ : ∃ wo : World, wo = w4 := ⟨_, rfl⟩
  rw [← hwo] at hx4 hc4 hq4 hp2 hB4
  clear hb4 hB3 hp5 hp1 HC1 HC hx1
  go_wp2_with (fail)
  rw [← hwo]
  clear hwo
  go_loopw [18] (fun iv wr => ∃ i : Nat, i ≤ n ∧ iv = .int .i64 i ∧ Below wo.heap.size wo wr) (fun iv _ => n - (intOf iv).toNat)
  case atStart => exact ⟨0, Nat.zero_le _, rfl, Below.refl _ _⟩
  case round =>
    obtain ⟨i, hi, rfl, hW⟩ := hrel
    by_cases hlt : i < n
    · have hcr := hc4.keep hW
      cases hlf : lf ss i
      · have HLO := Lib.hid (lfO_of HRG.out hlf)
        clear hlf
        go_wp2_with (fail)
        go_must (refine (bleaf_is _ HN.out hcr (by omega) HLO.out).mono ?_)
        rintro e w5 ⟨rfl, hb5⟩
        have hW5 := Gen.over hb5 hW
        clear hb5
        go_wp2
        go_roundw
        case rel => first | exact ⟨i + 1, by omega, by go_num, hW5⟩ | exact ⟨i + 1, by omega, by go_num⟩
        case measure => simp [intOf]; omega
      · have HLO := Lib.hid (lfO_of HRG.out hlf)
        have HLF := Lib.hid hlf
        obtain ⟨T, hT⟩ : ∃ T, thO ss La i = T := ⟨_, rfl⟩
        have hbd := HBD.out i hlf
        rw [hT] at hbd
        obtain ⟨t0, t1⟩ := hbd
        have HT := Lib.hid hT
        clear hlf hT
        go_wp2_with (fail)
        go_must (refine (bleaf_is _ HN.out hcr (by omega) HLO.out).mono ?_)
        rintro e w5 ⟨rfl, hb5⟩
        have hW5 := Gen.over hb5 hW
        clear hb5
        go_wp2_with (fail)
        go_must (refine (thro_any _ _ _ ss _ _ _ La i _ _ HN.out (hc4.keep hW5) (by omega) rfl (hq4.keep hW5) HSA.out HT.out).mono ?_)
        rintro e w6 ⟨rfl, hb6⟩
        have hW6 := Gen.over hb6 hW5
        have hx6 := hx4.keep hW6
        have hc6 := hc4.keep hW6
        have hq6 := hp2.keep hW6
        have d0 := hx6.cell 0
        have d1 := hx6.cell 1
        have d2 := hx6.cell 2
        have d3 := hx6.cell 3
        have d4 := hx6.cell 4
        have d5 := hx6.cell 5
        have d6 := hx6.cell 6
        have d7 := hx6.cell 7
        clear hb6 hW5 hx6
        by_cases hk0 : k = 0
        · by_cases hdd : d ≤ day
          · by_cases hfi : f = (i : Int)
            · have hti : ¬ t = (i : Int) := by have := HUNE.out; omega
              have HE2 := Lib.hid (show thO ss Lb i = T - u from by
                rw [HAD.out i HLF.out, HT.out]
                have hk := HK.out
                have hue := HUNE.out
                unfold dlt late runs
                dsimp only
                (repeat' split) <;> (simp only [decide_eq_true_eq] at *; omega))
              have z2 : (t == (i : Int)) = false := by rw [beq_eq_false_iff_ne]; exact hti
              subst hfi
              subst hk0
              clear hti
              go_wp2_with (fail)
              go_must (refine (thro_any _ _ _ ss _ _ _ Lb i _ _ HN.out hc6 (by omega) rfl hq6 HSB.out HE2.out).mono ?_)
              rintro e w7 ⟨rfl, hb7⟩
              have hW7 := Gen.over hb7 hW6
              clear hb7
              go_wp2
              go_roundw
              case rel => first | exact ⟨i + 1, by omega, by go_num, hW7⟩ | exact ⟨i + 1, by omega, by go_num⟩
              case measure => simp [intOf]; omega
            · by_cases hti : t = (i : Int)
              · have HE2 := Lib.hid (show thO ss Lb i = T + u from by
                  rw [HAD.out i HLF.out, HT.out]
                  have hk := HK.out
                  have hue := HUNE.out
                  unfold dlt late runs
                  dsimp only
                  (repeat' split) <;> (simp only [decide_eq_true_eq] at *; omega))
                have z1 : (f == (i : Int)) = false := by rw [beq_eq_false_iff_ne]; exact hfi
                subst hti
                subst hk0
                clear hfi
                go_wp2_with (fail)
                go_must (refine (thro_any _ _ _ ss _ _ _ Lb i _ _ HN.out hc6 (by omega) rfl hq6 HSB.out HE2.out).mono ?_)
                rintro e w7 ⟨rfl, hb7⟩
                have hW7 := Gen.over hb7 hW6
                clear hb7
                go_wp2
                go_roundw
                case rel => first | exact ⟨i + 1, by omega, by go_num, hW7⟩ | exact ⟨i + 1, by omega, by go_num⟩
                case measure => simp [intOf]; omega
              · have HE2 := Lib.hid (show thO ss Lb i = T from by
                  rw [HAD.out i HLF.out, HT.out]
                  have hk := HK.out
                  have hue := HUNE.out
                  unfold dlt late runs
                  dsimp only
                  (repeat' split) <;> (simp only [decide_eq_true_eq] at *; omega))
                have z1 : (f == (i : Int)) = false := by rw [beq_eq_false_iff_ne]; exact hfi
                have z2 : (t == (i : Int)) = false := by rw [beq_eq_false_iff_ne]; exact hti
                subst hk0
                clear hfi hti
                go_wp2_with (fail)
                go_must (refine (thro_any _ _ _ ss _ _ _ Lb i _ _ HN.out hc6 (by omega) rfl hq6 HSB.out HE2.out).mono ?_)
                rintro e w7 ⟨rfl, hb7⟩
                have hW7 := Gen.over hb7 hW6
                clear hb7
                go_wp2
                go_roundw
                case rel => first | exact ⟨i + 1, by omega, by go_num, hW7⟩ | exact ⟨i + 1, by omega, by go_num⟩
                case measure => simp [intOf]; omega
          · have hdd2 : day < d := by omega
            have HE2 := Lib.hid (show thO ss Lb i = T from by
              rw [HAD.out i HLF.out, HT.out]
              have hk := HK.out
              have hue := HUNE.out
              unfold dlt late runs
              dsimp only
              (repeat' split) <;> (simp only [decide_eq_true_eq] at *; omega))
            subst hk0
            clear hdd
            go_wp2_with (fail)
            go_must (refine (thro_any _ _ _ ss _ _ _ Lb i _ _ HN.out hc6 (by omega) rfl hq6 HSB.out HE2.out).mono ?_)
            rintro e w7 ⟨rfl, hb7⟩
            have hW7 := Gen.over hb7 hW6
            clear hb7
            go_wp2
            go_roundw
            case rel => first | exact ⟨i + 1, by omega, by go_num, hW7⟩ | exact ⟨i + 1, by omega, by go_num⟩
            case measure => simp [intOf]; omega
        · have z0 : (k == 0) = false := by rw [beq_eq_false_iff_ne]; exact hk0
          have HE2 := Lib.hid (show thO ss Lb i = T from by
            rw [HAD.out i HLF.out, HT.out]
            have hk := HK.out
            have hue := HUNE.out
            unfold dlt late runs
            dsimp only
            (repeat' split) <;> (simp only [decide_eq_true_eq] at *; omega))
          clear hk0
          go_wp2_with (fail)
          go_must (refine (thro_any _ _ _ ss _ _ _ Lb i _ _ HN.out hc6 (by omega) rfl hq6 HSB.out HE2.out).mono ?_)
          rintro e w7 ⟨rfl, hb7⟩
          have hW7 := Gen.over hb7 hW6
          clear hb7
          go_wp2
          go_roundw
          case rel => first | exact ⟨i + 1, by omega, by go_num, hW7⟩ | exact ⟨i + 1, by omega, by go_num⟩
          case measure => simp [intOf]; omega
    · obtain rfl : i = n := by omega
      have hE := Gen.over hW hB4
      go_wp2
      go_ret
      exact ⟨rfl, hE⟩
theorem ena_any (w : World) (x : Tr) (hc : Prs w A ss) (hc' : Ints w A' us) (hl : Trs w A3 l) (hn : ss.length ≤ 9223372036854775807) (hm : us.length ≤ 9223372036854775807) (hq : l.length ≤ 9223372036854775807) :
    Calls Try.prog 10 #[.slice A ss.length cap, .slice A' us.length cap', .slice A3 l.length cap3, .agg (tcs x).toArray, .int .i64 day] w fun e w' => e = .returned (.bool true) ∧ Below w.heap.size w w' := by
  obtain ⟨k, f, t, u, mm, d, o, b⟩ := x
  cases hf : fewB ss.length us.length l.length
  · exact ena_a w hn hm hq hf
  · by_cases h11 : 11 < l.length
    · exact ena_b w hf h11
    · obtain ⟨M, E, hA⟩ : ∃ M E, adT ss l ⟨k, f, t, u, mm, d, o, b⟩ = (M, E) := ⟨_, _, rfl⟩
      by_cases hE : E = 0
      · subst hE
        obtain ⟨La, Ea, hP⟩ : ∃ M E, pdO ss us l day = (M, E) := ⟨_, _, rfl⟩
        obtain ⟨Lb, Eb, hP2⟩ : ∃ N E, pdO ss us M day = (N, E) := ⟨_, _, rfl⟩
        obtain ⟨r1, r2, r3, r4⟩ := adT_in hA
        obtain ⟨e1, e2⟩ := pd_err r1 r2 (by omega) hP (show pdO ss us (l ++ [⟨k, f, t, u, mm, d, o, b⟩]) day = (Lb, Eb) from by rw [r4]; exact hP2)
        subst e1
        rcases e2 with rfl | e2
        · exact ena_e w rfl hc rfl hc' rfl hl hf (by omega) hA hP hP2
        · exact ena_d w rfl hc rfl hc' rfl hl hf (by omega) hA hP hP2 e2
      · exact ena_c w rfl hc rfl hc' rfl hl hf (by omega) hA (by rw [bne_iff_ne]; exact hE)
end
end Go.Proofs.Ytpekedhcnijgcaa.Book
