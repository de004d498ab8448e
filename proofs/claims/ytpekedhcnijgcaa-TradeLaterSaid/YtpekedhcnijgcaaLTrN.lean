/- TradeLater returns true: every list of seats, units and trades, day, trade, and place; no condition. -/
import Derived.Test.YtpekedhcnijgcaaLTrL
import Derived.Test.YtpekedhcnijgcaaLTrT
import Derived.Test.YtpekedhcnijgcaaTrdX2
import Derived.BigQuiet
import Derived.Deep.DeepCutAuto
namespace Go.Proofs.Ytpekedhcnijgcaa.Book
open Go.ChangeShapes Go.WideShapes Go.ChangeAt Go.RowKit Go.Proofs.Ytpekedhcnijgcaa.Cell
set_option linter.unusedVariables false
set_option linter.unusedSimpArgs false

theorem trs_box {W : World} {g : Nat} {k f t u mm d o b : Int} (h : Row W g 26 #[.int .i64 k, .int .i64 f, .int .i64 t, .int .i64 u, .int .i64 mm, .int .i64 d, .int .i64 o, .int .i64 b]) : Trs W (some ⟨g, 0, none⟩) [⟨k, f, t, u, mm, d, o, b⟩] := fun _ =>
  ⟨g, 0, rfl, fun j x hx => by
    match j, hx with
    | 0, hx =>
      obtain rfl : ⟨k, f, t, u, mm, d, o, b⟩ = x := by simpa using hx
      exact ⟨h.cell 0, h.cell 1, h.cell 2, h.cell 3, h.cell 4, h.cell 5, h.cell 6, h.cell 7⟩
    | j + 1, hx => simp at hx⟩
theorem reads_pre {w : World} {B size n k : Nat} {A : Option Addr} {xs : List Value} (h : App.Reads w B size A n xs) (hk : k ≤ n) : App.Reads w B size A k (xs.take (k * size)) := by
  refine ⟨by rw [List.length_take, h.1]; exact Nat.min_eq_left (Nat.mul_le_mul_right _ hk), fun h0 => ?_⟩
  obtain ⟨ad, e, hb, hcell⟩ := h.2 (by omega)
  refine ⟨ad, e, hb, fun j u hu => hcell j u ?_⟩
  rw [List.getElem?_take] at hu
  split at hu
  · exact hu
  · cases hu
theorem flat_cut (P Q : List Tr) : ((P ++ Q).flatMap tcs).take (P.length * 8) = P.flatMap tcs ∧ ((P ++ Q).flatMap tcs).drop (P.length * 8) = Q.flatMap tcs := by
  have hl := tcs_flat_len P
  rw [List.flatMap_append]
  exact ⟨by rw [← hl, List.take_left], by rw [← hl, List.drop_left]⟩
theorem u8_of {n : Int} (h : (Lit.int .u8 n).wf = true) : 0 ≤ n ∧ n ≤ 255 := by
  simpa [Lit.wf, IntKind.min, IntKind.max, IntKind.signed, IntKind.bits] using h
section
variable {A A' A3 : Option Addr} {n cap m cap' q cap3 : Nat} {ss : List (Int × Int)} {us : List Int} {l : List Tr} {k f t u mm d o b day y : Int}
set_option maxRecDepth 100000 in
set_option maxHeartbeats 1000000 in
theorem tlt_a (w : World) (hn : n ≤ 9223372036854775807) (hm : m ≤ 9223372036854775807) (hq : q ≤ 9223372036854775807) (h : fewB n m q = false) :
    Calls Try.prog 6 #[.slice A n cap, .slice A' m cap', .slice A3 q cap3, .int .i64 day, .agg #[.int .i64 k, .int .i64 f, .int .i64 t, .int .i64 u, .int .i64 mm, .int .i64 d, .int .i64 o, .int .i64 b], .int .u8 y] w fun e w' => e = .returned (.bool true) ∧ Below w.heap.size w w' := by
  have HF := Lib.hid h
  have hB0 : Below w.heap.size w (w.alloc (.cells #[.int .i64 k, .int .i64 f, .int .i64 t, .int .i64 u, .int .i64 mm, .int .i64 d, .int .i64 o, .int .i64 b] 26)) := Gen.b_alloc (Below.refl _ _)
  clear h
  go_enter Try.func6, Try.ntmps6
  go_wp2_with (fail)
  go_must (refine (small32_any _).mono ?_)
  rintro e w1 ⟨rfl, hb⟩
  have hB1 := Gen.over hb hB0
  go_wp2_with (fail)
  go_must (refine (tfew_is _ hn hm hq HF.out).mono ?_)
  rintro e w2 ⟨rfl, rfl⟩
  go_wp2
  go_ret
  exact ⟨rfl, hB1⟩
set_option maxRecDepth 100000 in
set_option maxHeartbeats 1000000 in
theorem tlt_b (w : World) (hn : n ≤ 9223372036854775807) (hm : m ≤ 9223372036854775807) (hq : q ≤ 9223372036854775807) (h : fewB n m q = true) (hq2 : 11 < q) :
    Calls Try.prog 6 #[.slice A n cap, .slice A' m cap', .slice A3 q cap3, .int .i64 day, .agg #[.int .i64 k, .int .i64 f, .int .i64 t, .int .i64 u, .int .i64 mm, .int .i64 d, .int .i64 o, .int .i64 b], .int .u8 y] w fun e w' => e = .returned (.bool true) ∧ Below w.heap.size w w' := by
  have HF := Lib.hid h
  have hqI : (11 : Int) < (q : Int) := by omega
  have hB0 : Below w.heap.size w (w.alloc (.cells #[.int .i64 k, .int .i64 f, .int .i64 t, .int .i64 u, .int .i64 mm, .int .i64 d, .int .i64 o, .int .i64 b] 26)) := Gen.b_alloc (Below.refl _ _)
  clear h
  go_enter Try.func6, Try.ntmps6
  go_wp2_with (fail)
  go_must (refine (small32_any _).mono ?_)
  rintro e w1 ⟨rfl, hb⟩
  have hB1 := Gen.over hb hB0
  go_wp2_with (fail)
  go_must (refine (tfew_is _ hn hm hq HF.out).mono ?_)
  rintro e w2 ⟨rfl, rfl⟩
  go_wp2
  go_ret
  exact ⟨rfl, hB1⟩
set_option maxRecDepth 100000 in
set_option maxHeartbeats 8000000 in
theorem tlt_c (w : World) (hn : ss.length = n) (hc : Prs w A ss) (hm : us.length = m) (hc' : Ints w A' us) (hq : l.length = q) (hl : Trs w A3 l) (hf : fewB n m q = true) (hq2 : q ≤ 11) {R : List Int × List Tr} {E : Int} (hS : stO ss us l day = (R, E)) (hE : (E != 0) = true) :
    Calls Try.prog 6 #[.slice A n cap, .slice A' m cap', .slice A3 q cap3, .int .i64 day, .agg #[.int .i64 k, .int .i64 f, .int .i64 t, .int .i64 u, .int .i64 mm, .int .i64 d, .int .i64 o, .int .i64 b], .int .u8 y] w fun e w' => e = .returned (.bool true) ∧ Below w.heap.size w w' := by
  obtain ⟨f1, f2, f3⟩ := fewB_in hf
  have HN := Lib.hid hn
  have HM := Lib.hid hm
  have HQ := Lib.hid hq
  have HF := Lib.hid hf
  have HS := Lib.hid hS
  have hqI : ((11 : Int) < (q : Int)) = False := eq_false (by omega)
  have hB : Below w.heap.size w (w.alloc (.cells #[.int .i64 k, .int .i64 f, .int .i64 t, .int .i64 u, .int .i64 mm, .int .i64 d, .int .i64 o, .int .i64 b] 26)) := Gen.b_alloc (Below.refl _ _)
  have hx : Row (w.alloc (.cells #[.int .i64 k, .int .i64 f, .int .i64 t, .int .i64 u, .int .i64 mm, .int .i64 d, .int .i64 o, .int .i64 b] 26)) w.heap.size 26 #[.int .i64 k, .int .i64 f, .int .i64 t, .int .i64 u, .int .i64 mm, .int .i64 d, .int .i64 o, .int .i64 b] := Row.new _ _ _
  replace hc := hc.keep hB
  replace hc' := hc'.keep hB
  replace hl := hl.keep hB
  clear hn hm hq hf hS
  go_enter Try.func6, Try.ntmps6
  go_wp2_with (fail)
  go_must (refine (small32_any _).mono ?_)
  rintro e w1 ⟨rfl, hb1⟩
  replace hB := Gen.over hb1 hB
  replace hc := hc.keep hb1
  replace hc' := hc'.keep hb1
  replace hl := hl.keep hb1
  replace hx := hx.keep hb1
  clear hb1
  go_wp2_with (fail)
  go_must (refine (tfew_is _ (by omega) (by omega) (by omega) HF.out).mono ?_)
  rintro e w2 ⟨rfl, rfl⟩
  go_wp2_with (fail)
  go_must (refine (settle_any _ HN.out hc (by omega) HM.out hc' (by omega) HQ.out hl (by omega) HS.out).mono ?_)
  rintro e w3 ⟨B1, c1, B2, c2, rfl, hb3, hu, ht⟩
  replace hB := Gen.over hb3 hB
  replace hc := hc.keep hb3
  replace hc' := hc'.keep hb3
  replace hl := hl.keep hb3
  replace hx := hx.keep hb3
  clear hb3
  go_wp2
  go_ret
  exact ⟨rfl, hB⟩
set_option maxRecDepth 100000 in
set_option maxHeartbeats 8000000 in
theorem tlt_d (w : World) (hn : ss.length = n) (hc : Prs w A ss) (hm : us.length = m) (hc' : Ints w A' us) (hq : l.length = q) (hl : Trs w A3 l) (hf : fewB n m q = true) (hq2 : q ≤ 11) {R : List Int × List Tr} (hS : stO ss us l day = (R, 0)) (hd : d ≤ day) :
    Calls Try.prog 6 #[.slice A n cap, .slice A' m cap', .slice A3 q cap3, .int .i64 day, .agg #[.int .i64 k, .int .i64 f, .int .i64 t, .int .i64 u, .int .i64 mm, .int .i64 d, .int .i64 o, .int .i64 b], .int .u8 y] w fun e w' => e = .returned (.bool true) ∧ Below w.heap.size w w' := by
  obtain ⟨f1, f2, f3⟩ := fewB_in hf
  have HN := Lib.hid hn
  have HM := Lib.hid hm
  have HQ := Lib.hid hq
  have HF := Lib.hid hf
  have HS := Lib.hid hS
  have hqI : ((11 : Int) < (q : Int)) = False := eq_false (by omega)
  have hB : Below w.heap.size w (w.alloc (.cells #[.int .i64 k, .int .i64 f, .int .i64 t, .int .i64 u, .int .i64 mm, .int .i64 d, .int .i64 o, .int .i64 b] 26)) := Gen.b_alloc (Below.refl _ _)
  have hx : Row (w.alloc (.cells #[.int .i64 k, .int .i64 f, .int .i64 t, .int .i64 u, .int .i64 mm, .int .i64 d, .int .i64 o, .int .i64 b] 26)) w.heap.size 26 #[.int .i64 k, .int .i64 f, .int .i64 t, .int .i64 u, .int .i64 mm, .int .i64 d, .int .i64 o, .int .i64 b] := Row.new _ _ _
  replace hc := hc.keep hB
  replace hc' := hc'.keep hB
  replace hl := hl.keep hB
  clear hn hm hq hf hS
  go_enter Try.func6, Try.ntmps6
  go_wp2_with (fail)
  go_must (refine (small32_any _).mono ?_)
  rintro e w1 ⟨rfl, hb1⟩
  replace hB := Gen.over hb1 hB
  replace hc := hc.keep hb1
  replace hc' := hc'.keep hb1
  replace hl := hl.keep hb1
  replace hx := hx.keep hb1
  clear hb1
  go_wp2_with (fail)
  go_must (refine (tfew_is _ (by omega) (by omega) (by omega) HF.out).mono ?_)
  rintro e w2 ⟨rfl, rfl⟩
  go_wp2_with (fail)
  go_must (refine (settle_any _ HN.out hc (by omega) HM.out hc' (by omega) HQ.out hl (by omega) HS.out).mono ?_)
  rintro e w3 ⟨B1, c1, B2, c2, rfl, hb3, hu, ht⟩
  replace hB := Gen.over hb3 hB
  replace hc := hc.keep hb3
  replace hc' := hc'.keep hb3
  replace hl := hl.keep hb3
  replace hx := hx.keep hb3
  clear hb3
  have x5 := hx.cell 5
  go_wp2
  go_ret
  exact ⟨rfl, hB⟩
set_option maxRecDepth 100000 in
set_option maxHeartbeats 8000000 in
theorem tlt_e (w : World) (hn : ss.length = n) (hc : Prs w A ss) (hm : us.length = m) (hc' : Ints w A' us) (hq : l.length = q) (hl : Trs w A3 l) (hf : fewB n m q = true) (hq2 : q ≤ 11) {R : List Int × List Tr} (hS : stO ss us l day = (R, 0)) (hd : day < d) (hg : rtT ss [⟨k, f, t, u, mm, d, o, b⟩] = false) :
    Calls Try.prog 6 #[.slice A n cap, .slice A' m cap', .slice A3 q cap3, .int .i64 day, .agg #[.int .i64 k, .int .i64 f, .int .i64 t, .int .i64 u, .int .i64 mm, .int .i64 d, .int .i64 o, .int .i64 b], .int .u8 y] w fun e w' => e = .returned (.bool true) ∧ Below w.heap.size w w' := by
  obtain ⟨f1, f2, f3⟩ := fewB_in hf
  have HN := Lib.hid hn
  have HM := Lib.hid hm
  have HQ := Lib.hid hq
  have HF := Lib.hid hf
  have HS := Lib.hid hS
  have hqI : ((11 : Int) < (q : Int)) = False := eq_false (by omega)
  have HG := Lib.hid hg
  clear hg
  have hB : Below w.heap.size w (w.alloc (.cells #[.int .i64 k, .int .i64 f, .int .i64 t, .int .i64 u, .int .i64 mm, .int .i64 d, .int .i64 o, .int .i64 b] 26)) := Gen.b_alloc (Below.refl _ _)
  have hx : Row (w.alloc (.cells #[.int .i64 k, .int .i64 f, .int .i64 t, .int .i64 u, .int .i64 mm, .int .i64 d, .int .i64 o, .int .i64 b] 26)) w.heap.size 26 #[.int .i64 k, .int .i64 f, .int .i64 t, .int .i64 u, .int .i64 mm, .int .i64 d, .int .i64 o, .int .i64 b] := Row.new _ _ _
  replace hc := hc.keep hB
  replace hc' := hc'.keep hB
  replace hl := hl.keep hB
  clear hn hm hq hf hS
  go_enter Try.func6, Try.ntmps6
  go_wp2_with (fail)
  go_must (refine (small32_any _).mono ?_)
  rintro e w1 ⟨rfl, hb1⟩
  replace hB := Gen.over hb1 hB
  replace hc := hc.keep hb1
  replace hc' := hc'.keep hb1
  replace hl := hl.keep hb1
  replace hx := hx.keep hb1
  clear hb1
  go_wp2_with (fail)
  go_must (refine (tfew_is _ (by omega) (by omega) (by omega) HF.out).mono ?_)
  rintro e w2 ⟨rfl, rfl⟩
  go_wp2_with (fail)
  go_must (refine (settle_any _ HN.out hc (by omega) HM.out hc' (by omega) HQ.out hl (by omega) HS.out).mono ?_)
  rintro e w3 ⟨B1, c1, B2, c2, rfl, hb3, hu, ht⟩
  replace hB := Gen.over hb3 hB
  replace hc := hc.keep hb3
  replace hc' := hc'.keep hb3
  replace hl := hl.keep hb3
  replace hx := hx.keep hb3
  clear hb3
  have x0 := hx.cell 0
  have x1 := hx.cell 1
  have x2 := hx.cell 2
  have x3 := hx.cell 3
  have x4 := hx.cell 4
  have x5 := hx.cell 5
  have x6 := hx.cell 6
  have x7 := hx.cell 7
  go_wp2_with (fail)
  go_must (refine (tRight_is (l := [⟨k, f, t, u, mm, d, o, b⟩]) _ HN.out (hc.keep (Gen.b_alloc (Below.refl _ _))) (by omega) rfl (trs_box (Row.new _ _ _)) (by simp) HG.out).mono ?_)
  rintro e w9 ⟨rfl, hb9⟩
  replace hB := (hB.alloc hB.size _).trans (hb9.mono (by have := hB.size; simp; omega))
  go_wp2
  go_ret
  exact ⟨rfl, hB⟩
set_option maxRecDepth 100000 in
set_option maxHeartbeats 8000000 in
theorem tlt_f (w : World) (hn : ss.length = n) (hc : Prs w A ss) (hm : us.length = m) (hc' : Ints w A' us) (hq : l.length = q) (hl : Trs w A3 l) (hf : fewB n m q = true) (hq2 : q ≤ 11) (hq3 : q ≤ cap3) {R : List Int × List Tr} (hS : stO ss us l day = (R, 0)) (hd : day < d) (hg : rtT ss [⟨k, f, t, u, mm, d, o, b⟩] = true) (hy : (Lit.int .u8 y).wf = true) :
    Calls Try.prog 6 #[.slice A n cap, .slice A' m cap', .slice A3 q cap3, .int .i64 day, .agg #[.int .i64 k, .int .i64 f, .int .i64 t, .int .i64 u, .int .i64 mm, .int .i64 d, .int .i64 o, .int .i64 b], .int .u8 y] w fun e w' => e = .returned (.bool true) ∧ Below w.heap.size w w' := by
  obtain ⟨f1, f2, f3⟩ := fewB_in hf
  obtain ⟨u0, u1⟩ := u8_of hy
  obtain ⟨yn, rfl⟩ := Int.eq_ofNat_of_zero_le u0
  obtain ⟨kk, hkk⟩ : ∃ kk, yn % (q + 1) = kk := ⟨_, rfl⟩
  have hkq : kk ≤ q := by have := Nat.mod_lt yn (show 0 < q + 1 by omega); omega
  have hKT : (yn : Int).tmod ((q : Int) + 1) = (kk : Int) := by rw [show ((q : Int) + 1) = ((q + 1 : Nat) : Int) from by omega, ← Int.ofNat_tmod, hkk]
  obtain ⟨P, Q, rfl, hP⟩ : ∃ P Q, l = P ++ Q ∧ P.length = kk := ⟨l.take kk, l.drop kk, (List.take_append_drop kk l).symm, by rw [List.length_take]; omega⟩
  obtain ⟨hd0', hd1', hv, hr⟩ : 0 ≤ day ∧ day ≤ 200000 ∧ vd ss us = true ∧ rtT ss (P ++ Q) = true := by
    obtain ⟨_, _, _, _, _, a, b, c, e⟩ := settled (by omega) hS
    exact ⟨c, e, a, b⟩
  obtain ⟨U, P', Q', hP', hS1, hS2⟩ := later (t := ⟨k, f, t, u, mm, d, o, b⟩) hd0' (fun H => can_off (.inr hd)) (wt (P ++ Q)) P Q us (Nat.le_refl _)
  rw [hP] at hP'
  have hrm : rtT ss (P ++ ⟨k, f, t, u, mm, d, o, b⟩ :: Q) = true := rtT_on (rtT_in hr).1 (by rw [List.length_append, List.length_cons]; rw [List.length_append] at hq; omega) (fun z hz => by
    rw [List.mem_append, List.mem_cons] at hz
    rcases hz with h | h | h
    · exact (rtT_in hr).2.2 z (List.mem_append.2 (.inl h))
    · rw [h]; exact (rtT_in hg).2.2 _ (by simp)
    · exact (rtT_in hr).2.2 z (List.mem_append.2 (.inr h)))
  have hSm : stO ss us (P ++ ⟨k, f, t, u, mm, d, o, b⟩ :: Q) day = ((U, P' ++ ⟨k, f, t, u, mm, d, o, b⟩ :: Q'), 0) := stO_ok hv hrm hd0' hd1' hS2
  have hSr : stO ss us (P ++ Q) day = ((U, P' ++ Q'), 0) := stO_ok hv hr hd0' hd1' hS1
  have hS := hSr
  obtain ⟨p, hp⟩ : ∃ p, (P' ++ Q').length = p := ⟨_, rfl⟩
  obtain ⟨hp1, hp2⟩ := stO_len (by omega) (by omega) hS
  dsimp only at hp1 hp2
  rw [hp] at hp2
  have hkp : kk ≤ p := by rw [← hp, List.length_append]; omega
  have hmq : (P ++ ⟨k, f, t, u, mm, d, o, b⟩ :: Q).length = q + 1 := by rw [← hq]; simp; omega
  have hmp : (P' ++ ⟨k, f, t, u, mm, d, o, b⟩ :: Q').length = p + 1 := by rw [← hp]; simp; omega
  obtain ⟨i0, hi0, hz0, hz1, hz2⟩ := info_parts infoT
  have HP := Lib.hid hp
  have HMQ := Lib.hid hmq
  have HMP := Lib.hid hmp
  have HPK := Lib.hid hP
  have HPK' := Lib.hid hP'
  have HVV := Lib.hid hv
  have HRR := Lib.hid hr
  have HRM := Lib.hid hrm
  have HSM := Lib.hid hSm
  have HG := Lib.hid hg
  have HS3 := Lib.hid hq3
  have dy0 := hd0'
  have dy1 := hd1'
  clear hp hmq hmp hP hP' hv hr hrm hSm hSr hg hS1 hS2 hy hd0' hd1' hkk
  obtain ⟨f1, f2, f3⟩ := fewB_in hf
  have HN := Lib.hid hn
  have HM := Lib.hid hm
  have HQ := Lib.hid hq
  have HF := Lib.hid hf
  have HS := Lib.hid hS
  have hqI : ((11 : Int) < (q : Int)) = False := eq_false (by omega)
  have hB : Below w.heap.size w (w.alloc (.cells #[.int .i64 k, .int .i64 f, .int .i64 t, .int .i64 u, .int .i64 mm, .int .i64 d, .int .i64 o, .int .i64 b] 26)) := Gen.b_alloc (Below.refl _ _)
  have hx : Row (w.alloc (.cells #[.int .i64 k, .int .i64 f, .int .i64 t, .int .i64 u, .int .i64 mm, .int .i64 d, .int .i64 o, .int .i64 b] 26)) w.heap.size 26 #[.int .i64 k, .int .i64 f, .int .i64 t, .int .i64 u, .int .i64 mm, .int .i64 d, .int .i64 o, .int .i64 b] := Row.new _ _ _
  replace hc := hc.keep hB
  replace hc' := hc'.keep hB
  replace hl := hl.keep hB
  clear hn hm hq hf hS
  go_enter Try.func6, Try.ntmps6
  go_wp2_with (fail)
  go_must (refine (small32_any _).mono ?_)
  rintro e w1 ⟨rfl, hb1⟩
  replace hB := Gen.over hb1 hB
  replace hc := hc.keep hb1
  replace hc' := hc'.keep hb1
  replace hl := hl.keep hb1
  replace hx := hx.keep hb1
  clear hb1
  go_wp2_with (fail)
  go_must (refine (tfew_is _ (by omega) (by omega) (by omega) HF.out).mono ?_)
  rintro e w2 ⟨rfl, rfl⟩
  go_wp2_with (fail)
  go_must (refine (settle_dc _ HN.out hc (by omega) HM.out hc' (by omega) HQ.out hl (by omega) HVV.out HRR.out dy0 dy1 HS.out).mono ?_)
  rintro e w3 ⟨B1, c1, B2, c2, rfl, hb3, hu, ht, hcp⟩
  replace hB := Gen.over hb3 hB
  replace hc := hc.keep hb3
  replace hc' := hc'.keep hb3
  replace hl := hl.keep hb3
  replace hx := hx.keep hb3
  clear hb3
  dsimp only at hu ht hcp ⊢
  rw [HP.out] at hcp ⊢
  have x0 := hx.cell 0
  have x1 := hx.cell 1
  have x2 := hx.cell 2
  have x3 := hx.cell 3
  have x4 := hx.cell 4
  have x5 := hx.cell 5
  have x6 := hx.cell 6
  have x7 := hx.cell 7
  go_wp2_with (fail)
  go_must (refine (tRight_is (l := [⟨k, f, t, u, mm, d, o, b⟩]) _ HN.out (hc.keep (Gen.b_alloc (Below.refl _ _))) (by omega) rfl (trs_box (Row.new _ _ _)) (by simp) HG.out).mono ?_)
  rintro e w9 ⟨rfl, hb9⟩
  have hb10 : Below w3.heap.size w3 w9 := ((Below.refl _ _).alloc (Nat.le_refl _) _).trans (hb9.mono (by simp))
  replace hB := Gen.over hb10 hB
  replace hc := hc.keep hb10
  replace hc' := hc'.keep hb10
  replace hl := hl.keep hb10
  replace hx := hx.keep hb10
  replace hu := hu.keep hb10
  replace ht := ht.keep hb10
  clear hb9 hb10 x0 x1 x2 x3 x4 x5 x6 x7
  have h0 : (0 : Int) ≤ (kk : Int) := by omega
  have hk1 : (kk : Int) ≤ (q : Int) := by omega
  have hk2 : (kk : Int) ≤ (cap3 : Int) := by have := HS3.out; omega
  go_wp2
  have r1 := trs_reads HQ.out hl
  have rp := reads_pre r1 hkq
  have rq := r1.cut hkq HS3.out
  rw [← HPK.out, (flat_cut P Q).1, HPK.out] at rp
  rw [← HPK.out, (flat_cut P Q).2, HPK.out] at rq
  have N1 := Lib.hid (show kk + 1 ≤ maxLen from by simp only [maxLen]; omega)
  have N2 := Lib.hid (show (kk + 1) * 64 ≤ 140737488355328 from by omega)
  have N3 := Lib.hid (show 0 + kk ≤ maxLen from by simp only [maxLen]; omega)
  have N4 := Lib.hid (show (0 + kk) * 64 ≤ 140737488355328 from by omega)
  have N5 := Lib.hid (show kk + 1 + (q - kk) ≤ maxLen from by simp only [maxLen]; omega)
  have N6 := Lib.hid (show (kk + 1 + (q - kk)) * 64 ≤ 140737488355328 from by omega)
  have N7 := Lib.hid (show kk + (p + 1 - (kk + 1)) ≤ maxLen from by simp only [maxLen]; omega)
  have N8 := Lib.hid (show (kk + (p + 1 - (kk + 1))) * 64 ≤ 140737488355328 from by omega)
  have NP : kk + (p + 1 - (kk + 1)) = p := by omega
  have NQ : kk + 1 + (q - kk) = q + 1 := by omega
  have NM : p + 1 ≤ 37 := by omega
  have d0 := (show Row w9 w.heap.size 26 #[.int .i64 k, .int .i64 f, .int .i64 t, .int .i64 u, .int .i64 mm, .int .i64 d, .int .i64 o, .int .i64 b] from hx).cell 0
  have d1 := (show Row w9 w.heap.size 26 #[.int .i64 k, .int .i64 f, .int .i64 t, .int .i64 u, .int .i64 mm, .int .i64 d, .int .i64 o, .int .i64 b] from hx).cell 1
  have d2 := (show Row w9 w.heap.size 26 #[.int .i64 k, .int .i64 f, .int .i64 t, .int .i64 u, .int .i64 mm, .int .i64 d, .int .i64 o, .int .i64 b] from hx).cell 2
  have d3 := (show Row w9 w.heap.size 26 #[.int .i64 k, .int .i64 f, .int .i64 t, .int .i64 u, .int .i64 mm, .int .i64 d, .int .i64 o, .int .i64 b] from hx).cell 3
  have d4 := (show Row w9 w.heap.size 26 #[.int .i64 k, .int .i64 f, .int .i64 t, .int .i64 u, .int .i64 mm, .int .i64 d, .int .i64 o, .int .i64 b] from hx).cell 4
  have d5 := (show Row w9 w.heap.size 26 #[.int .i64 k, .int .i64 f, .int .i64 t, .int .i64 u, .int .i64 mm, .int .i64 d, .int .i64 o, .int .i64 b] from hx).cell 5
  have d6 := (show Row w9 w.heap.size 26 #[.int .i64 k, .int .i64 f, .int .i64 t, .int .i64 u, .int .i64 mm, .int .i64 d, .int .i64 o, .int .i64 b] from hx).cell 6
  have d7 := (show Row w9 w.heap.size 26 #[.int .i64 k, .int .i64 f, .int .i64 t, .int .i64 u, .int .i64 mm, .int .i64 d, .int .i64 o, .int .i64 b] from hx).cell 7
  have g0 := (show Row (w9.alloc (.cells #[] 26)) w.heap.size 26 #[.int .i64 k, .int .i64 f, .int .i64 t, .int .i64 u, .int .i64 mm, .int .i64 d, .int .i64 o, .int .i64 b] from hx.alloc _).cell 0
  have g1 := (show Row (w9.alloc (.cells #[] 26)) w.heap.size 26 #[.int .i64 k, .int .i64 f, .int .i64 t, .int .i64 u, .int .i64 mm, .int .i64 d, .int .i64 o, .int .i64 b] from hx.alloc _).cell 1
  have g2 := (show Row (w9.alloc (.cells #[] 26)) w.heap.size 26 #[.int .i64 k, .int .i64 f, .int .i64 t, .int .i64 u, .int .i64 mm, .int .i64 d, .int .i64 o, .int .i64 b] from hx.alloc _).cell 2
  have g3 := (show Row (w9.alloc (.cells #[] 26)) w.heap.size 26 #[.int .i64 k, .int .i64 f, .int .i64 t, .int .i64 u, .int .i64 mm, .int .i64 d, .int .i64 o, .int .i64 b] from hx.alloc _).cell 3
  have g4 := (show Row (w9.alloc (.cells #[] 26)) w.heap.size 26 #[.int .i64 k, .int .i64 f, .int .i64 t, .int .i64 u, .int .i64 mm, .int .i64 d, .int .i64 o, .int .i64 b] from hx.alloc _).cell 4
  have g5 := (show Row (w9.alloc (.cells #[] 26)) w.heap.size 26 #[.int .i64 k, .int .i64 f, .int .i64 t, .int .i64 u, .int .i64 mm, .int .i64 d, .int .i64 o, .int .i64 b] from hx.alloc _).cell 5
  have g6 := (show Row (w9.alloc (.cells #[] 26)) w.heap.size 26 #[.int .i64 k, .int .i64 f, .int .i64 t, .int .i64 u, .int .i64 mm, .int .i64 d, .int .i64 o, .int .i64 b] from hx.alloc _).cell 6
  have g7 := (show Row (w9.alloc (.cells #[] 26)) w.heap.size 26 #[.int .i64 k, .int .i64 f, .int .i64 t, .int .i64 u, .int .i64 mm, .int .i64 d, .int .i64 o, .int .i64 b] from hx.alloc _).cell 7
  go_cut [18] (fun c wx => ∃ A5 c5, c = .slice A5 (q + 1) c5 ∧ Below w9.heap.size w9 wx ∧ Trs wx A5 (P ++ ⟨k, f, t, u, mm, d, o, b⟩ :: Q))
  case first =>
    by_cases hck : cap3 = kk
    all_goals
      first | rw [if_pos hck] at rq | rw [if_neg hck] at rq
      first | (have hcp3 : (cap3 = kk) = True := eq_true hck) | (have hcp3 : (cap3 = kk) = False := eq_false hck)
      clear hck
      go_region_law (first
        | (refine App.step_append_any _ (by rfl) (.tmp 66) (.tmp 69) 24 (by rfl) w9.heap.size 26 i0 _ 8 64 Try.underlying24 hi0 hz0 hz1 hz2 rfl (by omega) (.slice (some ⟨w9.heap.size, 0, none⟩) 0 0) 0 [] (by simp [Act.eval, Act.put]) (Gen.own_keep (blk0 w9 26 8) (Below.refl _ _).drew) w9.heap.size _ kk cap3 (P.flatMap tcs) (by simp [Act.eval, Act.put]) (rp.alloc (Nat.le_refl _) _).drew (tcs_one P) N3.out N4.out (by first | (simp; done) | (simp only [World.size_alloc, World.size_drew]; omega)) ?_; intro v2 w7 hown7 hg7 hat7; rw [List.nil_append, Nat.zero_add] at hown7; have hb7 : Below w9.heap.size w9 w7 := Gen.g_below ((Gen.own_keep (blk0 w9 26 8) (Below.refl _ _).drew)) hg7 ((Gen.b_alloc (Below.refl _ _)).drew) (by omega); have hx7 := hx.keep hb7; have e0 := hx7.cell 0; have e1 := hx7.cell 1; have e2 := hx7.cell 2; have e3 := hx7.cell 3; have e4 := hx7.cell 4; have e5 := hx7.cell 5; have e6 := hx7.cell 6; have e7 := hx7.cell 7; have hs7 : w9.heap.size + 1 ≤ w7.heap.size := (by have := hg7.size; simp at this; omega))
        | (refine App.step_append_any _ (by rfl) (.tmp 66) (.tmp 69) 24 (by rfl) w9.heap.size 26 i0 _ 8 64 Try.underlying24 hi0 hz0 hz1 hz2 rfl (by omega) (.slice (some ⟨w9.heap.size, 0, none⟩) 0 0) 0 [] (by simp [Act.eval, Act.put]) (Gen.own_keep (Gen.own_keep (blk0 w9 26 8) (Gen.b_alloc (x := (.cells #[.int .i64 k, .int .i64 f, .int .i64 t, .int .i64 u, .int .i64 mm, .int .i64 d, .int .i64 o, .int .i64 b] 26)) (Below.refl _ _))) (Below.refl _ _).drew) w9.heap.size _ kk cap3 (P.flatMap tcs) (by simp [Act.eval, Act.put]) ((rp.alloc (Nat.le_refl _) _).alloc (by simp) _).drew (tcs_one P) N3.out N4.out (by first | (simp; done) | (simp only [World.size_alloc, World.size_drew]; omega)) ?_; intro v2 w7 hown7 hg7 hat7; rw [List.nil_append, Nat.zero_add] at hown7; have hb7 : Below w9.heap.size w9 w7 := Gen.g_below ((Gen.own_keep (Gen.own_keep (blk0 w9 26 8) (Gen.b_alloc (x := (.cells #[.int .i64 k, .int .i64 f, .int .i64 t, .int .i64 u, .int .i64 mm, .int .i64 d, .int .i64 o, .int .i64 b] 26)) (Below.refl _ _))) (Below.refl _ _).drew)) hg7 ((Gen.b_alloc (Gen.b_alloc (Below.refl _ _))).drew) (by omega); have hx7 := hx.keep hb7; have e0 := hx7.cell 0; have e1 := hx7.cell 1; have e2 := hx7.cell 2; have e3 := hx7.cell 3; have e4 := hx7.cell 4; have e5 := hx7.cell 5; have e6 := hx7.cell 6; have e7 := hx7.cell 7; have hRB := App.Reads.of_own ((Gen.own_keep (blk1A w9 (.cells #[] 26) 26 #[.int .i64 k, .int .i64 f, .int .i64 t, .int .i64 u, .int .i64 mm, .int .i64 d, .int .i64 o, .int .i64 b] rfl) (Below.refl _ _).drew).kept hg7 (.inr (fun c => absurd (Option.some.inj (show some (w9.heap.size + 1) = some w9.heap.size from c)) (by omega)))); have hs7 : w9.heap.size + 1 ≤ w7.heap.size := (by have := hg7.size; simp at this; omega))
        | (refine App.step_append_any _ (by rfl) (.tmp 66) (.tmp 69) 24 (by rfl) (w9.heap.size + 1) 26 i0 _ 8 64 Try.underlying24 hi0 hz0 hz1 hz2 rfl (by omega) (.slice (some ⟨(w9.heap.size + 1), 0, none⟩) 0 0) 0 [] (by simp [Act.eval, Act.put]) (Gen.own_keep (blk0A w9 (.cells #[.int .i64 k, .int .i64 f, .int .i64 t, .int .i64 u, .int .i64 mm, .int .i64 d, .int .i64 o, .int .i64 b] 26) 26 8) (Below.refl _ _).drew) w9.heap.size _ kk cap3 (P.flatMap tcs) (by simp [Act.eval, Act.put]) ((rp.alloc (Nat.le_refl _) _).alloc (by simp) _).drew (tcs_one P) N3.out N4.out (by first | (simp; done) | (simp only [World.size_alloc, World.size_drew]; omega)) ?_; intro v2 w7 hown7 hg7 hat7; rw [List.nil_append, Nat.zero_add] at hown7; have hb7 : Below w9.heap.size w9 w7 := Gen.g_below ((Gen.own_keep (blk0A w9 (.cells #[.int .i64 k, .int .i64 f, .int .i64 t, .int .i64 u, .int .i64 mm, .int .i64 d, .int .i64 o, .int .i64 b] 26) 26 8) (Below.refl _ _).drew)) hg7 ((Gen.b_alloc (Gen.b_alloc (Below.refl _ _))).drew) (by omega); have hx7 := hx.keep hb7; have e0 := hx7.cell 0; have e1 := hx7.cell 1; have e2 := hx7.cell 2; have e3 := hx7.cell 3; have e4 := hx7.cell 4; have e5 := hx7.cell 5; have e6 := hx7.cell 6; have e7 := hx7.cell 7; have hRB := App.Reads.of_own ((Gen.own_keep (Gen.own_keep (blk1 w9 26 #[.int .i64 k, .int .i64 f, .int .i64 t, .int .i64 u, .int .i64 mm, .int .i64 d, .int .i64 o, .int .i64 b] rfl) (Gen.b_alloc (Below.refl _ _))) (Below.refl _ _).drew).kept hg7 (.inr (fun c => absurd (Option.some.inj (show some w9.heap.size = some (w9.heap.size + 1) from c)) (by omega)))); have hs7 : w9.heap.size + 1 ≤ w7.heap.size := (by have := hg7.size; simp at this; omega))
        | (refine App.step_append_any _ (by rfl) (.tmp 70) (.tmp 72) 24 (by rfl) w9.heap.size 26 i0 _ 8 64 Try.underlying24 hi0 hz0 hz1 hz2 rfl (by omega) v2 kk (P.flatMap tcs) (by simp [Act.eval, Act.put]) (Gen.own_keep hown7 (Gen.b_alloc (Below.refl _ _))) _ (some ⟨w7.heap.size, 0, none⟩) 1 1 (tcs ⟨k, f, t, u, mm, d, o, b⟩) (by simp [Act.eval, Act.put]) (Gen.reads_blk rfl rfl) (by simp [tcs, Value.oneCell']) N1.out N2.out (by simp; have := hs7; omega) ?_; intro v3 w8 hown8 hg8 hat8; have hb8 : Below w9.heap.size w9 w8 := Gen.g_below hown7 hg8 (hb7.alloc hb7.size _) (by omega); have hF8 := own_base hown8 (show w9.heap.size ≤ _ from by omega); have rq8 := rq.below hb8; have hs8 := hb8.size)
        | (refine App.step_append_any _ (by rfl) (.tmp 70) (.tmp 72) 24 (by rfl) w9.heap.size 26 i0 _ 8 64 Try.underlying24 hi0 hz0 hz1 hz2 rfl (by omega) v2 kk (P.flatMap tcs) (by simp [Act.eval, Act.put]) hown7 _ (some ⟨w9.heap.size + 1, 0, none⟩) 1 1 (tcs ⟨k, f, t, u, mm, d, o, b⟩) (by simp [Act.eval, Act.put]) hRB (by simp [tcs, Value.oneCell']) N1.out N2.out (by have := hs7; omega) ?_; intro v3 w8 hown8 hg8 hat8; have hb8 : Below w9.heap.size w9 w8 := Gen.g_below hown7 hg8 (hb7) (by omega); have hF8 := own_base hown8 (show w9.heap.size ≤ _ from by omega); have rq8 := rq.below hb8; have hs8 := hb8.size)
        | (refine App.step_append_any _ (by rfl) (.tmp 70) (.tmp 72) 24 (by rfl) (w9.heap.size + 1) 26 i0 _ 8 64 Try.underlying24 hi0 hz0 hz1 hz2 rfl (by omega) v2 kk (P.flatMap tcs) (by simp [Act.eval, Act.put]) hown7 _ (some ⟨w9.heap.size, 0, none⟩) 1 1 (tcs ⟨k, f, t, u, mm, d, o, b⟩) (by simp [Act.eval, Act.put]) hRB (by simp [tcs, Value.oneCell']) N1.out N2.out (by have := hs7; omega) ?_; intro v3 w8 hown8 hg8 hat8; have hb8 : Below w9.heap.size w9 w8 := Gen.g_below hown7 hg8 (hb7) (by omega); have hF8 := own_base hown8 (show w9.heap.size ≤ _ from by omega); have rq8 := rq.below hb8; have hs8 := hb8.size)
        | (refine App.step_append_any _ (by rfl) (.tmp 73) (.tmp 76) 24 (by rfl) w9.heap.size 26 i0 _ 8 64 Try.underlying24 hi0 hz0 hz1 hz2 rfl (by omega) v3 (kk + 1) (P.flatMap tcs ++ tcs ⟨k, f, t, u, mm, d, o, b⟩) (by simp [Act.eval, Act.put]) hF8 w9.heap.size _ (q - kk) (cap3 - kk) (Q.flatMap tcs) (by simp [Act.eval, Act.put]) rq8 (tcs_one Q) N5.out N6.out (by have := hs8; omega) ?_; intro v4 w5 hown5 hg5 hat5; have hb5 : Below w9.heap.size w9 w5 := Gen.g_below hF8 hg5 hb8 (Nat.le_refl _)))
      all_goals
        rw [NQ] at hown5
        obtain ⟨A5, c5, rfl, _⟩ := Gen.own_slice hown5
        have hm5 : Trs w5 A5 (P ++ ⟨k, f, t, u, mm, d, o, b⟩ :: Q) := trs_own (n := q + 1) HMQ.out (by rw [List.flatMap_append, List.flatMap_cons, ← List.append_assoc]; exact hown5)
        clear hown5 hg5 hat5
        go_wp2
        go_meet
        exact ⟨_, _, rfl, hb5, hm5⟩
  case rest =>
    obtain ⟨A5, c5, rfl, hb5, hm5⟩ := hcut
    replace hB := Gen.over hb5 hB
    replace hc := hc.keep hb5
    replace hc' := hc'.keep hb5
    replace hx := hx.keep hb5
    replace hu := hu.keep hb5
    replace ht := ht.keep hb5
    clear hb5 r1 rp rq
    go_wp2_with (fail)
    go_must (refine (settle_dc _ HN.out hc (by omega) HM.out hc' (by omega) HMQ.out hm5 (by omega) HVV.out HRM.out dy0 dy1 HSM.out).mono ?_)
    rintro e w10 ⟨C1, e1, C2, e2, rfl, hb10, hv, hw, hcq⟩
    dsimp only at hv hw hcq ⊢
    rw [HMP.out] at hcq ⊢
    replace hB := Gen.over hb10 hB
    replace hx := hx.keep hb10
    replace hu := hu.keep hb10
    replace ht := ht.keep hb10
    have rN := trs_reads HMP.out hw
    have rp' := reads_pre rN (show kk ≤ p + 1 by omega)
    have rq' := rN.cut (show kk + 1 ≤ p + 1 by omega) hcq
    rw [← HPK'.out, (flat_cut P' _).1, HPK'.out] at rp'
    rw [show P' ++ ⟨k, f, t, u, mm, d, o, b⟩ :: Q' = (P' ++ [(⟨k, f, t, u, mm, d, o, b⟩ : Tr)]) ++ Q' from by simp, show kk + 1 = (P' ++ [(⟨k, f, t, u, mm, d, o, b⟩ : Tr)]).length from by simp [HPK'.out], (flat_cut (P' ++ [(⟨k, f, t, u, mm, d, o, b⟩ : Tr)]) Q').2, show (P' ++ [(⟨k, f, t, u, mm, d, o, b⟩ : Tr)]).length = kk + 1 from by simp [HPK'.out]] at rq'
    have hk3 : (kk : Int) + 1 ≤ (p : Int) + 1 := by omega
    have hk4 : (kk : Int) ≤ (e2 : Int) := by omega
    have hwk : IntKind.i64.wrap ((kk : Int) + 1) = (kk : Int) + 1 := IntWalk.i64_in _ (by omega)
    have hk6 : (0 : Int) ≤ (kk : Int) + 1 := by omega
    have hk7 : ((kk : Int) + 1).toNat = kk + 1 := by omega
    have hk5 : (kk : Int) ≤ (p : Int) := by omega
    clear hb10 hm5
    go_wp2
    go_cut [22] (fun c wx => ∃ A6 c6, c = .slice A6 p c6 ∧ Below w10.heap.size w10 wx ∧ Trs wx A6 (P' ++ Q'))
    case first =>
      by_cases hck : e2 = kk + 1
      all_goals
        first | rw [if_pos hck] at rq' | rw [if_neg hck] at rq'
        first | (have hcp4 : (e2 = kk + 1) = True := eq_true hck) | (have hcp4 : (e2 = kk + 1) = False := eq_false hck)
        clear hck
        go_region_law (first
          | (refine App.step_append_any _ (by rfl) (.tmp 97) (.tmp 100) 24 (by rfl) w10.heap.size 26 i0 _ 8 64 Try.underlying24 hi0 hz0 hz1 hz2 rfl (by omega) (.slice (some ⟨w10.heap.size, 0, none⟩) 0 0) 0 [] (by simp [Act.eval, Act.put]) (Gen.own_keep (blk0 w10 26 8) (Below.refl _ _).drew) w10.heap.size _ kk e2 (P'.flatMap tcs) (by simp [Act.eval, Act.put]) (rp'.alloc (Nat.le_refl _) _).drew (tcs_one P') N3.out N4.out (by first | (simp; done) | (simp only [World.size_alloc, World.size_drew]; omega)) ?_; intro v5 w11 hown11 hg11 hat11; rw [List.nil_append, Nat.zero_add] at hown11; have hb11 : Below w10.heap.size w10 w11 := Gen.g_below (Gen.own_keep (blk0 w10 26 8) (Below.refl _ _).drew) hg11 ((Gen.b_alloc (Below.refl _ _)).drew) (by omega); have rq11 := rq'.below hb11; have hs11 := hb11.size)
          | (refine App.step_append_any _ (by rfl) (.tmp 101) (.tmp 105) 24 (by rfl) w10.heap.size 26 i0 _ 8 64 Try.underlying24 hi0 hz0 hz1 hz2 rfl (by omega) v5 kk (P'.flatMap tcs) (by simp [Act.eval, Act.put]) hown11 w10.heap.size _ (p + 1 - (kk + 1)) (e2 - (kk + 1)) (Q'.flatMap tcs) (by simp [Act.eval, Act.put]) rq11 (tcs_one Q') N7.out N8.out (by have := hs11; omega) ?_; intro v6 w12 hown12 hg12 hat12; have hb12 : Below w10.heap.size w10 w12 := Gen.g_below hown11 hg12 hb11 (Nat.le_refl _)))
        all_goals
          rw [NP] at hown12
          obtain ⟨A6, c6, rfl, _⟩ := Gen.own_slice hown12
          have hr12 : Trs w12 A6 (P' ++ Q') := trs_own (n := p) HP.out (by rw [List.flatMap_append]; exact hown12)
          clear hown12 hg12 hat12
          go_wp2
          go_meet
          exact ⟨_, _, rfl, hb12, hr12⟩
    case rest =>
      obtain ⟨A6, c6, rfl, hb12, hr12⟩ := hcut
      replace hB := Gen.over hb12 hB
      replace hx := hx.keep hb12
      replace hu := hu.keep hb12
      replace ht := ht.keep hb12
      replace hv := hv.keep hb12
      replace hw := hw.keep hb12
      obtain ⟨bw, ow, rfl, hwc⟩ := hw (by rw [HMP.out]; omega)
      obtain ⟨j0, j1, j2, j3, j4, j5, j6, j7⟩ := hwc kk ⟨k, f, t, u, mm, d, o, b⟩ (by rw [List.getElem?_append_right (by rw [HPK'.out]; exact Nat.le_refl _), HPK'.out, Nat.sub_self]; rfl)
      dsimp only at j0 j1 j2 j3 j4 j5 j6 j7
      clear hwc hb12 rN rp' rq'
      have hk8 : (kk : Int) < (p : Int) + 1 := by omega
      obtain ⟨wc2, rfl⟩ : ∃ w' : World, w' = wc := ⟨_, rfl⟩
      go_wp2
      go_region_law (first
        | (go_simp; go_at_call 19; refine (ints_is _ rfl (hu.keep (Below.refl _ _).drew) (by omega) rfl (hv.keep (Below.refl _ _).drew) (by omega) rfl).mono ?_; rintro e wA ⟨rfl, hbA⟩; have hbA' : Below wc2.heap.size wc2 wA := (Below.refl _ _).drew.trans hbA; have i0A := Gen.keep hbA' j0; have i1A := Gen.keep hbA' j1; have i2A := Gen.keep hbA' j2; have i3A := Gen.keep hbA' j3; have i4A := Gen.keep hbA' j4; have i5A := Gen.keep hbA' j5; have i6A := Gen.keep hbA' j6; have i7A := Gen.keep hbA' j7; have hxA := hx.keep hbA'; have x0A := hxA.cell 0; have x1A := hxA.cell 1; have x2A := hxA.cell 2; have x3A := hxA.cell 3; have x4A := hxA.cell 4; have x5A := hxA.cell 5; have x6A := hxA.cell 6; have x7A := hxA.cell 7)
        | (go_simp; go_at_call 18; refine (tsame_is _ HP.out (ht.keep hbA') (by omega) HP.out (hr12.keep hbA') (by omega) rfl).mono ?_; rintro e wB ⟨rfl, hbB⟩; have hbB' := Gen.over hbB hbA'))
      all_goals
        go_wp2
        go_ret
        exact ⟨rfl, Gen.over hbB' hB⟩
theorem tlt_any (w : World) (x : Tr) (hc : Prs w A ss) (hc' : Ints w A' us) (hl : Trs w A3 l) (hcap : l.length ≤ cap3) (hn : ss.length ≤ 9223372036854775807) (hm : us.length ≤ 9223372036854775807) (hq : l.length ≤ 9223372036854775807) (hy : (Lit.int .u8 y).wf = true) :
    Calls Try.prog 6 #[.slice A ss.length cap, .slice A' us.length cap', .slice A3 l.length cap3, .int .i64 day, .agg (tcs x).toArray, .int .u8 y] w fun e w' => e = .returned (.bool true) ∧ Below w.heap.size w w' := by
  obtain ⟨k, f, t, u, mm, d, o, b⟩ := x
  cases hf : fewB ss.length us.length l.length
  · exact tlt_a w hn hm hq hf
  by_cases hq2 : 11 < l.length
  · exact tlt_b w hn hm hq hf hq2
  obtain ⟨R, E, hS⟩ : ∃ R E, stO ss us l day = (R, E) := ⟨_, _, rfl⟩
  by_cases hE : E = 0
  · subst hE
    by_cases hd : day < d
    · cases hg : rtT ss [⟨k, f, t, u, mm, d, o, b⟩]
      · exact tlt_e w rfl hc rfl hc' rfl hl hf (by omega) hS hd hg
      · exact tlt_f w rfl hc rfl hc' rfl hl hf (by omega) hcap hS hd hg hy
    · exact tlt_d w rfl hc rfl hc' rfl hl hf (by omega) hS (Int.not_lt.1 hd)
  · exact tlt_c w rfl hc rfl hc' rfl hl hf (by omega) hS (by rw [bne_iff_ne]; exact hE)
end
end Go.Proofs.Ytpekedhcnijgcaa.Book
