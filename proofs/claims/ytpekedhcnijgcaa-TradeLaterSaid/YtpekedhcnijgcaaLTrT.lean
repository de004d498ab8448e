/- TradeTells returns true: every list of seats, units and trades, trade, and day; no condition. -/
import Derived.Test.YtpekedhcnijgcaaTrdN
import Derived.Test.YtpekedhcnijgcaaTrdI
import Derived.Test.YtpekedhcnijgcaaTrdE
namespace Go.Proofs.Ytpekedhcnijgcaa.Book
open Go.ChangeShapes Go.WideShapes Go.ChangeAt Go.RowKit Go.Proofs.Ytpekedhcnijgcaa.Cell
set_option linter.unusedVariables false
set_option linter.unusedSimpArgs false

section
variable {A : Option Addr} {n cap : Nat} {ss : List (Int × Int)} {A' : Option Addr} {m cap' : Nat} {us : List Int} {A3 : Option Addr} {q cap3 : Nat} {l : List Tr} {day : Int} {R : List Int × List Tr} {E : Int}
theorem rsettle_any (w : World) (hn : ss.length = n) (hc : Prs w A ss) (hbig : n ≤ 1000000) (hm : us.length = m) (hc' : Ints w A' us) (hbig' : m ≤ 1000000) (hq : l.length = q) (hl : Trs w A3 l) (hq12 : q ≤ 30) (h : stO ss us l day = (R, E)) :
    Calls Try.prog 17 #[.slice A n cap, .slice A' m cap', .slice A3 q cap3, .int .i64 day] w (StPost R E w) := by
  cases hv : vd ss us
  · exact rsettle_a w hn hc hbig hm hc' hbig' hq hl (by omega) hv h
  cases hr : rtT ss l
  · exact rsettle_b w hn hc hbig hm hc' hbig' hq hl (by omega) hv hr h
  by_cases hd : 0 ≤ day ∧ day ≤ 200000
  · exact rsettle_d w hn hc hbig hm hc' hbig' hq hl hq12 hv hr hd.1 hd.2 h
  · exact rsettle_c w hn hc hbig hm hc' hbig' hq hl (by omega) hv hr hd h
theorem stO_len (hq : l.length ≤ 12) (hu : us.length ≤ 10) (h : stO ss us l day = (R, E)) : R.1.length ≤ 10 ∧ R.2.length ≤ 36 := by
  by_cases hE : E = 0
  · subst hE
    obtain ⟨_, h1, _, _, h2, h3, _⟩ := settled hq h
    have a := (vd_in h1).2.1
    have b := (vd_in h3).2.1
    exact ⟨by omega, h2⟩
  · unfold stO at h
    split at h
    · injection h with _ h; exact absurd h.symm hE
    · injection h with h _; rw [← h]; simp
theorem adT_len {x : Tr} {M : List Tr} (h : adT ss l x = (M, E)) : M.length ≤ l.length + 1 := by
  unfold adT at h
  split at h
  · split at h
    · injection h with h _; rw [← h]; simp
    · injection h with h _; rw [← h]; simp
  · injection h with h _; rw [← h]; simp
end
section
variable {A A' A3 : Option Addr} {n cap m cap' q cap3 : Nat} {ss : List (Int × Int)} {us : List Int} {l : List Tr} {k f t u mm d o b day : Int}
set_option maxRecDepth 100000 in
set_option maxHeartbeats 1000000 in
theorem ttl_a (w : World) (hn : n ≤ 9223372036854775807) (hm : m ≤ 9223372036854775807) (hq : q ≤ 9223372036854775807) (h : fewB n m q = false) :
    Calls Try.prog 3 #[.slice A n cap, .slice A' m cap', .slice A3 q cap3, .agg #[.int .i64 k, .int .i64 f, .int .i64 t, .int .i64 u, .int .i64 mm, .int .i64 d, .int .i64 o, .int .i64 b], .int .i64 day] w fun e w' => e = .returned (.bool true) ∧ Below w.heap.size w w' := by
  have HF := Lib.hid h
  have hB0 : Below w.heap.size w (w.alloc (.cells #[.int .i64 k, .int .i64 f, .int .i64 t, .int .i64 u, .int .i64 mm, .int .i64 d, .int .i64 o, .int .i64 b] 26)) := Gen.b_alloc (Below.refl _ _)
  clear h
  go_enter Try.func3, Try.ntmps3
  go_wp2_with (fail)
  go_must (refine (small32_any _).mono ?_)
  rintro e w1 ⟨rfl, hb⟩
  have hB1 := Gen.over hb hB0
  go_wp2_with (fail)
  go_must (refine (tfew_is _ hn hm hq HF.out).mono ?_)
  rintro e w2 ⟨rfl, rfl⟩
  go_wp2
  go_ret
  exact ⟨rfl, hB1⟩
set_option maxRecDepth 100000 in
set_option maxHeartbeats 8000000 in
theorem ttl_b (w : World) (hn : ss.length = n) (hc : Prs w A ss) (hm : us.length = m) (hc' : Ints w A' us) (hq : l.length = q) (hl : Trs w A3 l) (hf : fewB n m q = true) :
    Calls Try.prog 3 #[.slice A n cap, .slice A' m cap', .slice A3 q cap3, .agg #[.int .i64 k, .int .i64 f, .int .i64 t, .int .i64 u, .int .i64 mm, .int .i64 d, .int .i64 o, .int .i64 b], .int .i64 day] w fun e w' => e = .returned (.bool true) ∧ Below w.heap.size w w' := by
  obtain ⟨f1, f2, f3⟩ := fewB_in hf
  obtain ⟨M, E, hA⟩ : ∃ M E, adT ss l ⟨k, f, t, u, mm, d, o, b⟩ = (M, E) := ⟨_, _, rfl⟩
  obtain ⟨R, F, hS⟩ : ∃ R F, stO ss us l day = (R, F) := ⟨_, _, rfl⟩
  obtain ⟨g, hg⟩ : ∃ g, rtT ss l = g := ⟨_, rfl⟩
  have hM := adT_len hA
  obtain ⟨hR1, hR2⟩ := stO_len (by omega) (by omega) hS
  have hO := opL_len day l q
  rw [hq] at hM
  have HN := Lib.hid hn
  have HM := Lib.hid hm
  have HQ := Lib.hid hq
  have HF := Lib.hid hf
  have HA := Lib.hid hA
  have HS := Lib.hid hS
  have HG := Lib.hid hg
  have hB : Below w.heap.size w (w.alloc (.cells #[.int .i64 k, .int .i64 f, .int .i64 t, .int .i64 u, .int .i64 mm, .int .i64 d, .int .i64 o, .int .i64 b] 26)) := Gen.b_alloc (Below.refl _ _)
  have hx : Row (w.alloc (.cells #[.int .i64 k, .int .i64 f, .int .i64 t, .int .i64 u, .int .i64 mm, .int .i64 d, .int .i64 o, .int .i64 b] 26)) w.heap.size 26 #[.int .i64 k, .int .i64 f, .int .i64 t, .int .i64 u, .int .i64 mm, .int .i64 d, .int .i64 o, .int .i64 b] := Row.new _ _ _
  replace hc := hc.keep hB
  replace hc' := hc'.keep hB
  replace hl := hl.keep hB
  clear hn hm hq hf hA hS hg
  go_enter Try.func3, Try.ntmps3
  go_wp2_with (fail)
  go_must (refine (small32_any _).mono ?_)
  rintro e w1 ⟨rfl, hb1⟩
  replace hB := Gen.over hb1 hB
  replace hc := hc.keep hb1
  replace hc' := hc'.keep hb1
  replace hl := hl.keep hb1
  replace hx := hx.keep hb1
  clear hb1
  go_wp2_with (fail)
  go_must (refine (tfew_is _ (by omega) (by omega) (by omega) HF.out).mono ?_)
  rintro e w2 ⟨rfl, rfl⟩
  have d0 := hx.cell 0
  have d1 := hx.cell 1
  have d2 := hx.cell 2
  have d3 := hx.cell 3
  have d4 := hx.cell 4
  have d5 := hx.cell 5
  have d6 := hx.cell 6
  have d7 := hx.cell 7
  go_wp2_with (fail)
  go_must (refine (tadd_any ⟨k, f, t, u, mm, d, o, b⟩ _ _ _ ss _ _ _ l M E _ HN.out hc (by omega) HQ.out hl (by omega) HA.out).mono ?_)
  rintro e w3 ⟨B1, c1, rfl, hb3, ha⟩
  replace hB := Gen.over hb3 hB
  replace hc := hc.keep hb3
  replace hc' := hc'.keep hb3
  replace hl := hl.keep hb3
  replace hx := hx.keep hb3
  clear d0 d1 d2 d3 d4 d5 d6 d7
  clear hb3
  have d0 := hx.cell 0
  have d1 := hx.cell 1
  have d2 := hx.cell 2
  have d3 := hx.cell 3
  have d4 := hx.cell 4
  have d5 := hx.cell 5
  have d6 := hx.cell 6
  have d7 := hx.cell 7
  go_wp2_with (fail)
  go_must (refine (radd_any ⟨k, f, t, u, mm, d, o, b⟩ _ _ _ ss _ _ _ l M E _ HN.out hc (by omega) HQ.out hl (by omega) HA.out).mono ?_)
  rintro e w4 ⟨B2, c2, rfl, hb4, hb⟩
  replace hB := Gen.over hb4 hB
  replace hc := hc.keep hb4
  replace hc' := hc'.keep hb4
  replace hl := hl.keep hb4
  replace hx := hx.keep hb4
  replace ha := ha.keep hb4
  clear d0 d1 d2 d3 d4 d5 d6 d7
  clear hb4
  go_wp2_with (fail)
  go_must (refine (settle_any _ HN.out hc (by omega) HM.out hc' (by omega) HQ.out hl (by omega) HS.out).mono ?_)
  rintro e w5 ⟨B3, c3, B4, c4, rfl, hb5, hu, ht⟩
  replace hB := Gen.over hb5 hB
  replace hc := hc.keep hb5
  replace hc' := hc'.keep hb5
  replace hl := hl.keep hb5
  replace ha := ha.keep hb5
  replace hb := hb.keep hb5
  clear hb5
  go_wp2_with (fail)
  go_must (refine (rsettle_any _ HN.out hc (by omega) HM.out hc' (by omega) HQ.out hl (by omega) HS.out).mono ?_)
  rintro e w6 ⟨B5, c5, B6, c6, rfl, hb6, hv, hw⟩
  replace hB := Gen.over hb6 hB
  replace hc := hc.keep hb6
  replace hc' := hc'.keep hb6
  replace hl := hl.keep hb6
  replace ha := ha.keep hb6
  replace hb := hb.keep hb6
  replace hu := hu.keep hb6
  replace ht := ht.keep hb6
  clear hb6
  go_wp2_with (fail)
  go_must (refine (tsame_is _ rfl ha (by omega) rfl hb (by omega) rfl).mono ?_)
  rintro e w7 ⟨rfl, hb7⟩
  replace hB := Gen.over hb7 hB
  replace hc := hc.keep hb7
  replace hc' := hc'.keep hb7
  replace hl := hl.keep hb7
  replace ha := ha.keep hb7
  replace hb := hb.keep hb7
  replace hu := hu.keep hb7
  replace ht := ht.keep hb7
  replace hv := hv.keep hb7
  replace hw := hw.keep hb7
  clear hb7
  go_wp2_with (fail)
  go_must (refine (ints_is _ rfl hu (by omega) rfl hv (by omega) rfl).mono ?_)
  rintro e w8 ⟨rfl, hb8⟩
  replace hB := Gen.over hb8 hB
  replace hc := hc.keep hb8
  replace hc' := hc'.keep hb8
  replace hl := hl.keep hb8
  replace hu := hu.keep hb8
  replace ht := ht.keep hb8
  replace hv := hv.keep hb8
  replace hw := hw.keep hb8
  clear hb8
  go_wp2_with (fail)
  go_must (refine (tsame_is _ rfl ht (by omega) rfl hw (by omega) rfl).mono ?_)
  rintro e w9 ⟨rfl, hb9⟩
  replace hB := Gen.over hb9 hB
  replace hc := hc.keep hb9
  replace hc' := hc'.keep hb9
  replace hl := hl.keep hb9
  replace ht := ht.keep hb9
  replace hw := hw.keep hb9
  clear hb9
  go_wp2_with (fail)
  go_must (refine (tRight_is _ HN.out hc (by omega) HQ.out hl (by omega) HG.out).mono ?_)
  rintro e w10 ⟨rfl, hb10⟩
  replace hB := Gen.over hb10 hB
  replace hc := hc.keep hb10
  replace hc' := hc'.keep hb10
  replace hl := hl.keep hb10
  clear hb10
  go_wp2_with (fail)
  go_must (refine (rtRight_is _ HN.out hc (by omega) HQ.out hl (by omega) HG.out).mono ?_)
  rintro e w11 ⟨rfl, hb11⟩
  replace hB := Gen.over hb11 hB
  replace hc := hc.keep hb11
  replace hc' := hc'.keep hb11
  replace hl := hl.keep hb11
  clear hb11
  go_wp2_with (fail)
  go_must (refine (topenl_any _ _ _ l day _ HQ.out hl (by omega)).mono ?_)
  rintro e w12 ⟨B7, c7, rfl, hb12, ho⟩
  replace hB := Gen.over hb12 hB
  replace hc := hc.keep hb12
  replace hc' := hc'.keep hb12
  replace hl := hl.keep hb12
  clear hb12
  go_wp2_with (fail)
  go_must (refine (ropenl_any _ _ _ l day _ HQ.out hl (by omega)).mono ?_)
  rintro e w13 ⟨B8, c8, rfl, hb13, hp⟩
  replace hB := Gen.over hb13 hB
  replace hc := hc.keep hb13
  replace hc' := hc'.keep hb13
  replace hl := hl.keep hb13
  replace ho := ho.keep hb13
  clear hb13
  go_wp2_with (fail)
  go_must (refine (ints_is _ rfl ho (by omega) rfl hp (by omega) rfl).mono ?_)
  rintro e w14 ⟨rfl, hb14⟩
  replace hB := Gen.over hb14 hB
  replace hc := hc.keep hb14
  replace hc' := hc'.keep hb14
  replace hl := hl.keep hb14
  replace ho := ho.keep hb14
  replace hp := hp.keep hb14
  clear hb14
  go_wp2
  go_ret
  exact ⟨ret_bool (by cases g <;> rfl), hB⟩
theorem ttl_any (w : World) (x : Tr) (hc : Prs w A ss) (hc' : Ints w A' us) (hl : Trs w A3 l) (hn : ss.length ≤ 9223372036854775807) (hm : us.length ≤ 9223372036854775807) (hq : l.length ≤ 9223372036854775807) :
    Calls Try.prog 3 #[.slice A ss.length cap, .slice A' us.length cap', .slice A3 l.length cap3, .agg (tcs x).toArray, .int .i64 day] w fun e w' => e = .returned (.bool true) ∧ Below w.heap.size w w' := by
  obtain ⟨k, f, t, u, mm, d, o, b⟩ := x
  cases hf : fewB ss.length us.length l.length
  · exact ttl_a w hn hm hq hf
  · exact ttl_b w rfl hc rfl hc' rfl hl hf
end
end Go.Proofs.Ytpekedhcnijgcaa.Book
