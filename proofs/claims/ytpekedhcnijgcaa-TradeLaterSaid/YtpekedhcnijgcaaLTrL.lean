/- TradeLoans returns true: every list of seats and units, and trade; no condition. -/
import Derived.Test.YtpekedhcnijgcaaTrdE
import Derived.Test.YtpekedhcnijgcaaLEnA
namespace Go.Proofs.Ytpekedhcnijgcaa.Book
open Go.ChangeShapes Go.WideShapes Go.ChangeAt Go.RowKit Go.Proofs.Ytpekedhcnijgcaa.Cell
set_option linter.unusedVariables false
set_option linter.unusedSimpArgs false

theorem can_off {day : Int} {H : List Int} {x : Tr} (h : x.o ≠ -1 ∨ day < x.d) : can day H x = false := by
  unfold can opn
  rw [decide_eq_false (by omega), Bool.false_and]
theorem opn_off {day : Int} {x : Tr} (h : x.o ≠ -1 ∨ day < x.d) : opn day x = false := decide_eq_false (by omega)
theorem mv_mv {H : List Int} {f t : Nat} (x : Int) (hf : f < H.length) (ht : t < H.length) : mvL (mvL H f t x) t f x = H := by
  refine ext_getD (by rw [mvL_len, mvL_len]) fun j hj => ?_
  rw [mvL_len, mvL_len] at hj
  rw [mvL_at x (by rw [mvL_len]; exact ht) (by rw [mvL_len]; exact hf) j (by rw [mvL_len]; exact hj), mvL_at x hf ht j hj]
  by_cases e1 : j = f <;> by_cases e2 : j = t <;> simp [e1, e2] <;> (try split) <;> omega
theorem stO_ok {ss : List (Int × Int)} {us : List Int} {l : List Tr} {day : Int} {R : List Int × List Tr} (hv : vd ss us = true) (hr : rtT ss l = true) (d0 : 0 ≤ day) (d1 : day ≤ 200000) (h : stlW day us l = R) : stO ss us l day = (R, 0) := by
  unfold stO
  rw [if_pos ⟨hv, hr, d0, d1⟩, h]
section
variable {ss : List (Int × Int)} {us : List Int} {x : Tr}
theorem rtT_one (hg : rg ss = true) {l : List Tr} (hl : l.length ≤ 10) (h : ∀ y ∈ l, okT ss y = true) : rtT ss l = true := rtT_on hg (by omega) h
theorem loan_a (hv : vd ss us = true) (hx : okT ss x = true) (h1 : 1 ≤ x.d) : stO ss us [x] (x.d - 1) = ((us, [x]), 0) := by
  obtain ⟨_, _, h3⟩ := okT_in hx
  have c := of_decide_eq_true h3
  refine stO_ok hv (rtT_one (vd_in hv).1 (by simp) (fun y hy => by rw [List.mem_singleton.1 hy]; exact hx)) (by omega) (by omega) (stlW_stop fun y hy => ?_)
  rw [List.mem_singleton.1 hy]
  exact can_off (.inr (by omega))
theorem loan_b (hv : vd ss us = true) (hx : okT ss x = true) (hk : x.k = 1) (ho : x.o = -1) (hu : x.u ≤ us.getD x.f.toNat 0) : stO ss us [x] x.d = ((stH us x, [setl x.d x, bck x.d x]), 0) := by
  obtain ⟨_, _, h3⟩ := okT_in hx
  have c := of_decide_eq_true h3
  refine stO_ok hv (rtT_one (vd_in hv).1 (by simp) (fun y hy => by rw [List.mem_singleton.1 hy]; exact hx)) (by omega) (by omega) ?_
  have hc : can x.d us x = true := by
    unfold can opn
    rw [decide_eq_true ⟨ho, Int.le_refl _⟩, decide_eq_true hu]; rfl
  rw [stlW_go (i := 0) (x := x) (by omega) (by simp) rfl hc]
  have e : stL x.d [x] 0 x = [setl x.d x, bck x.d x] := by unfold stL; rw [if_pos hk]; rfl
  rw [e]
  refine stlW_stop fun y hy => ?_
  simp only [List.mem_cons, List.not_mem_nil, or_false] at hy
  rcases hy with rfl | rfl
  · exact can_off (.inl (by show x.d ≠ -1; omega))
  · exact can_off (.inr (by show x.d < max x.b x.d; omega))
theorem loan_c (hv : vd ss us = true) (hx : okT ss x = true) (hk : x.k = 1) (ho : x.o = -1) (hu : x.u ≤ us.getD x.f.toNat 0) : stO ss (stH us x) [setl x.d x, bck x.d x] x.b = ((us, [setl x.d x, setl x.b (bck x.d x)]), 0) := by
  obtain ⟨h1, h2, h3⟩ := okT_in hx
  have c := of_decide_eq_true h3
  obtain ⟨f0, f1⟩ := lf_in h1
  obtain ⟨t0, t1⟩ := lf_in h2
  have hl := (vd_in hv).2.1
  have hf : x.f.toNat < us.length := by omega
  have ht : x.t.toNat < us.length := by omega
  have hv1 : vd ss (stH us x) = true := mvL_vd hv (by rw [show ((x.f.toNat : Nat) : Int) = x.f by omega]; exact h1) (by rw [show ((x.t.toNat : Nat) : Int) = x.t by omega]; exact h2) (by omega) hu
  have hr : rtT ss [setl x.d x, bck x.d x] = true := rtT_one (vd_in hv).1 (by simp) (fun y hy => by
    simp only [List.mem_cons, List.not_mem_nil, or_false] at hy
    rcases hy with rfl | rfl
    · exact okT_setl hx (by omega) (by omega) (Int.le_refl _)
    · exact okT_bck hx (by omega) (by omega) hk)
  refine stO_ok hv1 hr (by omega) (by omega) ?_
  have hc : can x.b (stH us x) (bck x.d x) = true := by
    unfold can opn
    rw [decide_eq_true (show (bck x.d x).o = -1 ∧ (bck x.d x).d ≤ x.b from ⟨rfl, by show max x.b x.d ≤ x.b; omega⟩), decide_eq_true (show (bck x.d x).u ≤ (stH us x).getD (bck x.d x).f.toNat 0 from by
      show x.u ≤ (mvL us x.f.toNat x.t.toNat x.u).getD x.t.toNat 0
      rw [mvL_at x.u hf ht x.t.toNat ht, if_pos rfl, if_neg (by omega)]
      have := nn_at hv x.t.toNat
      omega)]
    rfl
  rw [stlW_go (i := 1) (x := bck x.d x) (by omega) (by
    intro y hy
    have : y = setl x.d x := by simpa using hy
    rw [this]
    exact can_off (.inl (by show x.d ≠ -1; omega))) rfl hc]
  have e : stL x.b [setl x.d x, bck x.d x] 1 (bck x.d x) = [setl x.d x, setl x.b (bck x.d x)] := by unfold stL; rw [if_neg (show ¬ (bck x.d x).k = 1 from by show ¬ (0 : Int) = 1; omega)]; rfl
  have e2 : stH (stH us x) (bck x.d x) = us := mv_mv x.u hf ht
  rw [e, e2]
  refine stlW_stop fun y hy => ?_
  simp only [List.mem_cons, List.not_mem_nil, or_false] at hy
  rcases hy with rfl | rfl
  · exact can_off (.inl (by show x.d ≠ -1; omega))
  · exact can_off (.inl (by show x.b ≠ -1; omega))
theorem op_a : opL (x.d - 1) [x] 1 = [] := opL_no (k := 0) rfl (opn_off (.inr (by omega)))
theorem op_c (hx : okT ss x = true) (hk : x.k = 1) : opL x.b [setl x.d x, setl x.b (bck x.d x)] 2 = [] := by
  obtain ⟨_, _, h3⟩ := okT_in hx
  have c := of_decide_eq_true h3
  rw [opL_no (k := 1) rfl (opn_off (.inl (by show x.b ≠ -1; omega))), opL_no (k := 0) rfl (opn_off (.inl (by show x.d ≠ -1; omega)))]
  rfl
theorem adT_nil {M : List Tr} {E : Int} (h : adT ss [] x = (M, E)) (hE : (E != 0) = true) : M = [] := by
  unfold adT at h
  split at h
  · split at h
    · injection h with h1 _; exact h1.symm
    · injection h with _ h2; rw [← h2] at hE; cases hE
  · injection h with h1 _; exact h1.symm
end
section
variable {A A' : Option Addr} {n cap m cap' : Nat} {ss : List (Int × Int)} {us : List Int} {k f t u mm d o b : Int}
set_option maxRecDepth 100000 in
set_option maxHeartbeats 1000000 in
theorem tlo_a (w : World) (hn : n ≤ 9223372036854775807) (hm : m ≤ 9223372036854775807) (h : fewB n m 0 = false) :
    Calls Try.prog 5 #[.slice A n cap, .slice A' m cap', .agg #[.int .i64 k, .int .i64 f, .int .i64 t, .int .i64 u, .int .i64 mm, .int .i64 d, .int .i64 o, .int .i64 b]] w fun e w' => e = .returned (.bool true) ∧ Below w.heap.size w w' := by
  have HF := Lib.hid h
  have hB0 : Below w.heap.size w (w.alloc (.cells #[.int .i64 k, .int .i64 f, .int .i64 t, .int .i64 u, .int .i64 mm, .int .i64 d, .int .i64 o, .int .i64 b] 26)) := Gen.b_alloc (Below.refl _ _)
  clear h
  go_enter Try.func5, Try.ntmps5
  go_wp2_with (fail)
  go_must (refine (small32_any _).mono ?_)
  rintro e w1 ⟨rfl, hb⟩
  have hB1 := Gen.over hb hB0
  go_wp2_with (fail)
  go_must (refine (tfew_is _ hn hm (by omega) HF.out).mono ?_)
  rintro e w2 ⟨rfl, rfl⟩
  go_wp2
  go_ret
  exact ⟨rfl, hB1⟩
set_option maxRecDepth 100000 in
set_option maxHeartbeats 8000000 in
theorem tlo_b (w : World) (hn : ss.length = n) (hc : Prs w A ss) (hm : us.length = m) (hc' : Ints w A' us) (hf : fewB n m 0 = true) (hv : vd ss us = false) :
    Calls Try.prog 5 #[.slice A n cap, .slice A' m cap', .agg #[.int .i64 k, .int .i64 f, .int .i64 t, .int .i64 u, .int .i64 mm, .int .i64 d, .int .i64 o, .int .i64 b]] w fun e w' => e = .returned (.bool true) ∧ Below w.heap.size w w' := by
  obtain ⟨f1, f2, f3⟩ := fewB_in hf
  have HN := Lib.hid hn
  have HM := Lib.hid hm
  have HF := Lib.hid hf
  have HV := Lib.hid hv
  have hB0 : Below w.heap.size w (w.alloc (.cells #[.int .i64 k, .int .i64 f, .int .i64 t, .int .i64 u, .int .i64 mm, .int .i64 d, .int .i64 o, .int .i64 b] 26)) := Gen.b_alloc (Below.refl _ _)
  have HBX : Hid (Row (w.alloc (.cells #[.int .i64 k, .int .i64 f, .int .i64 t, .int .i64 u, .int .i64 mm, .int .i64 d, .int .i64 o, .int .i64 b] 26)) w.heap.size 26 #[.int .i64 k, .int .i64 f, .int .i64 t, .int .i64 u, .int .i64 mm, .int .i64 d, .int .i64 o, .int .i64 b]) := Lib.hid (Row.new _ _ _)
  have HC := Lib.hid (hc.keep hB0)
  have HC1 := Lib.hid (hc'.keep hB0)
  clear hn hm hf hc hc' hv
  go_enter Try.func5, Try.ntmps5
  go_wp2_with (fail)
  go_must (refine (small32_any _).mono ?_)
  rintro e w1 ⟨rfl, hb⟩
  have hB1 := Gen.over hb hB0
  have hx1 := HBX.out.keep hb
  replace HC := Lib.hid (HC.out.keep hb)
  replace HC1 := Lib.hid (HC1.out.keep hb)
  clear hb hB0 HBX
  go_wp2_with (fail)
  go_must (refine (tfew_is _ (by omega) (by omega) (by omega) HF.out).mono ?_)
  rintro e w2 ⟨rfl, rfl⟩
  go_wp2_with (fail)
  go_must (refine (units_is _ HN.out HC.out (by omega) HM.out HC1.out (by omega) HV.out).mono ?_)
  rintro e w2 ⟨rfl, hb⟩
  replace hB1 := Gen.over hb hB1
  replace hx1 := hx1.keep hb
  replace HC := Lib.hid (HC.out.keep hb)
  replace HC1 := Lib.hid (HC1.out.keep hb)
  clear hb
  go_wp2
  go_ret
  exact ⟨rfl, hB1⟩
set_option maxRecDepth 100000 in
set_option maxHeartbeats 8000000 in
theorem tlo_c (w : World) (hn : ss.length = n) (hc : Prs w A ss) (hm : us.length = m) (hc' : Ints w A' us) (hf : fewB n m 0 = true) {M : List Tr} {E : Int} (hv : vd ss us = true) (hA : adT ss [] ⟨k, f, t, u, mm, d, o, b⟩ = (M, E)) (hE : (E != 0) = true) :
    Calls Try.prog 5 #[.slice A n cap, .slice A' m cap', .agg #[.int .i64 k, .int .i64 f, .int .i64 t, .int .i64 u, .int .i64 mm, .int .i64 d, .int .i64 o, .int .i64 b]] w fun e w' => e = .returned (.bool true) ∧ Below w.heap.size w w' := by
  obtain ⟨f1, f2, f3⟩ := fewB_in hf
  have HN := Lib.hid hn
  have HM := Lib.hid hm
  have HF := Lib.hid hf
  have HV := Lib.hid hv
  have HA := Lib.hid hA
  have HML := Lib.hid (show M.length = 0 from by rw [adT_nil hA hE]; rfl)
  have hE2 : (E == 0) = false := by simpa using hE
  have hB0 : Below w.heap.size w (w.alloc (.cells #[.int .i64 k, .int .i64 f, .int .i64 t, .int .i64 u, .int .i64 mm, .int .i64 d, .int .i64 o, .int .i64 b] 26)) := Gen.b_alloc (Below.refl _ _)
  have HBX : Hid (Row (w.alloc (.cells #[.int .i64 k, .int .i64 f, .int .i64 t, .int .i64 u, .int .i64 mm, .int .i64 d, .int .i64 o, .int .i64 b] 26)) w.heap.size 26 #[.int .i64 k, .int .i64 f, .int .i64 t, .int .i64 u, .int .i64 mm, .int .i64 d, .int .i64 o, .int .i64 b]) := Lib.hid (Row.new _ _ _)
  have HC := Lib.hid (hc.keep hB0)
  have HC1 := Lib.hid (hc'.keep hB0)
  clear hn hm hf hc hc' hv hA
  go_enter Try.func5, Try.ntmps5
  go_wp2_with (fail)
  go_must (refine (small32_any _).mono ?_)
  rintro e w1 ⟨rfl, hb⟩
  have hB1 := Gen.over hb hB0
  have hx1 := HBX.out.keep hb
  replace HC := Lib.hid (HC.out.keep hb)
  replace HC1 := Lib.hid (HC1.out.keep hb)
  clear hb hB0 HBX
  go_wp2_with (fail)
  go_must (refine (tfew_is _ (by omega) (by omega) (by omega) HF.out).mono ?_)
  rintro e w2 ⟨rfl, rfl⟩
  go_wp2_with (fail)
  go_must (refine (units_is _ HN.out HC.out (by omega) HM.out HC1.out (by omega) HV.out).mono ?_)
  rintro e w2 ⟨rfl, hb⟩
  replace hB1 := Gen.over hb hB1
  replace hx1 := hx1.keep hb
  replace HC := Lib.hid (HC.out.keep hb)
  replace HC1 := Lib.hid (HC1.out.keep hb)
  clear hb
  have d0 := hx1.cell 0
  have d1 := hx1.cell 1
  have d2 := hx1.cell 2
  have d3 := hx1.cell 3
  have d4 := hx1.cell 4
  have d5 := hx1.cell 5
  have d6 := hx1.cell 6
  have d7 := hx1.cell 7
  go_wp2_with (fail)
  go_must (refine (tadd_any ⟨k, f, t, u, mm, d, o, b⟩ _ _ _ ss none 0 0 [] _ _ _ HN.out HC.out (by omega) rfl Trs.nil (by omega) HA.out).mono ?_)
  rintro e w3 ⟨A5, c5, rfl, hb, hp5⟩
  replace hB1 := Gen.over hb hB1
  replace hx1 := hx1.keep hb
  replace HC := Lib.hid (HC.out.keep hb)
  replace HC1 := Lib.hid (HC1.out.keep hb)
  clear hb d0 d1 d2 d3 d4 d5 d6 d7
  have d0 := hx1.cell 0
  have d1 := hx1.cell 1
  have d2 := hx1.cell 2
  have d3 := hx1.cell 3
  have d4 := hx1.cell 4
  have d5 := hx1.cell 5
  have d6 := hx1.cell 6
  have d7 := hx1.cell 7
  rw [HML.out]
  go_wp2
  go_quiet (fail)
  go_wp2
  go_ret
  exact ⟨rfl, Gen.dN hB1 _⟩
set_option maxRecDepth 100000 in
set_option maxHeartbeats 8000000 in
theorem tlo_d (w : World) (hn : ss.length = n) (hc : Prs w A ss) (hm : us.length = m) (hc' : Ints w A' us) (hf : fewB n m 0 = true) {M : List Tr} (hv : vd ss us = true) (hA : adT ss [] ⟨k, f, t, u, mm, d, o, b⟩ = (M, 0)) (hk : (k != 1) = true) :
    Calls Try.prog 5 #[.slice A n cap, .slice A' m cap', .agg #[.int .i64 k, .int .i64 f, .int .i64 t, .int .i64 u, .int .i64 mm, .int .i64 d, .int .i64 o, .int .i64 b]] w fun e w' => e = .returned (.bool true) ∧ Below w.heap.size w w' := by
  obtain ⟨f1, f2, f3⟩ := fewB_in hf
  have HN := Lib.hid hn
  have HM := Lib.hid hm
  have HF := Lib.hid hf
  have HV := Lib.hid hv
  have HA := Lib.hid hA
  have hB0 : Below w.heap.size w (w.alloc (.cells #[.int .i64 k, .int .i64 f, .int .i64 t, .int .i64 u, .int .i64 mm, .int .i64 d, .int .i64 o, .int .i64 b] 26)) := Gen.b_alloc (Below.refl _ _)
  have HBX : Hid (Row (w.alloc (.cells #[.int .i64 k, .int .i64 f, .int .i64 t, .int .i64 u, .int .i64 mm, .int .i64 d, .int .i64 o, .int .i64 b] 26)) w.heap.size 26 #[.int .i64 k, .int .i64 f, .int .i64 t, .int .i64 u, .int .i64 mm, .int .i64 d, .int .i64 o, .int .i64 b]) := Lib.hid (Row.new _ _ _)
  have HC := Lib.hid (hc.keep hB0)
  have HC1 := Lib.hid (hc'.keep hB0)
  clear hn hm hf hc hc' hv hA
  go_enter Try.func5, Try.ntmps5
  go_wp2_with (fail)
  go_must (refine (small32_any _).mono ?_)
  rintro e w1 ⟨rfl, hb⟩
  have hB1 := Gen.over hb hB0
  have hx1 := HBX.out.keep hb
  replace HC := Lib.hid (HC.out.keep hb)
  replace HC1 := Lib.hid (HC1.out.keep hb)
  clear hb hB0 HBX
  go_wp2_with (fail)
  go_must (refine (tfew_is _ (by omega) (by omega) (by omega) HF.out).mono ?_)
  rintro e w2 ⟨rfl, rfl⟩
  go_wp2_with (fail)
  go_must (refine (units_is _ HN.out HC.out (by omega) HM.out HC1.out (by omega) HV.out).mono ?_)
  rintro e w2 ⟨rfl, hb⟩
  replace hB1 := Gen.over hb hB1
  replace hx1 := hx1.keep hb
  replace HC := Lib.hid (HC.out.keep hb)
  replace HC1 := Lib.hid (HC1.out.keep hb)
  clear hb
  have d0 := hx1.cell 0
  have d1 := hx1.cell 1
  have d2 := hx1.cell 2
  have d3 := hx1.cell 3
  have d4 := hx1.cell 4
  have d5 := hx1.cell 5
  have d6 := hx1.cell 6
  have d7 := hx1.cell 7
  go_wp2_with (fail)
  go_must (refine (tadd_any ⟨k, f, t, u, mm, d, o, b⟩ _ _ _ ss none 0 0 [] _ _ _ HN.out HC.out (by omega) rfl Trs.nil (by omega) HA.out).mono ?_)
  rintro e w3 ⟨A5, c5, rfl, hb, hp5⟩
  replace hB1 := Gen.over hb hB1
  replace hx1 := hx1.keep hb
  replace HC := Lib.hid (HC.out.keep hb)
  replace HC1 := Lib.hid (HC1.out.keep hb)
  clear hb d0 d1 d2 d3 d4 d5 d6 d7
  have d0 := hx1.cell 0
  have d1 := hx1.cell 1
  have d2 := hx1.cell 2
  have d3 := hx1.cell 3
  have d4 := hx1.cell 4
  have d5 := hx1.cell 5
  have d6 := hx1.cell 6
  have d7 := hx1.cell 7
  go_wp2
  go_quiet (fail)
  go_wp2
  go_ret
  exact ⟨rfl, Gen.dN hB1 _⟩
set_option maxRecDepth 100000 in
set_option maxHeartbeats 8000000 in
theorem tlo_e (w : World) (hn : ss.length = n) (hc : Prs w A ss) (hm : us.length = m) (hc' : Ints w A' us) (hf : fewB n m 0 = true) {M : List Tr} (hv : vd ss us = true) (hA : adT ss [] ⟨k, f, t, u, mm, d, o, b⟩ = (M, 0)) (hk : k = 1) (hu : us.getD f.toNat 0 < u) :
    Calls Try.prog 5 #[.slice A n cap, .slice A' m cap', .agg #[.int .i64 k, .int .i64 f, .int .i64 t, .int .i64 u, .int .i64 mm, .int .i64 d, .int .i64 o, .int .i64 b]] w fun e w' => e = .returned (.bool true) ∧ Below w.heap.size w w' := by
  obtain ⟨f1, f2, f3⟩ := fewB_in hf
  have HN := Lib.hid hn
  have HM := Lib.hid hm
  have HF := Lib.hid hf
  obtain ⟨r1, r2, r3, r4⟩ := adT_in hA
  dsimp only at r3
  have HV := Lib.hid hv
  have HA := Lib.hid hA
  obtain rfl : [⟨k, f, t, u, mm, d, o, b⟩] = M := r4
  obtain ⟨l1, l2, r5⟩ := okT_in r2
  have hoD := of_decide_eq_true r5
  dsimp only at hoD l1 l2
  obtain ⟨f0, fb⟩ := lf_in l1
  obtain ⟨t0, tb⟩ := lf_in l2
  obtain ⟨qf, rfl⟩ := Int.eq_ofNat_of_zero_le f0
  obtain ⟨qt, rfl⟩ := Int.eq_ofNat_of_zero_le t0
  have hul := (vd_in hv).2.1
  obtain ⟨z1, hz1⟩ := at_ us qf (by omega)
  obtain ⟨z2, hz2⟩ := at_ us qt (by omega)
  obtain ⟨z10, z11⟩ := vd_all hv z1 (mem_of_at hz1)
  obtain ⟨z20, z21⟩ := vd_all hv z2 (mem_of_at hz2)
  have hz1d : us.getD qf 0 = z1 := by rw [List.getD_eq_getElem?_getD, hz1]; rfl
  have hqf : qf < m := by omega
  have hqt : qt < m := by omega
  have hqfI : (qf : Int) < (m : Int) := by omega
  have hqtI : (qt : Int) < (m : Int) := by omega
  have HZ1 := Lib.hid hz1
  have HZ2 := Lib.hid hz2
  rw [Int.toNat_natCast, hz1d] at hu
  have hkb : (k != 1) = false := by rw [hk]; rfl
  clear hoD r1 r2 r3 r5 l1 l2 fb tb hul hz1 hz2 hz1d hk f0 t0
  have hB0 : Below w.heap.size w (w.alloc (.cells #[.int .i64 k, .int .i64 (qf : Int), .int .i64 (qt : Int), .int .i64 u, .int .i64 mm, .int .i64 d, .int .i64 o, .int .i64 b] 26)) := Gen.b_alloc (Below.refl _ _)
  have HBX : Hid (Row (w.alloc (.cells #[.int .i64 k, .int .i64 (qf : Int), .int .i64 (qt : Int), .int .i64 u, .int .i64 mm, .int .i64 d, .int .i64 o, .int .i64 b] 26)) w.heap.size 26 #[.int .i64 k, .int .i64 (qf : Int), .int .i64 (qt : Int), .int .i64 u, .int .i64 mm, .int .i64 d, .int .i64 o, .int .i64 b]) := Lib.hid (Row.new _ _ _)
  have HC := Lib.hid (hc.keep hB0)
  have HC1 := Lib.hid (hc'.keep hB0)
  clear hn hm hf hc hc' hv hA
  go_enter Try.func5, Try.ntmps5
  go_wp2_with (fail)
  go_must (refine (small32_any _).mono ?_)
  rintro e w1 ⟨rfl, hb⟩
  have hB1 := Gen.over hb hB0
  have hx1 := HBX.out.keep hb
  replace HC := Lib.hid (HC.out.keep hb)
  replace HC1 := Lib.hid (HC1.out.keep hb)
  clear hb hB0 HBX
  go_wp2_with (fail)
  go_must (refine (tfew_is _ (by omega) (by omega) (by omega) HF.out).mono ?_)
  rintro e w2 ⟨rfl, rfl⟩
  go_wp2_with (fail)
  go_must (refine (units_is _ HN.out HC.out (by omega) HM.out HC1.out (by omega) HV.out).mono ?_)
  rintro e w2 ⟨rfl, hb⟩
  replace hB1 := Gen.over hb hB1
  replace hx1 := hx1.keep hb
  replace HC := Lib.hid (HC.out.keep hb)
  replace HC1 := Lib.hid (HC1.out.keep hb)
  clear hb
  have d0 := hx1.cell 0
  have d1 := hx1.cell 1
  have d2 := hx1.cell 2
  have d3 := hx1.cell 3
  have d4 := hx1.cell 4
  have d5 := hx1.cell 5
  have d6 := hx1.cell 6
  have d7 := hx1.cell 7
  go_wp2_with (fail)
  go_must (refine (tadd_any ⟨k, (qf : Int), (qt : Int), u, mm, d, o, b⟩ _ _ _ ss none 0 0 [] _ _ _ HN.out HC.out (by omega) rfl Trs.nil (by omega) HA.out).mono ?_)
  rintro e w3 ⟨A5, c5, rfl, hb, hp5⟩
  replace hB1 := Gen.over hb hB1
  replace hx1 := hx1.keep hb
  replace HC := Lib.hid (HC.out.keep hb)
  replace HC1 := Lib.hid (HC1.out.keep hb)
  clear hb d0 d1 d2 d3 d4 d5 d6 d7
  have d0 := hx1.cell 0
  have d1 := hx1.cell 1
  have d2 := hx1.cell 2
  have d3 := hx1.cell 3
  have d4 := hx1.cell 4
  have d5 := hx1.cell 5
  have d6 := hx1.cell 6
  have d7 := hx1.cell 7
  obtain ⟨bU, oU, rfl, hcu⟩ := HC1.out (by rw [HM.out]; omega)
  have y1 := hcu qf z1 HZ1.out
  have y2 := hcu qt z2 HZ2.out
  clear hcu
  go_wp2
  go_quiet (fail)
  go_wp2
  go_ret
  exact ⟨rfl, Gen.dN hB1 _⟩
set_option maxRecDepth 100000 in
set_option maxHeartbeats 8000000 in
theorem tlo_f (w : World) (hn : ss.length = n) (hc : Prs w A ss) (hm : us.length = m) (hc' : Ints w A' us) (hf : fewB n m 0 = true) {M : List Tr} (hv : vd ss us = true) (hA : adT ss [] ⟨k, f, t, u, mm, d, o, b⟩ = (M, 0)) (hk : k = 1) (hu : u ≤ us.getD f.toNat 0) (hd : 1 ≤ d) :
    Calls Try.prog 5 #[.slice A n cap, .slice A' m cap', .agg #[.int .i64 k, .int .i64 f, .int .i64 t, .int .i64 u, .int .i64 mm, .int .i64 d, .int .i64 o, .int .i64 b]] w fun e w' => e = .returned (.bool true) ∧ Below w.heap.size w w' := by
  obtain ⟨f1, f2, f3⟩ := fewB_in hf
  have HN := Lib.hid hn
  have HM := Lib.hid hm
  have HF := Lib.hid hf
  obtain ⟨r1, r2, r3, r4⟩ := adT_in hA
  dsimp only at r3
  have HV := Lib.hid hv
  have HA := Lib.hid hA
  obtain rfl : [⟨k, f, t, u, mm, d, o, b⟩] = M := r4
  obtain ⟨l1, l2, r5⟩ := okT_in r2
  have hoD := of_decide_eq_true r5
  dsimp only at hoD l1 l2
  obtain ⟨f0, fb⟩ := lf_in l1
  obtain ⟨t0, tb⟩ := lf_in l2
  obtain ⟨qf, rfl⟩ := Int.eq_ofNat_of_zero_le f0
  obtain ⟨qt, rfl⟩ := Int.eq_ofNat_of_zero_le t0
  have hul := (vd_in hv).2.1
  obtain ⟨z1, hz1⟩ := at_ us qf (by omega)
  obtain ⟨z2, hz2⟩ := at_ us qt (by omega)
  obtain ⟨z10, z11⟩ := vd_all hv z1 (mem_of_at hz1)
  obtain ⟨z20, z21⟩ := vd_all hv z2 (mem_of_at hz2)
  have hz1d : us.getD qf 0 = z1 := by rw [List.getD_eq_getElem?_getD, hz1]; rfl
  have hqf : qf < m := by omega
  have hqt : qt < m := by omega
  have hqfI : (qf : Int) < (m : Int) := by omega
  have hqtI : (qt : Int) < (m : Int) := by omega
  have HZ1 := Lib.hid hz1
  have HZ2 := Lib.hid hz2
  rw [Int.toNat_natCast, hz1d] at hu
  have hu2 : u ≤ us.getD ((qf : Int)).toNat 0 := by rw [Int.toNat_natCast, hz1d]; exact hu
  have hqne : qf ≠ qt := by have := hoD.1; omega
  have HSA : Hid (1 ≤ d → stO ss us [⟨k, (qf : Int), (qt : Int), u, mm, d, o, b⟩] (d - 1) = ((us, [⟨k, (qf : Int), (qt : Int), u, mm, d, o, b⟩]), 0)) := Lib.hid (fun h1 => loan_a hv r2 h1)
  have HSB := Lib.hid (loan_b hv r2 hk r3 hu2)
  have HSC := Lib.hid (loan_c hv r2 hk r3 hu2)
  have HOA := Lib.hid (show opL (d - 1) [⟨k, (qf : Int), (qt : Int), u, mm, d, o, b⟩] 1 = [] from op_a (x := ⟨k, (qf : Int), (qt : Int), u, mm, d, o, b⟩))
  have HOC := Lib.hid (op_c r2 hk)
  have HSH := Lib.hid (show stH us ⟨k, (qf : Int), (qt : Int), u, mm, d, o, b⟩ = (us.set qf (z1 - u)).set qt (z2 + u) from by unfold stH; dsimp only; rw [Int.toNat_natCast, Int.toNat_natCast, mvL_sets hz1 hz2 hqne])
  have HSL := Lib.hid (show (stH us ⟨k, (qf : Int), (qt : Int), u, mm, d, o, b⟩).length = m from by unfold stH; rw [mvL_len, hm])
  have hkb : (k != 1) = false := by rw [hk]; rfl
  have hd0 : 0 ≤ d := by omega
  have hd1 : d ≤ 200000 := by omega
  have hu1 : 1 ≤ u := by omega
  have hu9 : u ≤ 1000000000 := by omega
  have hnu : ¬ z1 < u := by omega
  dsimp only at HSB HSC HOC
  obtain ⟨H1, hH1⟩ : ∃ H1, stH us ⟨k, (qf : Int), (qt : Int), u, mm, d, o, b⟩ = H1 := ⟨_, rfl⟩
  rw [hH1] at HSB HSC HSH HSL
  obtain ⟨L1, hL1⟩ : ∃ L1, [setl d ⟨k, (qf : Int), (qt : Int), u, mm, d, o, b⟩, bck d ⟨k, (qf : Int), (qt : Int), u, mm, d, o, b⟩] = L1 := ⟨_, rfl⟩
  rw [hL1] at HSB HSC
  obtain ⟨L2, hL2⟩ : ∃ L2, [setl d ⟨k, (qf : Int), (qt : Int), u, mm, d, o, b⟩, setl b (bck d ⟨k, (qf : Int), (qt : Int), u, mm, d, o, b⟩)] = L2 := ⟨_, rfl⟩
  rw [hL2] at HSC HOC
  have HL1 := Lib.hid (show L1.length = 2 from by rw [← hL1]; rfl)
  have HL2 := Lib.hid (show L2.length = 2 from by rw [← hL2]; rfl)
  clear hoD r1 r2 r3 r5 l1 l2 fb tb hul hz1 hz2 hz1d hk f0 t0 hu2 hH1 hL1 hL2
  have HNE := Lib.hid hqne
  clear hqne
  have hB0 : Below w.heap.size w (w.alloc (.cells #[.int .i64 k, .int .i64 (qf : Int), .int .i64 (qt : Int), .int .i64 u, .int .i64 mm, .int .i64 d, .int .i64 o, .int .i64 b] 26)) := Gen.b_alloc (Below.refl _ _)
  have HBX : Hid (Row (w.alloc (.cells #[.int .i64 k, .int .i64 (qf : Int), .int .i64 (qt : Int), .int .i64 u, .int .i64 mm, .int .i64 d, .int .i64 o, .int .i64 b] 26)) w.heap.size 26 #[.int .i64 k, .int .i64 (qf : Int), .int .i64 (qt : Int), .int .i64 u, .int .i64 mm, .int .i64 d, .int .i64 o, .int .i64 b]) := Lib.hid (Row.new _ _ _)
  have HC := Lib.hid (hc.keep hB0)
  have HC1 := Lib.hid (hc'.keep hB0)
  clear hn hm hf hc hc' hv hA
  go_enter Try.func5, Try.ntmps5
  go_wp2_with (fail)
  go_must (refine (small32_any _).mono ?_)
  rintro e w1 ⟨rfl, hb⟩
  have hB1 := Gen.over hb hB0
  have hx1 := HBX.out.keep hb
  replace HC := Lib.hid (HC.out.keep hb)
  replace HC1 := Lib.hid (HC1.out.keep hb)
  clear hb hB0 HBX
  go_wp2_with (fail)
  go_must (refine (tfew_is _ (by omega) (by omega) (by omega) HF.out).mono ?_)
  rintro e w2 ⟨rfl, rfl⟩
  go_wp2_with (fail)
  go_must (refine (units_is _ HN.out HC.out (by omega) HM.out HC1.out (by omega) HV.out).mono ?_)
  rintro e w2 ⟨rfl, hb⟩
  replace hB1 := Gen.over hb hB1
  replace hx1 := hx1.keep hb
  replace HC := Lib.hid (HC.out.keep hb)
  replace HC1 := Lib.hid (HC1.out.keep hb)
  clear hb
  have d0 := hx1.cell 0
  have d1 := hx1.cell 1
  have d2 := hx1.cell 2
  have d3 := hx1.cell 3
  have d4 := hx1.cell 4
  have d5 := hx1.cell 5
  have d6 := hx1.cell 6
  have d7 := hx1.cell 7
  go_wp2_with (fail)
  go_must (refine (tadd_any ⟨k, (qf : Int), (qt : Int), u, mm, d, o, b⟩ _ _ _ ss none 0 0 [] _ _ _ HN.out HC.out (by omega) rfl Trs.nil (by omega) HA.out).mono ?_)
  rintro e w3 ⟨A5, c5, rfl, hb, hp5⟩
  replace hB1 := Gen.over hb hB1
  replace hx1 := hx1.keep hb
  replace HC := Lib.hid (HC.out.keep hb)
  replace HC1 := Lib.hid (HC1.out.keep hb)
  clear hb d0 d1 d2 d3 d4 d5 d6 d7
  have d0 := hx1.cell 0
  have d1 := hx1.cell 1
  have d2 := hx1.cell 2
  have d3 := hx1.cell 3
  have d4 := hx1.cell 4
  have d5 := hx1.cell 5
  have d6 := hx1.cell 6
  have d7 := hx1.cell 7
  obtain ⟨bU, oU, rfl, hcu⟩ := HC1.out (by rw [HM.out]; omega)
  have y1 := hcu qf z1 HZ1.out
  have y2 := hcu qt z2 HZ2.out
  clear hcu
  go_wp2
  go_quiet (fail)
  have hdr : Below w3.heap.size w3 (w3.drewN nq) := Gen.dN (Below.refl _ _) nq
  replace hp5 := hp5.keep hdr
  replace hB1 := Gen.dN hB1 nq
  replace hx1 := hx1.keep hdr
  replace HC := Lib.hid (HC.out.keep hdr)
  replace HC1 := Lib.hid (HC1.out.keep hdr)
  clear hdr y1 y2 d0 d1 d2 d3 d4 d5 d6 d7
  have d0 := hx1.cell 0
  have d1 := hx1.cell 1
  have d2 := hx1.cell 2
  have d3 := hx1.cell 3
  have d4 := hx1.cell 4
  have d5 := hx1.cell 5
  have d6 := hx1.cell 6
  have d7 := hx1.cell 7
  have hd1I : 1 ≤ d := by omega
  have hw0 : IntKind.i64.wrap (d - 1) = d - 1 := IntWalk.i64_in _ (by omega)
  go_wp2_with (fail)
  go_must (refine (settle_any _ HN.out HC.out (by omega) HM.out HC1.out (by omega) rfl hp5 (by simp) (HSA.out hd1I)).mono ?_)
  rintro e w4 ⟨A6, c6, A7, c7, rfl, hb, hi6, ht7⟩
  replace hB1 := Gen.over hb hB1
  replace hx1 := hx1.keep hb
  replace HC := Lib.hid (HC.out.keep hb)
  replace HC1 := Lib.hid (HC1.out.keep hb)
  replace hp5 := hp5.keep hb
  clear hb d0 d1 d2 d3 d4 d5 d6 d7
  have d0 := hx1.cell 0
  have d1 := hx1.cell 1
  have d2 := hx1.cell 2
  have d3 := hx1.cell 3
  have d4 := hx1.cell 4
  have d5 := hx1.cell 5
  have d6 := hx1.cell 6
  have d7 := hx1.cell 7
  go_wp2_with (fail)
  go_must (refine (ints_is _ rfl hi6 (by have := HM.out; omega) HM.out HC1.out (by omega) rfl).mono ?_)
  rintro e w5 ⟨rfl, hb⟩
  replace hB1 := Gen.over hb hB1
  replace hx1 := hx1.keep hb
  replace HC := Lib.hid (HC.out.keep hb)
  replace HC1 := Lib.hid (HC1.out.keep hb)
  replace hp5 := hp5.keep hb
  replace ht7 := ht7.keep hb
  clear hb d0 d1 d2 d3 d4 d5 d6 d7
  have d0 := hx1.cell 0
  have d1 := hx1.cell 1
  have d2 := hx1.cell 2
  have d3 := hx1.cell 3
  have d4 := hx1.cell 4
  have d5 := hx1.cell 5
  have d6 := hx1.cell 6
  have d7 := hx1.cell 7
  go_wp2_with (fail)
  go_must (refine (tsame_is _ rfl ht7 (by simp) rfl hp5 (by simp) rfl).mono ?_)
  rintro e w6 ⟨rfl, hb⟩
  replace hB1 := Gen.over hb hB1
  replace hx1 := hx1.keep hb
  replace HC := Lib.hid (HC.out.keep hb)
  replace HC1 := Lib.hid (HC1.out.keep hb)
  replace hp5 := hp5.keep hb
  clear hb d0 d1 d2 d3 d4 d5 d6 d7
  have d0 := hx1.cell 0
  have d1 := hx1.cell 1
  have d2 := hx1.cell 2
  have d3 := hx1.cell 3
  have d4 := hx1.cell 4
  have d5 := hx1.cell 5
  have d6 := hx1.cell 6
  have d7 := hx1.cell 7
  go_wp2_with (fail)
  go_must (refine (topenl_any _ 1 _ [⟨k, (qf : Int), (qt : Int), u, mm, d, o, b⟩] (d - 1) _ rfl hp5 (by simp)).mono ?_)
  rintro e w7 ⟨A8, c8, rfl, hb, hi8⟩
  rw [HOA.out]
  replace hB1 := Gen.over hb hB1
  replace hx1 := hx1.keep hb
  replace HC := Lib.hid (HC.out.keep hb)
  replace HC1 := Lib.hid (HC1.out.keep hb)
  replace hp5 := hp5.keep hb
  clear hb d0 d1 d2 d3 d4 d5 d6 d7
  have d0 := hx1.cell 0
  have d1 := hx1.cell 1
  have d2 := hx1.cell 2
  have d3 := hx1.cell 3
  have d4 := hx1.cell 4
  have d5 := hx1.cell 5
  have d6 := hx1.cell 6
  have d7 := hx1.cell 7
  go_wp2_with (fail)
  go_must (refine (settle_any _ HN.out HC.out (by omega) HM.out HC1.out (by omega) rfl hp5 (by simp) HSB.out).mono ?_)
  rintro e w8 ⟨A9, c9, AA, ca, rfl, hb, hi9, hta⟩
  replace hB1 := Gen.over hb hB1
  replace hx1 := hx1.keep hb
  replace HC := Lib.hid (HC.out.keep hb)
  replace HC1 := Lib.hid (HC1.out.keep hb)
  clear hb d0 d1 d2 d3 d4 d5 d6 d7
  have d0 := hx1.cell 0
  have d1 := hx1.cell 1
  have d2 := hx1.cell 2
  have d3 := hx1.cell 3
  have d4 := hx1.cell 4
  have d5 := hx1.cell 5
  have d6 := hx1.cell 6
  have d7 := hx1.cell 7
  try dsimp only at hi9
  try dsimp only at hta
  try dsimp only
  rw [HSL.out, HL1.out]
  obtain ⟨bV, oV, rfl, hcv⟩ := hi9 (by show 0 < H1.length; rw [HSL.out]; omega)
  have e1 := hcv qf (z1 - u) (by rw [HSH.out, List.getElem?_set_ne (fun c => HNE.out c.symm), List.getElem?_set_self (by rw [HM.out]; exact hqf)])
  have e2 := hcv qt (z2 + u) (by rw [HSH.out, List.getElem?_set_self (by rw [List.length_set, HM.out]; exact hqt)])
  obtain ⟨bU2, oU2, hA2, hcu⟩ := HC1.out (by rw [HM.out]; omega)
  obtain ⟨rfl, rfl⟩ : bU = bU2 ∧ oU = oU2 := by injection hA2 with h; injection h with h1 h2; exact ⟨h1, h2⟩
  have y1 := hcu qf z1 HZ1.out
  have y2 := hcu qt z2 HZ2.out
  have hw1 : IntKind.i64.wrap (z1 - u) = z1 - u := IntWalk.i64_in _ (by omega)
  have hw2 : IntKind.i64.wrap (z2 + u) = z2 + u := IntWalk.i64_in _ (by omega)
  clear hcv hcu
  go_wp2
  go_quiet (fail)
  clear hw1 hw2 e1 e2
  have hdr : Below w8.heap.size w8 (w8.drewN nq) := Gen.dN (Below.refl _ _) nq
  replace hi9 := hi9.keep hdr
  replace hta := hta.keep hdr
  replace hB1 := Gen.dN hB1 nq
  replace hx1 := hx1.keep hdr
  replace HC := Lib.hid (HC.out.keep hdr)
  replace HC1 := Lib.hid (HC1.out.keep hdr)
  clear hdr d0 d1 d2 d3 d4 d5 d6 d7
  have d0 := hx1.cell 0
  have d1 := hx1.cell 1
  have d2 := hx1.cell 2
  have d3 := hx1.cell 3
  have d4 := hx1.cell 4
  have d5 := hx1.cell 5
  have d6 := hx1.cell 6
  have d7 := hx1.cell 7
  go_wp2_with (fail)
  go_must (refine (settle_any _ HN.out HC.out (by omega) HSL.out hi9 (by omega) HL1.out hta (by simp) HSC.out).mono ?_)
  rintro e w9 ⟨AB, cb, AC, cc, rfl, hb, hib, htc⟩
  replace hB1 := Gen.over hb hB1
  replace hx1 := hx1.keep hb
  replace HC := Lib.hid (HC.out.keep hb)
  replace HC1 := Lib.hid (HC1.out.keep hb)
  clear hb d0 d1 d2 d3 d4 d5 d6 d7
  have d0 := hx1.cell 0
  have d1 := hx1.cell 1
  have d2 := hx1.cell 2
  have d3 := hx1.cell 3
  have d4 := hx1.cell 4
  have d5 := hx1.cell 5
  have d6 := hx1.cell 6
  have d7 := hx1.cell 7
  try dsimp only at hib
  try dsimp only at htc
  try dsimp only
  go_wp2_with (fail)
  go_must (refine (ints_is _ rfl hib (by have := HM.out; omega) HM.out HC1.out (by omega) rfl).mono ?_)
  rintro e w10 ⟨rfl, hb⟩
  replace hB1 := Gen.over hb hB1
  replace hx1 := hx1.keep hb
  replace HC := Lib.hid (HC.out.keep hb)
  replace HC1 := Lib.hid (HC1.out.keep hb)
  replace htc := htc.keep hb
  clear hb d0 d1 d2 d3 d4 d5 d6 d7
  have d0 := hx1.cell 0
  have d1 := hx1.cell 1
  have d2 := hx1.cell 2
  have d3 := hx1.cell 3
  have d4 := hx1.cell 4
  have d5 := hx1.cell 5
  have d6 := hx1.cell 6
  have d7 := hx1.cell 7
  go_wp2_with (fail)
  go_must (refine (topenl_any _ _ _ L2 b _ rfl htc (by rw [HL2.out]; simp)).mono ?_)
  rintro e w11 ⟨AD, cd, rfl, hb, hid⟩
  replace hB1 := Gen.over hb hB1
  replace hx1 := hx1.keep hb
  replace HC := Lib.hid (HC.out.keep hb)
  replace HC1 := Lib.hid (HC1.out.keep hb)
  clear hb d0 d1 d2 d3 d4 d5 d6 d7
  have d0 := hx1.cell 0
  have d1 := hx1.cell 1
  have d2 := hx1.cell 2
  have d3 := hx1.cell 3
  have d4 := hx1.cell 4
  have d5 := hx1.cell 5
  have d6 := hx1.cell 6
  have d7 := hx1.cell 7
  rw [HL2.out, HOC.out]
  go_wp2
  go_ret
  exact ⟨rfl, hB1⟩
set_option maxRecDepth 100000 in
set_option maxHeartbeats 8000000 in
theorem tlo_g (w : World) (hn : ss.length = n) (hc : Prs w A ss) (hm : us.length = m) (hc' : Ints w A' us) (hf : fewB n m 0 = true) {M : List Tr} (hv : vd ss us = true) (hA : adT ss [] ⟨k, f, t, u, mm, d, o, b⟩ = (M, 0)) (hk : k = 1) (hu : u ≤ us.getD f.toNat 0) (hd : ¬ 1 ≤ d) :
    Calls Try.prog 5 #[.slice A n cap, .slice A' m cap', .agg #[.int .i64 k, .int .i64 f, .int .i64 t, .int .i64 u, .int .i64 mm, .int .i64 d, .int .i64 o, .int .i64 b]] w fun e w' => e = .returned (.bool true) ∧ Below w.heap.size w w' := by
  obtain ⟨f1, f2, f3⟩ := fewB_in hf
  have HN := Lib.hid hn
  have HM := Lib.hid hm
  have HF := Lib.hid hf
  obtain ⟨r1, r2, r3, r4⟩ := adT_in hA
  dsimp only at r3
  have HV := Lib.hid hv
  have HA := Lib.hid hA
  obtain rfl : [⟨k, f, t, u, mm, d, o, b⟩] = M := r4
  obtain ⟨l1, l2, r5⟩ := okT_in r2
  have hoD := of_decide_eq_true r5
  dsimp only at hoD l1 l2
  obtain ⟨f0, fb⟩ := lf_in l1
  obtain ⟨t0, tb⟩ := lf_in l2
  obtain ⟨qf, rfl⟩ := Int.eq_ofNat_of_zero_le f0
  obtain ⟨qt, rfl⟩ := Int.eq_ofNat_of_zero_le t0
  have hul := (vd_in hv).2.1
  obtain ⟨z1, hz1⟩ := at_ us qf (by omega)
  obtain ⟨z2, hz2⟩ := at_ us qt (by omega)
  obtain ⟨z10, z11⟩ := vd_all hv z1 (mem_of_at hz1)
  obtain ⟨z20, z21⟩ := vd_all hv z2 (mem_of_at hz2)
  have hz1d : us.getD qf 0 = z1 := by rw [List.getD_eq_getElem?_getD, hz1]; rfl
  have hqf : qf < m := by omega
  have hqt : qt < m := by omega
  have hqfI : (qf : Int) < (m : Int) := by omega
  have hqtI : (qt : Int) < (m : Int) := by omega
  have HZ1 := Lib.hid hz1
  have HZ2 := Lib.hid hz2
  rw [Int.toNat_natCast, hz1d] at hu
  have hu2 : u ≤ us.getD ((qf : Int)).toNat 0 := by rw [Int.toNat_natCast, hz1d]; exact hu
  have hqne : qf ≠ qt := by have := hoD.1; omega
  have HSA : Hid (1 ≤ d → stO ss us [⟨k, (qf : Int), (qt : Int), u, mm, d, o, b⟩] (d - 1) = ((us, [⟨k, (qf : Int), (qt : Int), u, mm, d, o, b⟩]), 0)) := Lib.hid (fun h1 => loan_a hv r2 h1)
  have HSB := Lib.hid (loan_b hv r2 hk r3 hu2)
  have HSC := Lib.hid (loan_c hv r2 hk r3 hu2)
  have HOA := Lib.hid (show opL (d - 1) [⟨k, (qf : Int), (qt : Int), u, mm, d, o, b⟩] 1 = [] from op_a (x := ⟨k, (qf : Int), (qt : Int), u, mm, d, o, b⟩))
  have HOC := Lib.hid (op_c r2 hk)
  have HSH := Lib.hid (show stH us ⟨k, (qf : Int), (qt : Int), u, mm, d, o, b⟩ = (us.set qf (z1 - u)).set qt (z2 + u) from by unfold stH; dsimp only; rw [Int.toNat_natCast, Int.toNat_natCast, mvL_sets hz1 hz2 hqne])
  have HSL := Lib.hid (show (stH us ⟨k, (qf : Int), (qt : Int), u, mm, d, o, b⟩).length = m from by unfold stH; rw [mvL_len, hm])
  have hkb : (k != 1) = false := by rw [hk]; rfl
  have hd0 : 0 ≤ d := by omega
  have hd1 : d ≤ 200000 := by omega
  have hu1 : 1 ≤ u := by omega
  have hu9 : u ≤ 1000000000 := by omega
  have hnu : ¬ z1 < u := by omega
  dsimp only at HSB HSC HOC
  obtain ⟨H1, hH1⟩ : ∃ H1, stH us ⟨k, (qf : Int), (qt : Int), u, mm, d, o, b⟩ = H1 := ⟨_, rfl⟩
  rw [hH1] at HSB HSC HSH HSL
  obtain ⟨L1, hL1⟩ : ∃ L1, [setl d ⟨k, (qf : Int), (qt : Int), u, mm, d, o, b⟩, bck d ⟨k, (qf : Int), (qt : Int), u, mm, d, o, b⟩] = L1 := ⟨_, rfl⟩
  rw [hL1] at HSB HSC
  obtain ⟨L2, hL2⟩ : ∃ L2, [setl d ⟨k, (qf : Int), (qt : Int), u, mm, d, o, b⟩, setl b (bck d ⟨k, (qf : Int), (qt : Int), u, mm, d, o, b⟩)] = L2 := ⟨_, rfl⟩
  rw [hL2] at HSC HOC
  have HL1 := Lib.hid (show L1.length = 2 from by rw [← hL1]; rfl)
  have HL2 := Lib.hid (show L2.length = 2 from by rw [← hL2]; rfl)
  clear hoD r1 r2 r3 r5 l1 l2 fb tb hul hz1 hz2 hz1d hk f0 t0 hu2 hH1 hL1 hL2
  have HNE := Lib.hid hqne
  clear hqne
  have hB0 : Below w.heap.size w (w.alloc (.cells #[.int .i64 k, .int .i64 (qf : Int), .int .i64 (qt : Int), .int .i64 u, .int .i64 mm, .int .i64 d, .int .i64 o, .int .i64 b] 26)) := Gen.b_alloc (Below.refl _ _)
  have HBX : Hid (Row (w.alloc (.cells #[.int .i64 k, .int .i64 (qf : Int), .int .i64 (qt : Int), .int .i64 u, .int .i64 mm, .int .i64 d, .int .i64 o, .int .i64 b] 26)) w.heap.size 26 #[.int .i64 k, .int .i64 (qf : Int), .int .i64 (qt : Int), .int .i64 u, .int .i64 mm, .int .i64 d, .int .i64 o, .int .i64 b]) := Lib.hid (Row.new _ _ _)
  have HC := Lib.hid (hc.keep hB0)
  have HC1 := Lib.hid (hc'.keep hB0)
  clear hn hm hf hc hc' hv hA
  go_enter Try.func5, Try.ntmps5
  go_wp2_with (fail)
  go_must (refine (small32_any _).mono ?_)
  rintro e w1 ⟨rfl, hb⟩
  have hB1 := Gen.over hb hB0
  have hx1 := HBX.out.keep hb
  replace HC := Lib.hid (HC.out.keep hb)
  replace HC1 := Lib.hid (HC1.out.keep hb)
  clear hb hB0 HBX
  go_wp2_with (fail)
  go_must (refine (tfew_is _ (by omega) (by omega) (by omega) HF.out).mono ?_)
  rintro e w2 ⟨rfl, rfl⟩
  go_wp2_with (fail)
  go_must (refine (units_is _ HN.out HC.out (by omega) HM.out HC1.out (by omega) HV.out).mono ?_)
  rintro e w2 ⟨rfl, hb⟩
  replace hB1 := Gen.over hb hB1
  replace hx1 := hx1.keep hb
  replace HC := Lib.hid (HC.out.keep hb)
  replace HC1 := Lib.hid (HC1.out.keep hb)
  clear hb
  have d0 := hx1.cell 0
  have d1 := hx1.cell 1
  have d2 := hx1.cell 2
  have d3 := hx1.cell 3
  have d4 := hx1.cell 4
  have d5 := hx1.cell 5
  have d6 := hx1.cell 6
  have d7 := hx1.cell 7
  go_wp2_with (fail)
  go_must (refine (tadd_any ⟨k, (qf : Int), (qt : Int), u, mm, d, o, b⟩ _ _ _ ss none 0 0 [] _ _ _ HN.out HC.out (by omega) rfl Trs.nil (by omega) HA.out).mono ?_)
  rintro e w3 ⟨A5, c5, rfl, hb, hp5⟩
  replace hB1 := Gen.over hb hB1
  replace hx1 := hx1.keep hb
  replace HC := Lib.hid (HC.out.keep hb)
  replace HC1 := Lib.hid (HC1.out.keep hb)
  clear hb d0 d1 d2 d3 d4 d5 d6 d7
  have d0 := hx1.cell 0
  have d1 := hx1.cell 1
  have d2 := hx1.cell 2
  have d3 := hx1.cell 3
  have d4 := hx1.cell 4
  have d5 := hx1.cell 5
  have d6 := hx1.cell 6
  have d7 := hx1.cell 7
  obtain ⟨bU, oU, rfl, hcu⟩ := HC1.out (by rw [HM.out]; omega)
  have y1 := hcu qf z1 HZ1.out
  have y2 := hcu qt z2 HZ2.out
  clear hcu
  go_wp2
  go_quiet (fail)
  have hdr : Below w3.heap.size w3 (w3.drewN nq) := Gen.dN (Below.refl _ _) nq
  replace hp5 := hp5.keep hdr
  replace hB1 := Gen.dN hB1 nq
  replace hx1 := hx1.keep hdr
  replace HC := Lib.hid (HC.out.keep hdr)
  replace HC1 := Lib.hid (HC1.out.keep hdr)
  clear hdr y1 y2 d0 d1 d2 d3 d4 d5 d6 d7
  have d0 := hx1.cell 0
  have d1 := hx1.cell 1
  have d2 := hx1.cell 2
  have d3 := hx1.cell 3
  have d4 := hx1.cell 4
  have d5 := hx1.cell 5
  have d6 := hx1.cell 6
  have d7 := hx1.cell 7
  go_wp2_with (fail)
  go_must (refine (settle_any _ HN.out HC.out (by omega) HM.out HC1.out (by omega) rfl hp5 (by simp) HSB.out).mono ?_)
  rintro e w8 ⟨A9, c9, AA, ca, rfl, hb, hi9, hta⟩
  replace hB1 := Gen.over hb hB1
  replace hx1 := hx1.keep hb
  replace HC := Lib.hid (HC.out.keep hb)
  replace HC1 := Lib.hid (HC1.out.keep hb)
  clear hb d0 d1 d2 d3 d4 d5 d6 d7
  have d0 := hx1.cell 0
  have d1 := hx1.cell 1
  have d2 := hx1.cell 2
  have d3 := hx1.cell 3
  have d4 := hx1.cell 4
  have d5 := hx1.cell 5
  have d6 := hx1.cell 6
  have d7 := hx1.cell 7
  try dsimp only at hi9
  try dsimp only at hta
  try dsimp only
  rw [HSL.out, HL1.out]
  obtain ⟨bV, oV, rfl, hcv⟩ := hi9 (by show 0 < H1.length; rw [HSL.out]; omega)
  have e1 := hcv qf (z1 - u) (by rw [HSH.out, List.getElem?_set_ne (fun c => HNE.out c.symm), List.getElem?_set_self (by rw [HM.out]; exact hqf)])
  have e2 := hcv qt (z2 + u) (by rw [HSH.out, List.getElem?_set_self (by rw [List.length_set, HM.out]; exact hqt)])
  obtain ⟨bU2, oU2, hA2, hcu⟩ := HC1.out (by rw [HM.out]; omega)
  obtain ⟨rfl, rfl⟩ : bU = bU2 ∧ oU = oU2 := by injection hA2 with h; injection h with h1 h2; exact ⟨h1, h2⟩
  have y1 := hcu qf z1 HZ1.out
  have y2 := hcu qt z2 HZ2.out
  have hw1 : IntKind.i64.wrap (z1 - u) = z1 - u := IntWalk.i64_in _ (by omega)
  have hw2 : IntKind.i64.wrap (z2 + u) = z2 + u := IntWalk.i64_in _ (by omega)
  clear hcv hcu
  go_wp2
  go_quiet (fail)
  clear hw1 hw2 e1 e2
  have hdr : Below w8.heap.size w8 (w8.drewN nq) := Gen.dN (Below.refl _ _) nq
  replace hi9 := hi9.keep hdr
  replace hta := hta.keep hdr
  replace hB1 := Gen.dN hB1 nq
  replace hx1 := hx1.keep hdr
  replace HC := Lib.hid (HC.out.keep hdr)
  replace HC1 := Lib.hid (HC1.out.keep hdr)
  clear hdr d0 d1 d2 d3 d4 d5 d6 d7
  have d0 := hx1.cell 0
  have d1 := hx1.cell 1
  have d2 := hx1.cell 2
  have d3 := hx1.cell 3
  have d4 := hx1.cell 4
  have d5 := hx1.cell 5
  have d6 := hx1.cell 6
  have d7 := hx1.cell 7
  go_wp2_with (fail)
  go_must (refine (settle_any _ HN.out HC.out (by omega) HSL.out hi9 (by omega) HL1.out hta (by simp) HSC.out).mono ?_)
  rintro e w9 ⟨AB, cb, AC, cc, rfl, hb, hib, htc⟩
  replace hB1 := Gen.over hb hB1
  replace hx1 := hx1.keep hb
  replace HC := Lib.hid (HC.out.keep hb)
  replace HC1 := Lib.hid (HC1.out.keep hb)
  clear hb d0 d1 d2 d3 d4 d5 d6 d7
  have d0 := hx1.cell 0
  have d1 := hx1.cell 1
  have d2 := hx1.cell 2
  have d3 := hx1.cell 3
  have d4 := hx1.cell 4
  have d5 := hx1.cell 5
  have d6 := hx1.cell 6
  have d7 := hx1.cell 7
  try dsimp only at hib
  try dsimp only at htc
  try dsimp only
  go_wp2_with (fail)
  go_must (refine (ints_is _ rfl hib (by have := HM.out; omega) HM.out HC1.out (by omega) rfl).mono ?_)
  rintro e w10 ⟨rfl, hb⟩
  replace hB1 := Gen.over hb hB1
  replace hx1 := hx1.keep hb
  replace HC := Lib.hid (HC.out.keep hb)
  replace HC1 := Lib.hid (HC1.out.keep hb)
  replace htc := htc.keep hb
  clear hb d0 d1 d2 d3 d4 d5 d6 d7
  have d0 := hx1.cell 0
  have d1 := hx1.cell 1
  have d2 := hx1.cell 2
  have d3 := hx1.cell 3
  have d4 := hx1.cell 4
  have d5 := hx1.cell 5
  have d6 := hx1.cell 6
  have d7 := hx1.cell 7
  go_wp2_with (fail)
  go_must (refine (topenl_any _ _ _ L2 b _ rfl htc (by rw [HL2.out]; simp)).mono ?_)
  rintro e w11 ⟨AD, cd, rfl, hb, hid⟩
  replace hB1 := Gen.over hb hB1
  replace hx1 := hx1.keep hb
  replace HC := Lib.hid (HC.out.keep hb)
  replace HC1 := Lib.hid (HC1.out.keep hb)
  clear hb d0 d1 d2 d3 d4 d5 d6 d7
  have d0 := hx1.cell 0
  have d1 := hx1.cell 1
  have d2 := hx1.cell 2
  have d3 := hx1.cell 3
  have d4 := hx1.cell 4
  have d5 := hx1.cell 5
  have d6 := hx1.cell 6
  have d7 := hx1.cell 7
  rw [HL2.out, HOC.out]
  go_wp2
  go_ret
  exact ⟨rfl, hB1⟩
theorem tlo_any (w : World) (x : Tr) (hc : Prs w A ss) (hc' : Ints w A' us) (hn : ss.length ≤ 9223372036854775807) (hm : us.length ≤ 9223372036854775807) :
    Calls Try.prog 5 #[.slice A ss.length cap, .slice A' us.length cap', .agg (tcs x).toArray] w fun e w' => e = .returned (.bool true) ∧ Below w.heap.size w w' := by
  obtain ⟨k, f, t, u, mm, d, o, b⟩ := x
  cases hf : fewB ss.length us.length 0
  · exact tlo_a w hn hm hf
  · cases hv : vd ss us
    · exact tlo_b w rfl hc rfl hc' hf hv
    · obtain ⟨M, E, hA⟩ : ∃ M E, adT ss [] ⟨k, f, t, u, mm, d, o, b⟩ = (M, E) := ⟨_, _, rfl⟩
      by_cases hE : E = 0
      · subst hE
        by_cases hk : k = 1
        · by_cases hu : u ≤ us.getD f.toNat 0
          · by_cases hd : 1 ≤ d
            · exact tlo_f w rfl hc rfl hc' hf hv hA hk hu hd
            · exact tlo_g w rfl hc rfl hc' hf hv hA hk hu hd
          · exact tlo_e w rfl hc rfl hc' hf hv hA hk (show us.getD f.toNat 0 < u by omega)
        · exact tlo_d w rfl hc rfl hc' hf hv hA (by rw [bne_iff_ne]; exact hk)
      · exact tlo_c w rfl hc rfl hc' hf hv hA (by rw [bne_iff_ne]; exact hE)
end
end Go.Proofs.Ytpekedhcnijgcaa.Book
