/- BookBack returns true: every list of seats and units, seats and numbers; no condition. -/
import Derived.Test.YtggheoppbghjeaaLMov
namespace Go.Proofs.Ytggheoppbghjeaa.Book
open Go.ChangeShapes Go.WideShapes Go.ChangeAt Go.RowKit Go.Proofs.Ytggheoppbghjeaa.Cell
set_option linter.unusedVariables false
set_option linter.unusedSimpArgs false

theorem ext_getD {xs ys : List Int} (h : xs.length = ys.length) (he : ∀ j, j < xs.length → xs.getD j 0 = ys.getD j 0) : xs = ys := by
  refine List.ext_getElem h fun j h1 h2 => ?_
  have := he j h1
  rw [List.getD_eq_getElem?_getD, List.getD_eq_getElem?_getD, List.getElem?_eq_getElem h1, List.getElem?_eq_getElem h2] at this
  simpa using this
section
variable {ss : List (Int × Int)} {us : List Int} {f t o x y : Int}
theorem mvE_zero (hv : vd ss us = true) (hx : 1 ≤ x) (h : mvE ss us f t x = 0) : lf ss f = true ∧ lf ss t = true ∧ x ≤ us.getD f.toNat 0 := by
  cases h1 : lf ss f
  · rw [mvE_leafF hv hx h1] at h; omega
  · cases h2 : lf ss t
    · rw [mvE_leafT hv hx h2] at h; omega
    · refine ⟨rfl, rfl, ?_⟩
      by_cases h3 : us.getD f.toNat 0 < x
      · rw [mvE_few hv hx h1 h2 h3] at h; omega
      · omega
theorem mv_facts (hv : vd ss us = true) (hx : 1 ≤ x) (h : mvE ss us f t x = 0) : ∃ F T : Nat, f = F ∧ t = T ∧ F < us.length ∧ T < us.length ∧ lf ss F = true ∧ lf ss T = true ∧ x ≤ us.getD F 0 ∧ mvR ss us f t x = mvL us F T x ∧ vd ss (mvL us F T x) = true := by
  obtain ⟨a, b, c⟩ := mvE_zero hv hx h
  obtain ⟨f0, f1⟩ := lf_in a
  obtain ⟨t0, t1⟩ := lf_in b
  obtain ⟨F, rfl⟩ := Int.eq_ofNat_of_zero_le f0
  obtain ⟨T, rfl⟩ := Int.eq_ofNat_of_zero_le t0
  rw [Int.toNat_natCast] at c
  have hl := (vd_in hv).2.1
  refine ⟨F, T, rfl, rfl, by omega, by omega, a, b, c, ?_, mvL_vd hv a b hx c⟩
  rw [mvR_ok h, Int.toNat_natCast, Int.toNat_natCast]
theorem nn_at (hv : vd ss us = true) (j : Nat) : 0 ≤ us.getD j 0 := by
  rw [List.getD_eq_getElem?_getD]
  cases h : us[j]? with
  | none => simp
  | some u => have := vd_all hv u (mem_of_at h); simpa using this.1
theorem back_p1 (hv : vd ss us = true) (hx : 1 ≤ x) (h : mvE ss us f t x = 0) {L : List Int} (hL : mvR ss us f t x = L) : vd ss L = true ∧ L.length = us.length ∧ mvE ss L t f x = 0 ∧ mvR ss L t f x = us := by
  obtain ⟨F, T, rfl, rfl, hF, hT, l1, l2, hu, hR, hV⟩ := mv_facts hv hx h
  have e : L = mvL us F T x := by rw [← hL, hR]
  subst e
  have eT := mvL_at x hF hT T hT
  have n0 := nn_at hv T
  have ok : mvE ss (mvL us F T x) T F x = 0 := mvE_ok hV hx l2 l1 (by
    rw [Int.toNat_natCast, eT, if_pos rfl]
    by_cases e : T = F
    · subst e; rw [if_pos rfl]; omega
    · rw [if_neg e]; omega)
  refine ⟨hV, mvL_len _ _ _ _, ok, ?_⟩
  rw [mvR_ok ok, Int.toNat_natCast, Int.toNat_natCast]
  refine ext_getD (by rw [mvL_len, mvL_len]) fun j hj => ?_
  rw [mvL_len, mvL_len] at hj
  rw [mvL_at x (by rw [mvL_len]; exact hT) (by rw [mvL_len]; exact hF) j (by rw [mvL_len]; exact hj), mvL_at x hF hT j hj]
  split <;> split <;> omega
theorem back_p2 (hv : vd ss us = true) (hx : 1 ≤ x) (hy : 1 ≤ y) (hft : f ≠ t) (h : mvE ss us f t (x + y) = 0) : mvE ss us f t x = 0 ∧ mvE ss (mvR ss us f t x) f t y = 0 ∧ mvR ss (mvR ss us f t x) f t y = mvR ss us f t (x + y) := by
  obtain ⟨F, T, rfl, rfl, hF, hT, l1, l2, hu, hR, hV⟩ := mv_facts hv (by omega) h
  have e1 : mvE ss us F T x = 0 := mvE_ok hv hx l1 l2 (by rw [Int.toNat_natCast]; omega)
  have eR : mvR ss us F T x = mvL us F T x := by rw [mvR_ok e1, Int.toNat_natCast, Int.toNat_natCast]
  have hV1 := mvL_vd hv l1 l2 hx (show x ≤ us.getD F 0 by omega)
  have hne : ¬ F = T := fun e => hft (by rw [e])
  have e2 : mvE ss (mvL us F T x) F T y = 0 := mvE_ok hV1 hy l1 l2 (by
    rw [Int.toNat_natCast, mvL_at x hF hT F hF, if_pos rfl, if_neg hne]; omega)
  refine ⟨e1, by rw [eR]; exact e2, ?_⟩
  rw [eR, mvR_ok e2, hR, Int.toNat_natCast, Int.toNat_natCast]
  refine ext_getD (by rw [mvL_len, mvL_len, mvL_len]) fun j hj => ?_
  rw [mvL_len, mvL_len] at hj
  rw [mvL_at y (by rw [mvL_len]; exact hF) (by rw [mvL_len]; exact hT) j (by rw [mvL_len]; exact hj), mvL_at x hF hT j hj, mvL_at (x + y) hF hT j hj]
  split <;> split <;> omega
theorem back_p3 (hv : vd ss us = true) (hx : 1 ≤ x) (hy : 1 ≤ y) (h : mvE ss us f t x = 0) (h2 : mvE ss us f o y = 0) {A C : List Int} (hA : mvR ss us f t x = A) (hC : mvR ss us f o y = C) :
    (mvE ss A f o y = 0 ∨ mvE ss A f o y = 22) ∧ (mvE ss C f t x = 0 ∨ mvE ss C f t x = 22) ∧ (f ≠ t → f ≠ o → mvE ss A f o y = mvE ss C f t x) ∧ (mvE ss A f o y = 0 → mvE ss C f t x = 0 → mvR ss A f o y = mvR ss C f t x) := by
  obtain ⟨F, T, rfl, rfl, hF, hT, l1, l2, hu, hR, hV⟩ := mv_facts hv hx h
  obtain ⟨F', O, eF, rfl, hF', hO, l3, l4, hu', hR', hV'⟩ := mv_facts hv hy h2
  obtain rfl : F = F' := by omega
  have e : A = mvL us F T x := by rw [← hA, hR]
  subst e
  have e : C = mvL us F O y := by rw [← hC, hR']
  subst e
  have a1 : ∀ (U : List Int) (P Q : Nat) (z : Int), vd ss U = true → 1 ≤ z → lf ss P = true → lf ss Q = true → mvE ss U P Q z = 0 ∨ mvE ss U P Q z = 22 := fun U P Q z hU hz lp lq => by
    by_cases hh : U.getD P 0 < z
    · exact .inr (mvE_few hU hz lp lq (by rw [Int.toNat_natCast]; exact hh))
    · exact .inl (mvE_ok hU hz lp lq (by rw [Int.toNat_natCast]; omega))
  refine ⟨a1 _ _ _ _ hV hy l1 l4, a1 _ _ _ _ hV' hx l1 l2, fun n1 n2 => ?_, fun z1 z2 => ?_⟩
  · have m1 : ¬ F = T := fun e => n1 (by rw [e])
    have m2 : ¬ F = O := fun e => n2 (by rw [e])
    have g1 : (mvL us F T x).getD F 0 = us.getD F 0 - x := by rw [mvL_at x hF hT F hF, if_pos rfl, if_neg m1]; omega
    have g2 : (mvL us F O y).getD F 0 = us.getD F 0 - y := by rw [mvL_at y hF hO F hF, if_pos rfl, if_neg m2]; omega
    by_cases hh : us.getD F 0 < x + y
    · rw [mvE_few hV hy l1 l4 (by rw [Int.toNat_natCast, g1]; omega), mvE_few hV' hx l1 l2 (by rw [Int.toNat_natCast, g2]; omega)]
    · rw [mvE_ok hV hy l1 l4 (by rw [Int.toNat_natCast, g1]; omega), mvE_ok hV' hx l1 l2 (by rw [Int.toNat_natCast, g2]; omega)]
  · rw [mvR_ok z1, mvR_ok z2, Int.toNat_natCast, Int.toNat_natCast, Int.toNat_natCast]
    refine ext_getD (by rw [mvL_len, mvL_len, mvL_len, mvL_len]) fun j hj => ?_
    rw [mvL_len, mvL_len] at hj
    rw [mvL_at y (by rw [mvL_len]; exact hF) (by rw [mvL_len]; exact hO) j (by rw [mvL_len]; exact hj), mvL_at x hF hT j hj, mvL_at x (by rw [mvL_len]; exact hF) (by rw [mvL_len]; exact hT) j (by rw [mvL_len]; exact hj), mvL_at y hF hO j hj]
    split <;> split <;> split <;> omega
end

set_option maxRecDepth 100000 in
set_option maxHeartbeats 4000000 in
theorem back_a (A : Option Addr) (n cap : Nat) (A' : Option Addr) (m cap' : Nat) (f t o x y : Int) (w : World) (hn : n ≤ 9223372036854775807) (hm : m ≤ 9223372036854775807) (h : (decide (n ≤ 30) && decide (m ≤ 40)) = false) :
    Calls Try.prog 6 #[.slice A n cap, .slice A' m cap', .int .i64 f, .int .i64 t, .int .i64 o, .int .i64 x, .int .i64 y] w fun e w' => e = .returned (.bool true) ∧ Below w.heap.size w w' := by
  have HF := Lib.hid h
  clear h
  go_enter Try.func6, Try.ntmps6
  go_wp2_with (fail)
  refine (small_any _).mono ?_
  rintro e w1 ⟨rfl, hb1⟩
  have hB1 := hb1
  go_wp2_with (fail)
  go_must (refine (few_is _ hn hm HF.out).mono ?_)
  rintro e w2 ⟨rfl, hb2⟩
  have hB2 := Gen.over hb2 hB1
  go_wp2
  go_ret
  exact ⟨rfl, hB2⟩

set_option maxRecDepth 100000 in
set_option maxHeartbeats 4000000 in
theorem back_b (A : Option Addr) (n cap : Nat) (ss : List (Int × Int)) (A' : Option Addr) (m cap' : Nat) (us : List Int) (f t o x y : Int) (w : World) (hn : ss.length = n) (hc : Prs w A ss) (hm : us.length = m) (hc' : Ints w A' us) (hf : (decide (n ≤ 30) && decide (m ≤ 40)) = true)
    (hno : vd ss us = false ∨ x < 1 ∨ y < 1 ∨ 1000000000 < x ∨ 1000000000 < y) :
    Calls Try.prog 6 #[.slice A n cap, .slice A' m cap', .int .i64 f, .int .i64 t, .int .i64 o, .int .i64 x, .int .i64 y] w fun e w' => e = .returned (.bool true) ∧ Below w.heap.size w w' := by
  have HN := Lib.hid hn
  have HM := Lib.hid hm
  obtain ⟨f1, f2⟩ := few_in hf
  have HF := Lib.hid hf
  clear hn hm hf
  cases hv : vd ss us
  · have HV := Lib.hid hv
    clear hv hno
    go_enter Try.func6, Try.ntmps6
    go_wp2_with (fail)
    refine (small_any _).mono ?_
    rintro e w1 ⟨rfl, hb1⟩
    have hB1 := hb1
    go_wp2_with (fail)
    go_must (refine (few_is _ (by omega) (by omega) HF.out).mono ?_)
    rintro e w2 ⟨rfl, hb2⟩
    have hB2 := Gen.over hb2 hB1
    go_wp2_with (fail)
    go_must (refine (units_is _ HN.out (hc.keep hB2) (by omega) HM.out (hc'.keep hB2) (by omega) HV.out).mono ?_)
    rintro e w3 ⟨rfl, hb3⟩
    have hB3 := Gen.over hb3 hB2
    go_wp2
    go_ret
    exact ⟨rfl, hB3⟩
  have HV := Lib.hid hv
  rw [hv] at hno
  replace hno : x < 1 ∨ y < 1 ∨ 1000000000 < x ∨ 1000000000 < y := by
    rcases hno with h | h
    · cases h
    · exact h
  clear hv
  rcases (show x < 1 ∨ (1 ≤ x ∧ y < 1) ∨ (1 ≤ x ∧ 1 ≤ y ∧ 1000000000 < x) ∨ (1 ≤ x ∧ 1 ≤ y ∧ x ≤ 1000000000 ∧ 1000000000 < y) from by omega) with g1 | ⟨g1, g2⟩ | ⟨g1, g2, g3⟩ | ⟨g1, g2, g3, g4⟩
  all_goals
    clear hno
    go_enter Try.func6, Try.ntmps6
    go_wp2_with (fail)
    refine (small_any _).mono ?_
    rintro e w1 ⟨rfl, hb1⟩
    have hB1 := hb1
    go_wp2_with (fail)
    go_must (refine (few_is _ (by omega) (by omega) HF.out).mono ?_)
    rintro e w2 ⟨rfl, hb2⟩
    have hB2 := Gen.over hb2 hB1
    go_wp2_with (fail)
    go_must (refine (units_is _ HN.out (hc.keep hB2) (by omega) HM.out (hc'.keep hB2) (by omega) HV.out).mono ?_)
    rintro e w3 ⟨rfl, hb3⟩
    have hB3 := Gen.over hb3 hB2
    go_wp2
    go_ret
    exact ⟨rfl, hB3⟩

set_option maxRecDepth 100000 in
set_option maxHeartbeats 16000000 in
theorem back_no (A : Option Addr) (n cap : Nat) (ss : List (Int × Int)) (A' : Option Addr) (cap' : Nat) (us : List Int) (f t o x y : Int) (w : World) (hn : ss.length = n) (hc : Prs w A ss) (hm : us.length = ss.length) (hc' : Ints w A' us) (hf : (decide (n ≤ 30) && decide (n ≤ 40)) = true)
    (hv : vd ss us = true) (hx1 : 1 ≤ x) (hy1 : 1 ≤ y) (hx2 : x ≤ 1000000000) (hy2 : y ≤ 1000000000) (h1 : mvE ss us f t x ≠ 0) :
    Calls Try.prog 6 #[.slice A n cap, .slice A' n cap', .int .i64 f, .int .i64 t, .int .i64 o, .int .i64 x, .int .i64 y] w fun e w' => e = .returned (.bool true) ∧ Below w.heap.size w w' := by
  have HM := Lib.hid (show us.length = n by rw [hm, hn])
  have HN := Lib.hid hn
  obtain ⟨f1, f2⟩ := few_in hf
  have HF := Lib.hid hf
  have HV := Lib.hid hv
  have LEN := Lib.hid (show ∀ (P Q z : Int), (mvR ss us P Q z).length ≤ n from fun P Q z => mvR_len HM.out)
  obtain ⟨E3, h3⟩ : ∃ E, mvE ss us f o y = E := ⟨_, rfl⟩
  obtain ⟨L1, hL1⟩ : ∃ L, mvR ss us f t x = L := ⟨_, rfl⟩
  obtain ⟨L2, hL2⟩ : ∃ L, mvR ss us f t (x + y) = L := ⟨_, rfl⟩
  obtain ⟨L3, hL3⟩ : ∃ L, mvR ss us f o y = L := ⟨_, rfl⟩
  obtain ⟨q1, hq1⟩ : ∃ q, L1.length = q := ⟨_, rfl⟩
  obtain ⟨q2, hq2⟩ : ∃ q, L2.length = q := ⟨_, rfl⟩
  obtain ⟨q3, hq3⟩ : ∃ q, L3.length = q := ⟨_, rfl⟩
  have b1 : q1 ≤ n := by rw [← hq1, ← hL1]; exact LEN.out _ _ _
  have b2 : q2 ≤ n := by rw [← hq2, ← hL2]; exact LEN.out _ _ _
  have b3 : q3 ≤ n := by rw [← hq3, ← hL3]; exact LEN.out _ _ _
  have HL1 := Lib.hid hL1
  have HL2 := Lib.hid hL2
  have HL3 := Lib.hid hL3
  have HQ1 := Lib.hid hq1
  have HQ2 := Lib.hid hq2
  have HQ3 := Lib.hid hq3
  clear hn hm hf hv hL1 hL2 hL3 hq1 hq2 hq3
  obtain ⟨E1, h1e⟩ : ∃ E, mvE ss us f t x = E := ⟨_, rfl⟩
  obtain ⟨E2, h2e⟩ : ∃ E, mvE ss us f t (x + y) = E := ⟨_, rfl⟩
  have e1 : (E1 == 0) = false := by rw [← h1e]; simpa using h1
  have e2 : (E2 == 0) = false := by
    rw [← h2e, beq_eq_false_iff_ne]
    intro h
    obtain ⟨a, b, c⟩ := mvE_zero HV.out (by omega) h
    exact h1 (mvE_ok HV.out hx1 a b (by omega))
  have H1 := Lib.hid h1e
  have H2 := Lib.hid h2e
  have H3 := Lib.hid h3
  clear h1 h1e h2e h3
  go_enter Try.func6, Try.ntmps6
  go_wp2_with (fail)
  refine (small_any _).mono ?_
  rintro e w1 ⟨rfl, hb1⟩
  have hB1 := hb1
  go_wp2_with (fail)
  go_must (refine (few_is _ (by omega) (by omega) HF.out).mono ?_)
  rintro e w2 ⟨rfl, hb2⟩
  have hB2 := Gen.over hb2 hB1
  go_wp2_with (fail)
  go_must (refine (units_is _ HN.out (hc.keep hB2) (by omega) HM.out (hc'.keep hB2) (by omega) HV.out).mono ?_)
  rintro e w3 ⟨rfl, hb3⟩
  have hB3 := Gen.over hb3 hB2
  go_wp2_with (fail)
  go_must (refine (move_l _ HN.out (hc.keep hB3) (by omega) HM.out (hc'.keep hB3) (by omega) H1.out HL1.out HQ1.out).mono ?_)
  rintro e w4 ⟨A1, _, rfl, hb4, i1⟩
  have hB4 := Gen.over hb4 hB3
  go_wp2_with (fail)
  go_must (refine (move_l _ HN.out (hc.keep hB4) (by omega) HM.out (hc'.keep hB4) (by omega) H2.out HL2.out HQ2.out).mono ?_)
  rintro e w5 ⟨A2, _, rfl, hb5, i2⟩
  have hB5 := Gen.over hb5 hB4
  replace i1 := i1.keep hb5
  go_wp2_with (fail)
  go_must (refine (move_l _ HN.out (hc.keep hB5) (by omega) HM.out (hc'.keep hB5) (by omega) H3.out HL3.out HQ3.out).mono ?_)
  rintro e w6 ⟨A3, _, rfl, hb6, i3⟩
  have hB6 := Gen.over hb6 hB5
  replace i1 := i1.keep hb6
  replace i2 := i2.keep hb6
  go_wp2
  go_ret
  exact ⟨rfl, hB6⟩

set_option maxRecDepth 100000 in
set_option maxHeartbeats 16000000 in
theorem back_eq (A : Option Addr) (n cap : Nat) (ss : List (Int × Int)) (A' : Option Addr) (cap' : Nat) (us : List Int) (f t o x y : Int) (w : World) (hn : ss.length = n) (hc : Prs w A ss) (hm : us.length = ss.length) (hc' : Ints w A' us) (hf : (decide (n ≤ 30) && decide (n ≤ 40)) = true)
    (hv : vd ss us = true) (hx1 : 1 ≤ x) (hy1 : 1 ≤ y) (hx2 : x ≤ 1000000000) (hy2 : y ≤ 1000000000) (h1 : mvE ss us f t x = 0) (hft : f = t) :
    Calls Try.prog 6 #[.slice A n cap, .slice A' n cap', .int .i64 f, .int .i64 t, .int .i64 o, .int .i64 x, .int .i64 y] w fun e w' => e = .returned (.bool true) ∧ Below w.heap.size w w' := by
  have HM := Lib.hid (show us.length = n by rw [hm, hn])
  have HN := Lib.hid hn
  obtain ⟨f1, f2⟩ := few_in hf
  have HF := Lib.hid hf
  have HV := Lib.hid hv
  have LEN := Lib.hid (show ∀ (P Q z : Int), (mvR ss us P Q z).length ≤ n from fun P Q z => mvR_len HM.out)
  obtain ⟨E3, h3⟩ : ∃ E, mvE ss us f o y = E := ⟨_, rfl⟩
  obtain ⟨L1, hL1⟩ : ∃ L, mvR ss us f t x = L := ⟨_, rfl⟩
  obtain ⟨L2, hL2⟩ : ∃ L, mvR ss us f t (x + y) = L := ⟨_, rfl⟩
  obtain ⟨L3, hL3⟩ : ∃ L, mvR ss us f o y = L := ⟨_, rfl⟩
  obtain ⟨q1, hq1⟩ : ∃ q, L1.length = q := ⟨_, rfl⟩
  obtain ⟨q2, hq2⟩ : ∃ q, L2.length = q := ⟨_, rfl⟩
  obtain ⟨q3, hq3⟩ : ∃ q, L3.length = q := ⟨_, rfl⟩
  have b1 : q1 ≤ n := by rw [← hq1, ← hL1]; exact LEN.out _ _ _
  have b2 : q2 ≤ n := by rw [← hq2, ← hL2]; exact LEN.out _ _ _
  have b3 : q3 ≤ n := by rw [← hq3, ← hL3]; exact LEN.out _ _ _
  have HL1 := Lib.hid hL1
  have HL2 := Lib.hid hL2
  have HL3 := Lib.hid hL3
  have HQ1 := Lib.hid hq1
  have HQ2 := Lib.hid hq2
  have HQ3 := Lib.hid hq3
  clear hn hm hf hv hL1 hL2 hL3 hq1 hq2 hq3
  obtain ⟨P1, P2, P3, P4⟩ := back_p1 HV.out hx1 h1 HL1.out
  have p0 : q1 = n := by rw [← HQ1.out, P2, HM.out]
  have H1 := Lib.hid h1
  have HV1 := Lib.hid P1
  have HE4 := Lib.hid P3
  have HL4 := Lib.hid P4
  subst p0
  clear h1 P1 P2 P3 P4
  have n1 : (f != t) = false := by rw [hft]; simp
  have HFT := Lib.hid hft
  clear hft
  by_cases h2 : mvE ss us f t (x + y) = 0
  · have H2 := Lib.hid h2
    clear h2
    by_cases h30 : E3 = 0
    · subst h30
      obtain ⟨S1, S2, S3, S4⟩ := back_p3 HV.out hx1 hy1 H1.out h3 HL1.out HL3.out
      have p3 : q3 = q1 := by rw [← HQ3.out, (back_p1 HV.out hy1 h3 HL3.out).2.1, HM.out]
      have H3 := Lib.hid h3
      have HV3 := Lib.hid (back_p1 HV.out hy1 h3 HL3.out).1
      obtain ⟨L6, hL6⟩ : ∃ L, mvR ss L1 f o y = L := ⟨_, rfl⟩
      obtain ⟨L7, hL7⟩ : ∃ L, mvR ss L3 f t x = L := ⟨_, rfl⟩
      obtain ⟨q6, hq6⟩ : ∃ q, L6.length = q := ⟨_, rfl⟩
      obtain ⟨q7, hq7⟩ : ∃ q, L7.length = q := ⟨_, rfl⟩
      have b6 : q6 ≤ q1 := by rw [← hq6, ← hL6]; exact mvR_len HQ1.out
      have b7 : q7 ≤ q1 := by rw [← hq7, ← hL7, ← p3]; exact mvR_len HQ3.out
      have HL6 := Lib.hid hL6
      have HL7 := Lib.hid hL7
      have HQ6 := Lib.hid hq6
      have HQ7 := Lib.hid hq7
      subst p3
      clear h3 hL6 hL7 hq6 hq7
      rcases S1 with s1 | s1 <;> rcases S2 with s2 | s2
      · have e67 : L6 = L7 := by rw [← HL6.out, ← HL7.out]; exact S4 s1 s2
        subst e67
        have q67 : q6 = q7 := by rw [← HQ6.out, HQ7.out]
        subst q67
        have HS1 := Lib.hid s1
        have HS2 := Lib.hid s2
        clear s1 s2 S3 S4
        go_enter Try.func6, Try.ntmps6
        go_wp2_with (fail)
        refine (small_any _).mono ?_
        rintro e w1 ⟨rfl, hb1⟩
        have hB1 := hb1
        go_wp2_with (fail)
        go_must (refine (few_is _ (by omega) (by omega) HF.out).mono ?_)
        rintro e w2 ⟨rfl, hb2⟩
        have hB2 := Gen.over hb2 hB1
        go_wp2_with (fail)
        go_must (refine (units_is _ HN.out (hc.keep hB2) (by omega) HM.out (hc'.keep hB2) (by omega) HV.out).mono ?_)
        rintro e w3 ⟨rfl, hb3⟩
        have hB3 := Gen.over hb3 hB2
        go_wp2_with (fail)
        go_must (refine (move_l _ HN.out (hc.keep hB3) (by omega) HM.out (hc'.keep hB3) (by omega) H1.out HL1.out HQ1.out).mono ?_)
        rintro e w4 ⟨A1, _, rfl, hb4, i1⟩
        have hB4 := Gen.over hb4 hB3
        go_wp2_with (fail)
        go_must (refine (move_l _ HN.out (hc.keep hB4) (by omega) HM.out (hc'.keep hB4) (by omega) H2.out HL2.out HQ2.out).mono ?_)
        rintro e w5 ⟨A2, _, rfl, hb5, i2⟩
        have hB5 := Gen.over hb5 hB4
        replace i1 := i1.keep hb5
        go_wp2_with (fail)
        go_must (refine (move_l _ HN.out (hc.keep hB5) (by omega) HM.out (hc'.keep hB5) (by omega) H3.out HL3.out HQ3.out).mono ?_)
        rintro e w6 ⟨A3, _, rfl, hb6, i3⟩
        have hB6 := Gen.over hb6 hB5
        replace i1 := i1.keep hb6
        replace i2 := i2.keep hb6
        go_wp2_with (fail)
        go_must (refine (move_l _ HN.out (hc.keep hB6) (by omega) HQ1.out i1 (by omega) HE4.out HL4.out HM.out).mono ?_)
        rintro e w7 ⟨A4, _, rfl, hb7, i4⟩
        have hB7 := Gen.over hb7 hB6
        replace i1 := i1.keep hb7
        replace i2 := i2.keep hb7
        replace i3 := i3.keep hb7
        go_wp2_with (fail)
        go_must (refine (ints_is _ HM.out i4 (by omega) HM.out (hc'.keep hB7) (by omega) (show iEq us us = true from decide_eq_true rfl)).mono ?_)
        rintro e w8 ⟨rfl, hb8⟩
        have hB8 := Gen.over hb8 hB7
        replace i1 := i1.keep hb8
        replace i2 := i2.keep hb8
        replace i3 := i3.keep hb8
        replace i4 := i4.keep hb8
        go_wp2_with (fail)
        go_must (refine (move_l _ HN.out (hc.keep hB8) (by omega) HQ1.out i1 (by omega) HS1.out HL6.out HQ6.out).mono ?_)
        rintro e w9 ⟨A6, _, rfl, hb9, i6⟩
        have hB9 := Gen.over hb9 hB8
        replace i1 := i1.keep hb9
        replace i2 := i2.keep hb9
        replace i3 := i3.keep hb9
        replace i4 := i4.keep hb9
        go_wp2_with (fail)
        go_must (refine (move_l _ HN.out (hc.keep hB9) (by omega) HQ3.out i3 (by omega) HS2.out HL7.out HQ7.out).mono ?_)
        rintro e w10 ⟨A7, _, rfl, hb10, i7⟩
        have hB10 := Gen.over hb10 hB9
        replace i1 := i1.keep hb10
        replace i2 := i2.keep hb10
        replace i3 := i3.keep hb10
        replace i4 := i4.keep hb10
        replace i6 := i6.keep hb10
        go_wp2_with (fail)
        go_must (refine (ints_is _ HQ6.out i6 (by omega) HQ6.out i7 (by omega) (show iEq L6 L6 = true from decide_eq_true rfl)).mono ?_)
        rintro e w11 ⟨rfl, hb11⟩
        have hB11 := Gen.over hb11 hB10
        replace i1 := i1.keep hb11
        replace i2 := i2.keep hb11
        replace i3 := i3.keep hb11
        replace i4 := i4.keep hb11
        replace i6 := i6.keep hb11
        replace i7 := i7.keep hb11
        go_wp2
        go_ret
        exact ⟨rfl, hB11⟩
      · have HS1 := Lib.hid s1
        have HS2 := Lib.hid s2
        clear s1 s2 S3 S4
        go_enter Try.func6, Try.ntmps6
        go_wp2_with (fail)
        refine (small_any _).mono ?_
        rintro e w1 ⟨rfl, hb1⟩
        have hB1 := hb1
        go_wp2_with (fail)
        go_must (refine (few_is _ (by omega) (by omega) HF.out).mono ?_)
        rintro e w2 ⟨rfl, hb2⟩
        have hB2 := Gen.over hb2 hB1
        go_wp2_with (fail)
        go_must (refine (units_is _ HN.out (hc.keep hB2) (by omega) HM.out (hc'.keep hB2) (by omega) HV.out).mono ?_)
        rintro e w3 ⟨rfl, hb3⟩
        have hB3 := Gen.over hb3 hB2
        go_wp2_with (fail)
        go_must (refine (move_l _ HN.out (hc.keep hB3) (by omega) HM.out (hc'.keep hB3) (by omega) H1.out HL1.out HQ1.out).mono ?_)
        rintro e w4 ⟨A1, _, rfl, hb4, i1⟩
        have hB4 := Gen.over hb4 hB3
        go_wp2_with (fail)
        go_must (refine (move_l _ HN.out (hc.keep hB4) (by omega) HM.out (hc'.keep hB4) (by omega) H2.out HL2.out HQ2.out).mono ?_)
        rintro e w5 ⟨A2, _, rfl, hb5, i2⟩
        have hB5 := Gen.over hb5 hB4
        replace i1 := i1.keep hb5
        go_wp2_with (fail)
        go_must (refine (move_l _ HN.out (hc.keep hB5) (by omega) HM.out (hc'.keep hB5) (by omega) H3.out HL3.out HQ3.out).mono ?_)
        rintro e w6 ⟨A3, _, rfl, hb6, i3⟩
        have hB6 := Gen.over hb6 hB5
        replace i1 := i1.keep hb6
        replace i2 := i2.keep hb6
        go_wp2_with (fail)
        go_must (refine (move_l _ HN.out (hc.keep hB6) (by omega) HQ1.out i1 (by omega) HE4.out HL4.out HM.out).mono ?_)
        rintro e w7 ⟨A4, _, rfl, hb7, i4⟩
        have hB7 := Gen.over hb7 hB6
        replace i1 := i1.keep hb7
        replace i2 := i2.keep hb7
        replace i3 := i3.keep hb7
        go_wp2_with (fail)
        go_must (refine (ints_is _ HM.out i4 (by omega) HM.out (hc'.keep hB7) (by omega) (show iEq us us = true from decide_eq_true rfl)).mono ?_)
        rintro e w8 ⟨rfl, hb8⟩
        have hB8 := Gen.over hb8 hB7
        replace i1 := i1.keep hb8
        replace i2 := i2.keep hb8
        replace i3 := i3.keep hb8
        replace i4 := i4.keep hb8
        go_wp2_with (fail)
        go_must (refine (move_l _ HN.out (hc.keep hB8) (by omega) HQ1.out i1 (by omega) HS1.out HL6.out HQ6.out).mono ?_)
        rintro e w9 ⟨A6, _, rfl, hb9, i6⟩
        have hB9 := Gen.over hb9 hB8
        replace i1 := i1.keep hb9
        replace i2 := i2.keep hb9
        replace i3 := i3.keep hb9
        replace i4 := i4.keep hb9
        go_wp2_with (fail)
        go_must (refine (move_l _ HN.out (hc.keep hB9) (by omega) HQ3.out i3 (by omega) HS2.out HL7.out HQ7.out).mono ?_)
        rintro e w10 ⟨A7, _, rfl, hb10, i7⟩
        have hB10 := Gen.over hb10 hB9
        replace i1 := i1.keep hb10
        replace i2 := i2.keep hb10
        replace i3 := i3.keep hb10
        replace i4 := i4.keep hb10
        replace i6 := i6.keep hb10
        go_wp2
        go_ret
        exact ⟨rfl, hB10⟩
      · have HS1 := Lib.hid s1
        have HS2 := Lib.hid s2
        clear s1 s2 S3 S4
        go_enter Try.func6, Try.ntmps6
        go_wp2_with (fail)
        refine (small_any _).mono ?_
        rintro e w1 ⟨rfl, hb1⟩
        have hB1 := hb1
        go_wp2_with (fail)
        go_must (refine (few_is _ (by omega) (by omega) HF.out).mono ?_)
        rintro e w2 ⟨rfl, hb2⟩
        have hB2 := Gen.over hb2 hB1
        go_wp2_with (fail)
        go_must (refine (units_is _ HN.out (hc.keep hB2) (by omega) HM.out (hc'.keep hB2) (by omega) HV.out).mono ?_)
        rintro e w3 ⟨rfl, hb3⟩
        have hB3 := Gen.over hb3 hB2
        go_wp2_with (fail)
        go_must (refine (move_l _ HN.out (hc.keep hB3) (by omega) HM.out (hc'.keep hB3) (by omega) H1.out HL1.out HQ1.out).mono ?_)
        rintro e w4 ⟨A1, _, rfl, hb4, i1⟩
        have hB4 := Gen.over hb4 hB3
        go_wp2_with (fail)
        go_must (refine (move_l _ HN.out (hc.keep hB4) (by omega) HM.out (hc'.keep hB4) (by omega) H2.out HL2.out HQ2.out).mono ?_)
        rintro e w5 ⟨A2, _, rfl, hb5, i2⟩
        have hB5 := Gen.over hb5 hB4
        replace i1 := i1.keep hb5
        go_wp2_with (fail)
        go_must (refine (move_l _ HN.out (hc.keep hB5) (by omega) HM.out (hc'.keep hB5) (by omega) H3.out HL3.out HQ3.out).mono ?_)
        rintro e w6 ⟨A3, _, rfl, hb6, i3⟩
        have hB6 := Gen.over hb6 hB5
        replace i1 := i1.keep hb6
        replace i2 := i2.keep hb6
        go_wp2_with (fail)
        go_must (refine (move_l _ HN.out (hc.keep hB6) (by omega) HQ1.out i1 (by omega) HE4.out HL4.out HM.out).mono ?_)
        rintro e w7 ⟨A4, _, rfl, hb7, i4⟩
        have hB7 := Gen.over hb7 hB6
        replace i1 := i1.keep hb7
        replace i2 := i2.keep hb7
        replace i3 := i3.keep hb7
        go_wp2_with (fail)
        go_must (refine (ints_is _ HM.out i4 (by omega) HM.out (hc'.keep hB7) (by omega) (show iEq us us = true from decide_eq_true rfl)).mono ?_)
        rintro e w8 ⟨rfl, hb8⟩
        have hB8 := Gen.over hb8 hB7
        replace i1 := i1.keep hb8
        replace i2 := i2.keep hb8
        replace i3 := i3.keep hb8
        replace i4 := i4.keep hb8
        go_wp2_with (fail)
        go_must (refine (move_l _ HN.out (hc.keep hB8) (by omega) HQ1.out i1 (by omega) HS1.out HL6.out HQ6.out).mono ?_)
        rintro e w9 ⟨A6, _, rfl, hb9, i6⟩
        have hB9 := Gen.over hb9 hB8
        replace i1 := i1.keep hb9
        replace i2 := i2.keep hb9
        replace i3 := i3.keep hb9
        replace i4 := i4.keep hb9
        go_wp2_with (fail)
        go_must (refine (move_l _ HN.out (hc.keep hB9) (by omega) HQ3.out i3 (by omega) HS2.out HL7.out HQ7.out).mono ?_)
        rintro e w10 ⟨A7, _, rfl, hb10, i7⟩
        have hB10 := Gen.over hb10 hB9
        replace i1 := i1.keep hb10
        replace i2 := i2.keep hb10
        replace i3 := i3.keep hb10
        replace i4 := i4.keep hb10
        replace i6 := i6.keep hb10
        go_wp2
        go_ret
        exact ⟨rfl, hB10⟩
      · have HS1 := Lib.hid s1
        have HS2 := Lib.hid s2
        clear s1 s2 S3 S4
        go_enter Try.func6, Try.ntmps6
        go_wp2_with (fail)
        refine (small_any _).mono ?_
        rintro e w1 ⟨rfl, hb1⟩
        have hB1 := hb1
        go_wp2_with (fail)
        go_must (refine (few_is _ (by omega) (by omega) HF.out).mono ?_)
        rintro e w2 ⟨rfl, hb2⟩
        have hB2 := Gen.over hb2 hB1
        go_wp2_with (fail)
        go_must (refine (units_is _ HN.out (hc.keep hB2) (by omega) HM.out (hc'.keep hB2) (by omega) HV.out).mono ?_)
        rintro e w3 ⟨rfl, hb3⟩
        have hB3 := Gen.over hb3 hB2
        go_wp2_with (fail)
        go_must (refine (move_l _ HN.out (hc.keep hB3) (by omega) HM.out (hc'.keep hB3) (by omega) H1.out HL1.out HQ1.out).mono ?_)
        rintro e w4 ⟨A1, _, rfl, hb4, i1⟩
        have hB4 := Gen.over hb4 hB3
        go_wp2_with (fail)
        go_must (refine (move_l _ HN.out (hc.keep hB4) (by omega) HM.out (hc'.keep hB4) (by omega) H2.out HL2.out HQ2.out).mono ?_)
        rintro e w5 ⟨A2, _, rfl, hb5, i2⟩
        have hB5 := Gen.over hb5 hB4
        replace i1 := i1.keep hb5
        go_wp2_with (fail)
        go_must (refine (move_l _ HN.out (hc.keep hB5) (by omega) HM.out (hc'.keep hB5) (by omega) H3.out HL3.out HQ3.out).mono ?_)
        rintro e w6 ⟨A3, _, rfl, hb6, i3⟩
        have hB6 := Gen.over hb6 hB5
        replace i1 := i1.keep hb6
        replace i2 := i2.keep hb6
        go_wp2_with (fail)
        go_must (refine (move_l _ HN.out (hc.keep hB6) (by omega) HQ1.out i1 (by omega) HE4.out HL4.out HM.out).mono ?_)
        rintro e w7 ⟨A4, _, rfl, hb7, i4⟩
        have hB7 := Gen.over hb7 hB6
        replace i1 := i1.keep hb7
        replace i2 := i2.keep hb7
        replace i3 := i3.keep hb7
        go_wp2_with (fail)
        go_must (refine (ints_is _ HM.out i4 (by omega) HM.out (hc'.keep hB7) (by omega) (show iEq us us = true from decide_eq_true rfl)).mono ?_)
        rintro e w8 ⟨rfl, hb8⟩
        have hB8 := Gen.over hb8 hB7
        replace i1 := i1.keep hb8
        replace i2 := i2.keep hb8
        replace i3 := i3.keep hb8
        replace i4 := i4.keep hb8
        go_wp2_with (fail)
        go_must (refine (move_l _ HN.out (hc.keep hB8) (by omega) HQ1.out i1 (by omega) HS1.out HL6.out HQ6.out).mono ?_)
        rintro e w9 ⟨A6, _, rfl, hb9, i6⟩
        have hB9 := Gen.over hb9 hB8
        replace i1 := i1.keep hb9
        replace i2 := i2.keep hb9
        replace i3 := i3.keep hb9
        replace i4 := i4.keep hb9
        go_wp2_with (fail)
        go_must (refine (move_l _ HN.out (hc.keep hB9) (by omega) HQ3.out i3 (by omega) HS2.out HL7.out HQ7.out).mono ?_)
        rintro e w10 ⟨A7, _, rfl, hb10, i7⟩
        have hB10 := Gen.over hb10 hB9
        replace i1 := i1.keep hb10
        replace i2 := i2.keep hb10
        replace i3 := i3.keep hb10
        replace i4 := i4.keep hb10
        replace i6 := i6.keep hb10
        go_wp2
        go_ret
        exact ⟨rfl, hB10⟩
    · have e3 : (E3 == 0) = false := by simpa using h30
      have H3 := Lib.hid h3
      clear h30 h3
      go_enter Try.func6, Try.ntmps6
      go_wp2_with (fail)
      refine (small_any _).mono ?_
      rintro e w1 ⟨rfl, hb1⟩
      have hB1 := hb1
      go_wp2_with (fail)
      go_must (refine (few_is _ (by omega) (by omega) HF.out).mono ?_)
      rintro e w2 ⟨rfl, hb2⟩
      have hB2 := Gen.over hb2 hB1
      go_wp2_with (fail)
      go_must (refine (units_is _ HN.out (hc.keep hB2) (by omega) HM.out (hc'.keep hB2) (by omega) HV.out).mono ?_)
      rintro e w3 ⟨rfl, hb3⟩
      have hB3 := Gen.over hb3 hB2
      go_wp2_with (fail)
      go_must (refine (move_l _ HN.out (hc.keep hB3) (by omega) HM.out (hc'.keep hB3) (by omega) H1.out HL1.out HQ1.out).mono ?_)
      rintro e w4 ⟨A1, _, rfl, hb4, i1⟩
      have hB4 := Gen.over hb4 hB3
      go_wp2_with (fail)
      go_must (refine (move_l _ HN.out (hc.keep hB4) (by omega) HM.out (hc'.keep hB4) (by omega) H2.out HL2.out HQ2.out).mono ?_)
      rintro e w5 ⟨A2, _, rfl, hb5, i2⟩
      have hB5 := Gen.over hb5 hB4
      replace i1 := i1.keep hb5
      go_wp2_with (fail)
      go_must (refine (move_l _ HN.out (hc.keep hB5) (by omega) HM.out (hc'.keep hB5) (by omega) H3.out HL3.out HQ3.out).mono ?_)
      rintro e w6 ⟨A3, _, rfl, hb6, i3⟩
      have hB6 := Gen.over hb6 hB5
      replace i1 := i1.keep hb6
      replace i2 := i2.keep hb6
      go_wp2_with (fail)
      go_must (refine (move_l _ HN.out (hc.keep hB6) (by omega) HQ1.out i1 (by omega) HE4.out HL4.out HM.out).mono ?_)
      rintro e w7 ⟨A4, _, rfl, hb7, i4⟩
      have hB7 := Gen.over hb7 hB6
      replace i1 := i1.keep hb7
      replace i2 := i2.keep hb7
      replace i3 := i3.keep hb7
      go_wp2_with (fail)
      go_must (refine (ints_is _ HM.out i4 (by omega) HM.out (hc'.keep hB7) (by omega) (show iEq us us = true from decide_eq_true rfl)).mono ?_)
      rintro e w8 ⟨rfl, hb8⟩
      have hB8 := Gen.over hb8 hB7
      replace i1 := i1.keep hb8
      replace i2 := i2.keep hb8
      replace i3 := i3.keep hb8
      replace i4 := i4.keep hb8
      go_wp2
      go_ret
      exact ⟨rfl, hB8⟩
  · obtain ⟨E2, h2e⟩ : ∃ E, mvE ss us f t (x + y) = E := ⟨_, rfl⟩
    have e2 : (E2 == 0) = false := by rw [← h2e]; simpa using h2
    have H2 := Lib.hid h2e
    clear h2 h2e
    by_cases h30 : E3 = 0
    · subst h30
      obtain ⟨S1, S2, S3, S4⟩ := back_p3 HV.out hx1 hy1 H1.out h3 HL1.out HL3.out
      have p3 : q3 = q1 := by rw [← HQ3.out, (back_p1 HV.out hy1 h3 HL3.out).2.1, HM.out]
      have H3 := Lib.hid h3
      have HV3 := Lib.hid (back_p1 HV.out hy1 h3 HL3.out).1
      obtain ⟨L6, hL6⟩ : ∃ L, mvR ss L1 f o y = L := ⟨_, rfl⟩
      obtain ⟨L7, hL7⟩ : ∃ L, mvR ss L3 f t x = L := ⟨_, rfl⟩
      obtain ⟨q6, hq6⟩ : ∃ q, L6.length = q := ⟨_, rfl⟩
      obtain ⟨q7, hq7⟩ : ∃ q, L7.length = q := ⟨_, rfl⟩
      have b6 : q6 ≤ q1 := by rw [← hq6, ← hL6]; exact mvR_len HQ1.out
      have b7 : q7 ≤ q1 := by rw [← hq7, ← hL7, ← p3]; exact mvR_len HQ3.out
      have HL6 := Lib.hid hL6
      have HL7 := Lib.hid hL7
      have HQ6 := Lib.hid hq6
      have HQ7 := Lib.hid hq7
      subst p3
      clear h3 hL6 hL7 hq6 hq7
      rcases S1 with s1 | s1 <;> rcases S2 with s2 | s2
      · have e67 : L6 = L7 := by rw [← HL6.out, ← HL7.out]; exact S4 s1 s2
        subst e67
        have q67 : q6 = q7 := by rw [← HQ6.out, HQ7.out]
        subst q67
        have HS1 := Lib.hid s1
        have HS2 := Lib.hid s2
        clear s1 s2 S3 S4
        go_enter Try.func6, Try.ntmps6
        go_wp2_with (fail)
        refine (small_any _).mono ?_
        rintro e w1 ⟨rfl, hb1⟩
        have hB1 := hb1
        go_wp2_with (fail)
        go_must (refine (few_is _ (by omega) (by omega) HF.out).mono ?_)
        rintro e w2 ⟨rfl, hb2⟩
        have hB2 := Gen.over hb2 hB1
        go_wp2_with (fail)
        go_must (refine (units_is _ HN.out (hc.keep hB2) (by omega) HM.out (hc'.keep hB2) (by omega) HV.out).mono ?_)
        rintro e w3 ⟨rfl, hb3⟩
        have hB3 := Gen.over hb3 hB2
        go_wp2_with (fail)
        go_must (refine (move_l _ HN.out (hc.keep hB3) (by omega) HM.out (hc'.keep hB3) (by omega) H1.out HL1.out HQ1.out).mono ?_)
        rintro e w4 ⟨A1, _, rfl, hb4, i1⟩
        have hB4 := Gen.over hb4 hB3
        go_wp2_with (fail)
        go_must (refine (move_l _ HN.out (hc.keep hB4) (by omega) HM.out (hc'.keep hB4) (by omega) H2.out HL2.out HQ2.out).mono ?_)
        rintro e w5 ⟨A2, _, rfl, hb5, i2⟩
        have hB5 := Gen.over hb5 hB4
        replace i1 := i1.keep hb5
        go_wp2_with (fail)
        go_must (refine (move_l _ HN.out (hc.keep hB5) (by omega) HM.out (hc'.keep hB5) (by omega) H3.out HL3.out HQ3.out).mono ?_)
        rintro e w6 ⟨A3, _, rfl, hb6, i3⟩
        have hB6 := Gen.over hb6 hB5
        replace i1 := i1.keep hb6
        replace i2 := i2.keep hb6
        go_wp2_with (fail)
        go_must (refine (move_l _ HN.out (hc.keep hB6) (by omega) HQ1.out i1 (by omega) HE4.out HL4.out HM.out).mono ?_)
        rintro e w7 ⟨A4, _, rfl, hb7, i4⟩
        have hB7 := Gen.over hb7 hB6
        replace i1 := i1.keep hb7
        replace i2 := i2.keep hb7
        replace i3 := i3.keep hb7
        go_wp2_with (fail)
        go_must (refine (ints_is _ HM.out i4 (by omega) HM.out (hc'.keep hB7) (by omega) (show iEq us us = true from decide_eq_true rfl)).mono ?_)
        rintro e w8 ⟨rfl, hb8⟩
        have hB8 := Gen.over hb8 hB7
        replace i1 := i1.keep hb8
        replace i2 := i2.keep hb8
        replace i3 := i3.keep hb8
        replace i4 := i4.keep hb8
        go_wp2_with (fail)
        go_must (refine (move_l _ HN.out (hc.keep hB8) (by omega) HQ1.out i1 (by omega) HS1.out HL6.out HQ6.out).mono ?_)
        rintro e w9 ⟨A6, _, rfl, hb9, i6⟩
        have hB9 := Gen.over hb9 hB8
        replace i1 := i1.keep hb9
        replace i2 := i2.keep hb9
        replace i3 := i3.keep hb9
        replace i4 := i4.keep hb9
        go_wp2_with (fail)
        go_must (refine (move_l _ HN.out (hc.keep hB9) (by omega) HQ3.out i3 (by omega) HS2.out HL7.out HQ7.out).mono ?_)
        rintro e w10 ⟨A7, _, rfl, hb10, i7⟩
        have hB10 := Gen.over hb10 hB9
        replace i1 := i1.keep hb10
        replace i2 := i2.keep hb10
        replace i3 := i3.keep hb10
        replace i4 := i4.keep hb10
        replace i6 := i6.keep hb10
        go_wp2_with (fail)
        go_must (refine (ints_is _ HQ6.out i6 (by omega) HQ6.out i7 (by omega) (show iEq L6 L6 = true from decide_eq_true rfl)).mono ?_)
        rintro e w11 ⟨rfl, hb11⟩
        have hB11 := Gen.over hb11 hB10
        replace i1 := i1.keep hb11
        replace i2 := i2.keep hb11
        replace i3 := i3.keep hb11
        replace i4 := i4.keep hb11
        replace i6 := i6.keep hb11
        replace i7 := i7.keep hb11
        go_wp2
        go_ret
        exact ⟨rfl, hB11⟩
      · have HS1 := Lib.hid s1
        have HS2 := Lib.hid s2
        clear s1 s2 S3 S4
        go_enter Try.func6, Try.ntmps6
        go_wp2_with (fail)
        refine (small_any _).mono ?_
        rintro e w1 ⟨rfl, hb1⟩
        have hB1 := hb1
        go_wp2_with (fail)
        go_must (refine (few_is _ (by omega) (by omega) HF.out).mono ?_)
        rintro e w2 ⟨rfl, hb2⟩
        have hB2 := Gen.over hb2 hB1
        go_wp2_with (fail)
        go_must (refine (units_is _ HN.out (hc.keep hB2) (by omega) HM.out (hc'.keep hB2) (by omega) HV.out).mono ?_)
        rintro e w3 ⟨rfl, hb3⟩
        have hB3 := Gen.over hb3 hB2
        go_wp2_with (fail)
        go_must (refine (move_l _ HN.out (hc.keep hB3) (by omega) HM.out (hc'.keep hB3) (by omega) H1.out HL1.out HQ1.out).mono ?_)
        rintro e w4 ⟨A1, _, rfl, hb4, i1⟩
        have hB4 := Gen.over hb4 hB3
        go_wp2_with (fail)
        go_must (refine (move_l _ HN.out (hc.keep hB4) (by omega) HM.out (hc'.keep hB4) (by omega) H2.out HL2.out HQ2.out).mono ?_)
        rintro e w5 ⟨A2, _, rfl, hb5, i2⟩
        have hB5 := Gen.over hb5 hB4
        replace i1 := i1.keep hb5
        go_wp2_with (fail)
        go_must (refine (move_l _ HN.out (hc.keep hB5) (by omega) HM.out (hc'.keep hB5) (by omega) H3.out HL3.out HQ3.out).mono ?_)
        rintro e w6 ⟨A3, _, rfl, hb6, i3⟩
        have hB6 := Gen.over hb6 hB5
        replace i1 := i1.keep hb6
        replace i2 := i2.keep hb6
        go_wp2_with (fail)
        go_must (refine (move_l _ HN.out (hc.keep hB6) (by omega) HQ1.out i1 (by omega) HE4.out HL4.out HM.out).mono ?_)
        rintro e w7 ⟨A4, _, rfl, hb7, i4⟩
        have hB7 := Gen.over hb7 hB6
        replace i1 := i1.keep hb7
        replace i2 := i2.keep hb7
        replace i3 := i3.keep hb7
        go_wp2_with (fail)
        go_must (refine (ints_is _ HM.out i4 (by omega) HM.out (hc'.keep hB7) (by omega) (show iEq us us = true from decide_eq_true rfl)).mono ?_)
        rintro e w8 ⟨rfl, hb8⟩
        have hB8 := Gen.over hb8 hB7
        replace i1 := i1.keep hb8
        replace i2 := i2.keep hb8
        replace i3 := i3.keep hb8
        replace i4 := i4.keep hb8
        go_wp2_with (fail)
        go_must (refine (move_l _ HN.out (hc.keep hB8) (by omega) HQ1.out i1 (by omega) HS1.out HL6.out HQ6.out).mono ?_)
        rintro e w9 ⟨A6, _, rfl, hb9, i6⟩
        have hB9 := Gen.over hb9 hB8
        replace i1 := i1.keep hb9
        replace i2 := i2.keep hb9
        replace i3 := i3.keep hb9
        replace i4 := i4.keep hb9
        go_wp2_with (fail)
        go_must (refine (move_l _ HN.out (hc.keep hB9) (by omega) HQ3.out i3 (by omega) HS2.out HL7.out HQ7.out).mono ?_)
        rintro e w10 ⟨A7, _, rfl, hb10, i7⟩
        have hB10 := Gen.over hb10 hB9
        replace i1 := i1.keep hb10
        replace i2 := i2.keep hb10
        replace i3 := i3.keep hb10
        replace i4 := i4.keep hb10
        replace i6 := i6.keep hb10
        go_wp2
        go_ret
        exact ⟨rfl, hB10⟩
      · have HS1 := Lib.hid s1
        have HS2 := Lib.hid s2
        clear s1 s2 S3 S4
        go_enter Try.func6, Try.ntmps6
        go_wp2_with (fail)
        refine (small_any _).mono ?_
        rintro e w1 ⟨rfl, hb1⟩
        have hB1 := hb1
        go_wp2_with (fail)
        go_must (refine (few_is _ (by omega) (by omega) HF.out).mono ?_)
        rintro e w2 ⟨rfl, hb2⟩
        have hB2 := Gen.over hb2 hB1
        go_wp2_with (fail)
        go_must (refine (units_is _ HN.out (hc.keep hB2) (by omega) HM.out (hc'.keep hB2) (by omega) HV.out).mono ?_)
        rintro e w3 ⟨rfl, hb3⟩
        have hB3 := Gen.over hb3 hB2
        go_wp2_with (fail)
        go_must (refine (move_l _ HN.out (hc.keep hB3) (by omega) HM.out (hc'.keep hB3) (by omega) H1.out HL1.out HQ1.out).mono ?_)
        rintro e w4 ⟨A1, _, rfl, hb4, i1⟩
        have hB4 := Gen.over hb4 hB3
        go_wp2_with (fail)
        go_must (refine (move_l _ HN.out (hc.keep hB4) (by omega) HM.out (hc'.keep hB4) (by omega) H2.out HL2.out HQ2.out).mono ?_)
        rintro e w5 ⟨A2, _, rfl, hb5, i2⟩
        have hB5 := Gen.over hb5 hB4
        replace i1 := i1.keep hb5
        go_wp2_with (fail)
        go_must (refine (move_l _ HN.out (hc.keep hB5) (by omega) HM.out (hc'.keep hB5) (by omega) H3.out HL3.out HQ3.out).mono ?_)
        rintro e w6 ⟨A3, _, rfl, hb6, i3⟩
        have hB6 := Gen.over hb6 hB5
        replace i1 := i1.keep hb6
        replace i2 := i2.keep hb6
        go_wp2_with (fail)
        go_must (refine (move_l _ HN.out (hc.keep hB6) (by omega) HQ1.out i1 (by omega) HE4.out HL4.out HM.out).mono ?_)
        rintro e w7 ⟨A4, _, rfl, hb7, i4⟩
        have hB7 := Gen.over hb7 hB6
        replace i1 := i1.keep hb7
        replace i2 := i2.keep hb7
        replace i3 := i3.keep hb7
        go_wp2_with (fail)
        go_must (refine (ints_is _ HM.out i4 (by omega) HM.out (hc'.keep hB7) (by omega) (show iEq us us = true from decide_eq_true rfl)).mono ?_)
        rintro e w8 ⟨rfl, hb8⟩
        have hB8 := Gen.over hb8 hB7
        replace i1 := i1.keep hb8
        replace i2 := i2.keep hb8
        replace i3 := i3.keep hb8
        replace i4 := i4.keep hb8
        go_wp2_with (fail)
        go_must (refine (move_l _ HN.out (hc.keep hB8) (by omega) HQ1.out i1 (by omega) HS1.out HL6.out HQ6.out).mono ?_)
        rintro e w9 ⟨A6, _, rfl, hb9, i6⟩
        have hB9 := Gen.over hb9 hB8
        replace i1 := i1.keep hb9
        replace i2 := i2.keep hb9
        replace i3 := i3.keep hb9
        replace i4 := i4.keep hb9
        go_wp2_with (fail)
        go_must (refine (move_l _ HN.out (hc.keep hB9) (by omega) HQ3.out i3 (by omega) HS2.out HL7.out HQ7.out).mono ?_)
        rintro e w10 ⟨A7, _, rfl, hb10, i7⟩
        have hB10 := Gen.over hb10 hB9
        replace i1 := i1.keep hb10
        replace i2 := i2.keep hb10
        replace i3 := i3.keep hb10
        replace i4 := i4.keep hb10
        replace i6 := i6.keep hb10
        go_wp2
        go_ret
        exact ⟨rfl, hB10⟩
      · have HS1 := Lib.hid s1
        have HS2 := Lib.hid s2
        clear s1 s2 S3 S4
        go_enter Try.func6, Try.ntmps6
        go_wp2_with (fail)
        refine (small_any _).mono ?_
        rintro e w1 ⟨rfl, hb1⟩
        have hB1 := hb1
        go_wp2_with (fail)
        go_must (refine (few_is _ (by omega) (by omega) HF.out).mono ?_)
        rintro e w2 ⟨rfl, hb2⟩
        have hB2 := Gen.over hb2 hB1
        go_wp2_with (fail)
        go_must (refine (units_is _ HN.out (hc.keep hB2) (by omega) HM.out (hc'.keep hB2) (by omega) HV.out).mono ?_)
        rintro e w3 ⟨rfl, hb3⟩
        have hB3 := Gen.over hb3 hB2
        go_wp2_with (fail)
        go_must (refine (move_l _ HN.out (hc.keep hB3) (by omega) HM.out (hc'.keep hB3) (by omega) H1.out HL1.out HQ1.out).mono ?_)
        rintro e w4 ⟨A1, _, rfl, hb4, i1⟩
        have hB4 := Gen.over hb4 hB3
        go_wp2_with (fail)
        go_must (refine (move_l _ HN.out (hc.keep hB4) (by omega) HM.out (hc'.keep hB4) (by omega) H2.out HL2.out HQ2.out).mono ?_)
        rintro e w5 ⟨A2, _, rfl, hb5, i2⟩
        have hB5 := Gen.over hb5 hB4
        replace i1 := i1.keep hb5
        go_wp2_with (fail)
        go_must (refine (move_l _ HN.out (hc.keep hB5) (by omega) HM.out (hc'.keep hB5) (by omega) H3.out HL3.out HQ3.out).mono ?_)
        rintro e w6 ⟨A3, _, rfl, hb6, i3⟩
        have hB6 := Gen.over hb6 hB5
        replace i1 := i1.keep hb6
        replace i2 := i2.keep hb6
        go_wp2_with (fail)
        go_must (refine (move_l _ HN.out (hc.keep hB6) (by omega) HQ1.out i1 (by omega) HE4.out HL4.out HM.out).mono ?_)
        rintro e w7 ⟨A4, _, rfl, hb7, i4⟩
        have hB7 := Gen.over hb7 hB6
        replace i1 := i1.keep hb7
        replace i2 := i2.keep hb7
        replace i3 := i3.keep hb7
        go_wp2_with (fail)
        go_must (refine (ints_is _ HM.out i4 (by omega) HM.out (hc'.keep hB7) (by omega) (show iEq us us = true from decide_eq_true rfl)).mono ?_)
        rintro e w8 ⟨rfl, hb8⟩
        have hB8 := Gen.over hb8 hB7
        replace i1 := i1.keep hb8
        replace i2 := i2.keep hb8
        replace i3 := i3.keep hb8
        replace i4 := i4.keep hb8
        go_wp2_with (fail)
        go_must (refine (move_l _ HN.out (hc.keep hB8) (by omega) HQ1.out i1 (by omega) HS1.out HL6.out HQ6.out).mono ?_)
        rintro e w9 ⟨A6, _, rfl, hb9, i6⟩
        have hB9 := Gen.over hb9 hB8
        replace i1 := i1.keep hb9
        replace i2 := i2.keep hb9
        replace i3 := i3.keep hb9
        replace i4 := i4.keep hb9
        go_wp2_with (fail)
        go_must (refine (move_l _ HN.out (hc.keep hB9) (by omega) HQ3.out i3 (by omega) HS2.out HL7.out HQ7.out).mono ?_)
        rintro e w10 ⟨A7, _, rfl, hb10, i7⟩
        have hB10 := Gen.over hb10 hB9
        replace i1 := i1.keep hb10
        replace i2 := i2.keep hb10
        replace i3 := i3.keep hb10
        replace i4 := i4.keep hb10
        replace i6 := i6.keep hb10
        go_wp2
        go_ret
        exact ⟨rfl, hB10⟩
    · have e3 : (E3 == 0) = false := by simpa using h30
      have H3 := Lib.hid h3
      clear h30 h3
      go_enter Try.func6, Try.ntmps6
      go_wp2_with (fail)
      refine (small_any _).mono ?_
      rintro e w1 ⟨rfl, hb1⟩
      have hB1 := hb1
      go_wp2_with (fail)
      go_must (refine (few_is _ (by omega) (by omega) HF.out).mono ?_)
      rintro e w2 ⟨rfl, hb2⟩
      have hB2 := Gen.over hb2 hB1
      go_wp2_with (fail)
      go_must (refine (units_is _ HN.out (hc.keep hB2) (by omega) HM.out (hc'.keep hB2) (by omega) HV.out).mono ?_)
      rintro e w3 ⟨rfl, hb3⟩
      have hB3 := Gen.over hb3 hB2
      go_wp2_with (fail)
      go_must (refine (move_l _ HN.out (hc.keep hB3) (by omega) HM.out (hc'.keep hB3) (by omega) H1.out HL1.out HQ1.out).mono ?_)
      rintro e w4 ⟨A1, _, rfl, hb4, i1⟩
      have hB4 := Gen.over hb4 hB3
      go_wp2_with (fail)
      go_must (refine (move_l _ HN.out (hc.keep hB4) (by omega) HM.out (hc'.keep hB4) (by omega) H2.out HL2.out HQ2.out).mono ?_)
      rintro e w5 ⟨A2, _, rfl, hb5, i2⟩
      have hB5 := Gen.over hb5 hB4
      replace i1 := i1.keep hb5
      go_wp2_with (fail)
      go_must (refine (move_l _ HN.out (hc.keep hB5) (by omega) HM.out (hc'.keep hB5) (by omega) H3.out HL3.out HQ3.out).mono ?_)
      rintro e w6 ⟨A3, _, rfl, hb6, i3⟩
      have hB6 := Gen.over hb6 hB5
      replace i1 := i1.keep hb6
      replace i2 := i2.keep hb6
      go_wp2_with (fail)
      go_must (refine (move_l _ HN.out (hc.keep hB6) (by omega) HQ1.out i1 (by omega) HE4.out HL4.out HM.out).mono ?_)
      rintro e w7 ⟨A4, _, rfl, hb7, i4⟩
      have hB7 := Gen.over hb7 hB6
      replace i1 := i1.keep hb7
      replace i2 := i2.keep hb7
      replace i3 := i3.keep hb7
      go_wp2_with (fail)
      go_must (refine (ints_is _ HM.out i4 (by omega) HM.out (hc'.keep hB7) (by omega) (show iEq us us = true from decide_eq_true rfl)).mono ?_)
      rintro e w8 ⟨rfl, hb8⟩
      have hB8 := Gen.over hb8 hB7
      replace i1 := i1.keep hb8
      replace i2 := i2.keep hb8
      replace i3 := i3.keep hb8
      replace i4 := i4.keep hb8
      go_wp2
      go_ret
      exact ⟨rfl, hB8⟩

set_option maxRecDepth 100000 in
set_option maxHeartbeats 16000000 in
theorem back_ne (A : Option Addr) (n cap : Nat) (ss : List (Int × Int)) (A' : Option Addr) (cap' : Nat) (us : List Int) (f t o x y : Int) (w : World) (hn : ss.length = n) (hc : Prs w A ss) (hm : us.length = ss.length) (hc' : Ints w A' us) (hf : (decide (n ≤ 30) && decide (n ≤ 40)) = true)
    (hv : vd ss us = true) (hx1 : 1 ≤ x) (hy1 : 1 ≤ y) (hx2 : x ≤ 1000000000) (hy2 : y ≤ 1000000000) (h1 : mvE ss us f t x = 0) (hft : f ≠ t) :
    Calls Try.prog 6 #[.slice A n cap, .slice A' n cap', .int .i64 f, .int .i64 t, .int .i64 o, .int .i64 x, .int .i64 y] w fun e w' => e = .returned (.bool true) ∧ Below w.heap.size w w' := by
  have HM := Lib.hid (show us.length = n by rw [hm, hn])
  have HN := Lib.hid hn
  obtain ⟨f1, f2⟩ := few_in hf
  have HF := Lib.hid hf
  have HV := Lib.hid hv
  have LEN := Lib.hid (show ∀ (P Q z : Int), (mvR ss us P Q z).length ≤ n from fun P Q z => mvR_len HM.out)
  obtain ⟨E3, h3⟩ : ∃ E, mvE ss us f o y = E := ⟨_, rfl⟩
  obtain ⟨L1, hL1⟩ : ∃ L, mvR ss us f t x = L := ⟨_, rfl⟩
  obtain ⟨L2, hL2⟩ : ∃ L, mvR ss us f t (x + y) = L := ⟨_, rfl⟩
  obtain ⟨L3, hL3⟩ : ∃ L, mvR ss us f o y = L := ⟨_, rfl⟩
  obtain ⟨q1, hq1⟩ : ∃ q, L1.length = q := ⟨_, rfl⟩
  obtain ⟨q2, hq2⟩ : ∃ q, L2.length = q := ⟨_, rfl⟩
  obtain ⟨q3, hq3⟩ : ∃ q, L3.length = q := ⟨_, rfl⟩
  have b1 : q1 ≤ n := by rw [← hq1, ← hL1]; exact LEN.out _ _ _
  have b2 : q2 ≤ n := by rw [← hq2, ← hL2]; exact LEN.out _ _ _
  have b3 : q3 ≤ n := by rw [← hq3, ← hL3]; exact LEN.out _ _ _
  have HL1 := Lib.hid hL1
  have HL2 := Lib.hid hL2
  have HL3 := Lib.hid hL3
  have HQ1 := Lib.hid hq1
  have HQ2 := Lib.hid hq2
  have HQ3 := Lib.hid hq3
  clear hn hm hf hv hL1 hL2 hL3 hq1 hq2 hq3
  obtain ⟨P1, P2, P3, P4⟩ := back_p1 HV.out hx1 h1 HL1.out
  have p0 : q1 = n := by rw [← HQ1.out, P2, HM.out]
  have H1 := Lib.hid h1
  have HV1 := Lib.hid P1
  have HE4 := Lib.hid P3
  have HL4 := Lib.hid P4
  subst p0
  clear h1 P1 P2 P3 P4
  have n1 : (f != t) = true := by rw [bne_iff_ne]; exact hft
  have HFT := Lib.hid hft
  clear hft
  by_cases h2 : mvE ss us f t (x + y) = 0
  · have H2 := Lib.hid h2
    obtain ⟨_, R2, R3⟩ := back_p2 HV.out hx1 hy1 HFT.out h2
    rw [HL1.out] at R2 R3
    rw [HL2.out] at R3
    have HE5 := Lib.hid R2
    have HL5 := Lib.hid R3
    clear R2 R3
    clear h2
    by_cases h30 : E3 = 0
    · subst h30
      obtain ⟨S1, S2, S3, S4⟩ := back_p3 HV.out hx1 hy1 H1.out h3 HL1.out HL3.out
      have p3 : q3 = q1 := by rw [← HQ3.out, (back_p1 HV.out hy1 h3 HL3.out).2.1, HM.out]
      have H3 := Lib.hid h3
      have HV3 := Lib.hid (back_p1 HV.out hy1 h3 HL3.out).1
      obtain ⟨L6, hL6⟩ : ∃ L, mvR ss L1 f o y = L := ⟨_, rfl⟩
      obtain ⟨L7, hL7⟩ : ∃ L, mvR ss L3 f t x = L := ⟨_, rfl⟩
      obtain ⟨q6, hq6⟩ : ∃ q, L6.length = q := ⟨_, rfl⟩
      obtain ⟨q7, hq7⟩ : ∃ q, L7.length = q := ⟨_, rfl⟩
      have b6 : q6 ≤ q1 := by rw [← hq6, ← hL6]; exact mvR_len HQ1.out
      have b7 : q7 ≤ q1 := by rw [← hq7, ← hL7, ← p3]; exact mvR_len HQ3.out
      have HL6 := Lib.hid hL6
      have HL7 := Lib.hid hL7
      have HQ6 := Lib.hid hq6
      have HQ7 := Lib.hid hq7
      subst p3
      clear h3 hL6 hL7 hq6 hq7
      rcases S1 with s1 | s1 <;> rcases S2 with s2 | s2
      · have e67 : L6 = L7 := by rw [← HL6.out, ← HL7.out]; exact S4 s1 s2
        subst e67
        have q67 : q6 = q7 := by rw [← HQ6.out, HQ7.out]
        subst q67
        have HS1 := Lib.hid s1
        have HS2 := Lib.hid s2
        clear s1 s2 S3 S4
        go_enter Try.func6, Try.ntmps6
        go_wp2_with (fail)
        refine (small_any _).mono ?_
        rintro e w1 ⟨rfl, hb1⟩
        have hB1 := hb1
        go_wp2_with (fail)
        go_must (refine (few_is _ (by omega) (by omega) HF.out).mono ?_)
        rintro e w2 ⟨rfl, hb2⟩
        have hB2 := Gen.over hb2 hB1
        go_wp2_with (fail)
        go_must (refine (units_is _ HN.out (hc.keep hB2) (by omega) HM.out (hc'.keep hB2) (by omega) HV.out).mono ?_)
        rintro e w3 ⟨rfl, hb3⟩
        have hB3 := Gen.over hb3 hB2
        go_wp2_with (fail)
        go_must (refine (move_l _ HN.out (hc.keep hB3) (by omega) HM.out (hc'.keep hB3) (by omega) H1.out HL1.out HQ1.out).mono ?_)
        rintro e w4 ⟨A1, _, rfl, hb4, i1⟩
        have hB4 := Gen.over hb4 hB3
        go_wp2_with (fail)
        go_must (refine (move_l _ HN.out (hc.keep hB4) (by omega) HM.out (hc'.keep hB4) (by omega) H2.out HL2.out HQ2.out).mono ?_)
        rintro e w5 ⟨A2, _, rfl, hb5, i2⟩
        have hB5 := Gen.over hb5 hB4
        replace i1 := i1.keep hb5
        go_wp2_with (fail)
        go_must (refine (move_l _ HN.out (hc.keep hB5) (by omega) HM.out (hc'.keep hB5) (by omega) H3.out HL3.out HQ3.out).mono ?_)
        rintro e w6 ⟨A3, _, rfl, hb6, i3⟩
        have hB6 := Gen.over hb6 hB5
        replace i1 := i1.keep hb6
        replace i2 := i2.keep hb6
        go_wp2_with (fail)
        go_must (refine (move_l _ HN.out (hc.keep hB6) (by omega) HQ1.out i1 (by omega) HE4.out HL4.out HM.out).mono ?_)
        rintro e w7 ⟨A4, _, rfl, hb7, i4⟩
        have hB7 := Gen.over hb7 hB6
        replace i1 := i1.keep hb7
        replace i2 := i2.keep hb7
        replace i3 := i3.keep hb7
        go_wp2_with (fail)
        go_must (refine (ints_is _ HM.out i4 (by omega) HM.out (hc'.keep hB7) (by omega) (show iEq us us = true from decide_eq_true rfl)).mono ?_)
        rintro e w8 ⟨rfl, hb8⟩
        have hB8 := Gen.over hb8 hB7
        replace i1 := i1.keep hb8
        replace i2 := i2.keep hb8
        replace i3 := i3.keep hb8
        replace i4 := i4.keep hb8
        go_wp2_with (fail)
        go_must (refine (move_l _ HN.out (hc.keep hB8) (by omega) HQ1.out i1 (by omega) HE5.out HL5.out HQ2.out).mono ?_)
        rintro e w9 ⟨A5, _, rfl, hb9, i5⟩
        have hB9 := Gen.over hb9 hB8
        replace i1 := i1.keep hb9
        replace i2 := i2.keep hb9
        replace i3 := i3.keep hb9
        replace i4 := i4.keep hb9
        go_wp2_with (fail)
        go_must (refine (ints_is _ HQ2.out i5 (by omega) HQ2.out i2 (by omega) (show iEq L2 L2 = true from decide_eq_true rfl)).mono ?_)
        rintro e w10 ⟨rfl, hb10⟩
        have hB10 := Gen.over hb10 hB9
        replace i1 := i1.keep hb10
        replace i2 := i2.keep hb10
        replace i3 := i3.keep hb10
        replace i4 := i4.keep hb10
        replace i5 := i5.keep hb10
        go_wp2_with (fail)
        go_must (refine (move_l _ HN.out (hc.keep hB10) (by omega) HQ1.out i1 (by omega) HS1.out HL6.out HQ6.out).mono ?_)
        rintro e w11 ⟨A6, _, rfl, hb11, i6⟩
        have hB11 := Gen.over hb11 hB10
        replace i1 := i1.keep hb11
        replace i2 := i2.keep hb11
        replace i3 := i3.keep hb11
        replace i4 := i4.keep hb11
        replace i5 := i5.keep hb11
        go_wp2_with (fail)
        go_must (refine (move_l _ HN.out (hc.keep hB11) (by omega) HQ3.out i3 (by omega) HS2.out HL7.out HQ7.out).mono ?_)
        rintro e w12 ⟨A7, _, rfl, hb12, i7⟩
        have hB12 := Gen.over hb12 hB11
        replace i1 := i1.keep hb12
        replace i2 := i2.keep hb12
        replace i3 := i3.keep hb12
        replace i4 := i4.keep hb12
        replace i5 := i5.keep hb12
        replace i6 := i6.keep hb12
        go_wp2_with (fail)
        go_must (refine (ints_is _ HQ6.out i6 (by omega) HQ6.out i7 (by omega) (show iEq L6 L6 = true from decide_eq_true rfl)).mono ?_)
        rintro e w13 ⟨rfl, hb13⟩
        have hB13 := Gen.over hb13 hB12
        replace i1 := i1.keep hb13
        replace i2 := i2.keep hb13
        replace i3 := i3.keep hb13
        replace i4 := i4.keep hb13
        replace i5 := i5.keep hb13
        replace i6 := i6.keep hb13
        replace i7 := i7.keep hb13
        go_wp2
        go_ret
        exact ⟨rfl, hB13⟩
      · have n2 : (f != o) = false := by
          by_cases e : f = o
          · rw [e]; simp
          · have := S3 HFT.out e
            rw [s1, s2] at this
            omega
        have HS1 := Lib.hid s1
        have HS2 := Lib.hid s2
        clear s1 s2 S3 S4
        go_enter Try.func6, Try.ntmps6
        go_wp2_with (fail)
        refine (small_any _).mono ?_
        rintro e w1 ⟨rfl, hb1⟩
        have hB1 := hb1
        go_wp2_with (fail)
        go_must (refine (few_is _ (by omega) (by omega) HF.out).mono ?_)
        rintro e w2 ⟨rfl, hb2⟩
        have hB2 := Gen.over hb2 hB1
        go_wp2_with (fail)
        go_must (refine (units_is _ HN.out (hc.keep hB2) (by omega) HM.out (hc'.keep hB2) (by omega) HV.out).mono ?_)
        rintro e w3 ⟨rfl, hb3⟩
        have hB3 := Gen.over hb3 hB2
        go_wp2_with (fail)
        go_must (refine (move_l _ HN.out (hc.keep hB3) (by omega) HM.out (hc'.keep hB3) (by omega) H1.out HL1.out HQ1.out).mono ?_)
        rintro e w4 ⟨A1, _, rfl, hb4, i1⟩
        have hB4 := Gen.over hb4 hB3
        go_wp2_with (fail)
        go_must (refine (move_l _ HN.out (hc.keep hB4) (by omega) HM.out (hc'.keep hB4) (by omega) H2.out HL2.out HQ2.out).mono ?_)
        rintro e w5 ⟨A2, _, rfl, hb5, i2⟩
        have hB5 := Gen.over hb5 hB4
        replace i1 := i1.keep hb5
        go_wp2_with (fail)
        go_must (refine (move_l _ HN.out (hc.keep hB5) (by omega) HM.out (hc'.keep hB5) (by omega) H3.out HL3.out HQ3.out).mono ?_)
        rintro e w6 ⟨A3, _, rfl, hb6, i3⟩
        have hB6 := Gen.over hb6 hB5
        replace i1 := i1.keep hb6
        replace i2 := i2.keep hb6
        go_wp2_with (fail)
        go_must (refine (move_l _ HN.out (hc.keep hB6) (by omega) HQ1.out i1 (by omega) HE4.out HL4.out HM.out).mono ?_)
        rintro e w7 ⟨A4, _, rfl, hb7, i4⟩
        have hB7 := Gen.over hb7 hB6
        replace i1 := i1.keep hb7
        replace i2 := i2.keep hb7
        replace i3 := i3.keep hb7
        go_wp2_with (fail)
        go_must (refine (ints_is _ HM.out i4 (by omega) HM.out (hc'.keep hB7) (by omega) (show iEq us us = true from decide_eq_true rfl)).mono ?_)
        rintro e w8 ⟨rfl, hb8⟩
        have hB8 := Gen.over hb8 hB7
        replace i1 := i1.keep hb8
        replace i2 := i2.keep hb8
        replace i3 := i3.keep hb8
        replace i4 := i4.keep hb8
        go_wp2_with (fail)
        go_must (refine (move_l _ HN.out (hc.keep hB8) (by omega) HQ1.out i1 (by omega) HE5.out HL5.out HQ2.out).mono ?_)
        rintro e w9 ⟨A5, _, rfl, hb9, i5⟩
        have hB9 := Gen.over hb9 hB8
        replace i1 := i1.keep hb9
        replace i2 := i2.keep hb9
        replace i3 := i3.keep hb9
        replace i4 := i4.keep hb9
        go_wp2_with (fail)
        go_must (refine (ints_is _ HQ2.out i5 (by omega) HQ2.out i2 (by omega) (show iEq L2 L2 = true from decide_eq_true rfl)).mono ?_)
        rintro e w10 ⟨rfl, hb10⟩
        have hB10 := Gen.over hb10 hB9
        replace i1 := i1.keep hb10
        replace i2 := i2.keep hb10
        replace i3 := i3.keep hb10
        replace i4 := i4.keep hb10
        replace i5 := i5.keep hb10
        go_wp2_with (fail)
        go_must (refine (move_l _ HN.out (hc.keep hB10) (by omega) HQ1.out i1 (by omega) HS1.out HL6.out HQ6.out).mono ?_)
        rintro e w11 ⟨A6, _, rfl, hb11, i6⟩
        have hB11 := Gen.over hb11 hB10
        replace i1 := i1.keep hb11
        replace i2 := i2.keep hb11
        replace i3 := i3.keep hb11
        replace i4 := i4.keep hb11
        replace i5 := i5.keep hb11
        go_wp2_with (fail)
        go_must (refine (move_l _ HN.out (hc.keep hB11) (by omega) HQ3.out i3 (by omega) HS2.out HL7.out HQ7.out).mono ?_)
        rintro e w12 ⟨A7, _, rfl, hb12, i7⟩
        have hB12 := Gen.over hb12 hB11
        replace i1 := i1.keep hb12
        replace i2 := i2.keep hb12
        replace i3 := i3.keep hb12
        replace i4 := i4.keep hb12
        replace i5 := i5.keep hb12
        replace i6 := i6.keep hb12
        go_wp2
        go_ret
        exact ⟨rfl, hB12⟩
      · have n2 : (f != o) = false := by
          by_cases e : f = o
          · rw [e]; simp
          · have := S3 HFT.out e
            rw [s1, s2] at this
            omega
        have HS1 := Lib.hid s1
        have HS2 := Lib.hid s2
        clear s1 s2 S3 S4
        go_enter Try.func6, Try.ntmps6
        go_wp2_with (fail)
        refine (small_any _).mono ?_
        rintro e w1 ⟨rfl, hb1⟩
        have hB1 := hb1
        go_wp2_with (fail)
        go_must (refine (few_is _ (by omega) (by omega) HF.out).mono ?_)
        rintro e w2 ⟨rfl, hb2⟩
        have hB2 := Gen.over hb2 hB1
        go_wp2_with (fail)
        go_must (refine (units_is _ HN.out (hc.keep hB2) (by omega) HM.out (hc'.keep hB2) (by omega) HV.out).mono ?_)
        rintro e w3 ⟨rfl, hb3⟩
        have hB3 := Gen.over hb3 hB2
        go_wp2_with (fail)
        go_must (refine (move_l _ HN.out (hc.keep hB3) (by omega) HM.out (hc'.keep hB3) (by omega) H1.out HL1.out HQ1.out).mono ?_)
        rintro e w4 ⟨A1, _, rfl, hb4, i1⟩
        have hB4 := Gen.over hb4 hB3
        go_wp2_with (fail)
        go_must (refine (move_l _ HN.out (hc.keep hB4) (by omega) HM.out (hc'.keep hB4) (by omega) H2.out HL2.out HQ2.out).mono ?_)
        rintro e w5 ⟨A2, _, rfl, hb5, i2⟩
        have hB5 := Gen.over hb5 hB4
        replace i1 := i1.keep hb5
        go_wp2_with (fail)
        go_must (refine (move_l _ HN.out (hc.keep hB5) (by omega) HM.out (hc'.keep hB5) (by omega) H3.out HL3.out HQ3.out).mono ?_)
        rintro e w6 ⟨A3, _, rfl, hb6, i3⟩
        have hB6 := Gen.over hb6 hB5
        replace i1 := i1.keep hb6
        replace i2 := i2.keep hb6
        go_wp2_with (fail)
        go_must (refine (move_l _ HN.out (hc.keep hB6) (by omega) HQ1.out i1 (by omega) HE4.out HL4.out HM.out).mono ?_)
        rintro e w7 ⟨A4, _, rfl, hb7, i4⟩
        have hB7 := Gen.over hb7 hB6
        replace i1 := i1.keep hb7
        replace i2 := i2.keep hb7
        replace i3 := i3.keep hb7
        go_wp2_with (fail)
        go_must (refine (ints_is _ HM.out i4 (by omega) HM.out (hc'.keep hB7) (by omega) (show iEq us us = true from decide_eq_true rfl)).mono ?_)
        rintro e w8 ⟨rfl, hb8⟩
        have hB8 := Gen.over hb8 hB7
        replace i1 := i1.keep hb8
        replace i2 := i2.keep hb8
        replace i3 := i3.keep hb8
        replace i4 := i4.keep hb8
        go_wp2_with (fail)
        go_must (refine (move_l _ HN.out (hc.keep hB8) (by omega) HQ1.out i1 (by omega) HE5.out HL5.out HQ2.out).mono ?_)
        rintro e w9 ⟨A5, _, rfl, hb9, i5⟩
        have hB9 := Gen.over hb9 hB8
        replace i1 := i1.keep hb9
        replace i2 := i2.keep hb9
        replace i3 := i3.keep hb9
        replace i4 := i4.keep hb9
        go_wp2_with (fail)
        go_must (refine (ints_is _ HQ2.out i5 (by omega) HQ2.out i2 (by omega) (show iEq L2 L2 = true from decide_eq_true rfl)).mono ?_)
        rintro e w10 ⟨rfl, hb10⟩
        have hB10 := Gen.over hb10 hB9
        replace i1 := i1.keep hb10
        replace i2 := i2.keep hb10
        replace i3 := i3.keep hb10
        replace i4 := i4.keep hb10
        replace i5 := i5.keep hb10
        go_wp2_with (fail)
        go_must (refine (move_l _ HN.out (hc.keep hB10) (by omega) HQ1.out i1 (by omega) HS1.out HL6.out HQ6.out).mono ?_)
        rintro e w11 ⟨A6, _, rfl, hb11, i6⟩
        have hB11 := Gen.over hb11 hB10
        replace i1 := i1.keep hb11
        replace i2 := i2.keep hb11
        replace i3 := i3.keep hb11
        replace i4 := i4.keep hb11
        replace i5 := i5.keep hb11
        go_wp2_with (fail)
        go_must (refine (move_l _ HN.out (hc.keep hB11) (by omega) HQ3.out i3 (by omega) HS2.out HL7.out HQ7.out).mono ?_)
        rintro e w12 ⟨A7, _, rfl, hb12, i7⟩
        have hB12 := Gen.over hb12 hB11
        replace i1 := i1.keep hb12
        replace i2 := i2.keep hb12
        replace i3 := i3.keep hb12
        replace i4 := i4.keep hb12
        replace i5 := i5.keep hb12
        replace i6 := i6.keep hb12
        go_wp2
        go_ret
        exact ⟨rfl, hB12⟩
      · have HS1 := Lib.hid s1
        have HS2 := Lib.hid s2
        clear s1 s2 S3 S4
        go_enter Try.func6, Try.ntmps6
        go_wp2_with (fail)
        refine (small_any _).mono ?_
        rintro e w1 ⟨rfl, hb1⟩
        have hB1 := hb1
        go_wp2_with (fail)
        go_must (refine (few_is _ (by omega) (by omega) HF.out).mono ?_)
        rintro e w2 ⟨rfl, hb2⟩
        have hB2 := Gen.over hb2 hB1
        go_wp2_with (fail)
        go_must (refine (units_is _ HN.out (hc.keep hB2) (by omega) HM.out (hc'.keep hB2) (by omega) HV.out).mono ?_)
        rintro e w3 ⟨rfl, hb3⟩
        have hB3 := Gen.over hb3 hB2
        go_wp2_with (fail)
        go_must (refine (move_l _ HN.out (hc.keep hB3) (by omega) HM.out (hc'.keep hB3) (by omega) H1.out HL1.out HQ1.out).mono ?_)
        rintro e w4 ⟨A1, _, rfl, hb4, i1⟩
        have hB4 := Gen.over hb4 hB3
        go_wp2_with (fail)
        go_must (refine (move_l _ HN.out (hc.keep hB4) (by omega) HM.out (hc'.keep hB4) (by omega) H2.out HL2.out HQ2.out).mono ?_)
        rintro e w5 ⟨A2, _, rfl, hb5, i2⟩
        have hB5 := Gen.over hb5 hB4
        replace i1 := i1.keep hb5
        go_wp2_with (fail)
        go_must (refine (move_l _ HN.out (hc.keep hB5) (by omega) HM.out (hc'.keep hB5) (by omega) H3.out HL3.out HQ3.out).mono ?_)
        rintro e w6 ⟨A3, _, rfl, hb6, i3⟩
        have hB6 := Gen.over hb6 hB5
        replace i1 := i1.keep hb6
        replace i2 := i2.keep hb6
        go_wp2_with (fail)
        go_must (refine (move_l _ HN.out (hc.keep hB6) (by omega) HQ1.out i1 (by omega) HE4.out HL4.out HM.out).mono ?_)
        rintro e w7 ⟨A4, _, rfl, hb7, i4⟩
        have hB7 := Gen.over hb7 hB6
        replace i1 := i1.keep hb7
        replace i2 := i2.keep hb7
        replace i3 := i3.keep hb7
        go_wp2_with (fail)
        go_must (refine (ints_is _ HM.out i4 (by omega) HM.out (hc'.keep hB7) (by omega) (show iEq us us = true from decide_eq_true rfl)).mono ?_)
        rintro e w8 ⟨rfl, hb8⟩
        have hB8 := Gen.over hb8 hB7
        replace i1 := i1.keep hb8
        replace i2 := i2.keep hb8
        replace i3 := i3.keep hb8
        replace i4 := i4.keep hb8
        go_wp2_with (fail)
        go_must (refine (move_l _ HN.out (hc.keep hB8) (by omega) HQ1.out i1 (by omega) HE5.out HL5.out HQ2.out).mono ?_)
        rintro e w9 ⟨A5, _, rfl, hb9, i5⟩
        have hB9 := Gen.over hb9 hB8
        replace i1 := i1.keep hb9
        replace i2 := i2.keep hb9
        replace i3 := i3.keep hb9
        replace i4 := i4.keep hb9
        go_wp2_with (fail)
        go_must (refine (ints_is _ HQ2.out i5 (by omega) HQ2.out i2 (by omega) (show iEq L2 L2 = true from decide_eq_true rfl)).mono ?_)
        rintro e w10 ⟨rfl, hb10⟩
        have hB10 := Gen.over hb10 hB9
        replace i1 := i1.keep hb10
        replace i2 := i2.keep hb10
        replace i3 := i3.keep hb10
        replace i4 := i4.keep hb10
        replace i5 := i5.keep hb10
        go_wp2_with (fail)
        go_must (refine (move_l _ HN.out (hc.keep hB10) (by omega) HQ1.out i1 (by omega) HS1.out HL6.out HQ6.out).mono ?_)
        rintro e w11 ⟨A6, _, rfl, hb11, i6⟩
        have hB11 := Gen.over hb11 hB10
        replace i1 := i1.keep hb11
        replace i2 := i2.keep hb11
        replace i3 := i3.keep hb11
        replace i4 := i4.keep hb11
        replace i5 := i5.keep hb11
        go_wp2_with (fail)
        go_must (refine (move_l _ HN.out (hc.keep hB11) (by omega) HQ3.out i3 (by omega) HS2.out HL7.out HQ7.out).mono ?_)
        rintro e w12 ⟨A7, _, rfl, hb12, i7⟩
        have hB12 := Gen.over hb12 hB11
        replace i1 := i1.keep hb12
        replace i2 := i2.keep hb12
        replace i3 := i3.keep hb12
        replace i4 := i4.keep hb12
        replace i5 := i5.keep hb12
        replace i6 := i6.keep hb12
        go_wp2
        go_ret
        exact ⟨rfl, hB12⟩
    · have e3 : (E3 == 0) = false := by simpa using h30
      have H3 := Lib.hid h3
      clear h30 h3
      go_enter Try.func6, Try.ntmps6
      go_wp2_with (fail)
      refine (small_any _).mono ?_
      rintro e w1 ⟨rfl, hb1⟩
      have hB1 := hb1
      go_wp2_with (fail)
      go_must (refine (few_is _ (by omega) (by omega) HF.out).mono ?_)
      rintro e w2 ⟨rfl, hb2⟩
      have hB2 := Gen.over hb2 hB1
      go_wp2_with (fail)
      go_must (refine (units_is _ HN.out (hc.keep hB2) (by omega) HM.out (hc'.keep hB2) (by omega) HV.out).mono ?_)
      rintro e w3 ⟨rfl, hb3⟩
      have hB3 := Gen.over hb3 hB2
      go_wp2_with (fail)
      go_must (refine (move_l _ HN.out (hc.keep hB3) (by omega) HM.out (hc'.keep hB3) (by omega) H1.out HL1.out HQ1.out).mono ?_)
      rintro e w4 ⟨A1, _, rfl, hb4, i1⟩
      have hB4 := Gen.over hb4 hB3
      go_wp2_with (fail)
      go_must (refine (move_l _ HN.out (hc.keep hB4) (by omega) HM.out (hc'.keep hB4) (by omega) H2.out HL2.out HQ2.out).mono ?_)
      rintro e w5 ⟨A2, _, rfl, hb5, i2⟩
      have hB5 := Gen.over hb5 hB4
      replace i1 := i1.keep hb5
      go_wp2_with (fail)
      go_must (refine (move_l _ HN.out (hc.keep hB5) (by omega) HM.out (hc'.keep hB5) (by omega) H3.out HL3.out HQ3.out).mono ?_)
      rintro e w6 ⟨A3, _, rfl, hb6, i3⟩
      have hB6 := Gen.over hb6 hB5
      replace i1 := i1.keep hb6
      replace i2 := i2.keep hb6
      go_wp2_with (fail)
      go_must (refine (move_l _ HN.out (hc.keep hB6) (by omega) HQ1.out i1 (by omega) HE4.out HL4.out HM.out).mono ?_)
      rintro e w7 ⟨A4, _, rfl, hb7, i4⟩
      have hB7 := Gen.over hb7 hB6
      replace i1 := i1.keep hb7
      replace i2 := i2.keep hb7
      replace i3 := i3.keep hb7
      go_wp2_with (fail)
      go_must (refine (ints_is _ HM.out i4 (by omega) HM.out (hc'.keep hB7) (by omega) (show iEq us us = true from decide_eq_true rfl)).mono ?_)
      rintro e w8 ⟨rfl, hb8⟩
      have hB8 := Gen.over hb8 hB7
      replace i1 := i1.keep hb8
      replace i2 := i2.keep hb8
      replace i3 := i3.keep hb8
      replace i4 := i4.keep hb8
      go_wp2_with (fail)
      go_must (refine (move_l _ HN.out (hc.keep hB8) (by omega) HQ1.out i1 (by omega) HE5.out HL5.out HQ2.out).mono ?_)
      rintro e w9 ⟨A5, _, rfl, hb9, i5⟩
      have hB9 := Gen.over hb9 hB8
      replace i1 := i1.keep hb9
      replace i2 := i2.keep hb9
      replace i3 := i3.keep hb9
      replace i4 := i4.keep hb9
      go_wp2_with (fail)
      go_must (refine (ints_is _ HQ2.out i5 (by omega) HQ2.out i2 (by omega) (show iEq L2 L2 = true from decide_eq_true rfl)).mono ?_)
      rintro e w10 ⟨rfl, hb10⟩
      have hB10 := Gen.over hb10 hB9
      replace i1 := i1.keep hb10
      replace i2 := i2.keep hb10
      replace i3 := i3.keep hb10
      replace i4 := i4.keep hb10
      replace i5 := i5.keep hb10
      go_wp2
      go_ret
      exact ⟨rfl, hB10⟩
  · obtain ⟨E2, h2e⟩ : ∃ E, mvE ss us f t (x + y) = E := ⟨_, rfl⟩
    have e2 : (E2 == 0) = false := by rw [← h2e]; simpa using h2
    have H2 := Lib.hid h2e
    clear h2 h2e
    by_cases h30 : E3 = 0
    · subst h30
      obtain ⟨S1, S2, S3, S4⟩ := back_p3 HV.out hx1 hy1 H1.out h3 HL1.out HL3.out
      have p3 : q3 = q1 := by rw [← HQ3.out, (back_p1 HV.out hy1 h3 HL3.out).2.1, HM.out]
      have H3 := Lib.hid h3
      have HV3 := Lib.hid (back_p1 HV.out hy1 h3 HL3.out).1
      obtain ⟨L6, hL6⟩ : ∃ L, mvR ss L1 f o y = L := ⟨_, rfl⟩
      obtain ⟨L7, hL7⟩ : ∃ L, mvR ss L3 f t x = L := ⟨_, rfl⟩
      obtain ⟨q6, hq6⟩ : ∃ q, L6.length = q := ⟨_, rfl⟩
      obtain ⟨q7, hq7⟩ : ∃ q, L7.length = q := ⟨_, rfl⟩
      have b6 : q6 ≤ q1 := by rw [← hq6, ← hL6]; exact mvR_len HQ1.out
      have b7 : q7 ≤ q1 := by rw [← hq7, ← hL7, ← p3]; exact mvR_len HQ3.out
      have HL6 := Lib.hid hL6
      have HL7 := Lib.hid hL7
      have HQ6 := Lib.hid hq6
      have HQ7 := Lib.hid hq7
      subst p3
      clear h3 hL6 hL7 hq6 hq7
      rcases S1 with s1 | s1 <;> rcases S2 with s2 | s2
      · have e67 : L6 = L7 := by rw [← HL6.out, ← HL7.out]; exact S4 s1 s2
        subst e67
        have q67 : q6 = q7 := by rw [← HQ6.out, HQ7.out]
        subst q67
        have HS1 := Lib.hid s1
        have HS2 := Lib.hid s2
        clear s1 s2 S3 S4
        go_enter Try.func6, Try.ntmps6
        go_wp2_with (fail)
        refine (small_any _).mono ?_
        rintro e w1 ⟨rfl, hb1⟩
        have hB1 := hb1
        go_wp2_with (fail)
        go_must (refine (few_is _ (by omega) (by omega) HF.out).mono ?_)
        rintro e w2 ⟨rfl, hb2⟩
        have hB2 := Gen.over hb2 hB1
        go_wp2_with (fail)
        go_must (refine (units_is _ HN.out (hc.keep hB2) (by omega) HM.out (hc'.keep hB2) (by omega) HV.out).mono ?_)
        rintro e w3 ⟨rfl, hb3⟩
        have hB3 := Gen.over hb3 hB2
        go_wp2_with (fail)
        go_must (refine (move_l _ HN.out (hc.keep hB3) (by omega) HM.out (hc'.keep hB3) (by omega) H1.out HL1.out HQ1.out).mono ?_)
        rintro e w4 ⟨A1, _, rfl, hb4, i1⟩
        have hB4 := Gen.over hb4 hB3
        go_wp2_with (fail)
        go_must (refine (move_l _ HN.out (hc.keep hB4) (by omega) HM.out (hc'.keep hB4) (by omega) H2.out HL2.out HQ2.out).mono ?_)
        rintro e w5 ⟨A2, _, rfl, hb5, i2⟩
        have hB5 := Gen.over hb5 hB4
        replace i1 := i1.keep hb5
        go_wp2_with (fail)
        go_must (refine (move_l _ HN.out (hc.keep hB5) (by omega) HM.out (hc'.keep hB5) (by omega) H3.out HL3.out HQ3.out).mono ?_)
        rintro e w6 ⟨A3, _, rfl, hb6, i3⟩
        have hB6 := Gen.over hb6 hB5
        replace i1 := i1.keep hb6
        replace i2 := i2.keep hb6
        go_wp2_with (fail)
        go_must (refine (move_l _ HN.out (hc.keep hB6) (by omega) HQ1.out i1 (by omega) HE4.out HL4.out HM.out).mono ?_)
        rintro e w7 ⟨A4, _, rfl, hb7, i4⟩
        have hB7 := Gen.over hb7 hB6
        replace i1 := i1.keep hb7
        replace i2 := i2.keep hb7
        replace i3 := i3.keep hb7
        go_wp2_with (fail)
        go_must (refine (ints_is _ HM.out i4 (by omega) HM.out (hc'.keep hB7) (by omega) (show iEq us us = true from decide_eq_true rfl)).mono ?_)
        rintro e w8 ⟨rfl, hb8⟩
        have hB8 := Gen.over hb8 hB7
        replace i1 := i1.keep hb8
        replace i2 := i2.keep hb8
        replace i3 := i3.keep hb8
        replace i4 := i4.keep hb8
        go_wp2_with (fail)
        go_must (refine (move_l _ HN.out (hc.keep hB8) (by omega) HQ1.out i1 (by omega) HS1.out HL6.out HQ6.out).mono ?_)
        rintro e w9 ⟨A6, _, rfl, hb9, i6⟩
        have hB9 := Gen.over hb9 hB8
        replace i1 := i1.keep hb9
        replace i2 := i2.keep hb9
        replace i3 := i3.keep hb9
        replace i4 := i4.keep hb9
        go_wp2_with (fail)
        go_must (refine (move_l _ HN.out (hc.keep hB9) (by omega) HQ3.out i3 (by omega) HS2.out HL7.out HQ7.out).mono ?_)
        rintro e w10 ⟨A7, _, rfl, hb10, i7⟩
        have hB10 := Gen.over hb10 hB9
        replace i1 := i1.keep hb10
        replace i2 := i2.keep hb10
        replace i3 := i3.keep hb10
        replace i4 := i4.keep hb10
        replace i6 := i6.keep hb10
        go_wp2_with (fail)
        go_must (refine (ints_is _ HQ6.out i6 (by omega) HQ6.out i7 (by omega) (show iEq L6 L6 = true from decide_eq_true rfl)).mono ?_)
        rintro e w11 ⟨rfl, hb11⟩
        have hB11 := Gen.over hb11 hB10
        replace i1 := i1.keep hb11
        replace i2 := i2.keep hb11
        replace i3 := i3.keep hb11
        replace i4 := i4.keep hb11
        replace i6 := i6.keep hb11
        replace i7 := i7.keep hb11
        go_wp2
        go_ret
        exact ⟨rfl, hB11⟩
      · have n2 : (f != o) = false := by
          by_cases e : f = o
          · rw [e]; simp
          · have := S3 HFT.out e
            rw [s1, s2] at this
            omega
        have HS1 := Lib.hid s1
        have HS2 := Lib.hid s2
        clear s1 s2 S3 S4
        go_enter Try.func6, Try.ntmps6
        go_wp2_with (fail)
        refine (small_any _).mono ?_
        rintro e w1 ⟨rfl, hb1⟩
        have hB1 := hb1
        go_wp2_with (fail)
        go_must (refine (few_is _ (by omega) (by omega) HF.out).mono ?_)
        rintro e w2 ⟨rfl, hb2⟩
        have hB2 := Gen.over hb2 hB1
        go_wp2_with (fail)
        go_must (refine (units_is _ HN.out (hc.keep hB2) (by omega) HM.out (hc'.keep hB2) (by omega) HV.out).mono ?_)
        rintro e w3 ⟨rfl, hb3⟩
        have hB3 := Gen.over hb3 hB2
        go_wp2_with (fail)
        go_must (refine (move_l _ HN.out (hc.keep hB3) (by omega) HM.out (hc'.keep hB3) (by omega) H1.out HL1.out HQ1.out).mono ?_)
        rintro e w4 ⟨A1, _, rfl, hb4, i1⟩
        have hB4 := Gen.over hb4 hB3
        go_wp2_with (fail)
        go_must (refine (move_l _ HN.out (hc.keep hB4) (by omega) HM.out (hc'.keep hB4) (by omega) H2.out HL2.out HQ2.out).mono ?_)
        rintro e w5 ⟨A2, _, rfl, hb5, i2⟩
        have hB5 := Gen.over hb5 hB4
        replace i1 := i1.keep hb5
        go_wp2_with (fail)
        go_must (refine (move_l _ HN.out (hc.keep hB5) (by omega) HM.out (hc'.keep hB5) (by omega) H3.out HL3.out HQ3.out).mono ?_)
        rintro e w6 ⟨A3, _, rfl, hb6, i3⟩
        have hB6 := Gen.over hb6 hB5
        replace i1 := i1.keep hb6
        replace i2 := i2.keep hb6
        go_wp2_with (fail)
        go_must (refine (move_l _ HN.out (hc.keep hB6) (by omega) HQ1.out i1 (by omega) HE4.out HL4.out HM.out).mono ?_)
        rintro e w7 ⟨A4, _, rfl, hb7, i4⟩
        have hB7 := Gen.over hb7 hB6
        replace i1 := i1.keep hb7
        replace i2 := i2.keep hb7
        replace i3 := i3.keep hb7
        go_wp2_with (fail)
        go_must (refine (ints_is _ HM.out i4 (by omega) HM.out (hc'.keep hB7) (by omega) (show iEq us us = true from decide_eq_true rfl)).mono ?_)
        rintro e w8 ⟨rfl, hb8⟩
        have hB8 := Gen.over hb8 hB7
        replace i1 := i1.keep hb8
        replace i2 := i2.keep hb8
        replace i3 := i3.keep hb8
        replace i4 := i4.keep hb8
        go_wp2_with (fail)
        go_must (refine (move_l _ HN.out (hc.keep hB8) (by omega) HQ1.out i1 (by omega) HS1.out HL6.out HQ6.out).mono ?_)
        rintro e w9 ⟨A6, _, rfl, hb9, i6⟩
        have hB9 := Gen.over hb9 hB8
        replace i1 := i1.keep hb9
        replace i2 := i2.keep hb9
        replace i3 := i3.keep hb9
        replace i4 := i4.keep hb9
        go_wp2_with (fail)
        go_must (refine (move_l _ HN.out (hc.keep hB9) (by omega) HQ3.out i3 (by omega) HS2.out HL7.out HQ7.out).mono ?_)
        rintro e w10 ⟨A7, _, rfl, hb10, i7⟩
        have hB10 := Gen.over hb10 hB9
        replace i1 := i1.keep hb10
        replace i2 := i2.keep hb10
        replace i3 := i3.keep hb10
        replace i4 := i4.keep hb10
        replace i6 := i6.keep hb10
        go_wp2
        go_ret
        exact ⟨rfl, hB10⟩
      · have n2 : (f != o) = false := by
          by_cases e : f = o
          · rw [e]; simp
          · have := S3 HFT.out e
            rw [s1, s2] at this
            omega
        have HS1 := Lib.hid s1
        have HS2 := Lib.hid s2
        clear s1 s2 S3 S4
        go_enter Try.func6, Try.ntmps6
        go_wp2_with (fail)
        refine (small_any _).mono ?_
        rintro e w1 ⟨rfl, hb1⟩
        have hB1 := hb1
        go_wp2_with (fail)
        go_must (refine (few_is _ (by omega) (by omega) HF.out).mono ?_)
        rintro e w2 ⟨rfl, hb2⟩
        have hB2 := Gen.over hb2 hB1
        go_wp2_with (fail)
        go_must (refine (units_is _ HN.out (hc.keep hB2) (by omega) HM.out (hc'.keep hB2) (by omega) HV.out).mono ?_)
        rintro e w3 ⟨rfl, hb3⟩
        have hB3 := Gen.over hb3 hB2
        go_wp2_with (fail)
        go_must (refine (move_l _ HN.out (hc.keep hB3) (by omega) HM.out (hc'.keep hB3) (by omega) H1.out HL1.out HQ1.out).mono ?_)
        rintro e w4 ⟨A1, _, rfl, hb4, i1⟩
        have hB4 := Gen.over hb4 hB3
        go_wp2_with (fail)
        go_must (refine (move_l _ HN.out (hc.keep hB4) (by omega) HM.out (hc'.keep hB4) (by omega) H2.out HL2.out HQ2.out).mono ?_)
        rintro e w5 ⟨A2, _, rfl, hb5, i2⟩
        have hB5 := Gen.over hb5 hB4
        replace i1 := i1.keep hb5
        go_wp2_with (fail)
        go_must (refine (move_l _ HN.out (hc.keep hB5) (by omega) HM.out (hc'.keep hB5) (by omega) H3.out HL3.out HQ3.out).mono ?_)
        rintro e w6 ⟨A3, _, rfl, hb6, i3⟩
        have hB6 := Gen.over hb6 hB5
        replace i1 := i1.keep hb6
        replace i2 := i2.keep hb6
        go_wp2_with (fail)
        go_must (refine (move_l _ HN.out (hc.keep hB6) (by omega) HQ1.out i1 (by omega) HE4.out HL4.out HM.out).mono ?_)
        rintro e w7 ⟨A4, _, rfl, hb7, i4⟩
        have hB7 := Gen.over hb7 hB6
        replace i1 := i1.keep hb7
        replace i2 := i2.keep hb7
        replace i3 := i3.keep hb7
        go_wp2_with (fail)
        go_must (refine (ints_is _ HM.out i4 (by omega) HM.out (hc'.keep hB7) (by omega) (show iEq us us = true from decide_eq_true rfl)).mono ?_)
        rintro e w8 ⟨rfl, hb8⟩
        have hB8 := Gen.over hb8 hB7
        replace i1 := i1.keep hb8
        replace i2 := i2.keep hb8
        replace i3 := i3.keep hb8
        replace i4 := i4.keep hb8
        go_wp2_with (fail)
        go_must (refine (move_l _ HN.out (hc.keep hB8) (by omega) HQ1.out i1 (by omega) HS1.out HL6.out HQ6.out).mono ?_)
        rintro e w9 ⟨A6, _, rfl, hb9, i6⟩
        have hB9 := Gen.over hb9 hB8
        replace i1 := i1.keep hb9
        replace i2 := i2.keep hb9
        replace i3 := i3.keep hb9
        replace i4 := i4.keep hb9
        go_wp2_with (fail)
        go_must (refine (move_l _ HN.out (hc.keep hB9) (by omega) HQ3.out i3 (by omega) HS2.out HL7.out HQ7.out).mono ?_)
        rintro e w10 ⟨A7, _, rfl, hb10, i7⟩
        have hB10 := Gen.over hb10 hB9
        replace i1 := i1.keep hb10
        replace i2 := i2.keep hb10
        replace i3 := i3.keep hb10
        replace i4 := i4.keep hb10
        replace i6 := i6.keep hb10
        go_wp2
        go_ret
        exact ⟨rfl, hB10⟩
      · have HS1 := Lib.hid s1
        have HS2 := Lib.hid s2
        clear s1 s2 S3 S4
        go_enter Try.func6, Try.ntmps6
        go_wp2_with (fail)
        refine (small_any _).mono ?_
        rintro e w1 ⟨rfl, hb1⟩
        have hB1 := hb1
        go_wp2_with (fail)
        go_must (refine (few_is _ (by omega) (by omega) HF.out).mono ?_)
        rintro e w2 ⟨rfl, hb2⟩
        have hB2 := Gen.over hb2 hB1
        go_wp2_with (fail)
        go_must (refine (units_is _ HN.out (hc.keep hB2) (by omega) HM.out (hc'.keep hB2) (by omega) HV.out).mono ?_)
        rintro e w3 ⟨rfl, hb3⟩
        have hB3 := Gen.over hb3 hB2
        go_wp2_with (fail)
        go_must (refine (move_l _ HN.out (hc.keep hB3) (by omega) HM.out (hc'.keep hB3) (by omega) H1.out HL1.out HQ1.out).mono ?_)
        rintro e w4 ⟨A1, _, rfl, hb4, i1⟩
        have hB4 := Gen.over hb4 hB3
        go_wp2_with (fail)
        go_must (refine (move_l _ HN.out (hc.keep hB4) (by omega) HM.out (hc'.keep hB4) (by omega) H2.out HL2.out HQ2.out).mono ?_)
        rintro e w5 ⟨A2, _, rfl, hb5, i2⟩
        have hB5 := Gen.over hb5 hB4
        replace i1 := i1.keep hb5
        go_wp2_with (fail)
        go_must (refine (move_l _ HN.out (hc.keep hB5) (by omega) HM.out (hc'.keep hB5) (by omega) H3.out HL3.out HQ3.out).mono ?_)
        rintro e w6 ⟨A3, _, rfl, hb6, i3⟩
        have hB6 := Gen.over hb6 hB5
        replace i1 := i1.keep hb6
        replace i2 := i2.keep hb6
        go_wp2_with (fail)
        go_must (refine (move_l _ HN.out (hc.keep hB6) (by omega) HQ1.out i1 (by omega) HE4.out HL4.out HM.out).mono ?_)
        rintro e w7 ⟨A4, _, rfl, hb7, i4⟩
        have hB7 := Gen.over hb7 hB6
        replace i1 := i1.keep hb7
        replace i2 := i2.keep hb7
        replace i3 := i3.keep hb7
        go_wp2_with (fail)
        go_must (refine (ints_is _ HM.out i4 (by omega) HM.out (hc'.keep hB7) (by omega) (show iEq us us = true from decide_eq_true rfl)).mono ?_)
        rintro e w8 ⟨rfl, hb8⟩
        have hB8 := Gen.over hb8 hB7
        replace i1 := i1.keep hb8
        replace i2 := i2.keep hb8
        replace i3 := i3.keep hb8
        replace i4 := i4.keep hb8
        go_wp2_with (fail)
        go_must (refine (move_l _ HN.out (hc.keep hB8) (by omega) HQ1.out i1 (by omega) HS1.out HL6.out HQ6.out).mono ?_)
        rintro e w9 ⟨A6, _, rfl, hb9, i6⟩
        have hB9 := Gen.over hb9 hB8
        replace i1 := i1.keep hb9
        replace i2 := i2.keep hb9
        replace i3 := i3.keep hb9
        replace i4 := i4.keep hb9
        go_wp2_with (fail)
        go_must (refine (move_l _ HN.out (hc.keep hB9) (by omega) HQ3.out i3 (by omega) HS2.out HL7.out HQ7.out).mono ?_)
        rintro e w10 ⟨A7, _, rfl, hb10, i7⟩
        have hB10 := Gen.over hb10 hB9
        replace i1 := i1.keep hb10
        replace i2 := i2.keep hb10
        replace i3 := i3.keep hb10
        replace i4 := i4.keep hb10
        replace i6 := i6.keep hb10
        go_wp2
        go_ret
        exact ⟨rfl, hB10⟩
    · have e3 : (E3 == 0) = false := by simpa using h30
      have H3 := Lib.hid h3
      clear h30 h3
      go_enter Try.func6, Try.ntmps6
      go_wp2_with (fail)
      refine (small_any _).mono ?_
      rintro e w1 ⟨rfl, hb1⟩
      have hB1 := hb1
      go_wp2_with (fail)
      go_must (refine (few_is _ (by omega) (by omega) HF.out).mono ?_)
      rintro e w2 ⟨rfl, hb2⟩
      have hB2 := Gen.over hb2 hB1
      go_wp2_with (fail)
      go_must (refine (units_is _ HN.out (hc.keep hB2) (by omega) HM.out (hc'.keep hB2) (by omega) HV.out).mono ?_)
      rintro e w3 ⟨rfl, hb3⟩
      have hB3 := Gen.over hb3 hB2
      go_wp2_with (fail)
      go_must (refine (move_l _ HN.out (hc.keep hB3) (by omega) HM.out (hc'.keep hB3) (by omega) H1.out HL1.out HQ1.out).mono ?_)
      rintro e w4 ⟨A1, _, rfl, hb4, i1⟩
      have hB4 := Gen.over hb4 hB3
      go_wp2_with (fail)
      go_must (refine (move_l _ HN.out (hc.keep hB4) (by omega) HM.out (hc'.keep hB4) (by omega) H2.out HL2.out HQ2.out).mono ?_)
      rintro e w5 ⟨A2, _, rfl, hb5, i2⟩
      have hB5 := Gen.over hb5 hB4
      replace i1 := i1.keep hb5
      go_wp2_with (fail)
      go_must (refine (move_l _ HN.out (hc.keep hB5) (by omega) HM.out (hc'.keep hB5) (by omega) H3.out HL3.out HQ3.out).mono ?_)
      rintro e w6 ⟨A3, _, rfl, hb6, i3⟩
      have hB6 := Gen.over hb6 hB5
      replace i1 := i1.keep hb6
      replace i2 := i2.keep hb6
      go_wp2_with (fail)
      go_must (refine (move_l _ HN.out (hc.keep hB6) (by omega) HQ1.out i1 (by omega) HE4.out HL4.out HM.out).mono ?_)
      rintro e w7 ⟨A4, _, rfl, hb7, i4⟩
      have hB7 := Gen.over hb7 hB6
      replace i1 := i1.keep hb7
      replace i2 := i2.keep hb7
      replace i3 := i3.keep hb7
      go_wp2_with (fail)
      go_must (refine (ints_is _ HM.out i4 (by omega) HM.out (hc'.keep hB7) (by omega) (show iEq us us = true from decide_eq_true rfl)).mono ?_)
      rintro e w8 ⟨rfl, hb8⟩
      have hB8 := Gen.over hb8 hB7
      replace i1 := i1.keep hb8
      replace i2 := i2.keep hb8
      replace i3 := i3.keep hb8
      replace i4 := i4.keep hb8
      go_wp2
      go_ret
      exact ⟨rfl, hB8⟩

theorem back_any (A : Option Addr) (cap : Nat) (ss : List (Int × Int)) (A' : Option Addr) (cap' : Nat) (us : List Int) (f t o x y : Int) (w : World) (hc : Prs w A ss) (hbig : ss.length ≤ 9223372036854775807) (hc' : Ints w A' us) (hbig' : us.length ≤ 9223372036854775807) :
    Calls Try.prog 6 #[.slice A ss.length cap, .slice A' us.length cap', .int .i64 f, .int .i64 t, .int .i64 o, .int .i64 x, .int .i64 y] w fun e w' => e = .returned (.bool true) ∧ Below w.heap.size w w' := by
  cases hf : (decide (ss.length ≤ 30) && decide (us.length ≤ 40))
  · exact back_a A _ cap A' _ cap' f t o x y w hbig hbig' hf
  cases hv : vd ss us
  · exact back_b A _ cap ss A' _ cap' us f t o x y w rfl hc rfl hc' hf (.inl hv)
  by_cases hx1 : 1 ≤ x
  case neg => exact back_b A _ cap ss A' _ cap' us f t o x y w rfl hc rfl hc' hf (.inr (.inl (by omega)))
  by_cases hy1 : 1 ≤ y
  case neg => exact back_b A _ cap ss A' _ cap' us f t o x y w rfl hc rfl hc' hf (.inr (.inr (.inl (by omega))))
  by_cases hx2 : x ≤ 1000000000
  case neg => exact back_b A _ cap ss A' _ cap' us f t o x y w rfl hc rfl hc' hf (.inr (.inr (.inr (.inl (by omega)))))
  by_cases hy2 : y ≤ 1000000000
  case neg => exact back_b A _ cap ss A' _ cap' us f t o x y w rfl hc rfl hc' hf (.inr (.inr (.inr (.inr (by omega)))))
  have he := (vd_in hv).2.1
  rw [he] at hf ⊢
  by_cases h1 : mvE ss us f t x = 0
  · by_cases hft : f = t
    · exact back_eq A _ cap ss A' cap' us f t o x y w rfl hc he hc' hf hv hx1 hy1 hx2 hy2 h1 hft
    · exact back_ne A _ cap ss A' cap' us f t o x y w rfl hc he hc' hf hv hx1 hy1 hx2 hy2 h1 hft
  · exact back_no A _ cap ss A' cap' us f t o x y w rfl hc he hc' hf hv hx1 hy1 hx2 hy2 h1
end Go.Proofs.Ytggheoppbghjeaa.Book
