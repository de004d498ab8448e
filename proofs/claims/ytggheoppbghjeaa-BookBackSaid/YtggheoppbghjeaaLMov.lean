/- BookMoves returns true: every list of seats and units, seats and numbers; no condition. -/
import Derived.Test.YtggheoppbghjeaaLTel
namespace Go.Proofs.Ytggheoppbghjeaa.Book
open Go.ChangeShapes Go.WideShapes Go.ChangeAt Go.RowKit Go.Proofs.Ytggheoppbghjeaa.Cell
set_option linter.unusedVariables false
set_option linter.unusedSimpArgs false

theorem sm_nn {f : Nat → Int} {n : Nat} (h : ∀ i, i < n → 0 ≤ f i) : 0 ≤ sm f n := by
  induction n with
  | zero => simp [sm]
  | succ n ih =>
    have a := ih fun i hi => h i (by omega)
    have b := h n (by omega)
    rw [sm_succ]; omega
theorem sm_one {f : Nat → Int} {n j : Nat} (h : ∀ i, i < n → 0 ≤ f i) (hj : j < n) : f j ≤ sm f n := by
  induction n with
  | zero => omega
  | succ n ih =>
    have a : 0 ≤ sm f n := sm_nn fun i hi => h i (by omega)
    have b := h n (by omega)
    rw [sm_succ]
    by_cases e : j = n
    · subst e; omega
    · have := ih (fun i hi => h i (by omega)) (by omega)
      omega
/-- units after a move -/
theorem mvL_len (us : List Int) (f t : Nat) (x : Int) : (mvL us f t x).length = us.length := by simp [mvL]
theorem mvL_at {us : List Int} {f t : Nat} (x : Int) (hf : f < us.length) (ht : t < us.length) (j : Nat) (hj : j < us.length) :
    (mvL us f t x).getD j 0 = us.getD j 0 + (if j = f then -x else 0) + (if j = t then x else 0) := by
  unfold mvL
  simp only [List.getD_eq_getElem?_getD]
  by_cases e : j = t
  · subst e
    rw [List.getElem?_set_self (by simpa using hj), if_pos rfl]
    by_cases e2 : j = f
    · subst e2
      rw [List.getElem?_set_self hj, if_pos rfl]
      simp only [Option.getD_some]; omega
    · rw [List.getElem?_set_ne (fun h => e2 h.symm), if_neg e2]
      simp only [Option.getD_some]; omega
  · rw [List.getElem?_set_ne (fun h => e h.symm), if_neg e]
    by_cases e2 : j = f
    · subst e2
      rw [List.getElem?_set_self hj, if_pos rfl]
      simp only [Option.getD_some]; omega
    · rw [List.getElem?_set_ne (fun h => e2 h.symm), if_neg e2]
      omega
theorem mvL_total {us : List Int} {f t : Nat} (x : Int) (hf : f < us.length) (ht : t < us.length) : total (mvL us f t x) = total us := by
  rw [total_sm, total_sm, mvL_len, sm_congr (fun j hj => mvL_at x hf ht j hj), sm_add, sm_add, sm_point _ hf, sm_point _ ht]
  omega
theorem mvL_has {ss : List (Int × Int)} {us : List Int} {f t : Nat} (x : Int) (hl : us.length = ss.length) (hf : f < us.length) (ht : t < us.length) (i : Nat) :
    hN ss (mvL us f t x) i = hN ss us i + (if bB ss i f = true then -x else 0) + (if bB ss i t = true then x else 0) := by
  rw [hN_sm (by rw [mvL_len, hl]), hN_sm hl, ← sm_point (n := ss.length) (if bB ss i f = true then -x else 0) (show f < ss.length by omega), ← sm_point (n := ss.length) (if bB ss i t = true then x else 0) (show t < ss.length by omega), ← sm_add, ← sm_add]
  refine sm_congr fun j hj => ?_
  rw [mvL_at x hf ht j (by omega)]
  by_cases e : j = f
  · by_cases e2 : j = t
    · subst e; subst e2
      cases bB ss i j <;> simp
    · subst e
      rw [if_pos rfl, if_pos rfl, if_neg e2, if_neg e2]
      cases bB ss i j <;> simp
  · by_cases e2 : j = t
    · subst e2
      rw [if_neg e, if_neg e, if_pos rfl, if_pos rfl]
      cases bB ss i j <;> simp
    · rw [if_neg e, if_neg e, if_neg e2, if_neg e2]; simp
theorem mvL_vd {ss : List (Int × Int)} {us : List Int} {f t : Nat} {x : Int} (hv : vd ss us = true) (hlf : lf ss f = true) (hlt : lf ss t = true) (hx : 1 ≤ x) (hu : x ≤ us.getD f 0) : vd ss (mvL us f t x) = true := by
  have hd := vd_in hv
  have hf : f < us.length := by have := (lf_in hlf).2; omega
  have ht : t < us.length := by have := (lf_in hlt).2; omega
  have nn : ∀ j, j < us.length → 0 ≤ (mvL us f t x).getD j 0 := fun j hj => by
    rw [mvL_at x hf ht j hj]
    obtain ⟨u, hu2⟩ := at_ us j hj
    have := vd_all hv u (mem_of_at hu2)
    have e : us.getD j 0 = u := by rw [List.getD_eq_getElem?_getD, hu2]; rfl
    by_cases e1 : j = f
    · subst e1
      rw [if_pos rfl]
      split <;> omega
    · rw [if_neg e1]
      split <;> omega
  have tot := mvL_total x hf ht
  rw [vd_R hd.1 (by rw [mvL_len, hd.2.1]), tot]
  · exact decide_eq_true hd.2.2.2
  · intro k hk
    rw [mvL_len] at hk
    obtain ⟨y, hy⟩ := at_ (mvL us f t x) k (by rw [mvL_len]; exact hk)
    have e : (mvL us f t x).getD k 0 = y := by rw [List.getD_eq_getElem?_getD, hy]; rfl
    have y0 := nn k hk
    have y1 : (mvL us f t x).getD k 0 ≤ total (mvL us f t x) := by
      rw [total_sm]
      exact sm_one (f := fun j => (mvL us f t x).getD j 0) (fun i hi => nn i (by rw [mvL_len] at hi; exact hi)) (by rw [mvL_len]; exact hk)
    have h4 := hd.2.2.2
    rw [okR_at hy, decide_eq_true (show 0 ≤ y ∧ y ≤ 1000000000 by omega), Bool.true_and]
    by_cases e1 : k = f
    · subst e1; rw [hlf, Bool.or_true]
    · by_cases e2 : k = t
      · subst e2; rw [hlt, Bool.or_true]
      · rw [mvL_at x hf ht k hk, if_neg e1, if_neg e2] at e
        obtain ⟨u, hu2⟩ := at_ us k hk
        have h1 := okR_of_U hd.2.1 hd.2.2.1 k hk
        have e3 : us.getD k 0 = u := by rw [List.getD_eq_getElem?_getD, hu2]; rfl
        rw [okR_at hu2, Bool.and_eq_true] at h1
        have : y = u := by omega
        rw [this]; exact h1.2
section
variable {ss : List (Int × Int)} {us : List Int} {f t x : Int}
theorem mvR_no (h : mvE ss us f t x ≠ 0) : mvR ss us f t x = [] := if_neg h
theorem mvE_leafF (hv : vd ss us = true) (hx : 1 ≤ x) (h : lf ss f = false) : mvE ss us f t x = 4 := by
  unfold mvE; rw [if_neg (by rw [hv]; simp; omega), if_pos (.inl h)]
theorem mvE_leafT (hv : vd ss us = true) (hx : 1 ≤ x) (h : lf ss t = false) : mvE ss us f t x = 4 := by
  unfold mvE; rw [if_neg (by rw [hv]; simp; omega), if_pos (.inr h)]
theorem mvE_few (hv : vd ss us = true) (hx : 1 ≤ x) (h : lf ss f = true) (h2 : lf ss t = true) (hu : us.getD f.toNat 0 < x) : mvE ss us f t x = 22 := by
  unfold mvE; rw [if_neg (by rw [hv]; simp; omega), if_neg (by rw [h, h2]; simp), if_pos hu]
theorem mvE_ok (hv : vd ss us = true) (hx : 1 ≤ x) (h : lf ss f = true) (h2 : lf ss t = true) (hu : x ≤ us.getD f.toNat 0) : mvE ss us f t x = 0 := by
  unfold mvE; rw [if_neg (by rw [hv]; simp; omega), if_neg (by rw [h, h2]; simp), if_neg (by omega)]
theorem mvR_ok (h : mvE ss us f t x = 0) : mvR ss us f t x = mvL us f.toNat t.toNat x := if_pos h
end
theorem lfO_of {ss : List (Int × Int)} {i : Int} {b : Bool} (hr : rg ss = true) (h : lf ss i = b) : lfO ss i = b := by unfold lfO; rw [hr, h]; rfl

set_option maxRecDepth 100000 in
set_option maxHeartbeats 1000000 in
theorem moves_a (A : Option Addr) (n cap : Nat) (A' : Option Addr) (m cap' : Nat) (f t x : Int) (w : World) (hn : n ≤ 9223372036854775807) (hm : m ≤ 9223372036854775807) (h : (decide (n ≤ 30) && decide (m ≤ 40)) = false) :
    Calls Try.prog 5 #[.slice A n cap, .slice A' m cap', .int .i64 f, .int .i64 t, .int .i64 x] w fun e w' => e = .returned (.bool true) ∧ Below w.heap.size w w' := by
  have HF := Lib.hid h
  clear h
  go_enter Try.func5, Try.ntmps5
  go_wp2_with (fail)
  refine (small_any _).mono ?_
  rintro e w1 ⟨rfl, hb1⟩
  have hB1 := hb1
  go_wp2_with (fail)
  go_must (refine (few_is _ hn hm HF.out).mono ?_)
  rintro e w2 ⟨rfl, hb2⟩
  have hB2 := Gen.over hb2 hB1
  go_wp2
  go_ret
  exact ⟨rfl, hB2⟩

set_option maxRecDepth 100000 in
set_option maxHeartbeats 4000000 in
theorem moves_b (A : Option Addr) (n cap : Nat) (ss : List (Int × Int)) (A' : Option Addr) (m cap' : Nat) (us : List Int) (f t x : Int) (w : World) (hn : ss.length = n) (hc : Prs w A ss) (hm : us.length = m) (hc' : Ints w A' us) (hf : (decide (n ≤ 30) && decide (m ≤ 40)) = true) :
    Calls Try.prog 5 #[.slice A n cap, .slice A' m cap', .int .i64 f, .int .i64 t, .int .i64 x] w fun e w' => e = .returned (.bool true) ∧ Below w.heap.size w w' := by
  have HN := Lib.hid hn
  have HM := Lib.hid hm
  obtain ⟨f1, f2⟩ := few_in hf
  have HF := Lib.hid hf
  clear hn hm hf
  cases hv : vd ss us
  · have HV := Lib.hid hv
    clear hv
    go_enter Try.func5, Try.ntmps5
    go_wp2_with (fail)
    refine (small_any _).mono ?_
    rintro e w1 ⟨rfl, hb1⟩
    have hB1 := hb1
    go_wp2_with (fail)
    go_must (refine (few_is _ (by omega) (by omega) HF.out).mono ?_)
    rintro e w2 ⟨rfl, hb2⟩
    have hB2 := Gen.over hb2 hB1
    go_wp2_with (fail)
    go_must (refine (units_is _ HN.out (hc.keep hB2) (by omega) HM.out (hc'.keep hB2) (by omega) HV.out).mono ?_)
    rintro e w3 ⟨rfl, hb3⟩
    have hB3 := Gen.over hb3 hB2
    go_wp2
    go_ret
    exact ⟨rfl, hB3⟩
  have HV := Lib.hid hv
  have HR := Lib.hid (vd_in hv).1
  have hmn : m = n := by rw [← HM.out, ← HN.out]; exact (vd_in HV.out).2.1
  subst hmn
  clear hv
  by_cases hx : x < 1
  · go_enter Try.func5, Try.ntmps5
    go_wp2_with (fail)
    refine (small_any _).mono ?_
    rintro e w1 ⟨rfl, hb1⟩
    have hB1 := hb1
    go_wp2_with (fail)
    go_must (refine (few_is _ (by omega) (by omega) HF.out).mono ?_)
    rintro e w2 ⟨rfl, hb2⟩
    have hB2 := Gen.over hb2 hB1
    go_wp2_with (fail)
    go_must (refine (units_is _ HN.out (hc.keep hB2) (by omega) HM.out (hc'.keep hB2) (by omega) HV.out).mono ?_)
    rintro e w3 ⟨rfl, hb3⟩
    have hB3 := Gen.over hb3 hB2
    go_wp2
    go_ret
    exact ⟨rfl, hB3⟩
  have hx1 : 1 ≤ x := by omega
  clear hx
  cases hl : lf ss f
  · have HE := Lib.hid (mvE_leafF (t := t) HV.out hx1 hl)
    have HL := Lib.hid (mvR_no (show mvE ss us f t x ≠ 0 by rw [HE.out]; omega))
    have HLF := Lib.hid (lfO_of HR.out hl)
    clear hl
    go_enter Try.func5, Try.ntmps5
    go_wp2_with (fail)
    refine (small_any _).mono ?_
    rintro e w1 ⟨rfl, hb1⟩
    have hB1 := hb1
    go_wp2_with (fail)
    go_must (refine (few_is _ (by omega) (by omega) HF.out).mono ?_)
    rintro e w2 ⟨rfl, hb2⟩
    have hB2 := Gen.over hb2 hB1
    go_wp2_with (fail)
    go_must (refine (units_is _ HN.out (hc.keep hB2) (by omega) HM.out (hc'.keep hB2) (by omega) HV.out).mono ?_)
    rintro e w3 ⟨rfl, hb3⟩
    have hB3 := Gen.over hb3 hB2
    go_wp2_with (fail)
    go_must (refine (move_l _ HN.out (hc.keep hB3) (by omega) HM.out (hc'.keep hB3) (by omega) HE.out HL.out (q := 0) rfl).mono ?_)
    rintro e w4 ⟨A1, c1, rfl, hb4, _⟩
    have hB4 := Gen.over hb4 hB3
    go_wp2_with (fail)
    go_must (refine (bleaf_is _ HN.out (hc.keep hB4) (by omega) HLF.out).mono ?_)
    rintro e w5 ⟨rfl, hb5⟩
    have hB5 := Gen.over hb5 hB4
    (try replace i1 := i1.keep hb5)
    go_wp2
    go_ret
    exact ⟨rfl, hB5⟩
  have HLF := Lib.hid (lfO_of HR.out hl)
  have HL1 := Lib.hid hl
  clear hl
  cases hl : lf ss t
  · have HE := Lib.hid (mvE_leafT (f := f) HV.out hx1 hl)
    have HL := Lib.hid (mvR_no (show mvE ss us f t x ≠ 0 by rw [HE.out]; omega))
    have HLT := Lib.hid (lfO_of HR.out hl)
    clear hl
    go_enter Try.func5, Try.ntmps5
    go_wp2_with (fail)
    refine (small_any _).mono ?_
    rintro e w1 ⟨rfl, hb1⟩
    have hB1 := hb1
    go_wp2_with (fail)
    go_must (refine (few_is _ (by omega) (by omega) HF.out).mono ?_)
    rintro e w2 ⟨rfl, hb2⟩
    have hB2 := Gen.over hb2 hB1
    go_wp2_with (fail)
    go_must (refine (units_is _ HN.out (hc.keep hB2) (by omega) HM.out (hc'.keep hB2) (by omega) HV.out).mono ?_)
    rintro e w3 ⟨rfl, hb3⟩
    have hB3 := Gen.over hb3 hB2
    go_wp2_with (fail)
    go_must (refine (move_l _ HN.out (hc.keep hB3) (by omega) HM.out (hc'.keep hB3) (by omega) HE.out HL.out (q := 0) rfl).mono ?_)
    rintro e w4 ⟨A1, c1, rfl, hb4, _⟩
    have hB4 := Gen.over hb4 hB3
    go_wp2_with (fail)
    go_must (refine (bleaf_is _ HN.out (hc.keep hB4) (by omega) HLF.out).mono ?_)
    rintro e w5 ⟨rfl, hb5⟩
    have hB5 := Gen.over hb5 hB4
    (try replace i1 := i1.keep hb5)
    go_wp2_with (fail)
    go_must (refine (bleaf_is _ HN.out (hc.keep hB5) (by omega) HLT.out).mono ?_)
    rintro e w6 ⟨rfl, hb6⟩
    have hB6 := Gen.over hb6 hB5
    (try replace i1 := i1.keep hb6)
    go_wp2
    go_ret
    exact ⟨rfl, hB6⟩
  have HLT := Lib.hid (lfO_of HR.out hl)
  have HL2 := Lib.hid hl
  clear hl
  obtain ⟨f0, f3⟩ := lf_in HL1.out
  obtain ⟨t0, t3⟩ := lf_in HL2.out
  rw [HN.out] at f3 t3
  obtain ⟨f, rfl⟩ := Int.eq_ofNat_of_zero_le f0
  obtain ⟨t, rfl⟩ := Int.eq_ofNat_of_zero_le t0
  obtain ⟨u, hu⟩ := at_ us f (by rw [HM.out]; omega)
  have hgd : us.getD f 0 = u := by rw [List.getD_eq_getElem?_getD, hu]; rfl
  obtain ⟨u0, u1⟩ := vd_all HV.out u (mem_of_at hu)
  have HU := Lib.hid hu
  have f0' : (0 : Int) ≤ (f : Int) := by omega
  by_cases hux : u < x
  · have HE := Lib.hid (mvE_few HV.out hx1 HL1.out HL2.out (by rw [Int.toNat_natCast, hgd]; exact hux))
    have HL := Lib.hid (mvR_no (show mvE ss us f t x ≠ 0 by rw [HE.out]; omega))
    clear hu hgd
    go_enter Try.func5, Try.ntmps5
    go_wp2_with (fail)
    refine (small_any _).mono ?_
    rintro e w1 ⟨rfl, hb1⟩
    have hB1 := hb1
    go_wp2_with (fail)
    go_must (refine (few_is _ (by omega) (by omega) HF.out).mono ?_)
    rintro e w2 ⟨rfl, hb2⟩
    have hB2 := Gen.over hb2 hB1
    go_wp2_with (fail)
    go_must (refine (units_is _ HN.out (hc.keep hB2) (by omega) HM.out (hc'.keep hB2) (by omega) HV.out).mono ?_)
    rintro e w3 ⟨rfl, hb3⟩
    have hB3 := Gen.over hb3 hB2
    go_wp2_with (fail)
    go_must (refine (move_l _ HN.out (hc.keep hB3) (by omega) HM.out (hc'.keep hB3) (by omega) HE.out HL.out (q := 0) rfl).mono ?_)
    rintro e w4 ⟨A1, c1, rfl, hb4, _⟩
    have hB4 := Gen.over hb4 hB3
    go_wp2_with (fail)
    go_must (refine (bleaf_is _ HN.out (hc.keep hB4) (by omega) HLF.out).mono ?_)
    rintro e w5 ⟨rfl, hb5⟩
    have hB5 := Gen.over hb5 hB4
    (try replace i1 := i1.keep hb5)
    go_wp2_with (fail)
    go_must (refine (bleaf_is _ HN.out (hc.keep hB5) (by omega) HLT.out).mono ?_)
    rintro e w6 ⟨rfl, hb6⟩
    have hB6 := Gen.over hb6 hB5
    (try replace i1 := i1.keep hb6)
    obtain ⟨b, off, rfl, hcell⟩ := (hc'.keep hB6) (by rw [HM.out]; omega)
    have c0 := hcell f u HU.out
    clear hcell
    go_wp2
    go_ret
    exact ⟨rfl, hB6⟩
  have hxu : x ≤ u := by omega
  have hE := mvE_ok HV.out hx1 HL1.out HL2.out (by rw [Int.toNat_natCast, hgd]; exact hxu)
  have HE := Lib.hid hE
  obtain ⟨L, hL⟩ : ∃ L, mvL us f t x = L := ⟨_, rfl⟩
  have HL := Lib.hid (show mvR ss us f t x = L from by rw [mvR_ok hE, Int.toNat_natCast, Int.toNat_natCast, hL])
  have HQ := Lib.hid (show L.length = m from by rw [← hL, mvL_len, HM.out])
  have HVL := Lib.hid (show vd ss L = true from by rw [← hL]; exact mvL_vd HV.out HL1.out HL2.out hx1 (by rw [hgd]; exact hxu))
  have HH := Lib.hid (show ∀ i, hN ss L i = hN ss us i + (if bB ss i f = true then -x else 0) + (if bB ss i t = true then x else 0) from fun i => by
    rw [← hL]; exact mvL_has x (by rw [HM.out, HN.out]) (by rw [HM.out]; omega) (by rw [HM.out]; omega) i)
  have HP := Lib.hid (pre_of HR.out)
  clear hu hgd hux hE hL
  go_enter Try.func5, Try.ntmps5
  go_wp2_with (fail)
  refine (small_any _).mono ?_
  rintro e w1 ⟨rfl, hb1⟩
  have hB1 := hb1
  go_wp2_with (fail)
  go_must (refine (few_is _ (by omega) (by omega) HF.out).mono ?_)
  rintro e w2 ⟨rfl, hb2⟩
  have hB2 := Gen.over hb2 hB1
  go_wp2_with (fail)
  go_must (refine (units_is _ HN.out (hc.keep hB2) (by omega) HM.out (hc'.keep hB2) (by omega) HV.out).mono ?_)
  rintro e w3 ⟨rfl, hb3⟩
  have hB3 := Gen.over hb3 hB2
  go_wp2_with (fail)
  go_must (refine (move_l _ HN.out (hc.keep hB3) (by omega) HM.out (hc'.keep hB3) (by omega) HE.out HL.out HQ.out).mono ?_)
  rintro e w4 ⟨A1, c1, rfl, hb4, i1⟩
  have hB4 := Gen.over hb4 hB3
  go_wp2_with (fail)
  go_must (refine (bleaf_is _ HN.out (hc.keep hB4) (by omega) HLF.out).mono ?_)
  rintro e w5 ⟨rfl, hb5⟩
  have hB5 := Gen.over hb5 hB4
  (try replace i1 := i1.keep hb5)
  go_wp2_with (fail)
  go_must (refine (bleaf_is _ HN.out (hc.keep hB5) (by omega) HLT.out).mono ?_)
  rintro e w6 ⟨rfl, hb6⟩
  have hB6 := Gen.over hb6 hB5
  (try replace i1 := i1.keep hb6)
  have hI := hc'.keep hB6
  obtain ⟨b, off, rfl, hcell⟩ := hI (by rw [HM.out]; omega)
  have c0 := hcell f u HU.out
  clear hcell
  go_wp2_with (fail)
  go_must (refine (units_is _ HN.out (hc.keep hB6) (by omega) HQ.out i1 (by omega) HVL.out).mono ?_)
  rintro e w7 ⟨rfl, hb7⟩
  have hB7 := Gen.over hb7 hB6
  replace i1 := i1.keep hb7
  go_wp2_with (fail)
  replace hc := hc.keep hB7
  replace hI := hI.keep hb7
  clear hb1 hb2 hb3 hb4 hb5 hb6 hb7 hB1 hB2 hB3 hB4 hB5 hB6
  go_loopw [14] (fun iv wr => ∃ k : Nat, k ≤ m ∧ iv = .int .i64 k ∧ Below w7.heap.size w7 wr) (fun iv _ => m - (intOf iv).toNat)
  case atStart => exact ⟨0, Nat.zero_le _, rfl, Below.refl _ _⟩
  case round =>
    obtain ⟨k, hk, rfl, hW⟩ := hrel
    by_cases hlt : k < m
    · obtain ⟨h, hh⟩ : ∃ h, hN ss us k = h := ⟨_, rfl⟩
      have h01 := hN_in HV.out k
      rw [hh] at h01
      obtain ⟨h0, h1⟩ := h01
      obtain ⟨y1, hy1⟩ := at_ (acc (bl0 k) ss) f (by rw [acc_length, HN.out]; omega)
      obtain ⟨y2, hy2⟩ := at_ (acc (bl0 k) ss) t (by rw [acc_length, HN.out]; omega)
      have HY1 := Lib.hid hy1
      have HY2 := Lib.hid hy2
      have hx := HH.out k
      rw [bB_at hy1, bB_at hy2, hh] at hx
      have HHK := Lib.hid hh
      have k0 : (0 : Int) ≤ (k : Int) := by omega
      clear hy1 hy2 hh
      have hcr := hc.keep hW
      have hir := hI.keep hW
      have hlr := i1.keep hW
      cases y1 <;> cases y2
      · have HX := Lib.hid (show hN ss L k = h from by rw [hx]; simp)
        clear hx
        go_wp2_with (fail)
        go_must (refine (held_n _ HN.out hcr f1 HM.out hir HV.out hlt HHK.out).mono ?_)
        rintro e v1 ⟨rfl, d1⟩
        have D1 := Gen.over d1 hW
        go_wp2_with (fail)
        go_must (refine (below_any _ _ _ _ _ _ _ _ HN.out (hc.keep D1) (by omega) HP.out HY1.out hlt).mono ?_)
        rintro e v2 ⟨rfl, d2⟩
        have D2 := Gen.over d2 D1
        go_wp2_with (fail)
        go_must (refine (below_any _ _ _ _ _ _ _ _ HN.out (hc.keep D2) (by omega) HP.out HY2.out hlt).mono ?_)
        rintro e v3 ⟨rfl, d3⟩
        have D3 := Gen.over d3 D2
        go_wp2_with (fail)
        go_must (refine (held_n _ HN.out (hc.keep D3) f1 HQ.out (i1.keep D3) HVL.out hlt HX.out).mono ?_)
        rintro e v4 ⟨rfl, d4⟩
        have D4 := Gen.over d4 D3
        go_wp2
        exact ⟨⟨k + 1, by omega, by go_num, D4⟩, by simp [intOf]; omega⟩
      · have HX := Lib.hid (show hN ss L k = h + x from by rw [hx]; simp)
        clear hx
        go_wp2_with (fail)
        go_must (refine (held_n _ HN.out hcr f1 HM.out hir HV.out hlt HHK.out).mono ?_)
        rintro e v1 ⟨rfl, d1⟩
        have D1 := Gen.over d1 hW
        go_wp2_with (fail)
        go_must (refine (below_any _ _ _ _ _ _ _ _ HN.out (hc.keep D1) (by omega) HP.out HY1.out hlt).mono ?_)
        rintro e v2 ⟨rfl, d2⟩
        have D2 := Gen.over d2 D1
        go_wp2_with (fail)
        go_must (refine (below_any _ _ _ _ _ _ _ _ HN.out (hc.keep D2) (by omega) HP.out HY2.out hlt).mono ?_)
        rintro e v3 ⟨rfl, d3⟩
        have D3 := Gen.over d3 D2
        go_wp2_with (fail)
        go_must (refine (held_n _ HN.out (hc.keep D3) f1 HQ.out (i1.keep D3) HVL.out hlt HX.out).mono ?_)
        rintro e v4 ⟨rfl, d4⟩
        have D4 := Gen.over d4 D3
        go_wp2
        exact ⟨⟨k + 1, by omega, by go_num, D4⟩, by simp [intOf]; omega⟩
      · have HX := Lib.hid (show hN ss L k = h - x from by rw [hx]; simp; omega)
        clear hx
        go_wp2_with (fail)
        go_must (refine (held_n _ HN.out hcr f1 HM.out hir HV.out hlt HHK.out).mono ?_)
        rintro e v1 ⟨rfl, d1⟩
        have D1 := Gen.over d1 hW
        go_wp2_with (fail)
        go_must (refine (below_any _ _ _ _ _ _ _ _ HN.out (hc.keep D1) (by omega) HP.out HY1.out hlt).mono ?_)
        rintro e v2 ⟨rfl, d2⟩
        have D2 := Gen.over d2 D1
        go_wp2_with (fail)
        go_must (refine (below_any _ _ _ _ _ _ _ _ HN.out (hc.keep D2) (by omega) HP.out HY2.out hlt).mono ?_)
        rintro e v3 ⟨rfl, d3⟩
        have D3 := Gen.over d3 D2
        go_wp2_with (fail)
        go_must (refine (held_n _ HN.out (hc.keep D3) f1 HQ.out (i1.keep D3) HVL.out hlt HX.out).mono ?_)
        rintro e v4 ⟨rfl, d4⟩
        have D4 := Gen.over d4 D3
        go_wp2
        exact ⟨⟨k + 1, by omega, by go_num, D4⟩, by simp [intOf]; omega⟩
      · have HX := Lib.hid (show hN ss L k = h - x + x from by rw [hx]; simp; omega)
        clear hx
        go_wp2_with (fail)
        go_must (refine (held_n _ HN.out hcr f1 HM.out hir HV.out hlt HHK.out).mono ?_)
        rintro e v1 ⟨rfl, d1⟩
        have D1 := Gen.over d1 hW
        go_wp2_with (fail)
        go_must (refine (below_any _ _ _ _ _ _ _ _ HN.out (hc.keep D1) (by omega) HP.out HY1.out hlt).mono ?_)
        rintro e v2 ⟨rfl, d2⟩
        have D2 := Gen.over d2 D1
        go_wp2_with (fail)
        go_must (refine (below_any _ _ _ _ _ _ _ _ HN.out (hc.keep D2) (by omega) HP.out HY2.out hlt).mono ?_)
        rintro e v3 ⟨rfl, d3⟩
        have D3 := Gen.over d3 D2
        go_wp2_with (fail)
        go_must (refine (held_n _ HN.out (hc.keep D3) f1 HQ.out (i1.keep D3) HVL.out hlt HX.out).mono ?_)
        rintro e v4 ⟨rfl, d4⟩
        have D4 := Gen.over d4 D3
        go_wp2
        exact ⟨⟨k + 1, by omega, by go_num, D4⟩, by simp [intOf]; omega⟩
    · obtain rfl : m = k := by omega
      have hE := Gen.over hW hB7
      go_wp2
      go_ret
      exact ⟨rfl, hE⟩
theorem moves_any (A : Option Addr) (cap : Nat) (ss : List (Int × Int)) (A' : Option Addr) (cap' : Nat) (us : List Int) (f t x : Int) (w : World) (hc : Prs w A ss) (hbig : ss.length ≤ 9223372036854775807) (hc' : Ints w A' us) (hbig' : us.length ≤ 9223372036854775807) :
    Calls Try.prog 5 #[.slice A ss.length cap, .slice A' us.length cap', .int .i64 f, .int .i64 t, .int .i64 x] w fun e w' => e = .returned (.bool true) ∧ Below w.heap.size w w' := by
  cases hf : (decide (ss.length ≤ 30) && decide (us.length ≤ 40))
  · exact moves_a A _ cap A' _ cap' f t x w hbig hbig' hf
  · exact moves_b A _ cap ss A' _ cap' us f t x w rfl hc rfl hc' hf
end Go.Proofs.Ytggheoppbghjeaa.Book
