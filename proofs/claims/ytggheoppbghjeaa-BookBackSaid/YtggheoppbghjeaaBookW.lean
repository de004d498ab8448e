/- The reference of book: the contract of Move. -/
import Derived.Test.YtggheoppbghjeaaBookV
namespace Go.Proofs.Ytggheoppbghjeaa.Book
open Go.ChangeShapes Go.WideShapes Go.ChangeAt Go.RowKit Go.Proofs.Ytggheoppbghjeaa.Cell
set_option linter.unusedVariables false
set_option linter.unusedSimpArgs false

set_option maxRecDepth 100000 in
set_option maxHeartbeats 8000000 in
theorem rmove_any (A : Option Addr) (n cap : Nat) (ss : List (Int × Int)) (A' : Option Addr) (m cap' : Nat) (us : List Int) (f t x : Int) (w : World) (hn : ss.length = n) (hc : Prs w A ss) (hbig : n ≤ 1000000) (hm : us.length = m) (hc' : Ints w A' us) (hbig' : m ≤ 1000000) :
    Calls Try.prog 11 #[.slice A n cap, .slice A' m cap', .int .i64 f, .int .i64 t, .int .i64 x] w (MovePost ss us f t x w) := by
  have HN := Lib.hid hn
  have HM := Lib.hid hm
  clear hn hm
  cases hv : vd ss us
  · have HE := Lib.hid (show mvE ss us f t x = 1 from if_pos (.inr hv))
    have HV := Lib.hid hv
    clear hv
    go_enter Try.func11, Try.ntmps11
    go_wp2_with (fail)
    go_must (refine (units_is _ HN.out hc hbig HM.out hc' hbig' HV.out).mono ?_)
    rintro e w1 ⟨rfl, hB1⟩
    go_wp2
    go_ret2
    exact move_no HE.out (by omega) hB1
  have HV := Lib.hid hv
  have HR := Lib.hid (vd_in hv).1
  clear hv
  by_cases hx : x < 1
  · have HE := Lib.hid (show mvE ss us f t x = 1 from if_pos (.inl hx))
    go_enter Try.func11, Try.ntmps11
    go_wp2_with (fail)
    go_must (refine (units_is _ HN.out hc hbig HM.out hc' hbig' HV.out).mono ?_)
    rintro e w1 ⟨rfl, hB1⟩
    go_wp2
    go_ret2
    exact move_no HE.out (by omega) hB1
  have hx1 : 1 ≤ x := by omega
  cases hf : lf ss f
  · have HE := Lib.hid (show mvE ss us f t x = 4 from by unfold mvE; rw [if_neg (by rw [HV.out]; simp; omega), if_pos (.inl hf)])
    have HF := Lib.hid hf
    clear hf hx
    go_enter Try.func11, Try.ntmps11
    go_wp2_with (fail)
    go_must (refine (units_is _ HN.out hc hbig HM.out hc' hbig' HV.out).mono ?_)
    rintro e w1 ⟨rfl, hB1⟩
    go_wp2_with (fail)
    go_must (refine (rleaf_is _ HN.out (hc.keep hB1) hbig (show lfO ss _ = _ from by unfold lfO; rw [HR.out, HF.out])).mono ?_)
    rintro e w2 ⟨rfl, hb2⟩
    have hB2 := Gen.over hb2 hB1
    go_wp2
    go_ret2
    exact move_no HE.out (by omega) hB2
  have HF := Lib.hid hf
  clear hf
  cases ht : lf ss t
  · have HE := Lib.hid (show mvE ss us f t x = 4 from by unfold mvE; rw [if_neg (by rw [HV.out]; simp; omega), if_pos (.inr ht)])
    have HT := Lib.hid ht
    clear ht hx
    go_enter Try.func11, Try.ntmps11
    go_wp2_with (fail)
    go_must (refine (units_is _ HN.out hc hbig HM.out hc' hbig' HV.out).mono ?_)
    rintro e w1 ⟨rfl, hB1⟩
    go_wp2_with (fail)
    go_must (refine (rleaf_is _ HN.out (hc.keep hB1) hbig (show lfO ss _ = _ from by unfold lfO; rw [HR.out, HF.out])).mono ?_)
    rintro e w2 ⟨rfl, hb2⟩
    have hB2 := Gen.over hb2 hB1
    go_wp2_with (fail)
    go_must (refine (rleaf_is _ HN.out (hc.keep hB2) hbig (show lfO ss _ = _ from by unfold lfO; rw [HR.out, HT.out])).mono ?_)
    rintro e w3 ⟨rfl, hb3⟩
    have hB3 := Gen.over hb3 hB2
    go_wp2
    go_ret2
    exact move_no HE.out (by omega) hB3
  have HT := Lib.hid ht
  clear ht
  obtain ⟨f0, f1⟩ := lf_in HF.out
  obtain ⟨t0, t1⟩ := lf_in HT.out
  have hmn : m = n := by have := (vd_in HV.out).2.1; rw [HM.out, HN.out] at this; exact this
  subst hmn
  rw [HN.out] at f1 t1
  obtain ⟨f, rfl⟩ := Int.eq_ofNat_of_zero_le f0
  obtain ⟨t, rfl⟩ := Int.eq_ofNat_of_zero_le t0
  obtain ⟨u, hu⟩ := at_ us f (by rw [HM.out]; omega)
  obtain ⟨v, hv⟩ := at_ (us.set f (u - x)) t (by rw [List.length_set, HM.out]; omega)
  have hul := vd_all HV.out
  obtain ⟨u0, u1⟩ := hul u (mem_of_at hu)
  have hgd : us.getD f 0 = u := by rw [List.getD_eq_getElem?_getD, hu]; rfl
  by_cases hux : u < x
  · have HE := Lib.hid (show mvE ss us f t x = 22 from by
      unfold mvE
      rw [if_neg (by rw [HV.out]; simp; omega), if_neg (by rw [HF.out, HT.out]; simp), Int.toNat_natCast, hgd, if_pos hux])
    have HU := Lib.hid hu
    clear hu hv hgd hul hx
    go_enter Try.func11, Try.ntmps11
    go_wp2_with (fail)
    go_must (refine (units_is _ HN.out hc hbig HM.out hc' hbig' HV.out).mono ?_)
    rintro e w1 ⟨rfl, hB1⟩
    go_wp2_with (fail)
    go_must (refine (rleaf_is _ HN.out (hc.keep hB1) hbig (show lfO ss _ = _ from by unfold lfO; rw [HR.out, HF.out])).mono ?_)
    rintro e w2 ⟨rfl, hb2⟩
    have hB2 := Gen.over hb2 hB1
    go_wp2_with (fail)
    go_must (refine (rleaf_is _ HN.out (hc.keep hB2) hbig (show lfO ss _ = _ from by unfold lfO; rw [HR.out, HT.out])).mono ?_)
    rintro e w3 ⟨rfl, hb3⟩
    have hB3 := Gen.over hb3 hB2
    obtain ⟨b, off, rfl, hcell⟩ := (hc'.keep hB3) (by rw [HM.out]; omega)
    have c0 := hcell f u HU.out
    clear hcell
    go_wp2
    go_ret2
    exact move_no HE.out (by omega) hB3
  · have hE : mvE ss us f t x = 0 := by
      unfold mvE
      rw [if_neg (by rw [HV.out]; simp; omega), if_neg (by rw [HF.out, HT.out]; simp), Int.toNat_natCast, hgd, if_neg hux]
    have hL : mvR ss us f t x = (us.set f (u - x)).set t (v + x) := by
      unfold mvR mvL
      rw [if_pos hE, Int.toNat_natCast, Int.toNat_natCast, hgd, List.getD_eq_getElem?_getD (l := us.set f (u - x)), hv]; rfl
    have HE := Lib.hid hE
    have HL := Lib.hid hL
    have HU := Lib.hid hu
    have HVV := Lib.hid hv
    have hxu : x ≤ u := by omega
    have hv01 : 0 ≤ v ∧ v ≤ 1000000000 := by
      by_cases e : f = t
      · subst e
        rw [List.getElem?_set_self (by rw [HM.out]; omega)] at hv
        have := Option.some.inj hv
        omega
      · rw [List.getElem?_set_ne e] at hv
        exact hul v (mem_of_at hv)
    obtain ⟨v0, v1⟩ := hv01
    obtain ⟨i0, hi0, hz0, hz1, hz2⟩ := info_parts info3
    clear hE hL hu hv hgd hul hux hx
    go_enter Try.func11, Try.ntmps11
    go_wp2_with (fail)
    go_must (refine (units_is _ HN.out hc hbig HM.out hc' hbig' HV.out).mono ?_)
    rintro e w1 ⟨rfl, hB1⟩
    go_wp2_with (fail)
    go_must (refine (rleaf_is _ HN.out (hc.keep hB1) hbig (show lfO ss _ = _ from by unfold lfO; rw [HR.out, HF.out])).mono ?_)
    rintro e w2 ⟨rfl, hb2⟩
    have hB2 := Gen.over hb2 hB1
    go_wp2_with (fail)
    go_must (refine (rleaf_is _ HN.out (hc.keep hB2) hbig (show lfO ss _ = _ from by unfold lfO; rw [HR.out, HT.out])).mono ?_)
    rintro e w3 ⟨rfl, hb3⟩
    have hB3 := Gen.over hb3 hB2
    have hI3 := hc'.keep hB3
    have r1 := ints_reads HM.out hI3
    obtain ⟨b, off, rfl, hcell⟩ := hI3 (by rw [HM.out]; omega)
    have c0 := hcell f u HU.out
    have hown : (w3.alloc (.cells #[] 3)).ownsRow w3.heap.size 3 1 (.slice (some ⟨w3.heap.size, 0, none⟩) 0 0) 0 [] :=
      ⟨rfl, .inr ⟨w3.heap.size, 0, #[], rfl, Nat.le_refl _, heap_alloc_new w3 _, Nat.le_refl _, by simp [maxLen], rfl, rfl⟩⟩
    clear hcell hB1 hb2 hb3 hB2
    go_wp2_with (first
      | (at_builtin
         go_must (refine App.wpList_append_any _ rfl (.tmp 37) (.tmp 38) _ rfl w3.heap.size 3 i0 _ 1 8 Try.underlying23 hi0 hz0 hz1 hz2 rfl (by omega) _ 0 [] rfl hown w3.heap.size _ m cap' (ils us) rfl (r1.alloc (Nat.le_refl _) _) (ils_one us) (by simp only [maxLen]; omega) (by omega) (by simp) ?_)
         intro v2 w4 hown2 hg2 hat2
         have hb4 := Gen.g_below hown hg2 (Gen.b_alloc (Below.refl _ _)) (Nat.le_refl _)
         have hB4 := Gen.over hb4 hB3
         rw [List.nil_append, Nat.zero_add] at hown2
         obtain ⟨g, c, rfl, _, _⟩ := hown2.form (by omega)
         have d0 : w4.cell? ⟨g, f, none⟩ = some (.int .i64 u) := (hown2.cellAt f (by omega)).trans (by simp [ils, HU.out])
         have d1 := hown2.frozenAt f
         have hst := (hown2.stored f (.int .i64 (u - x))).1
         have hst2 : (w4.setCell ⟨g, f, none⟩ (.int .i64 (u - x))).ownsRow w3.heap.size 3 1 (.slice (some ⟨g, 0, none⟩) m c) m (ils (us.set f (u - x))) := by
           have e : (ils us).set f (.int .i64 (u - x)) = ils (us.set f (u - x)) := by simp [ils, List.map_set]
           rw [← e]; exact hst
         have e0 : (w4.setCell ⟨g, f, none⟩ (.int .i64 (u - x))).cell? ⟨g, t, none⟩ = some (.int .i64 v) := (hst2.cellAt t (by omega)).trans (by rw [ils, List.getElem?_map, HVV.out]; rfl)
         have e1 := hst2.frozenAt t
         have hst3 := (hst2.stored t (.int .i64 (v + x))).1
         have hst4 : ((w4.setCell ⟨g, f, none⟩ (.int .i64 (u - x))).setCell ⟨g, t, none⟩ (.int .i64 (v + x))).ownsRow w3.heap.size 3 1 (.slice (some ⟨g, 0, none⟩) m c) m (ils ((us.set f (u - x)).set t (v + x))) := by
           have e : (ils (us.set f (u - x))).set t (.int .i64 (v + x)) = ils ((us.set f (u - x)).set t (v + x)) := by simp [ils, List.map_set]
           rw [← e]; exact hst3
         have hlen : ((us.set f (u - x)).set t (v + x)).length = m := by simp [HM.out]
         have hg4 : w3.heap.size ≤ g := (hown2.lt g rfl).1
         have hg5 : w.heap.size ≤ g := Nat.le_trans hB3.size hg4
         have HH := Lib.hid hst4
         have HLEN := Lib.hid hlen
         have f0' : (0 : Int) ≤ (f : Int) := by omega
         have t0' : (0 : Int) ≤ (t : Int) := by omega
         clear hst hst2 hst3 hst4 hown hown2 hlen hg2 hat2)
      | fail)
    go_ret2
    exact ⟨some ⟨g, 0, none⟩, c, by rw [HE.out, HL.out, HLEN.out]; rfl, (hB4.setCell hg5 _).setCell hg5 _, by rw [HL.out]; exact ints_of_own HLEN.out HH.out⟩
end Go.Proofs.Ytggheoppbghjeaa.Book
