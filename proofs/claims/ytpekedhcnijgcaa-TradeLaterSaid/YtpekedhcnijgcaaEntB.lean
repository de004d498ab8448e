/- Package entitle: the contract of Paid. -/
import Derived.Test.YtpekedhcnijgcaaEntP
import Derived.BigRegion
namespace Go.Proofs.Ytpekedhcnijgcaa.Book
open Go.ChangeShapes Go.WideShapes Go.ChangeAt Go.RowKit Go.Proofs.Ytpekedhcnijgcaa.Cell
set_option linter.unusedVariables false
set_option linter.unusedSimpArgs false

theorem infoI : (Try.prog.info? 3).map (·.size) = some 1 := by kernel_rfl
theorem splice_all {α : Type} (L cs : List α) (h : cs.length = L.length) : splice L 0 cs = cs := by simp [splice, h]
theorem cp_ints {w : World} {A : Option Addr} {us : List Int} {g : Nat} (h : Ints w A us) : CpSrc w (some ⟨g, 0, none⟩) A g 0 (ils us) := fun h0 => by
  obtain ⟨b, off, e, hc⟩ := h (by simpa [ils] using h0)
  refine ⟨rfl, _, e, fun j v hv => ?_⟩
  rw [ils, List.getElem?_map] at hv
  cases hu : us[j]? with
  | none => rw [hu] at hv; cases hv
  | some u =>
    rw [hu] at hv
    have := hc j u hu
    rw [Addr.add_lit, this]
    exact hv
theorem cp_one (us : List Int) : CpOne (ils us) := ils_one us
theorem bump_set {us : List Int} {q : Nat} {z : Int} (v : Int) (h : us[q]? = some z) : bump us (q : Int) v = us.set q (z + v) := by
  unfold bump
  rw [Int.toNat_natCast, List.getD_eq_getElem?_getD, h]; rfl
/-- the units of a seat, and what the trade makes of them -/
structure Two (S : List Int) (q r : Nat) (a b : Int) (z1 z2 : Int) (k : Nat) : Prop where
  e1 : S[q]? = some z1
  e2 : (S.set q (z1 + a))[r]? = some z2
  l1 : -(1000000000 * (k : Int)) ≤ z1
  l2 : z1 ≤ 1000000000 + 1000000000 * (k : Int)
  l3 : -(1000000000 * (k : Int)) ≤ z2
  l4 : z2 ≤ 1000000000 + 1000000000 * (k : Int)
theorem two_of {S : List Int} {q r k : Nat} {a : Int} (b : Int) (hq : q < S.length) (hr : r < S.length) (hne : q ≠ r) (h : ∀ j : Nat, j < S.length → -(1000000000 * (k : Int)) ≤ S.getD j 0 ∧ S.getD j 0 ≤ 1000000000 + 1000000000 * (k : Int)) : ∃ z1 z2, Two S q r a b z1 z2 k := by
  obtain ⟨z1, h1⟩ := at_ S q hq
  obtain ⟨z2, h2⟩ := at_ S r hr
  have i1 := h q hq
  have i2 := h r hr
  rw [List.getD_eq_getElem?_getD, h1] at i1
  rw [List.getD_eq_getElem?_getD, h2] at i2
  exact ⟨z1, z2, h1, by rw [List.getElem?_set_ne hne]; exact h2, i1.1, i1.2, i2.1, i2.2⟩
set_option maxRecDepth 100000 in
set_option maxHeartbeats 8000000 in
theorem paid_any (A : Option Addr) (n cap : Nat) (ss : List (Int × Int)) (A' : Option Addr) (m cap' : Nat) (us : List Int) (A3 : Option Addr) (q cap3 : Nat) (l : List Tr) (day : Int) (L : List (Int × Int)) (E : Int) (w : World) (hn : ss.length = n) (hc : Prs w A ss) (hbig : n ≤ 1000000) (hm : us.length = m) (hc' : Ints w A' us) (hbig' : m ≤ 1000000)
    (hl : l.length = q) (hl' : Trs w A3 l) (hbig3 : q ≤ 1000000) (h : pdO ss us l day = (L, E)) :
    Calls Try.prog 29 #[.slice A n cap, .slice A' m cap', .slice A3 q cap3, .int .i64 day] w (ShPost L E w) := by
  have HN := Lib.hid hn
  have HM := Lib.hid hm
  have HL := Lib.hid hl
  clear hn hm hl
  by_cases hok : vd ss us = true ∧ rtT ss l = true ∧ 0 ≤ day ∧ day ≤ 200000
  case neg =>
    unfold pdO at h
    rw [if_neg hok] at h
    have H := Lib.hid h
    clear h
    cases hv : vd ss us
    · have HV := Lib.hid hv
      clear hv hok
      go_enter Try.func29, Try.ntmps29
      go_wp2_with (fail)
      go_must (refine (evalid_is _ HN.out hc hbig HM.out hc' (by omega) HV.out).mono ?_)
      rintro e w1 ⟨rfl, hb⟩
      go_wp2
      go_ret2
      exact sh_no H.out hb
    · have HV := Lib.hid hv
      cases hr : rtT ss l
      · have HR := Lib.hid hr
        clear hv hok hr
        go_enter Try.func29, Try.ntmps29
        go_wp2_with (fail)
        go_must (refine (evalid_is _ HN.out hc hbig HM.out hc' (by omega) HV.out).mono ?_)
        rintro e w1 ⟨rfl, hb⟩
        go_wp2_with (fail)
        go_must (refine (tRight_is _ HN.out (hc.keep hb) hbig HL.out (hl'.keep hb) (by omega) HR.out).mono ?_)
        rintro e w2 ⟨rfl, hb2⟩
        have hB2 := Gen.over hb2 hb
        go_wp2
        go_ret2
        exact sh_no H.out hB2
      · have HR := Lib.hid hr
        rcases (show day < 0 ∨ (0 ≤ day ∧ 200000 < day) from (by have hq : ¬ (0 ≤ day ∧ day ≤ 200000) := fun c => hok ⟨hv, hr, c⟩; omega)) with a | ⟨a, b⟩
        all_goals
          clear hv hok hr
          go_enter Try.func29, Try.ntmps29
          go_wp2_with (fail)
          go_must (refine (evalid_is _ HN.out hc hbig HM.out hc' (by omega) HV.out).mono ?_)
          rintro e w1 ⟨rfl, hb⟩
          go_wp2_with (fail)
          go_must (refine (tRight_is _ HN.out (hc.keep hb) hbig HL.out (hl'.keep hb) (by omega) HR.out).mono ?_)
          rintro e w2 ⟨rfl, hb2⟩
          have hB2 := Gen.over hb2 hb
          go_wp2
          go_ret2
          exact sh_no H.out hB2
  unfold pdO at h
  rw [if_pos hok] at h
  obtain ⟨hv, hr, s0, s1⟩ := hok
  have HV := Lib.hid hv
  have HR := Lib.hid hr
  have HRT := Lib.hid (Rt.mk hv hr)
  have hmn : m = n := by have := (vd_in hv).2.1; rw [HM.out, HN.out] at this; exact this
  have hq4 := (rtT_in hr).2.1
  rw [HL.out] at hq4
  subst hmn
  rw [HN.out] at h
  have H := Lib.hid h
  clear h hv hr
  obtain ⟨x0, hx0, hx1, hx2, hx3⟩ := info_parts info3
  have hmk : ∀ W : World, (Instr.makeSlice 23 (.int .i64 m) (.int .i64 m)).run Try.prog W = .ok (.slice (some ⟨W.heap.size, 0, none⟩) m m) (W.alloc (.cells (ics (List.replicate m 0)) 3)) := fun W => by
    have hr := run_make (P := Try.prog) W 23 3 x0 (.int .i64 0) Try.underlying23 hx0 hx1 .i64 .i64 m m (by omega) (Int.le_refl _) (by rw [hx3]; omega) (by omega)
    rw [hx2, Int.toNat_natCast, made_ints] at hr
    exact hr
  clear hx0 hx1 hx2 hx3
  obtain ⟨i0, hi0, hz0, hz1, hz2⟩ := info_parts infoS
  have HI := Lib.hid (And.intro hi0 (And.intro hz0 (And.intro hz1 hz2)))
  clear hi0 hz0 hz1 hz2
  go_enter Try.func29, Try.ntmps29
  go_wp2_with (fail)
  go_must (refine (evalid_is _ HN.out hc hbig HM.out hc' (by omega) HV.out).mono ?_)
  rintro e w1 ⟨rfl, hb1⟩
  go_wp2_with (fail)
  go_must (refine (tRight_is _ HN.out (hc.keep hb1) hbig HL.out (hl'.keep hb1) (by omega) HR.out).mono ?_)
  rintro e w2 ⟨rfl, hb2⟩
  have hb := Gen.over hb2 hb1
  have hl2 := hl'.keep hb
  have hba : Below w2.heap.size w2 (w2.alloc (.cells (ics (List.replicate m 0)) 3)) := Gen.b_alloc (Below.refl _ _)
  have HG0 : Hid (CpRow (w2.alloc (.cells (ics (List.replicate m 0)) 3)) w2.heap.size (ils (List.replicate m 0)) 3) := Lib.hid (Row.new _ _ _)
  have HP0 := Lib.hid (cp_ints (g := w2.heap.size) ((hc'.keep hb).keep hba))
  have HO0 := Lib.hid (cp_one us)
  have hlu : (ils us).length = m := by rw [ils, List.length_map, HM.out]
  have hl0 : (ils (List.replicate m 0)).length = m := by rw [ils, List.length_map, List.length_replicate]
  have HC0 := Lib.hid (show (ils us).length = Nat.min m m by rw [hlu]; exact (Nat.min_self m).symm)
  have HF0 := Lib.hid (show 0 + (ils us).length ≤ (ils (List.replicate m 0)).length by rw [hlu, hl0]; omega)
  have HSP := Lib.hid (splice_all (ils (List.replicate m 0)) (ils us) (by rw [hlu, hl0]))
  have HBA := Lib.hid hba
  clear hb1 hb2 hba hlu hl0 hc' hl'
  go_wp2_with (refine wpList_copy_splice rfl (.tmp 37) (.tmp 38) 23 23 rfl 3 Try.underlying23 infoI _ _ m m m cap' rfl rfl w2.heap.size 0 (ils (List.replicate m 0)) 3 HG0.out (ils us) HC0.out HP0.out HF0.out HO0.out w2.heap.size w2 HBA.out (Nat.le_refl _) ?_; intro w3 HG3 hB3)
  have HR3 : Hid (Row w3 w2.heap.size 3 (ics us)) := Lib.hid (by have := HG3.out; rw [HSP.out] at this; exact this)
  clear HG0 HP0 HO0 HC0 HF0 HSP HG3 hmk HBA
  go_loopw [42] (fun iv wr => ∃ k : Nat, k ≤ q ∧ iv = .int .i64 k ∧ Row wr w2.heap.size 3 (ics (sums day us (l.take k))) ∧ Below w2.heap.size w2 wr) (fun iv _ => q - (intOf iv).toNat)
  case atStart => exact ⟨0, Nat.zero_le _, rfl, HR3.out, hB3⟩
  case round =>
    obtain ⟨k, hk, rfl, hrow, hW⟩ := hrel
    have hS : w2.heap.size < wr.heap.size := hrow.lt
    by_cases hlt : k < q
    · obtain ⟨b, off, rfl, hcell⟩ := (hl2.keep hW) (by rw [HL.out]; omega)
      obtain ⟨x, hx⟩ := at_ l k (by rw [HL.out]; exact hlt)
      obtain ⟨c0, c1, c2, c3, c4, c5, c6, c7⟩ := hcell k x hx
      obtain ⟨m1, m2, m3, _, _⟩ := HRT.out.mem hx
      obtain ⟨u0, u1, une⟩ := okD_u m3
      have hbd := sums_in HRT.out day k (by rw [HL.out]; omega)
      obtain ⟨S, hSS⟩ : ∃ S, sums day us (l.take k) = S := ⟨_, rfl⟩
      have hSl : S.length = m := by rw [← hSS, sums_length, HM.out]
      rw [hSS] at hbd hrow
      rw [HM.out] at m1 m2
      have HBD := Lib.hid (show ∀ j : Nat, j < S.length → -(1000000000 * (k : Int)) ≤ S.getD j 0 ∧ S.getD j 0 ≤ 1000000000 + 1000000000 * (k : Int) from fun j hj => hbd j (by rw [hSl] at hj; rw [HM.out]; exact hj))
      have HSS := Lib.hid hSS
      have HS := Lib.hid hSl
      have HX := Lib.hid hx
      have kb : (k : Int) ≤ 10000 := by omega
      clear hcell hx hbd hSS hSl m3
      obtain ⟨xk, xf, xt, xu, xm, xd, xo, xb⟩ := x
      dsimp only at c0 c1 c2 c3 c4 c5 c6 c7 m1 m2 u0 u1 une
      obtain ⟨qf, rfl⟩ := Int.eq_ofNat_of_zero_le m1.1
      obtain ⟨qt, rfl⟩ := Int.eq_ofNat_of_zero_le m2.1
      have hqf : qf < m := by omega
      have hqt : qt < m := by omega
      have hqf' : (qf : Int) < (m : Int) := by omega
      have hqt' : (qt : Int) < (m : Int) := by omega
      have hne : qf ≠ qt := fun c => une (by rw [c])
      have HNE := Lib.hid hne
      obtain ⟨g8, hg8⟩ : ∃ g8, wr.heap.size = g8 := ⟨_, rfl⟩
      have hgl : w2.heap.size < g8 := by omega
      have hbox : Row (wr.alloc (.cells #[.int .i64 xk, .int .i64 qf, .int .i64 qt, .int .i64 xu, .int .i64 xm, .int .i64 xd, .int .i64 xo, .int .i64 xb] 26)) g8 26 #[.int .i64 xk, .int .i64 qf, .int .i64 qt, .int .i64 xu, .int .i64 xm, .int .i64 xd, .int .i64 xo, .int .i64 xb] := Gen.rowAt _ _ _ hg8.symm
      have hrb : Row (wr.alloc (.cells #[.int .i64 xk, .int .i64 qf, .int .i64 qt, .int .i64 xu, .int .i64 xm, .int .i64 xd, .int .i64 xo, .int .i64 xb] 26)) w2.heap.size 3 (ics S) := hrow.alloc _
      have hBb : Below w2.heap.size w2 (wr.alloc (.cells #[.int .i64 xk, .int .i64 qf, .int .i64 qt, .int .i64 xu, .int .i64 xm, .int .i64 xd, .int .i64 xo, .int .i64 xb] 26)) := Gen.b_alloc hW
      have HRB := Lib.hid hrb
      have HBX := Lib.hid hbox
      have HBB := Lib.hid hBb
      have HG8 := Lib.hid hg8
      clear m1 m2 une hne hg8 hbox hrb hBb hrow
      cases hla : late day ⟨xk, (qf : Int), (qt : Int), xu, xm, xd, xo, xb⟩
      · have HLT := Lib.hid hla
        cases hru : runs day ⟨xk, (qf : Int), (qt : Int), xu, xm, xd, xo, xb⟩
        all_goals
          have HRU := Lib.hid hru
          clear hla hru
          go_wp2_with (fail)
          rw [HG8.out]
          go_must (refine (elate_is _ HLT.out).mono ?_)
          rintro e w5 ⟨rfl, hb5⟩
          have hB5 := Gen.over hb5 HBB.out
          have hr5 := HRB.out.keep hb5
          have hx5 := HBX.out.keep hb5
          have d0 := hx5.cell 0
          have d1 := hx5.cell 1
          have d2 := hx5.cell 2
          have d3 := hx5.cell 3
          have d4 := hx5.cell 4
          have d5 := hx5.cell 5
          have d6 := hx5.cell 6
          have d7 := hx5.cell 7
          clear hb5
          go_wp2_with (fail)
          go_must (refine (eruns_is _ HRU.out).mono ?_)
          rintro e W ⟨rfl, hb6⟩
          have hBW := Gen.over hb6 hB5
          have hrW := hr5.keep hb6
          have hxW := hx5.keep hb6
          have d1 := hxW.cell 1
          have d2 := hxW.cell 2
          have d3 := hxW.cell 3
          clear hb6 hB5 hr5 hx5 d0 d4 d5 d6 d7 hxW
        · have HST := Lib.hid (show stp day S ⟨xk, (qf : Int), (qt : Int), xu, xm, xd, xo, xb⟩ = S from by unfold stp; rw [if_neg (by rw [HLT.out]; simp), if_neg (by rw [HRU.out]; simp)])
          have HRW := Lib.hid hrW
          clear hrW
          go_wp2
          go_roundw
          case rel => first | exact ⟨k + 1, by omega, by go_num, by rw [take_snoc HX.out, sums_snoc, HSS.out, HST.out]; exact HRW.out, hBW⟩ | exact ⟨k + 1, by omega, by go_num, by rw [take_snoc HX.out, sums_snoc, HSS.out, HST.out]; exact HRW.out⟩
          case measure => simp [intOf]; omega
        · have hne := HNE.out
          obtain ⟨z1, z2, T2⟩ := two_of (S := S) (q := qf) (r := qt) (k := k) (a := xu) (-xu) (by rw [HS.out]; exact hqf) (by rw [HS.out]; exact hqt) hne HBD.out
          have z1l := T2.l1
          have z1h := T2.l2
          have z2l := T2.l3
          have z2h := T2.l4
          have y1 : W.cell? ⟨w2.heap.size, qf, none⟩ = some (.int .i64 z1) := hrW.intAt T2.e1
          have y2 := hrW.frozen qf
          have hr2 : Row (W.setCell ⟨w2.heap.size, qf, none⟩ (.int .i64 (z1 + xu))) w2.heap.size 3 (ics (S.set qf (z1 + xu))) := by rw [← ics_set]; exact hrW.set _ _
          have y3 : (W.setCell ⟨w2.heap.size, qf, none⟩ (.int .i64 (z1 + xu))).cell? ⟨w2.heap.size, qt, none⟩ = some (.int .i64 z2) := hr2.intAt (by have := T2.e2; rwa [show z1 + xu = z1 + xu by omega] at this)
          have y4 := hr2.frozen qt
          have hr3 : Row ((W.setCell ⟨w2.heap.size, qf, none⟩ (.int .i64 (z1 + xu))).setCell ⟨w2.heap.size, qt, none⟩ (.int .i64 (z2 - xu))) w2.heap.size 3 (ics ((S.set qf (z1 + xu)).set qt (z2 - xu))) := by rw [← ics_set (S.set qf _)]; exact hr2.set _ _
          have b1 : (W.setCell ⟨w2.heap.size, qf, none⟩ (.int .i64 (z1 + xu))).cell? ⟨g8, 2, none⟩ = some (.int .i64 (qt : Int)) := (World.cell?_setCell_other _ _ _ _ (by intro c; injection c; omega)).trans d2
          have b2 : (W.setCell ⟨w2.heap.size, qf, none⟩ (.int .i64 (z1 + xu))).cell? ⟨g8, 3, none⟩ = some (.int .i64 xu) := (World.cell?_setCell_other _ _ _ _ (by intro c; injection c; omega)).trans d3
          have HST := Lib.hid (show stp day S ⟨xk, (qf : Int), (qt : Int), xu, xm, xd, xo, xb⟩ = (S.set qf (z1 + xu)).set qt (z2 - xu) from by
            have t2 := T2.e2
            unfold stp
            rw [if_neg (by rw [HLT.out]; simp), if_pos HRU.out]
            dsimp only
            rw [bump_set _ T2.e1, bump_set _ t2, show z1 + xu = z1 + xu by omega, show z2 + -xu = z2 - xu by omega])
          have HR3 := Lib.hid hr3
          have HW := Lib.hid hBW
          have hw1 : IntKind.i64.wrap (z1 + xu) = z1 + xu := IntWalk.i64_in _ (by omega)
          have hw2 : IntKind.i64.wrap (z2 - xu) = z2 - xu := IntWalk.i64_in _ (by omega)
          clear hr2 hr3 T2 hrW
          go_wp2
          go_region
          go_wp2
          go_region
          clear hw1 hw2
          go_wp2
          go_roundw
          case rel => first | exact ⟨k + 1, by omega, by go_num, by rw [take_snoc HX.out, sums_snoc, HSS.out, HST.out]; exact HR3.out, by go_grown⟩ | exact ⟨k + 1, by omega, by go_num, by rw [take_snoc HX.out, sums_snoc, HSS.out, HST.out]; exact HR3.out, ((HW.out.setCell (Nat.le_refl _) _).setCell (Nat.le_refl _) _).drew.drew⟩
          case measure => simp [intOf]; omega
      · have HLT := Lib.hid hla
        clear hla
        go_wp2_with (fail)
        rw [HG8.out]
        go_must (refine (elate_is _ HLT.out).mono ?_)
        rintro e W ⟨rfl, hb5⟩
        have hBW := Gen.over hb5 HBB.out
        have hrW := HRB.out.keep hb5
        have hx5 := HBX.out.keep hb5
        have d1 := hx5.cell 1
        have d2 := hx5.cell 2
        have d3 := hx5.cell 3
        clear hb5 hx5
        · have hne := HNE.out
          obtain ⟨z1, z2, T2⟩ := two_of (S := S) (q := qf) (r := qt) (k := k) (a := -xu) (xu) (by rw [HS.out]; exact hqf) (by rw [HS.out]; exact hqt) hne HBD.out
          have z1l := T2.l1
          have z1h := T2.l2
          have z2l := T2.l3
          have z2h := T2.l4
          have y1 : W.cell? ⟨w2.heap.size, qf, none⟩ = some (.int .i64 z1) := hrW.intAt T2.e1
          have y2 := hrW.frozen qf
          have hr2 : Row (W.setCell ⟨w2.heap.size, qf, none⟩ (.int .i64 (z1 - xu))) w2.heap.size 3 (ics (S.set qf (z1 - xu))) := by rw [← ics_set]; exact hrW.set _ _
          have y3 : (W.setCell ⟨w2.heap.size, qf, none⟩ (.int .i64 (z1 - xu))).cell? ⟨w2.heap.size, qt, none⟩ = some (.int .i64 z2) := hr2.intAt (by have := T2.e2; rwa [show z1 + -xu = z1 - xu by omega] at this)
          have y4 := hr2.frozen qt
          have hr3 : Row ((W.setCell ⟨w2.heap.size, qf, none⟩ (.int .i64 (z1 - xu))).setCell ⟨w2.heap.size, qt, none⟩ (.int .i64 (z2 + xu))) w2.heap.size 3 (ics ((S.set qf (z1 - xu)).set qt (z2 + xu))) := by rw [← ics_set (S.set qf _)]; exact hr2.set _ _
          have b1 : (W.setCell ⟨w2.heap.size, qf, none⟩ (.int .i64 (z1 - xu))).cell? ⟨g8, 2, none⟩ = some (.int .i64 (qt : Int)) := (World.cell?_setCell_other _ _ _ _ (by intro c; injection c; omega)).trans d2
          have b2 : (W.setCell ⟨w2.heap.size, qf, none⟩ (.int .i64 (z1 - xu))).cell? ⟨g8, 3, none⟩ = some (.int .i64 xu) := (World.cell?_setCell_other _ _ _ _ (by intro c; injection c; omega)).trans d3
          have HST := Lib.hid (show stp day S ⟨xk, (qf : Int), (qt : Int), xu, xm, xd, xo, xb⟩ = (S.set qf (z1 - xu)).set qt (z2 + xu) from by
            have t2 := T2.e2
            unfold stp
            rw [if_pos HLT.out]
            dsimp only
            rw [bump_set _ T2.e1, bump_set _ t2, show z1 + -xu = z1 - xu by omega, show z2 + xu = z2 + xu by omega])
          have HR3 := Lib.hid hr3
          have HW := Lib.hid hBW
          have hw1 : IntKind.i64.wrap (z1 - xu) = z1 - xu := IntWalk.i64_in _ (by omega)
          have hw2 : IntKind.i64.wrap (z2 + xu) = z2 + xu := IntWalk.i64_in _ (by omega)
          clear hr2 hr3 T2 hrW
          go_wp2
          go_region
          go_wp2
          go_region
          clear hw1 hw2
          go_wp2
          go_roundw
          case rel => first | exact ⟨k + 1, by omega, by go_num, by rw [take_snoc HX.out, sums_snoc, HSS.out, HST.out]; exact HR3.out, by go_grown⟩ | exact ⟨k + 1, by omega, by go_num, by rw [take_snoc HX.out, sums_snoc, HSS.out, HST.out]; exact HR3.out, ((HW.out.setCell (Nat.le_refl _) _).setCell (Nat.le_refl _) _).drew.drew⟩
          case measure => simp [intOf]; omega
    · obtain rfl : k = q := by omega
      have hrow' : Row wr w2.heap.size 3 (ics (sums day us l)) := by rwa [List.take_of_length_le (by rw [HL.out]; exact Nat.le_refl _)] at hrow
      obtain ⟨S, hSS⟩ : ∃ S, sums day us l = S := ⟨_, rfl⟩
      have hSl : S.length = m := by rw [← hSS, sums_length, HM.out]
      rw [hSS] at hrow'
      obtain ⟨hi0, hz0, hz1, hz2⟩ := HI.out
      have HSS := Lib.hid hSS
      have HS := Lib.hid hSl
      have HB := Lib.hid (Gen.over (hW.mono (Nat.le_refl _)) hb)
      have HRW := Lib.hid hrow'
      obtain ⟨wo, hwo⟩ : ∃ wo : World, wo = wr := ⟨_, rfl⟩
      rw [← hwo] at HRW HB
      clear hSS hSl hrow hrow' hlt
      go_wp2
      rw [← hwo]
      clear hwo hW
      have hgo : w2.heap.size < wo.heap.size := HRW.out.lt
      go_loopw [13, 93] (fun vv iv wr => ∃ (j : Nat) (v : Value), j ≤ m ∧ iv = .int .i64 j ∧ vv = v ∧ wr.ownsRow wo.heap.size 54 2 v (sel (pf S) j).length ((sel (pf S) j).flatMap pcs) ∧ Below wo.heap.size wo wr) (fun _ iv _ => m - (intOf iv).toNat)
      case atStart => exact ⟨0, _, Nat.zero_le _, rfl, rfl, ⟨rfl, .inl ⟨rfl, rfl⟩⟩, Below.refl _ _⟩
      case round =>
        obtain ⟨j, v, hj, rfl, rfl, hown, hW⟩ := hrel
        have hS : wo.heap.size ≤ wr.heap.size := hW.size
        by_cases hlt : j < m
        · obtain ⟨z, hz⟩ := at_ S j (by rw [HS.out]; exact hlt)
          have d0 : wr.cell? ⟨w2.heap.size, j, none⟩ = some (.int .i64 z) := (HRW.out.keep hW).intAt hz
          have HF := Lib.hid (pf_at hz)
          have kk0 : (0 : Int) ≤ (j : Int) := by omega
          have kk1 : (j : Int) < (m : Int) := by omega
          have hle := sel_len (pf S) j
          have N1 := Lib.hid (show (sel (pf S) j).length + 1 ≤ maxLen from by simp only [maxLen]; omega)
          have N2 := Lib.hid (show ((sel (pf S) j).length + 1) * 16 ≤ 140737488355328 from by omega)
          clear hz hle
          by_cases hz00 : z = 0
          · have HE := Lib.hid (sel_no (f := pf S) (k := j) (by rw [HF.out, if_pos hz00]))
            have HO := Lib.hid hown
            subst hz00
            clear HF hown
            go_wp2
            go_roundw
            case rel => exact ⟨j + 1, _, by omega, by go_num, rfl, by rw [HE.out]; exact HO.out, hW⟩
            case measure => simp [intOf]; omega
          · have HE := Lib.hid (sel_yes (f := pf S) (k := j) (by rw [HF.out, if_neg hz00]))
            have b1 : (z != 0) = true := by simpa using hz00
            clear HF hz00
            go_wp2_with (first
              | (at_builtin
                 go_must (refine App.wpList_append_any _ rfl (.tmp 100) (.tmp 104) _ rfl wo.heap.size 54 i0 _ 2 16 Try.underlying45 hi0 hz0 hz1 hz2 rfl (by omega) _ _ _ rfl (Gen.own_keep hown (Gen.b_alloc (Below.refl _ _))) _ _ 1 1 [.int .i64 j, .int .i64 z] rfl (Gen.reads_blk (by simp) rfl) (by simp [Value.oneCell']) N1.out N2.out (Nat.le_trans hS (Gen.b_alloc (Below.refl _ _)).size) ?_)
                 intro v2 w7 hown7 hg7 hat7
                 have hB7 := Gen.g_below hown hg7 (Gen.b_alloc hW) (Nat.le_refl _)
                 clear hg7 hat7)
              | fail)
            go_roundw
            case rel => exact ⟨j + 1, _, by omega, by go_num, rfl, by rw [HE.out, List.length_append, List.flatMap_append]; simpa [pcs] using hown7, hB7⟩
            case measure => simp [intOf]; omega
        · obtain rfl : j = m := by omega
          obtain ⟨A2, c2, rfl, _⟩ := Gen.own_slice hown
          have HP := Lib.hid (prs_own hown)
          have hbw := Gen.over hW HB.out
          clear hown
          go_wp2
          go_ret2
          have hh := H.out
          rw [HSS.out] at hh
          obtain rfl : _ = L := by injection hh
          obtain rfl : _ = E := by injection hh
          exact ⟨A2, c2, rfl, hbw, HP.out⟩
end Go.Proofs.Ytpekedhcnijgcaa.Book
