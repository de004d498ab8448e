/- EntitleSettles returns true: every list of seats, units and trades, and day; no condition. -/
import Derived.Test.YtpekedhcnijgcaaSetM
import Derived.Test.YtpekedhcnijgcaaLEnT
namespace Go.Proofs.Ytpekedhcnijgcaa.Book
open Go.ChangeShapes Go.WideShapes Go.ChangeAt Go.RowKit Go.Proofs.Ytpekedhcnijgcaa.Cell
set_option linter.unusedVariables false
set_option linter.unusedSimpArgs false

section
variable {A A' A3 : Option Addr} {n cap m cap' q cap3 : Nat} {ss : List (Int × Int)} {us : List Int} {l : List Tr} {day : Int}
set_option maxRecDepth 100000 in
set_option maxHeartbeats 1000000 in
theorem ens_a (w : World) (hn : n ≤ 9223372036854775807) (hm : m ≤ 9223372036854775807) (hq : q ≤ 9223372036854775807) (h : fewB n m q = false) :
    Calls Try.prog 9 #[.slice A n cap, .slice A' m cap', .slice A3 q cap3, .int .i64 day] w fun e w' => e = .returned (.bool true) ∧ Below w.heap.size w w' := by
  have HF := Lib.hid h
  clear h
  go_enter Try.func9, Try.ntmps9
  go_wp2_with (fail)
  go_must (refine (small33_any _).mono ?_)
  rintro e w1 ⟨rfl, hb⟩
  go_wp2_with (fail)
  go_must (refine (tfew_is _ hn hm hq HF.out).mono ?_)
  rintro e w2 ⟨rfl, rfl⟩
  go_wp2
  go_ret
  exact ⟨rfl, hb⟩
set_option maxRecDepth 100000 in
set_option maxHeartbeats 8000000 in
theorem ens_b (w : World) (hn : ss.length = n) (hc : Prs w A ss) (hm : us.length = m) (hc' : Ints w A' us) (hq : l.length = q) (hl : Trs w A3 l) (hf : fewB n m q = true) {La : List (Int × Int)} {R : List Int × List Tr} (hP : pdO ss us l day = (La, 1)) (hS : stO ss us l day = (R, 1)) :
    Calls Try.prog 9 #[.slice A n cap, .slice A' m cap', .slice A3 q cap3, .int .i64 day] w fun e w' => e = .returned (.bool true) ∧ Below w.heap.size w w' := by
  obtain ⟨f1, f2, f3⟩ := fewB_in hf
  have hLa := pdO_len hP
  rw [hn] at hLa
  have HN := Lib.hid hn
  have HM := Lib.hid hm
  have HQ := Lib.hid hq
  have HF := Lib.hid hf
  have HP := Lib.hid hP
  have HS := Lib.hid hS
  clear hn hm hq hf hP hS
  go_enter Try.func9, Try.ntmps9
  go_wp2_with (fail)
  go_must (refine (small33_any _).mono ?_)
  rintro e w1 ⟨rfl, hB⟩
  replace hc := hc.keep hB
  replace hc' := hc'.keep hB
  replace hl := hl.keep hB
  go_wp2_with (fail)
  go_must (refine (tfew_is _ (by omega) (by omega) (by omega) HF.out).mono ?_)
  rintro e w2 ⟨rfl, rfl⟩
  go_wp2_with (fail)
  go_must (refine (paid_any _ _ _ ss _ _ _ us _ _ _ l day _ _ _ HN.out hc (by omega) HM.out hc' (by omega) HQ.out hl (by omega) HP.out).mono ?_)
  rintro e w3 ⟨A5, c5, rfl, hb, hp⟩
  replace hB := Gen.over hb hB
  replace hc := hc.keep hb
  replace hc' := hc'.keep hb
  replace hl := hl.keep hb
  clear hb
  go_wp2_with (fail)
  go_must (refine (settle_any _ HN.out hc (by omega) HM.out hc' (by omega) HQ.out hl (by omega) HS.out).mono ?_)
  rintro e w4 ⟨A6, c6, A7, c7, rfl, hb, hi6, ht7⟩
  replace hB := Gen.over hb hB
  replace hc := hc.keep hb
  replace hc' := hc'.keep hb
  replace hl := hl.keep hb
  replace hp := hp.keep hb
  clear hb
  go_wp2
  go_ret
  exact ⟨rfl, hB⟩
set_option maxRecDepth 100000 in
set_option maxHeartbeats 8000000 in
theorem ens_c (w : World) (hn : ss.length = n) (hc : Prs w A ss) (hm : us.length = m) (hc' : Ints w A' us) (hq : l.length = q) (hl : Trs w A3 l) (hf : fewB n m q = true) {La : List (Int × Int)} {R : List Int × List Tr} (hP : pdO ss us l day = (La, 0)) (hS : stO ss us l day = (R, 0)) :
    Calls Try.prog 9 #[.slice A n cap, .slice A' m cap', .slice A3 q cap3, .int .i64 day] w fun e w' => e = .returned (.bool true) ∧ Below w.heap.size w w' := by
  obtain ⟨f1, f2, f3⟩ := fewB_in hf
  have hLa := pdO_len hP
  rw [hn] at hLa
  obtain ⟨r1, r2, r3⟩ := pd_settled (by omega) hS hP
  have HR1 := Lib.hid r1
  have HR2 := Lib.hid (show R.1.length = n from by rw [r2, hn])
  have hR3 : R.2.length ≤ 36 := r3
  have hPl : Hid (plB day l = true → sel (pf us) ss.length = La ∧ us.length = ss.length) := Lib.hid (fun c => pd_plain hP c)
  have HUA := Lib.hid (show ∀ u ∈ us, 0 ≤ u ∧ u ≤ 1000000000 from by
    unfold pdO at hP
    split at hP
    · rename_i c; exact vd_all c.1
    · cases hP)
  have hmn : m = n := by
    unfold pdO at hP
    split at hP
    · rename_i c; have := (vd_in c.1).2.1; omega
    · cases hP
  subst hmn
  clear r1 r2 r3
  have HN := Lib.hid hn
  have HM := Lib.hid hm
  have HQ := Lib.hid hq
  have HF := Lib.hid hf
  have HP := Lib.hid hP
  have HS := Lib.hid hS
  clear hn hm hq hf hP hS
  go_enter Try.func9, Try.ntmps9
  go_wp2_with (fail)
  go_must (refine (small33_any _).mono ?_)
  rintro e w1 ⟨rfl, hB⟩
  replace hc := hc.keep hB
  replace hc' := hc'.keep hB
  replace hl := hl.keep hB
  go_wp2_with (fail)
  go_must (refine (tfew_is _ (by omega) (by omega) (by omega) HF.out).mono ?_)
  rintro e w2 ⟨rfl, rfl⟩
  go_wp2_with (fail)
  go_must (refine (paid_any _ _ _ ss _ _ _ us _ _ _ l day _ _ _ HN.out hc (by omega) HM.out hc' (by omega) HQ.out hl (by omega) HP.out).mono ?_)
  rintro e w3 ⟨A5, c5, rfl, hb, hp⟩
  replace hB := Gen.over hb hB
  replace hc := hc.keep hb
  replace hc' := hc'.keep hb
  replace hl := hl.keep hb
  clear hb
  go_wp2_with (fail)
  go_must (refine (settle_any _ HN.out hc (by omega) HM.out hc' (by omega) HQ.out hl (by omega) HS.out).mono ?_)
  rintro e w4 ⟨A6, c6, A7, c7, rfl, hb, hi6, ht7⟩
  replace hB := Gen.over hb hB
  replace hc := hc.keep hb
  replace hc' := hc'.keep hb
  replace hl := hl.keep hb
  replace hp := hp.keep hb
  clear hb
  rw [HR2.out]
  go_wp2_with (fail)
  go_must (refine (paid_any _ _ _ ss _ _ _ R.1 _ _ _ R.2 day _ _ _ HN.out hc (by omega) HR2.out hi6 (by omega) rfl ht7 (by omega) HR1.out).mono ?_)
  rintro e w5 ⟨A8, c8, rfl, hb, hp8⟩
  replace hB := Gen.over hb hB
  replace hc' := hc'.keep hb
  replace hl := hl.keep hb
  replace hp := hp.keep hb
  clear hb hc hi6 ht7
  go_wp2_with (fail)
  go_must (refine (same_is _ rfl hp (by omega) rfl hp8 (by omega) (sEq_self La)).mono ?_)
  rintro e w6 ⟨rfl, hb⟩
  replace hB := Gen.over hb hB
  replace hc' := hc'.keep hb
  replace hl := hl.keep hb
  replace hp := hp.keep hb
  clear hb hp8
  obtain ⟨wo, hwo⟩ : ∃ wo : World, wo = w6 := ⟨_, rfl⟩
  rw [← hwo] at hB hc' hl hp
  go_wp2_with (fail)
  rw [← hwo]
  clear hwo
  go_loopw [17, 18] (fun pv iv wr => ∃ k : Nat, k ≤ q ∧ iv = .int .i64 k ∧ pv = .bool (plB day (l.take k)) ∧ Below wo.heap.size wo wr) (fun _ iv _ => q - (intOf iv).toNat)
  case atStart => exact ⟨0, Nat.zero_le _, rfl, rfl, Below.refl _ _⟩
  case round =>
    obtain ⟨k, hk, rfl, rfl, hW⟩ := hrel
    by_cases hlt : k < q
    · obtain ⟨b, off, rfl, hcell⟩ := (hl.keep hW) (by rw [HQ.out]; omega)
      obtain ⟨x, hx⟩ := at_ l k (by rw [HQ.out]; exact hlt)
      obtain ⟨c0, c1, c2, c3, c4, c5', c6', c7'⟩ := hcell k x hx
      have HSN := Lib.hid (show plB day (l.take (k + 1)) = (plB day (l.take k) && plT day x) from by rw [take_snoc hx, plB_snoc])
      have k0 : (0 : Int) ≤ (k : Int) := by omega
      clear hcell hx
      obtain ⟨xk, xf, xt, xu, xm, xd, xo, xb⟩ := x
      dsimp only at c0 c1 c2 c3 c4 c5' c6' c7'
      cases hpl : plB day (l.take k)
      · have HV := Lib.hid (show plB day (l.take (k + 1)) = false from by rw [HSN.out, hpl]; rfl)
        clear hpl
        go_wp2
        go_roundw
        case rel => first | exact ⟨k + 1, by omega, by go_num, by rw [HV.out], hW⟩ | exact ⟨k + 1, by omega, by go_num, by rw [HV.out]⟩
        case measure => simp [intOf]; omega
      · cases hla : late day ⟨xk, xf, xt, xu, xm, xd, xo, xb⟩
        · have HLT := Lib.hid hla
          cases hru : runs day ⟨xk, xf, xt, xu, xm, xd, xo, xb⟩
          all_goals
            have HRU := Lib.hid hru
            have HV := Lib.hid (show plB day (l.take (k + 1)) = !(runs day ⟨xk, xf, xt, xu, xm, xd, xo, xb⟩) from by rw [HSN.out, hpl]; unfold plT; rw [hla, hru]; rfl)
            rw [hru] at HV
            clear hpl hla hru
            go_wp2_with (fail)
            go_must (refine (rlate_is _ HLT.out).mono ?_)
            rintro e w7 ⟨rfl, hb⟩
            have hW7 := Gen.over hb hW
            have e0 := Gen.keep hb c0
            have e1 := Gen.keep hb c1
            have e2 := Gen.keep hb c2
            have e3 := Gen.keep hb c3
            have e4 := Gen.keep hb c4
            have e5 := Gen.keep hb c5'
            have e6 := Gen.keep hb c6'
            have e7 := Gen.keep hb c7'
            clear hb c0 c1 c2 c3 c4 c5' c6' c7'
            go_wp2_with (fail)
            go_must (refine (rruns_is _ HRU.out).mono ?_)
            rintro e w8 ⟨rfl, hb⟩
            have hW8 := Gen.over hb hW7
            clear hb
            go_wp2
            go_roundw
            case rel => first | exact ⟨k + 1, by omega, by go_num, by rw [HV.out]; first | done | rfl, hW8⟩ | exact ⟨k + 1, by omega, by go_num, by rw [HV.out]; first | done | rfl⟩
            case measure => simp [intOf]; omega
        · have HLT := Lib.hid hla
          have HV := Lib.hid (show plB day (l.take (k + 1)) = false from by rw [HSN.out, hpl]; unfold plT; rw [hla]; rfl)
          clear hpl hla
          go_wp2_with (fail)
          go_must (refine (rlate_is _ HLT.out).mono ?_)
          rintro e w7 ⟨rfl, hb⟩
          have hW7 := Gen.over hb hW
          clear hb
          go_wp2
          go_roundw
          case rel => first | exact ⟨k + 1, by omega, by go_num, by rw [HV.out], hW7⟩ | exact ⟨k + 1, by omega, by go_num, by rw [HV.out]⟩
          case measure => simp [intOf]; omega
    · obtain rfl : k = q := by omega
      have hlq : l.take k = l := List.take_of_length_le (by rw [HQ.out]; exact Nat.le_refl _)
      rw [hlq]
      cases hpl : plB day l
      · have hE := Gen.over hW hB
        clear hpl hlq
        go_wp2
        go_ret
        exact ⟨rfl, hE⟩
      · obtain ⟨hse, _⟩ := hPl.out hpl
        rw [HN.out] at hse
        have HLE := Lib.hid hse
        have hcw := hc'.keep hW
        have hpw := hp.keep hW
        have hBw := Gen.over hW hB
        obtain ⟨w9, hw9⟩ : ∃ w9 : World, w9 = wr := ⟨_, rfl⟩
        rw [← hw9] at hcw hpw hBw
        clear hpl hlq hse hW hlt hc' hl hp hB hPl
        go_wp2_with (fail)
        rw [← hw9]
        clear hw9
        go_loopw [19, 20] (fun nv iv wr => ∃ k : Nat, k ≤ m ∧ iv = .int .i64 k ∧ nv = .int .i64 (sel (pf us) k).length ∧ Below w9.heap.size w9 wr) (fun _ iv _ => m - (intOf iv).toNat)
        case atStart => exact ⟨0, Nat.zero_le _, rfl, rfl, Below.refl _ _⟩
        case round =>
          obtain ⟨i, hi, rfl, rfl, hW⟩ := hrel
          by_cases hlt : i < m
          · obtain ⟨b', off', rfl, hcell'⟩ := (hcw.keep hW) (by rw [HM.out]; omega)
            obtain ⟨u, hu⟩ := at_ us i (by rw [HM.out]; exact hlt)
            have d0 := hcell' i u hu
            have hvf := pf_at hu
            obtain ⟨uu0, uu1⟩ := HUA.out u (mem_of_at hu)
            have kk0 : (0 : Int) ≤ (i : Int) := by omega
            have kk1 : (i : Int) < (m : Int) := by omega
            obtain ⟨p, hp⟩ : ∃ p, (sel (pf us) i).length = p := ⟨_, rfl⟩
            have hq10 : p ≤ 10 := by rw [← hp]; have := sel_len (pf us) i; omega
            rw [hp]
            by_cases hu0 : u = 0
            · have hno : pf us i = none := by rw [hvf, if_pos hu0]
              have HQ2 := Lib.hid (show (sel (pf us) (i + 1)).length = p from by rw [sel_no hno, hp])
              clear hcell' hu hvf hno hp
              subst hu0
              go_wp2
              go_roundw
              case rel => first | exact ⟨i + 1, by omega, by go_num, by rw [HQ2.out], hW⟩ | exact ⟨i + 1, by omega, by go_num, by rw [HQ2.out]⟩
              case measure => simp [intOf]; omega
            · have hyes : pf us i = some ((i : Int), u) := by rw [hvf, if_neg hu0]
              have HQ2 := Lib.hid (show (sel (pf us) (i + 1)).length = p + 1 from by rw [sel_yes hyes, List.length_append, hp]; rfl)
              have hLq := sel_get (n := m) hlt hyes
              rw [hp, HLE.out] at hLq
              have hql := lt_of_at hLq
              obtain ⟨b2, off2, rfl, hcell2⟩ := (hpw.keep hW) (by omega)
              obtain ⟨g0, g1⟩ := hcell2 p _ hLq
              dsimp only at g0 g1
              have b1 : (u == 0) = false := by rw [beq_eq_false_iff_ne]; exact hu0
              have hq0 : (p : Int) < (La.length : Int) := by omega
              have hq1 : (0 : Int) ≤ (p : Int) := by omega
              clear hcell' hu hvf hyes hp hLq hcell2 hu0
              go_wp2
              go_region_held3 (fun W' => Below wr.heap.size wr W' ∧ W'.cell? ⟨b2, off2 + p * 2, none⟩ = some (.int .i64 (i : Int)) ∧ W'.cell? ⟨b2, off2 + p * 2 + 1, none⟩ = some (.int .i64 u) ∧ W'.cell? ⟨b', off' + i, none⟩ = some (.int .i64 u))
                (first | exact ⟨(Below.refl _ _).drew, g0, g1, d0⟩ | exact ⟨Gen.over (by assumption) (And.left (by assumption)), Gen.keep (by assumption) (And.left (And.right (by assumption))), Gen.keep (by assumption) (And.left (And.right (And.right (by assumption)))), Gen.keep (by assumption) (And.right (And.right (And.right (by assumption))))⟩)
                (first | (go_at_call 39; refine (share_any _ _ _).mono ?_; rintro e w' ⟨rfl, hb'⟩))
              all_goals
                rename_i hH
                obtain ⟨hH, _, _, _⟩ := hH
                have hW2 := Gen.over hH hW
                clear g0 g1 d0
                go_wp2
                go_roundw
                case rel => first | exact ⟨i + 1, by omega, by go_num, by rw [HQ2.out]; go_num, hW2⟩ | exact ⟨i + 1, by omega, by go_num, by rw [HQ2.out]; go_num⟩
                case measure => simp [intOf]; omega
          · obtain rfl : i = m := by omega
            have HQ2 := Lib.hid (show (sel (pf us) i).length = La.length from by rw [← HLE.out])
            rw [HQ2.out]
            have hE := Gen.over hW hBw
            go_wp2
            go_ret
            exact ⟨rfl, hE⟩
theorem ens_any (w : World) (hc : Prs w A ss) (hc' : Ints w A' us) (hl : Trs w A3 l) (hn : ss.length ≤ 9223372036854775807) (hm : us.length ≤ 9223372036854775807) (hq : l.length ≤ 9223372036854775807) :
    Calls Try.prog 9 #[.slice A ss.length cap, .slice A' us.length cap', .slice A3 l.length cap3, .int .i64 day] w fun e w' => e = .returned (.bool true) ∧ Below w.heap.size w w' := by
  cases hf : fewB ss.length us.length l.length
  · exact ens_a w hn hm hq hf
  · obtain ⟨La, E, hP⟩ : ∃ L E, pdO ss us l day = (L, E) := ⟨_, _, rfl⟩
    obtain ⟨R, F, hS⟩ : ∃ R F, stO ss us l day = (R, F) := ⟨_, _, rfl⟩
    rcases both_err hS hP with ⟨rfl, rfl⟩ | ⟨rfl, rfl⟩
    · exact ens_c w rfl hc rfl hc' rfl hl hf hP hS
    · exact ens_b w rfl hc rfl hc' rfl hl hf hP hS
end
end Go.Proofs.Ytpekedhcnijgcaa.Book
