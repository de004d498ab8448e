/- TradeMoves returns true: every list of seats, units and trades, and day; no condition. -/
import Derived.Test.YtpekedhcnijgcaaTrdI
import Derived.Test.YtpekedhcnijgcaaTrdE
import Derived.BigQuiet
namespace Go.Proofs.Ytpekedhcnijgcaa.Book
open Go.ChangeShapes Go.WideShapes Go.ChangeAt Go.RowKit Go.Proofs.Ytpekedhcnijgcaa.Cell
set_option linter.unusedVariables false
set_option linter.unusedSimpArgs false

section
variable {A : Option Addr} {n cap : Nat} {ss : List (Int × Int)} {A' : Option Addr} {m cap' : Nat} {us : List Int} {A3 : Option Addr} {q cap3 : Nat} {l : List Tr} {day : Int}
theorem settle_ok {U : List Int} {M : List Tr} {E : Int} {n2 p : Nat} (w : World) (hn : ss.length = n) (hc : Prs w A ss) (hbig : n ≤ 1000000) (hm : us.length = m) (hc' : Ints w A' us) (hbig' : m ≤ 1000000) (hq : l.length = q) (hl : Trs w A3 l) (hq12 : q ≤ 30) (h : stO ss us l day = ((U, M), E)) (h1 : U.length = n2) (h2 : M.length = p) :
    Calls Try.prog 16 #[.slice A n cap, .slice A' m cap', .slice A3 q cap3, .int .i64 day] w fun e w' => ∃ A1 c1 A2 c2, e = .returned (.tuple #[.slice A1 n2 c1, .slice A2 p c2, .int .i64 E]) ∧ Below w.heap.size w w' ∧ Ints w' A1 U ∧ Trs w' A2 M := by
  subst h1 h2
  exact settle_any w hn hc hbig hm hc' hbig' hq hl hq12 h
theorem stO_no {R : List Int × List Tr} {E : Int} (h : stO ss us l day = (R, E)) (hE : E ≠ 0) : R = ([], []) := by
  unfold stO at h
  split at h
  · injection h with _ h; exact absurd h.symm hE
  · injection h with h _; rw [← h]
theorem bB_some {s j : Nat} {y : Bool} (hj : j < ss.length) (h : bB ss s j = y) : (acc (bl0 s) ss)[j]? = some y := by
  unfold bB at h
  rw [List.getD_eq_getElem?_getD, List.getElem?_eq_getElem (by rw [acc_length]; exact hj)] at h
  rw [List.getElem?_eq_getElem (by rw [acc_length]; exact hj), ← h]; rfl
theorem bB_ne {s j : Nat} (h : bB ss s j = false) (hs : s < ss.length) : j ≠ s := fun c => by
  subst c
  rw [bB_self hs] at h
  cases h
set_option maxRecDepth 100000 in
set_option maxHeartbeats 1000000 in
theorem tmv_a (w : World) (hn : n ≤ 9223372036854775807) (hm : m ≤ 9223372036854775807) (hq : q ≤ 9223372036854775807) (h : fewB n m q = false) :
    Calls Try.prog 4 #[.slice A n cap, .slice A' m cap', .slice A3 q cap3, .int .i64 day] w fun e w' => e = .returned (.bool true) ∧ Below w.heap.size w w' := by
  have HF := Lib.hid h
  clear h
  go_enter Try.func4, Try.ntmps4
  go_wp2_with (fail)
  go_must (refine (small32_any _).mono ?_)
  rintro e w1 ⟨rfl, hb⟩
  go_wp2_with (fail)
  go_must (refine (tfew_is _ hn hm hq HF.out).mono ?_)
  rintro e w2 ⟨rfl, rfl⟩
  go_wp2
  go_ret
  exact ⟨rfl, hb⟩
set_option maxRecDepth 100000 in
set_option maxHeartbeats 4000000 in
theorem tmv_b (w : World) (hn : ss.length = n) (hc : Prs w A ss) (hm : us.length = m) (hc' : Ints w A' us) (hq : l.length = q) (hl : Trs w A3 l) (hf : fewB n m q = true) {E : Int} (hS : stO ss us l day = (([], []), E)) (hE : (E != 0) = true) :
    Calls Try.prog 4 #[.slice A n cap, .slice A' m cap', .slice A3 q cap3, .int .i64 day] w fun e w' => e = .returned (.bool true) ∧ Below w.heap.size w w' := by
  obtain ⟨f1, f2, f3⟩ := fewB_in hf
  have HN := Lib.hid hn
  have HM := Lib.hid hm
  have HQ := Lib.hid hq
  have HF := Lib.hid hf
  have HS := Lib.hid hS
  clear hn hm hq hf hS
  go_enter Try.func4, Try.ntmps4
  go_wp2_with (fail)
  go_must (refine (small32_any _).mono ?_)
  rintro e w1 ⟨rfl, hB⟩
  go_wp2_with (fail)
  go_must (refine (tfew_is _ (by omega) (by omega) (by omega) HF.out).mono ?_)
  rintro e w2 ⟨rfl, rfl⟩
  go_wp2_with (fail)
  go_must (refine (settle_ok _ HN.out (hc.keep hB) (by omega) HM.out (hc'.keep hB) (by omega) HQ.out (hl.keep hB) (by omega) HS.out rfl rfl).mono ?_)
  rintro e w3 ⟨B1, c1, B2, c2, rfl, hb3, _, _⟩
  have hB3 := Gen.over hb3 hB
  go_wp2
  go_ret
  exact ⟨rfl, hB3⟩
set_option maxRecDepth 100000 in
set_option maxHeartbeats 8000000 in
theorem tmv_c (w : World) (hn : ss.length = n) (hc : Prs w A ss) (hm : us.length = m) (hc' : Ints w A' us) (hq : l.length = q) (hl : Trs w A3 l) (hf : fewB n m q = true) {U : List Int} {M : List Tr} (hS : stO ss us l day = ((U, M), 0)) :
    Calls Try.prog 4 #[.slice A n cap, .slice A' m cap', .slice A3 q cap3, .int .i64 day] w fun e w' => e = .returned (.bool true) ∧ Below w.heap.size w w' := by
  obtain ⟨f1, f2, f3⟩ := fewB_in hf
  obtain ⟨hmv, hvU, hrM, hno, hp36, hvu, hrl, d0, d1⟩ := settled (by omega) hS
  dsimp only at hmv hvU hrM hno hp36
  have hmn : n = m := by have := (vd_in hvu).2.1; omega
  have hUn : U.length = n := by have := (vd_in hvU).2.1; omega
  obtain ⟨p, hp⟩ : ∃ p, M.length = p := ⟨_, rfl⟩
  have hqp : q ≤ p := by have := hmv.ln; omega
  rw [hp] at hp36
  subst hmn
  have HN := Lib.hid hn
  have HM := Lib.hid hm
  have HQ := Lib.hid hq
  have HF := Lib.hid hf
  have HS := Lib.hid hS
  have HMV := Lib.hid hmv
  have HVU := Lib.hid hvU
  have HVO := Lib.hid hvu
  have HRM := Lib.hid hrM
  have HNO := Lib.hid hno
  have HU := Lib.hid hUn
  have HP := Lib.hid hp
  have HPRE := Lib.hid (pre_of (vd_in hvU).1)
  have HOK := Lib.hid (fun x (hx : x ∈ M) => (okT_in ((rtT_in hrM).2.2 x hx)))
  clear hn hm hq hf hS hmv hvU hvu hrM hrl hno hUn hp
  go_enter Try.func4, Try.ntmps4
  go_wp2_with (fail)
  go_must (refine (small32_any _).mono ?_)
  rintro e w1 ⟨rfl, hB⟩
  go_wp2_with (fail)
  go_must (refine (tfew_is _ (by omega) (by omega) (by omega) HF.out).mono ?_)
  rintro e w2 ⟨rfl, rfl⟩
  go_wp2_with (fail)
  go_must (refine (settle_ok _ HN.out (hc.keep hB) (by omega) HM.out (hc'.keep hB) (by omega) HQ.out (hl.keep hB) (by omega) HS.out HU.out HP.out).mono ?_)
  rintro e w3 ⟨B1, c1, B2, c2, rfl, hb3, hu, ht⟩
  have hB3 := Gen.over hb3 hB
  replace hc := hc.keep hB3
  replace hc' := hc'.keep hB3
  replace hl := hl.keep hB3
  clear hb3 hB
  have hqpI : ((p : Int) < (q : Int)) = False := eq_false (by omega)
  go_wp2_with (fail)
  go_loopw [13, 14, 15] (fun av rv iv wr => ∃ s : Nat, s ≤ n ∧ iv = .int .i64 s ∧ av = .int .i64 (total (us.take s)) ∧ rv = .int .i64 (total (U.take s)) ∧ Below w3.heap.size w3 wr) (fun _ _ iv _ => n - (intOf iv).toNat)
  case atStart => exact ⟨0, Nat.zero_le _, rfl, by simp [total], by simp [total], Below.refl _ _⟩
  case round =>
    obtain ⟨s, hs, rfl, rfl, rfl, hW⟩ := hrel
    have t01 := total_in (us := us.take s) fun u hu => vd_all HVO.out u (List.mem_of_mem_take hu)
    have t02 := total_in (us := U.take s) fun u hu => vd_all HVU.out u (List.mem_of_mem_take hu)
    have hl1 : ((us.take s).length : Int) ≤ 10 := by
      have := List.length_take_le s us
      omega
    have hl2 : ((U.take s).length : Int) ≤ 10 := by
      have := List.length_take_le s U
      omega
    have t0 := t01.1
    have t1 : total (us.take s) ≤ 10000000000 := by omega
    have r0 := t02.1
    have r1 : total (U.take s) ≤ 10000000000 := by omega
    clear t01 t02 hl1 hl2
    by_cases hlt : s < n
    · have hsI : (s : Int) < (n : Int) := by omega
      have s0 : (0 : Int) ≤ (s : Int) := by omega
      obtain ⟨b1, o1, rfl, hcell1⟩ := (hc'.keep hW) (by rw [HM.out]; omega)
      obtain ⟨b2, o2, rfl, hcell2⟩ := (hu.keep hW) (by rw [HU.out]; omega)
      obtain ⟨u1, hu1⟩ := at_ us s (by rw [HM.out]; exact hlt)
      obtain ⟨u2, hu2⟩ := at_ U s (by rw [HU.out]; exact hlt)
      have g1 := hcell1 s u1 hu1
      have g2 := hcell2 s u2 hu2
      obtain ⟨v10, v11⟩ := vd_all HVO.out u1 (mem_of_at hu1)
      obtain ⟨v20, v21⟩ := vd_all HVU.out u2 (mem_of_at hu2)
      have HT1 := Lib.hid (show total (us.take (s + 1)) = total (us.take s) + u1 from by rw [take_snoc hu1, total_snoc])
      have HT2 := Lib.hid (show total (U.take (s + 1)) = total (U.take s) + u2 from by rw [take_snoc hu2, total_snoc])
      obtain ⟨x1, hx1⟩ : ∃ x, hN ss us s = x := ⟨_, rfl⟩
      obtain ⟨x2, hx2⟩ : ∃ x, hN ss U s = x := ⟨_, rfl⟩
      have y1 := hN_in HVO.out s
      have y2 := hN_in HVU.out s
      rw [hx1] at y1
      rw [hx2] at y2
      obtain ⟨y10, y11⟩ := y1
      obtain ⟨y20, y21⟩ := y2
      have HCH := Lib.hid (show cgs day ss s l M p = x2 - x1 from by have := HMV.out.ch s; rw [hx1, hx2, HP.out] at this; omega)
      have HX1 := Lib.hid (show hO ss us (s : Int) = x1 from by rw [hO_is HVO.out (by rw [HN.out]; exact hlt)]; exact hx1)
      have HX2 := Lib.hid (show hO ss U (s : Int) = x2 from by rw [hO_is HVU.out (by rw [HN.out]; exact hlt)]; exact hx2)
      clear hcell1 hcell2 hu1 hu2 hx1 hx2
      obtain ⟨wo, rfl⟩ : ∃ wo : World, wo = wr := ⟨_, rfl⟩
      have hcl := hc.keep hW
      have hll := hl.keep hW
      have htl := ht.keep hW
      have hul : Ints wo (some ⟨b2, o2, none⟩) U := hu.keep hW
      have hol : Ints wo (some ⟨b1, o1, none⟩) us := hc'.keep hW
      go_wp2_with (fail)
      go_loopw [16, 17] (fun cv iv wr => ∃ j : Nat, j ≤ p ∧ iv = .int .i64 j ∧ cv = .int .i64 (cgs day ss s l M j) ∧ Below wo.heap.size wo wr) (fun _ iv _ => p - (intOf iv).toNat)
      case atStart => exact ⟨0, Nat.zero_le _, rfl, rfl, Below.refl _ _⟩
      case round =>
        obtain ⟨j, hj, rfl, rfl, hI⟩ := hrel
        have c01 := cgs_in (day := day) (ss := ss) (s := s) (l0 := l) (fun x hx => (HOK.out x hx).2.2) j
        have q0 : -36000000000 ≤ cgs day ss s l M j := by omega
        have q1 : cgs day ss s l M j ≤ 36000000000 := by omega
        clear c01
        by_cases hltj : j < p
        · have hjI : (j : Int) < (p : Int) := by omega
          have j0 : (0 : Int) ≤ (j : Int) := by omega
          obtain ⟨bt, ot, rfl, hct⟩ := (htl.keep hI) (by rw [HP.out]; omega)
          obtain ⟨x, hx⟩ := at_ M j (by rw [HP.out]; exact hltj)
          obtain ⟨_, e1, e2, e3, _, _, e6, _⟩ := hct j x hx
          obtain ⟨h1, h2, h3⟩ := HOK.out x (mem_of_at hx)
          obtain ⟨z0, z1, zne⟩ := okD_u h3
          have m1 := lf_in h1
          have m2 := lf_in h2
          rw [HN.out] at m1 m2
          have HTR := Lib.hid (show cgs day ss s l M (j + 1) = cgs day ss s l M j + (if skp day l j x = true then 0 else cg ss s x) from by unfold cgs; rw [sm_succ, trm_at hx])
          clear hct h1 h2 h3 hx
          obtain ⟨xk, xf, xt, xu, xm, xd, xo, xb⟩ := x
          dsimp only at e1 e2 e3 e6 z0 z1 zne m1 m2
          by_cases ho : xo = day
          · by_cases hjq : j < q
            · have hjqI : (j : Int) < (q : Int) := by omega
              obtain ⟨bl, ol, rfl, hcl2⟩ := (hll.keep hI) (by rw [HQ.out]; omega)
              obtain ⟨y, hy⟩ := at_ l j (by rw [HQ.out]; exact hjq)
              obtain ⟨_, _, _, _, _, _, k6, _⟩ := hcl2 j y hy
              have HSK : Hid (skp day l j ⟨xk, xf, xt, xu, xm, xd, xo, xb⟩ = decide (y.o ≠ -1)) := Lib.hid (by
                unfold skp
                rw [hy, show decide ((⟨xk, xf, xt, xu, xm, xd, xo, xb⟩ : Tr).o ≠ day) = false from decide_eq_false (fun c => c ho), Bool.false_or])
              clear hcl2 hy
              obtain ⟨yk, yf, yt, yu, ym, yd, yo, yb⟩ := y
              dsimp only at k6
              by_cases hyo : yo = -1
              · have HC := Lib.hid (show cgs day ss s l M (j + 1) = cgs day ss s l M j + cg ss s ⟨xk, xf, xt, xu, xm, xd, xo, xb⟩ from by
                  rw [HTR.out, HSK.out, decide_eq_false (fun c => c hyo)]; rfl)
                subst hyo
                obtain rfl : day = xo := ho.symm
                obtain ⟨qf, rfl⟩ := Int.eq_ofNat_of_zero_le m1.1
                obtain ⟨qt, rfl⟩ := Int.eq_ofNat_of_zero_le m2.1
                have hqt : qt < n := by omega
                have hqf : qf < n := by omega
                obtain ⟨yt, hyt⟩ : ∃ y, bB ss s qt = y := ⟨_, rfl⟩
                obtain ⟨yf, hyf⟩ : ∃ y, bB ss s qf = y := ⟨_, rfl⟩
                have HBT := Lib.hid (bB_some (ss := ss) (s := s) (j := qt) (by rw [HN.out]; exact hqt) hyt)
                have HBF := Lib.hid (bB_some (ss := ss) (s := s) (j := qf) (by rw [HN.out]; exact hqf) hyf)
                have HCG := Lib.hid (show cg ss s ⟨xk, (qf : Int), (qt : Int), xu, xm, xd, day, xb⟩ = (if yt = true then xu else 0) + (if yf = true then -xu else 0) from by unfold cg; dsimp only; rw [Int.toNat_natCast, Int.toNat_natCast, hyt, hyf])
                have hci := hcl.keep hI
                clear HTR m1 m2
                go_wp2_with (fail)
                go_must (refine (below_any _ _ _ ss qt s yt _ HN.out hci (by omega) HPRE.out HBT.out hlt).mono ?_)
                rintro e w5 ⟨rfl, hb5⟩
                have hI5 := Gen.over hb5 hI
                replace hci := hci.keep hb5
                replace e1 := Gen.keep hb5 e1
                replace e2 := Gen.keep hb5 e2
                replace e3 := Gen.keep hb5 e3
                clear hb5 e6
                cases yt
                · have hnt : ((qt : Int) == (s : Int)) = false := by rw [beq_eq_false_iff_ne]; have := bB_ne hyt (by rw [HN.out]; exact hlt); omega
                  go_wp2_with (fail)
                  go_must (refine (below_any _ _ _ ss qf s yf _ HN.out hci (by omega) HPRE.out HBF.out hlt).mono ?_)
                  rintro e w6 ⟨rfl, hb6⟩
                  have hI6 := Gen.over hb6 hI5
                  replace e1 := Gen.keep hb6 e1
                  replace e2 := Gen.keep hb6 e2
                  replace e3 := Gen.keep hb6 e3
                  clear hb6
                  cases yf
                  · have hnf : ((qf : Int) == (s : Int)) = false := by rw [beq_eq_false_iff_ne]; have := bB_ne hyf (by rw [HN.out]; exact hlt); omega
                    have HV := Lib.hid (show cgs day ss s l M (j + 1) = cgs day ss s l M j from by rw [HC.out, HCG.out]; simp; try omega)
                    go_wp2
                    go_roundw
                    case rel => exact ⟨j + 1, by omega, by go_num, by rw [HV.out]; try (congr 1; omega), hI6⟩
                    case measure => simp [intOf]; omega
                  · skip
                    have HV := Lib.hid (show cgs day ss s l M (j + 1) = cgs day ss s l M j - xu from by rw [HC.out, HCG.out]; simp; try omega)
                    go_wp2
                    go_roundw
                    case rel => exact ⟨j + 1, by omega, by go_num, by rw [HV.out]; try (congr 1; omega), hI6⟩
                    case measure => simp [intOf]; omega
                · skip
                  go_wp2_with (fail)
                  go_must (refine (below_any _ _ _ ss qf s yf _ HN.out hci (by omega) HPRE.out HBF.out hlt).mono ?_)
                  rintro e w6 ⟨rfl, hb6⟩
                  have hI6 := Gen.over hb6 hI5
                  replace e1 := Gen.keep hb6 e1
                  replace e2 := Gen.keep hb6 e2
                  replace e3 := Gen.keep hb6 e3
                  clear hb6
                  cases yf
                  · have hnf : ((qf : Int) == (s : Int)) = false := by rw [beq_eq_false_iff_ne]; have := bB_ne hyf (by rw [HN.out]; exact hlt); omega
                    have HV := Lib.hid (show cgs day ss s l M (j + 1) = cgs day ss s l M j + xu from by rw [HC.out, HCG.out]; simp; try omega)
                    go_wp2
                    go_roundw
                    case rel => exact ⟨j + 1, by omega, by go_num, by rw [HV.out]; try (congr 1; omega), hI6⟩
                    case measure => simp [intOf]; omega
                  · skip
                    have HV := Lib.hid (show cgs day ss s l M (j + 1) = cgs day ss s l M j + xu - xu from by rw [HC.out, HCG.out]; simp; try omega)
                    go_wp2
                    go_roundw
                    case rel => exact ⟨j + 1, by omega, by go_num, by rw [HV.out]; try (congr 1; omega), hI6⟩
                    case measure => simp [intOf]; omega
              · have HC := Lib.hid (show cgs day ss s l M (j + 1) = cgs day ss s l M j from by
                  rw [HTR.out, HSK.out, decide_eq_true hyo]; simp)
                have hyb : (yo == -1) = false := by rw [beq_eq_false_iff_ne]; exact hyo
                obtain rfl : day = xo := ho.symm
                clear hyo
                go_wp2
                go_roundw
                case rel => exact ⟨j + 1, by omega, by go_num, by rw [HC.out], hI⟩
                case measure => simp [intOf]; omega
            · have hjqI : ¬ (j : Int) < (q : Int) := by omega
              have hjqb : decide ((j : Int) < (q : Int)) = false := decide_eq_false hjqI
              have HC := Lib.hid (show cgs day ss s l M (j + 1) = cgs day ss s l M j + cg ss s ⟨xk, xf, xt, xu, xm, xd, xo, xb⟩ from by
                rw [HTR.out]
                have : skp day l j ⟨xk, xf, xt, xu, xm, xd, xo, xb⟩ = false := by
                  unfold skp
                  rw [List.getElem?_eq_none (by rw [HQ.out]; omega), show decide ((⟨xk, xf, xt, xu, xm, xd, xo, xb⟩ : Tr).o ≠ day) = false from decide_eq_false (fun c => c ho)]; rfl
                rw [this]; rfl)
              obtain rfl : day = xo := ho.symm
              obtain ⟨qf, rfl⟩ := Int.eq_ofNat_of_zero_le m1.1
              obtain ⟨qt, rfl⟩ := Int.eq_ofNat_of_zero_le m2.1
              have hqt : qt < n := by omega
              have hqf : qf < n := by omega
              obtain ⟨yt, hyt⟩ : ∃ y, bB ss s qt = y := ⟨_, rfl⟩
              obtain ⟨yf, hyf⟩ : ∃ y, bB ss s qf = y := ⟨_, rfl⟩
              have HBT := Lib.hid (bB_some (ss := ss) (s := s) (j := qt) (by rw [HN.out]; exact hqt) hyt)
              have HBF := Lib.hid (bB_some (ss := ss) (s := s) (j := qf) (by rw [HN.out]; exact hqf) hyf)
              have HCG := Lib.hid (show cg ss s ⟨xk, (qf : Int), (qt : Int), xu, xm, xd, day, xb⟩ = (if yt = true then xu else 0) + (if yf = true then -xu else 0) from by unfold cg; dsimp only; rw [Int.toNat_natCast, Int.toNat_natCast, hyt, hyf])
              have hci := hcl.keep hI
              clear HTR m1 m2
              go_wp2_with (fail)
              go_must (refine (below_any _ _ _ ss qt s yt _ HN.out hci (by omega) HPRE.out HBT.out hlt).mono ?_)
              rintro e w5 ⟨rfl, hb5⟩
              have hI5 := Gen.over hb5 hI
              replace hci := hci.keep hb5
              replace e1 := Gen.keep hb5 e1
              replace e2 := Gen.keep hb5 e2
              replace e3 := Gen.keep hb5 e3
              clear hb5 e6
              cases yt
              · have hnt : ((qt : Int) == (s : Int)) = false := by rw [beq_eq_false_iff_ne]; have := bB_ne hyt (by rw [HN.out]; exact hlt); omega
                go_wp2_with (fail)
                go_must (refine (below_any _ _ _ ss qf s yf _ HN.out hci (by omega) HPRE.out HBF.out hlt).mono ?_)
                rintro e w6 ⟨rfl, hb6⟩
                have hI6 := Gen.over hb6 hI5
                replace e1 := Gen.keep hb6 e1
                replace e2 := Gen.keep hb6 e2
                replace e3 := Gen.keep hb6 e3
                clear hb6
                cases yf
                · have hnf : ((qf : Int) == (s : Int)) = false := by rw [beq_eq_false_iff_ne]; have := bB_ne hyf (by rw [HN.out]; exact hlt); omega
                  have HV := Lib.hid (show cgs day ss s l M (j + 1) = cgs day ss s l M j from by rw [HC.out, HCG.out]; simp; try omega)
                  go_wp2
                  go_roundw
                  case rel => exact ⟨j + 1, by omega, by go_num, by rw [HV.out]; try (congr 1; omega), hI6⟩
                  case measure => simp [intOf]; omega
                · skip
                  have HV := Lib.hid (show cgs day ss s l M (j + 1) = cgs day ss s l M j - xu from by rw [HC.out, HCG.out]; simp; try omega)
                  go_wp2
                  go_roundw
                  case rel => exact ⟨j + 1, by omega, by go_num, by rw [HV.out]; try (congr 1; omega), hI6⟩
                  case measure => simp [intOf]; omega
              · skip
                go_wp2_with (fail)
                go_must (refine (below_any _ _ _ ss qf s yf _ HN.out hci (by omega) HPRE.out HBF.out hlt).mono ?_)
                rintro e w6 ⟨rfl, hb6⟩
                have hI6 := Gen.over hb6 hI5
                replace e1 := Gen.keep hb6 e1
                replace e2 := Gen.keep hb6 e2
                replace e3 := Gen.keep hb6 e3
                clear hb6
                cases yf
                · have hnf : ((qf : Int) == (s : Int)) = false := by rw [beq_eq_false_iff_ne]; have := bB_ne hyf (by rw [HN.out]; exact hlt); omega
                  have HV := Lib.hid (show cgs day ss s l M (j + 1) = cgs day ss s l M j + xu from by rw [HC.out, HCG.out]; simp; try omega)
                  go_wp2
                  go_roundw
                  case rel => exact ⟨j + 1, by omega, by go_num, by rw [HV.out]; try (congr 1; omega), hI6⟩
                  case measure => simp [intOf]; omega
                · skip
                  have HV := Lib.hid (show cgs day ss s l M (j + 1) = cgs day ss s l M j + xu - xu from by rw [HC.out, HCG.out]; simp; try omega)
                  go_wp2
                  go_roundw
                  case rel => exact ⟨j + 1, by omega, by go_num, by rw [HV.out]; try (congr 1; omega), hI6⟩
                  case measure => simp [intOf]; omega
          · have HC := Lib.hid (show cgs day ss s l M (j + 1) = cgs day ss s l M j from by
              rw [HTR.out]
              have : skp day l j ⟨xk, xf, xt, xu, xm, xd, xo, xb⟩ = true := by
                unfold skp
                rw [show decide ((⟨xk, xf, xt, xu, xm, xd, xo, xb⟩ : Tr).o ≠ day) = true from decide_eq_true ho]; rfl
              rw [this]; simp)
            have hob : (xo == day) = false := by rw [beq_eq_false_iff_ne]; exact ho
            have hob2 : (xo != day) = true := by rw [bne_iff_ne]; exact ho
            clear ho
            go_wp2
            go_roundw
            case rel => exact ⟨j + 1, by omega, by go_num, by rw [HC.out], hI⟩
            case measure => simp [intOf]; omega
        · obtain rfl : p = j := by omega
          rw [HCH.out]
          have hcX := hcl.keep hI
          have huX := hul.keep hI
          have hoX := hol.keep hI
          have hWX := Gen.over hI hW
          clear q0 q1
          go_wp2_with (fail)
          go_must (refine (held_is _ HN.out hcX (by omega) HU.out huX (by omega) HX2.out).mono ?_)
          rintro e w4 ⟨rfl, hb4⟩
          replace hWX := Gen.over hb4 hWX
          replace hcX := hcX.keep hb4
          replace hoX := hoX.keep hb4
          clear hb4
          go_wp2_with (fail)
          go_must (refine (held_is _ HN.out hcX (by omega) HM.out hoX (by omega) HX1.out).mono ?_)
          rintro e w5 ⟨rfl, hb5⟩
          replace hWX := Gen.over hb5 hWX
          go_wp2
          exact ⟨⟨s + 1, by omega, by go_num, by rw [HT1.out], by rw [HT2.out], hWX⟩, by simp [intOf]; omega⟩
    · obtain rfl : n = s := by omega
      have e1 : total (us.take n) = total us := by rw [List.take_of_length_le (by rw [HM.out]; exact Nat.le_refl _)]
      have e2 : total (U.take n) = total us := by rw [List.take_of_length_le (by rw [HU.out]; exact Nat.le_refl _), HMV.out.tt]
      rw [e1, e2]
      rw [e1] at t0 t1
      clear e1 e2 r0 r1
      obtain ⟨wo, rfl⟩ : ∃ wo : World, wo = wr := ⟨_, rfl⟩
      have hW3 := Gen.over hW hB3
      replace hc := hc.keep hW
      replace hu := hu.keep hW
      replace ht := ht.keep hW
      have hOl := opL_len day M p
      have HOM := Lib.hid (fun (j : Int) (hj : j ∈ opL day M p) => opL_mem p j hj)
      obtain ⟨O, hO⟩ : ∃ O, opL day M p = O := ⟨_, rfl⟩
      rw [hO] at hOl HOM
      have HOE := Lib.hid hO
      clear hW hB3 hO hl hc'
      go_wp2_with (fail)
      go_must (refine (topenl_any _ _ _ M day _ HP.out ht (by omega)).mono ?_)
      rintro e w4 ⟨B8, c8, rfl, hb4, hop⟩
      rw [HOE.out] at hop ⊢
      replace hW3 := Gen.over hb4 hW3
      replace hc := hc.keep hb4
      replace hu := hu.keep hb4
      replace ht := ht.keep hb4
      clear hb4
      obtain ⟨c, hcO⟩ : ∃ c, O.length = c := ⟨_, rfl⟩
      rw [hcO] at hOl
      have HCO := Lib.hid hcO
      rw [hcO]
      clear hcO
      go_wp2_with (fail)
      go_loopw [19] (fun iv wr => ∃ k : Nat, k ≤ c ∧ iv = .int .i64 k ∧ Below w4.heap.size w4 wr) (fun iv _ => c - (intOf iv).toNat)
      case atStart => exact ⟨0, Nat.zero_le _, rfl, Below.refl _ _⟩
      case round =>
        obtain ⟨k, hk, rfl, hI⟩ := hrel
        by_cases hltk : k < c
        · have hkI : (k : Int) < (c : Int) := by omega
          have k0 : (0 : Int) ≤ (k : Int) := by omega
          obtain ⟨bo, oo, rfl, hco⟩ := (hop.keep hI) (by rw [HCO.out]; omega)
          obtain ⟨jj, hjj⟩ := at_ O k (by rw [HCO.out]; exact hltk)
          have f0 := hco k jj hjj
          obtain ⟨i, x, rfl, hx, hpn⟩ := HOM.out jj (mem_of_at hjj)
          have hip := lt_of_at hx
          rw [HP.out] at hip
          have hiI : (i : Int) < (p : Int) := by omega
          have i0 : (0 : Int) ≤ (i : Int) := by omega
          obtain ⟨bt, ot, rfl, hct⟩ := (ht.keep hI) (by rw [HP.out]; omega)
          obtain ⟨p0, p1, p2, p3, p4, p5, p6, p7⟩ := hct i x hx
          obtain ⟨h1, h2, h3⟩ := HOK.out x (mem_of_at hx)
          obtain ⟨z0, z1, zne⟩ := okD_u h3
          have m1 := lf_in h1
          have m2 := lf_in h2
          rw [HN.out] at m1 m2
          have hcan := HNO.out x (mem_of_at hx)
          have hpo := of_decide_eq_true hpn
          clear hct h1 h2 h3 hx hco hjj
          obtain ⟨xk, xf, xt, xu, xm, xd, xo, xb⟩ := x
          dsimp only at p0 p1 p2 p3 p4 p5 p6 p7 z0 z1 zne m1 m2 hpo
          obtain ⟨ho, hd⟩ := hpo
          subst ho
          obtain ⟨qf, rfl⟩ := Int.eq_ofNat_of_zero_le m1.1
          obtain ⟨qt, rfl⟩ := Int.eq_ofNat_of_zero_le m2.1
          have hqf : qf < n := by omega
          have hqfI : (qf : Int) < (n : Int) := by omega
          have qf0 : (0 : Int) ≤ (qf : Int) := by omega
          obtain ⟨bu, ou, rfl, hcu⟩ := (hu.keep hI) (by rw [HU.out]; omega)
          obtain ⟨z, hz⟩ := at_ U qf (by rw [HU.out]; exact hqf)
          have y0 := hcu qf z hz
          have hzu : z < xu := by
            unfold can at hcan
            rw [hpn, Bool.true_and] at hcan
            have := of_decide_eq_false hcan
            dsimp only at this
            rw [Int.toNat_natCast, List.getD_eq_getElem?_getD, hz] at this
            simp only [Option.getD_some] at this
            omega
          clear hcan hpn hcu hz zne m1 m2
          obtain ⟨W5, hW5⟩ : ∃ W5 : World, W5 = wr.alloc (.cells #[.int .i64 xk, .int .i64 (qf : Int), .int .i64 (qt : Int), .int .i64 xu, .int .i64 xm, .int .i64 xd, .int .i64 (-1), .int .i64 xb] 26) := ⟨_, rfl⟩
          have hb5 : Below wr.heap.size wr W5 := by rw [hW5]; exact Gen.b_alloc (Below.refl _ _)
          have hrB : Row W5 wr.heap.size 26 #[.int .i64 xk, .int .i64 (qf : Int), .int .i64 (qt : Int), .int .i64 xu, .int .i64 xm, .int .i64 xd, .int .i64 (-1), .int .i64 xb] := by rw [hW5]; exact Row.new _ _ _
          have y1 := Gen.keep hb5 y0
          have hI5 := Gen.over hb5 hI
          have r1 := hrB.cell 1
          have r3 := hrB.cell 3
          have r5 := hrB.cell 5
          have r6 := hrB.cell 6
          have hzb : decide (xu ≤ z) = false := decide_eq_false (by omega)
          have hdb : decide (day < xd) = false := decide_eq_false (by omega)
          have hq2 : decide ((qf : Int) < 0) = false := decide_eq_false (by omega)
          have hq3 : decide ((n : Int) ≤ (qf : Int)) = false := decide_eq_false (by omega)
          have hi2 : decide ((i : Int) < 0) = false := decide_eq_false (by omega)
          have hi3 : decide ((p : Int) ≤ (i : Int)) = false := decide_eq_false (by omega)
          clear hb5 hrB
          go_wp2_with (fail)
          rw [← hW5]
          clear hW5 p0 p1 p2 p3 p4 p5 p6 p7 y0 f0
          go_quiet (fail)
          go_wp2
          go_roundw
          case rel => first | exact ⟨k + 1, by omega, by go_num, hI5.drew⟩ | exact ⟨k + 1, by omega, by go_num, hI5⟩ | exact ⟨k + 1, by omega, by go_num, Gen.dN hI5 _⟩
          case measure => simp [intOf]; omega
        · obtain rfl : c = k := by omega
          have hcX := hc.keep hI
          have huX := hu.keep hI
          have htX := ht.keep hI
          have hWX := Gen.over hI hW3
          go_wp2_with (fail)
          go_must (refine (units_is _ HN.out hcX (by omega) HU.out huX (by omega) HVU.out).mono ?_)
          rintro e w5 ⟨rfl, hb5⟩
          replace hWX := Gen.over hb5 hWX
          replace hcX := hcX.keep hb5
          replace htX := htX.keep hb5
          go_wp2_with (fail)
          go_must (refine (tRight_is _ HN.out hcX (by omega) HP.out htX (by omega) HRM.out).mono ?_)
          rintro e w6 ⟨rfl, hb6⟩
          replace hWX := Gen.over hb6 hWX
          go_wp2
          go_ret
          exact ⟨rfl, hWX⟩
theorem tmv_any (w : World) (hc : Prs w A ss) (hc' : Ints w A' us) (hl : Trs w A3 l) (hn : ss.length ≤ 9223372036854775807) (hm : us.length ≤ 9223372036854775807) (hq : l.length ≤ 9223372036854775807) :
    Calls Try.prog 4 #[.slice A ss.length cap, .slice A' us.length cap', .slice A3 l.length cap3, .int .i64 day] w fun e w' => e = .returned (.bool true) ∧ Below w.heap.size w w' := by
  cases hf : fewB ss.length us.length l.length
  · exact tmv_a w hn hm hq hf
  · obtain ⟨R, E, hS⟩ : ∃ R E, stO ss us l day = (R, E) := ⟨_, _, rfl⟩
    by_cases hE : E = 0
    · subst hE
      exact tmv_c w rfl hc rfl hc' rfl hl hf (U := R.1) (M := R.2) hS
    · rw [stO_no hS hE] at hS
      exact tmv_b w rfl hc rfl hc' rfl hl hf hS (by rw [bne_iff_ne]; exact hE)
end
end Go.Proofs.Ytpekedhcnijgcaa.Book
