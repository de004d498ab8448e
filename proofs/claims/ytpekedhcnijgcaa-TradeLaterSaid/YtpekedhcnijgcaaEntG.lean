/- The reference of entitle: the contracts of Paid, Through, Small. -/
import Derived.Test.YtpekedhcnijgcaaEntF
namespace Go.Proofs.Ytpekedhcnijgcaa.Book
open Go.ChangeShapes Go.WideShapes Go.ChangeAt Go.RowKit Go.Proofs.Ytpekedhcnijgcaa.Cell
set_option linter.unusedVariables false
set_option linter.unusedSimpArgs false

set_option maxRecDepth 100000 in
set_option maxHeartbeats 8000000 in
theorem rpaid_any (A : Option Addr) (n cap : Nat) (ss : List (Int × Int)) (A' : Option Addr) (m cap' : Nat) (us : List Int) (A3 : Option Addr) (q cap3 : Nat) (l : List Tr) (day : Int) (L : List (Int × Int)) (E : Int) (w : World) (hn : ss.length = n) (hc : Prs w A ss) (hbig : n ≤ 1000000) (hm : us.length = m) (hc' : Ints w A' us) (hbig' : m ≤ 1000000)
    (hl : l.length = q) (hl' : Trs w A3 l) (hbig3 : q ≤ 1000000) (h : pdO ss us l day = (L, E)) :
    Calls Try.prog 30 #[.slice A n cap, .slice A' m cap', .slice A3 q cap3, .int .i64 day] w (ShPost L E w) := by
  have HN := Lib.hid hn
  have HM := Lib.hid hm
  have HL := Lib.hid hl
  clear hn hm hl
  by_cases hok : vd ss us = true ∧ rtT ss l = true ∧ 0 ≤ day ∧ day ≤ 200000
  case neg =>
    unfold pdO at h
    rw [if_neg hok] at h
    have H := Lib.hid h
    clear h
    cases hv : vd ss us
    · have HV := Lib.hid hv
      clear hv hok
      go_enter Try.func30, Try.ntmps30
      go_wp2_with (fail)
      go_must (refine (units_is _ HN.out hc hbig HM.out hc' (by omega) HV.out).mono ?_)
      rintro e w1 ⟨rfl, hb⟩
      go_wp2
      go_ret2
      exact sh_no H.out hb
    · have HV := Lib.hid hv
      cases hr : rtT ss l
      · have HR := Lib.hid hr
        clear hv hok hr
        go_enter Try.func30, Try.ntmps30
        go_wp2_with (fail)
        go_must (refine (units_is _ HN.out hc hbig HM.out hc' (by omega) HV.out).mono ?_)
        rintro e w1 ⟨rfl, hb⟩
        go_wp2_with (fail)
        go_must (refine (rtRight_is _ HN.out (hc.keep hb) hbig HL.out (hl'.keep hb) (by omega) HR.out).mono ?_)
        rintro e w2 ⟨rfl, hb2⟩
        have hB2 := Gen.over hb2 hb
        go_wp2
        go_ret2
        exact sh_no H.out hB2
      · have HR := Lib.hid hr
        rcases (show day < 0 ∨ (0 ≤ day ∧ 200000 < day) from (by have hq : ¬ (0 ≤ day ∧ day ≤ 200000) := fun c => hok ⟨hv, hr, c⟩; omega)) with a | ⟨a, b⟩
        all_goals
          clear hv hok hr
          go_enter Try.func30, Try.ntmps30
          go_wp2_with (fail)
          go_must (refine (units_is _ HN.out hc hbig HM.out hc' (by omega) HV.out).mono ?_)
          rintro e w1 ⟨rfl, hb⟩
          go_wp2_with (fail)
          go_must (refine (rtRight_is _ HN.out (hc.keep hb) hbig HL.out (hl'.keep hb) (by omega) HR.out).mono ?_)
          rintro e w2 ⟨rfl, hb2⟩
          have hB2 := Gen.over hb2 hb
          go_wp2
          go_ret2
          exact sh_no H.out hB2
  unfold pdO at h
  rw [if_pos hok] at h
  obtain ⟨hv, hr, s0, s1⟩ := hok
  have HV := Lib.hid hv
  have HR := Lib.hid hr
  have HRT := Lib.hid (Rt.mk hv hr)
  have hmn : m = n := by have := (vd_in hv).2.1; rw [HM.out, HN.out] at this; exact this
  have hq4 := (rtT_in hr).2.1
  rw [HL.out] at hq4
  subst hmn
  rw [HN.out] at h
  obtain ⟨S, hS⟩ : ∃ S, sums day us l = S := ⟨_, rfl⟩
  rw [hS] at h
  have HSL := Lib.hid (show S.length = m from by rw [← hS, sums_length, HM.out])
  have HFR := Lib.hid (show ∀ i : Nat, fr day us l i q = S.getD i 0 from fun i => by unfold fr; rw [← HL.out, List.take_length, hS])
  have hbd := sums_in HRT.out day q (by rw [HL.out]; exact Nat.le_refl _)
  rw [show l.take q = l from by rw [← HL.out, List.take_length], hS] at hbd
  have HBD := Lib.hid hbd
  have H := Lib.hid h
  clear h hv hr hbd hS
  obtain ⟨i0, hi0, hz0, hz1, hz2⟩ := info_parts infoS
  go_enter Try.func30, Try.ntmps30
  go_wp2_with (fail)
  go_must (refine (units_is _ HN.out hc hbig HM.out hc' (by omega) HV.out).mono ?_)
  rintro e w1 ⟨rfl, hb1⟩
  go_wp2_with (fail)
  go_must (refine (rtRight_is _ HN.out (hc.keep hb1) hbig HL.out (hl'.keep hb1) (by omega) HR.out).mono ?_)
  rintro e w2 ⟨rfl, hb2⟩
  have hb := Gen.over hb2 hb1
  replace hc' := hc'.keep hb
  replace hl' := hl'.keep hb
  clear hb1 hb2
  go_wp2_with (fail)
  go_loopw [10, 11] (fun vv iv wr => ∃ (k : Nat) (v : Value), k ≤ m ∧ iv = .int .i64 k ∧ vv = v ∧ wr.ownsRow w2.heap.size 54 2 v (sel (pf S) k).length ((sel (pf S) k).flatMap pcs) ∧ Below w2.heap.size w2 wr) (fun _ iv _ => m - (intOf iv).toNat)
  case atStart => exact ⟨0, _, Nat.zero_le _, rfl, rfl, ⟨rfl, .inl ⟨rfl, rfl⟩⟩, Below.refl _ _⟩
  case round =>
    obtain ⟨k, v, hk, rfl, rfl, hown, hW⟩ := hrel
    have hSz : w2.heap.size ≤ wr.heap.size := hW.size
    by_cases hlt : k < m
    · obtain ⟨u, hu⟩ := at_ S k (by rw [HSL.out]; exact hlt)
      have HF := Lib.hid (pf_at hu)
      have HK := Lib.hid (show fr day us l k q = u from by rw [HFR.out, List.getD_eq_getElem?_getD, hu]; rfl)
      have hub := HBD.out k (by rw [HM.out]; exact hlt)
      rw [List.getD_eq_getElem?_getD, hu] at hub
      obtain ⟨ub0, ub1⟩ := hub
      dsimp only [Option.getD_some] at ub0 ub1
      have hle := sel_len (pf S) k
      have N1 := Lib.hid (show (sel (pf S) k).length + 1 ≤ maxLen from by simp only [maxLen]; omega)
      have N2 := Lib.hid (show ((sel (pf S) k).length + 1) * 16 ≤ 140737488355328 from by omega)
      have HCI := Lib.hid (hc'.keep hW)
      have HLI := Lib.hid (hl'.keep hW)
      clear hu hle
      go_wp2_with (fail)
      go_must (refine (rfor_any _ _ _ ss us _ _ _ l day k _ HRT.out HM.out HCI.out hlt (by omega) HL.out HLI.out).mono ?_)
      rintro e w3 ⟨rfl, hb3⟩
      rw [HK.out]
      have hown3 := Gen.own_keep hown hb3
      have hW3 := Gen.over hb3 hW
      have hSz3 : w2.heap.size ≤ w3.heap.size := hW3.size
      clear hown hb3 hW HCI HLI
      by_cases hu0 : u = 0
      · have HS := Lib.hid (sel_no (f := pf S) (k := k) (by rw [HF.out, if_pos hu0]))
        have HO := Lib.hid hown3
        subst hu0
        clear HF hown3
        go_wp2
        go_roundw
        case rel => first | exact ⟨k + 1, _, by omega, by go_num, rfl, by rw [HS.out]; exact HO.out, hW3⟩ | exact ⟨k + 1, by omega, by go_num, by rw [HS.out]; exact HO.out⟩
        case measure => simp [intOf]; omega
      · have HS := Lib.hid (sel_yes (f := pf S) (k := k) (by rw [HF.out, if_neg hu0]))
        have b1 : (u != 0) = true := by rw [bne_iff_ne]; exact hu0
        clear HF
        go_wp2_with (first
            | (at_builtin
               go_must (refine App.wpList_append_any _ rfl (.tmp 44) (.tmp 48) _ rfl w2.heap.size 54 i0 _ 2 16 Try.underlying45 hi0 hz0 hz1 hz2 rfl (by omega) _ _ _ rfl (Gen.own_keep hown3 (Gen.b_alloc (Below.refl _ _))) _ _ 1 1 [.int .i64 k, .int .i64 u] rfl (Gen.reads_blk (by simp) rfl) (by simp [Value.oneCell']) N1.out N2.out (Nat.le_trans hSz3 (Gen.b_alloc (Below.refl _ _)).size) ?_)
               intro v2 w7 hown7 hg7 hat7
               have hB7 := Gen.g_below hown3 hg7 (Gen.b_alloc hW3) (Nat.le_refl _)
               clear hg7 hat7)
            | fail)
        go_roundw
        case rel => exact ⟨k + 1, _, by omega, by go_num, rfl, by rw [HS.out, List.length_append, List.flatMap_append]; simpa [pcs] using hown7, hB7⟩
        case measure => simp [intOf]; omega
    · obtain rfl : k = m := by omega
      obtain ⟨A2, c2, rfl, _⟩ := Gen.own_slice hown
      have HP := Lib.hid (prs_own hown)
      have hbw := Gen.over hW hb
      rw [show (sel (pf S) k) = L from by have := H.out; injection this]
      have HPL : Hid (Prs wr A2 L) := Lib.hid (by have := HP.out; rwa [show (sel (pf S) k) = L from by have := H.out; injection this] at this)
      clear hown
      go_wp2
      go_ret2
      obtain rfl : _ = E := by have := H.out; injection this
      exact ⟨A2, c2, rfl, hbw, HPL.out⟩
set_option maxRecDepth 100000 in
set_option maxHeartbeats 8000000 in
theorem rthro_any (A : Option Addr) (n cap : Nat) (ss : List (Int × Int)) (A' : Option Addr) (m cap' : Nat) (L : List (Int × Int)) (i x : Int) (w : World) (hn : ss.length = n) (hc : Prs w A ss) (hbig : n ≤ 1000000) (hm : L.length = m) (hc' : Prs w A' L) (hL : Sml L) (hx : thO ss L i = x) :
    Calls Try.prog 35 #[.slice A n cap, .slice A' m cap', .int .i64 i] w fun e w' => e = .returned (.int .i64 x) ∧ Below w.heap.size w w' := by
  have HN := Lib.hid hn
  have HM := Lib.hid hm
  have HSM := Lib.hid hL
  have hbm : m ≤ 1000 := by have := hL.1; omega
  clear hn hm hL
  cases hv : rg ss
  · have HF := Lib.hid (show x = 0 from by rw [← hx]; exact if_neg (fun h => by rw [hv] at h; cases h.2.2))
    have HV := Lib.hid hv
    clear hx hv
    go_enter Try.func35, Try.ntmps35
    go_wp2_with (fail)
    go_must (refine (rright_is _ HN.out hc hbig HV.out).mono ?_)
    rintro e w1 ⟨rfl, hb⟩
    go_wp2
    go_ret
    exact ⟨ret_int HF.out.symm, hb⟩
  have HV := Lib.hid hv
  by_cases hi : 0 ≤ i ∧ i < n
  case neg =>
    have HF := Lib.hid (show x = 0 from by rw [← hx]; exact if_neg (by rw [HN.out]; omega))
    rcases (show i < 0 ∨ (0 ≤ i ∧ (n : Int) ≤ i) from by omega) with h1 | ⟨h1, h2⟩
    all_goals
      clear hi hx hv
      go_enter Try.func35, Try.ntmps35
      go_wp2_with (fail)
      go_must (refine (rright_is _ HN.out hc hbig HV.out).mono ?_)
      rintro e w1 ⟨rfl, hb⟩
      go_wp2
      go_ret
      exact ⟨ret_int HF.out.symm, hb⟩
  obtain ⟨i0, i1⟩ := hi
  obtain ⟨c, rfl⟩ := Int.eq_ofNat_of_zero_le i0
  obtain ⟨bs, hbs⟩ : ∃ bs, acc (bl0 c) ss = bs := ⟨_, rfl⟩
  have HBS := Lib.hid hbs
  have HBL := Lib.hid (show bs.length = n from by rw [← hbs, acc_length, HN.out])
  have HF := Lib.hid (show thr bs L = x from by rw [← hx, ← hbs]; exact (if_pos ⟨i0, by rw [HN.out]; exact i1, hv⟩).symm)
  have HP := Lib.hid (pre_of hv)
  have hcn : c < n := by omega
  have hd1 : decide ((c : Int) < 0) = false := decide_eq_false (by omega)
  have hd2 : decide (n ≤ c) = false := decide_eq_false (by omega)
  have hd3 : ¬ n ≤ c := by omega
  clear hv hx hbs
  go_enter Try.func35, Try.ntmps35
  go_wp2_with (fail)
  go_must (refine (rright_is _ HN.out hc hbig HV.out).mono ?_)
  rintro e w1 ⟨rfl, hb⟩
  replace hc := hc.keep hb
  replace hc' := hc'.keep hb
  go_wp2_with (fail)
  go_loopw [7, 8] (fun sv iv wr => ∃ j : Nat, j ≤ m ∧ iv = .int .i64 j ∧ sv = .int .i64 (thr bs (L.take j)) ∧ Below w1.heap.size w1 wr) (fun _ iv _ => m - (intOf iv).toNat)
  case atStart => exact ⟨0, Nat.zero_le _, rfl, rfl, Below.refl _ _⟩
  case round =>
    obtain ⟨j, hj, rfl, rfl, hW⟩ := hrel
    have hBW := Gen.over hW hb
    have t01 := thr_in HSM.out bs j (by rw [HM.out]; exact hj)
    obtain ⟨T, hT⟩ : ∃ T, thr bs (L.take j) = T := ⟨_, rfl⟩
    rw [hT] at t01 ⊢
    obtain ⟨t0, t1⟩ := t01
    have HT := Lib.hid hT
    have jb : (j : Int) ≤ 1000 := by omega
    clear hT
    by_cases hlt : j < m
    · obtain ⟨b, off, rfl, hcell⟩ := (hc'.keep hW) (by rw [HM.out]; omega)
      obtain ⟨p, hp⟩ := at_ L j (by rw [HM.out]; exact hlt)
      obtain ⟨a0, a1⟩ := hcell j p hp
      have pb := HSM.out.2 p (mem_of_at hp)
      obtain ⟨pb0, pb1⟩ := pb
      have HSN := Lib.hid (show thr bs (L.take (j + 1)) = T + if lfB bs p.1 = true then p.2 else 0 from by rw [take_snoc hp, thr_snoc, HT.out])
      have hcr := hc.keep hW
      have j0 : (0 : Int) ≤ (j : Int) := by omega
      clear hcell hp
      obtain ⟨ps, pa⟩ := p
      dsimp only at a0 a1 pb0 pb1 HSN
      by_cases hps : 0 ≤ ps ∧ ps < n
      · obtain ⟨p0, p1⟩ := hps
        obtain ⟨q, rfl⟩ := Int.eq_ofNat_of_zero_le p0
        obtain ⟨y, hy⟩ := at_ bs q (by rw [HBL.out]; omega)
        have HYA := Lib.hid (show (acc (bl0 c) ss)[q]? = some y from by rw [HBS.out]; exact hy)
        have HY := Lib.hid (show lfB bs (q : Int) = y from by
          unfold lfB
          rw [decide_eq_true (by rw [HBL.out]; omega), Int.toNat_natCast, List.getD_eq_getElem?_getD, hy]; rfl)
        clear hy
        go_wp2_with (fail)
        go_must (refine (below_any _ n _ ss q c y _ HN.out hcr hbig HP.out HYA.out hcn).mono ?_)
        rintro e w2 ⟨rfl, hb2⟩
        have hW2 := Gen.over hb2 hW
        have a1 := Gen.keep hb2 a1
        clear hb2 hW a0 hcr
        cases y
        · have HSE := Lib.hid (show thr bs (L.take (j + 1)) = T from by rw [HSN.out, HY.out]; simp)
          go_wp2
          go_roundw
          case rel => first | exact ⟨j + 1, by omega, by go_num, by rw [HSE.out], hW2⟩ | exact ⟨j + 1, by omega, by go_num, by rw [HSE.out]⟩
          case measure => simp [intOf]; omega
        · have HSE := Lib.hid (show thr bs (L.take (j + 1)) = T + pa from by rw [HSN.out, HY.out]; simp)
          go_wp2
          go_roundw
          case rel => first | exact ⟨j + 1, by omega, by go_num, by rw [HSE.out], hW2⟩ | exact ⟨j + 1, by omega, by go_num, by rw [HSE.out]⟩
          case measure => simp [intOf]; omega
      · have HSE := Lib.hid (show thr bs (L.take (j + 1)) = T from by
          rw [HSN.out, show lfB bs ps = false from by unfold lfB; rw [decide_eq_false (by rw [HBL.out]; exact hps)]; rfl]; simp)
        rcases (show ps < 0 ∨ (0 ≤ ps ∧ (n : Int) ≤ ps) from by omega) with h1 | ⟨h1, h2⟩
        all_goals
          clear hps
          go_wp2
          go_roundw
          case rel => first | exact ⟨j + 1, by omega, by go_num, by rw [HSE.out], hW⟩ | exact ⟨j + 1, by omega, by go_num, by rw [HSE.out]⟩
          case measure => simp [intOf]; omega
    · obtain rfl : j = m := by omega
      have HE := Lib.hid (show T = x from by rw [← HT.out, ← HF.out, List.take_of_length_le (by rw [HM.out]; exact Nat.le_refl _)])
      go_wp2
      go_ret
      exact ⟨ret_int HE.out, hBW⟩
/-- a place whose amount is not too great -/
def smB (p : Int × Int) : Bool := decide (-1000000000000000 ≤ p.2 ∧ p.2 ≤ 1000000000000000)
def smlO (L : List (Int × Int)) : Bool := decide (L.length ≤ 12) && L.all smB
theorem smlO_in {L : List (Int × Int)} (h : smlO L = true) : Sml L := by
  unfold smlO at h
  rw [Bool.and_eq_true, List.all_eq_true] at h
  have h1 := of_decide_eq_true h.1
  exact ⟨by omega, fun p hp => of_decide_eq_true (h.2 p hp)⟩
theorem smlO_no {L : List (Int × Int)} {k : Nat} {p : Int × Int} (hp : L[k]? = some p) (h : ¬ (-1000000000000000 ≤ p.2 ∧ p.2 ≤ 1000000000000000)) : smlO L = false := by
  unfold smlO
  rw [show L.all smB = false from by rw [List.all_eq_false]; exact ⟨p, mem_of_at hp, by unfold smB; rw [decide_eq_false h]; simp⟩, Bool.and_false]
theorem smlO_len {L : List (Int × Int)} (h : ¬ L.length ≤ 12) : smlO L = false := by
  unfold smlO
  rw [decide_eq_false h, Bool.false_and]
theorem smlO_yes {L : List (Int × Int)} (h : L.length ≤ 12) (h2 : ∀ p ∈ L, smB p = true) : smlO L = true := by
  unfold smlO
  rw [decide_eq_true h, Bool.true_and, List.all_eq_true]
  exact h2
set_option maxRecDepth 100000 in
set_option maxHeartbeats 4000000 in
theorem rsmall_any (A : Option Addr) (m cap : Nat) (L : List (Int × Int)) (w : World) (hm : L.length = m) (hc : Prs w A L) (hbig : m ≤ 9223372036854775807) :
    Calls Try.prog 28 #[.slice A m cap] w fun e w' => e = .returned (.bool (smlO L)) ∧ w = w' := by
  have HM := Lib.hid hm
  clear hm
  go_enter Try.func28, Try.ntmps28
  go_wp2_with (fail)
  go_loop [3] (fun iv => ∃ k : Nat, k ≤ m ∧ k ≤ 13 ∧ iv = .int .i64 k ∧ Hid (∀ p ∈ L.take k, smB p = true)) (fun iv => 13 - (intOf iv).toNat)
  case atStart => exact ⟨0, Nat.zero_le _, Nat.zero_le _, rfl, Lib.hid (by simp)⟩
  case round =>
    obtain ⟨k, hk, hk13, rfl, HA⟩ := hrel
    by_cases hlt : k < m
    · have hltI : (k : Int) < (m : Int) := by omega
      by_cases h12 : k ≤ 12
      · have h12I : (k : Int) ≤ 12 := by omega
        obtain ⟨b, off, rfl, hcell⟩ := hc (by rw [HM.out]; omega)
        obtain ⟨p, hp⟩ := at_ L k (by rw [HM.out]; exact hlt)
        obtain ⟨a0, a1⟩ := hcell k p hp
        have HX := Lib.hid hp
        clear hcell hp
        obtain ⟨ps, pa⟩ := p
        dsimp only at a0 a1
        rcases (show 1000000000000000 < pa ∨ (pa ≤ 1000000000000000 ∧ pa < -1000000000000000) ∨ (pa ≤ 1000000000000000 ∧ -1000000000000000 ≤ pa) from by omega) with h1 | ⟨h1, h2⟩ | ⟨h1, h2⟩
        · have HF := Lib.hid (smlO_no HX.out (by dsimp only; omega))
          go_wp2
          go_ret
          exact ⟨ret_bool HF.out.symm, rfl⟩
        · have HF := Lib.hid (smlO_no HX.out (by dsimp only; omega))
          go_wp2
          go_ret
          exact ⟨ret_bool HF.out.symm, rfl⟩
        · have HF : Hid (∀ p ∈ L.take (k + 1), smB p = true) := Lib.hid (fun y hy => by
            rw [take_snoc HX.out, List.mem_append] at hy
            rcases hy with hy | hy
            · exact HA.out y hy
            · rw [List.mem_singleton.1 hy]; exact decide_eq_true ⟨h2, h1⟩)
          go_wp2
          go_round
          case rel => exact ⟨k + 1, by omega, by omega, by go_num, HF⟩
          case measure => simp [intOf]; omega
      · have HF := Lib.hid (smlO_len (L := L) (by rw [HM.out]; omega))
        have h13 : 12 < (k : Int) := by omega
        have h14 : 12 < (m : Int) := by omega
        go_wp2
        go_ret
        first | exact ⟨ret_bool HF.out.symm, rfl⟩ | exact ⟨ret_bool (by rw [HF.out]; exact decide_eq_false (by omega)), rfl⟩
    · obtain rfl : k = m := by omega
      by_cases h12 : k ≤ 12
      · have HF := Lib.hid (smlO_yes (L := L) (by rw [HM.out]; exact h12) (fun p hp => HA.out p (by rw [List.take_of_length_le (by rw [HM.out]; exact Nat.le_refl _)]; exact hp)))
        have h12I : (k : Int) ≤ 12 := by omega
        go_wp2
        go_ret
        first | exact ⟨ret_bool HF.out.symm, rfl⟩ | exact ⟨ret_bool (by rw [HF.out]; exact decide_eq_true (by omega)), rfl⟩
      · have HF := Lib.hid (smlO_len (L := L) (by rw [HM.out]; omega))
        have h13 : 12 < (k : Int) := by omega
        go_wp2
        go_ret
        first | exact ⟨ret_bool HF.out.symm, rfl⟩ | exact ⟨ret_bool (by rw [HF.out]; exact decide_eq_false (by omega)), rfl⟩
end Go.Proofs.Ytpekedhcnijgcaa.Book
