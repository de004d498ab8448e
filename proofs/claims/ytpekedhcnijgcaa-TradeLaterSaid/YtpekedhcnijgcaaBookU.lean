/- The reference of book: the contracts of Leaf, Units, Below, Held, Level, Root. -/
import Derived.Test.YtpekedhcnijgcaaBookR
namespace Go.Proofs.Ytpekedhcnijgcaa.Book
open Go.ChangeShapes Go.WideShapes Go.ChangeAt Go.RowKit Go.Proofs.Ytpekedhcnijgcaa.Cell
set_option linter.unusedVariables false
set_option linter.unusedSimpArgs false

theorem bl_len (t : Nat) (ss : List (Int × Int)) : (acc (bl0 t) ss).length = ss.length := acc_length _ _
theorem bl_lo {t : Nat} {ss : List (Int × Int)} {c : Nat} (h : c < t) (hc : c < ss.length) : (acc (bl0 t) ss)[c]? = some false := by
  rw [acc_at (bl0 t) (List.getElem?_eq_getElem hc), bl0, if_neg (by rw [acc_length, List.length_take]; omega), decide_eq_false (by rw [acc_length, List.length_take]; omega)]
  rfl
theorem bl_at {t : Nat} {ss : List (Int × Int)} (hc : t < ss.length) : (acc (bl0 t) ss)[t]? = some true := by
  rw [acc_at (bl0 t) (List.getElem?_eq_getElem hc), bl0, if_pos (by rw [acc_length, List.length_take]; omega)]
theorem bl_top {t c : Nat} {ss : List (Int × Int)} {s : Int × Int} (hs : ss[c]? = some s) (hp : s.1 < 0) : (acc (bl0 t) ss)[c]? = some (decide (c = t)) := by
  have hc := lt_of_at hs
  have hl : (acc (bl0 t) (ss.take c)).length = c := by rw [acc_length, List.length_take]; omega
  rw [acc_at (bl0 t) hs, bl0, hl, decide_eq_false (show ¬ (0 : Int) ≤ s.1 by omega)]
  by_cases e : c = t
  · rw [if_pos e, decide_eq_true e]
  · rw [if_neg e, decide_eq_false e]; simp
theorem bl_up {t c : Nat} {ss : List (Int × Int)} (h : pre ss) {s : Int × Int} (hs : ss[c]? = some s) (hne : c ≠ t) (hp : 0 ≤ s.1) : s.1.toNat < c ∧ (acc (bl0 t) ss)[s.1.toNat]? = (acc (bl0 t) ss)[c]? := by
  have ho := okS_in (h c s hs)
  have hc := lt_of_at hs
  have hpk : s.1.toNat < c := by omega
  refine ⟨hpk, ?_⟩
  have hl : (acc (bl0 t) (ss.take c)).length = c := by rw [acc_length, List.length_take]; omega
  by_cases hlt : c < t
  · rw [bl_lo hlt hc, bl_lo (by omega) (by omega)]
  · rw [acc_at (bl0 t) hs, bl0_gt (by rw [hl]; omega), decide_eq_true hp, Bool.true_and, List.getD_eq_getElem?_getD, acc_old (bl0 t) (Nat.le_of_lt hc) hpk]
    rw [List.getElem?_eq_getElem (by rw [acc_length]; omega)]
    rfl

set_option maxRecDepth 100000 in
set_option maxHeartbeats 4000000 in
theorem below_any (A : Option Addr) (n cap : Nat) (ss : List (Int × Int)) (c t : Nat) (y : Bool) (w : World) (hn : ss.length = n) (hc : Prs w A ss) (hbig : n ≤ 1000000) (hpre : pre ss) (hy : (acc (bl0 t) ss)[c]? = some y) (ht : t < n) :
    Calls Try.prog 24 #[.slice A n cap, .int .i64 c, .int .i64 t] w fun e w' => e = .returned (.bool y) ∧ Below w.heap.size w w' := by
  have hcn := lt_of_at hy
  rw [acc_length] at hcn
  rw [hn] at hcn
  have HN := Lib.hid hn
  have HP := Lib.hid hpre
  have HY := Lib.hid hy
  clear hn hpre hy
  go_enter Try.func24, Try.ntmps24
  go_wp2_with (fail)
  go_loop [1] (fun cv => ∃ k : Nat, k < n ∧ cv = .int .i64 k ∧ (acc (bl0 t) ss)[k]? = some y) (fun cv => (intOf cv).toNat)
  case atStart => exact ⟨c, by omega, rfl, HY.out⟩
  case round =>
    obtain ⟨k, hk, rfl, hx⟩ := hrel
    obtain ⟨b, off, rfl, hcell⟩ := hc (by rw [HN.out]; omega)
    obtain ⟨s, hs⟩ := at_ ss k (by rw [HN.out]; exact hk)
    obtain ⟨c0, c1⟩ := hcell k s hs
    by_cases hkt : k = t
    · subst hkt
      have hy1 : y = true := by
        rw [bl_at (by rw [HN.out]; exact hk)] at hx
        exact (Option.some.inj hx).symm
      subst hy1
      clear hcell hs hx hc c0 c1
      go_wp2
      go_ret
      exact ⟨rfl, Below.refl _ _⟩
    · have e1 : ((k : Int) != (t : Int)) = true := by rw [bne_iff_ne]; omega
      have e2 : ((k : Int) == (t : Int)) = false := by rw [beq_eq_false_iff_ne]; omega
      by_cases hp : 0 ≤ s.1
      · obtain ⟨hpk, hz⟩ := bl_up (t := t) HP.out hs hkt hp
        rw [hx] at hz
        have HZ := Lib.hid hz
        clear hcell hs hx hz hc hkt
        obtain ⟨p, o⟩ := s
        dsimp only at c0 c1 hp hpk HZ
        obtain ⟨q, rfl⟩ := Int.eq_ofNat_of_zero_le hp
        rw [Int.toNat_natCast] at hpk HZ
        go_wp2
        go_round
        case rel => exact ⟨q, by omega, rfl, HZ.out⟩
        case measure => simp [intOf]; omega
      · have hy1 : y = false := by
          rw [bl_top hs (by omega), decide_eq_false hkt] at hx
          exact (Option.some.inj hx).symm
        subst hy1
        have hp' : s.1 < 0 := by omega
        clear hcell hs hx hp hkt
        obtain ⟨p, o⟩ := s
        dsimp only at c0 c1 hp'
        go_wp2
        go_ret
        exact ⟨rfl, Below.refl _ _⟩

set_option maxRecDepth 100000 in
set_option maxHeartbeats 4000000 in
theorem rleaf_any (A : Option Addr) (n cap : Nat) (ss : List (Int × Int)) (i : Int) (w : World) (hn : ss.length = n) (hc : Prs w A ss) (hbig : n ≤ 1000000) :
    Calls Try.prog 59 #[.slice A n cap, .int .i64 i] w fun e w' => e = .returned (.bool (lfO ss i)) ∧ Below w.heap.size w w' := by
  have HN := Lib.hid hn
  clear hn
  cases hi : isS ss i
  · have HF := Lib.hid (show lfO ss i = false from by
      unfold lfO lf
      unfold isS at hi
      cases hr : rg ss
      · rfl
      · rw [hr, Bool.and_true] at hi
        rw [hi]; rfl)
    go_enter Try.func59, Try.ntmps59
    go_wp2_with (fail)
    go_must (refine (is_is _ HN.out hc hbig hi).mono ?_)
    rintro e w1 ⟨rfl, hb⟩
    go_wp2
    go_ret
    exact ⟨ret_bool HF.out.symm, hb⟩
  · obtain ⟨⟨h0, h1⟩, h2, h3⟩ := isS_in hi
    have HG := Lib.hid (show lfO ss i = !anyP ss i from by
      unfold lfO lf
      unfold isS at hi
      rw [Bool.and_eq_true] at hi
      rw [hi.1, hi.2]; rfl)
    have HI := Lib.hid hi
    clear hi h3
    go_enter Try.func59, Try.ntmps59
    go_wp2_with (fail)
    go_must (refine (is_is _ HN.out hc hbig HI.out).mono ?_)
    rintro e w1 ⟨rfl, hb⟩
    replace hc := hc.keep hb
    go_wp2_with (fail)
    go_loop [5] (fun iv => ∃ k : Nat, k ≤ n ∧ iv = .int .i64 k ∧ anyP (ss.take k) i = false) (fun iv => n - (intOf iv).toNat)
    case atStart => exact ⟨0, Nat.zero_le _, rfl, rfl⟩
    case round =>
      obtain ⟨k, hk, rfl, ha⟩ := hrel
      have HA := Lib.hid ha
      clear ha
      by_cases hlt : k < n
      · obtain ⟨b, off, rfl, hcell⟩ := hc (by rw [HN.out]; omega)
        obtain ⟨s, hs⟩ := at_ ss k (by rw [HN.out]; exact hlt)
        obtain ⟨c0, c1⟩ := hcell k s hs
        cases he : (s.1 == i)
        · have HS := Lib.hid (show anyP (ss.take (k + 1)) i = false from by rw [take_snoc hs, any_snoc, HA.out, he]; rfl)
          clear hcell hs hc
          obtain ⟨p, o⟩ := s
          dsimp only at c0 c1 he
          go_wp2
          go_round
          case rel => exact ⟨k + 1, by omega, by go_num, HS.out⟩
          case measure => simp [intOf]; omega
        · have HF := Lib.hid (show lfO ss i = false from by rw [HG.out, any_of hs he]; rfl)
          clear hcell hs hc
          obtain ⟨p, o⟩ := s
          dsimp only at c0 c1 he
          go_wp2
          go_ret
          exact ⟨ret_bool HF.out.symm, hb⟩
      · obtain rfl : k = n := by omega
        have HF := Lib.hid (show lfO ss i = true from by
          have := HA.out
          rw [List.take_of_length_le (by rw [HN.out]; exact Nat.le_refl _)] at this
          rw [HG.out, this]; rfl)
        go_wp2
        go_ret
        exact ⟨ret_bool HF.out.symm, hb⟩
theorem rleaf_is {A : Option Addr} {n cap : Nat} {ss : List (Int × Int)} {i : Int} {b : Bool} (w : World) (hn : ss.length = n) (hc : Prs w A ss) (hbig : n ≤ 1000000) (h : lfO ss i = b) :
    Calls Try.prog 59 #[.slice A n cap, .int .i64 i] w fun e w' => e = .returned (.bool b) ∧ Below w.heap.size w w' := by
  have hh := rleaf_any A n cap ss i w hn hc hbig
  rw [h] at hh
  exact hh

/-- units that are right at a place, in the reference's words -/
def okR (ss : List (Int × Int)) (us : List Int) (k : Nat) : Bool := match us[k]? with
  | some u => decide (0 ≤ u ∧ u ≤ 1000000000) && (decide (u ≤ 0) || lf ss k)
  | none => true
theorem okR_at {ss : List (Int × Int)} {us : List Int} {k : Nat} {u : Int} (hu : us[k]? = some u) : okR ss us k = (decide (0 ≤ u ∧ u ≤ 1000000000) && (decide (u ≤ 0) || lf ss k)) := by
  unfold okR
  rw [hu]
theorem lf_no {ss : List (Int × Int)} {k : Nat} (hk : k < ss.length) : lf ss k = false ↔ ∃ (j : Nat) (s : Int × Int), ss[j]? = some s ∧ s.1 = k := by
  unfold lf
  rw [decide_eq_true (by omega), Bool.true_and, Bool.not_eq_false', List.any_eq_true]
  constructor
  · rintro ⟨s, hs, he⟩
    obtain ⟨j, hj⟩ := List.getElem?_of_mem hs
    exact ⟨j, s, hj, by simpa using he⟩
  · rintro ⟨j, s, hj, he⟩
    exact ⟨s, mem_of_at hj, by simpa using he⟩
theorem okU_of_R {ss : List (Int × Int)} {us : List Int} (hp : pre ss) (hl : us.length = ss.length) (h : ∀ k, k < us.length → okR ss us k = true) : ∀ k, k < us.length → okU ss us k = true := fun k hk => by
  obtain ⟨u, hu⟩ := at_ us k hk
  obtain ⟨s, hs⟩ := at_ ss k (by omega)
  have h1 := h k hk
  rw [okR_at hu, Bool.and_eq_true] at h1
  rw [okU_at hu hs, Bool.and_eq_true]
  refine ⟨h1.1, ?_⟩
  by_cases hs0 : s.1 < 0
  · rw [decide_eq_true hs0]; rfl
  · have ho := okS_in (hp k s hs)
    obtain ⟨v, hv⟩ := at_ us s.1.toNat (by omega)
    have h2 := h s.1.toNat (by omega)
    rw [okR_at hv, Bool.and_eq_true, (lf_no (ss := ss) (k := s.1.toNat) (by omega)).2 ⟨k, s, hs, by omega⟩, Bool.or_false] at h2
    have a := of_decide_eq_true h2.1
    have b := of_decide_eq_true h2.2
    rw [List.getD_eq_getElem?_getD, hv]
    simp only [Option.getD_some]
    rw [decide_eq_true (show v = 0 by omega), Bool.or_true]
theorem okR_of_U {ss : List (Int × Int)} {us : List Int} (hl : us.length = ss.length) (h : ∀ k, k < us.length → okU ss us k = true) : ∀ k, k < us.length → okR ss us k = true := fun k hk => by
  obtain ⟨u, hu⟩ := at_ us k hk
  obtain ⟨s, hs⟩ := at_ ss k (by omega)
  have h1 := h k hk
  rw [okU_at hu hs, Bool.and_eq_true] at h1
  rw [okR_at hu, h1.1, Bool.true_and]
  cases hlf : lf ss k
  · obtain ⟨j, s', hj, he⟩ := (lf_no (by omega)).1 hlf
    obtain ⟨u', hu'⟩ := at_ us j (by rw [hl]; exact lt_of_at hj)
    have h2 := h j (lt_of_at hu')
    rw [okU_at hu' hj, Bool.and_eq_true, decide_eq_false (show ¬ s'.1 < 0 by omega), Bool.false_or, List.getD_eq_getElem?_getD, he, Int.toNat_natCast, hu] at h2
    have := of_decide_eq_true h2.2
    simp only [Option.getD_some] at this
    rw [decide_eq_true (show u ≤ 0 by omega)]; rfl
  · simp
theorem vd_R {ss : List (Int × Int)} {us : List Int} (h : rg ss = true) (h1 : us.length = ss.length) (h2 : ∀ k, k < us.length → okR ss us k = true) : vd ss us = decide (total us ≤ 1000000000) :=
  vd_yes h h1 (okU_of_R (pre_of h) h1 h2)
theorem vd_noR {ss : List (Int × Int)} {us : List Int} {k : Nat} (hk : k < us.length) (h : okR ss us k = false) : vd ss us = false := by
  cases hv : vd ss us
  · rfl
  · have hi := vd_in hv
    rw [okR_of_U hi.2.1 hi.2.2.1 k hk] at h
    cases h

set_option maxRecDepth 100000 in
set_option maxHeartbeats 8000000 in
theorem units_any (A : Option Addr) (n cap : Nat) (ss : List (Int × Int)) (A' : Option Addr) (m cap' : Nat) (us : List Int) (w : World) (hn : ss.length = n) (hc : Prs w A ss) (hbig : n ≤ 1000000) (hm : us.length = m) (hc' : Ints w A' us) (hbig' : m ≤ 1000000) :
    Calls Try.prog 26 #[.slice A n cap, .slice A' m cap'] w fun e w' => e = .returned (.bool (vd ss us)) ∧ Below w.heap.size w w' := by
  have HN := Lib.hid hn
  have HM := Lib.hid hm
  clear hn hm
  cases hr : rg ss
  · have HF := Lib.hid (vd_no (us := us) (.inl hr))
    go_enter Try.func26, Try.ntmps26
    go_wp2_with (fail)
    go_must (refine (rright_is _ HN.out hc hbig hr).mono ?_)
    rintro e w1 ⟨rfl, hb⟩
    go_wp2
    go_ret
    exact ⟨ret_bool HF.out.symm, hb⟩
  · have HR := Lib.hid hr
    clear hr
    by_cases hmn : m = n
    case neg =>
      have HF := Lib.hid (vd_no (ss := ss) (us := us) (.inr (.inl (by rw [HM.out, HN.out]; exact hmn))))
      have hb' : ((m : Int) != (n : Int)) = true := by rw [bne_iff_ne]; omega
      clear hmn
      go_enter Try.func26, Try.ntmps26
      go_wp2_with (fail)
      go_must (refine (rright_is _ HN.out hc hbig HR.out).mono ?_)
      rintro e w1 ⟨rfl, hb⟩
      go_wp2
      go_ret
      exact ⟨ret_bool HF.out.symm, hb⟩
    subst hmn
    go_enter Try.func26, Try.ntmps26
    go_wp2_with (fail)
    go_must (refine (rright_is _ HN.out hc hbig HR.out).mono ?_)
    rintro e w1 ⟨rfl, hb⟩
    replace hc := hc.keep hb
    replace hc' := hc'.keep hb
    go_wp2_with (fail)
    go_loopw [5, 6] (fun sv iv wr => ∃ k : Nat, k ≤ m ∧ iv = .int .i64 k ∧ sv = .int .i64 (total (us.take k)) ∧ (∀ j, j < k → okR ss us j = true) ∧ Below w1.heap.size w1 wr) (fun _ iv _ => m - (intOf iv).toNat)
    case atStart => exact ⟨0, Nat.zero_le _, rfl, by simp [total], fun j hj => absurd hj (by omega), Below.refl _ _⟩
    case round =>
      obtain ⟨k, hk, rfl, rfl, ha, hB⟩ := hrel
      have hin := total_in (us := us.take k) fun u hu => by
        obtain ⟨j, hj⟩ := List.getElem?_of_mem hu
        have hjk : j < k := by have := lt_of_at hj; rw [List.length_take] at this; omega
        rw [List.getElem?_take_of_lt hjk] at hj
        have := ha j hjk
        rw [okR_at hj, Bool.and_eq_true] at this
        exact of_decide_eq_true this.1
      have hl : ((us.take k).length : Int) ≤ 1000000 := by
        have := List.length_take_le k us
        omega
      have t0 := hin.1
      have t1 : total (us.take k) ≤ 1000000000000000 := by omega
      have HA := Lib.hid ha
      have hBB := Gen.over hB hb
      clear ha hin hl
      by_cases hlt : k < m
      · have hcr := hc.keep hB
        obtain ⟨b', off', rfl, hcell'⟩ := (hc'.keep hB) (by rw [HM.out]; omega)
        obtain ⟨u, hu⟩ := at_ us k (by rw [HM.out]; exact hlt)
        have d0 := hcell' k u hu
        have HU := Lib.hid hu
        have HO := Lib.hid (okR_at (ss := ss) hu)
        have k0 : (0 : Int) ≤ (k : Int) := by omega
        have HNO := Lib.hid (show okR ss us k = false → vd ss us = false from fun h => vd_noR (by rw [HM.out]; exact hlt) h)
        clear hcell' hu hc hc'
        by_cases hg : 0 ≤ u ∧ u ≤ 1000000000
        · obtain ⟨g0, g1⟩ := hg
          by_cases hu0 : u ≤ 0
          · have HO2 := Lib.hid (show okR ss us k = true from by rw [HO.out, decide_eq_true ⟨g0, g1⟩, decide_eq_true hu0]; rfl)
            go_wp2
            go_roundw
            case rel => exact ⟨k + 1, by omega, by go_num, by rw [take_snoc HU.out, total_snoc], fun j hj => by
              by_cases hjk : j = k
              · subst hjk; exact HO2.out
              · exact HA.out j (by omega), hB⟩
            case measure => simp [intOf]; omega
          · have hu1 : 0 < u := by omega
            cases hlf : lf ss k
            · have HF := Lib.hid (HNO.out (by rw [HO.out, hlf, decide_eq_false hu0]; simp))
              have HL := Lib.hid (show lfO ss k = false from by unfold lfO; rw [hlf]; simp)
              clear hlf hu0
              go_wp2_with (fail)
              go_must (refine (rleaf_is _ HN.out hcr hbig HL.out).mono ?_)
              rintro e w2 ⟨rfl, hb2⟩
              have hB2 := Gen.over hb2 hBB
              go_wp2
              go_ret
              exact ⟨ret_bool HF.out.symm, hB2⟩
            · have HO2 := Lib.hid (show okR ss us k = true from by rw [HO.out, decide_eq_true ⟨g0, g1⟩, hlf]; simp)
              have HL := Lib.hid (show lfO ss k = true from by unfold lfO; rw [hlf, HR.out]; rfl)
              clear hlf hu0
              go_wp2_with (fail)
              go_must (refine (rleaf_is _ HN.out hcr hbig HL.out).mono ?_)
              rintro e w2 ⟨rfl, hb2⟩
              have hB2 := Gen.over hb2 hB
              have d1 := Gen.keep hb2 d0
              go_wp2
              go_roundw
              case rel => exact ⟨k + 1, by omega, by go_num, by rw [take_snoc HU.out, total_snoc], fun j hj => by
                by_cases hjk : j = k
                · subst hjk; exact HO2.out
                · exact HA.out j (by omega), hB2⟩
              case measure => simp [intOf]; omega
        · have HF := Lib.hid (HNO.out (by rw [HO.out, decide_eq_false hg]; rfl))
          rcases (show u < 0 ∨ (0 ≤ u ∧ 1000000000 < u) from by omega) with g0 | ⟨g0, g1⟩
          all_goals
            clear hg
            go_wp2
            go_ret
            exact ⟨ret_bool HF.out.symm, hBB⟩
      · obtain rfl : k = m := by omega
        have ht : us.take k = us := by rw [← HM.out, List.take_length]
        have HF := Lib.hid (show vd ss us = decide (total (us.take k) ≤ 1000000000) from by
          rw [ht]
          exact vd_R HR.out (by rw [HM.out, HN.out]) fun j hj => HA.out j (by rw [HM.out] at hj; exact hj))
        clear ht
        go_wp2
        go_ret
        exact ⟨ret_bool HF.out.symm, hBB⟩
theorem units_is {A : Option Addr} {n cap : Nat} {ss : List (Int × Int)} {A' : Option Addr} {m cap' : Nat} {us : List Int} {b : Bool} (w : World) (hn : ss.length = n) (hc : Prs w A ss) (hbig : n ≤ 1000000) (hm : us.length = m) (hc' : Ints w A' us) (hbig' : m ≤ 1000000) (h : vd ss us = b) :
    Calls Try.prog 26 #[.slice A n cap, .slice A' m cap'] w fun e w' => e = .returned (.bool b) ∧ Below w.heap.size w w' := by
  have hh := units_any A n cap ss A' m cap' us w hn hc hbig hm hc' hbig'
  rw [h] at hh
  exact hh
end Go.Proofs.Ytpekedhcnijgcaa.Book
