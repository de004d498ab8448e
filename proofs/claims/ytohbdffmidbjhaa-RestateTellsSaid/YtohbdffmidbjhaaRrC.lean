/- Restatements: the reference's Back. -/
import Derived.Test.YtohbdffmidbjhaaRrB
namespace Go.Proofs.Ytohbdffmidbjhaa.Re
open Go.ChangeShapes Go.WideShapes Go.ChangeAt Go.RowKit Go.Maps Go.Proofs.Ytohbdffmidbjhaa.Cell Go.Proofs.Ytohbdffmidbjhaa.Rk
set_option linter.unusedVariables false
set_option linter.unusedSimpArgs false
theorem rL_le {l : List Py} {due : List Int} (good : List Bool) (h : pysOk l due = true) : ∀ k, (∀ p ∈ (rL l due good k).1, 0 ≤ p.2 ∧ p.2 ≤ k * 1000000000000000) ∧ ∀ p ∈ (rL l due good k).2, 0 ≤ p.2 ∧ p.2 ≤ k * 1000000000000000
  | 0 => ⟨by simp [rL], by simp [rL]⟩
  | k + 1 => by
    have ih := rL_le good h k
    have up : ∀ {q : List (Int × Int)}, (∀ p ∈ q, 0 ≤ p.2 ∧ p.2 ≤ (k : Int) * 1000000000000000) → ∀ p ∈ q, 0 ≤ p.2 ∧ p.2 ≤ ((k + 1 : Nat) : Int) * 1000000000000000 := fun hq p hp => by
      have := hq p hp
      omega
    rw [rL]
    cases hx : l[k]? with
    | none => exact ⟨up ih.1, up ih.2⟩
    | some x =>
      cases hd : due[k]? with
      | none => exact ⟨up ih.1, up ih.2⟩
      | some d =>
        cases good[k]? with
        | none => exact ⟨up ih.1, up ih.2⟩
        | some g =>
          have hok := pysOk_at h hx hd
          unfold pyOk at hok
          simp only [Bool.and_eq_true, decide_eq_true_eq] at hok
          obtain ⟨⟨o1, o2, o3⟩, o4, o5⟩ := hok
          dsimp only
          unfold stL
          split
          · exact ⟨addL_mem (P := fun _ z => 0 ≤ z ∧ z ≤ ((k + 1 : Nat) : Int) * 1000000000000000) (up ih.1) (fun p hp _ => by have := ih.1 p hp; omega) (by omega), up ih.2⟩
          · split
            · exact ⟨up ih.1, addL_mem (P := fun _ z => 0 ≤ z ∧ z ≤ ((k + 1 : Nat) : Int) * 1000000000000000) (up ih.2) (fun p hp _ => by have := ih.2 p hp; omega) (by omega)⟩
            · exact ⟨up ih.1, up ih.2⟩
theorem ovr_app (a b : List (Int × Int)) : ovr (a ++ b) = (ovr a || ovr b) := by unfold ovr; rw [List.any_append]
theorem back_no {w w' : World} {l : List Py} {due : List Int} {good : List Bool} (hB : Below w.heap.size w w') (h : bkOk l due good = false) : BackL w l due good (.returned (.tuple #[nilV, nilV, .int .i64 1])) w' := ⟨hB, .inl ⟨h, rfl⟩⟩
set_option maxRecDepth 100000 in
set_option maxHeartbeats 16000000 in
theorem rback_any {w : World} {A A1 A2 : Option Addr} {n n1 n2 c c1 c2 : Nat} {l : List Py} {due : List Int} {good : List Bool} (hn : l.length = n) (hn1 : due.length = n1) (hn2 : good.length = n2) (hc : Pys w A l) (hd : Ints w A1 due) (hg : Bos w A2 good) (hbig : n ≤ 20) (hbig1 : n1 ≤ 9223372036854775807) (hbig2 : n2 ≤ 9223372036854775807) :
    Calls Try.prog 11 #[.slice A n c, .slice A1 n1 c1, .slice A2 n2 c2] w (BackL w l due good) := by
  by_cases h1 : n1 = n
  case neg =>
    have hb : bkOk l due good = false := by unfold bkOk; rw [hn, hn1, decide_eq_false h1]; rfl
    have HBB := Lib.hid hb
    have i1 : ((n1 : Int) != (n : Int)) = true := by simp; omega
    clear hn hn1 hn2 hc hd hg hb h1
    go_enter Try.func11, Try.ntmps11
    go_wp2
    exact bodyPost_ret (v := .tuple #[nilV, nilV, .int .i64 1]) (by simp [results, Try.results11, go_sem]) rfl (back_no (by first | exact Below.refl _ _ | go_grown) HBB.out)
  subst h1
  by_cases h2 : n2 = n1
  case neg =>
    have hb : bkOk l due good = false := by unfold bkOk; rw [hn, hn2, decide_eq_false h2, Bool.and_false]; rfl
    have HBB := Lib.hid hb
    have i1 : ((n2 : Int) != (n1 : Int)) = true := by simp; omega
    have i2 : ((n1 : Int) != (n1 : Int)) = false := by simp
    clear hn hn1 hn2 hc hd hg hb h2
    go_enter Try.func11, Try.ntmps11
    go_wp2
    exact bodyPost_ret (v := .tuple #[nilV, nilV, .int .i64 1]) (by simp [results, Try.results11, go_sem]) rfl (back_no (by first | exact Below.refl _ _ | go_grown) HBB.out)
  subst h2
  obtain ⟨iS, hiS, hzS, hyS, hxS⟩ := info_parts' infoS
  have hbk : bkOk l due good = pysOk l due := by unfold bkOk; rw [hn, hn1, hn2]; simp
  obtain ⟨R, hR⟩ : ∃ R, pysOk l due = R := ⟨_, rfl⟩
  rw [hR] at hbk
  have HBK := Lib.hid hbk
  have HR := Lib.hid (show pysOk (l.drop 0) (due.drop 0) = R from hR)
  have HRI := Lib.hid hR
  have HN := Lib.hid hn
  have HN1 := Lib.hid hn1
  have HN2 := Lib.hid hn2
  have HC := Lib.hid hc
  have HD := Lib.hid hd
  have HG := Lib.hid hg
  have i1 : ((n2 : Int) != (n2 : Int)) = false := by simp
  clear hn hn1 hn2 hc hd hg hbk hR hbig1 hbig2
  go_enter Try.func11, Try.ntmps11
  go_wp2_with (fail)
  clear i1
  go_loopw [9] (fun iv wr => ∃ (k : Nat), k ≤ n2 ∧ iv = .int .i64 k ∧ Hid (pysOk (l.drop k) (due.drop k) = R) ∧ w = wr) (fun iv _ => n2 - (intOf iv).toNat)
  case atStart => exact ⟨0, Nat.zero_le _, rfl, HR, rfl⟩
  case round =>
    obtain ⟨k, hk, rfl, HA, hww⟩ := hrel
    subst hww
    have k0 : (0 : Int) ≤ (k : Int) := by omega
    by_cases hlt : k < n2
    · have hltI : (k : Int) < (n2 : Int) := by omega
      obtain ⟨⟨xi, xs, xd, xu, xp, xe⟩, hx⟩ := at_ l k (by rw [HN.out]; exact hlt)
      obtain ⟨d, hd⟩ := at_ due k (by rw [HN1.out]; exact hlt)
      obtain ⟨b, off, rfl, hcell⟩ := HC.out (by rw [HN.out]; omega)
      obtain ⟨b1, off1, rfl, hcell1⟩ := HD.out (by rw [HN1.out]; omega)
      obtain ⟨m0, m1, m2, m3, m4, m5⟩ := hcell k _ hx
      dsimp only at m0 m1 m2 m3 m4 m5
      have d0 := hcell1 k d hd
      have hA := HA.out
      rw [drop_at hx, drop_at hd, pysOk] at hA
      unfold pyOk at hA
      dsimp only at hA
      have hbad : ∀ (h : (decide (0 ≤ xs) && decide (mon xp) && decide (mon d)) = false), R = false := fun h => by rw [← hA, h]; rfl
      clear hcell hcell1 hx hd HA hlt m0 m2 m3 m5
      by_cases q1 : xs < 0
      · obtain rfl : R = false := hbad (by rw [decide_eq_false (show ¬ 0 ≤ xs by omega)]; rfl)
        clear hA hbad HR
        go_wp2
        exact bodyPost_ret (v := .tuple #[nilV, nilV, .int .i64 1]) (by simp [results, Try.results11, go_sem]) rfl (back_no (Below.refl _ _) HBK.out)
      by_cases q2 : xp < 0
      · obtain rfl : R = false := hbad (by rw [decide_eq_false (show ¬ mon xp from fun h => by have := h.1; omega), Bool.and_false, Bool.false_and])
        clear hA hbad HR
        go_wp2
        exact bodyPost_ret (v := .tuple #[nilV, nilV, .int .i64 1]) (by simp [results, Try.results11, go_sem]) rfl (back_no (Below.refl _ _) HBK.out)
      by_cases q3 : (1000000000000000 : Int) < xp
      · obtain rfl : R = false := hbad (by rw [decide_eq_false (show ¬ mon xp from fun h => by have := h.2; omega), Bool.and_false, Bool.false_and])
        clear hA hbad HR
        go_wp2
        exact bodyPost_ret (v := .tuple #[nilV, nilV, .int .i64 1]) (by simp [results, Try.results11, go_sem]) rfl (back_no (Below.refl _ _) HBK.out)
      by_cases q4 : d < 0
      · obtain rfl : R = false := hbad (by rw [decide_eq_false (show ¬ mon d from fun h => by have := h.1; omega), Bool.and_false])
        clear hA hbad HR
        go_wp2
        exact bodyPost_ret (v := .tuple #[nilV, nilV, .int .i64 1]) (by simp [results, Try.results11, go_sem]) rfl (back_no (Below.refl _ _) HBK.out)
      by_cases q5 : (1000000000000000 : Int) < d
      · obtain rfl : R = false := hbad (by rw [decide_eq_false (show ¬ mon d from fun h => by have := h.2; omega), Bool.and_false])
        clear hA hbad HR
        go_wp2
        exact bodyPost_ret (v := .tuple #[nilV, nilV, .int .i64 1]) (by simp [results, Try.results11, go_sem]) rfl (back_no (Below.refl _ _) HBK.out)
      have HA2 : Hid (pysOk (l.drop (k + 1)) (due.drop (k + 1)) = R) := Lib.hid (by rw [← hA, decide_eq_true (show 0 ≤ xs by omega), decide_eq_true (show mon xp from ⟨by omega, by omega⟩), decide_eq_true (show mon d from ⟨by omega, by omega⟩)]; rfl)
      clear hA hbad HR
      go_wp2
      go_roundw
      case rel => first | exact ⟨k + 1, by omega, by go_num, HA2, rfl⟩ | exact ⟨k + 1, by omega, by go_num, HA2, trivial⟩ | exact ⟨k + 1, by omega, by go_num, HA2⟩
      case measure => simp [intOf]; omega
    · obtain rfl : n2 = k := by omega
      have hA := HA.out
      rw [List.drop_of_length_le (by rw [HN.out]; exact Nat.le_refl _), pysOk] at hA
      case _ =>
        subst hA
        have HLE := Lib.hid (rL_le good HRI.out)
        have HLN := Lib.hid (rL_len l due good)
        clear hlt HA HR
        go_wp2_with (fail)
        go_loopw [10, 11, 12] (fun av bv iv wr => ∃ (k m1 m2 : Nat) (B1 B2 : Option Addr) (d1 d2 : Nat), k ≤ n2 ∧ iv = .int .i64 k ∧ av = .slice B1 m1 d1 ∧ bv = .slice B2 m2 d2 ∧ Hid ((rL l due good k).1.length = m1) ∧ Hid ((rL l due good k).2.length = m2) ∧ Hid (wr.ownsRow w.heap.size 48 2 (.slice B1 m1 d1) m1 ((rL l due good k).1.flatMap p2)) ∧ Hid (wr.ownsRow w.heap.size 48 2 (.slice B2 m2 d2) m2 ((rL l due good k).2.flatMap p2)) ∧ Hid (Below w.heap.size w wr)) (fun _ _ iv _ => n2 - (intOf iv).toNat)
        case atStart => exact ⟨0, 0, 0, none, none, 0, 0, Nat.zero_le _, rfl, rfl, rfl, Lib.hid rfl, Lib.hid rfl, Lib.hid ⟨rfl, .inl ⟨rfl, rfl⟩⟩, Lib.hid ⟨rfl, .inl ⟨rfl, rfl⟩⟩, Lib.hid (Below.refl _ _)⟩
        case round =>
          obtain ⟨k, m1, m2, B1, B2, d1, d2, hk, rfl, rfl, rfl, HM1, HM2, HO1, HO2, HB⟩ := hrel
          have k0 : (0 : Int) ≤ (k : Int) := by omega
          have hm1 : m1 ≤ 20 := by have := (HLN.out k).1; rw [HM1.out] at this; omega
          have hm2 : m2 ≤ 20 := by have := (HLN.out k).2; rw [HM2.out] at this; omega
          have hcp1 := own_cap HO1.out
          have hcp2 := own_cap HO2.out
          by_cases hlt : k < n2
          · have hltI : (k : Int) < (n2 : Int) := by omega
            obtain ⟨⟨xi, xs, xd, xu, xp, xe⟩, hx⟩ := at_ l k (by rw [HN.out]; exact hlt)
            obtain ⟨d, hd⟩ := at_ due k (by rw [HN1.out]; exact hlt)
            obtain ⟨z, hz⟩ := at_ good k (by rw [HN2.out]; exact hlt)
            obtain ⟨b, off, rfl, hcell⟩ := (HC.out.keep HB.out) (by rw [HN.out]; omega)
            obtain ⟨b1, off1, rfl, hcell1⟩ := (HD.out.keep HB.out) (by rw [HN1.out]; omega)
            obtain ⟨b2, off2, rfl, hcell2⟩ := (HG.out.keep HB.out) (by rw [HN2.out]; omega)
            obtain ⟨m0', e1, m2', m3', e4, m5'⟩ := hcell k _ hx
            dsimp only at e1 e4
            have ed := hcell1 k d hd
            have ez := hcell2 k z hz
            have hok := pysOk_at HRI.out hx hd
            unfold pyOk at hok
            simp only [Bool.and_eq_true, decide_eq_true_eq] at hok
            obtain ⟨⟨o1, o2, o3⟩, o4, o5⟩ := hok
            try dsimp only at o1 o2 o3
            have HNX := Lib.hid (rL_next hx hd hz)
            have hw1 : IntKind.i64.wrap (xp - d) = xp - d := IntWalk.i64_in _ (by omega)
            clear hcell hcell1 hcell2 hx hd hz m0' m2' m3' m5' hlt
            have hrs1 := rs_own (f := p2) (K := 2) (fun _ => rfl) HM1.out HO1.out
            have hrs2 := rs_own (f := p2) (K := 2) (fun _ => rfl) HM2.out HO2.out
            by_cases hdp : 0 < xp - d
            · have hng : ¬ (xp - d < 0) := by omega
              cases z
              · have HADD := Lib.hid (fun (W' : World) (hb : Below wr.heap.size wr W') => radd_any (cap3 := d1) HM1.out (hrs1.keep hb) (by omega) hcp1 xs (xp - d) (fun p hp => by have := (HLE.out k).1 p hp; exact IntWalk.i64_in _ (by omega)))
                have HEQ : Hid (rL l due good (k + 1) = (addL (rL l due good k).1 xs (xp - d), (rL l due good k).2)) := Lib.hid (by rw [HNX.out]; unfold stL; rw [if_pos ⟨by dsimp only; omega, rfl⟩])
                clear hrs1 hrs2
                go_wp2
                go_quiet (fail)
                go_wp2_with (fail)
                go_must (refine (HADD.out _ (by first | exact Gen.dN (Below.refl _ _) _ | exact Below.refl _ _)).mono ?_)
                rintro e w3 ⟨B5, m5, c5, hm5, rfl, ho5, hb5⟩
                have hb6 := Gen.over hb5 (show Below wr.heap.size wr _ from by first | exact Gen.dN (Below.refl _ _) _ | exact Below.refl _ _)
                have HB7 := Lib.hid (Gen.over hb6 HB.out)
                have HM5 : Hid ((rL l due good (k + 1)).1.length = m5) := Lib.hid (by rw [HEQ.out]; exact hm5)
                have HM6 : Hid ((rL l due good (k + 1)).2.length = m2) := Lib.hid (by rw [HEQ.out]; exact HM2.out)
                have HO5 : Hid (w3.ownsRow w.heap.size 48 2 (.slice B5 m5 c5) m5 ((rL l due good (k + 1)).1.flatMap p2)) := Lib.hid (by rw [HEQ.out]; exact own_base ho5 HB.out.size)
                have HO6 : Hid (w3.ownsRow w.heap.size 48 2 (.slice B2 m2 d2) m2 ((rL l due good (k + 1)).2.flatMap p2)) := Lib.hid (by rw [HEQ.out]; exact Gen.own_keep HO2.out hb6)
                clear hm5 ho5 hb5 hb6 HADD
                go_wp2
                go_roundw
                case rel => exact ⟨k + 1, m5, m2, B5, B2, c5, d2, by omega, by go_num, rfl, rfl, HM5, HM6, HO5, HO6, HB7⟩
                case measure => simp [intOf]; omega
              · have HEQ : Hid (rL l due good (k + 1) = rL l due good k) := Lib.hid (by rw [HNX.out]; unfold stL; rw [if_neg (by simp), if_neg (by dsimp only; omega)])
                clear hrs1 hrs2
                go_wp2
                go_quiet (fail)
                go_wp2
                go_roundw
                case rel => exact ⟨k + 1, m1, m2, B1, B2, d1, d2, by omega, by go_num, rfl, rfl, by rw [HEQ.out]; exact HM1, by rw [HEQ.out]; exact HM2, by rw [HEQ.out]; exact Lib.hid (Gen.own_keep HO1.out (Gen.dN (Below.refl _ _) _)), by rw [HEQ.out]; exact Lib.hid (Gen.own_keep HO2.out (Gen.dN (Below.refl _ _) _)), Lib.hid (Gen.dN HB.out _)⟩
                case measure => simp [intOf]; omega
            · by_cases hng : xp - d < 0
              · have hw2 : IntKind.i64.wrap (-(xp - d)) = d - xp := by rw [show -(xp - d) = d - xp by omega]; exact IntWalk.i64_in _ (by omega)
                have hw3 : IntKind.i64.wrap (d - xp) = d - xp := IntWalk.i64_in _ (by omega)
                have HADD := Lib.hid (fun (W' : World) (hb : Below wr.heap.size wr W') => radd_any (cap3 := d2) HM2.out (hrs2.keep hb) (by omega) hcp2 xs (d - xp) (fun p hp => by have := (HLE.out k).2 p hp; exact IntWalk.i64_in _ (by omega)))
                have HEQ : Hid (rL l due good (k + 1) = ((rL l due good k).1, addL (rL l due good k).2 xs (d - xp))) := Lib.hid (by rw [HNX.out]; unfold stL; rw [if_neg (by dsimp only; omega), if_pos (by dsimp only; omega)])
                clear hrs1 hrs2
                go_wp2
                go_quiet (fail)
                go_wp2_with (fail)
                go_must (refine (HADD.out _ (by first | exact Gen.dN (Below.refl _ _) _ | exact Below.refl _ _)).mono ?_)
                rintro e w3 ⟨B5, m5, c5, hm5, rfl, ho5, hb5⟩
                have hb6 := Gen.over hb5 (show Below wr.heap.size wr _ from by first | exact Gen.dN (Below.refl _ _) _ | exact Below.refl _ _)
                have HB7 := Lib.hid (Gen.over hb6 HB.out)
                have HM5 : Hid ((rL l due good (k + 1)).1.length = m1) := Lib.hid (by rw [HEQ.out]; exact HM1.out)
                have HM6 : Hid ((rL l due good (k + 1)).2.length = m5) := Lib.hid (by rw [HEQ.out]; exact hm5)
                have HO5 : Hid (w3.ownsRow w.heap.size 48 2 (.slice B1 m1 d1) m1 ((rL l due good (k + 1)).1.flatMap p2)) := Lib.hid (by rw [HEQ.out]; exact Gen.own_keep HO1.out hb6)
                have HO6 : Hid (w3.ownsRow w.heap.size 48 2 (.slice B5 m5 c5) m5 ((rL l due good (k + 1)).2.flatMap p2)) := Lib.hid (by rw [HEQ.out]; exact own_base ho5 HB.out.size)
                clear hm5 ho5 hb5 hb6 HADD
                go_wp2
                go_roundw
                case rel => exact ⟨k + 1, m1, m5, B1, B5, d1, c5, by omega, by go_num, rfl, rfl, HM5, HM6, HO5, HO6, HB7⟩
                case measure => simp [intOf]; omega
              · have HEQ : Hid (rL l due good (k + 1) = rL l due good k) := Lib.hid (by rw [HNX.out]; unfold stL; rw [if_neg (by dsimp only; omega), if_neg (by dsimp only; omega)])
                clear hrs1 hrs2
                go_wp2
                go_quiet (fail)
                go_wp2
                go_roundw
                case rel => exact ⟨k + 1, m1, m2, B1, B2, d1, d2, by omega, by go_num, rfl, rfl, by rw [HEQ.out]; exact HM1, by rw [HEQ.out]; exact HM2, by rw [HEQ.out]; exact Lib.hid (Gen.own_keep HO1.out (Gen.dN (Below.refl _ _) _)), by rw [HEQ.out]; exact Lib.hid (Gen.own_keep HO2.out (Gen.dN (Below.refl _ _) _)), Lib.hid (Gen.dN HB.out _)⟩
                case measure => simp [intOf]; omega
          · obtain rfl : n2 = k := by omega
            obtain ⟨L, hL⟩ : ∃ L, rL l due good n2 = L := ⟨_, rfl⟩
            have HL : Hid (rL l due good l.length = L) := Lib.hid (by rw [HN.out]; exact hL)
            rw [hL] at HM1 HM2 HO1 HO2
            have hx0 : Below wr.heap.size wr (wr.alloc (.cells #[] 48)) := Gen.b_alloc (Below.refl _ _)
            have HO0 := Lib.hid (blk0 wr 48 2)
            have HRE := Lib.hid (rs_reads (f := p2) (K := 2) (fun _ => rfl) (by omega) HM1.out ((rs_own (f := p2) (K := 2) (fun _ => rfl) HM1.out HO1.out).keep hx0))
            have HR2 := Lib.hid (rs_own (f := p2) (K := 2) (fun _ => rfl) HM2.out HO2.out)
            have N1 := Lib.hid (show 0 + m1 ≤ maxLen by simp only [maxLen]; omega)
            have N2 := Lib.hid (show (0 + m1) * 16 ≤ 140737488355328 by omega)
            have N3 := Lib.hid (show m1 + m2 ≤ maxLen by simp only [maxLen]; omega)
            have N4 := Lib.hid (show (m1 + m2) * 16 ≤ 140737488355328 by omega)
            clear hL hx0 hlt
            go_wp2_with (first
              | (have _g := HO7
                 at_builtin
                 go_must (refine App.wpList_append_any _ rfl (.tmp 120) (.tmp 121) _ rfl wr.heap.size 48 iS _ 2 16 Try.underlying28 hiS hzS hyS hxS rfl (by omega) (.slice A7 m1 c7) m1 (L.1.flatMap p2) rfl HO7.out _ B2 m2 d2 (L.2.flatMap p2) rfl (rs_reads (f := p2) (K := 2) (fun _ => rfl) (by omega) HM2.out (HR2.out.keep HB7.out)) (p2_one _) N3.out N4.out HB7.out.size ?_
                          intro v8 w8 ho8 hg8 ha8
                          rw [← List.flatMap_append] at ho8
                          have HB8 := Lib.hid (Gen.g_below (w := wr) HO7.out hg8 HB7.out (Nat.le_refl _))
                          obtain ⟨A8, c8, rfl, _⟩ := Gen.own_slice ho8
                          have HO8 := Lib.hid ho8
                          clear ho8 hg8 ha8 HO7))
              | (at_builtin
                 go_must (refine App.wpList_append_any _ rfl (.tmp 118) (.tmp 119) _ rfl wr.heap.size 48 iS _ 2 16 Try.underlying28 hiS hzS hyS hxS rfl (by omega) (.slice (some ⟨wr.heap.size, 0, none⟩) 0 0) 0 [] rfl HO0.out _ B1 m1 d1 (L.1.flatMap p2) rfl HRE.out (p2_one _) N1.out N2.out (Gen.b_alloc (Below.refl _ _)).size ?_
                          intro v7 w7 ho7 hg7 ha7
                          rw [Nat.zero_add, List.nil_append] at ho7
                          have HB7 := Lib.hid (Gen.g_below (w := wr) HO0.out hg7 (Gen.b_alloc (Below.refl _ _)) (Nat.le_refl _))
                          obtain ⟨A7, c7, rfl, _⟩ := Gen.own_slice ho7
                          have HO7 := Lib.hid ho7
                          clear ho7 hg7 ha7))
              | fail)
            have HML : Hid ((L.1 ++ L.2).length = m1 + m2) := Lib.hid (by rw [List.length_append, HM1.out, HM2.out])
            have HRS := Lib.hid (rs_own (f := p2) (K := 2) (fun _ => rfl) HML.out HO8.out)
            have HO1' := Lib.hid (Gen.own_keep HO1.out HB8.out)
            have HO2' := Lib.hid (Gen.own_keep HO2.out HB8.out)
            have HB9 := Lib.hid (Gen.over HB8.out HB.out)
            obtain ⟨M, hM⟩ : ∃ M, L.1 ++ L.2 = M := ⟨_, rfl⟩
            obtain ⟨mm, hmm⟩ : ∃ mm, m1 + m2 = mm := ⟨_, rfl⟩
            have hmI : (m1 : Int) + (m2 : Int) = (mm : Int) := by omega
            have hov : ovr M = (ovr L.1 || ovr L.2) := by rw [← hM]; exact ovr_app _ _
            rw [hM] at HML HRS
            rw [hmm] at HML
            have hmm40 : mm ≤ 40 := by omega
            obtain ⟨V, hV⟩ : ∃ V, ovr M = V := ⟨_, rfl⟩
            rw [hV] at hov
            have HOV := Lib.hid hov.symm
            have HV0 := Lib.hid (show ovr (M.drop 0) = V from hV)
            clear hM hV hov HB HO0 HRE HR2 HB7 HB8 HO1 HO2 HO8 N1 N2 N3 N4
            try simp only [hmm]
            clear hmm
            go_wp2_with (fail)
            go_loopw [17] (fun iv wr => ∃ (i : Nat), i ≤ mm ∧ iv = .int .i64 i ∧ Hid (ovr (M.drop i) = V) ∧ w8 = wr) (fun iv _ => mm - (intOf iv).toNat)
            case atStart => exact ⟨0, Nat.zero_le _, rfl, HV0, rfl⟩
            case round =>
              obtain ⟨i, hi, rfl, HA, hww⟩ := hrel
              subst hww
              have i0 : (0 : Int) ≤ (i : Int) := by omega
              by_cases hlt : i < mm
              · have hltI : (i : Int) < (mm : Int) := by omega
                obtain ⟨⟨s, y⟩, hx⟩ := at_ M i (by rw [HML.out]; exact hlt)
                obtain ⟨b5, off5, rfl, hcell⟩ := HRS.out (by rw [HML.out]; omega)
                have e0 := hcell i _ hx 1 _ rfl
                dsimp only at e0
                have hA := HA.out
                rw [drop_at hx] at hA
                unfold ovr at hA
                rw [List.any_cons] at hA
                dsimp only at hA
                by_cases hy : (1000000000000000 : Int) < y
                · obtain rfl : V = true := by rw [← hA, decide_eq_true hy, Bool.true_or]
                  have HE := Lib.hid (show BackL w l due good (.returned (.tuple #[nilV, nilV, .int .i64 6])) w8 from ⟨HB9.out, .inr (.inl ⟨HBK.out, by rw [HL.out]; exact HOV.out, rfl⟩)⟩)
                  clear hA hcell hx HA hlt
                  go_wp2
                  exact bodyPost_ret (v := .tuple #[nilV, nilV, .int .i64 6]) (by simp [results, Try.results11, go_sem]) rfl HE.out
                · rw [decide_eq_false hy, Bool.false_or] at hA
                  have HA2 := Lib.hid (show ovr (M.drop (i + 1)) = V from hA)
                  clear hA hcell hx HA hlt
                  go_wp2
                  go_roundw
                  case rel => first | exact ⟨i + 1, by omega, by go_num, HA2, rfl⟩ | exact ⟨i + 1, by omega, by go_num, HA2, trivial⟩ | exact ⟨i + 1, by omega, by go_num, HA2⟩
                  case measure => simp [intOf]; omega
              · obtain rfl : mm = i := by omega
                have hA := HA.out
                rw [List.drop_of_length_le (by rw [HML.out]; exact Nat.le_refl _)] at hA
                obtain rfl : V = false := hA.symm
                have HE := Lib.hid (show BackL w l due good (.returned (.tuple #[.slice B1 m1 d1, .slice B2 m2 d2, .int .i64 0])) w8 from ⟨HB9.out, .inr (.inr ⟨HBK.out, by rw [HL.out]; exact HOV.out, _, _, rfl, by rw [HL.out, HM1.out, HN.out]; have := (HLN.out n2).1; rw [← HN.out, HL.out, HM1.out, HN.out] at this; exact this, by rw [HL.out, HM1.out]; exact HO1'.out, by rw [HL.out, HM2.out, HN.out]; have := (HLN.out n2).2; rw [← HN.out, HL.out, HM2.out, HN.out] at this; exact this, by rw [HL.out, HM2.out]; exact HO2'.out⟩)⟩)
                clear hA HA hlt
                go_wp2
                exact bodyPost_ret (v := .tuple #[.slice B1 m1 d1, .slice B2 m2 d2, .int .i64 0]) (by simp [results, Try.results11, go_sem]) rfl HE.out
      all_goals simp
end Go.Proofs.Ytohbdffmidbjhaa.Re
