/- EntitleVotes returns true: every list of seats and units, and issuer; no condition. -/
import Derived.Test.YtpekedhcnijgcaaEntS
namespace Go.Proofs.Ytpekedhcnijgcaa.Book
open Go.ChangeShapes Go.WideShapes Go.ChangeAt Go.RowKit Go.Proofs.Ytpekedhcnijgcaa.Cell
set_option linter.unusedVariables false
set_option linter.unusedSimpArgs false

theorem sel_pre (f : Nat → Option (Int × Int)) {k n : Nat} (h : k ≤ n) : ∃ r, sel f n = sel f k ++ r := by
  induction n with
  | zero => obtain rfl : k = 0 := by omega
            exact ⟨[], by simp⟩
  | succ n ih =>
    by_cases e : k = n + 1
    · subst e; exact ⟨[], by simp⟩
    · obtain ⟨r, hr⟩ := ih (by omega)
      exact ⟨r ++ (f n).toList, by rw [sel, hr, List.append_assoc]⟩
theorem sel_get {f : Nat → Option (Int × Int)} {k n : Nat} {x : Int × Int} (h : k < n) (hx : f k = some x) : (sel f n)[(sel f k).length]? = some x := by
  obtain ⟨r, hr⟩ := sel_pre f (k := k + 1) (n := n) (by omega)
  rw [hr, sel_yes hx, List.append_assoc, List.getElem?_append_right (Nat.le_refl _), Nat.sub_self]
  rfl
theorem sel_len_le {f : Nat → Option (Int × Int)} {k n : Nat} (h : k ≤ n) : (sel f k).length ≤ (sel f n).length := by
  obtain ⟨r, hr⟩ := sel_pre f h
  rw [hr, List.length_append]; omega
def snd (L : List (Int × Int)) : List Int := L.map Prod.snd
theorem total_sel_votes {ss : List (Int × Int)} {us : List Int} (hl : us.length = ss.length) (h : ∀ u ∈ us, 0 ≤ u ∧ u ≤ 1000000000) : ∀ k, k ≤ us.length → total (snd (sel (vf ss us (-1)) k)) = total (us.take k)
  | 0, _ => rfl
  | k + 1, hk => by
    obtain ⟨u, hu⟩ := at_ us k (by omega)
    obtain ⟨p, hp⟩ := at_ ss k (by omega)
    have hb := h u (mem_of_at hu)
    have ih := total_sel_votes hl h k (by omega)
    have hv := vf_at (s := -1) hu hp
    rw [take_snoc hu, total_snoc, ← ih]
    by_cases hu0 : 0 < u
    · rw [sel_yes (by rw [hv, if_pos ⟨hu0, by omega⟩])]
      unfold snd
      rw [List.map_append, List.map_cons, List.map_nil, total_snoc]
    · rw [sel_no (by rw [hv, if_neg (fun c => hu0 c.1)])]
      omega
theorem snd_in {ss : List (Int × Int)} {us : List Int} {s : Int} (h : ∀ u ∈ us, 0 ≤ u ∧ u ≤ 1000000000) : ∀ k, ∀ p ∈ sel (vf ss us s) k, 0 ≤ p.2 ∧ p.2 ≤ 1000000000
  | 0, p, hp => by simp [sel] at hp
  | k + 1, p, hp => by
    rw [sel, List.mem_append] at hp
    rcases hp with hp | hp
    · exact snd_in h k p hp
    · unfold vf at hp
      split at hp
      · rename_i u q hu hq
        split at hp
        · simp at hp
          subst hp
          exact h u (mem_of_at hu)
        · simp at hp
      · simp at hp
theorem vtO_at {ss : List (Int × Int)} {us : List Int} {s : Int} (hv : vd ss us = true) (s0 : -1 ≤ s) (s1 : s ≤ 59) : vtO ss us s = (sel (vf ss us s) ss.length, 0) := if_pos ⟨hv, s0, s1⟩
theorem vtO_err {ss : List (Int × Int)} {us : List Int} {s : Int} (h : ¬ (vd ss us = true ∧ -1 ≤ s ∧ s ≤ 59)) : vtO ss us s = ([], 1) := if_neg h

section
variable {A A' : Option Addr} {n cap m cap' : Nat} {ss : List (Int × Int)} {us : List Int} {s : Int}
set_option maxRecDepth 100000 in
set_option maxHeartbeats 1000000 in
theorem env_a (w : World) (hn : n ≤ 9223372036854775807) (hm : m ≤ 9223372036854775807) (h : fewB n m 0 = false) :
    Calls Try.prog 11 #[.slice A n cap, .slice A' m cap', .int .i64 s] w fun e w' => e = .returned (.bool true) ∧ Below w.heap.size w w' := by
  have HF := Lib.hid h
  clear h
  go_enter Try.func11, Try.ntmps11
  go_wp2_with (fail)
  go_must (refine (small33_any _).mono ?_)
  rintro e w1 ⟨rfl, hb⟩
  go_wp2_with (fail)
  go_must (refine (tfew_is _ hn hm (by omega) HF.out).mono ?_)
  rintro e w2 ⟨rfl, rfl⟩
  go_wp2
  go_ret
  exact ⟨rfl, hb⟩
set_option maxRecDepth 100000 in
set_option maxHeartbeats 4000000 in
theorem env_b (w : World) (hn : ss.length = n) (hc : Prs w A ss) (hm : us.length = m) (hc' : Ints w A' us) (hf : fewB n m 0 = true) (hok : ¬ (vd ss us = true ∧ -1 ≤ s ∧ s ≤ 59)) :
    Calls Try.prog 11 #[.slice A n cap, .slice A' m cap', .int .i64 s] w fun e w' => e = .returned (.bool true) ∧ Below w.heap.size w w' := by
  obtain ⟨f1, f2, _⟩ := fewB_in hf
  have HN := Lib.hid hn
  have HM := Lib.hid hm
  have HF := Lib.hid hf
  have HE := Lib.hid (vtO_err hok)
  rcases (show s < -1 ∨ (-1 ≤ s ∧ 60 ≤ s) ∨ (-1 ≤ s ∧ s < 60 ∧ vd ss us = false) from (by
    by_cases a : s < -1
    · exact .inl a
    · by_cases b : 60 ≤ s
      · exact .inr (.inl ⟨by omega, b⟩)
      · refine .inr (.inr ⟨by omega, by omega, ?_⟩)
        cases hv : vd ss us
        · rfl
        · exact absurd ⟨hv, by omega, by omega⟩ hok)) with a | ⟨a, b⟩ | ⟨a, b, c⟩
  case inr.inr =>
    have HV := Lib.hid c
    clear hn hm hf hok c
    go_enter Try.func11, Try.ntmps11
    go_wp2_with (fail)
    go_must (refine (small33_any _).mono ?_)
    rintro e w1 ⟨rfl, hb⟩
    go_wp2_with (fail)
    go_must (refine (tfew_is _ (by omega) (by omega) (by omega) HF.out).mono ?_)
    rintro e w2 ⟨rfl, rfl⟩
    go_wp2_with (fail)
    go_must (refine (votes_any _ _ _ ss _ _ _ us s _ _ _ HN.out (hc.keep hb) (by omega) HM.out (hc'.keep hb) (by omega) HE.out).mono ?_)
    rintro e w3 ⟨A2, c2, rfl, hb3, _⟩
    have hB3 := Gen.over hb3 hb
    go_wp2_with (fail)
    go_must (refine (units_is _ HN.out (hc.keep hB3) (by omega) HM.out (hc'.keep hB3) (by omega) HV.out).mono ?_)
    rintro e w4 ⟨rfl, hb4⟩
    have hB4 := Gen.over hb4 hB3
    go_wp2
    go_ret
    exact ⟨rfl, hB4⟩
  all_goals
    clear hn hm hf hok
    go_enter Try.func11, Try.ntmps11
    go_wp2_with (fail)
    go_must (refine (small33_any _).mono ?_)
    rintro e w1 ⟨rfl, hb⟩
    go_wp2_with (fail)
    go_must (refine (tfew_is _ (by omega) (by omega) (by omega) HF.out).mono ?_)
    rintro e w2 ⟨rfl, rfl⟩
    go_wp2_with (fail)
    go_must (refine (votes_any _ _ _ ss _ _ _ us s _ _ _ HN.out (hc.keep hb) (by omega) HM.out (hc'.keep hb) (by omega) HE.out).mono ?_)
    rintro e w3 ⟨A2, c2, rfl, hb3, _⟩
    have hB3 := Gen.over hb3 hb
    go_wp2
    go_ret
    exact ⟨rfl, hB3⟩
set_option maxRecDepth 100000 in
set_option maxHeartbeats 8000000 in
theorem env_c (w : World) (hn : ss.length = n) (hc : Prs w A ss) (hm : us.length = m) (hc' : Ints w A' us) (hf : fewB n m 0 = true) (hv : vd ss us = true) (s0 : -1 ≤ s) (s1 : s ≤ 59) :
    Calls Try.prog 11 #[.slice A n cap, .slice A' m cap', .int .i64 s] w fun e w' => e = .returned (.bool true) ∧ Below w.heap.size w w' := by
  obtain ⟨f1, f2, _⟩ := fewB_in hf
  have hml := (vd_in hv).2.1
  have hmn : m = n := by rw [← hm, ← hn, hml]
  subst hmn
  have HN := Lib.hid hn
  have HM := Lib.hid hm
  have HF := Lib.hid hf
  have HE := Lib.hid (vtO_at hv s0 s1)
  have HE1 := Lib.hid (vtO_at (s := -1) hv (by omega) (by omega))
  have HA := Lib.hid (vd_all hv)
  have HTS := Lib.hid (total_sel_votes hml (vd_all hv) us.length (Nat.le_refl _))
  obtain ⟨L, hL⟩ : ∃ L, sel (vf ss us s) ss.length = L := ⟨_, rfl⟩
  obtain ⟨L1, hL1⟩ : ∃ L, sel (vf ss us (-1)) ss.length = L := ⟨_, rfl⟩
  have hLl : L.length ≤ 10 := by rw [← hL]; have := sel_len (vf ss us s) ss.length; omega
  have hLl1 : L1.length ≤ 10 := by rw [← hL1]; have := sel_len (vf ss us (-1)) ss.length; omega
  have HLE := Lib.hid hL
  have HLE1 := Lib.hid hL1
  have HLB := Lib.hid (show ∀ p ∈ L1, 0 ≤ p.2 ∧ p.2 ≤ 1000000000 from fun p hp => snd_in (vd_all hv) ss.length p (by rw [hL1]; exact hp))
  clear hn hm hf hv hml hL hL1
  go_enter Try.func11, Try.ntmps11
  go_wp2_with (fail)
  go_must (refine (small33_any _).mono ?_)
  rintro e w1 ⟨rfl, hb⟩
  go_wp2_with (fail)
  go_must (refine (tfew_is _ (by omega) (by omega) (by omega) HF.out).mono ?_)
  rintro e w2 ⟨rfl, rfl⟩
  go_wp2_with (fail)
  go_must (refine (votes_any _ _ _ ss _ _ _ us s _ _ _ HN.out (hc.keep hb) (by omega) HM.out (hc'.keep hb) (by omega) HE.out).mono ?_)
  rintro e w3 ⟨A2, c2, rfl, hb3, hp3⟩
  rw [HLE.out] at hp3 ⊢
  have hB3 := Gen.over hb3 hb
  replace hc := hc.keep hB3
  replace hc' := hc'.keep hB3
  clear hb3 hb
  go_wp2_with (fail)
  go_loopw [10, 11] (fun nv iv wr => ∃ k : Nat, k ≤ m ∧ iv = .int .i64 k ∧ nv = .int .i64 (sel (vf ss us s) k).length ∧ Below w3.heap.size w3 wr) (fun _ iv _ => m - (intOf iv).toNat)
  case atStart => exact ⟨0, Nat.zero_le _, rfl, rfl, Below.refl _ _⟩
  case round =>
    obtain ⟨k, hk, rfl, rfl, hW⟩ := hrel
    by_cases hlt : k < m
    · obtain ⟨b, off, rfl, hcell⟩ := (hc.keep hW) (by rw [HN.out]; omega)
      obtain ⟨b', off', rfl, hcell'⟩ := (hc'.keep hW) (by rw [HM.out]; omega)
      obtain ⟨p, hp⟩ := at_ ss k (by rw [HN.out]; exact hlt)
      obtain ⟨u, hu⟩ := at_ us k (by rw [HM.out]; exact hlt)
      obtain ⟨c0, c1⟩ := hcell k p hp
      have d0 := hcell' k u hu
      have hvf := vf_at (s := s) hu hp
      obtain ⟨uu0, uu1⟩ := HA.out u (mem_of_at hu)
      have kk0 : (0 : Int) ≤ (k : Int) := by omega
      have kk1 : (k : Int) < (m : Int) := by omega
      obtain ⟨pa, o⟩ := p
      dsimp only at c0 c1 hvf
      obtain ⟨q, hq⟩ : ∃ q, (sel (vf ss us s) k).length = q := ⟨_, rfl⟩
      have hq10 : q ≤ 10 := by rw [← hq]; have := sel_len (vf ss us s) k; omega
      rw [hq]
      by_cases hskip : u = 0 ∨ (0 ≤ s ∧ o = s)
      · have hno : vf ss us s k = none := by rw [hvf, if_neg (by omega)]
        have HQ := Lib.hid (show (sel (vf ss us s) (k + 1)).length = q from by rw [sel_no hno, hq])
        clear hcell hcell' hp hu hvf hno hq
        by_cases hu0 : u = 0
        · subst hu0
          clear hskip
          go_wp2
          go_roundw
          case rel => first | exact ⟨k + 1, by omega, by go_num, by rw [HQ.out], hW⟩ | exact ⟨k + 1, by omega, by go_num, by rw [HQ.out]⟩
          case measure => simp [intOf]; omega
        · have b1 : (u == 0) = false := by rw [beq_eq_false_iff_ne]; exact hu0
          obtain ⟨e1, e2⟩ : 0 ≤ s ∧ o = s := by omega
          subst e2
          clear hskip hu0
          go_wp2
          go_roundw
          case rel => first | exact ⟨k + 1, by omega, by go_num, by rw [HQ.out], hW⟩ | exact ⟨k + 1, by omega, by go_num, by rw [HQ.out]⟩
          case measure => simp [intOf]; omega
      · have hyes : vf ss us s k = some ((k : Int), u) := by rw [hvf, if_pos (by omega)]
        have HQ := Lib.hid (show (sel (vf ss us s) (k + 1)).length = q + 1 from by rw [sel_yes hyes, List.length_append, hq]; rfl)
        have hLq := sel_get (n := ss.length) (by rw [HN.out]; exact hlt) hyes
        rw [hq, HLE.out] at hLq
        have hql := lt_of_at hLq
        obtain ⟨b2, off2, rfl, hcell2⟩ := (hp3.keep hW) (by omega)
        obtain ⟨g0, g1⟩ := hcell2 q _ hLq
        dsimp only at g0 g1
        have b1 : (u == 0) = false := by rw [beq_eq_false_iff_ne]; omega
        have hq0 : (q : Int) < (L.length : Int) := by omega
        have hq1 : (0 : Int) ≤ (q : Int) := by omega
        have HSK := Lib.hid hskip
        clear hcell hcell' hp hu hvf hyes hq hLq hcell2 hskip
        by_cases hs : 0 ≤ s
        all_goals
          first
            | (have b3 : (o == s) = false := by rw [beq_eq_false_iff_ne]; have := HSK.out; omega)
            | (have hs' : s < 0 := by omega)
          go_wp2
          go_region_held3 (fun W' => Below wr.heap.size wr W' ∧ W'.cell? ⟨b2, off2 + q * 2, none⟩ = some (.int .i64 (k : Int)) ∧ W'.cell? ⟨b2, off2 + q * 2 + 1, none⟩ = some (.int .i64 u) ∧ W'.cell? ⟨b', off' + k, none⟩ = some (.int .i64 u))
            (first | exact ⟨(Below.refl _ _).drew, g0, g1, d0⟩ | exact ⟨Gen.over (by assumption) (And.left (by assumption)), Gen.keep (by assumption) (And.left (And.right (by assumption))), Gen.keep (by assumption) (And.left (And.right (And.right (by assumption)))), Gen.keep (by assumption) (And.right (And.right (And.right (by assumption))))⟩)
            (first | (go_at_call 39; refine (share_any _ _ _).mono ?_; rintro e w' ⟨rfl, hb'⟩))
          all_goals
            rename_i hH
            obtain ⟨hH, _, _, _⟩ := hH
            have hW2 := Gen.over hH hW
            clear g0 g1 d0 c0 c1
            go_wp2
            go_roundw
            case rel => first | exact ⟨k + 1, by omega, by go_num, by rw [HQ.out]; go_num, hW2⟩ | exact ⟨k + 1, by omega, by go_num, by rw [HQ.out]; go_num⟩
            case measure => simp [intOf]; omega
    · obtain rfl : k = m := by omega
      have HQ := Lib.hid (show (sel (vf ss us s) k).length = L.length from by rw [← HLE.out, HN.out])
      rw [HQ.out]
      go_wp2_with (fail)
      go_must (refine (votes_any _ _ _ ss _ _ _ us (-1) _ _ _ HN.out (hc.keep hW) (by omega) HM.out (hc'.keep hW) (by omega) HE1.out).mono ?_)
      rintro e w5 ⟨A5, c5, rfl, hb5, hp5⟩
      rw [HLE1.out] at hp5 ⊢
      have hW5 := Gen.over hb5 hW
      have hc5 := hc'.keep hW5
      have HTT := Lib.hid (show total (snd L1) = total us from by
        have := HTS.out
        rw [List.take_length, HM.out, ← HN.out, HLE1.out] at this
        exact this)
      clear hb5 hlt
      go_wp2_with (fail)
      go_loop [14, 15] (fun sv iv => ∃ j : Nat, j ≤ L1.length ∧ iv = .int .i64 j ∧ sv = .int .i64 (total (snd (L1.take j)))) (fun _ iv => L1.length - (intOf iv).toNat)
      case atStart => exact ⟨0, Nat.zero_le _, rfl, rfl⟩
      case round =>
        obtain ⟨j, hj, rfl, rfl⟩ := hrel
        have t01 := total_in (us := snd (L1.take j)) (fun u hu => by
          unfold snd at hu
          obtain ⟨p, hp, rfl⟩ := List.mem_map.1 hu
          exact HLB.out p (List.mem_of_mem_take hp))
        have tl : ((snd (L1.take j)).length : Int) ≤ 10 := by unfold snd; rw [List.length_map]; have := List.length_take_le j L1; omega
        obtain ⟨T, hT⟩ : ∃ T, total (snd (L1.take j)) = T := ⟨_, rfl⟩
        rw [hT] at t01 ⊢
        have t0 := t01.1
        have t1 : T ≤ 10000000000 := by omega
        have HT := Lib.hid hT
        clear t01 tl hT
        by_cases hlt : j < L1.length
        · obtain ⟨b2, off2, rfl, hcell2⟩ := hp5 (by omega)
          obtain ⟨p, hp⟩ := at_ L1 j hlt
          obtain ⟨g0, g1⟩ := hcell2 j p hp
          obtain ⟨pb0, pb1⟩ := HLB.out p (mem_of_at hp)
          have HS := Lib.hid (show total (snd (L1.take (j + 1))) = T + p.2 from by
            rw [take_snoc hp]; unfold snd; rw [List.map_append, List.map_cons, List.map_nil, total_snoc]
            have := HT.out; unfold snd at this; rw [this])
          have j0 : (0 : Int) ≤ (j : Int) := by omega
          clear hcell2 hp
          obtain ⟨pa, pz⟩ := p
          dsimp only at g0 g1 pb0 pb1 HS
          go_wp2
          go_round
          case rel => exact ⟨j + 1, by omega, by go_num, by rw [HS.out]⟩
          case measure => simp [intOf]; omega
        · obtain rfl : j = L1.length := by omega
          have HE2 := Lib.hid (show T = total us from by rw [← HT.out, List.take_length]; exact HTT.out)
          clear hlt
          go_wp2_with (fail)
          go_loop [16, 17] (fun sv iv => ∃ i : Nat, i ≤ k ∧ iv = .int .i64 i ∧ sv = .int .i64 (total (us.take i))) (fun _ iv => k - (intOf iv).toNat)
          case atStart => exact ⟨0, Nat.zero_le _, rfl, rfl⟩
          case round =>
            obtain ⟨i, hi, rfl, rfl⟩ := hrel
            have v01 := total_in (us := us.take i) (fun u hu => HA.out u (List.mem_of_mem_take hu))
            have vl : ((us.take i).length : Int) ≤ 10 := by have := List.length_take_le i us; omega
            obtain ⟨V, hV⟩ : ∃ T, total (us.take i) = T := ⟨_, rfl⟩
            rw [hV] at v01 ⊢
            have v0 := v01.1
            have v1 : V ≤ 10000000000 := by omega
            have HV := Lib.hid hV
            clear v01 vl hV
            by_cases hlt : i < k
            · obtain ⟨b2, off2, rfl, hcell2⟩ := hc5 (by rw [HM.out]; omega)
              obtain ⟨u, hu⟩ := at_ us i (by rw [HM.out]; exact hlt)
              have g0 := hcell2 i u hu
              obtain ⟨pb0, pb1⟩ := HA.out u (mem_of_at hu)
              have HS := Lib.hid (show total (us.take (i + 1)) = V + u from by rw [take_snoc hu, total_snoc, HV.out])
              have i0 : (0 : Int) ≤ (i : Int) := by omega
              clear hcell2 hu
              go_wp2
              go_round
              case rel => exact ⟨i + 1, by omega, by go_num, by rw [HS.out]⟩
              case measure => simp [intOf]; omega
            · obtain rfl : i = k := by omega
              have hVT : V = T := by rw [HE2.out, ← HV.out, List.take_of_length_le (by rw [HM.out]; exact Nat.le_refl _)]
              subst hVT
              have hE := Gen.over hW5 hB3
              go_wp2
              go_ret
              exact ⟨rfl, hE⟩
theorem env_any (w : World) (hc : Prs w A ss) (hc' : Ints w A' us) (hn : ss.length ≤ 9223372036854775807) (hm : us.length ≤ 9223372036854775807) :
    Calls Try.prog 11 #[.slice A ss.length cap, .slice A' us.length cap', .int .i64 s] w fun e w' => e = .returned (.bool true) ∧ Below w.heap.size w w' := by
  cases hf : fewB ss.length us.length 0
  · exact env_a w hn hm hf
  · by_cases hok : vd ss us = true ∧ -1 ≤ s ∧ s ≤ 59
    · exact env_c w rfl hc rfl hc' hf hok.1 hok.2.1 hok.2.2
    · exact env_b w rfl hc rfl hc' hf hok
end
end Go.Proofs.Ytpekedhcnijgcaa.Book
