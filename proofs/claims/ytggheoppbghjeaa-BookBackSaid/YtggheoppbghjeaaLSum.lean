/- BookSums returns true: every list of seats and units; no condition. -/
import Derived.Test.YtggheoppbghjeaaBookM
namespace Go.Proofs.Ytggheoppbghjeaa.Book
open Go.ChangeShapes Go.WideShapes Go.ChangeAt Go.RowKit Go.Proofs.Ytggheoppbghjeaa.Cell
set_option linter.unusedVariables false
set_option linter.unusedSimpArgs false

set_option maxHeartbeats 1000000 in
theorem few_any (A : Option Addr) (n cap : Nat) (A' : Option Addr) (m cap' : Nat) (w : World) (hn : n ≤ 9223372036854775807) (hm : m ≤ 9223372036854775807) :
    Calls Try.prog 9 #[.slice A n cap, .slice A' m cap'] w fun e w' => e = .returned (.bool (decide (n ≤ 30) && decide (m ≤ 40))) ∧ Below w.heap.size w w' := by
  by_cases h : n ≤ 30
  · by_cases h2 : m ≤ 40
    · have HF := Lib.hid (show (decide (n ≤ 30) && decide (m ≤ 40)) = true from by rw [decide_eq_true h, decide_eq_true h2]; rfl)
      have e1 : (n : Int) ≤ 30 := by omega
      have e2 : (m : Int) ≤ 40 := by omega
      go_enter Try.func9, Try.ntmps9
      go_wp2
      go_ret
      exact ⟨ret_bool HF.out.symm, Below.refl _ _⟩
    · have HF := Lib.hid (show (decide (n ≤ 30) && decide (m ≤ 40)) = false from by rw [decide_eq_false h2, Bool.and_false])
      have e1 : (n : Int) ≤ 30 := by omega
      have e2 : 40 < (m : Int) := by omega
      go_enter Try.func9, Try.ntmps9
      go_wp2
      go_ret
      exact ⟨ret_bool (by rw [HF.out, decide_eq_false (by omega)]), Below.refl _ _⟩
  · have HF := Lib.hid (show (decide (n ≤ 30) && decide (m ≤ 40)) = false from by rw [decide_eq_false h, Bool.false_and])
    have e1 : 30 < (n : Int) := by omega
    go_enter Try.func9, Try.ntmps9
    go_wp2
    go_ret
    exact ⟨rfl, Below.refl _ _⟩
theorem few_is {A : Option Addr} {n cap : Nat} {A' : Option Addr} {m cap' : Nat} {b : Bool} (w : World) (hn : n ≤ 9223372036854775807) (hm : m ≤ 9223372036854775807) (h : (decide (n ≤ 30) && decide (m ≤ 40)) = b) :
    Calls Try.prog 9 #[.slice A n cap, .slice A' m cap'] w fun e w' => e = .returned (.bool b) ∧ Below w.heap.size w w' := by
  have hh := few_any A n cap A' m cap' w hn hm
  rw [h] at hh
  exact hh
theorem few_in {n m : Nat} (h : (decide (n ≤ 30) && decide (m ≤ 40)) = true) : n ≤ 30 ∧ m ≤ 40 := by
  rw [Bool.and_eq_true] at h
  exact ⟨of_decide_eq_true h.1, of_decide_eq_true h.2⟩
section
variable {A A' : Option Addr} {n cap cap' : Nat} {ss : List (Int × Int)} {us : List Int}
theorem held_n {i : Nat} {x : Int} (w : World) (hn : ss.length = n) (hc : Prs w A ss) (hbig : n ≤ 30) (hm : us.length = n) (hc' : Ints w A' us) (hv : vd ss us = true) (hi : i < n) (h : hN ss us i = x) :
    Calls Try.prog 21 #[.slice A n cap, .slice A' n cap', .int .i64 i] w fun e w' => e = .returned (.int .i64 x) ∧ Below w.heap.size w w' :=
  held_is w hn hc (by omega) hm hc' (by omega) (by rw [hO_is hv (by omega), h])
theorem bleaf_n {i : Nat} {b : Bool} (w : World) (hn : ss.length = n) (hc : Prs w A ss) (hbig : n ≤ 30) (hr : rg ss = true) (h : lf ss i = b) :
    Calls Try.prog 19 #[.slice A n cap, .int .i64 i] w fun e w' => e = .returned (.bool b) ∧ Below w.heap.size w w' :=
  bleaf_is w hn hc (by omega) (by unfold lfO; rw [hr, h]; rfl)
end

set_option maxRecDepth 100000 in
set_option maxHeartbeats 1000000 in
theorem sums_a (A : Option Addr) (n cap : Nat) (A' : Option Addr) (m cap' : Nat) (w : World) (hn : n ≤ 9223372036854775807) (hm : m ≤ 9223372036854775807) (h : (decide (n ≤ 30) && decide (m ≤ 40)) = false) :
    Calls Try.prog 4 #[.slice A n cap, .slice A' m cap'] w fun e w' => e = .returned (.bool true) ∧ Below w.heap.size w w' := by
  have HF := Lib.hid h
  clear h
  go_enter Try.func4, Try.ntmps4
  go_wp2_with (fail)
  refine (small_any _).mono ?_
  rintro e w1 ⟨rfl, hb⟩
  go_wp2_with (fail)
  go_must (refine (few_is _ hn hm HF.out).mono ?_)
  rintro e w2 ⟨rfl, hb2⟩
  have hB := Gen.over hb2 hb
  go_wp2
  go_ret
  exact ⟨rfl, hB⟩

set_option maxRecDepth 100000 in
set_option maxHeartbeats 1000000 in
theorem sums_b (A : Option Addr) (n cap : Nat) (ss : List (Int × Int)) (A' : Option Addr) (m cap' : Nat) (us : List Int) (w : World) (hn : ss.length = n) (hc : Prs w A ss) (hm : us.length = m) (hc' : Ints w A' us) (hf : (decide (n ≤ 30) && decide (m ≤ 40)) = true) (hv : vd ss us = false) :
    Calls Try.prog 4 #[.slice A n cap, .slice A' m cap'] w fun e w' => e = .returned (.bool true) ∧ Below w.heap.size w w' := by
  have HN := Lib.hid hn
  have HM := Lib.hid hm
  have HV := Lib.hid hv
  obtain ⟨f1, f2⟩ := few_in hf
  have HF := Lib.hid hf
  clear hn hm hv hf
  go_enter Try.func4, Try.ntmps4
  go_wp2_with (fail)
  refine (small_any _).mono ?_
  rintro e w1 ⟨rfl, hb⟩
  go_wp2_with (fail)
  go_must (refine (few_is _ (by omega) (by omega) HF.out).mono ?_)
  rintro e w2 ⟨rfl, hb2⟩
  have hB := Gen.over hb2 hb
  go_wp2_with (fail)
  go_must (refine (units_is _ HN.out (hc.keep hB) (by omega) HM.out (hc'.keep hB) (by omega) HV.out).mono ?_)
  rintro e w3 ⟨rfl, hb3⟩
  have hB3 := Gen.over hb3 hB
  go_wp2
  go_ret
  exact ⟨rfl, hB3⟩

set_option maxRecDepth 100000 in
set_option maxHeartbeats 8000000 in
theorem sums_c (A : Option Addr) (n cap : Nat) (ss : List (Int × Int)) (A' : Option Addr) (cap' : Nat) (us : List Int) (w : World) (hn : ss.length = n) (hc : Prs w A ss) (hm : us.length = n) (hc' : Ints w A' us) (hf : (decide (n ≤ 30) && decide (n ≤ 40)) = true) (hv : vd ss us = true) :
    Calls Try.prog 4 #[.slice A n cap, .slice A' n cap'] w fun e w' => e = .returned (.bool true) ∧ Below w.heap.size w w' := by
  have HN := Lib.hid hn
  have HM := Lib.hid hm
  have HV := Lib.hid hv
  obtain ⟨f1, f2⟩ := few_in hf
  have HF := Lib.hid hf
  have HR := Lib.hid (vd_in hv).1
  clear hn hm hv hf
  go_enter Try.func4, Try.ntmps4
  go_wp2_with (fail)
  refine (small_any _).mono ?_
  rintro e w1 ⟨rfl, hb⟩
  go_wp2_with (fail)
  go_must (refine (few_is _ (by omega) (by omega) HF.out).mono ?_)
  rintro e w2 ⟨rfl, hb2⟩
  have hB := Gen.over hb2 hb
  go_wp2_with (fail)
  go_must (refine (units_is _ HN.out (hc.keep hB) (by omega) HM.out (hc'.keep hB) (by omega) HV.out).mono ?_)
  rintro e w3 ⟨rfl, hb3⟩
  have hB3 := Gen.over hb3 hB
  replace hc := hc.keep hB3
  replace hc' := hc'.keep hB3
  clear hb hb2 hb3 hB
  go_wp2_with (fail)
  go_loopw [6, 7, 8] (fun av rv iv wr => ∃ k : Nat, k ≤ n ∧ iv = .int .i64 k ∧ av = .int .i64 (total (us.take k)) ∧ rv = .int .i64 (rootS ss us k) ∧ Below w3.heap.size w3 wr) (fun _ _ iv _ => n - (intOf iv).toNat)
  case atStart => exact ⟨0, Nat.zero_le _, rfl, by simp [total], rfl, Below.refl _ _⟩
  case round =>
    obtain ⟨k, hk, rfl, rfl, rfl, hW⟩ := hrel
    have t01 := total_in (us := us.take k) fun u hu => vd_all HV.out u (List.mem_of_mem_take hu)
    have hl : ((us.take k).length : Int) ≤ 30 := by
      have := List.length_take_le k us
      omega
    have r01 := roots_in HV.out k
    have t0 := t01.1
    have t1 : total (us.take k) ≤ 30000000000 := by omega
    have r0 := r01.1
    have r1 : rootS ss us k ≤ 30000000000 := by omega
    clear t01 r01 hl
    by_cases hlt : k < n
    · have hcr := hc.keep hW
      have hcr' := hc'.keep hW
      obtain ⟨b, off, rfl, hcell⟩ := hcr (by rw [HN.out]; omega)
      obtain ⟨b', off', rfl, hcell'⟩ := hcr' (by rw [HM.out]; omega)
      obtain ⟨s, hs⟩ := at_ ss k (by rw [HN.out]; exact hlt)
      obtain ⟨u, hu⟩ := at_ us k (by rw [HM.out]; exact hlt)
      obtain ⟨c0, c1⟩ := hcell k s hs
      have d0 := hcell' k u hu
      have HS := Lib.hid hs
      have HU := Lib.hid hu
      obtain ⟨x, hx⟩ : ∃ x, hN ss us k = x := ⟨_, rfl⟩
      have x01 := hN_in HV.out k
      rw [hx] at x01
      obtain ⟨x0, x1⟩ := x01
      obtain ⟨u0, u1⟩ := vd_all HV.out u (mem_of_at hu)
      have HX := Lib.hid hx
      have k0 : (0 : Int) ≤ (k : Int) := by omega
      have HT := Lib.hid (show total (us.take (k + 1)) = total (us.take k) + u from by rw [take_snoc hu, total_snoc])
      clear hcell hcell' hs hu hx
      go_wp2_with (fail)
      go_must (refine (held_n _ HN.out hcr f1 HM.out hcr' HV.out hlt HX.out).mono ?_)
      rintro e w4 ⟨rfl, hb4⟩
      have hW4 := Gen.over hb4 hW
      have c0' := Gen.keep hb4 c0
      have d0' := Gen.keep hb4 d0
      clear hcr hcr' c0 d0 c1 hW
      have hcr := hc.keep hW4
      have hcr' := hc'.keep hW4
      obtain ⟨p, o⟩ := s
      dsimp only at c0'
      by_cases hp : p < 0
      all_goals
        first
          | have HRT := Lib.hid (show rootS ss us (k + 1) = rootS ss us k + x from by rw [roots_yes HS.out (by exact hp), HX.out])
          | have HRT := Lib.hid (show rootS ss us (k + 1) = rootS ss us k from roots_no HS.out (by dsimp only; omega))
        go_wp2_with (fail)
        go_loopw [10, 11, 12] (fun sv lv iv wr => ∃ j : Nat, j ≤ n ∧ iv = .int .i64 j ∧ sv = .int .i64 (kids ss us k j) ∧ lv = .bool (!anyP (ss.take j) k) ∧ Below w4.heap.size w4 wr) (fun _ _ iv _ => n - (intOf iv).toNat)
        case atStart => exact ⟨0, Nat.zero_le _, rfl, rfl, rfl, Below.refl _ _⟩
        case round =>
          obtain ⟨j, hj, rfl, rfl, rfl, hI⟩ := hrel
          have s01 := kids_in HV.out k j
          have s0 := s01.1
          have s1 : kids ss us k j ≤ 30000000000 := by omega
          clear s01
          by_cases hlt2 : j < n
          · have hci := hcr.keep hI
            have hci' := hcr'.keep hI
            obtain ⟨bj, offj, ej, hcellj⟩ := hci (by rw [HN.out]; omega)
            injection ej with ej
            injection ej with ej1 ej2 ej3
            subst ej1 ej2
            obtain ⟨sj, hsj⟩ := at_ ss j (by rw [HN.out]; exact hlt2)
            obtain ⟨g0, g1⟩ := hcellj j sj hsj
            obtain ⟨y, hy⟩ : ∃ y, hN ss us j = y := ⟨_, rfl⟩
            have y01 := hN_in HV.out j
            rw [hy] at y01
            obtain ⟨y0, y1⟩ := y01
            have j0 : (0 : Int) ≤ (j : Int) := by omega
            cases he : (sj.1 == (k : Int))
            · have HK := Lib.hid (kids_no (us := us) hsj he)
              have HA := Lib.hid (show anyP (ss.take (j + 1)) k = anyP (ss.take j) k from by rw [take_snoc hsj, any_snoc, he, Bool.or_false])
              clear hcellj hsj hy
              obtain ⟨pj, oj⟩ := sj
              dsimp only at g0 he
              go_wp2
              go_roundw
              case rel => exact ⟨j + 1, by omega, by go_num, by rw [HK.out], by rw [HA.out], hI⟩
              case measure => simp [intOf]; omega
            · have HK := Lib.hid (show kids ss us k (j + 1) = kids ss us k j + y from by rw [kids_yes hsj he, hy])
              have HA := Lib.hid (show anyP (ss.take (j + 1)) k = true from by rw [take_snoc hsj, any_snoc, he, Bool.or_true])
              have HY := Lib.hid hy
              clear hcellj hsj hy
              obtain ⟨pj, oj⟩ := sj
              dsimp only at g0 he
              go_wp2_with (fail)
              go_must (refine (held_n _ HN.out hci f1 HM.out hci' HV.out hlt2 HY.out).mono ?_)
              rintro e w5 ⟨rfl, hb5⟩
              have hI5 := Gen.over hb5 hI
              go_wp2
              go_roundw
              case rel => exact ⟨j + 1, by omega, by go_num, by rw [HK.out], by rw [HA.out]; rfl, hI5⟩
              case measure => simp [intOf]; omega
          · obtain rfl : n = j := by omega
            have hci := hcr.keep hI
            have dI := Gen.keep hI d0'
            have hWI := Gen.over hI hW4
            have hl : lf ss k = !anyP (ss.take n) k := by
              rw [List.take_of_length_le (by rw [HN.out]; exact Nat.le_refl _)]
              unfold lf
              rw [decide_eq_true (by rw [HN.out]; omega)]; rfl
            cases ha : lf ss k
            · have h1 := hN_node HV.out (show k < ss.length by rw [HN.out]; exact hlt) ha
              rw [HX.out, HN.out] at h1
              rw [← hl, ha, ← h1]
              have HL := Lib.hid ha
              clear ha hl h1 s0 s1
              go_wp2_with (fail)
              go_must (refine (bleaf_n _ HN.out hci f1 HR.out HL.out).mono ?_)
              rintro e w6 ⟨rfl, hb6⟩
              have hW6 := Gen.over hb6 hWI
              go_wp2
              exact ⟨⟨k + 1, by omega, by go_num, by rw [HT.out], by rw [HRT.out], hW6⟩, by simp [intOf]; omega⟩
            · have h1 := hN_leaf HV.out (show k < ss.length by rw [HN.out]; exact hlt) ha
              rw [HX.out, List.getD_eq_getElem?_getD, HU.out] at h1
              simp only [Option.getD_some] at h1
              subst h1
              rw [← hl, ha]
              have HL := Lib.hid ha
              clear ha hl s0 s1
              go_wp2_with (fail)
              go_must (refine (bleaf_n _ HN.out hci f1 HR.out HL.out).mono ?_)
              rintro e w6 ⟨rfl, hb6⟩
              have hW6 := Gen.over hb6 hWI
              go_wp2
              exact ⟨⟨k + 1, by omega, by go_num, by rw [HT.out], by rw [HRT.out], hW6⟩, by simp [intOf]; omega⟩
    · obtain rfl : n = k := by omega
      have h1 : rootS ss us n = total (us.take n) := by
        rw [List.take_of_length_le (by rw [HM.out]; exact Nat.le_refl _)]
        have := roots_all (us := us) (pre_of HR.out) (by rw [HM.out, HN.out])
        rwa [HN.out] at this
      rw [h1]
      have hW3 := Gen.over hW hB3
      clear h1 r0 r1
      go_wp2
      go_ret
      exact ⟨rfl, hW3⟩
theorem sums_any (A : Option Addr) (cap : Nat) (ss : List (Int × Int)) (A' : Option Addr) (cap' : Nat) (us : List Int) (w : World) (hc : Prs w A ss) (hbig : ss.length ≤ 9223372036854775807) (hc' : Ints w A' us) (hbig' : us.length ≤ 9223372036854775807) :
    Calls Try.prog 4 #[.slice A ss.length cap, .slice A' us.length cap'] w fun e w' => e = .returned (.bool true) ∧ Below w.heap.size w w' := by
  cases hf : (decide (ss.length ≤ 30) && decide (us.length ≤ 40))
  · exact sums_a A _ cap A' _ cap' w hbig hbig' hf
  · cases hv : vd ss us
    · exact sums_b A _ cap ss A' _ cap' us w rfl hc rfl hc' hf hv
    · have he := (vd_in hv).2.1
      rw [he] at hf ⊢
      exact sums_c A _ cap ss A' cap' us w rfl hc he hc' hf hv
end Go.Proofs.Ytggheoppbghjeaa.Book
