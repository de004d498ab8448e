/- Facts: names, of the program and of the reference. -/
import Derived.Test.YtcnfonhcgcblgaaFcP
import Derived.Test.YtcnfonhcgcblgaaRsL
import Derived.BigQuiet
namespace Go.Proofs.Ytcnfonhcgcblgaa.Fc
open Go.Lib Go.ChangeShapes Go.WideShapes Go.ChangeAt Go.RowKit Go.Proofs.Ytcnfonhcgcblgaa.Cell Go.Proofs.Ytcnfonhcgcblgaa.Wd Go.Proofs.Ytcnfonhcgcblgaa.Rk
set_option linter.unusedVariables false
set_option linter.unusedSimpArgs false
theorem has_resv {l w : List UInt8} (hw : resv.contains w = true) (h : (l == w) = true) : resv.contains l = true := by
  rw [beq_iff_eq] at h
  rw [h]
  exact hw
set_option maxRecDepth 100000 in
set_option maxHeartbeats 8000000 in
theorem reserved_any {l : List UInt8} {W : World} : Calls Try.prog 71 #[.string ⟨l.toArray⟩] W fun e w' => e = .returned (.bool (resv.contains l)) ∧ w' = W := by
  go_enter Try.func71, Try.ntmps71
  go_wp2
  all_goals
    first
      | (exfalso
         rename_i ha hb
         rw [ha] at hb
         cases hb
         done)
      | (rename_i ha
         have hr := has_resv (by decide) ha
         go_ret
         exact ⟨ret_bool hr.symm, rfl⟩)
      | (have hr : resv.contains l = false := by
           unfold resv
           simp only [List.contains_cons, *]
           rfl
         go_ret
         exact ⟨ret_bool (by first | exact hr.symm | (rw [hr]; assumption)), rfl⟩)
      | (trace_state
         fail "reserved")
theorem name_any {l : List UInt8} {W : World} (hl : l.length ≤ 1000000000) : Calls Try.prog 63 #[.string ⟨l.toArray⟩] W fun e w' => e = .returned (.bool (isName l)) ∧ w' = W := by
  have HN : Hid (isName l = (isWord l && !resv.contains l)) := Lib.hid rfl
  have HW := Lib.hid (word_any (W := W) hl)
  have HR := Lib.hid (reserved_any (l := l) (W := W))
  obtain ⟨a, ha⟩ : ∃ a, isWord l = a := ⟨_, rfl⟩
  obtain ⟨b, hb⟩ : ∃ b, resv.contains l = b := ⟨_, rfl⟩
  rw [ha, hb] at HN
  rw [ha] at HW
  rw [hb] at HR
  clear ha hb
  go_enter Try.func63, Try.ntmps63
  go_wp2_with (fail)
  go_must (refine (HW.out).mono ?_)
  rintro e w1 ⟨rfl, hw⟩
  have hw := hw.symm
  subst hw
  cases a
  · go_wp2
    go_ret
    exact ⟨ret_bool (by rw [HN.out]; rfl), rfl⟩
  · go_wp2_with (fail)
    go_must (refine (HR.out).mono ?_)
    rintro e w1 ⟨rfl, hw⟩
    have hw := hw.symm
    subst hw
    go_wp2
    go_ret
    exact ⟨ret_bool (by rw [HN.out]; cases b <;> rfl), rfl⟩
def s1 (x : List UInt8) : List Value := [.string ⟨x.toArray⟩]
set_option maxRecDepth 100000 in
set_option maxHeartbeats 4000000 in
theorem rReserved_any {W : World} : Calls Try.prog 72 #[] W fun e w' => ∃ g, e = .returned (.slice (some ⟨g, 0, none⟩) 50 50) ∧ Rs s1 1 w' (some ⟨g, 0, none⟩) resv ∧ Below W.heap.size W w' := by
  go_enter Try.func72, Try.ntmps72
  go_wp2
  refine bodyPost_ret (v := .slice (some ⟨W.heap.size, 0, none⟩) 50 50) (by simp [results, Try.results72, go_sem]) rfl ?_
  exact ⟨W.heap.size, rfl, rs_row (f := s1) (K := 1) (n := 50) (fun _ => rfl) (t := 9) (Row.new _ _ _) rfl rfl (by simp [maxLen]), Gen.b_alloc (Below.refl _ _)⟩
set_option maxRecDepth 100000 in
set_option maxHeartbeats 4000000 in
theorem rname_any {l : List UInt8} {W : World} (hl : l.length ≤ 1000000000) : Calls Try.prog 64 #[.string ⟨l.toArray⟩] W fun e w' => e = .returned (.bool (isName l)) ∧ Below W.heap.size W w' := by
  have HN : Hid (isName l = (isWord l && !resv.contains l)) := Lib.hid rfl
  have HW := Lib.hid (fun W' => rword_any (l := l) (W := W') hl)
  obtain ⟨a, ha⟩ : ∃ a, isWord l = a := ⟨_, rfl⟩
  obtain ⟨b, hb⟩ : ∃ b, resv.contains l = b := ⟨_, rfl⟩
  rw [ha, hb] at HN
  rw [ha] at HW
  have HBB := Lib.hid (show (resv.drop 0).contains l = b from hb)
  clear ha hb
  go_enter Try.func64, Try.ntmps64
  go_wp2_with (fail)
  go_must (refine (rReserved_any).mono ?_)
  rintro e w1 ⟨g, rfl, hr, hB⟩
  have HR := Lib.hid hr
  have HB := Lib.hid hB
  have hlen : resv.length = 50 := rfl
  clear hr hB
  go_wp2_with (fail)
  go_loopw [4] (fun iv wr => ∃ k : Nat, k ≤ 50 ∧ iv = .int .i64 k ∧ Hid ((resv.drop k).contains l = b) ∧ w1 = wr) (fun iv _ => 50 - (RowKit.intOf iv).toNat)
  case atStart => exact ⟨0, by omega, rfl, HBB, rfl⟩
  case round =>
    obtain ⟨k, hk, rfl, HA, hww⟩ := hrel
    subst hww
    have k0 : (0 : Int) ≤ (k : Int) := by omega
    by_cases hlt : k < 50
    · have hltI : (k : Int) < 50 := by omega
      obtain ⟨x, hx⟩ := at_ resv k (by rw [hlen]; exact hlt)
      have c0 := HR.out.at hx (r := 0) rfl
      rw [Nat.mul_one, Nat.add_zero, Nat.zero_add] at c0
      have hA := HA.out
      rw [(List.drop_eq_getElem_cons (by rw [hlen]; exact hlt) : resv.drop k = _), (List.getElem?_eq_some_iff.1 hx).2, List.contains_cons] at hA
      clear hx hlt
      by_cases e : x = l
      · have he : (x == l) = true := by simp [e]
        obtain rfl : b = true := by rw [← hA, show (l == x) = true by simp [e]]; rfl
        clear hA HA
        go_wp2
        go_ret
        exact ⟨ret_bool (by rw [HN.out]; simp), HB.out⟩
      · have he : (x == l) = false := by simp [e]
        have HA2 : Hid ((resv.drop (k + 1)).contains l = b) := Lib.hid (by rw [← hA, show (l == x) = false by simp; exact fun c => e c.symm, Bool.false_or])
        clear hA HA
        go_wp2
        go_roundw
        case rel => first | exact ⟨k + 1, by omega, by go_num, HA2, rfl⟩ | exact ⟨k + 1, by omega, by go_num, HA2, trivial⟩ | exact ⟨k + 1, by omega, by go_num, HA2⟩
        case measure => simp [RowKit.intOf]; omega
    · obtain rfl : k = 50 := by omega
      obtain rfl : b = false := by have := HA.out; rw [← this]; rfl
      clear hlt HA
      go_wp2_with (fail)
      go_must (refine (HW.out _).mono ?_)
      rintro e w2 ⟨rfl, hw⟩
      have hw := hw.symm
      subst hw
      go_wp2
      go_ret
      exact ⟨ret_bool (by rw [HN.out]; simp), HB.out⟩
end Go.Proofs.Ytcnfonhcgcblgaa.Fc
