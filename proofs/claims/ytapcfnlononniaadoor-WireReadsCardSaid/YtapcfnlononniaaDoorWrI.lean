/- Wire: lists compared, and what is read compared with a value. -/
import Derived.Test.YtapcfnlononniaaDoorWrH
import Derived.Deep.RegionHeld3
namespace Go.Proofs.YtapcfnlononniaaDoor.Wr
open Go.Lib Go.ChangeShapes Go.WideShapes Go.ChangeAt Go.RowKit Go.Proofs.YtapcfnlononniaaDoor.Cell
set_option linter.unusedVariables false
set_option linter.unusedSimpArgs false
set_option maxRecDepth 100000 in
set_option maxHeartbeats 4000000 in
theorem SameNums_eq {W : World} {A A' : Option Addr} {n c c' : Nat} {l : List Int} (hn : l.length = n) (h : Ints W A l) (h' : Ints W A' l) (hb : n ≤ 1000000000) :
    Calls Tryd.prog 30 #[.slice A n c, .slice A' n c'] W fun e w' => e = .returned (.bool true) ∧ Below W.heap.size W w' := by
  have HN := Lib.hid hn
  have H := Lib.hid h
  have H' := Lib.hid h'
  have hnn : ((n : Int) != (n : Int)) = false := by simp
  clear hn h h'
  go_enter Tryd.func30, Tryd.ntmps30
  go_wp2
  go_loopw [5] (fun iv wr => ∃ k : Nat, k ≤ n ∧ iv = .int .i64 k ∧ Hid (Below W.heap.size W wr)) (fun iv _ => n - (RowKit.intOf iv).toNat)
  case atStart => exact ⟨0, Nat.zero_le _, rfl, Lib.hid (Below.refl _ _)⟩
  case round =>
    obtain ⟨k, hk, rfl, HWr⟩ := hrel
    have k0 : (0 : Int) ≤ (k : Int) := by omega
    by_cases hlt : k < n
    · have hltI : (k : Int) < (n : Int) := by omega
      obtain ⟨x, hx⟩ := at_ l k (by rw [HN.out]; exact hlt)
      obtain ⟨b, off, rfl, hc⟩ := (H.out.keep HWr.out) (by rw [HN.out]; omega)
      obtain ⟨b', off', rfl, hc'⟩ := (H'.out.keep HWr.out) (by rw [HN.out]; omega)
      have c0 := hc k x hx
      have c1 := hc' k x hx
      have hxx : (x != x) = false := by simp
      clear hc hc' hx
      go_wp2
      go_quiet (fail)
      all_goals
        go_wp2
        go_roundw
        case rel => exact ⟨k + 1, by omega, by go_num, Lib.hid (by first | exact HWr.out.drew | exact Gen.dN HWr.out _)⟩
        case measure => simp [RowKit.intOf]; omega
    · obtain rfl : k = n := by omega
      go_wp2
      go_ret
      exact ⟨rfl, HWr.out⟩
set_option maxRecDepth 100000 in
set_option maxHeartbeats 4000000 in
theorem SameTexts_eq {W : World} {A A' : Option Addr} {n c c' : Nat} {l : List (List UInt8)} (hn : l.length = n) (h : Sts W A l) (h' : Sts W A' l) (hb : n ≤ 1000000000) :
    Calls Tryd.prog 33 #[.slice A n c, .slice A' n c'] W fun e w' => e = .returned (.bool true) ∧ Below W.heap.size W w' := by
  have HN := Lib.hid hn
  have H := Lib.hid h
  have H' := Lib.hid h'
  have hnn : ((n : Int) != (n : Int)) = false := by simp
  clear hn h h'
  go_enter Tryd.func33, Tryd.ntmps33
  go_wp2
  go_loopw [5] (fun iv wr => ∃ k : Nat, k ≤ n ∧ iv = .int .i64 k ∧ Hid (Below W.heap.size W wr)) (fun iv _ => n - (RowKit.intOf iv).toNat)
  case atStart => exact ⟨0, Nat.zero_le _, rfl, Lib.hid (Below.refl _ _)⟩
  case round =>
    obtain ⟨k, hk, rfl, HWr⟩ := hrel
    have k0 : (0 : Int) ≤ (k : Int) := by omega
    by_cases hlt : k < n
    · have hltI : (k : Int) < (n : Int) := by omega
      obtain ⟨x, hx⟩ := at_ l k (by rw [HN.out]; exact hlt)
      obtain ⟨b, off, rfl, hc⟩ := (H.out.keep HWr.out) (by rw [HN.out]; omega)
      obtain ⟨b', off', rfl, hc'⟩ := (H'.out.keep HWr.out) (by rw [HN.out]; omega)
      have c0 := hc k x hx
      have c1 := hc' k x hx
      have hxx : (x != x) = false := by simp
      clear hc hc' hx
      go_wp2
      go_quiet (fail)
      all_goals
        go_wp2
        go_roundw
        case rel => exact ⟨k + 1, by omega, by go_num, Lib.hid (by first | exact HWr.out.drew | exact Gen.dN HWr.out _)⟩
        case measure => simp [RowKit.intOf]; omega
    · obtain rfl : k = n := by omega
      go_wp2
      go_ret
      exact ⟨rfl, HWr.out⟩
end Go.Proofs.YtapcfnlononniaaDoor.Wr
