/- Post: lists compared; Again. -/
import Derived.Test.YtefikmfogbdhpaaPoF
import Derived.BigQuiet
namespace Go.Proofs.Ytefikmfogbdhpaa.Po
open Go.ChangeShapes Go.WideShapes Go.ChangeAt Go.RowKit Go.Proofs.Ytefikmfogbdhpaa.Cell
set_option linter.unusedVariables false
set_option linter.unusedSimpArgs false

set_option maxRecDepth 100000 in
set_option maxHeartbeats 4000000 in
theorem ints_eq {A A' : Option Addr} {n c c' : Nat} {l : List Int} (w : World) (hn : l.length = n) (hc : Ints w A l) (hc' : Ints w A' l) (hbig : n ≤ 1000000) :
    Calls Try.prog 18 #[.slice A n c, .slice A' n c'] w fun e w' => e = .returned (.bool true) ∧ Below w.heap.size w w' := by
  have HN := Lib.hid hn
  have HC := Lib.hid hc
  have HC' := Lib.hid hc'
  have hnn : ((n : Int) != (n : Int)) = false := by simp
  clear hn hc hc'
  go_enter Try.func18, Try.ntmps18
  go_wp2
  clear hnn
  go_loopw [5] (fun iv wr => ∃ k : Nat, k ≤ n ∧ iv = .int .i64 k ∧ Hid (Below w.heap.size w wr)) (fun iv _ => n - (intOf iv).toNat)
  case atStart => exact ⟨0, Nat.zero_le _, rfl, Lib.hid (Below.refl _ _)⟩
  case round =>
    obtain ⟨k, hk, rfl, HB⟩ := hrel
    have k0 : (0 : Int) ≤ (k : Int) := by omega
    by_cases hlt : k < n
    · have hltI : (k : Int) < (n : Int) := by omega
      obtain ⟨x, hx⟩ := at_ l k (by rw [HN.out]; exact hlt)
      obtain ⟨b, off, rfl, hcell⟩ := (HC.out.keep HB.out) (by rw [HN.out]; omega)
      obtain ⟨b', off', rfl, hcell'⟩ := (HC'.out.keep HB.out) (by rw [HN.out]; omega)
      have c0 := hcell k x hx
      have e0 := hcell' k x hx
      have h0 : (x != x) = false := by simp
      clear hcell hcell' hx
      go_wp2
      go_quiet (fail)
      go_wp2
      go_roundw
      case rel => exact ⟨k + 1, by omega, by go_num, Lib.hid (Gen.dN HB.out _)⟩
      case measure => simp [intOf]; omega
    · obtain rfl : k = n := by omega
      go_wp2
      go_ret
      exact ⟨rfl, HB.out⟩
set_option maxRecDepth 100000 in
set_option maxHeartbeats 4000000 in
theorem same_eq {A A' : Option Addr} {n c c' : Nat} {l : List En} (w : World) (hn : l.length = n) (hc : Ens w A l) (hc' : Ens w A' l) (hbig : n ≤ 1000000) :
    Calls Try.prog 16 #[.slice A n c, .slice A' n c'] w fun e w' => e = .returned (.bool true) ∧ Below w.heap.size w w' := by
  have HN := Lib.hid hn
  have HC := Lib.hid hc
  have HC' := Lib.hid hc'
  have hnn : ((n : Int) != (n : Int)) = false := by simp
  clear hn hc hc'
  go_enter Try.func16, Try.ntmps16
  go_wp2
  clear hnn
  go_loopw [5] (fun iv wr => ∃ k : Nat, k ≤ n ∧ iv = .int .i64 k ∧ Hid (Below w.heap.size w wr)) (fun iv _ => n - (intOf iv).toNat)
  case atStart => exact ⟨0, Nat.zero_le _, rfl, Lib.hid (Below.refl _ _)⟩
  case round =>
    obtain ⟨k, hk, rfl, HB⟩ := hrel
    have k0 : (0 : Int) ≤ (k : Int) := by omega
    by_cases hlt : k < n
    · have hltI : (k : Int) < (n : Int) := by omega
      obtain ⟨x, hx⟩ := at_ l k (by rw [HN.out]; exact hlt)
      obtain ⟨b, off, rfl, hcell⟩ := (HC.out.keep HB.out) (by rw [HN.out]; omega)
      obtain ⟨b', off', rfl, hcell'⟩ := (HC'.out.keep HB.out) (by rw [HN.out]; omega)
      obtain ⟨c0, c1, c2, c3, c4⟩ := hcell k x hx
      obtain ⟨e0, e1, e2, e3, e4⟩ := hcell' k x hx
      clear hcell hcell' hx
      obtain ⟨x0, x1, x2, x3, x4⟩ := x
      dsimp only at c0 c1 c2 c3 c4 e0 e1 e2 e3 e4
      have h0 : (x0 != x0) = false := by simp
      have h1 : (x1 != x1) = false := by simp
      have h2 : (x2 != x2) = false := by simp
      have h3 : (x3 != x3) = false := by simp
      have h4 : (x4 != x4) = false := by simp
      go_wp2
      go_quiet (fail)
      go_wp2
      go_roundw
      case rel => exact ⟨k + 1, by omega, by go_num, Lib.hid (Gen.dN HB.out _)⟩
      case measure => simp [intOf]; omega
    · obtain rfl : k = n := by omega
      go_wp2
      go_ret
      exact ⟨rfl, HB.out⟩
end Go.Proofs.Ytefikmfogbdhpaa.Po
