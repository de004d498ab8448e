/- Bearer pieces: the reference's Right. -/
import Derived.Test.YthphlaijkknefaaBeaM
namespace Go.Proofs.Ythphlaijkknefaa.Bea
open Go.ChangeShapes Go.WideShapes Go.ChangeAt Go.RowKit Go.Proofs.Ythphlaijkknefaa.Cell
set_option linter.unusedVariables false
set_option linter.unusedSimpArgs false
theorem seat_any (d : Int) (w : World) : Calls Try.prog 28 #[.int .i64 d] w fun e w' => e = .returned (.bool (decide (0 ≤ d ∧ d < 20000))) ∧ w = w' := by
  by_cases h0 : 0 ≤ d
  · by_cases h1 : d < 20000
    · rw [decide_eq_true ⟨h0, h1⟩]
      go_enter Try.func28, Try.ntmps28
      go_wp2
      go_ret
      exact ⟨rfl, rfl⟩
    · rw [decide_eq_false (by omega)]
      go_enter Try.func28, Try.ntmps28
      go_wp2
      go_ret
      exact ⟨rfl, rfl⟩
  · rw [decide_eq_false (by omega)]
    go_enter Try.func28, Try.ntmps28
    go_wp2
    go_ret
    exact ⟨rfl, rfl⟩
theorem day_any (d : Int) (w : World) : Calls Try.prog 29 #[.int .i64 d] w fun e w' => e = .returned (.bool (decide (0 ≤ d ∧ d ≤ 200000))) ∧ w = w' := by
  by_cases h0 : 0 ≤ d
  · by_cases h1 : d ≤ 200000
    · rw [decide_eq_true ⟨h0, h1⟩]
      go_enter Try.func29, Try.ntmps29
      go_wp2
      go_ret
      exact ⟨rfl, rfl⟩
    · rw [decide_eq_false (by omega)]
      go_enter Try.func29, Try.ntmps29
      go_wp2
      go_ret
      exact ⟨rfl, rfl⟩
  · rw [decide_eq_false (by omega)]
    go_enter Try.func29, Try.ntmps29
    go_wp2
    go_ret
    exact ⟨rfl, rfl⟩
set_option maxRecDepth 100000 in
set_option maxHeartbeats 8000000 in
theorem rRight_any (A : Option Addr) (n cap : Nat) (l : List Pc) (w : World) (hn : l.length = n) (hc : Pcl w A l) (hsz : ∀ x ∈ l, x.pd.length ≤ 9223372036854775807) (hbig : n ≤ 9223372036854775807) :
    Calls Try.prog 15 #[.slice A n cap] w fun e w' => e = .returned (.bool (rgtL l)) ∧ Below w.heap.size w w' := by
  have HN := Lib.hid hn
  have HSZ := Lib.hid hsz
  clear hsz
  by_cases h0 : n ≤ 1000
  · have h0I : (n : Int) ≤ 1000 := by omega
    clear hn
    go_enter Try.func15, Try.ntmps15
    go_wp2
    go_loopw [3] (fun iv wr => ∃ k : Nat, k ≤ n ∧ iv = .int .i64 k ∧ Hid (∀ y ∈ l.take k, rgtP y = true) ∧ Hid (Below w.heap.size w wr)) (fun iv _ => n - (intOf iv).toNat)
    case atStart => exact ⟨0, Nat.zero_le _, rfl, Lib.hid (by simp), Lib.hid (Below.refl _ _)⟩
    case round =>
      obtain ⟨k, hk, rfl, HA, HB⟩ := hrel
      have k0 : (0 : Int) ≤ (k : Int) := by omega
      by_cases hlt : k < n
      · have hltI : (k : Int) < (n : Int) := by omega
        obtain ⟨b, off, rfl, hcell⟩ := (hc.keep HB.out) (by rw [HN.out]; omega)
        obtain ⟨x, hx⟩ := at_ l k (by rw [HN.out]; exact hlt)
        obtain ⟨c0, c1, ⟨A2, c2, c2', _⟩, c3, c4⟩ := hcell k x hx
        have HX := Lib.hid hx
        have hs := HSZ.out x (mem_of_at hx)
        clear hcell hx
        obtain ⟨xi, xu, xp, xl, xs⟩ := x
        dsimp only at c0 c1 c2' c3 c4 hs
        have HB2 := Lib.hid (Gen.b_alloc (x := .cells #[.int .i64 xi, .int .i64 xu, .slice A2 xp.length c2, .int .i64 xl, .int .i64 xs] 36) HB.out)
        by_cases e0 : 0 ≤ xi
        case neg =>
          have HF := Lib.hid (rgtL_no (mem_of_at HX.out) (show rgtP ⟨xi, xu, xp, xl, xs⟩ = false from decide_eq_false (by dsimp only; omega)))
          go_wp2
          go_ret
          exact ⟨ret_bool HF.out.symm, HB2.out⟩
        by_cases e1 : xi < 400
        case neg =>
          have HF := Lib.hid (rgtL_no (mem_of_at HX.out) (show rgtP ⟨xi, xu, xp, xl, xs⟩ = false from decide_eq_false (by dsimp only; omega)))
          go_wp2
          go_ret
          exact ⟨ret_bool HF.out.symm, HB2.out⟩
        by_cases e2 : 1 ≤ xu
        case neg =>
          have HF := Lib.hid (rgtL_no (mem_of_at HX.out) (show rgtP ⟨xi, xu, xp, xl, xs⟩ = false from decide_eq_false (by dsimp only; omega)))
          go_wp2
          go_ret
          exact ⟨ret_bool HF.out.symm, HB2.out⟩
        by_cases e3 : xu ≤ 1000000000
        case neg =>
          have HF := Lib.hid (rgtL_no (mem_of_at HX.out) (show rgtP ⟨xi, xu, xp, xl, xs⟩ = false from decide_eq_false (by dsimp only; omega)))
          go_wp2
          go_ret
          exact ⟨ret_bool HF.out.symm, HB2.out⟩
        by_cases e4 : (xp.length : Int) ≤ 400
        case neg =>
          have HF := Lib.hid (rgtL_no (mem_of_at HX.out) (show rgtP ⟨xi, xu, xp, xl, xs⟩ = false from decide_eq_false (by dsimp only; omega)))
          go_wp2
          go_ret
          exact ⟨ret_bool HF.out.symm, HB2.out⟩
        by_cases e5 : -1 ≤ xl
        case neg =>
          have HF := Lib.hid (rgtL_no (mem_of_at HX.out) (show rgtP ⟨xi, xu, xp, xl, xs⟩ = false from decide_eq_false (by dsimp only; omega)))
          go_wp2
          go_ret
          exact ⟨ret_bool HF.out.symm, HB2.out⟩
        by_cases e6 : xl ≤ 200000
        case neg =>
          have HF := Lib.hid (rgtL_no (mem_of_at HX.out) (show rgtP ⟨xi, xu, xp, xl, xs⟩ = false from decide_eq_false (by dsimp only; omega)))
          go_wp2
          go_ret
          exact ⟨ret_bool HF.out.symm, HB2.out⟩
        by_cases e7 : -1 ≤ xs
        case neg =>
          have HF := Lib.hid (rgtL_no (mem_of_at HX.out) (show rgtP ⟨xi, xu, xp, xl, xs⟩ = false from decide_eq_false (by dsimp only; omega)))
          go_wp2
          go_ret
          exact ⟨ret_bool HF.out.symm, HB2.out⟩
        by_cases e8 : xs < 20000
        case neg =>
          have HF := Lib.hid (rgtL_no (mem_of_at HX.out) (show rgtP ⟨xi, xu, xp, xl, xs⟩ = false from decide_eq_false (by dsimp only; omega)))
          go_wp2
          go_ret
          exact ⟨ret_bool HF.out.symm, HB2.out⟩
        by_cases hl : xl = -1
        · have hlb : (xl == -1) = true := by rw [hl]; rfl
          by_cases hs2 : xs = -1
          · have hsb : (xs != -1) = false := by rw [hs2]; rfl
            have HF : Hid (∀ y ∈ l.take (k + 1), rgtP y = true) := Lib.hid (fun y hy => by
              rw [take_snoc HX.out, List.mem_append] at hy
              rcases hy with hy | hy
              · exact HA.out y hy
              · rw [List.mem_singleton.1 hy]; exact decide_eq_true (by dsimp only; omega))
            clear hl hs2
            go_wp2
            go_roundw
            case rel => exact ⟨k + 1, by omega, by go_num, HF, HB2⟩
            case measure => simp [intOf]; omega
          · have hsb : (xs != -1) = true := by simpa using hs2
            have HF := Lib.hid (rgtL_no (mem_of_at HX.out) (show rgtP ⟨xi, xu, xp, xl, xs⟩ = false from decide_eq_false (by dsimp only; omega)))
            clear hl hs2
            go_wp2
            go_ret
            exact ⟨ret_bool HF.out.symm, HB2.out⟩
        · have hlb : (xl == -1) = false := by simpa using hl
          have HF : Hid (∀ y ∈ l.take (k + 1), rgtP y = true) := Lib.hid (fun y hy => by
            rw [take_snoc HX.out, List.mem_append] at hy
            rcases hy with hy | hy
            · exact HA.out y hy
            · rw [List.mem_singleton.1 hy]; exact decide_eq_true (by dsimp only; omega))
          go_wp2
          go_roundw
          case rel => exact ⟨k + 1, by omega, by go_num, HF, HB2⟩
          case measure => simp [intOf]; omega
      · obtain rfl : k = n := by omega
        have HF := Lib.hid (rgtL_yes (l := l) (by rw [HN.out]; exact h0) (fun y hy => HA.out y (by rw [List.take_of_length_le (by rw [HN.out]; exact Nat.le_refl _)]; exact hy)))
        go_wp2
        go_ret
        exact ⟨ret_bool HF.out.symm, HB.out⟩
  · have h0I : (1000 : Int) < (n : Int) := by omega
    have HF : Hid (rgtL l = false) := Lib.hid (by unfold rgtL; rw [decide_eq_false (by rw [hn]; exact h0)]; rfl)
    clear hn
    go_enter Try.func15, Try.ntmps15
    go_wp2
    go_ret
    exact ⟨ret_bool HF.out.symm, Below.refl _ _⟩
end Go.Proofs.Ythphlaijkknefaa.Bea
