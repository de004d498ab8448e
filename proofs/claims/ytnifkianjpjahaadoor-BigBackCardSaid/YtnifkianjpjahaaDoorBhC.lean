/- Big integers: the highest bits. -/
import Derived.Test.YtnifkianjpjahaaDoorBhB
namespace Go.Proofs.YtnifkianjpjahaaDoor.Bg
open Go.ChangeShapes Go.WideShapes Go.ChangeAt Go.RowKit Go.Proofs.YtnifkianjpjahaaDoor.Cell
set_option linter.unusedVariables false
set_option linter.unusedSimpArgs false

theorem val_drop_div {a : List Int} (da : Dg a) (k : Nat) : val (a.drop k) = val a / pw k := by
  by_cases h : k ≤ a.length
  · have h1 := val_split a k h
    have h2 := val_nonneg (da.take k)
    have h3 := val_lt (da.take k)
    rw [List.length_take, Nat.min_eq_left h] at h3
    have := (Int.ediv_emod_unique (a := val a) (b := pw k) (r := val (a.take k)) (q := val (a.drop k)) (by have := pw_pos k; omega)).2 ⟨by omega, h2, h3⟩
    exact this.1.symm
  · rw [List.drop_of_length_le (by omega), val_nil]
    have h1 := val_lt da
    have h2 := pw_le (show a.length ≤ k by omega)
    exact (Int.ediv_eq_zero_of_lt (val_nonneg da) (by omega)).symm
theorem val_none {a : List Int} {k : Nat} (h : a.length ≤ k) : val (a.drop k) = 1048576 * val (a.drop (k + 1)) := by
  rw [List.drop_of_length_le h, List.drop_of_length_le (by omega), val_nil]; rfl
set_option maxRecDepth 100000 in
set_option maxHeartbeats 8000000 in
theorem lead_any {A : Option Addr} {n n' c : Nat} {a : List Int} (w : World) (hn : a.length = n') (ha : Ints w A a) (da : Dg a) (h4 : 4 ≤ n) (hl : n' ≤ n) (hbig : n ≤ 1000) :
    Calls Tryd.prog 66 #[.slice A n' c, .int .i64 n] w fun e w' => e = .returned (.int .i64 (val a / pw (n - 3))) ∧ w' = w := by
  have HN := Lib.hid hn
  have HDA := Lib.hid da
  have e1 : IntKind.i64.wrap ((n : Int) - 1) = ((n - 1 : Nat) : Int) := by rw [IntWalk.i64_in _ (by omega)]; omega
  have e3 : IntKind.i64.wrap ((n : Int) - 3) = (n : Int) - 3 := IntWalk.i64_in _ (by omega)
  have HV0 : Hid (0 = val (a.drop (n - 1 + 1))) := Lib.hid (by rw [List.drop_of_length_le (by omega)]; rfl)
  clear hn da
  go_enter Tryd.func66, Tryd.ntmps66
  go_wp2
  clear e1
  go_loopw [5, 6] (fun vv iv wr => ∃ (k : Nat) (v : Int), n - 4 ≤ k ∧ k ≤ n - 1 ∧ iv = .int .i64 k ∧ vv = .int .i64 v ∧ Hid (v = val (a.drop (k + 1))) ∧ wr = w) (fun _ iv _ => (intOf iv).toNat)
  case atStart => exact ⟨n - 1, 0, by omega, Nat.le_refl _, rfl, rfl, HV0, rfl⟩
  case round =>
    clear HV0
    obtain ⟨k, v, hk, hk', rfl, rfl, HV, rfl⟩ := hrel
    have k0 : (0 : Int) ≤ (k : Int) := by omega
    by_cases hlt : n - 3 ≤ k
    · have hltI : (n : Int) - 3 ≤ (k : Int) := by omega
      have hk1 : IntKind.i64.wrap ((k : Int) - 1) = ((k - 1 : Nat) : Int) := by rw [IntWalk.i64_in _ (by omega)]; omega
      have hv2 : 0 ≤ v ∧ v < 1099511627776 := by
        rw [HV.out]
        have h1 := val_nonneg (HDA.out.drop (k + 1))
        have h2 := val_lt (HDA.out.drop (k + 1))
        have h3 := pw_le (show (a.drop (k + 1)).length ≤ 2 by rw [List.length_drop, HN.out]; omega)
        rw [pw_2] at h3
        omega
      have hw1 : IntKind.i64.wrap (v * 1048576) = v * 1048576 := IntWalk.i64_in _ (by omega)
      by_cases hlb : k < n'
      · have hlbI : (k : Int) < (n' : Int) := by omega
        obtain ⟨bl, ol, rfl, hcell⟩ := ha (by rw [HN.out]; omega)
        obtain ⟨x, hx⟩ := at_ a k (by rw [HN.out]; exact hlb)
        have c0 := hcell k x hx
        have hor := or_join v x (by omega) (HDA.out.at_ hx)
        have HV2 : Hid (v * 1048576 + x = val (a.drop (k - 1 + 1))) := Lib.hid (by
          rw [show k - 1 + 1 = k by omega, val_drop hx, ← HV.out]; omega)
        clear hcell hx hv2
        go_wp2
        go_roundw
        case rel => exact ⟨k - 1, v * 1048576 + x, by omega, by omega, rfl, rfl, HV2, trivial⟩
        case measure => simp [intOf]; omega
      · have hlbI : ¬ ((k : Int) < (n' : Int)) := by omega
        have HV2 : Hid (v * 1048576 = val (a.drop (k - 1 + 1))) := Lib.hid (by
          rw [show k - 1 + 1 = k by omega, val_none (show a.length ≤ k by rw [HN.out]; omega), ← HV.out]; omega)
        clear hv2
        go_wp2
        go_roundw
        case rel => exact ⟨k - 1, v * 1048576, by omega, by omega, rfl, rfl, HV2, trivial⟩
        case measure => simp [intOf]; omega
    · have hltI : ¬ ((n : Int) - 3 ≤ (k : Int)) := by omega
      have HE : Hid (v = val a / pw (n - 3)) := Lib.hid (by
        rw [HV.out, show k + 1 = n - 3 by omega]; exact val_drop_div HDA.out _)
      go_wp2
      go_ret
      exact ⟨by rw [HE.out]; rfl, rfl⟩
end Go.Proofs.YtnifkianjpjahaaDoor.Bg
