/- Big integers: decimal. -/
import Derived.Test.YtnifkianjpjahaaDoorBhO
namespace Go.Proofs.YtnifkianjpjahaaDoor.Bg
open Go.ChangeShapes Go.WideShapes Go.ChangeAt Go.RowKit Go.Proofs.YtnifkianjpjahaaDoor.Cell
set_option linter.unusedVariables false
set_option linter.unusedSimpArgs false

theorem byte_at {t : List UInt8} {j : Nat} {x : UInt8} (h : t[j]? = some x) : ∀ p : j < (ByteArray.mk t.toArray).size, (ByteArray.mk t.toArray)[j]'p = x := fun p => by
  have : (ByteArray.mk t.toArray)[j]'p = t.toArray[j]'p := rfl
  rw [this]
  have h2 : t.toArray[j]? = some x := by simpa using h
  exact (Array.getElem?_eq_some_iff.1 h2).2
set_option maxRecDepth 100000 in
theorem decimal_any (t : List UInt8) (w : World) (hl : t.length ≤ 9223372036854775807) : Calls Tryd.prog 45 #[.string ⟨t.toArray⟩] w fun e w' => e = .returned (.bool (decB t)) ∧ w' = w := by
  by_cases hne : t = []
  · subst hne
    go_enter Tryd.func45, Tryd.ntmps45
    go_wp2
    go_ret
    exact ⟨rfl, rfl⟩
  have hle : 0 < t.length := List.length_pos_iff.2 hne
  obtain ⟨a, ha⟩ := at_ t 0 hle
  have hx0 := byte_at ha
  have hq : t.isEmpty = false := by simp [hne]
  by_cases hld : 1 < t.length ∧ a = 48
  · have h1 : (1 : Int) < (t.length : Int) := by omega
    have HV : Hid (decB t = false) := Lib.hid (by
      unfold decB
      rw [decide_eq_false (fun h => h.2 ⟨by omega, by rw [ha, hld.2]⟩)]
      rfl)
    have h2 : ((a.toNat : Int) == 48) = true := by rw [hld.2]; rfl
    clear hld ha hne
    go_enter Tryd.func45, Tryd.ntmps45
    go_wp2
    go_ret
    exact ⟨ret_bool HV.out.symm, rfl⟩
  · have HV : Hid (decB t = t.all isDc) := Lib.hid (by
      unfold decB
      rw [decide_eq_true ⟨hne, fun h => hld ⟨h.1, by have := h.2; rw [ha] at this; injection this⟩⟩, Bool.true_and])
    have HH := Lib.hid ha
    have hc : (t.length : Int) ≤ 1 ∨ ((1 : Int) < (t.length : Int) ∧ ((a.toNat : Int) == 48) = false) := by
      by_cases h1 : 1 < t.length
      · refine .inr ⟨by omega, ?_⟩
        have : a ≠ 48 := fun e => hld ⟨h1, e⟩
        have h3 : a.toNat ≠ 48 := fun e => this (UInt8.toNat_inj.1 (by rw [e]; rfl))
        simp
        omega
      · exact .inl (by omega)
    clear hld ha hne
    have loop : ∀ (b : Bool) (k : Nat), True := fun _ _ => trivial
    rcases hc with h1 | ⟨h1, h2⟩
    all_goals
      go_enter Tryd.func45, Tryd.ntmps45
      go_wp2
      go_loopw [18] (fun iv wr => ∃ k : Nat, k ≤ t.length ∧ iv = .int .i64 k ∧ Hid ((t.take k).all isDc = true) ∧ wr = w) (fun iv _ => t.length - (intOf iv).toNat)
      case atStart => exact ⟨0, Nat.zero_le _, rfl, Lib.hid rfl, rfl⟩
      case round =>
        obtain ⟨k, hk, rfl, HA, rfl⟩ := hrel
        have k0 : (0 : Int) ≤ (k : Int) := by omega
        by_cases hlt : k < t.length
        · have hltI : (k : Int) < (t.length : Int) := by omega
          obtain ⟨x, hx⟩ := at_ t k hlt
          have hb := byte_at hx
          by_cases hd : isDc x = true
          · have hd' := of_decide_eq_true hd
            have u1 : ¬ ((x.toNat : Int) < 48) := by omega
            have u2 : ¬ ((57 : Int) < (x.toNat : Int)) := by omega
            have HA2 : Hid ((t.take (k + 1)).all isDc = true) := Lib.hid (by rw [take_snoc hx, List.all_append, HA.out]; simp [hd])
            clear hd hd' hx
            go_wp2
            go_roundw
            case rel => exact ⟨k + 1, by omega, by go_num, HA2, trivial⟩
            case measure => simp [intOf]; omega
          · have hv : Hid (decB t = false) := Lib.hid (by
              rw [HV.out]
              refine List.all_eq_false.2 ⟨x, List.mem_of_getElem? hx, hd⟩)
            by_cases u1 : (x.toNat : Int) < 48
            · clear hd hx
              go_wp2
              go_ret
              exact ⟨ret_bool hv.out.symm, rfl⟩
            · have u2 : (57 : Int) < (x.toNat : Int) := by
                rcases Int.lt_or_le 57 (x.toNat : Int) with h | h
                · exact h
                · exact absurd (decide_eq_true (by omega)) hd
              clear hd hx
              go_wp2
              go_ret
              exact ⟨ret_bool hv.out.symm, rfl⟩
        · obtain rfl : t.length = k := by omega
          have hv : Hid (decB t = true) := Lib.hid (by
            have h := HA.out
            rw [List.take_length] at h
            rw [HV.out, h])
          go_wp2
          go_ret
          exact ⟨ret_bool hv.out.symm, rfl⟩
/-- a string without its sign -/
theorem cut_minus (s : List UInt8) (w : World) : Calls Tryd.prog 44 #[.string ⟨s.toArray⟩, .string ⟨#[45]⟩] w fun e w' => (∃ t, s = 45 :: t ∧ e = .returned (.tuple #[.string ⟨t.toArray⟩, .bool true]) ∧ w' = w) ∨ (s[0]? ≠ some 45 ∧ e = .returned (.tuple #[.string ⟨s.toArray⟩, .bool false]) ∧ w' = w) := by
  refine (Tryd.strings_CutPrefix ⟨s.toArray⟩ ⟨#[45]⟩ w).mono fun e w' ⟨h1, h2⟩ => ?_
  subst h2
  cases s with
  | nil => exact .inr ⟨by simp, h1, rfl⟩
  | cons a t =>
    by_cases ha : a = 45
    · subst ha
      refine .inl ⟨t, rfl, ?_, rfl⟩
      rw [h1]
      simp [Lib.trimPrefix, Lib.hasPrefix]
    · refine .inr ⟨by simpa using ha, ?_, rfl⟩
      rw [h1]
      have ha' : ¬ 45 = a := fun e => ha e.symm
      simp [Lib.trimPrefix, Lib.hasPrefix, ha', List.isPrefixOf]
end Go.Proofs.YtnifkianjpjahaaDoor.Bg
