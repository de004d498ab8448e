/- Wire: the reference's Back. -/
import Derived.Test.YtapcfnlononniaaDoorWrM
namespace Go.Proofs.YtapcfnlononniaaDoor.Wr
open Go.Lib Go.ChangeShapes Go.WideShapes Go.ChangeAt Go.RowKit Go.Proofs.YtapcfnlononniaaDoor.Cell
set_option linter.unusedVariables false
set_option linter.unusedSimpArgs false
theorem wr_in (n : Int) : I64 (IntKind.i64.wrap n) := by
  unfold I64
  simp [IntKind.wrap, IntKind.bits, IntKind.signed]
  omega
/-- one digit more -/
def stp (n : Int) (c : UInt8) : Int := IntKind.i64.wrap (IntKind.i64.wrap (10 * n) - ((c.toNat : Int) - 48))
theorem stp_dig {n d : Nat} (hd : d < 10) (h : 10 * n + d ≤ 9223372036854775808) : stp (-(n : Int)) (UInt8.ofNat (48 + d)) = -((10 * n + d : Nat) : Int) := by
  unfold stp
  rw [dig_nat hd, IntWalk.i64_in (10 * -(n : Int)) (by omega), IntWalk.i64_in _ (by omega)]
  omega
theorem fold_dec (u : Nat) : u ≤ 9223372036854775808 → (decDigits u).foldl stp 0 = -(u : Int) := by
  induction u using dec_ind with
  | h0 u h =>
    intro _
    rw [dec_step, if_pos h]
    show stp 0 _ = _
    have := stp_dig (n := 0) h (by omega)
    simpa using this
  | h1 u h ih =>
    intro hu
    rw [dec_step, if_neg (by omega), List.foldl_append, ih (by omega)]
    show stp _ _ = _
    rw [stp_dig (by omega) (by omega)]
    omega
theorem fold_in : ∀ (l : List UInt8) (n : Int), I64 n → I64 (l.foldl stp n)
  | [], n, h => h
  | c :: l, n, h => fold_in l _ (wr_in _)
def fr (l : List UInt8) : Nat := if l.head? = some 45 then 1 else 0
def bck (l : List UInt8) : Int := if fr l = 0 then IntKind.i64.wrap (-((l.drop (fr l)).foldl stp 0)) else (l.drop (fr l)).foldl stp 0
theorem fr_dec (u : Nat) : fr (decDigits u) = 0 := by
  unfold fr
  cases h : decDigits u with
  | nil => exact absurd h (dec_ne u)
  | cons c r =>
    have hc := (dig_in u c (by rw [h]; exact List.mem_cons_self)).1
    rw [if_neg]
    intro e
    simp at e
    subst e
    simp at hc
theorem fr_itoa {v : Int} (h : v < 0) : fr (itoa v) = 1 := by
  unfold itoa
  rw [if_pos h]
  rfl
theorem bck_itoa {v : Int} (hv : I64 v) : bck (itoa v) = v := by
  unfold I64 at hv
  unfold bck
  by_cases h : v < 0
  · rw [fr_itoa h, if_neg (by decide)]
    unfold itoa
    rw [if_pos h]
    show (decDigits v.natAbs).foldl stp 0 = v
    rw [fold_dec _ (by omega)]
    omega
  · have e : itoa v = decDigits v.toNat := by unfold itoa; rw [if_neg h]
    rw [e, fr_dec, if_pos rfl, List.drop_zero, fold_dec _ (by omega), IntWalk.i64_in _ (by omega)]
    omega
/-- behind the sign an int's form has digits alone -/
theorem itoa_dig {v : Int} {c : UInt8} {k : Nat} (hk : fr (itoa v) ≤ k) (h : (itoa v)[k]? = some c) : 48 ≤ c.toNat ∧ c.toNat ≤ 57 := by
  by_cases hv : v < 0
  · rw [fr_itoa hv] at hk
    unfold itoa at h
    rw [if_pos hv] at h
    obtain ⟨j, rfl⟩ : ∃ j, k = j + 1 := ⟨k - 1, by omega⟩
    rw [List.getElem?_cons_succ] at h
    exact dig_in _ c (List.mem_of_getElem? h)
  · have e : itoa v = decDigits v.toNat := by unfold itoa; rw [if_neg hv]
    rw [e] at h
    exact dig_in _ c (List.mem_of_getElem? h)
theorem fold_snoc {l : List UInt8} {F k : Nat} {c : UInt8} (hF : F ≤ k) (h : l[k]? = some c) : ((l.drop F).take (k + 1 - F)).foldl stp 0 = stp (((l.drop F).take (k - F)).foldl stp 0) c := by
  have e : (l.drop F)[k - F]? = some c := by rw [List.getElem?_drop, show F + (k - F) = k by omega]; exact h
  rw [show k + 1 - F = (k - F) + 1 by omega, take_snoc e, List.foldl_append]
  rfl
theorem bck_in (l : List UInt8) : I64 (bck l) := by
  unfold bck
  split
  · exact wr_in _
  · exact fold_in _ 0 ⟨by decide, by decide⟩
def BackP (W : World) (l : List UInt8) (e : Ending) (w' : World) : Prop :=
  ((∃ v, I64 v ∧ itoa v = l ∧ e = .returned (.tuple #[.int .i64 v, .bool true])) ∨ ((∀ v, I64 v → itoa v ≠ l) ∧ ∃ v, e = .returned (.tuple #[.int .i64 v, .bool false]))) ∧ Below W.heap.size W w'
section
variable {W : World} {l : List UInt8}
set_option maxRecDepth 100000 in
set_option maxHeartbeats 8000000 in
theorem rback_nil (hl : l.length ≤ 21) (h : l = []) :
    Calls Tryd.prog 64 #[.string ⟨l.toArray⟩] W (BackP W l) := by
  have hz : (⟨l.toArray⟩ : ByteArray).size = l.length := by simp [ByteArray.size]
  have HFR : Hid (fr l = 0) := Lib.hid (by subst h; rfl)
  obtain ⟨F, hF⟩ : ∃ F, (0 : Nat) = F := ⟨_, rfl⟩
  have hFl : F ≤ l.length := by omega
  have h0 : (l.length : Int) = 0 := by subst h; rfl
  clear h
  rw [hF] at HFR
  have HF0 := Lib.hid hF
  clear hF
  go_enter Tryd.func64, Tryd.ntmps64
  go_wp2
  clear h0
  go_loopw [5, 6] (fun nv iv wr => ∃ k : Nat, F ≤ k ∧ k ≤ l.length ∧ iv = .int .i64 k ∧ nv = .int .i64 (((l.drop F).take (k - F)).foldl stp 0) ∧ Hid (Below W.heap.size W wr)) (fun _ iv _ => l.length - (RowKit.intOf iv).toNat)
  case atStart => exact ⟨F, Nat.le_refl _, hFl, by rw [← HF0.out]; rfl, by rw [Nat.sub_self]; rfl, Lib.hid (Below.refl _ _)⟩
  case round =>
    obtain ⟨k, hFk, hk, rfl, rfl, HB⟩ := hrel
    have k0 : (0 : Int) ≤ (k : Int) := by omega
    have hk21 : (k : Int) ≤ 21 := by omega
    obtain ⟨N, hN⟩ : ∃ N, ((l.drop F).take (k - F)).foldl stp 0 = N := ⟨_, rfl⟩
    have hNI : I64 N := hN ▸ fold_in _ 0 ⟨by decide, by decide⟩
    have HN := Lib.hid hN
    rw [hN]
    clear hN
    by_cases hlt : k < l.length
    · have hltI : (k : Int) < (l.length : Int) := by omega
      have hk20 : ¬ (20 : Int) < (k : Int) := by omega
      obtain ⟨x, hx⟩ := at_ l k hlt
      have hgc : (⟨l.toArray⟩ : ByteArray)[k]'(by rw [hz]; exact hlt) = x := by
        have h1 := at_str (s := ⟨l.toArray⟩) (l := l) (k := k) rfl (by rw [hz]; exact hlt)
        rw [hx] at h1
        injection h1 with h1
        exact h1.symm
      have HNO : Hid (¬ (48 ≤ x.toNat ∧ x.toNat ≤ 57) → ∀ v, I64 v → itoa v ≠ l) := Lib.hid fun hno v _ e => hno (itoa_dig (v := v) (k := k) (by rw [e, HFR.out]; exact hFk) (by rw [e]; exact hx))
      have HST := Lib.hid (fold_snoc hFk hx)
      clear hx
      obtain ⟨X, hX⟩ : ∃ X, x.toNat = X := ⟨_, rfl⟩
      have HX := Lib.hid hX
      by_cases h1 : X < 48
      · have h1I : (X : Int) < 48 := by omega
        have HY := Lib.hid (HNO.out (by rw [hX]; omega))
        go_wp2
        exact bodyPost_ret (v := .tuple #[.int .i64 0, .bool false]) (by simp [results, Tryd.results64, go_sem]) rfl ⟨.inr ⟨HY.out, _, rfl⟩, HB.out⟩
      · have h1I : ¬ (X : Int) < 48 := by omega
        by_cases h2 : X ≤ 57
        · have h2I : ¬ (57 : Int) < (X : Int) := by omega
          have hw1 : IntKind.u8.wrap ((X : Int) - 48) = (X : Int) - 48 := IntWalk.u8_in _ (by omega)
          have hw2 : IntKind.i64.wrap ((X : Int) - 48) = (X : Int) - 48 := IntWalk.i64_in _ (by omega)
          have HSN : Hid (IntKind.i64.wrap (IntKind.i64.wrap (10 * N) - ((X : Int) - 48)) = ((l.drop F).take (k + 1 - F)).foldl stp 0) := Lib.hid (by
            rw [HST.out, HN.out, ← HX.out]
            rfl)
          go_wp2
          go_roundw
          case rel => exact ⟨k + 1, by omega, by omega, by go_num, by rw [← HSN.out]; simp only [IntKind.wrap_i64, wrap64], HB⟩
          case measure => simp [RowKit.intOf]; omega
        · have h2I : (57 : Int) < (X : Int) := by omega
          have HY := Lib.hid (HNO.out (by rw [hX]; omega))
          go_wp2
          exact bodyPost_ret (v := .tuple #[.int .i64 0, .bool false]) (by simp [results, Tryd.results64, go_sem]) rfl ⟨.inr ⟨HY.out, _, rfl⟩, HB.out⟩
    · obtain rfl : k = l.length := by omega
      have HM : Hid (bck l = IntKind.i64.wrap (-N)) := Lib.hid (by
        unfold bck
        rw [HFR.out, if_pos HF0.out.symm, ← HN.out, List.take_of_length_le (by rw [List.length_drop]; exact Nat.le_refl _)])
      obtain ⟨M, hM⟩ : ∃ M, IntKind.i64.wrap (-N) = M := ⟨_, rfl⟩
      have hMI : I64 M := hM ▸ wr_in _
      have HMM : Hid (bck l = M) := Lib.hid (HM.out.trans hM)
      have hcat : (⟨l.toArray⟩ : ByteArray) ++ ⟨#[59]⟩ = ⟨(l ++ [59]).toArray⟩ := app_list l [59]
      have HI := Lib.hid (fun W' => rint_any (W := W') hMI)
      clear hNI hMI HM
      go_wp2_with (fail)
      try rw [hM]
      go_must (refine (HI.out _).mono ?_)
      rintro e w5 ⟨rfl, hb5⟩
      replace HB := Lib.hid (Gen.over hb5 HB.out)
      clear hb5
      by_cases hq : itoa M = l
      · have HY : Hid (∃ v, I64 v ∧ itoa v = l ∧ Ending.returned (.tuple #[.int .i64 M, .bool true]) = .returned (.tuple #[.int .i64 v, .bool true])) := Lib.hid ⟨M, by rw [← HMM.out]; exact bck_in l, hq, rfl⟩
        have hE : encI M = l ++ [59] := by unfold encI; rw [hq]
        rw [hE]
        clear hq hE
        dsimp only
        go_wp2
        exact bodyPost_ret (v := .tuple #[.int .i64 M, .bool true]) (by simp [results, Tryd.results64, go_sem]) rfl ⟨.inl HY.out, HB.out⟩
      · have HY : Hid (∀ v, I64 v → itoa v ≠ l) := Lib.hid fun v hv e => hq (by rw [← HMM.out, ← e, bck_itoa hv])
        obtain ⟨X, hX⟩ : ∃ X, encI M = X := ⟨_, rfl⟩
        obtain ⟨Y, hY⟩ : ∃ Y, l ++ [59] = Y := ⟨_, rfl⟩
        have hne : ¬ X = Y := by
          intro e
          rw [← hX, ← hY] at e
          unfold encI at e
          exact hq (List.append_cancel_right e)
        rw [hX]
        rw [hY] at hcat
        clear hX hY hq
        dsimp only
        go_wp2
        exact bodyPost_ret (v := .tuple #[.int .i64 M, .bool false]) (by simp [results, Tryd.results64, go_sem, hne]) rfl ⟨.inr ⟨HY.out, _, rfl⟩, HB.out⟩
set_option maxRecDepth 100000 in
set_option maxHeartbeats 8000000 in
theorem rback_pos (hl : l.length ≤ 21) {c : UInt8} {r : List UInt8} (h : l = c :: r) (hc : c ≠ 45) :
    Calls Tryd.prog 64 #[.string ⟨l.toArray⟩] W (BackP W l) := by
  have hz : (⟨l.toArray⟩ : ByteArray).size = l.length := by simp [ByteArray.size]
  have HFR : Hid (fr l = 0) := Lib.hid (by subst h; unfold fr; rw [if_neg]; intro e; simp at e; exact hc e)
  obtain ⟨F, hF⟩ : ∃ F, (0 : Nat) = F := ⟨_, rfl⟩
  have hl0 : 0 < l.length := by rw [h, List.length_cons]; omega
  have hFl : F ≤ l.length := by omega
  have hlp : (0 : Int) < (l.length : Int) := by omega
  have hg0 : (⟨l.toArray⟩ : ByteArray)[0]'(by rw [hz]; exact hl0) = c := by
    have h1 := at_str (s := ⟨l.toArray⟩) (l := l) (k := 0) rfl (by rw [hz]; exact hl0)
    have h2 : l[0]? = some c := by rw [h]; rfl
    rw [h2] at h1
    injection h1 with h1
    exact h1.symm
  have hc45 : ¬ (c.toNat : Int) = 45 := fun e => hc (UInt8.toNat_inj.1 (by show c.toNat = 45; omega))
  clear h
  rw [hF] at HFR
  have HF0 := Lib.hid hF
  clear hF
  go_enter Tryd.func64, Tryd.ntmps64
  go_wp2
  clear hlp hg0 hc45 hc
  go_loopw [5, 6] (fun nv iv wr => ∃ k : Nat, F ≤ k ∧ k ≤ l.length ∧ iv = .int .i64 k ∧ nv = .int .i64 (((l.drop F).take (k - F)).foldl stp 0) ∧ Hid (Below W.heap.size W wr)) (fun _ iv _ => l.length - (RowKit.intOf iv).toNat)
  case atStart => exact ⟨F, Nat.le_refl _, hFl, by rw [← HF0.out]; rfl, by rw [Nat.sub_self]; rfl, Lib.hid (Below.refl _ _)⟩
  case round =>
    obtain ⟨k, hFk, hk, rfl, rfl, HB⟩ := hrel
    have k0 : (0 : Int) ≤ (k : Int) := by omega
    have hk21 : (k : Int) ≤ 21 := by omega
    obtain ⟨N, hN⟩ : ∃ N, ((l.drop F).take (k - F)).foldl stp 0 = N := ⟨_, rfl⟩
    have hNI : I64 N := hN ▸ fold_in _ 0 ⟨by decide, by decide⟩
    have HN := Lib.hid hN
    rw [hN]
    clear hN
    by_cases hlt : k < l.length
    · have hltI : (k : Int) < (l.length : Int) := by omega
      have hk20 : ¬ (20 : Int) < (k : Int) := by omega
      obtain ⟨x, hx⟩ := at_ l k hlt
      have hgc : (⟨l.toArray⟩ : ByteArray)[k]'(by rw [hz]; exact hlt) = x := by
        have h1 := at_str (s := ⟨l.toArray⟩) (l := l) (k := k) rfl (by rw [hz]; exact hlt)
        rw [hx] at h1
        injection h1 with h1
        exact h1.symm
      have HNO : Hid (¬ (48 ≤ x.toNat ∧ x.toNat ≤ 57) → ∀ v, I64 v → itoa v ≠ l) := Lib.hid fun hno v _ e => hno (itoa_dig (v := v) (k := k) (by rw [e, HFR.out]; exact hFk) (by rw [e]; exact hx))
      have HST := Lib.hid (fold_snoc hFk hx)
      clear hx
      obtain ⟨X, hX⟩ : ∃ X, x.toNat = X := ⟨_, rfl⟩
      have HX := Lib.hid hX
      by_cases h1 : X < 48
      · have h1I : (X : Int) < 48 := by omega
        have HY := Lib.hid (HNO.out (by rw [hX]; omega))
        go_wp2
        exact bodyPost_ret (v := .tuple #[.int .i64 0, .bool false]) (by simp [results, Tryd.results64, go_sem]) rfl ⟨.inr ⟨HY.out, _, rfl⟩, HB.out⟩
      · have h1I : ¬ (X : Int) < 48 := by omega
        by_cases h2 : X ≤ 57
        · have h2I : ¬ (57 : Int) < (X : Int) := by omega
          have hw1 : IntKind.u8.wrap ((X : Int) - 48) = (X : Int) - 48 := IntWalk.u8_in _ (by omega)
          have hw2 : IntKind.i64.wrap ((X : Int) - 48) = (X : Int) - 48 := IntWalk.i64_in _ (by omega)
          have HSN : Hid (IntKind.i64.wrap (IntKind.i64.wrap (10 * N) - ((X : Int) - 48)) = ((l.drop F).take (k + 1 - F)).foldl stp 0) := Lib.hid (by
            rw [HST.out, HN.out, ← HX.out]
            rfl)
          go_wp2
          go_roundw
          case rel => exact ⟨k + 1, by omega, by omega, by go_num, by rw [← HSN.out]; simp only [IntKind.wrap_i64, wrap64], HB⟩
          case measure => simp [RowKit.intOf]; omega
        · have h2I : (57 : Int) < (X : Int) := by omega
          have HY := Lib.hid (HNO.out (by rw [hX]; omega))
          go_wp2
          exact bodyPost_ret (v := .tuple #[.int .i64 0, .bool false]) (by simp [results, Tryd.results64, go_sem]) rfl ⟨.inr ⟨HY.out, _, rfl⟩, HB.out⟩
    · obtain rfl : k = l.length := by omega
      have HM : Hid (bck l = IntKind.i64.wrap (-N)) := Lib.hid (by
        unfold bck
        rw [HFR.out, if_pos HF0.out.symm, ← HN.out, List.take_of_length_le (by rw [List.length_drop]; exact Nat.le_refl _)])
      obtain ⟨M, hM⟩ : ∃ M, IntKind.i64.wrap (-N) = M := ⟨_, rfl⟩
      have hMI : I64 M := hM ▸ wr_in _
      have HMM : Hid (bck l = M) := Lib.hid (HM.out.trans hM)
      have hcat : (⟨l.toArray⟩ : ByteArray) ++ ⟨#[59]⟩ = ⟨(l ++ [59]).toArray⟩ := app_list l [59]
      have HI := Lib.hid (fun W' => rint_any (W := W') hMI)
      clear hNI hMI HM
      go_wp2_with (fail)
      try rw [hM]
      go_must (refine (HI.out _).mono ?_)
      rintro e w5 ⟨rfl, hb5⟩
      replace HB := Lib.hid (Gen.over hb5 HB.out)
      clear hb5
      by_cases hq : itoa M = l
      · have HY : Hid (∃ v, I64 v ∧ itoa v = l ∧ Ending.returned (.tuple #[.int .i64 M, .bool true]) = .returned (.tuple #[.int .i64 v, .bool true])) := Lib.hid ⟨M, by rw [← HMM.out]; exact bck_in l, hq, rfl⟩
        have hE : encI M = l ++ [59] := by unfold encI; rw [hq]
        rw [hE]
        clear hq hE
        dsimp only
        go_wp2
        exact bodyPost_ret (v := .tuple #[.int .i64 M, .bool true]) (by simp [results, Tryd.results64, go_sem]) rfl ⟨.inl HY.out, HB.out⟩
      · have HY : Hid (∀ v, I64 v → itoa v ≠ l) := Lib.hid fun v hv e => hq (by rw [← HMM.out, ← e, bck_itoa hv])
        obtain ⟨X, hX⟩ : ∃ X, encI M = X := ⟨_, rfl⟩
        obtain ⟨Y, hY⟩ : ∃ Y, l ++ [59] = Y := ⟨_, rfl⟩
        have hne : ¬ X = Y := by
          intro e
          rw [← hX, ← hY] at e
          unfold encI at e
          exact hq (List.append_cancel_right e)
        rw [hX]
        rw [hY] at hcat
        clear hX hY hq
        dsimp only
        go_wp2
        exact bodyPost_ret (v := .tuple #[.int .i64 M, .bool false]) (by simp [results, Tryd.results64, go_sem, hne]) rfl ⟨.inr ⟨HY.out, _, rfl⟩, HB.out⟩
set_option maxRecDepth 100000 in
set_option maxHeartbeats 8000000 in
theorem rback_neg (hl : l.length ≤ 21) {c : UInt8} {r : List UInt8} (h : l = c :: r) (hc : c = 45) :
    Calls Tryd.prog 64 #[.string ⟨l.toArray⟩] W (BackP W l) := by
  have hz : (⟨l.toArray⟩ : ByteArray).size = l.length := by simp [ByteArray.size]
  have HFR : Hid (fr l = 1) := Lib.hid (by subst h hc; rfl)
  obtain ⟨F, hF⟩ : ∃ F, (1 : Nat) = F := ⟨_, rfl⟩
  have hl0 : 0 < l.length := by rw [h, List.length_cons]; omega
  have hFl : F ≤ l.length := by omega
  have hlp : (0 : Int) < (l.length : Int) := by omega
  have hg0 : (⟨l.toArray⟩ : ByteArray)[0]'(by rw [hz]; exact hl0) = c := by
    have h1 := at_str (s := ⟨l.toArray⟩) (l := l) (k := 0) rfl (by rw [hz]; exact hl0)
    have h2 : l[0]? = some c := by rw [h]; rfl
    rw [h2] at h1
    injection h1 with h1
    exact h1.symm
  have hc45 : (c.toNat : Int) = 45 := by subst hc; rfl
  clear h
  rw [hF] at HFR
  have HF0 := Lib.hid hF
  clear hF
  go_enter Tryd.func64, Tryd.ntmps64
  go_wp2
  clear hlp hg0 hc45 hc
  go_loopw [5, 6] (fun nv iv wr => ∃ k : Nat, F ≤ k ∧ k ≤ l.length ∧ iv = .int .i64 k ∧ nv = .int .i64 (((l.drop F).take (k - F)).foldl stp 0) ∧ Hid (Below W.heap.size W wr)) (fun _ iv _ => l.length - (RowKit.intOf iv).toNat)
  case atStart => exact ⟨F, Nat.le_refl _, hFl, by rw [← HF0.out]; rfl, by rw [Nat.sub_self]; rfl, Lib.hid (Below.refl _ _)⟩
  case round =>
    obtain ⟨k, hFk, hk, rfl, rfl, HB⟩ := hrel
    have k0 : (0 : Int) ≤ (k : Int) := by omega
    have hk21 : (k : Int) ≤ 21 := by omega
    obtain ⟨N, hN⟩ : ∃ N, ((l.drop F).take (k - F)).foldl stp 0 = N := ⟨_, rfl⟩
    have hNI : I64 N := hN ▸ fold_in _ 0 ⟨by decide, by decide⟩
    have HN := Lib.hid hN
    rw [hN]
    clear hN
    by_cases hlt : k < l.length
    · have hltI : (k : Int) < (l.length : Int) := by omega
      have hk20 : ¬ (20 : Int) < (k : Int) := by omega
      obtain ⟨x, hx⟩ := at_ l k hlt
      have hgc : (⟨l.toArray⟩ : ByteArray)[k]'(by rw [hz]; exact hlt) = x := by
        have h1 := at_str (s := ⟨l.toArray⟩) (l := l) (k := k) rfl (by rw [hz]; exact hlt)
        rw [hx] at h1
        injection h1 with h1
        exact h1.symm
      have HNO : Hid (¬ (48 ≤ x.toNat ∧ x.toNat ≤ 57) → ∀ v, I64 v → itoa v ≠ l) := Lib.hid fun hno v _ e => hno (itoa_dig (v := v) (k := k) (by rw [e, HFR.out]; exact hFk) (by rw [e]; exact hx))
      have HST := Lib.hid (fold_snoc hFk hx)
      clear hx
      obtain ⟨X, hX⟩ : ∃ X, x.toNat = X := ⟨_, rfl⟩
      have HX := Lib.hid hX
      by_cases h1 : X < 48
      · have h1I : (X : Int) < 48 := by omega
        have HY := Lib.hid (HNO.out (by rw [hX]; omega))
        go_wp2
        exact bodyPost_ret (v := .tuple #[.int .i64 0, .bool false]) (by simp [results, Tryd.results64, go_sem]) rfl ⟨.inr ⟨HY.out, _, rfl⟩, HB.out⟩
      · have h1I : ¬ (X : Int) < 48 := by omega
        by_cases h2 : X ≤ 57
        · have h2I : ¬ (57 : Int) < (X : Int) := by omega
          have hw1 : IntKind.u8.wrap ((X : Int) - 48) = (X : Int) - 48 := IntWalk.u8_in _ (by omega)
          have hw2 : IntKind.i64.wrap ((X : Int) - 48) = (X : Int) - 48 := IntWalk.i64_in _ (by omega)
          have HSN : Hid (IntKind.i64.wrap (IntKind.i64.wrap (10 * N) - ((X : Int) - 48)) = ((l.drop F).take (k + 1 - F)).foldl stp 0) := Lib.hid (by
            rw [HST.out, HN.out, ← HX.out]
            rfl)
          go_wp2
          go_roundw
          case rel => exact ⟨k + 1, by omega, by omega, by go_num, by rw [← HSN.out]; simp only [IntKind.wrap_i64, wrap64], HB⟩
          case measure => simp [RowKit.intOf]; omega
        · have h2I : (57 : Int) < (X : Int) := by omega
          have HY := Lib.hid (HNO.out (by rw [hX]; omega))
          go_wp2
          exact bodyPost_ret (v := .tuple #[.int .i64 0, .bool false]) (by simp [results, Tryd.results64, go_sem]) rfl ⟨.inr ⟨HY.out, _, rfl⟩, HB.out⟩
    · obtain rfl : k = l.length := by omega
      have HM : Hid (bck l = N) := Lib.hid (by
        unfold bck
        rw [HFR.out, if_neg (by rw [← HF0.out]; decide), ← HN.out, List.take_of_length_le (by rw [List.length_drop]; exact Nat.le_refl _)])
      obtain ⟨M, hM⟩ : ∃ M, N = M := ⟨_, rfl⟩
      have hMI : I64 M := hM ▸ hNI
      have HMM : Hid (bck l = M) := Lib.hid (HM.out.trans hM)
      have hcat : (⟨l.toArray⟩ : ByteArray) ++ ⟨#[59]⟩ = ⟨(l ++ [59]).toArray⟩ := app_list l [59]
      have HI := Lib.hid (fun W' => rint_any (W := W') hMI)
      clear hNI hMI HM
      go_wp2_with (fail)
      rw [hM]
      go_must (refine (HI.out _).mono ?_)
      rintro e w5 ⟨rfl, hb5⟩
      replace HB := Lib.hid (Gen.over hb5 HB.out)
      clear hb5
      by_cases hq : itoa M = l
      · have HY : Hid (∃ v, I64 v ∧ itoa v = l ∧ Ending.returned (.tuple #[.int .i64 M, .bool true]) = .returned (.tuple #[.int .i64 v, .bool true])) := Lib.hid ⟨M, by rw [← HMM.out]; exact bck_in l, hq, rfl⟩
        have hE : encI M = l ++ [59] := by unfold encI; rw [hq]
        rw [hE]
        clear hq hE
        dsimp only
        go_wp2
        exact bodyPost_ret (v := .tuple #[.int .i64 M, .bool true]) (by simp [results, Tryd.results64, go_sem]) rfl ⟨.inl HY.out, HB.out⟩
      · have HY : Hid (∀ v, I64 v → itoa v ≠ l) := Lib.hid fun v hv e => hq (by rw [← HMM.out, ← e, bck_itoa hv])
        obtain ⟨X, hX⟩ : ∃ X, encI M = X := ⟨_, rfl⟩
        obtain ⟨Y, hY⟩ : ∃ Y, l ++ [59] = Y := ⟨_, rfl⟩
        have hne : ¬ X = Y := by
          intro e
          rw [← hX, ← hY] at e
          unfold encI at e
          exact hq (List.append_cancel_right e)
        rw [hX]
        rw [hY] at hcat
        clear hX hY hq
        dsimp only
        go_wp2
        exact bodyPost_ret (v := .tuple #[.int .i64 M, .bool false]) (by simp [results, Tryd.results64, go_sem, hne]) rfl ⟨.inr ⟨HY.out, _, rfl⟩, HB.out⟩
theorem rback_any (hl : l.length ≤ 21) : Calls Tryd.prog 64 #[.string ⟨l.toArray⟩] W (BackP W l) := by
  cases h : l with
  | nil => rw [← h]; exact rback_nil hl h
  | cons c r =>
    rw [← h]
    by_cases hc : c = 45
    · exact rback_neg hl h hc
    · exact rback_pos hl h hc
end
end Go.Proofs.YtapcfnlononniaaDoor.Wr
