/- The reference of votes: 'Reached', 'Missing', 'Consents'. -/
import Derived.Test.YtblegaclcpoonaaUnt
namespace Go.Proofs.Ytblegaclcpoonaa.Vote
open Go.ChangeShapes Go.WideShapes Go.ChangeAt Go.RowKit
set_option linter.unusedVariables false
set_option linter.unusedSimpArgs false

set_option maxHeartbeats 1000000 in
theorem rreached_any (m y a : Int) (w : World) : Calls Try.prog 34 #[.int .i64 m, .int .i64 y, .int .i64 a] w fun e w' => e = .returned (.bool (rch m y a)) ∧ w = w' := by
  cases hv : vld m y a
  · have HF := Lib.hid (show rch m y a = false from by unfold rch; rw [hv]; rfl)
    have h := of_decide_eq_false hv
    rcases (show m < 1 ∨ (1 ≤ m ∧ 1000 < m) ∨ (1 ≤ m ∧ m ≤ 1000 ∧ a < 1) ∨ (1 ≤ m ∧ m ≤ 1000 ∧ 1 ≤ a ∧ 1000000000 < a) ∨ (1 ≤ m ∧ m ≤ 1000 ∧ 1 ≤ a ∧ a ≤ 1000000000 ∧ y < 0) ∨ (1 ≤ m ∧ m ≤ 1000 ∧ 1 ≤ a ∧ a ≤ 1000000000 ∧ 0 ≤ y ∧ a < y) from by omega) with
      h1 | ⟨h1, h2⟩ | ⟨h1, h2, h3⟩ | ⟨h1, h2, h3, h4⟩ | ⟨h1, h2, h3, h4, h5⟩ | ⟨h1, h2, h3, h4, h5, h6⟩
    all_goals
      clear h hv
      go_enter Try.func34, Try.ntmps34
      go_wp2
      go_ret
      exact ⟨ret_bool HF.out.symm, rfl⟩
  · have HF := Lib.hid (show rch m y a = decide (a * m ≤ y * 1000) from by unfold rch; rw [hv]; rfl)
    obtain ⟨h1, h2, h3, h4, h5, h6⟩ := of_decide_eq_true hv
    obtain ⟨b1, b2⟩ := mul_bound h1 h2 h3 h4
    clear hv
    go_enter Try.func34, Try.ntmps34
    go_wp2
    go_ret
    exact ⟨ret_bool (by rw [HF.out]), rfl⟩
theorem rreached_is {m y a : Int} {b : Bool} (h : rch m y a = b) (w : World) : Calls Try.prog 34 #[.int .i64 m, .int .i64 y, .int .i64 a] w fun e w' => e = .returned (.bool b) ∧ w = w' := by
  have hh := rreached_any m y a w
  rw [h] at hh
  exact hh

theorem vld_self {m y a : Int} (h : vld m y a = true) : rch m a a = true := by
  obtain ⟨h1, h2, h3, h4, h5, h6⟩ := of_decide_eq_true h
  unfold rch vld
  rw [decide_eq_true (by omega)]
  have : a * m ≤ a * 1000 := Int.mul_le_mul_of_nonneg_left h2 (by omega)
  simpa using this
theorem vld_of {m y a : Int} (h : rch m a a = true) (h5 : 0 ≤ y) (h6 : y ≤ a) : vld m y a = true := by
  unfold rch at h
  rw [Bool.and_eq_true] at h
  obtain ⟨h1, h2, h3, h4, _⟩ := of_decide_eq_true h.1
  exact decide_eq_true (by omega)

set_option maxHeartbeats 1000000 in
theorem rmissing_any (m y a : Int) (w : World) : Calls Try.prog 36 #[.int .i64 m, .int .i64 y, .int .i64 a] w fun e w' => e = .returned (.int .i64 (mis m y a)) ∧ w = w' := by
  cases hv : vld m y a
  · have HF := Lib.hid (show mis m y a = -1 from by unfold mis; rw [hv]; rfl)
    cases hr : rch m a a
    · clear hv
      go_enter Try.func36, Try.ntmps36
      go_wp2_with (fail)
      go_must (refine (rreached_is hr _).mono ?_)
      rintro e w' ⟨rfl, rfl⟩
      go_wp2
      go_ret
      exact ⟨ret_int HF.out.symm, rfl⟩
    · rcases (show y < 0 ∨ (0 ≤ y ∧ a < y) from by
        by_cases h5 : 0 ≤ y
        · by_cases h6 : y ≤ a
          · rw [vld_of hr h5 h6] at hv
            cases hv
          · omega
        · omega) with h | ⟨h, h'⟩
      all_goals
        clear hv
        go_enter Try.func36, Try.ntmps36
        go_wp2_with (fail)
        go_must (refine (rreached_is hr _).mono ?_)
        rintro e w' ⟨rfl, rfl⟩
        go_wp2
        go_ret
        exact ⟨ret_int HF.out.symm, rfl⟩
  · have hr := vld_self hv
    have HV := Lib.hid hv
    obtain ⟨h1, h2, h3, h4, h5, h6⟩ := of_decide_eq_true hv
    obtain ⟨b1, b2⟩ := mul_bound h1 h2 h3 h4
    obtain ⟨P, hP⟩ : ∃ P, a * m = P := ⟨_, rfl⟩
    have hPle : P ≤ a * 1000 := by rw [← hP]; exact Int.mul_le_mul_of_nonneg_left h2 (by omega)
    have hm : mis m y a = if (P + 1000 - 1) / 1000 ≤ y then 0 else (P + 1000 - 1) / 1000 - y := by unfold mis; rw [hv, hP]; rfl
    rw [hP] at b1 b2
    have hm0 : 0 ≤ mis m y a ∧ mis m y a ≤ a - y := by rw [hm]; split <;> omega
    have hR : ∀ x, 0 ≤ x → x ≤ a - y → rch m (y + x) a = decide (mis m y a ≤ x) := fun x x0 x1 => by
      unfold rch vld
      rw [decide_eq_true (show 1 ≤ m ∧ m ≤ 1000 ∧ 1 ≤ a ∧ a ≤ 1000000000 ∧ 0 ≤ y + x ∧ y + x ≤ a from by omega), hP, hm]
      rw [Bool.true_and, decide_eq_decide]
      split <;> omega
    have HR := Lib.hid hR
    obtain ⟨m0, m1⟩ := hm0
    have HRR := Lib.hid hr
    generalize mis m y a = M at *
    clear hm hR hv hP hPle hr b1 b2
    go_enter Try.func36, Try.ntmps36
    go_wp2_with (fail)
    go_must (refine (rreached_is HRR.out _).mono ?_)
    rintro e w' ⟨rfl, rfl⟩
    go_wp2_with (fail)
    go_loop [7, 8, 9] (fun lo hi _ => ∃ l h : Int, lo = .int .i64 l ∧ hi = .int .i64 h ∧ 0 ≤ l ∧ l ≤ M ∧ M ≤ h ∧ h ≤ a - y) (fun lo hi _ => (intOf hi - intOf lo).toNat)
    case atStart => exact ⟨0, a - y, rfl, rfl, by omega, m0, m1, by omega⟩
    case round =>
      obtain ⟨l, h, rfl, rfl, q0, q1, q2, q3⟩ := hrel
      by_cases hlh : l < h
      · have hx := HR.out ((l + h) / 2) (by omega) (by omega)
        cases hb : rch m (y + (l + h) / 2) a
        · have hM : (l + h) / 2 < M := by
            rw [hb] at hx
            have := of_decide_eq_false hx.symm
            omega
          have HB := Lib.hid hb
          clear hx hb
          go_wp2_with (fail)
          go_must (refine (rreached_is HB.out _).mono ?_)
          rintro e w' ⟨rfl, rfl⟩
          go_wp2
          go_round
          case rel => exact ⟨_, _, rfl, rfl, by omega, by omega, q2, q3⟩
          case measure => simp [intOf]; omega
        · have hM : M ≤ (l + h) / 2 := by
            rw [hb] at hx
            exact of_decide_eq_true hx.symm
          have HB := Lib.hid hb
          clear hx hb
          go_wp2_with (fail)
          go_must (refine (rreached_is HB.out _).mono ?_)
          rintro e w' ⟨rfl, rfl⟩
          go_wp2
          go_round
          case rel => exact ⟨_, _, rfl, rfl, q0, q1, hM, by omega⟩
          case measure => simp [intOf]; omega
      · obtain rfl : l = M := by omega
        go_wp2
        go_ret
        exact ⟨rfl, rfl⟩

theorem lst_match {u : Int} {i : Nat} {vs : List V} {v : V} {j : Nat} (hv : vs[j]? = some v) (h1 : v.s = i) (h2 : v.d ≤ u) : lst u i (vs.take (j + 1)) false = v.y := by
  rw [take_snoc hv, lst_append, lst_cons, if_pos ⟨h1, h2⟩]; rfl
theorem lst_miss {u : Int} {i : Nat} {vs : List V} {v : V} {j : Nat} (hv : vs[j]? = some v) (h : ¬ (v.s = i ∧ v.d ≤ u)) : lst u i (vs.take (j + 1)) false = lst u i (vs.take j) false := by
  rw [take_snoc hv, lst_append, lst_cons, if_neg h]; rfl
set_option maxHeartbeats 2000000 in
theorem consents_any (A : Option Addr) (m cap : Nat) (vs : List V) (i : Nat) (u : Int) (w : World) (hm : vs.length = m) (hc : Votes w A vs) (hbig : m ≤ 1000000) :
    Calls Try.prog 63 #[.slice A m cap, .int .i64 i, .int .i64 u] w fun e w' => e = .returned (.bool (lst u i vs false)) ∧ w = w' := by
  rcases Nat.eq_zero_or_pos m with h0 | h0
  · subst h0
    have hvs : vs = [] := List.eq_nil_of_length_eq_zero hm
    subst hvs
    go_enter Try.func63, Try.ntmps63
    go_wp2
    go_loop [7] (fun x => x = .int .i64 (-1)) (fun _ => 0)
    case atStart => rfl
    case round =>
      subst hrel
      go_wp2
      go_ret
      exact ⟨rfl, rfl⟩
  · obtain ⟨m', rfl⟩ : ∃ k, m = k + 1 := ⟨m - 1, by omega⟩
    have HM := Lib.hid hm
    clear hm h0
    go_enter Try.func63, Try.ntmps63
    go_wp2
    go_loop [7] (fun x => (∃ j : Nat, j ≤ m' ∧ x = .int .i64 j ∧ lst u i vs false = lst u i (vs.take (j + 1)) false) ∨ (x = .int .i64 (-1) ∧ lst u i vs false = false)) (fun x => (intOf x + 1).toNat)
    case atStart => exact .inl ⟨m', Nat.le_refl _, by go_num, by rw [← HM.out, List.take_length]⟩
    case round =>
      rcases hrel with ⟨j, hj, rfl, he⟩ | ⟨rfl, he⟩
      · have HE := Lib.hid he
        clear he
        obtain ⟨b, off, rfl, hcell⟩ := hc (by rw [HM.out]; omega)
        obtain ⟨v, hv⟩ := at_ vs j (by rw [HM.out]; omega)
        obtain ⟨c0, c1, c2⟩ := hcell j v hv
        have HV := Lib.hid hv
        clear hcell hv hc
        obtain ⟨s, d, y⟩ := v
        dsimp only at c0 c1 c2
        by_cases hs : s = i ∧ d ≤ u
        · have HF := Lib.hid (show lst u i vs false = y from by rw [HE.out]; exact lst_match HV.out hs.1 hs.2)
          obtain ⟨hs1, hs2⟩ := hs
          have q : (s == (i : Int)) = true := by simp [hs1]
          clear hs1
          go_wp2
          go_ret
          exact ⟨ret_bool HF.out.symm, rfl⟩
        · have HF := Lib.hid (show lst u i vs false = lst u i (vs.take j) false from by rw [HE.out]; exact lst_miss HV.out hs)
          have hh : (s == (i : Int)) = false ∨ ((s == (i : Int)) = true ∧ u < d) := by
            by_cases h1 : s = i
            · right; simp [h1]; omega
            · left; simpa using h1
          clear hs
          rcases Nat.eq_zero_or_pos j with hj0 | hj0
          · subst hj0
            simp only [Nat.zero_mul, Nat.add_zero] at c0 c1 c2
            rcases hh with q | ⟨q, q2⟩
            all_goals
              go_wp2
              go_round
              case rel => exact .inr ⟨by go_num, by rw [HF.out]; rfl⟩
              case measure => simp [intOf]
          · obtain ⟨j', rfl⟩ : ∃ k, j = k + 1 := ⟨j - 1, by omega⟩
            clear hj0
            rcases hh with q | ⟨q, q2⟩
            all_goals
              go_wp2
              go_round
              case rel => exact .inl ⟨j', by omega, by go_num, HF.out⟩
              case measure => simp [intOf]; omega
      · have HE := Lib.hid he
        clear he
        go_wp2
        go_ret
        exact ⟨ret_bool HE.out.symm, rfl⟩
end Go.Proofs.Ytblegaclcpoonaa.Vote
