/- Facts: the reference's Same, Few; the law's some, says. -/
import Derived.Test.YtcnfonhcgcblgaaFcE
namespace Go.Proofs.Ytcnfonhcgcblgaa.Fc
open Go.Lib Go.ChangeShapes Go.WideShapes Go.ChangeAt Go.RowKit Go.Maps Go.Proofs.Ytcnfonhcgcblgaa.Cell Go.Proofs.Ytcnfonhcgcblgaa.Wd Go.Proofs.Ytcnfonhcgcblgaa.Rk
set_option linter.unusedVariables false
set_option linter.unusedSimpArgs false
theorem dec_len {α : Type} [DecidableEq α] {a b : List α} (h : ¬ a.length = b.length) : decide (a = b) = false := decide_eq_false (fun e => h (by rw [e]))
theorem dec_cons {α : Type} [DecidableEq α] {a b : α} {l m : List α} : decide (a :: l = b :: m) = (decide (a = b) && decide (l = m)) := by
  by_cases h : a = b <;> by_cases g : l = m <;> simp [h, g]
theorem drop_at {α : Type} {l : List α} {k : Nat} {x : α} (h : l[k]? = some x) : l.drop k = x :: l.drop (k + 1) := by
  obtain ⟨h1, h2⟩ := List.getElem?_eq_some_iff.1 h
  rw [← h2]
  exact List.drop_eq_getElem_cons h1
deriving instance DecidableEq for Fa
set_option maxRecDepth 100000 in
set_option maxHeartbeats 4000000 in
theorem rSame_any {w : World} {A A' : Option Addr} {n n' c c' : Nat} {l l' : List Fa} (hn : l.length = n) (hn' : l'.length = n') (hc : Rs fcs 5 w A l) (hc' : Rs fcs 5 w A' l') (hbig : n ≤ 1000000000) (hbig' : n' ≤ 1000000000) :
    Calls Try.prog 22 #[.slice A n c, .slice A' n' c'] w fun e w' => e = .returned (.bool (decide (l = l'))) ∧ Below w.heap.size w w' := by
  by_cases hnn : n = n'
  case neg =>
    have HR := Lib.hid (dec_len (a := l) (b := l') (by omega))
    have h1 : ((n : Int) != (n' : Int)) = true := by simp; omega
    clear hn hn' hc hc' hnn
    go_enter Try.func22, Try.ntmps22
    go_wp2
    go_ret
    exact ⟨ret_bool HR.out.symm, Below.refl _ _⟩
  subst hnn
  have HN := Lib.hid hn
  have HN' := Lib.hid hn'
  have HC := Lib.hid hc
  have HC' := Lib.hid hc'
  obtain ⟨R, hR⟩ : ∃ R, decide (l = l') = R := ⟨_, rfl⟩
  rw [hR]
  have HR := Lib.hid (show decide (l.drop 0 = l'.drop 0) = R from hR)
  have h1 : ((n : Int) != (n : Int)) = false := by simp
  clear hn hn' hc hc' hR
  go_enter Try.func22, Try.ntmps22
  go_wp2
  clear h1
  go_loopw [5] (fun iv wr => ∃ k : Nat, k ≤ n ∧ iv = .int .i64 k ∧ Hid (decide (l.drop k = l'.drop k) = R) ∧ Hid (Below w.heap.size w wr)) (fun iv _ => n - (intOf iv).toNat)
  case atStart => exact ⟨0, Nat.zero_le _, rfl, HR, Lib.hid (Below.refl _ _)⟩
  case round =>
    obtain ⟨k, hk, rfl, HA, HB⟩ := hrel
    have k0 : (0 : Int) ≤ (k : Int) := by omega
    by_cases hlt : k < n
    · have hltI : (k : Int) < (n : Int) := by omega
      obtain ⟨⟨xi, xn, xp, xv, xd⟩, hx⟩ := at_ l k (by rw [HN.out]; exact hlt)
      obtain ⟨⟨yi, yn, yp, yv, yd⟩, hy⟩ := at_ l' k (by rw [HN'.out]; exact hlt)
      obtain ⟨b, off, rfl, hcell⟩ := (HC.out.keep HB.out) (by rw [HN.out]; omega)
      obtain ⟨b', off', rfl, hcell'⟩ := (HC'.out.keep HB.out) (by rw [HN'.out]; omega)
      have c0 := hcell k _ hx 0 _ rfl
      have e0 := hcell' k _ hy 0 _ rfl
      have c1 := hcell k _ hx 1 _ rfl
      have e1 := hcell' k _ hy 1 _ rfl
      have c2 := hcell k _ hx 2 _ rfl
      have e2 := hcell' k _ hy 2 _ rfl
      have c3 := hcell k _ hx 3 _ rfl
      have e3 := hcell' k _ hy 3 _ rfl
      have c4 := hcell k _ hx 4 _ rfl
      have e4 := hcell' k _ hy 4 _ rfl
      dsimp only at c0 c1 c2 c3 c4 e0 e1 e2 e3 e4
      rw [Nat.add_zero] at c0 e0
      have hA := HA.out
      rw [drop_at hx, drop_at hy, dec_cons] at hA
      clear hcell hcell' hx hy hlt HA HR
      by_cases q0 : xi = yi
      · subst q0
        by_cases q1 : xn = yn
        · subst q1
          by_cases q2 : xp = yp
          · subst q2
            by_cases q3 : xv = yv
            · subst q3
              by_cases q4 : xd = yd
              · subst q4
                have HA2 : Hid (decide (l.drop (k + 1) = l'.drop (k + 1)) = R) := Lib.hid (by rw [← hA, decide_eq_true rfl, Bool.true_and])
                have h0 : (xi != xi) = false := by simp
                have h1 : (xn != xn) = false := by simp
                have h2 : (xp != xp) = false := by simp
                have h3 : (xv != xv) = false := by simp
                have h4 : (xd != xd) = false := by simp
                clear hA
                go_wp2
                go_quiet (fail)
                go_wp2
                go_roundw
                case rel => exact ⟨k + 1, by omega, by go_num, HA2, Lib.hid (Gen.dN HB.out _)⟩
                case measure => simp [intOf]; omega
              · obtain rfl : R = false := by rw [← hA, decide_eq_false (by intro h; simp at h; simp [h] at q4), Bool.false_and]
                have h0 : (xi != xi) = false := by simp
                have h1 : (xn != xn) = false := by simp
                have h2 : (xp != xp) = false := by simp
                have h3 : (xv != xv) = false := by simp
                have h4 : (xd != yd) = true := by simp [q4]
                have g4 : (xd == yd) = false := by simp [q4]
                clear hA
                go_wp2
                go_quiet (fail)
                go_wp2
                go_ret
                exact ⟨rfl, Gen.dN HB.out _⟩
            · obtain rfl : R = false := by rw [← hA, decide_eq_false (by intro h; simp at h; simp [h] at q3), Bool.false_and]
              have h0 : (xi != xi) = false := by simp
              have h1 : (xn != xn) = false := by simp
              have h2 : (xp != xp) = false := by simp
              have h3 : (xv != yv) = true := by simp [q3]
              have g3 : (xv == yv) = false := by simp [q3]
              clear hA
              go_wp2
              go_quiet (fail)
              go_wp2
              go_ret
              exact ⟨rfl, Gen.dN HB.out _⟩
          · obtain rfl : R = false := by rw [← hA, decide_eq_false (by intro h; simp at h; simp [h] at q2), Bool.false_and]
            have h0 : (xi != xi) = false := by simp
            have h1 : (xn != xn) = false := by simp
            have h2 : (xp != yp) = true := by simp [q2]
            have g2 : (xp == yp) = false := by simp [q2]
            clear hA
            go_wp2
            go_quiet (fail)
            go_wp2
            go_ret
            exact ⟨rfl, Gen.dN HB.out _⟩
        · obtain rfl : R = false := by rw [← hA, decide_eq_false (by intro h; simp at h; simp [h] at q1), Bool.false_and]
          have h0 : (xi != xi) = false := by simp
          have h1 : (xn != yn) = true := by simp [q1]
          have g1 : (xn == yn) = false := by simp [q1]
          clear hA
          go_wp2
          go_quiet (fail)
          go_wp2
          go_ret
          exact ⟨rfl, Gen.dN HB.out _⟩
      · obtain rfl : R = false := by rw [← hA, decide_eq_false (by intro h; simp at h; simp [h] at q0), Bool.false_and]
        have h0 : (xi != yi) = true := by simp [q0]
        have g0 : (xi == yi) = false := by simp [q0]
        clear hA
        go_wp2
        go_quiet (fail)
        go_wp2
        go_ret
        exact ⟨rfl, Gen.dN HB.out _⟩
    · obtain rfl : n = k := by omega
      have hA := HA.out
      rw [List.drop_of_length_le (by rw [HN.out]; exact Nat.le_refl _), List.drop_of_length_le (by rw [HN'.out]; exact Nat.le_refl _)] at hA
      obtain rfl : R = true := by rw [← hA]; rfl
      clear hlt hA HA HR
      go_wp2
      go_ret
      exact ⟨rfl, HB.out⟩
/-- few facts, with short names -/
def fewF (l : List Fa) (m : Nat) : Bool := decide (l.length ≤ m) && l.all fun x => decide (x.nm.length ≤ 40)
theorem fewF_out {l : List Fa} {m : Nat} (h : fewF l m = true) : l.length ≤ m ∧ ∀ x ∈ l, x.nm.length ≤ 40 := by
  unfold fewF at h
  simp only [Bool.and_eq_true, decide_eq_true_eq, List.all_eq_true] at h
  exact h
set_option maxRecDepth 100000 in
set_option maxHeartbeats 4000000 in
theorem rFew_any {w : World} {A : Option Addr} {n c m : Nat} {l : List Fa} (hn : l.length = n) (hc : Rs fcs 5 w A l) (hbig : n ≤ 9223372036854775807) (hm : m ≤ 1000) (hin : ∀ x ∈ l, x.nm.length ≤ 9223372036854775807) :
    Calls Try.prog 13 #[.slice A n c, .int .i64 (m : Int)] w fun e w' => e = .returned (.bool (fewF l m)) ∧ w' = w := by
  have HN := Lib.hid hn
  have HC := Lib.hid hc
  have HIN := Lib.hid hin
  obtain ⟨R, hR⟩ : ∃ R, fewF l m = R := ⟨_, rfl⟩
  rw [hR]
  unfold fewF at hR
  rw [hn] at hR
  have HR := Lib.hid (show (decide (n ≤ m) && (l.drop 0).all fun x => decide (x.nm.length ≤ 40)) = R from hR)
  have m0 : (0 : Int) ≤ (m : Int) := by omega
  clear hn hc hR hin
  go_enter Try.func13, Try.ntmps13
  go_wp2_with (fail)
  go_loopw [5] (fun iv wr => ∃ k : Nat, k ≤ n ∧ k ≤ m + 1 ∧ iv = .int .i64 k ∧ Hid ((decide (n ≤ m) && (l.drop k).all fun x => decide (x.nm.length ≤ 40)) = R) ∧ wr = w) (fun iv _ => n - (intOf iv).toNat)
  case atStart => exact ⟨0, Nat.zero_le _, Nat.zero_le _, rfl, HR, rfl⟩
  case round =>
    obtain ⟨k, hk, hkm, rfl, HA, rfl⟩ := hrel
    have k0 : (0 : Int) ≤ (k : Int) := by omega
    by_cases hlt : k < n
    · have hltI : (k : Int) < (n : Int) := by omega
      by_cases hle : k ≤ m
      · have hleI : (k : Int) ≤ (m : Int) := by omega
        obtain ⟨⟨xi, xn, xp, xv, xd⟩, hx⟩ := at_ l k (by rw [HN.out]; exact hlt)
        obtain ⟨g, off, rfl, hcell⟩ := HC.out (by rw [HN.out]; omega)
        have c1 := hcell k _ hx 1 _ rfl
        have L1 := HIN.out _ (mem_of_at hx)
        dsimp only at c1 L1
        have hA := HA.out
        rw [drop_at hx, List.all_cons] at hA
        dsimp only at hA
        clear hcell hx HA HR hlt
        by_cases h1 : xn.length ≤ 40
        · have h1I : ¬ ((40 : Int) < (xn.length : Int)) := by omega
          have HA2 : Hid ((decide (n ≤ m) && (l.drop (k + 1)).all fun x => decide (x.nm.length ≤ 40)) = R) := Lib.hid (by rw [← hA, decide_eq_true h1, Bool.true_and])
          clear hA
          go_wp2
          go_roundw
          case rel => first | exact ⟨k + 1, by omega, by omega, by go_num, HA2, rfl⟩ | exact ⟨k + 1, by omega, by omega, by go_num, HA2, trivial⟩ | exact ⟨k + 1, by omega, by omega, by go_num, HA2⟩
          case measure => simp [intOf]; omega
        · have h1I : (40 : Int) < (xn.length : Int) := by omega
          obtain rfl : R = false := by rw [← hA, decide_eq_false h1, Bool.false_and, Bool.and_false]
          clear hA
          go_wp2
          go_ret
          exact ⟨rfl, by first | rfl | trivial⟩
      · have hleI : ¬ ((k : Int) ≤ (m : Int)) := by omega
        have hnm : ¬ ((n : Int) ≤ (m : Int)) := by omega
        obtain rfl : R = false := by rw [← HA.out, decide_eq_false (by omega), Bool.false_and]
        clear HA HR hlt
        go_wp2
        go_ret
        exact ⟨by first | rfl | trivial | (simp; try omega), by first | rfl | trivial⟩
    · obtain rfl : n = k := by omega
      have hA := HA.out
      rw [List.drop_of_length_le (by rw [HN.out]; exact Nat.le_refl _), List.all_nil, Bool.and_true] at hA
      by_cases hnm : n ≤ m
      · have hnI : (n : Int) ≤ (m : Int) := by omega
        obtain rfl : R = true := by rw [← hA, decide_eq_true hnm]
        clear hlt hA HA HR
        go_wp2
        go_ret
        exact ⟨by first | rfl | trivial | (simp; try omega), by first | rfl | trivial⟩
      · have hnI : ¬ ((n : Int) ≤ (m : Int)) := by omega
        obtain rfl : R = false := by rw [← hA, decide_eq_false hnm]
        clear hlt hA HA HR
        go_wp2
        go_ret
        exact ⟨by first | rfl | trivial | (simp; try omega), by first | rfl | trivial⟩
end Go.Proofs.Ytcnfonhcgcblgaa.Fc
