/- Restatements: the reference's Has, Ints, Same, Of, Few. -/
import Derived.Test.YtohbdffmidbjhaaReT
import Derived.Test.YtohbdffmidbjhaaRsK
namespace Go.Proofs.Ytohbdffmidbjhaa.Re
open Go.ChangeShapes Go.WideShapes Go.ChangeAt Go.RowKit Go.Proofs.Ytohbdffmidbjhaa.Cell Go.Proofs.Ytohbdffmidbjhaa.Rk
set_option linter.unusedVariables false
set_option linter.unusedSimpArgs false
set_option maxRecDepth 100000 in
set_option maxHeartbeats 4000000 in
theorem has_any {w : World} {A : Option Addr} {n c : Nat} {l : List Int} (hn : l.length = n) (hc : Ints w A l) (hbig : n ≤ 1000000000) (x : Int) :
    Calls Try.prog 18 #[.slice A n c, .int .i64 x] w fun e w' => e = .returned (.bool (l.contains x)) ∧ w' = w := by
  have HN := Lib.hid hn
  have HC := Lib.hid hc
  obtain ⟨R, hR⟩ : ∃ R, l.contains x = R := ⟨_, rfl⟩
  rw [hR]
  have HR := Lib.hid (show (l.drop 0).contains x = R from hR)
  clear hn hc hR
  go_enter Try.func18, Try.ntmps18
  go_wp2_with (fail)
  go_loopw [5] (fun iv wr => ∃ k : Nat, k ≤ n ∧ iv = .int .i64 k ∧ Hid ((l.drop k).contains x = R) ∧ wr = w) (fun iv _ => n - (intOf iv).toNat)
  case atStart => exact ⟨0, Nat.zero_le _, rfl, HR, rfl⟩
  case round =>
    obtain ⟨k, hk, rfl, HA, rfl⟩ := hrel
    have k0 : (0 : Int) ≤ (k : Int) := by omega
    by_cases hlt : k < n
    · have hltI : (k : Int) < (n : Int) := by omega
      obtain ⟨y, hy⟩ := at_ l k (by rw [HN.out]; exact hlt)
      obtain ⟨b, off, rfl, hcell⟩ := HC.out (by rw [HN.out]; omega)
      have c0 := hcell k y hy
      have hA := HA.out
      rw [drop_at hy, List.contains_cons] at hA
      clear hcell hy hlt HA HR
      by_cases e : y = x
      · obtain rfl : R = true := by rw [← hA, show (x == y) = true by simp [e], Bool.true_or]
        subst e
        clear hA
        go_wp2
        go_ret
        exact ⟨rfl, by first | rfl | trivial⟩
      · have he : (y == x) = false := by simp [e]
        have HA2 : Hid ((l.drop (k + 1)).contains x = R) := Lib.hid (by rw [← hA, show (x == y) = false by simp; exact fun h => e h.symm, Bool.false_or])
        clear hA
        go_wp2
        go_roundw
        case rel => first | exact ⟨k + 1, by omega, by go_num, HA2, rfl⟩ | exact ⟨k + 1, by omega, by go_num, HA2, trivial⟩ | exact ⟨k + 1, by omega, by go_num, HA2⟩
        case measure => simp [intOf]; omega
    · obtain rfl : n = k := by omega
      have hA := HA.out
      rw [List.drop_of_length_le (by rw [HN.out]; exact Nat.le_refl _)] at hA
      obtain rfl : R = false := by rw [← hA]; rfl
      clear hlt hA HA HR
      go_wp2
      go_ret
      exact ⟨rfl, by first | rfl | trivial⟩
theorem dec_len {α : Type} [DecidableEq α] {a b : List α} (h : ¬ a.length = b.length) : decide (a = b) = false := decide_eq_false (fun e => h (by rw [e]))
theorem dec_cons {α : Type} [DecidableEq α] {a b : α} {l m : List α} : decide (a :: l = b :: m) = (decide (a = b) && decide (l = m)) := by
  by_cases h : a = b <;> by_cases g : l = m <;> simp [h, g]
set_option maxRecDepth 100000 in
set_option maxHeartbeats 4000000 in
theorem ints_any {w : World} {A A' : Option Addr} {n n' c c' : Nat} {l l' : List Int} (hn : l.length = n) (hn' : l'.length = n') (hc : Ints w A l) (hc' : Ints w A' l') (hbig : n ≤ 1000000000) (hbig' : n' ≤ 1000000000) :
    Calls Try.prog 14 #[.slice A n c, .slice A' n' c'] w fun e w' => e = .returned (.bool (decide (l = l'))) ∧ Below w.heap.size w w' := by
  by_cases hnn : n = n'
  case neg =>
    have HR := Lib.hid (dec_len (a := l) (b := l') (by omega))
    have h1 : ((n : Int) != (n' : Int)) = true := by simp; omega
    clear hn hn' hc hc' hnn
    go_enter Try.func14, Try.ntmps14
    go_wp2
    go_ret
    exact ⟨ret_bool HR.out.symm, Below.refl _ _⟩
  subst hnn
  have HN := Lib.hid hn
  have HN' := Lib.hid hn'
  have HC := Lib.hid hc
  have HC' := Lib.hid hc'
  obtain ⟨R, hR⟩ : ∃ R, decide (l = l') = R := ⟨_, rfl⟩
  rw [hR]
  have HR := Lib.hid (show decide (l.drop 0 = l'.drop 0) = R from hR)
  have h1 : ((n : Int) != (n : Int)) = false := by simp
  clear hn hn' hc hc' hR
  go_enter Try.func14, Try.ntmps14
  go_wp2
  clear h1
  go_loopw [5] (fun iv wr => ∃ k : Nat, k ≤ n ∧ iv = .int .i64 k ∧ Hid (decide (l.drop k = l'.drop k) = R) ∧ Hid (Below w.heap.size w wr)) (fun iv _ => n - (intOf iv).toNat)
  case atStart => exact ⟨0, Nat.zero_le _, rfl, HR, Lib.hid (Below.refl _ _)⟩
  case round =>
    obtain ⟨k, hk, rfl, HA, HB⟩ := hrel
    have k0 : (0 : Int) ≤ (k : Int) := by omega
    by_cases hlt : k < n
    · have hltI : (k : Int) < (n : Int) := by omega
      obtain ⟨x, hx⟩ := at_ l k (by rw [HN.out]; exact hlt)
      obtain ⟨y, hy⟩ := at_ l' k (by rw [HN'.out]; exact hlt)
      obtain ⟨b, off, rfl, hcell⟩ := (HC.out.keep HB.out) (by rw [HN.out]; omega)
      obtain ⟨b', off', rfl, hcell'⟩ := (HC'.out.keep HB.out) (by rw [HN'.out]; omega)
      have c0 := hcell k x hx
      have e0 := hcell' k y hy
      have hA := HA.out
      rw [drop_at hx, drop_at hy, dec_cons] at hA
      clear hcell hcell' hx hy hlt HA HR
      by_cases e : x = y
      · have HA2 : Hid (decide (l.drop (k + 1) = l'.drop (k + 1)) = R) := Lib.hid (by rw [← hA, decide_eq_true e, Bool.true_and])
        subst e
        have h0 : (x != x) = false := by simp
        clear hA
        go_wp2
        go_quiet (fail)
        go_wp2
        go_roundw
        case rel => exact ⟨k + 1, by omega, by go_num, HA2, Lib.hid (Gen.dN HB.out _)⟩
        case measure => simp [intOf]; omega
      · obtain rfl : R = false := by rw [← hA, decide_eq_false e, Bool.false_and]
        have h0 : (x != y) = true := by simp [e]
        clear hA
        go_wp2
        go_quiet (fail)
        go_wp2
        go_ret
        exact ⟨rfl, Gen.dN HB.out _⟩
    · obtain rfl : n = k := by omega
      have hA := HA.out
      rw [List.drop_of_length_le (by rw [HN.out]; exact Nat.le_refl _), List.drop_of_length_le (by rw [HN'.out]; exact Nat.le_refl _)] at hA
      obtain rfl : R = true := by rw [← hA]; rfl
      clear hlt hA HA HR
      go_wp2
      go_ret
      exact ⟨rfl, HB.out⟩
/-- the amount of a seat -/
def ofA : List (Int × Int) → Int → Int
  | [], _ => 0
  | x :: l, s => if x.1 = s then x.2 else ofA l s
set_option maxRecDepth 100000 in
set_option maxHeartbeats 4000000 in
theorem of_any {w : World} {A : Option Addr} {n c : Nat} {l : List (Int × Int)} (hn : l.length = n) (hc : Rs p2 2 w A l) (hbig : n ≤ 1000000000) (s : Int) :
    Calls Try.prog 20 #[.slice A n c, .int .i64 s] w fun e w' => e = .returned (.int .i64 (ofA l s)) ∧ w' = w := by
  have HN := Lib.hid hn
  have HC := Lib.hid hc
  obtain ⟨R, hR⟩ : ∃ R, ofA l s = R := ⟨_, rfl⟩
  rw [hR]
  have HR := Lib.hid (show ofA (l.drop 0) s = R from hR)
  clear hn hc hR
  go_enter Try.func20, Try.ntmps20
  go_wp2_with (fail)
  go_loopw [5] (fun iv wr => ∃ k : Nat, k ≤ n ∧ iv = .int .i64 k ∧ Hid (ofA (l.drop k) s = R) ∧ wr = w) (fun iv _ => n - (intOf iv).toNat)
  case atStart => exact ⟨0, Nat.zero_le _, rfl, HR, rfl⟩
  case round =>
    obtain ⟨k, hk, rfl, HA, rfl⟩ := hrel
    have k0 : (0 : Int) ≤ (k : Int) := by omega
    by_cases hlt : k < n
    · have hltI : (k : Int) < (n : Int) := by omega
      obtain ⟨⟨y, z⟩, hy⟩ := at_ l k (by rw [HN.out]; exact hlt)
      obtain ⟨b, off, rfl, hcell⟩ := HC.out (by rw [HN.out]; omega)
      have c0 := hcell k _ hy 0 _ rfl
      have c1 := hcell k _ hy 1 _ rfl
      dsimp only at c0 c1
      rw [Nat.add_zero] at c0
      have hA := HA.out
      rw [drop_at hy, ofA] at hA
      dsimp only at hA
      clear hcell hy hlt HA HR
      by_cases e : y = s
      · rw [if_pos e] at hA
        have HA2 := Lib.hid hA
        subst e
        clear hA
        go_wp2
        go_ret
        exact ⟨ret_int HA2.out, by first | rfl | trivial⟩
      · rw [if_neg e] at hA
        have he : (y == s) = false := by simp [e]
        have HA2 := Lib.hid hA
        clear hA
        go_wp2
        go_roundw
        case rel => first | exact ⟨k + 1, by omega, by go_num, HA2, rfl⟩ | exact ⟨k + 1, by omega, by go_num, HA2, trivial⟩ | exact ⟨k + 1, by omega, by go_num, HA2⟩
        case measure => simp [intOf]; omega
    · obtain rfl : n = k := by omega
      have hA := HA.out
      rw [List.drop_of_length_le (by rw [HN.out]; exact Nat.le_refl _), ofA] at hA
      have HA2 := Lib.hid hA
      clear hlt hA HA HR
      go_wp2
      go_ret
      exact ⟨ret_int HA2.out, by first | rfl | trivial⟩
set_option maxRecDepth 100000 in
set_option maxHeartbeats 4000000 in
theorem same_any {w : World} {A A' : Option Addr} {n n' c c' : Nat} {l l' : List (Int × Int)} (hn : l.length = n) (hn' : l'.length = n') (hc : Rs p2 2 w A l) (hc' : Rs p2 2 w A' l') (hbig : n ≤ 1000000000) (hbig' : n' ≤ 1000000000) :
    Calls Try.prog 17 #[.slice A n c, .slice A' n' c'] w fun e w' => e = .returned (.bool (decide (l = l'))) ∧ Below w.heap.size w w' := by
  by_cases hnn : n = n'
  case neg =>
    have HR := Lib.hid (dec_len (a := l) (b := l') (by omega))
    have h1 : ((n : Int) != (n' : Int)) = true := by simp; omega
    clear hn hn' hc hc' hnn
    go_enter Try.func17, Try.ntmps17
    go_wp2
    go_ret
    exact ⟨ret_bool HR.out.symm, Below.refl _ _⟩
  subst hnn
  have HN := Lib.hid hn
  have HN' := Lib.hid hn'
  have HC := Lib.hid hc
  have HC' := Lib.hid hc'
  obtain ⟨R, hR⟩ : ∃ R, decide (l = l') = R := ⟨_, rfl⟩
  rw [hR]
  have HR := Lib.hid (show decide (l.drop 0 = l'.drop 0) = R from hR)
  have h1 : ((n : Int) != (n : Int)) = false := by simp
  clear hn hn' hc hc' hR
  go_enter Try.func17, Try.ntmps17
  go_wp2
  clear h1
  go_loopw [5] (fun iv wr => ∃ k : Nat, k ≤ n ∧ iv = .int .i64 k ∧ Hid (decide (l.drop k = l'.drop k) = R) ∧ Hid (Below w.heap.size w wr)) (fun iv _ => n - (intOf iv).toNat)
  case atStart => exact ⟨0, Nat.zero_le _, rfl, HR, Lib.hid (Below.refl _ _)⟩
  case round =>
    obtain ⟨k, hk, rfl, HA, HB⟩ := hrel
    have k0 : (0 : Int) ≤ (k : Int) := by omega
    by_cases hlt : k < n
    · have hltI : (k : Int) < (n : Int) := by omega
      obtain ⟨⟨x1, x2⟩, hx⟩ := at_ l k (by rw [HN.out]; exact hlt)
      obtain ⟨⟨y1, y2⟩, hy⟩ := at_ l' k (by rw [HN'.out]; exact hlt)
      obtain ⟨b, off, rfl, hcell⟩ := (HC.out.keep HB.out) (by rw [HN.out]; omega)
      obtain ⟨b', off', rfl, hcell'⟩ := (HC'.out.keep HB.out) (by rw [HN'.out]; omega)
      have c0 := hcell k _ hx 0 _ rfl
      have c1 := hcell k _ hx 1 _ rfl
      have e0 := hcell' k _ hy 0 _ rfl
      have e1 := hcell' k _ hy 1 _ rfl
      dsimp only at c0 c1 e0 e1
      rw [Nat.add_zero] at c0 e0
      have hA := HA.out
      rw [drop_at hx, drop_at hy, dec_cons] at hA
      clear hcell hcell' hx hy hlt HA HR
      by_cases e : x1 = y1
      · subst e
        by_cases g : x2 = y2
        · subst g
          have HA2 : Hid (decide (l.drop (k + 1) = l'.drop (k + 1)) = R) := Lib.hid (by rw [← hA, decide_eq_true rfl, Bool.true_and])
          have h0 : (x1 != x1) = false := by simp
          have h1 : (x2 != x2) = false := by simp
          clear hA
          go_wp2
          go_quiet (fail)
          go_wp2
          go_roundw
          case rel => exact ⟨k + 1, by omega, by go_num, HA2, Lib.hid (Gen.dN HB.out _)⟩
          case measure => simp [intOf]; omega
        · obtain rfl : R = false := by rw [← hA, decide_eq_false (by intro h; injection h with _ h; exact g h), Bool.false_and]
          have h0 : (x1 != x1) = false := by simp
          have h1 : (x2 != y2) = true := by simp [g]
          clear hA
          go_wp2
          go_quiet (fail)
          go_wp2
          go_ret
          exact ⟨rfl, Gen.dN HB.out _⟩
      · obtain rfl : R = false := by rw [← hA, decide_eq_false (by intro h; injection h with h _; exact e h), Bool.false_and]
        have h0 : (x1 != y1) = true := by simp [e]
        clear hA
        go_wp2
        go_quiet (fail)
        go_wp2
        go_ret
        exact ⟨rfl, Gen.dN HB.out _⟩
    · obtain rfl : n = k := by omega
      have hA := HA.out
      rw [List.drop_of_length_le (by rw [HN.out]; exact Nat.le_refl _), List.drop_of_length_le (by rw [HN'.out]; exact Nat.le_refl _)] at hA
      obtain rfl : R = true := by rw [← hA]; rfl
      clear hlt hA HA HR
      go_wp2
      go_ret
      exact ⟨rfl, HB.out⟩
/-- few values, with few sources and facts each -/
def shB (d : Dv) : Bool := decide (d.fr.length ≤ 20) && decide (d.fa.length ≤ 20)
def fewB (l : List Dv) (m : Nat) : Bool := decide (l.length ≤ m) && l.all shB
set_option maxRecDepth 100000 in
set_option maxHeartbeats 4000000 in
theorem few_any {w : World} {A : Option Addr} {n c m : Nat} {l : List Dv} (hn : l.length = n) (hc : Dvs w A l) (hbig : n ≤ 9223372036854775807) (hm : m ≤ 1000) (hin : ∀ d ∈ l, d.fr.length ≤ 9223372036854775807 ∧ d.fa.length ≤ 9223372036854775807) :
    Calls Try.prog 9 #[.slice A n c, .int .i64 (m : Int)] w fun e w' => e = .returned (.bool (fewB l m)) ∧ w' = w := by
  have HN := Lib.hid hn
  have HC := Lib.hid hc
  have HIN := Lib.hid hin
  obtain ⟨R, hR⟩ : ∃ R, fewB l m = R := ⟨_, rfl⟩
  rw [hR]
  unfold fewB at hR
  rw [hn] at hR
  have HR := Lib.hid (show (decide (n ≤ m) && (l.drop 0).all shB) = R from hR)
  have m0 : (0 : Int) ≤ (m : Int) := by omega
  clear hn hc hR hin
  go_enter Try.func9, Try.ntmps9
  go_wp2_with (fail)
  go_loopw [5] (fun iv wr => ∃ k : Nat, k ≤ n ∧ k ≤ m + 1 ∧ iv = .int .i64 k ∧ Hid ((decide (n ≤ m) && (l.drop k).all shB) = R) ∧ wr = w) (fun iv _ => n - (intOf iv).toNat)
  case atStart => exact ⟨0, Nat.zero_le _, Nat.zero_le _, rfl, HR, rfl⟩
  case round =>
    obtain ⟨k, hk, hkm, rfl, HA, rfl⟩ := hrel
    have k0 : (0 : Int) ≤ (k : Int) := by omega
    by_cases hlt : k < n
    · have hltI : (k : Int) < (n : Int) := by omega
      by_cases hle : k ≤ m
      · have hleI : (k : Int) ≤ (m : Int) := by omega
        obtain ⟨⟨fr, fa⟩, hx⟩ := at_ l k (by rw [HN.out]; exact hlt)
        obtain ⟨g, off, rfl, hcell⟩ := HC.out (by rw [HN.out]; omega)
        obtain ⟨A1, c1, A2, c2, hd⟩ := hcell k _ hx
        obtain ⟨L1, L2⟩ := HIN.out _ (mem_of_at hx)
        dsimp only at L1 L2
        have d0 := hd.k0
        have d1 := hd.k1
        dsimp only at d0 d1
        have hA := HA.out
        rw [drop_at hx, List.all_cons] at hA
        obtain ⟨n1, hn1⟩ : ∃ n1, fr.length = n1 := ⟨_, rfl⟩
        obtain ⟨n2, hn2⟩ : ∃ n2, fa.length = n2 := ⟨_, rfl⟩
        have hs : shB ⟨fr, fa⟩ = (decide (n1 ≤ 20) && decide (n2 ≤ 20)) := by unfold shB; rw [hn1, hn2]
        rw [hn1] at d0 L1
        rw [hn2] at d1 L2
        rw [hs] at hA
        clear hcell hx hd hn1 hn2 hs HA HR hlt
        by_cases h1 : n1 ≤ 20
        · have h1I : ¬ ((20 : Int) < (n1 : Int)) := by omega
          by_cases h2 : n2 ≤ 20
          · have h2I : ¬ ((20 : Int) < (n2 : Int)) := by omega
            have HA2 : Hid ((decide (n ≤ m) && (l.drop (k + 1)).all shB) = R) := Lib.hid (by rw [← hA, decide_eq_true h1, decide_eq_true h2, Bool.true_and, Bool.true_and])
            clear hA
            go_wp2
            go_roundw
            case rel => first | exact ⟨k + 1, by omega, by omega, by go_num, HA2, rfl⟩ | exact ⟨k + 1, by omega, by omega, by go_num, HA2, trivial⟩ | exact ⟨k + 1, by omega, by omega, by go_num, HA2⟩
            case measure => simp [intOf]; omega
          · have h2I : (20 : Int) < (n2 : Int) := by omega
            obtain rfl : R = false := by rw [← hA, decide_eq_false h2, Bool.and_false, Bool.false_and, Bool.and_false]
            clear hA
            go_wp2
            go_ret
            exact ⟨rfl, by first | rfl | trivial⟩
        · have h1I : (20 : Int) < (n1 : Int) := by omega
          obtain rfl : R = false := by rw [← hA, decide_eq_false h1, Bool.false_and, Bool.false_and, Bool.and_false]
          clear hA
          go_wp2
          go_ret
          exact ⟨rfl, by first | rfl | trivial⟩
      · have hleI : ¬ ((k : Int) ≤ (m : Int)) := by omega
        have hnm : ¬ ((n : Int) ≤ (m : Int)) := by omega
        obtain rfl : R = false := by rw [← HA.out, decide_eq_false (by omega), Bool.false_and]
        clear HA HR hlt
        go_wp2
        go_ret
        exact ⟨by first | rfl | trivial | (simp; try omega), by first | rfl | trivial⟩
    · obtain rfl : n = k := by omega
      have hA := HA.out
      rw [List.drop_of_length_le (by rw [HN.out]; exact Nat.le_refl _), List.all_nil, Bool.and_true] at hA
      by_cases hnm : n ≤ m
      · have hnI : (n : Int) ≤ (m : Int) := by omega
        obtain rfl : R = true := by rw [← hA, decide_eq_true hnm]
        clear hlt hA HA HR
        go_wp2
        go_ret
        exact ⟨by first | rfl | trivial | (simp; try omega), by first | rfl | trivial⟩
      · have hnI : ¬ ((n : Int) ≤ (m : Int)) := by omega
        obtain rfl : R = false := by rw [← hA, decide_eq_false hnm]
        clear hlt hA HA HR
        go_wp2
        go_ret
        exact ⟨by first | rfl | trivial | (simp; try omega), by first | rfl | trivial⟩
end Go.Proofs.Ytohbdffmidbjhaa.Re
