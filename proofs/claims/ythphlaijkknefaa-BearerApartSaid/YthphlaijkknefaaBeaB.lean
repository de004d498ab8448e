/- Bearer pieces: the contracts of right, Right, find. -/
import Derived.Test.YthphlaijkknefaaBeaA
namespace Go.Proofs.Ythphlaijkknefaa.Bea
open Go.ChangeShapes Go.WideShapes Go.ChangeAt Go.RowKit Go.Proofs.Ythphlaijkknefaa.Cell
set_option linter.unusedVariables false
set_option linter.unusedSimpArgs false
set_option maxRecDepth 100000 in
set_option maxHeartbeats 4000000 in
theorem right_any (is un lo se : Int) (A : Option Addr) (n c : Nat) (w : World) (hbig : n ≤ 9223372036854775807) :
    Calls Try.prog 23 #[.agg #[.int .i64 is, .int .i64 un, .slice A n c, .int .i64 lo, .int .i64 se]] w fun e w' => e = .returned (.bool (rgt is un n lo se)) ∧ Below w.heap.size w w' := by
  have hB : Below w.heap.size w (w.alloc (.cells #[.int .i64 is, .int .i64 un, .slice A n c, .int .i64 lo, .int .i64 se] 36)) := Gen.b_alloc (Below.refl _ _)
  by_cases h2 : 0 ≤ is
  case neg =>
    rw [show rgt is un n lo se = false from decide_eq_false (by omega)]
    go_enter Try.func23, Try.ntmps23
    go_wp2
    go_ret
    exact ⟨rfl, hB⟩
  by_cases h2 : is < 400
  case neg =>
    rw [show rgt is un n lo se = false from decide_eq_false (by omega)]
    go_enter Try.func23, Try.ntmps23
    go_wp2
    go_ret
    exact ⟨rfl, hB⟩
  by_cases h2 : 1 ≤ un
  case neg =>
    rw [show rgt is un n lo se = false from decide_eq_false (by omega)]
    go_enter Try.func23, Try.ntmps23
    go_wp2
    go_ret
    exact ⟨rfl, hB⟩
  by_cases h2 : un ≤ 1000000000
  case neg =>
    rw [show rgt is un n lo se = false from decide_eq_false (by omega)]
    go_enter Try.func23, Try.ntmps23
    go_wp2
    go_ret
    exact ⟨rfl, hB⟩
  by_cases h2 : n ≤ 400
  case neg =>
    have hnI : (400 : Int) < (n : Int) := by omega
    rw [show rgt is un n lo se = false from decide_eq_false (by omega)]
    go_enter Try.func23, Try.ntmps23
    go_wp2
    go_ret
    exact ⟨rfl, hB⟩
  have hnI : (n : Int) ≤ 400 := by omega
  by_cases hl : lo = -1
  · subst hl
    by_cases hs : se = -1
    · subst hs
      rw [show rgt is un n (-1) (-1) = true from decide_eq_true (by omega)]
      go_enter Try.func23, Try.ntmps23
      go_wp2
      go_ret
      exact ⟨rfl, hB⟩
    · rw [show rgt is un n (-1) se = false from decide_eq_false (by omega)]
      go_enter Try.func23, Try.ntmps23
      go_wp2
      go_ret
      exact ⟨ret_bool (by simp [hs]), hB⟩
  · by_cases hd : 0 ≤ lo ∧ lo ≤ 200000
    · have HD := Lib.hid (decide_eq_true hd)
      by_cases hs : se = -1
      · subst hs
        rw [show rgt is un n lo (-1) = true from decide_eq_true (by omega)]
        go_enter Try.func23, Try.ntmps23
        go_wp2_with (fail)
        go_must (refine (isDay_any lo _).mono ?_)
        rintro e w1 ⟨rfl, rfl⟩
        rw [HD.out]
        go_wp2
        go_ret
        exact ⟨rfl, hB⟩
      · have HE : Hid (rgt is un n lo se = decide (0 ≤ se ∧ se < 20000)) := Lib.hid (decide_eq_decide.2 ⟨fun h => by omega, fun h => by omega⟩)
        go_enter Try.func23, Try.ntmps23
        go_wp2_with (fail)
        go_must (refine (isDay_any lo _).mono ?_)
        rintro e w1 ⟨rfl, rfl⟩
        rw [HD.out]
        go_wp2_with (fail)
        go_must (refine (isSeat_any se _).mono ?_)
        rintro e w1 ⟨rfl, rfl⟩
        rw [← HE.out]
        go_wp2
        go_ret
        exact ⟨ret_bool (by simp [hs]), hB⟩
    · have HD := Lib.hid (decide_eq_false hd)
      rw [show rgt is un n lo se = false from decide_eq_false (by omega)]
      go_enter Try.func23, Try.ntmps23
      go_wp2_with (fail)
      go_must (refine (isDay_any lo _).mono ?_)
      rintro e w1 ⟨rfl, rfl⟩
      rw [HD.out]
      go_wp2
      go_ret
      exact ⟨rfl, hB⟩
theorem rgtL_no {l : List Pc} {x : Pc} (hx : x ∈ l) (h : rgtP x = false) : rgtL l = false := by
  unfold rgtL
  have : l.all rgtP = false := by rw [List.all_eq_false]; exact ⟨x, hx, by rw [h]; simp⟩
  rw [this, Bool.and_false]
theorem rgtL_yes {l : List Pc} (h1 : l.length ≤ 1000) (h : ∀ x ∈ l, rgtP x = true) : rgtL l = true := by
  unfold rgtL
  rw [decide_eq_true h1, List.all_eq_true.2 h]; rfl
theorem rgtL_in {l : List Pc} (h : rgtL l = true) : l.length ≤ 1000 ∧ ∀ x ∈ l, rgtP x = true := by
  unfold rgtL at h
  rw [Bool.and_eq_true] at h
  exact ⟨of_decide_eq_true h.1, List.all_eq_true.1 h.2⟩
set_option maxRecDepth 100000 in
set_option maxHeartbeats 4000000 in
theorem Right_any (A : Option Addr) (n cap : Nat) (l : List Pc) (w : World) (hn : l.length = n) (hc : Pcl w A l) (hsz : ∀ x ∈ l, x.pd.length ≤ 9223372036854775807) (hbig : n ≤ 9223372036854775807) :
    Calls Try.prog 14 #[.slice A n cap] w fun e w' => e = .returned (.bool (rgtL l)) ∧ Below w.heap.size w w' := by
  have HN := Lib.hid hn
  have HSZ := Lib.hid hsz
  clear hsz
  by_cases h0 : n ≤ 1000
  · have h0I : (n : Int) ≤ 1000 := by omega
    clear hn
    go_enter Try.func14, Try.ntmps14
    go_wp2
    go_loopw [10] (fun iv wr => ∃ k : Nat, k ≤ n ∧ iv = .int .i64 k ∧ Hid (∀ y ∈ l.take k, rgtP y = true) ∧ Hid (Below w.heap.size w wr)) (fun iv _ => n - (intOf iv).toNat)
    case atStart => exact ⟨0, Nat.zero_le _, rfl, Lib.hid (by simp), Lib.hid (Below.refl _ _)⟩
    case round =>
      obtain ⟨k, hk, rfl, HA, HB⟩ := hrel
      have k0 : (0 : Int) ≤ (k : Int) := by omega
      by_cases hlt : k < n
      · have hltI : (k : Int) < (n : Int) := by omega
        obtain ⟨b, off, rfl, hcell⟩ := (hc.keep HB.out) (by rw [HN.out]; omega)
        obtain ⟨x, hx⟩ := at_ l k (by rw [HN.out]; exact hlt)
        obtain ⟨c0, c1, ⟨A2, c2, c2', _⟩, c3, c4⟩ := hcell k x hx
        have HX := Lib.hid hx
        have hs := HSZ.out x (mem_of_at hx)
        clear hcell hx
        obtain ⟨xi, xu, xp, xl, xs⟩ := x
        dsimp only at c0 c1 c2' c3 c4 hs
        go_wp2_with (fail)
        go_must (refine (right_any xi xu xl xs A2 xp.length c2 _ hs).mono ?_)
        rintro e w1 ⟨rfl, hb1⟩
        have HB1 := Lib.hid (Gen.over hb1 (Gen.b_alloc HB.out))
        clear hb1
        cases hp : rgt xi xu xp.length xl xs
        · have HF := Lib.hid (rgtL_no (mem_of_at HX.out) hp)
          clear hp
          go_wp2
          go_ret
          exact ⟨ret_bool HF.out.symm, HB1.out⟩
        · have HF : Hid (∀ y ∈ l.take (k + 1), rgtP y = true) := Lib.hid (fun y hy => by
            rw [take_snoc HX.out, List.mem_append] at hy
            rcases hy with hy | hy
            · exact HA.out y hy
            · rw [List.mem_singleton.1 hy]; exact hp)
          clear hp
          go_wp2
          go_roundw
          case rel => exact ⟨k + 1, by omega, by go_num, HF, HB1⟩
          case measure => simp [intOf]; omega
      · obtain rfl : k = n := by omega
        have HF := Lib.hid (rgtL_yes (l := l) (by rw [HN.out]; exact h0) (fun y hy => HA.out y (by rw [List.take_of_length_le (by rw [HN.out]; exact Nat.le_refl _)]; exact hy)))
        go_wp2
        go_ret
        exact ⟨ret_bool HF.out.symm, HB.out⟩
  · have h0I : (1000 : Int) < (n : Int) := by omega
    have HF : Hid (rgtL l = false) := Lib.hid (by unfold rgtL; rw [decide_eq_false (by rw [hn]; exact h0)]; rfl)
    clear hn
    go_enter Try.func14, Try.ntmps14
    go_wp2
    go_ret
    exact ⟨ret_bool HF.out.symm, Below.refl _ _⟩
theorem find_any (p : Int) (A : Option Addr) (n cap : Nat) (w : World) (hbig : n ≤ 9223372036854775807) :
    Calls Try.prog 25 #[.slice A n cap, .int .i64 p] w fun e w' => e = .returned (.int .i64 (if 0 ≤ p ∧ p < n then 0 else 4)) ∧ w = w' := by
  by_cases h0 : 0 ≤ p
  · obtain ⟨k, rfl⟩ : ∃ k : Nat, p = k := ⟨p.toNat, by omega⟩
    by_cases h1 : k < n
    · have h1I : (k : Int) < (n : Int) := by omega
      rw [if_pos ⟨h0, h1I⟩]
      go_enter Try.func25, Try.ntmps25
      go_wp2
      go_ret
      exact ⟨rfl, rfl⟩
    · have h1I : (n : Int) ≤ (k : Int) := by omega
      rw [if_neg (by omega)]
      have h1D : n ≤ k := by omega
      go_enter Try.func25, Try.ntmps25
      go_wp2
      go_ret
      exact ⟨rfl, rfl⟩
  · rw [if_neg (by omega)]
    have h0I : p < 0 := by omega
    go_enter Try.func25, Try.ntmps25
    go_wp2
    go_ret
    exact ⟨rfl, rfl⟩
end Go.Proofs.Ythphlaijkknefaa.Bea
