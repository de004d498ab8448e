/- The reference of book: the contracts of above, Right, is, Level, Root. -/
import Derived.Test.YtpekedhcnijgcaaBookQ
namespace Go.Proofs.Ytpekedhcnijgcaa.Book
open Go.ChangeShapes Go.WideShapes Go.ChangeAt Go.RowKit Go.Proofs.Ytpekedhcnijgcaa.Cell
set_option linter.unusedVariables false
set_option linter.unusedSimpArgs false

theorem lev_upP {ss : List (Int × Int)} (h : pre ss) {k : Nat} {s : Int × Int} (hs : ss[k]? = some s) {x : Int} (hx : (acc lv0 ss)[k]? = some x) (hp : 0 ≤ s.1) :
    s.1.toNat < k ∧ ∃ y, (acc lv0 ss)[s.1.toNat]? = some y ∧ x = y + 1 := by
  have ho := okS_in (h k s hs)
  have hk := lt_of_at hs
  have hpk : s.1.toNat < k := by omega
  refine ⟨hpk, ?_⟩
  have hl : s.1.toNat < (acc lv0 ss).length := by rw [acc_length]; omega
  refine ⟨(acc lv0 ss)[s.1.toNat], List.getElem?_eq_getElem hl, ?_⟩
  rw [acc_at lv0 hs] at hx
  rw [lv0_pos hp, List.getD_eq_getElem?_getD, acc_old lv0 (Nat.le_of_lt hk) hpk, List.getElem?_eq_getElem hl] at hx
  exact (Option.some.inj hx).symm
theorem pre_of {ss : List (Int × Int)} (h : rg ss = true) : pre ss := fun k s hs => ((okF_iff ss).1 (rg_ok h).2 k s hs).1
theorem rg_iff {ss : List (Int × Int)} (hp : pre ss) : (∀ (k : Nat) (x : Int), (acc lv0 ss)[k]? = some x → x ≤ 4) → okF ss = true := fun h => by
  rw [okF_iff]
  exact fun k s hs => ⟨hp k s hs, h k _ (acc_at lv0 hs)⟩

set_option maxRecDepth 100000 in
set_option maxHeartbeats 4000000 in
theorem above_any (A : Option Addr) (n cap : Nat) (ss : List (Int × Int)) (c : Nat) (y : Int) (w : World) (hn : ss.length = n) (hc : Prs w A ss) (hbig : n ≤ 1000000) (hpre : pre ss) (hy : (acc lv0 ss)[c]? = some y) :
    Calls Try.prog 70 #[.slice A n cap, .int .i64 c] w fun e w' => e = .returned (.int .i64 y) ∧ Below w.heap.size w w' := by
  have hcn := lt_of_at hy
  rw [acc_length] at hcn
  rw [hn] at hcn
  obtain ⟨y0, y1⟩ := lev_k hpre c y hy
  have HN := Lib.hid hn
  have HP := Lib.hid hpre
  have HY := Lib.hid hy
  clear hn hpre hy
  go_enter Try.func70, Try.ntmps70
  go_wp2_with (fail)
  go_loop [1, 5] (fun cv nv => ∃ (k : Nat) (x m : Int), k < n ∧ cv = .int .i64 k ∧ nv = .int .i64 m ∧ (acc lv0 ss)[k]? = some x ∧ x ≤ y ∧ m = y - x) (fun cv _ => (intOf cv).toNat)
  case atStart => exact ⟨c, y, 0, by omega, rfl, rfl, HY.out, by omega, by omega⟩
  case round =>
    obtain ⟨k, x, m, hk, rfl, rfl, hx, hxy, hm⟩ := hrel
    obtain ⟨b, off, rfl, hcell⟩ := hc (by rw [HN.out]; omega)
    obtain ⟨s, hs⟩ := at_ ss k (by rw [HN.out]; exact hk)
    obtain ⟨c0, c1⟩ := hcell k s hs
    obtain ⟨x0, x1⟩ := lev_k HP.out k x hx
    by_cases hp : 0 ≤ s.1
    · obtain ⟨hpk, z, hz, hxz⟩ := lev_upP HP.out hs hx hp
      have HZ := Lib.hid hz
      have m0 : 0 ≤ m := by omega
      have m1 : m ≤ 1000000 := by omega
      have hm' : m + 1 = y - z := by omega
      have hzy : z ≤ y := by omega
      have HM := Lib.hid hm'
      clear hcell hs hx hz hxz hm hm' hc
      obtain ⟨p, o⟩ := s
      dsimp only at c0 c1 hp hpk HZ
      obtain ⟨q, rfl⟩ := Int.eq_ofNat_of_zero_le hp
      rw [Int.toNat_natCast] at hpk HZ
      go_wp2
      go_round
      case rel => exact ⟨q, z, _, by omega, rfl, rfl, HZ.out, hzy, HM.out⟩
      case measure => simp [intOf]; omega
    · have hx0 := lev_top hs hx (by omega)
      have hmy : m = y := by omega
      have HM := Lib.hid hmy
      have hp' : s.1 < 0 := by omega
      clear hcell hs hx hx0 hm hmy hp
      obtain ⟨p, o⟩ := s
      dsimp only at c0 c1 hp'
      go_wp2
      go_ret
      exact ⟨ret_int (by rw [HM.out]), Below.refl _ _⟩

set_option maxRecDepth 100000 in
set_option maxHeartbeats 8000000 in
theorem rright_any (A : Option Addr) (n cap : Nat) (ss : List (Int × Int)) (w : World) (hn : ss.length = n) (hc : Prs w A ss) (hbig : n ≤ 1000000) :
    Calls Try.prog 57 #[.slice A n cap] w fun e w' => e = .returned (.bool (rg ss)) ∧ Below w.heap.size w w' := by
  have HN := Lib.hid hn
  clear hn
  go_enter Try.func57, Try.ntmps57
  go_wp2_with (fail)
  go_loopw [3] (fun i wr => ∃ k : Nat, k ≤ n ∧ i = .int .i64 k ∧ pre (ss.take k) ∧ Below w.heap.size w wr) (fun i _ => n - (intOf i).toNat)
  case atStart => exact ⟨0, Nat.zero_le _, rfl, fun k s h => absurd h (by simp), by go_grown⟩
  case round =>
    obtain ⟨k, hk, rfl, hpre, hB⟩ := hrel
    have HP := Lib.hid hpre
    clear hpre
    have hS := hB.size
    by_cases hlt : k < n
    · obtain ⟨b, off, rfl, hcell⟩ := (hc.keep hB) (by rw [HN.out]; omega)
      obtain ⟨s, hs⟩ := at_ ss k (by rw [HN.out]; exact hlt)
      obtain ⟨c0, c1⟩ := hcell k s hs
      have HS := Lib.hid hs
      clear hcell hs hc
      obtain ⟨p, o⟩ := s
      dsimp only at c0 c1
      by_cases hg : -1 ≤ p ∧ p < k ∧ -1 ≤ o ∧ o < 60
      · have HOK := Lib.hid (show okS k (p, o) = true from decide_eq_true hg)
        obtain ⟨g0, g1, g2, g3⟩ := hg
        go_wp2
        go_roundw
        case rel => exact ⟨k + 1, by omega, by go_num, pre_take HP.out HS.out HOK.out, by go_grown⟩
        case measure => simp [intOf]; omega
      · have HF := Lib.hid (rg_take HS.out (decide_eq_false hg))
        rcases (show p < -1 ∨ (-1 ≤ p ∧ (k : Int) ≤ p) ∨ (-1 ≤ p ∧ p < k ∧ o < -1) ∨ (-1 ≤ p ∧ p < k ∧ -1 ≤ o ∧ 60 ≤ o) from by omega) with g0 | ⟨g0, g1⟩ | ⟨g0, g1, g2⟩ | ⟨g0, g1, g2, g3⟩
        all_goals
          clear hg
          go_wp2
          go_ret
          exact ⟨ret_bool HF.out.symm, by go_grown⟩
    · obtain rfl : n = k := by omega
      have hpre : pre ss := by
        have := HP.out
        rwa [List.take_of_length_le (by rw [HN.out]; exact Nat.le_refl _)] at this
      have HP2 := Lib.hid hpre
      clear hpre
      replace hc := hc.keep hB
      go_wp2_with (fail)
      go_loopw [5] (fun i w2 => ∃ j : Nat, j ≤ n ∧ i = .int .i64 j ∧ (∀ (q : Nat) (x : Int), q < j → (acc lv0 ss)[q]? = some x → x ≤ 4) ∧ Below wr.heap.size wr w2) (fun i _ => n - (intOf i).toNat)
      case atStart => exact ⟨0, Nat.zero_le _, rfl, fun q x h => absurd h (by omega), Below.refl _ _⟩
      case round =>
        obtain ⟨j, hj, rfl, hall, hB2⟩ := hrel
        have HA := Lib.hid hall
        clear hall
        by_cases hlt2 : j < n
        · obtain ⟨y, hy⟩ := at_ (acc lv0 ss) j (by rw [acc_length, HN.out]; exact hlt2)
          have hcr := hc.keep hB2
          have HY := Lib.hid hy
          clear hy hlt
          by_cases h4 : y ≤ 4
          · go_wp2_with (fail)
            go_must (refine (above_any _ _ _ _ _ _ _ HN.out hcr hbig HP2.out HY.out).mono ?_)
            rintro e w3 ⟨rfl, hb3⟩
            have hB3 := Gen.over hb3 hB2
            go_wp2
            go_roundw
            case rel => exact ⟨j + 1, by omega, by go_num, fun q x hq hx => by
              by_cases e : q = j
              · subst e
                have := HY.out
                rw [hx] at this
                injection this with this
                omega
              · exact HA.out q x (by omega) hx, hB3⟩
            case measure => simp [intOf]; omega
          · have HF := Lib.hid (show rg ss = false from rg_no (.inr (by
              have hs := List.getElem?_eq_getElem (l := ss) (i := j) (by rw [HN.out]; exact hlt2)
              have h2 := acc_at lv0 hs
              rw [HY.out] at h2
              injection h2 with h2
              exact okF_no hs (.inr (by omega)))))
            have h4' : 4 < y := by omega
            clear h4
            go_wp2_with (fail)
            go_must (refine (above_any _ _ _ _ _ _ _ HN.out hcr hbig HP2.out HY.out).mono ?_)
            rintro e w3 ⟨rfl, hb3⟩
            have hB3 := Gen.over hb3 hB2
            go_wp2
            go_ret
            exact ⟨ret_bool HF.out.symm, Gen.over hB3 hB⟩
        · obtain rfl : j = n := by omega
          have HF := Lib.hid (show rg ss = decide ((j : Int) ≤ 20000) from by
            have h1 : okF ss = true := rg_iff HP2.out fun q x hx => HA.out q x (by have := lt_of_at hx; rw [acc_length, HN.out] at this; exact this) hx
            unfold rg
            rw [h1, Bool.and_true, HN.out, decide_eq_decide]
            omega)
          go_wp2
          go_ret
          exact ⟨ret_bool HF.out.symm, Gen.over hB2 hB⟩
theorem rright_is {A : Option Addr} {n cap : Nat} {ss : List (Int × Int)} {b : Bool} (w : World) (hn : ss.length = n) (hc : Prs w A ss) (hbig : n ≤ 1000000) (h : rg ss = b) :
    Calls Try.prog 57 #[.slice A n cap] w fun e w' => e = .returned (.bool b) ∧ Below w.heap.size w w' := by
  have hh := rright_any A n cap ss w hn hc hbig
  rw [h] at hh
  exact hh

set_option maxHeartbeats 1000000 in
theorem is_any (A : Option Addr) (n cap : Nat) (ss : List (Int × Int)) (i : Int) (w : World) (hn : ss.length = n) (hc : Prs w A ss) (hbig : n ≤ 1000000) :
    Calls Try.prog 71 #[.slice A n cap, .int .i64 i] w fun e w' => e = .returned (.bool (isS ss i)) ∧ Below w.heap.size w w' := by
  have HN := Lib.hid hn
  clear hn
  by_cases h : 0 ≤ i ∧ i < n
  · cases hr : rg ss
    all_goals
      have HF := Lib.hid (show isS ss i = _ from by unfold isS; rw [HN.out, decide_eq_true h, hr])
      obtain ⟨h1, h2⟩ := h
      go_enter Try.func71, Try.ntmps71
      go_wp2_with (fail)
      go_must (refine (rright_is _ HN.out hc hbig hr).mono ?_)
      rintro e w1 ⟨rfl, hb⟩
      go_wp2
      go_ret
      exact ⟨ret_bool HF.out.symm, hb⟩
  · have HF := Lib.hid (show isS ss i = false from by unfold isS; rw [HN.out, decide_eq_false h]; rfl)
    rcases (show i < 0 ∨ (0 ≤ i ∧ (n : Int) ≤ i) from by omega) with h1 | ⟨h1, h2⟩
    all_goals
      clear h
      go_enter Try.func71, Try.ntmps71
      go_wp2
      go_ret
      exact ⟨ret_bool HF.out.symm, by go_grown⟩
theorem is_is {A : Option Addr} {n cap : Nat} {ss : List (Int × Int)} {i : Int} {b : Bool} (w : World) (hn : ss.length = n) (hc : Prs w A ss) (hbig : n ≤ 1000000) (h : isS ss i = b) :
    Calls Try.prog 71 #[.slice A n cap, .int .i64 i] w fun e w' => e = .returned (.bool b) ∧ Below w.heap.size w w' := by
  have hh := is_any A n cap ss i w hn hc hbig
  rw [h] at hh
  exact hh
end Go.Proofs.Ytpekedhcnijgcaa.Book
