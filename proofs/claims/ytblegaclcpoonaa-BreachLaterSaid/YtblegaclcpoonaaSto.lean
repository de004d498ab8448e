/- BreachStory returns true: every news of at most 80 days, graces and first days; and more: no condition. -/
import Derived.Test.YtblegaclcpoonaaPlay
namespace Go.Proofs.Ytblegaclcpoonaa.Br
open Go.ChangeShapes Go.WideShapes Go.ChangeAt Go.RowKit
set_option linter.unusedVariables false
set_option linter.unusedSimpArgs false

def FallPost (l : List (Int × Int)) (w : World) (e : Ending) (w' : World) : Prop := ∃ x : Int, e = .returned (.int .i64 x) ∧ Fa l x ∧ w = w'
set_option maxHeartbeats 1000000 in
theorem fallen_any (A : Option Addr) (n cap : Nat) (l : List (Int × Int)) (w : World) (hn : l.length = n) (hc : Brs w A l) (hbig : n ≤ 80) : Calls Try.prog 28 #[.slice A n cap] w (FallPost l w) := by
  have HN := Lib.hid hn
  clear hn
  go_enter Try.func28, Try.ntmps28
  go_wp2
  go_loop [3] (fun i => ∃ k : Nat, k ≤ n ∧ i = .int .i64 k ∧ ∀ (j : Nat) (p : Int × Int), j < k → l[j]? = some p → p.1 ≠ 2) (fun i => n - (intOf i).toNat)
  case atStart => exact ⟨0, Nat.zero_le _, rfl, fun j p h => absurd h (by omega)⟩
  case round =>
    obtain ⟨k, hk, rfl, ha⟩ := hrel
    have HA := Lib.hid ha
    clear ha
    by_cases hlt : k < n
    · obtain ⟨b, off, rfl, hcell⟩ := hc (by rw [HN.out]; omega)
      obtain ⟨p, hp⟩ := at_ l k (by rw [HN.out]; exact hlt)
      obtain ⟨c0, c1⟩ := hcell k p hp
      have HP := Lib.hid hp
      clear hcell hp
      obtain ⟨s, d⟩ := p
      dsimp only at c0 c1
      by_cases hs : s = 2
      · subst hs
        go_wp2
        go_ret
        exact ⟨k, rfl, .inr ⟨k, _, rfl, HP.out, rfl, HA.out⟩, rfl⟩
      · have HS := Lib.hid hs
        have hb : (s == 2) = false := by simpa using hs
        clear hs
        go_wp2
        go_round
        case rel => exact ⟨k + 1, by omega, by go_num, fun j p hj hp => by
          by_cases hjk : j = k
          · subst hjk
            rw [HP.out] at hp
            rw [← Option.some.inj hp]
            exact HS.out
          · exact HA.out j p (by omega) hp⟩
        case measure => simp [intOf]; omega
    · obtain rfl : k = n := by omega
      go_wp2
      go_ret
      exact ⟨-1, rfl, .inl ⟨rfl, fun i p hp => HA.out i p (by rw [← HN.out]; exact (List.getElem?_eq_some_iff.1 hp).1) hp⟩, rfl⟩

def ExPost (zs : List Int) (g n : Nat) (w : World) (e : Ending) (w' : World) : Prop := ∃ x : Int, e = .returned (.int .i64 x) ∧ Ex (nw zs) g n x ∧ w = w'
theorem bad_snoc {f : Nat → Int} {i k : Nat} {q r : Bool} (hq : q = true ↔ (f i = 0 ∧ ∀ m, i < m → m < k → f m ≠ 1)) (hi : i < k) (hr : r = (q && !(f k == 1))) :
    r = true ↔ (f i = 0 ∧ ∀ m, i < m → m < k + 1 → f m ≠ 1) := by
  subst hr
  rw [Bool.and_eq_true, hq]
  constructor
  · rintro ⟨⟨a, b⟩, c⟩
    refine ⟨a, fun m h1 h2 => ?_⟩
    by_cases hm : m = k
    · subst hm; simpa using c
    · exact b m h1 (by omega)
  · rintro ⟨a, b⟩
    exact ⟨⟨a, fun m h1 h2 => b m h1 (by omega)⟩, by simpa using b k hi (by omega)⟩
set_option maxHeartbeats 2000000 in
theorem expected_any (A : Option Addr) (n cap : Nat) (zs : List Int) (g : Nat) (w : World) (hn : zs.length = n) (hc : U8s w A zs) (hz : ∀ z ∈ zs, 0 ≤ z ∧ z ≤ 255) (hbig : n ≤ 80) (hg : g ≤ 1000) :
    Calls Try.prog 27 #[.slice A n cap, .int .i64 g] w (ExPost zs g n w) := by
  have HN := Lib.hid hn
  have HZ := Lib.hid hz
  clear hn hz
  go_enter Try.func27, Try.ntmps27
  go_wp2
  go_loop [5, 6, 7] (fun i _ _ => ∃ k : Nat, k ≤ n ∧ i = .int .i64 k ∧ ∀ j, j < k → ¬ bad (nw zs) g j) (fun i _ _ => n - (intOf i).toNat)
  case atStart => exact ⟨0, Nat.zero_le _, rfl, fun j h => absurd h (by omega)⟩
  case round =>
    obtain ⟨i, hk, rfl, ha⟩ := hrel
    have HA := Lib.hid ha
    clear ha
    by_cases hlt : i + g < n
    · obtain ⟨b, off, rfl, hcell⟩ := hc (by rw [HN.out]; omega)
      have HC := Lib.hid hcell
      obtain ⟨z, hzi⟩ := at_ zs i (by rw [HN.out]; omega)
      obtain ⟨z0, z1⟩ := HZ.out z (mem_of_at hzi)
      have c0 := hcell i z hzi
      have HW := Lib.hid (nw_at hzi)
      have i1 : (i : Int) + g < n := by omega
      clear hcell hzi
      go_wp2
      go_loop [6, 7] (fun q k => ∃ (m : Nat) (qb : Bool), q = .bool qb ∧ k = .int .i64 m ∧ i + 1 ≤ m ∧ m ≤ i + g + 1 ∧ (qb = true ↔ (nw zs i = 0 ∧ ∀ x, i < x → x < m → nw zs x ≠ 1))) (fun _ k => i + g + 1 - (intOf k).toNat)
      case atStart => exact ⟨i + 1, _, rfl, by go_num, by omega, by omega, by rw [HW.out]; simp; omega⟩
      case round =>
        obtain ⟨m, qb, rfl, rfl, hm0, hm1, hq⟩ := hrel
        have HQ := Lib.hid hq
        clear hq
        by_cases hml : m ≤ i + g
        · obtain ⟨y, hy⟩ := at_ zs m (by rw [HN.out]; omega)
          obtain ⟨y0, y1⟩ := HZ.out y (mem_of_at hy)
          have c1 := HC.out m y hy
          have HY := Lib.hid (nw_at hy)
          clear hy c0
          cases qb
          · go_wp2
            go_round
            case rel => exact ⟨m + 1, _, rfl, by go_num, by omega, by omega, bad_snoc HQ.out (by omega) (by simp)⟩
            case measure => simp [intOf]; omega
          · go_wp2
            go_round
            case rel => exact ⟨m + 1, _, rfl, by go_num, by omega, by omega, bad_snoc HQ.out (by omega) (by rw [HY.out]; simp [bne])⟩
            case measure => simp [intOf]; omega
        · obtain rfl : m = i + g + 1 := by omega
          clear c0
          cases qb
          · go_wp2
            go_round
            case rel => exact ⟨i + 1, by omega, by go_num, fun j hj hb => by
              by_cases hji : j = i
              · subst hji
                have := HQ.out.2 ⟨hb.1, fun x h1 h2 => hb.2 x h1 (by omega)⟩
                cases this
              · exact HA.out j (by omega) hb⟩
            case measure => simp [intOf]; omega
          · go_wp2
            go_ret
            exact ⟨_, rfl, .inr ⟨i, by omega, hlt, ⟨(HQ.out.1 (by simp)).1, fun x h1 h2 => (HQ.out.1 (by simp)).2 x h1 (by omega)⟩, HA.out⟩, rfl⟩
    · have i1 : (n : Int) ≤ (i : Int) + g := by omega
      go_wp2
      go_ret
      exact ⟨-1, rfl, .inl ⟨rfl, fun j hj => HA.out j (by omega)⟩, rfl⟩

theorem r_is {s d : Int} {b : Bool} (h : okB s d = b) (w : World) : Calls Try.prog 22 #[bv s d] w fun e w' => e = .returned (.bool b) ∧ Below w.heap.size w w' := by
  have hh := right_any s d w
  rw [h] at hh
  exact hh

set_option maxRecDepth 100000 in
set_option maxHeartbeats 1000000 in
theorem story_a (A : Option Addr) (n cap : Nat) (g first : Int) (w : World) (hbig : 80 < n) :
    Calls Try.prog 4 #[.slice A n cap, .int .u8 g, .int .u16 first] w fun e w' => e = .returned (.bool true) ∧ Below w.heap.size w w' := by
  go_enter Try.func4, Try.ntmps4
  go_wp2_with (fail)
  refine (small_any _).mono ?_
  rintro e w1 ⟨rfl, hb⟩
  go_wp2
  go_ret
  exact ⟨rfl, hb⟩

set_option maxRecDepth 100000 in
set_option maxHeartbeats 4000000 in
theorem story_b (A : Option Addr) (n cap : Nat) (zs : List Int) (g first : Int) (w : World) (hn : zs.length = n) (hc : U8s w A zs) (hz : ∀ z ∈ zs, 0 ≤ z ∧ z ≤ 255) (hbig : n ≤ 80)
    (g0 : 0 ≤ g) (g1 : g ≤ 255) (f0 : 0 ≤ first) (f1 : first ≤ 65535) :
    Calls Try.prog 4 #[.slice A n cap, .int .u8 g, .int .u16 first] w fun e w' => e = .returned (.bool true) ∧ Below w.heap.size w w' := by
  obtain ⟨G, hG⟩ : ∃ G : Nat, g % 12 = G := ⟨(g % 12).toNat, by omega⟩
  have hG1 : G ≤ 11 := by omega
  have HN := Lib.hid hn
  have HZ := Lib.hid hz
  clear hn hz
  go_enter Try.func4, Try.ntmps4
  go_wp2_with (fail)
  refine (small_any _).mono ?_
  rintro e w1 ⟨rfl, hb1⟩
  go_wp2_with (fail)
  go_must (refine (play_any A n cap zs G first _ HN.out (hc.keep hb1) HZ.out hbig (by omega) f0 (by omega)).mono ?_)
  rintro e w2 ⟨A', c', rfl, hb2, hl⟩
  go_wp2_with (fail)
  go_must (refine (expected_any A n cap zs G _ HN.out ((hc.keep hb1).keep hb2) HZ.out hbig (by omega)).mono ?_)
  rintro e w3 ⟨x, rfl, hx, rfl⟩
  have hfx := fall_of_ex (nw_in zs) (show G ≤ 1000 by omega) f0 (show first + n ≤ 200000 by omega) hx
  have HX := Lib.hid hx
  have hxb : -1 ≤ x ∧ x < n := by
    rcases hx with h | ⟨i, h, _⟩ <;> omega
  obtain ⟨x0, x1⟩ := hxb
  have hlen := hist_length (nw zs) G first n
  have HL := Lib.hid hlen
  clear hx hlen
  go_wp2_with (fail)
  go_must (refine (fallen_any A' n c' _ _ HL.out hl hbig).mono ?_)
  rintro e w3 ⟨y, rfl, hy, rfl⟩
  obtain rfl : y = x := hy.uniq hfx
  clear hy hfx
  have hB2 : Below w.heap.size w w2 := over hb2 hb1
  clear hc hb1 hb2
  go_wp2_with (fail)
  go_loopw [12] (fun i wr => ∃ k : Nat, k ≤ n ∧ i = .int .i64 k ∧ Below w2.heap.size w2 wr) (fun i _ => n - (intOf i).toNat)
  case atStart => exact ⟨0, Nat.zero_le _, rfl, Below.refl _ _⟩
  case round =>
    obtain ⟨k, hk, rfl, hB⟩ := hrel
    have hS : w2.heap.size ≤ wr.heap.size := hB.size
    by_cases hlt : k < n
    · obtain ⟨b, off, rfl, hcell⟩ := (hl.keep hB) (by rw [HL.out]; omega)
      obtain ⟨c0, c1⟩ := hcell k _ (hist_get hlt)
      have hr := st_right (nw_in zs) (show G ≤ 1000 by omega) f0 (show first + n ≤ 200000 by omega) hlt
      have h5 : (0 ≤ y ∧ y ≤ k ∧ st (nw zs) G first (k + 1) = (2, first + y)) ∨ ((y < 0 ∨ (0 ≤ y ∧ (k : Int) < y)) ∧ ((st (nw zs) G first (k + 1)).1 = 0 ∨ (st (nw zs) G first (k + 1)).1 = 1)) := by
        by_cases hy : 0 ≤ y ∧ y ≤ k
        · exact .inl ⟨hy.1, hy.2, st_late (nw_in zs) (show G ≤ 1000 by omega) f0 (show first + n ≤ 200000 by omega) HX.out hy.1 hlt hy.2⟩
        · exact .inr ⟨by omega, st_early (nw_in zs) (show G ≤ 1000 by omega) f0 (show first + n ≤ 200000 by omega) HX.out hlt (by omega)⟩
      generalize st (nw zs) G first (k + 1) = p at c0 c1 hr h5
      obtain ⟨s, d⟩ := p
      dsimp only at c0 c1 hr h5
      clear hcell
      rcases h5 with ⟨y0, y1, he⟩ | ⟨hy, hs⟩
      · obtain ⟨rfl, rfl⟩ := Prod.mk.inj he
        have HR := Lib.hid hr
        clear hr
        go_wp2_with (fail)
        go_must (refine (r_is HR.out _).mono ?_)
        rintro e w4 ⟨rfl, hb⟩
        have hB4 := over hb hB
        go_wp2
        go_roundw
        case rel => exact ⟨k + 1, by omega, by go_num, hB4⟩
        case measure => simp [intOf]; omega
      · have HR := Lib.hid hr
        clear hr
        rcases hy with hy | ⟨hy, hy'⟩ <;> rcases hs with rfl | rfl
        all_goals
          go_wp2_with (fail)
          go_must (refine (r_is HR.out _).mono ?_)
          rintro e w4 ⟨rfl, hb⟩
          have hB4 := over hb hB
          have d0 := Br.keep hb _ _ _ c0
          have d1 := Br.keep hb _ _ _ c1
          clear c0 c1
          go_wp2
          go_roundw
          case rel => exact ⟨k + 1, by omega, by go_num, hB4⟩
          case measure => simp [intOf]; omega
    · obtain rfl : k = n := by omega
      go_wp2
      go_ret
      exact ⟨rfl, hB2.trans (hB.mono hB2.size)⟩
end Go.Proofs.Ytblegaclcpoonaa.Br
