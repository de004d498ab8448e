/- The reference's 'Right' of votes. -/
import Derived.Test.YtblegaclcpoonaaVoteE
import Derived.Deep.QuietTactic
import Derived.BigQuiet
import Derived.Deep.DeepMust
import Derived.IntWalk
namespace Go.Proofs.Ytblegaclcpoonaa.Vote
open Go.ChangeShapes Go.WideShapes Go.ChangeAt Go.RowKit
set_option linter.unusedVariables false
set_option linter.unusedSimpArgs false

theorem okT_no {zs : List Int} {vs : List V} (h : zs.all goodU = false ∨ 20000 < zs.length ∨ 2000 < vs.length ∨ rV zs.length 0 vs = false) : okT zs vs = false := by
  unfold okT sumB allU rgt
  rcases h with h | h | h | h
  · rw [h]; simp
  · rw [decide_eq_false (by omega)]; simp
  · rw [decide_eq_false (show ¬ vs.length ≤ 2000 by omega)]; simp
  · rw [h]; simp
theorem okT_yes {zs : List Int} {vs : List V} (h : zs.all goodU = true) (h1 : zs.length ≤ 20000) (h2 : vs.length ≤ 2000) (h3 : rV zs.length 0 vs = true) : okT zs vs = decide (total zs ≤ 1000000000) := by
  unfold okT sumB allU rgt
  rw [h, h3, decide_eq_true h1, decide_eq_true h2]; simp
theorem alc {w : World} {o : Obj} {b j : Nat} {v : Value} (h : w.cell? ⟨b, j, none⟩ = some v) : (w.alloc o).cell? ⟨b, j, none⟩ = some v :=
  (World.cell?_alloc_lt w o ⟨b, j, none⟩ (World.block_lt_of_cell? w ⟨b, j, none⟩ h)).trans h
theorem dN {B : Nat} {w W : World} (h : Below B w W) (k : Nat) : Below B w (W.drewN k) := ⟨h.os, h.tape, h.output, h.size, h.block⟩
/-- the day before, where there is one -/
def prv (vs : List V) : Nat → Int
  | 0 => 0
  | k + 1 => match vs[k]? with | some v => v.d | none => 0
theorem prv_at {vs : List V} {k : Nat} {v : V} (h : vs[k]? = some v) : prv vs (k + 1) = v.d := by simp [prv, h]

set_option maxRecDepth 100000 in
set_option maxHeartbeats 4000000 in
theorem rright_any (A : Option Addr) (n cap : Nat) (zs : List Int) (A' : Option Addr) (m cap' : Nat) (vs : List V) (w : World) (hn : zs.length = n) (hc : Ints w A zs) (hbig : n ≤ 9223372036854775807)
    (hm : vs.length = m) (hc' : Votes w A' vs) (hbig' : m ≤ 9223372036854775807) :
    Calls Try.prog 40 #[.slice A n cap, .slice A' m cap'] w fun e w' => e = .returned (.bool (okT zs vs)) ∧ Below w.heap.size w w' := by
  have HN := Lib.hid hn
  have HM := Lib.hid hm
  clear hn hm
  by_cases hb : n ≤ 20000 ∧ m ≤ 2000
  case neg =>
    have HF := Lib.hid (okT_no (zs := zs) (vs := vs) (by rw [HN.out, HM.out]; omega))
    rcases (show 20000 < n ∨ n ≤ 20000 ∧ 2000 < m from by omega) with h | ⟨h, h'⟩
    all_goals
      clear hb
      go_enter Try.func40, Try.ntmps40
      go_wp2
      go_ret
      exact ⟨ret_bool HF.out.symm, by go_grown⟩
  obtain ⟨hb1, hb2⟩ := hb
  go_enter Try.func40, Try.ntmps40
  go_wp2
  go_loop [5, 6] (fun s i => ∃ k : Nat, k ≤ n ∧ i = .int .i64 k ∧ (zs.take k).all goodU = true ∧ s = .int .i64 (total (zs.take k))) (fun _ i => n - (intOf i).toNat)
  case atStart => exact ⟨0, Nat.zero_le _, rfl, by simp, by simp [total]⟩
  case round =>
    obtain ⟨k, hk, rfl, ha, rfl⟩ := hrel
    have hb := total_in _ ha
    have hl : ((zs.take k).length : Int) ≤ 20000 := by
      have := List.length_take_le k zs
      omega
    have hb3 := hb.1
    have hb4 : total (zs.take k) ≤ 20000000000000 := by omega
    have HL := Lib.hid ha
    clear hb hl ha
    by_cases hlt : k < n
    · obtain ⟨b, off, rfl, hcell⟩ := hc (by rw [HN.out]; omega)
      obtain ⟨z, hz⟩ := at_ zs k (by rw [HN.out]; exact hlt)
      have hcz := hcell k z hz
      have HZ := Lib.hid hz
      clear hcell hc hz
      by_cases hg : 0 ≤ z ∧ z ≤ 1000000000
      · obtain ⟨hlo, hhi⟩ := hg
        go_wp2
        go_round
        case rel => exact ⟨k + 1, by omega, by go_num, by rw [take_snoc HZ.out, List.all_append, HL.out]; simp [goodU]; omega, by rw [take_snoc HZ.out, total_snoc]⟩
        case measure => simp [intOf]; omega
      · have HF := Lib.hid (okT_no (zs := zs) (vs := vs) (.inl (not_all HZ.out (decide_eq_false hg))))
        rcases (show z < 0 ∨ 0 ≤ z ∧ 1000000000 < z from by omega) with h | ⟨h, h'⟩
        all_goals
          clear hg
          go_wp2
          go_ret
          exact ⟨ret_bool HF.out.symm, by go_grown⟩
    · obtain rfl : k = n := by omega
      have hall : zs.all goodU = true := by
        have := HL.out
        rwa [← HN.out, List.take_length] at this
      have ht : total (zs.take k) = total zs := by rw [← HN.out, List.take_length]
      have HA := Lib.hid hall
      rw [ht] at hb3 hb4 ⊢
      clear ht hall HL hc
      go_wp2
      go_loopw [7] (fun i wr => ∃ j : Nat, j ≤ m ∧ 0 ≤ prv vs j ∧ i = .int .i64 j ∧ rV zs.length 0 vs = rV zs.length (prv vs j) (vs.drop j) ∧ Below w.heap.size w wr) (fun i _ => m - (intOf i).toNat)
      case atStart => exact ⟨0, Nat.zero_le _, by simp [prv], rfl, by simp [prv], Below.refl _ _⟩
      case round =>
        obtain ⟨j, hj, hp0, rfl, he, hB⟩ := hrel
        have HE := Lib.hid he
        have hS : w.heap.size ≤ wr.heap.size := hB.size
        clear he
        by_cases hjl : j < m
        · obtain ⟨b, off, rfl, hcell⟩ := hc' (by rw [HM.out]; omega)
          obtain ⟨v, hv⟩ := at_ vs j (by rw [HM.out]; exact hjl)
          obtain ⟨c0, c1, c2⟩ := (hcell j v hv).keepB hB
          have HD := Lib.hid (drop_at hv)
          have HP := Lib.hid (prv_at hv)
          have HC := Lib.hid hcell
          clear hv hcell hc'
          obtain ⟨s, d, y⟩ := v
          dsimp only at c0 c1 c2
          by_cases hok : 0 ≤ s ∧ s < k ∧ prv vs j ≤ d ∧ 0 ≤ d ∧ d ≤ 200000
          · have HG := Lib.hid (show rV zs.length 0 vs = rV zs.length (prv vs (j + 1)) (vs.drop (j + 1)) from by
              have : okV zs.length (prv vs j) ⟨s, d, y⟩ = true := decide_eq_true (by rw [HN.out]; dsimp only; omega)
              rw [HE.out, HD.out, HP.out]; simp [rV, this])
            obtain ⟨a1, a2, a3, a4, a5⟩ := hok
            have q0 : decide (s < 0) = false := decide_eq_false (by omega)
            have q1 : decide ((k : Int) ≤ s) = false := decide_eq_false (by omega)
            have q2 : decide (d < 0) = false := decide_eq_false (by omega)
            have q3 : decide (200000 < d) = false := decide_eq_false (by omega)
            rcases Nat.eq_zero_or_pos j with h0 | h0
            · subst h0
              simp only [Nat.zero_mul, Nat.add_zero] at c0 c1 c2
              go_wp2
              go_quiet (fail)
              go_wp2
              go_roundw
              case rel => exact ⟨0 + 1, by omega, by rw [HP.out]; exact a4, by go_num, HG.out, dN (by go_grown) _⟩
              case measure => simp [intOf]; omega
            · obtain ⟨i, rfl⟩ : ∃ i, j = i + 1 := ⟨j - 1, by omega⟩
              obtain ⟨v, hv⟩ := at_ vs i (by rw [HM.out]; omega)
              obtain ⟨d0, d1, d2⟩ := (HC.out i v hv).keepB hB
              have HQ := Lib.hid (prv_at hv)
              rw [HQ.out] at a3
              clear hv
              obtain ⟨s', d', y'⟩ := v
              dsimp only at d0 d1 d2 a3
              have i0 : (0 : Int) ≤ (i : Int) := by omega
              have i1 : (i : Int) < (m : Int) := by omega
              have q4 : decide ((0 : Int) < (i : Int) + 1) = true := decide_eq_true (by omega)
              have q5 : decide (d < d') = false := decide_eq_false (by omega)
              have q6 : (if (i : Int) < 0 then (0 : Int) else i) = i := if_neg (by omega)
              go_wp2
              have d1' := alc (o := .cells #[.int .i64 s, .int .i64 d, .bool y] 56) d1
              have q7 : IntKind.i64.wrap (i : Int) = i := IntWalk.i64_in _ (by omega)
              have q8 : IntKind.i64.wrap ((i : Int) + 1 - 1) = i := by rw [Int.add_sub_cancel]; exact q7
              go_quiet (fail)
              clear q7 q8
              go_wp2
              go_roundw
              case rel => exact ⟨i + 1 + 1, by omega, by rw [HP.out]; exact a4, by go_num, HG.out, dN (by go_grown) _⟩
              case measure => simp [intOf]; omega
          · have HG := Lib.hid (show okT zs vs = false from okT_no (.inr (.inr (.inr (by
              have : okV zs.length (prv vs j) ⟨s, d, y⟩ = false := decide_eq_false (by rw [HN.out]; dsimp only; omega)
              rw [HE.out, HD.out]; simp [rV, this])))))
            rcases (show s < 0 ∨ (0 ≤ s ∧ (k : Int) ≤ s) ∨ (0 ≤ s ∧ s < k ∧ d < 0) ∨ (0 ≤ s ∧ s < k ∧ 0 ≤ d ∧ 200000 < d) ∨ (0 ≤ s ∧ s < k ∧ 0 ≤ d ∧ d ≤ 200000 ∧ d < prv vs j) from by omega) with a1 | ⟨a1, a2⟩ | ⟨a1, a2, a3⟩ | ⟨a1, a2, a3, a4⟩ | ⟨a1, a2, a3, a4, a5⟩
            · have q0 : decide (s < 0) = true := decide_eq_true (by omega)
              clear hok
              rcases Nat.eq_zero_or_pos j with h0 | h0
              · subst h0
                simp only [Nat.zero_mul, Nat.add_zero] at c0 c1 c2
                go_wp2
                go_quiet (fail)
                go_wp2
                go_ret
                exact ⟨ret_bool HG.out.symm, dN (by go_grown) _⟩
              · go_wp2
                go_quiet (fail)
                go_wp2
                go_ret
                exact ⟨ret_bool HG.out.symm, dN (by go_grown) _⟩
            · have q0 : decide (s < 0) = false := decide_eq_false (by omega)
              have q1 : decide ((k : Int) ≤ s) = true := decide_eq_true (by omega)
              clear hok
              rcases Nat.eq_zero_or_pos j with h0 | h0
              · subst h0
                simp only [Nat.zero_mul, Nat.add_zero] at c0 c1 c2
                go_wp2
                go_quiet (fail)
                go_wp2
                go_ret
                exact ⟨ret_bool HG.out.symm, dN (by go_grown) _⟩
              · go_wp2
                go_quiet (fail)
                go_wp2
                go_ret
                exact ⟨ret_bool HG.out.symm, dN (by go_grown) _⟩
            · have q0 : decide (s < 0) = false := decide_eq_false (by omega)
              have q1 : decide ((k : Int) ≤ s) = false := decide_eq_false (by omega)
              have q2 : decide (d < 0) = true := decide_eq_true (by omega)
              clear hok
              rcases Nat.eq_zero_or_pos j with h0 | h0
              · subst h0
                simp only [Nat.zero_mul, Nat.add_zero] at c0 c1 c2
                go_wp2
                go_quiet (fail)
                go_wp2
                go_ret
                exact ⟨ret_bool HG.out.symm, dN (by go_grown) _⟩
              · go_wp2
                go_quiet (fail)
                go_wp2
                go_ret
                exact ⟨ret_bool HG.out.symm, dN (by go_grown) _⟩
            · have q0 : decide (s < 0) = false := decide_eq_false (by omega)
              have q1 : decide ((k : Int) ≤ s) = false := decide_eq_false (by omega)
              have q2 : decide (d < 0) = false := decide_eq_false (by omega)
              have q3 : decide (200000 < d) = true := decide_eq_true (by omega)
              clear hok
              rcases Nat.eq_zero_or_pos j with h0 | h0
              · subst h0
                simp only [Nat.zero_mul, Nat.add_zero] at c0 c1 c2
                go_wp2
                go_quiet (fail)
                go_wp2
                go_ret
                exact ⟨ret_bool HG.out.symm, dN (by go_grown) _⟩
              · go_wp2
                go_quiet (fail)
                go_wp2
                go_ret
                exact ⟨ret_bool HG.out.symm, dN (by go_grown) _⟩
            · obtain ⟨i, rfl⟩ : ∃ i, j = i + 1 := ⟨j - 1, by
                rcases Nat.eq_zero_or_pos j with h0 | h0
                · subst h0
                  simp [prv] at a5
                  omega
                · omega⟩
              obtain ⟨v, hv⟩ := at_ vs i (by rw [HM.out]; omega)
              obtain ⟨d0, d1, d2⟩ := (HC.out i v hv).keepB hB
              have HQ := Lib.hid (prv_at hv)
              rw [HQ.out] at a5
              clear hv hok
              obtain ⟨s', d', y'⟩ := v
              dsimp only at d0 d1 d2 a5
              have i0 : (0 : Int) ≤ (i : Int) := by omega
              have i1 : (i : Int) < (m : Int) := by omega
              have q0 : decide (s < 0) = false := decide_eq_false (by omega)
              have q1 : decide ((k : Int) ≤ s) = false := decide_eq_false (by omega)
              have q2 : decide (d < 0) = false := decide_eq_false (by omega)
              have q3 : decide (200000 < d) = false := decide_eq_false (by omega)
              have q4 : decide ((0 : Int) < (i : Int) + 1) = true := decide_eq_true (by omega)
              have q5 : decide (d < d') = true := decide_eq_true (by omega)
              have q6 : (if (i : Int) < 0 then (0 : Int) else i) = i := if_neg (by omega)
              go_wp2
              have d1' := alc (o := .cells #[.int .i64 s, .int .i64 d, .bool y] 56) d1
              have q7 : IntKind.i64.wrap (i : Int) = i := IntWalk.i64_in _ (by omega)
              have q8 : IntKind.i64.wrap ((i : Int) + 1 - 1) = i := by rw [Int.add_sub_cancel]; exact q7
              go_quiet (fail)
              clear q7 q8
              go_wp2
              go_ret
              exact ⟨ret_bool HG.out.symm, dN (by go_grown) _⟩
        · obtain rfl : j = m := by omega
          have HG := Lib.hid (show okT zs vs = decide (total zs ≤ 1000000000) from okT_yes HA.out (by rw [HN.out]; exact hb1) (by rw [HM.out]; exact hb2) (by rw [HE.out, ← HM.out, List.drop_length]; rfl))
          go_wp2
          go_ret
          exact ⟨ret_bool HG.out.symm, by go_grown⟩
end Go.Proofs.Ytblegaclcpoonaa.Vote
