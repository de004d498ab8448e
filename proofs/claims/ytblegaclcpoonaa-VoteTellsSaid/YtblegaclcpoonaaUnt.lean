/- VoteUntil returns true: every number of units, votes and two days; no condition. -/
import Derived.Test.YtblegaclcpoonaaVoteK
namespace Go.Proofs.Ytblegaclcpoonaa.Vote
open Go.ChangeShapes Go.WideShapes Go.ChangeAt Go.RowKit
set_option linter.unusedVariables false
set_option linter.unusedSimpArgs false

theorem rright_is {A : Option Addr} {n cap : Nat} {zs : List Int} {A' : Option Addr} {m cap' : Nat} {vs : List V} {w : World} {b : Bool} (hn : zs.length = n) (hc : Ints w A zs) (hbig : n ≤ 9223372036854775807)
    (hm : vs.length = m) (hc' : Votes w A' vs) (hbig' : m ≤ 9223372036854775807) (h : okT zs vs = b) :
    Calls Try.prog 40 #[.slice A n cap, .slice A' m cap'] w fun e w' => e = .returned (.bool b) ∧ Below w.heap.size w w' := by
  have hh := rright_any A n cap zs A' m cap' vs w hn hc hbig hm hc' hbig'
  rw [h] at hh
  exact hh

set_option maxRecDepth 100000 in
set_option maxHeartbeats 2000000 in
theorem until_a (A : Option Addr) (n cap : Nat) (zs : List Int) (A' : Option Addr) (m cap' : Nat) (vs : List V) (u l : Int) (w : World) (hn : zs.length = n) (hc : Ints w A zs) (hm : vs.length = m) (hc' : Votes w A' vs) (h : 40 < n) :
    Calls Try.prog 10 #[.slice A n cap, .slice A' m cap', .int .i64 u, .int .u16 l] w fun e w' => e = .returned (.bool true) ∧ Below w.heap.size w w' := by
  have HN := Lib.hid hn
  have HM := Lib.hid hm
  clear hn hm
  go_enter Try.func10, Try.ntmps10
  go_wp2_with (fail)
  refine (small_any _).mono ?_
  rintro e w1 ⟨rfl, hb1⟩
  go_wp2
  go_ret
  exact ⟨rfl, hb1⟩

set_option maxRecDepth 100000 in
set_option maxHeartbeats 2000000 in
theorem until_b (A : Option Addr) (n cap : Nat) (zs : List Int) (A' : Option Addr) (m cap' : Nat) (vs : List V) (u l : Int) (w : World) (hn : zs.length = n) (hc : Ints w A zs) (hm : vs.length = m) (hc' : Votes w A' vs) (h : n ≤ 40) (h2 : 60 < m) :
    Calls Try.prog 10 #[.slice A n cap, .slice A' m cap', .int .i64 u, .int .u16 l] w fun e w' => e = .returned (.bool true) ∧ Below w.heap.size w w' := by
  have HN := Lib.hid hn
  have HM := Lib.hid hm
  clear hn hm
  go_enter Try.func10, Try.ntmps10
  go_wp2_with (fail)
  refine (small_any _).mono ?_
  rintro e w1 ⟨rfl, hb1⟩
  go_wp2
  go_ret
  exact ⟨rfl, hb1⟩

set_option maxRecDepth 100000 in
set_option maxHeartbeats 2000000 in
theorem until_c (A : Option Addr) (n cap : Nat) (zs : List Int) (A' : Option Addr) (m cap' : Nat) (vs : List V) (u l : Int) (w : World) (hn : zs.length = n) (hc : Ints w A zs) (hm : vs.length = m) (hc' : Votes w A' vs) (h : n ≤ 40) (h2 : m ≤ 60) (hok : Hid (okT zs vs = false)) :
    Calls Try.prog 10 #[.slice A n cap, .slice A' m cap', .int .i64 u, .int .u16 l] w fun e w' => e = .returned (.bool true) ∧ Below w.heap.size w w' := by
  have HN := Lib.hid hn
  have HM := Lib.hid hm
  clear hn hm
  go_enter Try.func10, Try.ntmps10
  go_wp2_with (fail)
  refine (small_any _).mono ?_
  rintro e w1 ⟨rfl, hb1⟩
  go_wp2_with (fail)
  go_must (refine (rright_is HN.out (hc.keep hb1) (by omega) HM.out (hc'.keep hb1) (by omega) hok.out).mono ?_)
  rintro e w2 ⟨rfl, hb2⟩
  have hB2 := Gen.over hb2 hb1
  go_wp2
  go_ret
  exact ⟨rfl, hB2⟩

set_option maxRecDepth 100000 in
set_option maxHeartbeats 2000000 in
theorem until_d (A : Option Addr) (n cap : Nat) (zs : List Int) (A' : Option Addr) (m cap' : Nat) (vs : List V) (u l : Int) (w : World) (hn : zs.length = n) (hc : Ints w A zs) (hm : vs.length = m) (hc' : Votes w A' vs) (h : n ≤ 40) (h2 : m ≤ 60) (hok : Hid (okT zs vs = true)) (h3 : u < 0) :
    Calls Try.prog 10 #[.slice A n cap, .slice A' m cap', .int .i64 u, .int .u16 l] w fun e w' => e = .returned (.bool true) ∧ Below w.heap.size w w' := by
  have HN := Lib.hid hn
  have HM := Lib.hid hm
  clear hn hm
  go_enter Try.func10, Try.ntmps10
  go_wp2_with (fail)
  refine (small_any _).mono ?_
  rintro e w1 ⟨rfl, hb1⟩
  go_wp2_with (fail)
  go_must (refine (rright_is HN.out (hc.keep hb1) (by omega) HM.out (hc'.keep hb1) (by omega) hok.out).mono ?_)
  rintro e w2 ⟨rfl, hb2⟩
  have hB2 := Gen.over hb2 hb1
  go_wp2
  go_ret
  exact ⟨rfl, hB2⟩

set_option maxRecDepth 100000 in
set_option maxHeartbeats 2000000 in
theorem until_e (A : Option Addr) (n cap : Nat) (zs : List Int) (A' : Option Addr) (m cap' : Nat) (vs : List V) (u l : Int) (w : World) (hn : zs.length = n) (hc : Ints w A zs) (hm : vs.length = m) (hc' : Votes w A' vs) (h : n ≤ 40) (h2 : m ≤ 60) (hok : Hid (okT zs vs = true)) (h3 : 0 ≤ u) (h4 : 200000 < u) :
    Calls Try.prog 10 #[.slice A n cap, .slice A' m cap', .int .i64 u, .int .u16 l] w fun e w' => e = .returned (.bool true) ∧ Below w.heap.size w w' := by
  have HN := Lib.hid hn
  have HM := Lib.hid hm
  clear hn hm
  go_enter Try.func10, Try.ntmps10
  go_wp2_with (fail)
  refine (small_any _).mono ?_
  rintro e w1 ⟨rfl, hb1⟩
  go_wp2_with (fail)
  go_must (refine (rright_is HN.out (hc.keep hb1) (by omega) HM.out (hc'.keep hb1) (by omega) hok.out).mono ?_)
  rintro e w2 ⟨rfl, hb2⟩
  have hB2 := Gen.over hb2 hb1
  go_wp2
  go_ret
  exact ⟨rfl, hB2⟩

set_option maxRecDepth 100000 in
set_option maxHeartbeats 8000000 in
theorem until_f (A : Option Addr) (n cap : Nat) (zs : List Int) (A' : Option Addr) (m cap' : Nat) (vs : List V) (u l : Int) (w : World) (hn : zs.length = n) (hc : Ints w A zs) (hm : vs.length = m) (hc' : Votes w A' vs) (h : n ≤ 40) (h2 : m ≤ 60) (hok : Hid (okT zs vs = true)) (u0 : 0 ≤ u) (u1 : u ≤ 200000) (l0 : 0 ≤ l) (l1 : l ≤ 65535) :
    Calls Try.prog 10 #[.slice A n cap, .slice A' m cap', .int .i64 u, .int .u16 l] w fun e w' => e = .returned (.bool true) ∧ Below w.heap.size w w' := by
  have HN := Lib.hid hn
  have HM := Lib.hid hm
  clear hn hm
  obtain ⟨i0, hi0, hz0, hz1, hz2⟩ := info_parts info56
  obtain ⟨j0, hj0, jz0, jz1, jz2⟩ := info_parts info4
  have hmk : ∀ W : World, (Instr.makeSlice 51 (.int .i64 n) (.int .i64 n)).run Try.prog W = .ok (.slice (some ⟨W.heap.size, 0, none⟩) n n) (W.alloc (.cells (bcs (List.replicate n false)) 4)) := fun W => by
    have hr := run_make (P := Try.prog) W 51 4 j0 (.bool false) Try.underlying51 hj0 jz0 .i64 .i64 n n (by omega) (Int.le_refl _) (by rw [jz2]; omega) (by omega)
    rw [jz1, Int.toNat_natCast, made_bools] at hr
    exact hr
  clear hj0 jz0 jz1 jz2
  go_enter Try.func10, Try.ntmps10
  go_wp2_with (fail)
  refine (small_any _).mono ?_
  rintro e w1 ⟨rfl, hb1⟩
  go_wp2_with (fail)
  go_must (refine (rright_is HN.out (hc.keep hb1) (by omega) HM.out (hc'.keep hb1) (by omega) hok.out).mono ?_)
  rintro e w2 ⟨rfl, hb2⟩
  have hB2 := Gen.over hb2 hb1
  have z2 := (hc.keep hb1).keep hb2
  have v2 := (hc'.keep hb1).keep hb2
  have y2 : w.heap.size ≤ w2.heap.size := hB2.size
  clear hc hc' hb1 hb2
  go_wp2_with (fail)
  clear hmk
  go_loopw [10, 12] (fun ev i wr => ∃ k : Nat, k ≤ m ∧ i = .int .i64 k ∧ wr.ownsRow (w2.heap.size + 1) 56 3 ev (early u (vs.take k)).length (vls (early u (vs.take k))) ∧ Row wr w2.heap.size 4 (bcs (moved n u (u + l) (vs.take k))) ∧ Below w2.heap.size w2 wr) (fun _ i _ => m - (intOf i).toNat)
  case atStart => exact ⟨0, Nat.zero_le _, rfl, ⟨rfl, .inl ⟨rfl, rfl⟩⟩, Row.new _ _ _, by go_grown⟩
  case round =>
    obtain ⟨k, hk, rfl, hown, hrow, hB⟩ := hrel
    have hS : w2.heap.size < wr.heap.size := hrow.lt
    by_cases hlt : k < m
    · obtain ⟨b, off, rfl, hcell⟩ := v2 (by rw [HM.out]; omega)
      obtain ⟨v, hv⟩ := at_ vs k (by rw [HM.out]; exact hlt)
      obtain ⟨c0, c1, c2⟩ := (hcell k v hv).keepB hB
      obtain ⟨s0, s1, d0, d1⟩ := rgt_in (okT_rgt hok.out) (mem_of_at hv)
      rw [HN.out] at s1
      have HT := Lib.hid (take_snoc hv)
      have hle : (early u (vs.take k)).length ≤ 60 := by
        have a1 := (early_sub u (vs.take k)).length_le
        have a2 := List.length_take_le k vs
        omega
      clear hv hcell
      obtain ⟨s, d, y⟩ := v
      dsimp only at c0 c1 c2 s0 s1 d0 d1
      by_cases hd : d ≤ u
      · have HE := Lib.hid (show early u (vs.take (k + 1)) = early u (vs.take k) ++ [⟨s, d, y⟩] from by rw [HT.out, early_snoc, if_pos hd])
        have HV := Lib.hid (show moved n u (u + l) (vs.take (k + 1)) = moved n u (u + l) (vs.take k) from by rw [HT.out, moved_snoc]; exact if_neg (by dsimp only; omega))
        go_wp2_with (first
          | (at_builtin
             go_must (refine App.wpList_append_any _ rfl (.tmp 65) (.tmp 70) _ rfl (w2.heap.size + 1) 56 i0 _ 3 24 Try.underlying45 hi0 hz0 hz1 hz2 rfl (by omega) _ _ _ rfl (Gen.own_keep hown (Gen.b_alloc (Below.refl _ _))) _ _ 1 1 [.int .i64 s, .int .i64 d, .bool y] rfl (Gen.reads_blk (by simp) rfl) (by simp [Value.oneCell']) (by simp only [maxLen]; omega) (by omega) (Nat.le_trans hS (Gen.b_alloc (Below.refl _ _)).size) ?_)
             intro v3 w3 hown3 hg3 hat3
             have hB3 := Gen.g_below hown hg3 (Gen.b_alloc hB) (Nat.le_succ _)
             have hR3 := Gen.g_row hown hg3 (Nat.lt_succ_self _) (hrow.alloc _)
             clear hg3 hat3)
          | fail)
        go_roundw
        case rel => exact ⟨k + 1, by omega, by go_num, by rw [HE.out, List.length_append, vls_snoc]; exact hown3, by rw [HV.out]; exact hR3, hB3⟩
        case measure => simp [intOf]; omega
      · have HE := Lib.hid (show early u (vs.take (k + 1)) = early u (vs.take k) from by rw [HT.out, early_snoc, if_neg hd, List.append_nil])
        by_cases hd2 : d ≤ u + l
        · have HV := Lib.hid (show moved n u (u + l) (vs.take (k + 1)) = (moved n u (u + l) (vs.take k)).set s.toNat true from by rw [HT.out, moved_snoc]; exact if_pos (by dsimp only; omega))
          have hml := moved_length n u (u + l) (vs.take k)
          obtain ⟨x, hx⟩ := at_ (moved n u (u + l) (vs.take k)) s.toNat (by omega)
          have hl : wr.cell? ⟨w2.heap.size, s.toNat, none⟩ = some (.bool x) := hrow.boos' hx
          have hf := hrow.frozen s.toNat
          have hd' : u < d := by omega
          clear hx hml hd
          go_wp2
          go_roundw
          case rel => exact ⟨k + 1, by omega, by go_num, by rw [HE.out]; exact ownsRow_setCell_below hown (Nat.lt_succ_self _) _, by rw [HV.out, ← bcs_set]; exact hrow.set _ _, by go_grown⟩
          case measure => simp [intOf]; omega
        · have HV := Lib.hid (show moved n u (u + l) (vs.take (k + 1)) = moved n u (u + l) (vs.take k) from by rw [HT.out, moved_snoc]; exact if_neg (by dsimp only; omega))
          have hd' : u < d := by omega
          have hd3 : u + l < d := by omega
          clear hd hd2
          go_wp2
          go_roundw
          case rel => exact ⟨k + 1, by omega, by go_num, by rw [HE.out]; exact hown, by rw [HV.out]; exact hrow, hB⟩
          case measure => simp [intOf]; omega
    · obtain rfl : k = m := by omega
      rw [List.take_of_length_le (by rw [HM.out]; exact Nat.le_refl _)] at hown hrow
      obtain ⟨A3, c3, rfl, hr3⟩ := Gen.own_slice hown
      have e3 := votes_of_reads rfl hr3
      have hle : (early u vs).length ≤ 60 := by
        have a1 := (early_sub u vs).length_le
        have a2 := HM.out
        omega
      have z3 := z2.keep hB
      have v3 := v2.keep hB
      have hS3 : w2.heap.size ≤ wr.heap.size := hB.size
      have HO := Lib.hid (okT_len hok.out (rgt_sub (early_sub u vs) (okT_rgt hok.out)))
      obtain ⟨Y, hY⟩ : ∃ Y, yesR zs (lastV n u vs) = Y := ⟨_, rfl⟩
      have HY := Lib.hid hY
      have HY1 := Lib.hid (show yesR zs (lastV n u (early u vs)) = Y from by rw [last_early (Int.le_refl u)]; exact hY)
      have HY2 := Lib.hid (show yesR zs (lastV n (u + l) (early u vs)) = Y from by rw [last_early (by omega)]; exact hY)
      obtain ⟨X1, hX1⟩ : ∃ X, lastV n u vs = X := ⟨_, rfl⟩
      obtain ⟨X2, hX2⟩ : ∃ X, lastV n (u + l) vs = X := ⟨_, rfl⟩
      have HL := Lib.hid (show ∀ i : Nat, i < n → (moved n u (u + l) vs)[i]? = some false → X1[i]? = X2[i]? from fun i hi hh => by
        rw [← hX1, ← hX2]
        have hr := okT_rgt hok.out
        rw [HN.out] at hr
        exact last_still (by omega) hr (by omega) (by rw [Int.toNat_natCast]; exact hh))
      have HX1 := Lib.hid hX1
      have HX2 := Lib.hid hX2
      have HX1l := Lib.hid (show X1.length = n from by rw [← hX1, lastV_length]; simp)
      have HX2l := Lib.hid (show X2.length = n from by rw [← hX2, lastV_length]; simp)
      clear hY hX1 hX2 z2 v2 hown hr3
      go_wp2_with (fail)
      go_must (refine (tally_is _ HN.out z3 h HM.out v3 (by omega) hok.out HY.out rfl).mono ?_)
      rintro e w4 ⟨rfl, hb4⟩
      have k4 := Gen.over hb4 hB
      go_wp2_with (fail)
      go_must (refine (tally_is _ HN.out (z3.keep hb4) h rfl (e3.keep hb4) (by omega) HO.out HY1.out rfl).mono ?_)
      rintro e w5 ⟨rfl, hb5⟩
      have k5 := Gen.over hb5 k4
      have r5 := (hrow.keep hb4).keep hb5
      replace z3 := (z3.keep hb4).keep hb5
      replace v3 := (v3.keep hb4).keep hb5
      replace e3 := (e3.keep hb4).keep hb5
      clear hb4 hb5 k4 hB hrow
      go_wp2_with (fail)
      go_must (refine (tally_is _ HN.out z3 h rfl e3 (by omega) HO.out HY2.out rfl).mono ?_)
      rintro e w6 ⟨rfl, hb6⟩
      have k6 := Gen.over hb6 k5
      have r6 := r5.keep hb6
      clear k5 r5 e3 z3
      go_wp2_with (fail)
      go_must (refine (last_is _ HM.out (v3.keep hb6) (by omega) h HX1.out).mono ?_)
      rintro e w7 ⟨rfl, hb7, x7⟩
      have k7 := Gen.over hb7 k6
      have r7 := r6.keep hb7
      clear k6 r6
      go_wp2_with (fail)
      go_must (refine (last_is _ HM.out ((v3.keep hb6).keep hb7) (by omega) h HX2.out).mono ?_)
      rintro e w8 ⟨rfl, hb8, x8⟩
      have k8 := Gen.over hb8 k7
      have r8 := r7.keep hb8
      have q8 := x7.keep hb8
      clear k7 r7 x7 hb6 hb7 hb8 v3
      have hS8 : w.heap.size ≤ w8.heap.size := Nat.le_trans y2 k8.size
      have hB8 : Below w.heap.size w w8 := hB2.trans (k8.mono y2)
      have hml := moved_length n u (u + l) vs
      have HML := Lib.hid hml
      clear hml
      generalize moved n u (u + l) vs = M at r8 HML HL
      go_wp2_with (fail)
      go_loopw [24] (fun i wr' => ∃ j : Nat, j ≤ n ∧ i = .int .i64 j ∧ ∃ nq, wr' = w8.drewN nq) (fun i _ => n - (intOf i).toNat)
      case atStart => exact ⟨0, Nat.zero_le _, rfl, 0, rfl⟩
      case round =>
        obtain ⟨j, hj, rfl, nq, rfl⟩ := hrel
        by_cases hjl : j < n
        · obtain ⟨a, ha⟩ := at_ M j (by rw [HML.out]; exact hjl)
          obtain ⟨x, hx⟩ := at_ X1 j (by rw [HX1l.out]; exact hjl)
          obtain ⟨x', hx'⟩ := at_ X2 j (by rw [HX2l.out]; exact hjl)
          have p0 := r8.boos' ha
          have p1 := q8.boos' hx
          have p2 := x8.boos' hx'
          have hxx : a = false → x = x' := fun e => by
            have := HL.out j hjl (by rw [ha, e])
            rw [hx, hx'] at this
            exact Option.some.inj this
          have j0 : (0 : Int) ≤ (j : Int) := by omega
          have j1 : (j : Int) < (n : Int) := by omega
          clear ha hx hx'
          cases a
          · obtain rfl := hxx rfl
            clear hxx
            cases x
            all_goals
              go_wp2
              go_quiet (fail)
              go_wp2
              go_roundw
              case rel => exact ⟨j + 1, by omega, by go_num, _, rfl⟩
              case measure => simp [intOf]; omega
          · clear hxx
            go_wp2
            go_quiet (fail)
            go_wp2
            go_roundw
            case rel => exact ⟨j + 1, by omega, by go_num, _, rfl⟩
            case measure => simp [intOf]; omega
        · obtain rfl : j = n := by omega
          go_wp2
          go_ret
          exact ⟨rfl, Gen.dN hB8 _⟩

theorem until_any (A : Option Addr) (cap : Nat) (zs : List Int) (A' : Option Addr) (cap' : Nat) (vs : List V) (u l : Int) (w : World) (hc : Ints w A zs) (z0 : zs.length ≤ 9223372036854775807) (hc' : Votes w A' vs) (z1 : vs.length ≤ 9223372036854775807) (l0 : 0 ≤ l ∧ l ≤ 65535) :
    Calls Try.prog 10 #[.slice A zs.length cap, .slice A' vs.length cap', .int .i64 u, .int .u16 l] w fun e w' => e = .returned (.bool true) ∧ Below w.heap.size w w' := by
  by_cases h1 : zs.length ≤ 40
  case neg => exact until_a A _ cap zs A' _ cap' vs u l w rfl hc rfl hc' (by omega)
  by_cases h2 : vs.length ≤ 60
  case neg => exact until_b A _ cap zs A' _ cap' vs u l w rfl hc rfl hc' h1 (by omega)
  cases hok : okT zs vs
  case false => exact until_c A _ cap zs A' _ cap' vs u l w rfl hc rfl hc' h1 h2 hok
  by_cases h3 : 0 ≤ u
  case neg => exact until_d A _ cap zs A' _ cap' vs u l w rfl hc rfl hc' h1 h2 hok (by omega)
  by_cases h4 : u ≤ 200000
  case neg => exact until_e A _ cap zs A' _ cap' vs u l w rfl hc rfl hc' h1 h2 hok h3 (by omega)
  exact until_f A _ cap zs A' _ cap' vs u l w rfl hc rfl hc' h1 h2 hok h3 h4 l0.1 l0.2
end Go.Proofs.Ytblegaclcpoonaa.Vote
