/- The reference of sched: the contracts of Right, At, Due, Bounds, Periods. -/
import Derived.Test.YtdndlipenjkfpaaSchR
import Derived.Test.YtdndlipenjkfpaaCalS
import Derived.Test.YtdndlipenjkfpaaSchL
namespace Go.Proofs.Ytdndlipenjkfpaa.Dat
open Go.ChangeShapes Go.WideShapes Go.ChangeAt Go.RowKit Go.Proofs.Ytdndlipenjkfpaa.Cell
set_option linter.unusedVariables false
set_option linter.unusedSimpArgs false

section
variable {cs : Array Value} {fr to ev ad re : Int}
set_option maxRecDepth 100000 in
set_option maxHeartbeats 2000000 in
theorem rvalid_is {b : Bool} (w : World) (ht : Tm cs fr to ev ad re) (h : vl fr to ev ad re = b) :
    Calls Try.prog 59 #[.agg cs] w fun e w' => e = .returned (.bool b) ∧ Below w.heap.size w w' := by
  have hr : Row (w.alloc (.cells cs 46)) w.heap.size 46 cs := Row.new _ _ _
  have k3 := (hr.cell 3).trans ht.c3
  have k4 := (hr.cell 4).trans ht.c4
  have k5 := (hr.cell 5).trans ht.c5
  have k7 := (hr.cell 7).trans ht.c7
  have k8 := (hr.cell 8).trans ht.c8
  have HB : Hid (Below w.heap.size w (w.alloc (.cells cs 46))) := Lib.hid (Gen.b_alloc (Below.refl _ _))
  have H := Lib.hid h
  clear hr ht h
  go_enter Try.func59, Try.ntmps59
  go_wp2
  all_goals
    go_ret
    exact ⟨ret_bool (by
      have hv := H.out
      unfold vl at hv
      rw [← hv]
      first | exact (decide_eq_false (by omega)).symm | (rw [decide_eq_decide]; omega)), HB.out⟩

set_option maxRecDepth 100000 in
set_option maxHeartbeats 4000000 in
theorem rbounds_is {l : List Int} {q : Nat} (w : World) (ht : Tm cs fr to ev ad re) (h0 : 0 ≤ fr) (h1 : fr < to) (h2 : to ≤ 200000) (h3 : 1 ≤ ev) (h4 : ev ≤ 1200) (h : bdL fr to ev = l) (hq : l.length = q) :
    Calls Try.prog 60 #[.agg cs] w fun e w' => ∃ A c, e = .returned (.slice A q c) ∧ Below w.heap.size w w' ∧ Ints w' A l := by
  have hr : Row (w.alloc (.cells cs 46)) w.heap.size 46 cs := Row.new _ _ _
  have k3 := (hr.cell 3).trans ht.c3
  have T := Lib.hid ht
  have H := Lib.hid h
  have HQ := Lib.hid hq
  clear h ht hq
  obtain ⟨i0, hi0, hz0, hz1, hz2⟩ := info_parts infoInt
  go_enter Try.func60, Try.ntmps60
  go_wp2_with (fail)
  go_loopw [3, 4] (fun lv kv wr => ∃ (k : Nat) (acc : List Int) (z : Int), 1 ≤ k ∧ k ≤ 10003 ∧ kv = .int .i64 k ∧ acc.length = k ∧ Hid (acc[k - 1]? = some z) ∧ wr.ownsRow (w.heap.size + 1) 3 1 lv k (acc.map (Value.int .i64)) ∧ Hid ((z < to ∧ k ≤ 10001 ∧ bdL fr to ev = acc ++ bdT fr to ev (10002 - k) k) ∨ (z = to ∧ bdL fr to ev = acc)) ∧ Below w.heap.size w wr ∧ Row wr w.heap.size 46 cs) (fun _ kv _ => 10004 - (intOf kv).toNat)
  case atStart => exact ⟨1, [fr], fr, by omega, by omega, rfl, rfl, Lib.hid rfl, ⟨rfl, .inr ⟨_, 1, #[.int .i64 fr], rfl, by simp, Gen.rowAt _ _ _ (by simp), by omega, by simp [maxLen], rfl, rfl⟩⟩, Lib.hid (.inl ⟨h1, by omega, rfl⟩), Gen.b_alloc (Gen.b_alloc (Below.refl _ _)), hr.alloc _⟩
  case round =>
    obtain ⟨k, acc, z, g0, g1, rfl, hlen, HZ, hown, HA, hB, hrow⟩ := hrel
    have k3 := (hrow.cell 3).trans T.out.c3
    have k4 := (hrow.cell 4).trans T.out.c4
    have k5 := (hrow.cell 5).trans T.out.c5
    have hS : w.heap.size < wr.heap.size := hrow.lt
    obtain ⟨A2, c2, rfl, hr2⟩ := Gen.own_slice hown
    have ia := ints_of_reads hlen hr2
    obtain ⟨b', off, rfl, hcell⟩ := ia (by omega)
    obtain ⟨j, rfl⟩ : ∃ j, k = j + 1 := ⟨k - 1, by omega⟩
    have cz := hcell j z (by have := HZ.out; rw [Nat.add_sub_cancel] at this; exact this)
    have HL := Lib.hid hlen
    have i0' : (0 : Int) ≤ (j : Int) := by omega
    have i1' : (j : Int) < (j : Int) + 1 := by omega
    clear hr hlen hcell hr2 ia
    rcases HA.out with ⟨hz, g2, ha⟩ | ⟨rfl, ha⟩
    · have p0 : 0 ≤ ((j : Int) + 1) * ev := Int.mul_nonneg (by omega) (by omega)
      have p1 : ((j : Int) + 1) * ev ≤ 12001200 := by
        have := Int.mul_le_mul (show (j : Int) + 1 ≤ 10001 by omega) h4 (by omega) (by omega)
        omega
      obtain ⟨x, e, hx⟩ : ∃ x e, amO fr (((j : Int) + 1) * ev) = (x, e) := ⟨_, _, rfl⟩
      have hx' : amO fr (((j + 1 : Nat) : Int) * ev) = (x, e) := by rw [show ((j + 1 : Nat) : Int) = (j : Int) + 1 by omega]; exact hx
      have X := Lib.hid hx
      obtain ⟨f, hf⟩ : ∃ f, 10002 - (j + 1) = f + 1 := ⟨10001 - (j + 1), by omega⟩
      have e03 : (e = 0 ∧ 0 ≤ x ∧ x ≤ 200000) ∨ e = 3 := by
        rcases amO_01 hx with a | a
        · exact .inl ⟨a.1, a.2.2.2.2.1, a.2.2.2.2.2.1⟩
        · exact .inr a.1
      have q6 : (if (j : Int) < 0 then (0 : Int) else j) = j := if_neg (by omega)
      have qz : decide (z < to) = true := decide_eq_true hz
      have hbig1 := Lib.hid (show j + 1 + 1 ≤ maxLen from by simp only [maxLen]; omega)
      have hbig2 := Lib.hid (show (j + 1 + 1) * 8 ≤ 140737488355328 from by omega)
      have M3 := Lib.hid (show 0 < 1 from by omega)
      by_cases hc : e = 0 ∧ x < to
      · obtain ⟨rfl, hxt⟩ := hc
        have HG := Lib.hid (show (x < to ∧ j + 1 + 1 ≤ 10001 ∧ bdL fr to ev = (acc ++ [x]) ++ bdT fr to ev (10002 - (j + 1 + 1)) (j + 1 + 1)) ∨ (x = to ∧ bdL fr to ev = acc ++ [x]) from by
          refine .inl ⟨hxt, ?_, ?_⟩
          · by_cases c : j + 1 = 10001
            · rw [c, amO_far (.inr (by
                have : ((10001 : Nat) : Int) = 10001 := rfl
                rw [this]; omega))] at hx'
              simp at hx'
            · omega
          · rw [ha, hf, bdT_go hx' hxt, show 10002 - (j + 1 + 1) = f by omega]; simp)
        have HZ2 := Lib.hid (show (acc ++ [x])[j + 1 + 1 - 1]? = some x from by rw [Nat.add_sub_cancel, List.getElem?_append_right (by rw [HL.out]; omega), HL.out, Nat.sub_self]; rfl)
        clear hx hx' hf e03 ha
        go_wp2
        have q7 : IntKind.i64.wrap (j : Int) = j := IntWalk.i64_in _ (by omega)
        have q8 : IntKind.i64.wrap ((j : Int) + 1 - 1) = j := by rw [Int.add_sub_cancel]; exact q7
        go_quiet (fail)
        clear q7 q8
        rename_i nq
        have hB' := Gen.dN hB nq
        have hrow' : Row (wr.drewN nq) w.heap.size 46 cs := hrow
        have hown' := Gen.own_keep hown (Gen.dN (Below.refl _ wr) nq)
        have k3' : (wr.drewN nq).cell? ⟨w.heap.size, 3, none⟩ = some (.int .i64 fr) := k3
        have k4' : (wr.drewN nq).cell? ⟨w.heap.size, 4, none⟩ = some (.int .i64 to) := k4
        have k5' : (wr.drewN nq).cell? ⟨w.heap.size, 5, none⟩ = some (.int .i64 ev) := k5
        have hS' : w.heap.size < (wr.drewN nq).heap.size := hS
        go_wp2_with (fail)
        go_must (refine (ram_is _ h0 (by omega) X.out).mono ?_)
        rintro e w5 ⟨rfl, hb⟩
        have hB5 := Gen.over hb hB'
        have hrow5 := hrow'.keep hb
        have hown5 := Gen.own_keep hown' hb
        have k4 := Gen.keep hb k4'
        have hS5 : w.heap.size + 1 ≤ w5.heap.size := hrow5.lt
        clear hb hB hrow hown k3 k5 hS hB' hrow' hown' k3' k4' k5' hS' cz
        go_wp2_with (first
          | (at_builtin
             go_must (refine App.wpList_append_any _ rfl (.tmp 40) (.tmp 42) _ rfl (w.heap.size + 1) 3 i0 _ 1 8 Try.underlying22 hi0 hz0 hz1 hz2 rfl M3.out (.slice (some ⟨b', off, none⟩) (j + 1) c2) (j + 1) _ rfl (Gen.own_keep hown5 (Gen.b_alloc (Below.refl _ _))) _ _ 1 1 [.int .i64 x] rfl (Gen.reads_blk (by simp) rfl) (by simp [Value.oneCell']) hbig1.out hbig2.out (Nat.le_trans hS5 (Gen.b_alloc (Below.refl _ _)).size) ?_)
             intro v2 w6 hown6 hg6 hat6
             have hB6 := Gen.g_below hown5 hg6 (Gen.b_alloc hB5) (Nat.le_succ _)
             have hR6 := Gen.g_row hown5 hg6 (Nat.lt_succ_self _) (hrow5.alloc _)
             clear hg6 hat6)
          | fail)
        go_roundw
        case rel => exact ⟨j + 1 + 1, acc ++ [x], x, by omega, by omega, by go_num, by rw [List.length_append, HL.out]; rfl, HZ2, by rw [List.map_append]; exact hown6, HG, hB6, hR6⟩
        case measure => simp [intOf]; omega
      · have HG := Lib.hid (show bdL fr to ev = acc ++ [to] from by rw [ha, hf, bdT_end hx' hc])
        have HZ2 := Lib.hid (show (acc ++ [to])[j + 1 + 1 - 1]? = some to from by rw [Nat.add_sub_cancel, List.getElem?_append_right (by rw [HL.out]; omega), HL.out, Nat.sub_self]; rfl)
        rcases (show (e = 0 ∧ to ≤ x) ∨ e = 3 by omega) with ⟨rfl, hxt⟩ | rfl
        all_goals
          clear hx hx' hf e03 ha hc
          go_wp2
          have q7 : IntKind.i64.wrap (j : Int) = j := IntWalk.i64_in _ (by omega)
          have q8 : IntKind.i64.wrap ((j : Int) + 1 - 1) = j := by rw [Int.add_sub_cancel]; exact q7
          go_quiet (fail)
          clear q7 q8
          rename_i nq
          have hB' := Gen.dN hB nq
          have hrow' : Row (wr.drewN nq) w.heap.size 46 cs := hrow
          have hown' := Gen.own_keep hown (Gen.dN (Below.refl _ wr) nq)
          have k3' : (wr.drewN nq).cell? ⟨w.heap.size, 3, none⟩ = some (.int .i64 fr) := k3
          have k4' : (wr.drewN nq).cell? ⟨w.heap.size, 4, none⟩ = some (.int .i64 to) := k4
          have k5' : (wr.drewN nq).cell? ⟨w.heap.size, 5, none⟩ = some (.int .i64 ev) := k5
          have hS' : w.heap.size < (wr.drewN nq).heap.size := hS
          go_wp2_with (fail)
          go_must (refine (ram_is _ h0 (by omega) X.out).mono ?_)
          rintro e w5 ⟨rfl, hb⟩
          have hB5 := Gen.over hb hB'
          have hrow5 := hrow'.keep hb
          have hown5 := Gen.own_keep hown' hb
          have k4 := Gen.keep hb k4'
          have hS5 : w.heap.size + 1 ≤ w5.heap.size := hrow5.lt
          clear hb hB hrow hown k3 k5 hS hB' hrow' hown' k3' k4' k5' hS' cz
          go_wp2_with (first
            | (at_builtin
               go_must (refine App.wpList_append_any _ rfl (.tmp 40) (.tmp 42) _ rfl (w.heap.size + 1) 3 i0 _ 1 8 Try.underlying22 hi0 hz0 hz1 hz2 rfl M3.out (.slice (some ⟨b', off, none⟩) (j + 1) c2) (j + 1) _ rfl (Gen.own_keep hown5 (Gen.b_alloc (Below.refl _ _))) _ _ 1 1 [.int .i64 to] rfl (Gen.reads_blk (by simp) rfl) (by simp [Value.oneCell']) hbig1.out hbig2.out (Nat.le_trans hS5 (Gen.b_alloc (Below.refl _ _)).size) ?_)
               intro v2 w6 hown6 hg6 hat6
               have hB6 := Gen.g_below hown5 hg6 (Gen.b_alloc hB5) (Nat.le_succ _)
               have hR6 := Gen.g_row hown5 hg6 (Nat.lt_succ_self _) (hrow5.alloc _)
               clear hg6 hat6)
            | fail)
          go_roundw
          case rel => exact ⟨j + 1 + 1, acc ++ [to], to, by omega, by omega, by go_num, by rw [List.length_append, HL.out]; rfl, HZ2, by rw [List.map_append]; exact hown6, (Lib.hid (.inr ⟨rfl, HG.out⟩)), hB6, hR6⟩
          case measure => simp [intOf]; omega
    · have q6 : (if (j : Int) < 0 then (0 : Int) else j) = j := if_neg (by omega)
      have hl : l = acc := by rw [← H.out, ha]
      subst hl
      obtain rfl : q = j + 1 := by rw [← HQ.out, HL.out]
      have ir : Ints wr (some ⟨b', off, none⟩) l := by
        obtain ⟨A3, c3, e3, hr3⟩ := Gen.own_slice hown
        obtain ⟨rfl, _, _⟩ : (some ⟨b', off, none⟩ : Option Addr) = A3 ∧ j + 1 = j + 1 ∧ c2 = c3 := by injection e3 with e1 e2 e4; exact ⟨e1, rfl, e4⟩
        exact ints_of_reads HQ.out hr3
      clear ha HA hown
      go_wp2
      have q7 : IntKind.i64.wrap (j : Int) = j := IntWalk.i64_in _ (by omega)
      have q8 : IntKind.i64.wrap ((j : Int) + 1 - 1) = j := by rw [Int.add_sub_cancel]; exact q7
      go_quiet (fail)
      clear q7 q8
      go_wp2
      go_ret
      first | exact ⟨_, _, rfl, Gen.dN hB _, ir⟩ | exact ⟨_, ⟨_, rfl⟩, Gen.dN hB _, ir⟩ | exact ⟨Gen.dN hB _, ir⟩
end
section
variable {A A' : Option Addr} {n cap m cap' : Nat} {l l' : List Pr}
set_option maxRecDepth 100000 in
set_option maxHeartbeats 2000000 in
theorem rat_is {day x : Int} {b : Bool} (w : World) (hn : l.length = n) (hc : Pers w A l) (hbig : n ≤ 1000000) (h : atA day 0 l = (x, b)) :
    Calls Try.prog 35 #[.slice A n cap, .int .i64 day] w fun e w' => e = .returned (.tuple #[.int .i64 x, .bool b]) ∧ Below w.heap.size w w' := by
  have HN := Lib.hid hn
  have H0 := Lib.hid (show atA day 0 (l.drop 0) = (x, b) from h)
  clear hn h
  go_enter Try.func35, Try.ntmps35
  go_wp2_with (fail)
  go_loopw [6] (fun iv wr => ∃ k : Nat, k ≤ n ∧ iv = .int .i64 k ∧ Hid (atA day k (l.drop k) = (x, b)) ∧ Below w.heap.size w wr) (fun iv _ => n - (intOf iv).toNat)
  case atStart => exact ⟨0, Nat.zero_le _, rfl, H0, Below.refl _ _⟩
  case round =>
    obtain ⟨k, hk, rfl, HS, hW⟩ := hrel
    clear H0
    by_cases hlt : k < n
    · obtain ⟨b', off, rfl, hcell⟩ := (hc.keep hW) (by rw [HN.out]; omega)
      obtain ⟨t, ht⟩ := Cell.at_ l k (by rw [HN.out]; exact hlt)
      obtain ⟨c0, c1, c2, c3⟩ := hcell k t ht
      have HT := Lib.hid ht
      clear hcell ht hc
      obtain ⟨f, u, p, r⟩ := t
      dsimp only at c0 c1 c2 c3
      by_cases h1 : f ≤ day ∧ day < u
      · have hs := HS.out
        rw [atA_here HT.out h1] at hs
        obtain rfl : (k : Int) = x := by injection hs
        obtain rfl : true = b := by injection hs
        obtain ⟨a1, a2⟩ := h1
        clear hs
        go_wp2
        exact bodyPost_ret (v := .tuple #[.int .i64 k, .bool true]) (by simp [results, Try.results35, go_sem]) rfl ⟨rfl, hW⟩
      · have HS2 := Lib.hid (show atA day (k + 1) (l.drop (k + 1)) = (x, b) from by rw [← atA_step HT.out h1]; exact HS.out)
        rcases (show day < f ∨ (f ≤ day ∧ u ≤ day) by omega) with a1 | ⟨a1, a2⟩
        all_goals
          clear h1
          go_wp2
          go_roundw
          case rel => exact ⟨k + 1, by omega, by go_num, HS2, hW⟩
          case measure => simp [intOf]; omega
    · have hs := HS.out
      rw [atA_end (by rw [HN.out]; omega)] at hs
      obtain rfl : 0 = x := by injection hs
      obtain rfl : false = b := by injection hs
      clear hs
      go_wp2
      exact bodyPost_ret (v := .tuple #[.int .i64 0, .bool false]) (by simp [results, Try.results35, go_sem]) rfl ⟨rfl, hW⟩

set_option maxRecDepth 100000 in
set_option maxHeartbeats 4000000 in
theorem rdue_is {day : Int} {d : List Int} {q : Nat} (w : World) (hn : l.length = n) (hc : Pers w A l) (hbig : n ≤ 1000000) (h : duA day 0 l = d) (hq : d.length = q) :
    Calls Try.prog 39 #[.slice A n cap, .int .i64 day] w fun e w' => ∃ A2 c2, e = .returned (.slice A2 q c2) ∧ Below w.heap.size w w' ∧ Ints w' A2 d := by
  have HN := Lib.hid hn
  have H0 := Lib.hid (show d = [] ++ duA day 0 (l.drop 0) from h.symm)
  have HQ := Lib.hid hq
  have hqn : q ≤ n := by rw [← hq, ← h, ← hn]; exact duA_len day l 0
  clear hn h hq
  obtain ⟨i0, hi0, hz0, hz1, hz2⟩ := info_parts infoInt
  go_enter Try.func39, Try.ntmps39
  go_wp2_with (fail)
  go_loopw [5, 6] (fun lv iv wr => ∃ (k : Nat) (acc : List Int), k ≤ n ∧ iv = .int .i64 k ∧ acc.length ≤ k ∧ wr.ownsRow w.heap.size 3 1 lv acc.length (acc.map (Value.int .i64)) ∧ Hid (d = acc ++ duA day k (l.drop k)) ∧ Below w.heap.size w wr) (fun _ iv _ => n - (intOf iv).toNat)
  case atStart => exact ⟨0, [], Nat.zero_le _, rfl, Nat.zero_le _, ⟨rfl, .inl ⟨rfl, rfl⟩⟩, H0, Below.refl _ _⟩
  case round =>
    obtain ⟨k, acc, hk, rfl, hle, hown, HS, hW⟩ := hrel
    have hS : w.heap.size ≤ wr.heap.size := hW.size
    clear H0
    by_cases hlt : k < n
    · obtain ⟨b', off, rfl, hcell⟩ := (hc.keep hW) (by rw [HN.out]; omega)
      obtain ⟨t, ht⟩ := Cell.at_ l k (by rw [HN.out]; exact hlt)
      obtain ⟨c0, c1, c2, c3⟩ := hcell k t ht
      have HT := Lib.hid ht
      clear hcell ht hc
      obtain ⟨f, u, p, r⟩ := t
      dsimp only at c0 c1 c2 c3
      by_cases h1 : p = day
      · have HS2 := Lib.hid (show d = (acc ++ [(k : Int)]) ++ duA day (k + 1) (l.drop (k + 1)) from by rw [HS.out, duA_here HT.out h1]; simp)
        have hb : (p == day) = true := by simpa using h1
        clear h1
        go_wp2_with (first
          | (at_builtin
             go_must (refine App.wpList_append_any _ rfl (.tmp 20) (.tmp 22) _ rfl w.heap.size 3 i0 _ 1 8 Try.underlying22 hi0 hz0 hz1 hz2 rfl (by omega) u5 acc.length _ rfl (Gen.own_keep hown (Gen.b_alloc (Below.refl _ _))) _ _ 1 1 [.int .i64 k] rfl (Gen.reads_blk (by simp) rfl) (by simp [Value.oneCell']) (by simp only [maxLen]; omega) (by omega) (Nat.le_trans hS (Gen.b_alloc (Below.refl _ _)).size) ?_)
             intro v2 w2 hown2 hg2 hat2
             have hB2 := Gen.g_below hown hg2 (Gen.b_alloc hW) (Nat.le_refl _)
             clear hg2 hat2)
          | fail)
        go_roundw
        case rel => exact ⟨k + 1, acc ++ [(k : Int)], by omega, by go_num, by rw [List.length_append, List.length_singleton]; omega, by rw [List.length_append, List.map_append]; exact hown2, HS2, hB2⟩
        case measure => simp [intOf]; omega
      · have HS2 := Lib.hid (show d = acc ++ duA day (k + 1) (l.drop (k + 1)) from by rw [HS.out, duA_step HT.out h1])
        have hb : (p == day) = false := by simpa using h1
        clear h1
        go_wp2
        go_roundw
        case rel => exact ⟨k + 1, acc, by omega, by go_num, by omega, hown, HS2, hW⟩
        case measure => simp [intOf]; omega
    · have hs := HS.out
      rw [duA_end (by rw [HN.out]; omega), List.append_nil] at hs
      obtain rfl : d = acc := hs
      obtain rfl : d.length = q := HQ.out
      obtain ⟨A2, c2, rfl, hr2⟩ := Gen.own_slice hown
      have ii := ints_of_reads rfl hr2
      clear hr2 hown
      go_wp2
      go_ret
      first | exact ⟨A2, c2, rfl, hW, ii⟩ | exact ⟨A2, ⟨c2, rfl⟩, hW, ii⟩

end
end Go.Proofs.Ytdndlipenjkfpaa.Dat
