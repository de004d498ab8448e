/- Package sched: the contracts of At and Due; of the reference's Same, Ints and Few. -/
import Derived.Test.YtdndlipenjkfpaaSchC
namespace Go.Proofs.Ytdndlipenjkfpaa.Dat
open Go.ChangeShapes Go.WideShapes Go.ChangeAt Go.RowKit Go.Proofs.Ytdndlipenjkfpaa.Cell
set_option linter.unusedVariables false
set_option linter.unusedSimpArgs false

/-- the first period in which a day is -/
def atA (day : Int) : Nat → List Pr → Int × Bool
  | _, [] => (0, false)
  | k, t :: ts => if t.1 ≤ day ∧ day < t.2.1 then ((k : Int), true) else atA day (k + 1) ts
theorem atA_here {day : Int} {t : Pr} {l : List Pr} {k : Nat} (h : l[k]? = some t) (h1 : t.1 ≤ day ∧ day < t.2.1) : atA day k (l.drop k) = ((k : Int), true) := by
  rw [drop_cons h, atA, if_pos h1]
theorem atA_step {day : Int} {t : Pr} {l : List Pr} {k : Nat} (h : l[k]? = some t) (h1 : ¬ (t.1 ≤ day ∧ day < t.2.1)) : atA day k (l.drop k) = atA day (k + 1) (l.drop (k + 1)) := by
  rw [drop_cons h, atA, if_neg h1]
theorem atA_end {day : Int} {l : List Pr} {k j : Nat} (h : l.length ≤ k) : atA day j (l.drop k) = (0, false) := by
  rw [List.drop_of_length_le h]; rfl
/-- the periods that are paid on a day -/
def duA (day : Int) : Nat → List Pr → List Int
  | _, [] => []
  | k, t :: ts => (if t.2.2.1 = day then [(k : Int)] else []) ++ duA day (k + 1) ts
theorem duA_here {day : Int} {t : Pr} {l : List Pr} {k : Nat} (h : l[k]? = some t) (h1 : t.2.2.1 = day) : duA day k (l.drop k) = (k : Int) :: duA day (k + 1) (l.drop (k + 1)) := by
  rw [drop_cons h, duA, if_pos h1]; rfl
theorem duA_step {day : Int} {t : Pr} {l : List Pr} {k : Nat} (h : l[k]? = some t) (h1 : t.2.2.1 ≠ day) : duA day k (l.drop k) = duA day (k + 1) (l.drop (k + 1)) := by
  rw [drop_cons h, duA, if_neg h1]; rfl
theorem duA_end {day : Int} {l : List Pr} {k j : Nat} (h : l.length ≤ k) : duA day j (l.drop k) = [] := by
  rw [List.drop_of_length_le h]; rfl
theorem duA_len (day : Int) : ∀ (l : List Pr) (k : Nat), (duA day k l).length ≤ l.length
  | [], k => by simp [duA]
  | t :: ts, k => by
    have := duA_len day ts (k + 1)
    rw [duA]
    split <;> simp <;> omega

section
variable {A A' : Option Addr} {n cap m cap' : Nat} {l l' : List Pr}
set_option maxRecDepth 100000 in
set_option maxHeartbeats 2000000 in
theorem at_is {day x : Int} {b : Bool} (w : World) (hn : l.length = n) (hc : Pers w A l) (hbig : n ≤ 1000000) (h : atA day 0 l = (x, b)) :
    Calls Try.prog 34 #[.slice A n cap, .int .i64 day] w fun e w' => e = .returned (.tuple #[.int .i64 x, .bool b]) ∧ Below w.heap.size w w' := by
  have HN := Lib.hid hn
  have H0 := Lib.hid (show atA day 0 (l.drop 0) = (x, b) from h)
  clear hn h
  go_enter Try.func34, Try.ntmps34
  go_wp2_with (fail)
  go_loopw [10] (fun iv wr => ∃ k : Nat, k ≤ n ∧ iv = .int .i64 k ∧ Hid (atA day k (l.drop k) = (x, b)) ∧ Below w.heap.size w wr) (fun iv _ => n - (intOf iv).toNat)
  case atStart => exact ⟨0, Nat.zero_le _, rfl, H0, Below.refl _ _⟩
  case round =>
    obtain ⟨k, hk, rfl, HS, hW⟩ := hrel
    clear H0
    by_cases hlt : k < n
    · obtain ⟨b', off, rfl, hcell⟩ := (hc.keep hW) (by rw [HN.out]; omega)
      obtain ⟨t, ht⟩ := Cell.at_ l k (by rw [HN.out]; exact hlt)
      obtain ⟨c0, c1, c2, c3⟩ := hcell k t ht
      have HT := Lib.hid ht
      clear hcell ht hc
      obtain ⟨f, u, p, r⟩ := t
      dsimp only at c0 c1 c2 c3
      by_cases h1 : f ≤ day ∧ day < u
      · have hs := HS.out
        rw [atA_here HT.out h1] at hs
        obtain rfl : (k : Int) = x := by injection hs
        obtain rfl : true = b := by injection hs
        obtain ⟨a1, a2⟩ := h1
        clear hs
        go_wp2
        exact bodyPost_ret (v := .tuple #[.int .i64 k, .bool true]) (by simp [results, Try.results34, go_sem]) rfl ⟨rfl, Gen.b_alloc hW⟩
      · have HS2 := Lib.hid (show atA day (k + 1) (l.drop (k + 1)) = (x, b) from by rw [← atA_step HT.out h1]; exact HS.out)
        rcases (show day < f ∨ (f ≤ day ∧ u ≤ day) by omega) with a1 | ⟨a1, a2⟩
        all_goals
          clear h1
          go_wp2
          go_roundw
          case rel => exact ⟨k + 1, by omega, by go_num, HS2, Gen.b_alloc hW⟩
          case measure => simp [intOf]; omega
    · have hs := HS.out
      rw [atA_end (by rw [HN.out]; omega)] at hs
      obtain rfl : 0 = x := by injection hs
      obtain rfl : false = b := by injection hs
      clear hs
      go_wp2
      exact bodyPost_ret (v := .tuple #[.int .i64 0, .bool false]) (by simp [results, Try.results34, go_sem]) rfl ⟨rfl, hW⟩

set_option maxRecDepth 100000 in
set_option maxHeartbeats 4000000 in
theorem due_is {day : Int} {d : List Int} {q : Nat} (w : World) (hn : l.length = n) (hc : Pers w A l) (hbig : n ≤ 1000000) (h : duA day 0 l = d) (hq : d.length = q) :
    Calls Try.prog 38 #[.slice A n cap, .int .i64 day] w fun e w' => ∃ A2 c2, e = .returned (.slice A2 q c2) ∧ Below w.heap.size w w' ∧ Ints w' A2 d := by
  have HN := Lib.hid hn
  have H0 := Lib.hid (show d = [] ++ duA day 0 (l.drop 0) from h.symm)
  have HQ := Lib.hid hq
  have hqn : q ≤ n := by rw [← hq, ← h, ← hn]; exact duA_len day l 0
  clear hn h hq
  obtain ⟨i0, hi0, hz0, hz1, hz2⟩ := info_parts infoInt
  go_enter Try.func38, Try.ntmps38
  go_wp2_with (fail)
  go_loopw [5, 10] (fun lv iv wr => ∃ (k : Nat) (acc : List Int), k ≤ n ∧ iv = .int .i64 k ∧ acc.length ≤ k ∧ wr.ownsRow w.heap.size 3 1 lv acc.length (acc.map (Value.int .i64)) ∧ Hid (d = acc ++ duA day k (l.drop k)) ∧ Below w.heap.size w wr) (fun _ iv _ => n - (intOf iv).toNat)
  case atStart => exact ⟨0, [], Nat.zero_le _, rfl, Nat.zero_le _, ⟨rfl, .inl ⟨rfl, rfl⟩⟩, H0, Below.refl _ _⟩
  case round =>
    obtain ⟨k, acc, hk, rfl, hle, hown, HS, hW⟩ := hrel
    have hS : w.heap.size ≤ wr.heap.size := hW.size
    clear H0
    by_cases hlt : k < n
    · obtain ⟨b', off, rfl, hcell⟩ := (hc.keep hW) (by rw [HN.out]; omega)
      obtain ⟨t, ht⟩ := Cell.at_ l k (by rw [HN.out]; exact hlt)
      obtain ⟨c0, c1, c2, c3⟩ := hcell k t ht
      have HT := Lib.hid ht
      clear hcell ht hc
      obtain ⟨f, u, p, r⟩ := t
      dsimp only at c0 c1 c2 c3
      by_cases h1 : p = day
      · have HS2 := Lib.hid (show d = (acc ++ [(k : Int)]) ++ duA day (k + 1) (l.drop (k + 1)) from by rw [HS.out, duA_here HT.out h1]; simp)
        have hb : (p == day) = true := by simpa using h1
        clear h1
        go_wp2_with (first
          | (at_builtin
             go_must (refine App.wpList_append_any _ rfl (.tmp 19) (.tmp 21) _ rfl w.heap.size 3 i0 _ 1 8 Try.underlying22 hi0 hz0 hz1 hz2 rfl (by omega) u5 acc.length _ rfl (Gen.own_keep hown (Gen.b_alloc (Gen.b_alloc (Below.refl _ _)))) _ _ 1 1 [.int .i64 k] rfl (Gen.reads_blk (by simp) rfl) (by simp [Value.oneCell']) (by simp only [maxLen]; omega) (by omega) (Nat.le_trans hS (Gen.b_alloc (Gen.b_alloc (Below.refl _ _))).size) ?_)
             intro v2 w2 hown2 hg2 hat2
             have hB2 := Gen.g_below hown hg2 (Gen.b_alloc (Gen.b_alloc hW)) (Nat.le_refl _)
             clear hg2 hat2)
          | fail)
        go_roundw
        case rel => exact ⟨k + 1, acc ++ [(k : Int)], by omega, by go_num, by rw [List.length_append, List.length_singleton]; omega, by rw [List.length_append, List.map_append]; exact hown2, HS2, hB2⟩
        case measure => simp [intOf]; omega
      · have HS2 := Lib.hid (show d = acc ++ duA day (k + 1) (l.drop (k + 1)) from by rw [HS.out, duA_step HT.out h1])
        have hb : (p == day) = false := by simpa using h1
        clear h1
        go_wp2
        go_roundw
        case rel => exact ⟨k + 1, acc, by omega, by go_num, by omega, Gen.own_keep hown (Gen.b_alloc (Below.refl _ _)), HS2, Gen.b_alloc hW⟩
        case measure => simp [intOf]; omega
    · have hs := HS.out
      rw [duA_end (by rw [HN.out]; omega), List.append_nil] at hs
      obtain rfl : d = acc := hs
      obtain rfl : d.length = q := HQ.out
      obtain ⟨A2, c2, rfl, hr2⟩ := Gen.own_slice hown
      have ii := ints_of_reads rfl hr2
      clear hr2 hown
      go_wp2
      go_ret
      first | exact ⟨A2, c2, rfl, hW, ii⟩ | exact ⟨A2, ⟨c2, rfl⟩, hW, ii⟩

theorem take_eq {α : Type} {xs ys : List α} {k : Nat} {x y : α} (h : xs.take k = ys.take k) (hx : xs[k]? = some x) (hy : ys[k]? = some y) : xs.take (k + 1) = ys.take (k + 1) ↔ x = y := by
  rw [take_snoc hx, take_snoc hy, h]
  simp
set_option maxRecDepth 100000 in
set_option maxHeartbeats 4000000 in
theorem same_b {b : Bool} (w : World) (hn : l.length = n) (hc : Pers w A l) (hbig : n ≤ 1000000) (hm : l'.length = m) (hc' : Pers w A' l') (hbig' : m ≤ 1000000) (h : decide (l = l') = b) :
    Calls Try.prog 36 #[.slice A n cap, .slice A' m cap'] w fun e w' => e = .returned (.bool b) ∧ Below w.heap.size w w' := by
  have HN := Lib.hid hn
  have HM := Lib.hid hm
  have H := Lib.hid h
  by_cases hnm : n = m
  · subst hnm
    clear hn hm h
    go_enter Try.func36, Try.ntmps36
    go_wp2_with (fail)
    go_loopw [5] (fun iv wr => ∃ k : Nat, k ≤ n ∧ iv = .int .i64 k ∧ Hid (l.take k = l'.take k) ∧ Below w.heap.size w wr) (fun iv _ => n - (intOf iv).toNat)
    case atStart => exact ⟨0, Nat.zero_le _, rfl, Lib.hid rfl, Below.refl _ _⟩
    case round =>
      obtain ⟨k, hk, rfl, HS, hW⟩ := hrel
      by_cases hlt : k < n
      · obtain ⟨b0, o0, rfl, hcell⟩ := (hc.keep hW) (by rw [HN.out]; omega)
        obtain ⟨b1, o1, rfl, hcell'⟩ := (hc'.keep hW) (by rw [HM.out]; omega)
        obtain ⟨t, ht⟩ := Cell.at_ l k (by rw [HN.out]; exact hlt)
        obtain ⟨t', ht'⟩ := Cell.at_ l' k (by rw [HM.out]; exact hlt)
        obtain ⟨c0, c1, c2, c3⟩ := hcell k t ht
        obtain ⟨d0, d1, d2, d3⟩ := hcell' k t' ht'
        have HT := Lib.hid (take_eq HS.out ht ht')
        have NE : t ≠ t' → b = false := fun hne => by
          rw [← H.out]
          refine decide_eq_false fun e => hne ?_
          rw [e] at ht
          rw [ht] at ht'
          injection ht'
        have NE' := Lib.hid NE
        clear hcell hcell' ht ht' hc hc' NE
        have kk0 : (0 : Int) ≤ (k : Int) := by omega
        have kk1 : (k : Int) < (n : Int) := by omega
        obtain ⟨f, u, p, r⟩ := t
        obtain ⟨f', u', p', r'⟩ := t'
        dsimp only at c0 c1 c2 c3 d0 d1 d2 d3
        by_cases e1 : f = f'
        · subst e1
          by_cases e2 : u = u'
          · subst e2
            by_cases e3 : p = p'
            · subst e3
              by_cases e4 : r = r'
              · subst e4
                have HS2 := Lib.hid (HT.out.2 rfl)
                go_wp2
                go_quiet (fail)
                go_wp2
                go_roundw
                case rel => exact ⟨k + 1, by omega, by go_num, HS2, Gen.dN hW _⟩
                case measure => simp [intOf]; omega
              · obtain rfl := NE'.out (by simp [e4])
                have q : (r == r') = false := by simpa using e4
                clear e4
                go_wp2
                go_quiet (fail)
                go_wp2
                go_ret
                exact ⟨rfl, Gen.dN hW _⟩
            · obtain rfl := NE'.out (by simp [e3])
              have q : (p == p') = false := by simpa using e3
              clear e3
              go_wp2
              go_quiet (fail)
              go_wp2
              go_ret
              exact ⟨rfl, Gen.dN hW _⟩
          · obtain rfl := NE'.out (by simp [e2])
            have q : (u == u') = false := by simpa using e2
            clear e2
            go_wp2
            go_quiet (fail)
            go_wp2
            go_ret
            exact ⟨rfl, Gen.dN hW _⟩
        · obtain rfl := NE'.out (by simp [e1])
          have q : (f == f') = false := by simpa using e1
          clear e1
          go_wp2
          go_quiet (fail)
          go_wp2
          go_ret
          exact ⟨rfl, Gen.dN hW _⟩
      · have hb1 : b = true := by
          rw [← H.out]
          have hs := HS.out
          rw [List.take_of_length_le (by rw [HN.out]; omega), List.take_of_length_le (by rw [HM.out]; omega)] at hs
          exact decide_eq_true hs
        subst hb1
        clear hc hc'
        go_wp2
        go_ret
        exact ⟨rfl, hW⟩
  · have hb1 : b = false := by
      rw [← h]
      exact decide_eq_false fun e => hnm (by rw [← hn, ← hm, e])
    subst hb1
    have q : ((n : Int) == (m : Int)) = false := by simp; omega
    clear hnm h hn hm hc hc'
    go_enter Try.func36, Try.ntmps36
    go_wp2
    go_ret
    exact ⟨rfl, Below.refl _ _⟩
end
section
variable {A A' : Option Addr} {n cap m cap' : Nat} {l l' : List Int}
set_option maxRecDepth 100000 in
set_option maxHeartbeats 4000000 in
theorem ints_b {b : Bool} (w : World) (hn : l.length = n) (hc : Ints w A l) (hbig : n ≤ 1000000) (hm : l'.length = m) (hc' : Ints w A' l') (hbig' : m ≤ 1000000) (h : decide (l = l') = b) :
    Calls Try.prog 37 #[.slice A n cap, .slice A' m cap'] w fun e w' => e = .returned (.bool b) ∧ Below w.heap.size w w' := by
  have HN := Lib.hid hn
  have HM := Lib.hid hm
  have H := Lib.hid h
  by_cases hnm : n = m
  · subst hnm
    clear hn hm h
    go_enter Try.func37, Try.ntmps37
    go_wp2_with (fail)
    go_loopw [5] (fun iv wr => ∃ k : Nat, k ≤ n ∧ iv = .int .i64 k ∧ Hid (l.take k = l'.take k) ∧ Below w.heap.size w wr) (fun iv _ => n - (intOf iv).toNat)
    case atStart => exact ⟨0, Nat.zero_le _, rfl, Lib.hid rfl, Below.refl _ _⟩
    case round =>
      obtain ⟨k, hk, rfl, HS, hW⟩ := hrel
      by_cases hlt : k < n
      · obtain ⟨b0, o0, rfl, hcell⟩ := (hc.keep hW) (by rw [HN.out]; omega)
        obtain ⟨b1, o1, rfl, hcell'⟩ := (hc'.keep hW) (by rw [HM.out]; omega)
        obtain ⟨t, ht⟩ := Cell.at_ l k (by rw [HN.out]; exact hlt)
        obtain ⟨t', ht'⟩ := Cell.at_ l' k (by rw [HM.out]; exact hlt)
        have c0 := hcell k t ht
        have d0 := hcell' k t' ht'
        have HT := Lib.hid (take_eq HS.out ht ht')
        have NE : t ≠ t' → b = false := fun hne => by
          rw [← H.out]
          refine decide_eq_false fun e => hne ?_
          rw [e] at ht
          rw [ht] at ht'
          injection ht'
        have NE' := Lib.hid NE
        clear hcell hcell' ht ht' hc hc' NE
        have kk0 : (0 : Int) ≤ (k : Int) := by omega
        have kk1 : (k : Int) < (n : Int) := by omega
        by_cases e1 : t = t'
        · subst e1
          have HS2 := Lib.hid (HT.out.2 rfl)
          go_wp2
          go_quiet (fail)
          go_wp2
          go_roundw
          case rel => exact ⟨k + 1, by omega, by go_num, HS2, Gen.dN hW _⟩
          case measure => simp [intOf]; omega
        · obtain rfl := NE'.out e1
          have q : (t == t') = false := by simpa using e1
          clear e1
          go_wp2
          go_quiet (fail)
          go_wp2
          go_ret
          exact ⟨rfl, Gen.dN hW _⟩
      · have hb1 : b = true := by
          rw [← H.out]
          have hs := HS.out
          rw [List.take_of_length_le (by rw [HN.out]; omega), List.take_of_length_le (by rw [HM.out]; omega)] at hs
          exact decide_eq_true hs
        subst hb1
        clear hc hc'
        go_wp2
        go_ret
        exact ⟨rfl, hW⟩
  · have hb1 : b = false := by
      rw [← h]
      exact decide_eq_false fun e => hnm (by rw [← hn, ← hm, e])
    subst hb1
    have q : ((n : Int) == (m : Int)) = false := by simp; omega
    clear hnm h hn hm hc hc'
    go_enter Try.func37, Try.ntmps37
    go_wp2
    go_ret
    exact ⟨rfl, Below.refl _ _⟩
end
end Go.Proofs.Ytdndlipenjkfpaa.Dat
