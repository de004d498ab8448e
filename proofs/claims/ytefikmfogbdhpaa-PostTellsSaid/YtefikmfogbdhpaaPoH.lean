/- Post: Again; what wraps the calls of right ways. -/
import Derived.Test.YtefikmfogbdhpaaPoG
namespace Go.Proofs.Ytefikmfogbdhpaa.Po
open Go.ChangeShapes Go.WideShapes Go.ChangeAt Go.RowKit Go.Proofs.Ytefikmfogbdhpaa.Cell
set_option linter.unusedVariables false
set_option linter.unusedSimpArgs false

section
variable {A A2 : Option Addr} {c c2 : Nat} {H : List Bool} {S : List En}
set_option maxRecDepth 100000 in
set_option maxHeartbeats 4000000 in
theorem again_any (w : World) (hE : Ens w A S) (hI : Ints w A2 (ea H)) (hl : H.length = S.length) (hb : S.length ≤ 10000) (hcp : S.length ≤ c) :
    Calls Try.prog 13 #[.agg #[.slice A S.length c, .int .i64 (nx H : Int), .slice A2 (ea H).length c2]] w fun e w' =>
      ∃ A5 c5, e = .returned (.slice A5 (ag H).length c5) ∧ Ints w' A5 (ag H) ∧ Below w.heap.size w w' := by
  obtain ⟨n, hn⟩ : ∃ n, S.length = n := ⟨_, rfl⟩
  obtain ⟨n2, hn2⟩ : ∃ n2, (ea H).length = n2 := ⟨_, rfl⟩
  obtain ⟨q, hq⟩ : ∃ q, nx H = q := ⟨_, rfl⟩
  have hn2b : n2 ≤ 10000 := by have := ea_len H; omega
  have hqn : q ≤ n := by have := nx_le H; omega
  have HRG := Lib.hid (show rgW n q (ea H) = true by rw [← hn, ← hl, ← hq]; exact rgW_ways (by omega))
  have HAS := Lib.hid (asc_of (ea_sorted H))
  try rw [hn] at hp1
  try rw [hq] at hp2
  rw [hn] at hb hcp
  simp only [hn, hn2, hq]
  have HN := Lib.hid hn
  have HN2 := Lib.hid hn2
  have HQ := Lib.hid hq
  have HL := Lib.hid hl
  have hB0 : Below w.heap.size w ((w.alloc (.cells #[.slice A n c, .int .i64 (q : Int), .slice A2 n2 c2] 27))) := Gen.b_alloc (Below.refl _ _)
  have hr0 : Row ((w.alloc (.cells #[.slice A n c, .int .i64 (q : Int), .slice A2 n2 c2] 27))) w.heap.size 27 #[.slice A n c, .int .i64 (q : Int), .slice A2 n2 c2] := Row.new _ _ _
  have HE := Lib.hid (hE.keep hB0)
  have HI := Lib.hid (hI.keep hB0)
  clear hn hn2 hq hl hE hI
  go_enter Try.func13, Try.ntmps13
  go_wp2_with (fail)
  generalize (w.alloc (.cells #[.slice A n c, .int .i64 (q : Int), .slice A2 n2 c2] 27)) = W0 at *
  go_must (refine (right_any _ (by omega) (by omega) HN2.out HI.out).mono ?_)
  rintro e w1 ⟨rfl, hb1⟩
  rw [HRG.out]
  have s0 := hr0.keep hb1
  have d0 := s0.cell 0
  have d1 := s0.cell 1
  have d2 := s0.cell 2
  have hB1 := Gen.over hb1 hB0
  have HE1 := Lib.hid (HE.out.keep hb1)
  have HI1 := Lib.hid (HI.out.keep hb1)
  clear hb1 hr0 HE HI hB0
  have s0x := s0
  have HR0 := Lib.hid s0
  obtain ⟨i0, hi0, hz0, hz1, hz2⟩ := info_parts' infoI
  have HLN : Hid (H.length = n) := Lib.hid (by rw [HL.out, HN.out])
  have hB1s : w.heap.size + 1 ≤ w1.heap.size := by have := s0.lt; omega
  have HB1 := Lib.hid hB1
  have HI1' := HI1
  clear s0x s0 hB1
  go_wp2
  clear d0 d1 d2
  go_loopw [3, 4] (fun v iv wr => ∃ (k : Nat) (l : List Int), q ≤ k ∧ k ≤ n ∧ iv = .int .i64 k ∧ Hid (l = ms false H q k) ∧ Hid (wr.ownsRow w1.heap.size 3 1 v l.length (ints l)) ∧ Hid (Row wr w.heap.size 27 #[.slice A n c, .int .i64 (q : Int), .slice A2 n2 c2]) ∧ Hid (Ints wr A2 (ea H)) ∧ Hid (Below w1.heap.size w1 wr)) (fun _ iv _ => n - (intOf iv).toNat)
  case atStart => exact ⟨q, [], Nat.le_refl _, hqn, rfl, Lib.hid (ms_empty ..).symm, Lib.hid (own_nil 0 _ _ _), HR0, HI1, Lib.hid (Below.refl _ _)⟩
  case round =>
    clear HR0 HI1
    obtain ⟨k, l, hqk, hk, rfl, HM, HO, HR, HI, HB⟩ := hrel
    have d0 := HR.out.cell 0
    have d1 := HR.out.cell 1
    have d2 := HR.out.cell 2
    have k0 : (0 : Int) ≤ (k : Int) := by omega
    have hlen : l.length ≤ 10000 := by have := ms_len false H q k; rw [← HM.out] at this; omega
    by_cases hlt : k < n
    · have hltI : (k : Int) < (n : Int) := by omega
      obtain ⟨b, hb'⟩ := at_ H k (by rw [HLN.out]; exact hlt)
      have HS := Lib.hid (ms_snoc (b := false) (H := H) hqk)
      cases b
      · have HBB : Hid (decide ((k : Int) ∈ ea H) = false) := Lib.hid (decide_eq_false fun hm => by
          obtain ⟨j, e, _, h3⟩ := mem_ea.1 hm
          have : j = k := by omega
          subst this
          rw [hb'] at h3
          cases h3)
        have HX : Hid (l ++ [(k : Int)] = ms false H q (k + 1)) := Lib.hid (by rw [HS.out, if_pos hb', ← HM.out])
        clear hb'
        obtain ⟨Al, cl, rfl, _⟩ := Gen.own_slice HO.out
        go_wp2_with (fail)
        go_must (refine (bsearch_is _ HN2.out HI.out (by omega) HAS.out HBB.out).mono ?_)
        rintro e w9 ⟨i, rfl, hbs, rfl⟩
        clear hbs
        go_wp2_with (first
          | (at_builtin
             go_must (refine App.wpList_append_any _ rfl (.tmp 28) (.tmp 30) _ rfl w1.heap.size 3 i0 _ 1 8 Try.underlying23 hi0 hz0 hz1 hz2 rfl (by omega) (.slice Al l.length cl) l.length (ints l) rfl (Gen.own_keep HO.out (Gen.b_alloc (Below.refl _ _))) (wr.heap.size + 1) (some ⟨wr.heap.size, 0, none⟩) 1 1 [.int .i64 (k : Int)] rfl (Gen.reads_blk rfl rfl) (by simp [Value.oneCell']) (by simp only [maxLen]; omega) (by omega) (by have := HB.out.size; simp; omega) ?_
                      intro v5 w5 hown5 hg5 hat5
                      have hB5 := Gen.g_below HO.out hg5 (Gen.b_alloc HB.out) (Nat.le_refl _)
                      have hR5 := Gen.g_row (g := w.heap.size) HO.out hg5 (by omega) (HR.out.alloc _)
                      have hI5 : Ints w5 A2 (ea H) := HI1'.out.keep hB5
                      have ho5 : w5.ownsRow w1.heap.size 3 1 v5 (l.length + 1) (ints (l ++ [(k : Int)])) := by
                        simpa [ints] using hown5
                      obtain ⟨A5, c5, rfl, _⟩ := Gen.own_slice ho5
                      have HO5 := Lib.hid (show w5.ownsRow w1.heap.size 3 1 (.slice A5 (l.length + 1) c5) (l ++ [(k : Int)]).length (ints (l ++ [(k : Int)])) from by rw [List.length_append]; exact ho5)
                      have HR5 := Lib.hid hR5
                      have HI5 := Lib.hid hI5
                      have HB5 := Lib.hid hB5
                      clear hown5 hg5 hat5 hB5 hR5 hI5 ho5))
          | fail)
        go_roundw
        case rel => exact ⟨k + 1, l ++ [(k : Int)], by omega, by omega, by go_num, HX, HO5, HR5, HI5, HB5⟩
        case measure => simp [intOf]; omega
      · have HBB : Hid (decide ((k : Int) ∈ ea H) = true) := Lib.hid (decide_eq_true (mem_ea.2 ⟨k, rfl, by
          rcases Nat.lt_or_ge (nx H) k with h | h
          · exact h
          · have e : k = nx H := by have := HQ.out; omega
            rw [e] at hb'
            exact absurd hb' (nx_at H), hb'⟩))
        have HX : Hid (l = ms false H q (k + 1)) := Lib.hid (by rw [HS.out, if_neg (by rw [hb']; simp), ← HM.out, List.append_nil])
        clear hb'
        go_wp2_with (fail)
        go_must (refine (bsearch_is _ HN2.out HI.out (by omega) HAS.out HBB.out).mono ?_)
        rintro e w9 ⟨i, rfl, hbs, rfl⟩
        clear hbs
        go_wp2
        go_roundw
        case rel => exact ⟨k + 1, l, by omega, by omega, by go_num, HX, HO, HR, HI, HB⟩
        case measure => simp [intOf]; omega
    · obtain rfl : k = n := by omega
      have HE : Hid (l = ag H) := Lib.hid (by rw [HM.out]; unfold ag; rw [HQ.out, HLN.out])
      obtain ⟨A5, c5, rfl, hI5⟩ := ints_own HO.out rfl
      have HI5 := Lib.hid hI5
      have HBF := Lib.hid (Gen.over HB.out HB1.out)
      clear hI5
      go_wp2
      go_ret
      exact ⟨A5, c5, by rw [← HE.out]; rfl, by rw [← HE.out]; exact HI5.out, HBF.out⟩
end
end Go.Proofs.Ytefikmfogbdhpaa.Po
