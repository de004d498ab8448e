/- The reference of post: a way, and what reads it. -/
import Derived.Test.YtefikmfogbdhpaaPoT
namespace Go.Proofs.Ytefikmfogbdhpaa.Po
open Go.ChangeShapes Go.WideShapes Go.ChangeAt Go.RowKit Go.Proofs.Ytefikmfogbdhpaa.Cell
set_option linter.unusedVariables false
set_option linter.unusedSimpArgs false
def bls (l : List Bool) : List Value := l.map Value.bool
theorem bls_len (l : List Bool) : (bls l).length = l.length := by simp [bls]
/-- flags in memory -/
def Bls (w : World) (A : Option Addr) (l : List Bool) : Prop := 0 < l.length → ∃ b, A = some ⟨b, 0, none⟩ ∧ ∀ (j : Nat) x, l[j]? = some x → w.cell? ⟨b, j, none⟩ = some (.bool x)
theorem Bls.keep {w w1 : World} {A : Option Addr} {l : List Bool} (h : Bls w A l) (hb : Below w.heap.size w w1) : Bls w1 A l := fun h0 => by
  obtain ⟨b, e, hc⟩ := h h0
  exact ⟨b, e, fun j x hx => Gen.keep hb (hc j x hx)⟩
theorem bls_own {W : World} {B n c : Nat} {A : Option Addr} {t : TypeId} {l : List Bool} (h : W.ownsRow B t 1 (.slice A n c) n (bls l)) (hn : l.length = n) : Bls W A l := fun h0 => by
  obtain ⟨g, cap, hv, hb, hlt⟩ := h.form (by omega)
  injection hv with e
  subst e
  refine ⟨g, rfl, fun j z hz => ?_⟩
  have hj := lt_of_at hz
  have c0 := h.cellAt j (by rw [Nat.mul_one]; omega)
  rw [show (bls l)[j]? = some (.bool z) by simp [bls, hz]] at c0
  exact c0
/-- the reference's way -/
structure Mw (W : World) (lo gm : Nat) (Am : Option Addr) (n cm : Nat) (Ah : Option Addr) (ch : Nat) (S : List En) (H : List Bool) : Prop where
  r : Row W gm 49 #[.slice Am n cm, .slice Ah n ch]
  os : W.ownsRow lo 36 5 (.slice Am n cm) n (S.flatMap ecs)
  oh : W.ownsRow lo 4 1 (.slice Ah n ch) n (bls H)
  hn : S.length = n
  hl : H.length = n
  lg : lo ≤ gm
  n1 : (Value.slice Am n cm).ownBlock ≠ some gm
  n2 : (Value.slice Ah n ch).ownBlock ≠ some gm
  ne : ∀ g, (Value.slice Am n cm).ownBlock = some g → (Value.slice Ah n ch).ownBlock ≠ some g
theorem Mw.keep {W W' : World} {lo gm : Nat} {Am : Option Addr} {n cm : Nat} {Ah : Option Addr} {ch : Nat} {S : List En} {H : List Bool} (h : Mw W lo gm Am n cm Ah ch S H) (hb : Below W.heap.size W W') : Mw W' lo gm Am n cm Ah ch S H :=
  ⟨h.r.keep hb, Gen.own_keep h.os hb, Gen.own_keep h.oh hb, h.hn, h.hl, h.lg, h.n1, h.n2, h.ne⟩
theorem ag_all (H : List Bool) : ms false H 0 H.length = ag H := by
  refine asc_ext (ms_sorted ..) (ag_sorted _) fun x => ?_
  rw [mem_ms, mem_ag]
  constructor
  · rintro ⟨j, e, _, _, h⟩; exact ⟨j, e, h⟩
  · rintro ⟨j, e, h⟩; exact ⟨j, e, Nat.zero_le _, lt_of_at h, h⟩
section
variable {W : World} {lo gm : Nat} {Am : Option Addr} {n cm : Nat} {Ah : Option Addr} {ch : Nat} {S : List En} {H : List Bool}
set_option maxRecDepth 100000 in
set_option maxHeartbeats 2000000 in
theorem next_is (h : Mw W lo gm Am n cm Ah ch S H) (hb : n ≤ 1000000) :
    Calls Try.prog 17 #[.pointer (some ⟨gm, 0, none⟩)] W fun e w' => e = .returned (.int .i64 (nx H : Int)) ∧ w' = W := by
  have d0 := h.r.cell 0
  have d1 := h.r.cell 1
  have HL := Lib.hid h.hl
  have HB := Lib.hid (bls_own h.oh h.hl)
  clear h
  go_enter Try.func17, Try.ntmps17
  go_wp2
  go_loopw [3] (fun iv wr => ∃ k : Nat, k ≤ n ∧ iv = .int .i64 k ∧ wr = W ∧ Hid (∀ j, j < k → H[j]? = some true)) (fun iv _ => n - (intOf iv).toNat)
  case atStart => exact ⟨0, Nat.zero_le _, rfl, rfl, Lib.hid (fun j hj => by omega)⟩
  case round =>
    obtain ⟨k, hk, rfl, rfl, HT⟩ := hrel
    have k0 : (0 : Int) ≤ (k : Int) := by omega
    by_cases hlt : k < n
    · have hltI : (k : Int) < (n : Int) := by omega
      obtain ⟨b, hb'⟩ := at_ H k (by rw [HL.out]; exact hlt)
      obtain ⟨bh, rfl, hc⟩ := HB.out (by rw [HL.out]; omega)
      have c0 := hc k b hb'
      clear hc
      cases b
      · have HQ := Lib.hid (show nx H = k from nx_of HT.out (by rw [hb']; simp))
        clear hb'
        go_wp2
        go_ret
        exact ⟨by rw [HQ.out]; rfl, rfl⟩
      · have HT' : Hid (∀ j, j < k + 1 → H[j]? = some true) := Lib.hid (fun j hj => by
          by_cases e : j = k
          · subst e; exact hb'
          · exact HT.out j (by omega))
        clear hb'
        go_wp2
        go_roundw
        case rel => exact ⟨k + 1, by omega, by go_num, by trivial, HT'⟩
        case measure => simp [intOf]; omega
    · obtain rfl : k = n := by omega
      have HQ := Lib.hid (show nx H = k from nx_of HT.out (by rw [List.getElem?_eq_none (by rw [HL.out]; omega)]; simp))
      go_wp2
      go_ret
      exact ⟨by rw [HQ.out]; rfl, rfl⟩
set_option maxRecDepth 100000 in
set_option maxHeartbeats 4000000 in
theorem early_is (h : Mw W lo gm Am n cm Ah ch S H) (hb : n ≤ 1000000) :
    Calls Try.prog 19 #[.pointer (some ⟨gm, 0, none⟩)] W fun e w' => ∃ A5 c5, e = .returned (.slice A5 (ea H).length c5) ∧ Ints w' A5 (ea H) ∧ Below W.heap.size W w' := by
  have HH := Lib.hid h
  have HL := Lib.hid h.hl
  have HB := Lib.hid (bls_own h.oh h.hl)
  obtain ⟨i0, hi0, hz0, hz1, hz2⟩ := info_parts' infoI
  obtain ⟨q, hq⟩ : ∃ q, nx H = q := ⟨_, rfl⟩
  have HQ := Lib.hid hq
  have hqn : q ≤ n := by have := nx_le H; have := h.hl; omega
  clear hq h
  go_enter Try.func19, Try.ntmps19
  go_wp2_with (fail)
  go_must (refine (next_is HH.out hb).mono ?_)
  rintro e w1 ⟨rfl, hw9⟩
  have hw9 := hw9.symm
  subst hw9
  rw [HQ.out]
  go_wp2
  go_loopw [3, 4] (fun v iv wr => ∃ (k : Nat) (l : List Int), q ≤ k ∧ k ≤ n ∧ iv = .int .i64 k ∧ Hid (l = ms true H q k) ∧ Hid (wr.ownsRow W.heap.size 3 1 v l.length (ints l)) ∧ Hid (Below W.heap.size W wr)) (fun _ iv _ => n - (intOf iv).toNat)
  case atStart => exact ⟨q, [], Nat.le_refl _, hqn, by first | rfl | (rw [← HQ.out]; rfl) | go_num, Lib.hid (ms_empty ..).symm, Lib.hid (own_nil 0 _ _ _), Lib.hid (Below.refl _ _)⟩
  case round =>
    obtain ⟨k, l, hqk, hk, rfl, HM, HO, HBW⟩ := hrel
    have HW := Lib.hid (HH.out.keep HBW.out)
    have d0 := HW.out.r.cell 0
    have d1 := HW.out.r.cell 1
    have k0 : (0 : Int) ≤ (k : Int) := by omega
    have hlen : l.length ≤ 1000000 := by have := ms_len true H q k; rw [← HM.out] at this; omega
    by_cases hlt : k < n
    · have hltI : (k : Int) < (n : Int) := by omega
      obtain ⟨b, hb'⟩ := at_ H k (by rw [HL.out]; exact hlt)
      obtain ⟨bh, rfl, hc⟩ := (HB.out.keep HBW.out) (by rw [HL.out]; omega)
      have c0 := hc k b hb'
      clear hc
      have HS := Lib.hid (ms_snoc (b := true) (H := H) hqk)
      by_cases hbb : b = true
      · subst hbb
        have HX : Hid (l ++ [(k : Int)] = ms true H q (k + 1)) := Lib.hid (by rw [HS.out, if_pos hb', ← HM.out])
        clear hb'
        obtain ⟨Al, cl, rfl, _⟩ := Gen.own_slice HO.out
        go_wp2_with (first
          | (at_builtin
             go_must (refine App.wpList_append_any _ rfl (.tmp 23) (.tmp 25) _ rfl W.heap.size 3 i0 _ 1 8 Try.underlying23 hi0 hz0 hz1 hz2 rfl (by omega) (.slice Al l.length cl) l.length (ints l) rfl (Gen.own_keep HO.out (Gen.b_alloc (Below.refl _ _))) (wr.heap.size + 1) (some ⟨wr.heap.size, 0, none⟩) 1 1 [.int .i64 (k : Int)] rfl (Gen.reads_blk rfl rfl) (by simp [Value.oneCell']) (by simp only [maxLen]; omega) (by omega) (by have := HBW.out.size; simp; omega) ?_
                      intro v5 w5 hown5 hg5 hat5
                      have hB5 := Gen.g_below HO.out hg5 (Gen.b_alloc HBW.out) (Nat.le_refl _)
                      have ho5 : w5.ownsRow W.heap.size 3 1 v5 (l.length + 1) (ints (l ++ [(k : Int)])) := by
                        simpa [ints] using hown5
                      obtain ⟨A5, c5, rfl, _⟩ := Gen.own_slice ho5
                      have HO5 := Lib.hid (show w5.ownsRow W.heap.size 3 1 (.slice A5 (l.length + 1) c5) (l ++ [(k : Int)]).length (ints (l ++ [(k : Int)])) from by rw [List.length_append]; exact ho5)
                      have HB5 := Lib.hid hB5
                      clear hown5 hg5 hat5 hB5 ho5))
          | fail)
        go_roundw
        case rel => exact ⟨k + 1, l ++ [(k : Int)], by omega, by omega, by go_num, HX, HO5, HB5⟩
        case measure => simp [intOf]; omega
      · obtain rfl : b = false := by cases b <;> simp_all
        have HX : Hid (l = ms true H q (k + 1)) := Lib.hid (by rw [HS.out, if_neg (by rw [hb']; simp), ← HM.out, List.append_nil])
        clear hb' hbb
        go_wp2
        go_roundw
        case rel => exact ⟨k + 1, l, by omega, by omega, by go_num, HX, HO, HBW⟩
        case measure => simp [intOf]; omega
    · obtain rfl : k = n := by omega
      have HE : Hid (l = ea H) := Lib.hid (by rw [HM.out]; unfold ea; rw [HQ.out, HL.out])
      obtain ⟨A5, c5, rfl, hI5⟩ := ints_own HO.out rfl
      have HI5 := Lib.hid hI5
      clear hI5
      go_wp2
      go_ret
      exact ⟨A5, c5, by rw [← HE.out]; rfl, by rw [← HE.out]; exact HI5.out, HBW.out⟩
set_option maxRecDepth 100000 in
set_option maxHeartbeats 4000000 in
theorem again2_is (h : Mw W lo gm Am n cm Ah ch S H) (hb : n ≤ 1000000) :
    Calls Try.prog 20 #[.pointer (some ⟨gm, 0, none⟩)] W fun e w' => ∃ A5 c5, e = .returned (.slice A5 (ag H).length c5) ∧ Ints w' A5 (ag H) ∧ Below W.heap.size W w' := by
  have HH := Lib.hid h
  have HL := Lib.hid h.hl
  have HB := Lib.hid (bls_own h.oh h.hl)
  obtain ⟨i0, hi0, hz0, hz1, hz2⟩ := info_parts' infoI
  obtain ⟨q, hq⟩ : ∃ q, (0 : Nat) = q := ⟨_, rfl⟩
  have HQ := Lib.hid hq
  have hqn : q ≤ n := by have := nx_le H; have := h.hl; omega
  clear hq h
  go_enter Try.func20, Try.ntmps20
  go_wp2
  go_loopw [3, 4] (fun v iv wr => ∃ (k : Nat) (l : List Int), q ≤ k ∧ k ≤ n ∧ iv = .int .i64 k ∧ Hid (l = ms false H q k) ∧ Hid (wr.ownsRow W.heap.size 3 1 v l.length (ints l)) ∧ Hid (Below W.heap.size W wr)) (fun _ iv _ => n - (intOf iv).toNat)
  case atStart => exact ⟨q, [], Nat.le_refl _, hqn, by first | rfl | (rw [← HQ.out]; rfl) | go_num, Lib.hid (ms_empty ..).symm, Lib.hid (own_nil 0 _ _ _), Lib.hid (Below.refl _ _)⟩
  case round =>
    obtain ⟨k, l, hqk, hk, rfl, HM, HO, HBW⟩ := hrel
    have HW := Lib.hid (HH.out.keep HBW.out)
    have d0 := HW.out.r.cell 0
    have d1 := HW.out.r.cell 1
    have k0 : (0 : Int) ≤ (k : Int) := by omega
    have hlen : l.length ≤ 1000000 := by have := ms_len false H q k; rw [← HM.out] at this; omega
    by_cases hlt : k < n
    · have hltI : (k : Int) < (n : Int) := by omega
      obtain ⟨b, hb'⟩ := at_ H k (by rw [HL.out]; exact hlt)
      obtain ⟨bh, rfl, hc⟩ := (HB.out.keep HBW.out) (by rw [HL.out]; omega)
      have c0 := hc k b hb'
      clear hc
      have HS := Lib.hid (ms_snoc (b := false) (H := H) hqk)
      by_cases hbb : b = false
      · subst hbb
        have HX : Hid (l ++ [(k : Int)] = ms false H q (k + 1)) := Lib.hid (by rw [HS.out, if_pos hb', ← HM.out])
        clear hb'
        obtain ⟨Al, cl, rfl, _⟩ := Gen.own_slice HO.out
        go_wp2_with (first
          | (at_builtin
             go_must (refine App.wpList_append_any _ rfl (.tmp 22) (.tmp 24) _ rfl W.heap.size 3 i0 _ 1 8 Try.underlying23 hi0 hz0 hz1 hz2 rfl (by omega) (.slice Al l.length cl) l.length (ints l) rfl (Gen.own_keep HO.out (Gen.b_alloc (Below.refl _ _))) (wr.heap.size + 1) (some ⟨wr.heap.size, 0, none⟩) 1 1 [.int .i64 (k : Int)] rfl (Gen.reads_blk rfl rfl) (by simp [Value.oneCell']) (by simp only [maxLen]; omega) (by omega) (by have := HBW.out.size; simp; omega) ?_
                      intro v5 w5 hown5 hg5 hat5
                      have hB5 := Gen.g_below HO.out hg5 (Gen.b_alloc HBW.out) (Nat.le_refl _)
                      have ho5 : w5.ownsRow W.heap.size 3 1 v5 (l.length + 1) (ints (l ++ [(k : Int)])) := by
                        simpa [ints] using hown5
                      obtain ⟨A5, c5, rfl, _⟩ := Gen.own_slice ho5
                      have HO5 := Lib.hid (show w5.ownsRow W.heap.size 3 1 (.slice A5 (l.length + 1) c5) (l ++ [(k : Int)]).length (ints (l ++ [(k : Int)])) from by rw [List.length_append]; exact ho5)
                      have HB5 := Lib.hid hB5
                      clear hown5 hg5 hat5 hB5 ho5))
          | fail)
        go_roundw
        case rel => exact ⟨k + 1, l ++ [(k : Int)], by omega, by omega, by go_num, HX, HO5, HB5⟩
        case measure => simp [intOf]; omega
      · obtain rfl : b = true := by cases b <;> simp_all
        have HX : Hid (l = ms false H q (k + 1)) := Lib.hid (by rw [HS.out, if_neg (by rw [hb']; simp), ← HM.out, List.append_nil])
        clear hb' hbb
        go_wp2
        go_roundw
        case rel => exact ⟨k + 1, l, by omega, by omega, by go_num, HX, HO, HBW⟩
        case measure => simp [intOf]; omega
    · obtain rfl : k = n := by omega
      have HE : Hid (l = ag H) := Lib.hid (by rw [HM.out]; rw [← HQ.out, ← HL.out]; exact ag_all H)
      obtain ⟨A5, c5, rfl, hI5⟩ := ints_own HO.out rfl
      have HI5 := Lib.hid hI5
      clear hI5
      go_wp2
      go_ret
      exact ⟨A5, c5, by rw [← HE.out]; rfl, by rw [← HE.out]; exact HI5.out, HBW.out⟩
end
end Go.Proofs.Ytefikmfogbdhpaa.Po
