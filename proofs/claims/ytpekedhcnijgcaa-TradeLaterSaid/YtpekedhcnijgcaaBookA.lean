/- Package book: the contracts of Right, has, Level, Root. -/
import Derived.Test.YtpekedhcnijgcaaBookP
namespace Go.Proofs.Ytpekedhcnijgcaa.Book
open Go.ChangeShapes Go.WideShapes Go.ChangeAt Go.RowKit Go.Proofs.Ytpekedhcnijgcaa.Cell
set_option linter.unusedVariables false
set_option linter.unusedSimpArgs false

theorem info3 : (Try.prog.info? 3).map (fun i => (i.zero, i.size, i.bytes)) = some (some (.int .i64 0), 1, 8) := by kernel_rfl
theorem info4 : (Try.prog.info? 4).map (fun i => (i.zero, i.size, i.bytes)) = some (some (.bool false), 1, 1) := by kernel_rfl

set_option maxRecDepth 100000 in
set_option maxHeartbeats 8000000 in
theorem right_any (A : Option Addr) (n cap : Nat) (ss : List (Int × Int)) (w : World) (hn : ss.length = n) (hc : Prs w A ss) (hbig : n ≤ 9223372036854775807) :
    Calls Try.prog 54 #[.slice A n cap] w fun e w' => e = .returned (.bool (rg ss)) ∧ Below w.heap.size w w' := by
  have HN := Lib.hid hn
  clear hn
  by_cases hb : n ≤ 20000
  case neg =>
    have HF := Lib.hid (rg_no (ss := ss) (.inl (by rw [HN.out]; omega)))
    have hb' : 20000 < n := by omega
    clear hb
    go_enter Try.func54, Try.ntmps54
    go_wp2
    go_ret
    exact ⟨ret_bool HF.out.symm, by go_grown⟩
  obtain ⟨i0, hi0, hz0, hz1, hz2⟩ := info_parts info3
  have hmk : ∀ W : World, (Instr.makeSlice 23 (.int .i64 n) (.int .i64 n)).run Try.prog W = .ok (.slice (some ⟨W.heap.size, 0, none⟩) n n) (W.alloc (.cells (ics (List.replicate n 0)) 3)) := fun W => by
    have hr := run_make (P := Try.prog) W 23 3 i0 (.int .i64 0) Try.underlying23 hi0 hz0 .i64 .i64 n n (by omega) (Int.le_refl _) (by rw [hz2]; omega) (by omega)
    rw [hz1, Int.toNat_natCast, made_ints] at hr
    exact hr
  clear hi0 hz0 hz1 hz2
  go_enter Try.func54, Try.ntmps54
  go_wp2
  clear hmk
  go_loopw [14] (fun i wr => ∃ k : Nat, k ≤ n ∧ i = .int .i64 k ∧ okF (ss.take k) = true ∧ Row wr w.heap.size 3 (ics (arr (acc lv0 (ss.take k)) n)) ∧ Below w.heap.size w wr) (fun i _ => n - (intOf i).toNat)
  case atStart => exact ⟨0, Nat.zero_le _, rfl, by rfl, by simpa [arr, acc] using Row.new _ _ _, by go_grown⟩
  case round =>
    obtain ⟨k, hk, rfl, hok, hrow, hB⟩ := hrel
    have hS : w.heap.size < wr.heap.size := hrow.lt
    by_cases hlt : k < n
    · obtain ⟨b, off, rfl, hcell⟩ := (hc.keep hB) (by rw [HN.out]; omega)
      obtain ⟨s, hs⟩ := at_ ss k (by rw [HN.out]; exact hlt)
      obtain ⟨c0, c1⟩ := hcell k s hs
      have hll : (acc lv0 (ss.take k)).length = k := by rw [acc_length, List.length_take, HN.out]; omega
      have HS := Lib.hid hs
      have HO := Lib.hid hok
      have HL := Lib.hid hll
      have HT := Lib.hid (show acc lv0 (ss.take (k + 1)) = acc lv0 (ss.take k) ++ [lv0 (acc lv0 (ss.take k)) s] from by rw [take_snoc hs, acc_snoc])
      clear hcell hs hok hll
      obtain ⟨p, o⟩ := s
      dsimp only at c0 c1
      by_cases hg : -1 ≤ p ∧ p < k ∧ -1 ≤ o ∧ o < 60
      · obtain ⟨g0, g1, g2, g3⟩ := hg
        by_cases hp : 0 ≤ p
        · obtain ⟨q, rfl⟩ := Int.eq_ofNat_of_zero_le hp
          have hq : q < k := by omega
          obtain ⟨x, hx⟩ := at_ (acc lv0 (ss.take k)) q (by rw [HL.out]; exact hq)
          obtain ⟨x0, x1⟩ := lev_in HO.out hx
          have HV := Lib.hid (show lv0 (acc lv0 (ss.take k)) ((q : Int), o) = x + 1 from by
            rw [lv0_pos (by exact hp), List.getD_eq_getElem?_getD]
            show (acc lv0 (ss.take k))[((q : Int)).toNat]?.getD 0 + 1 = _
            rw [Int.toNat_natCast, hx]; rfl)
          have l0 : wr.cell? ⟨w.heap.size, q, none⟩ = some (.int .i64 x) := hrow.intAt (arr_at hx)
          have l1 : wr.cell? ⟨w.heap.size, k, none⟩ = some (.int .i64 0) := hrow.intAt (by have := arr_last (n := n) (l := acc lv0 (ss.take k)) (by rw [HL.out]; exact hlt); rwa [HL.out] at this)
          have hf := hrow.frozen k
          have HR := Lib.hid (show ((arr (acc lv0 (ss.take k)) n).set k (x + 1)) = arr (acc lv0 (ss.take (k + 1))) n from by
            rw [HT.out, HV.out, ← arr_set (by rw [HL.out]; exact hlt), HL.out])
          clear hx
          have y0 := Gen.al (o := .cells #[.int .i64 (q : Int), .int .i64 o] 57) l0
          have y1 := Gen.al (o := .cells #[.int .i64 (q : Int), .int .i64 o] 57) l1
          by_cases hx4 : x + 1 ≤ 4
          · go_wp2
            go_roundw
            case rel => exact ⟨k + 1, by omega, by go_num, okF_snoc HS.out HO.out (decide_eq_true ⟨g0, g1, g2, g3⟩) (by rw [HV.out]; exact hx4), by rw [← HR.out, ← ics_set]; exact (hrow.set _ _).alloc _, by go_grown⟩
            case measure => simp [intOf]; omega
          · have HF := Lib.hid (rg_no (.inr (okF_no HS.out (.inr (by rw [HV.out]; omega)))))
            have hx4' : 4 < x + 1 := by omega
            clear hx4
            go_wp2
            go_ret
            exact ⟨ret_bool HF.out.symm, by go_grown⟩
        · have HV := Lib.hid (show lv0 (acc lv0 (ss.take k)) (p, o) = 0 from lv0_neg (by dsimp only; omega))
          have l1 : wr.cell? ⟨w.heap.size, k, none⟩ = some (.int .i64 0) := hrow.intAt (by have := arr_last (n := n) (l := acc lv0 (ss.take k)) (by rw [HL.out]; exact hlt); rwa [HL.out] at this)
          have y1 := Gen.al (o := .cells #[.int .i64 p, .int .i64 o] 57) l1
          have HR := Lib.hid (show arr (acc lv0 (ss.take k)) n = arr (acc lv0 (ss.take (k + 1))) n from by rw [HT.out, HV.out]; exact arr_zero (by rw [HL.out]; exact hlt))
          have hp' : p < 0 := by omega
          clear hp
          go_wp2
          go_roundw
          case rel => exact ⟨k + 1, by omega, by go_num, okF_snoc HS.out HO.out (decide_eq_true ⟨g0, g1, g2, g3⟩) (by rw [HV.out]; omega), by rw [← HR.out]; exact hrow.alloc _, by go_grown⟩
          case measure => simp [intOf]; omega
      · have HF := Lib.hid (rg_no (.inr (okF_no HS.out (.inl (decide_eq_false hg)))))
        rcases (show p < -1 ∨ (-1 ≤ p ∧ (k : Int) ≤ p) ∨ (-1 ≤ p ∧ p < k ∧ o < -1) ∨ (-1 ≤ p ∧ p < k ∧ -1 ≤ o ∧ 60 ≤ o) from by omega) with g0 | ⟨g0, g1⟩ | ⟨g0, g1, g2⟩ | ⟨g0, g1, g2, g3⟩
        all_goals
          clear hg
          go_wp2
          go_ret
          exact ⟨ret_bool HF.out.symm, by go_grown⟩
    · obtain rfl : k = n := by omega
      rw [List.take_of_length_le (by rw [HN.out]; exact Nat.le_refl _)] at hok
      have HF := Lib.hid (rg_yes (by rw [HN.out]; exact hb) hok)
      clear hok
      go_wp2
      go_ret
      exact ⟨ret_bool HF.out.symm, by go_grown⟩
theorem right_is {A : Option Addr} {n cap : Nat} {ss : List (Int × Int)} {b : Bool} (w : World) (hn : ss.length = n) (hc : Prs w A ss) (hbig : n ≤ 9223372036854775807) (h : rg ss = b) :
    Calls Try.prog 54 #[.slice A n cap] w fun e w' => e = .returned (.bool b) ∧ Below w.heap.size w w' := by
  have hh := right_any A n cap ss w hn hc hbig
  rw [h] at hh
  exact hh

theorem isS_in {ss : List (Int × Int)} {i : Int} (h : isS ss i = true) : (0 ≤ i ∧ i < ss.length) ∧ ss.length ≤ 20000 ∧ okF ss = true := by
  unfold isS at h
  rw [Bool.and_eq_true] at h
  exact ⟨of_decide_eq_true h.1, rg_ok h.2⟩

end Go.Proofs.Ytpekedhcnijgcaa.Book
