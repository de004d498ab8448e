/- Package book: the contracts of Right, has, Level, Root. -/
import Derived.Test.YtggheoppbghjeaaBookP
namespace Go.Proofs.Ytggheoppbghjeaa.Book
open Go.ChangeShapes Go.WideShapes Go.ChangeAt Go.RowKit Go.Proofs.Ytggheoppbghjeaa.Cell
set_option linter.unusedVariables false
set_option linter.unusedSimpArgs false

theorem info3 : (Try.prog.info? 3).map (fun i => (i.zero, i.size, i.bytes)) = some (some (.int .i64 0), 1, 8) := by kernel_rfl
theorem info4 : (Try.prog.info? 4).map (fun i => (i.zero, i.size, i.bytes)) = some (some (.bool false), 1, 1) := by kernel_rfl

set_option maxRecDepth 100000 in
set_option maxHeartbeats 8000000 in
theorem right_any (A : Option Addr) (n cap : Nat) (ss : List (Int × Int)) (w : World) (hn : ss.length = n) (hc : Prs w A ss) (hbig : n ≤ 9223372036854775807) :
    Calls Try.prog 13 #[.slice A n cap] w fun e w' => e = .returned (.bool (rg ss)) ∧ Below w.heap.size w w' := by
  have HN := Lib.hid hn
  clear hn
  by_cases hb : n ≤ 20000
  case neg =>
    have HF := Lib.hid (rg_no (ss := ss) (.inl (by rw [HN.out]; omega)))
    have hb' : 20000 < n := by omega
    clear hb
    go_enter Try.func13, Try.ntmps13
    go_wp2
    go_ret
    exact ⟨ret_bool HF.out.symm, by go_grown⟩
  obtain ⟨i0, hi0, hz0, hz1, hz2⟩ := info_parts info3
  have hmk : ∀ W : World, (Instr.makeSlice 23 (.int .i64 n) (.int .i64 n)).run Try.prog W = .ok (.slice (some ⟨W.heap.size, 0, none⟩) n n) (W.alloc (.cells (ics (List.replicate n 0)) 3)) := fun W => by
    have hr := run_make (P := Try.prog) W 23 3 i0 (.int .i64 0) Try.underlying23 hi0 hz0 .i64 .i64 n n (by omega) (Int.le_refl _) (by rw [hz2]; omega) (by omega)
    rw [hz1, Int.toNat_natCast, made_ints] at hr
    exact hr
  clear hi0 hz0 hz1 hz2
  go_enter Try.func13, Try.ntmps13
  go_wp2
  clear hmk
  go_loopw [14] (fun i wr => ∃ k : Nat, k ≤ n ∧ i = .int .i64 k ∧ okF (ss.take k) = true ∧ Row wr w.heap.size 3 (ics (arr (acc lv0 (ss.take k)) n)) ∧ Below w.heap.size w wr) (fun i _ => n - (intOf i).toNat)
  case atStart => exact ⟨0, Nat.zero_le _, rfl, by rfl, by simpa [arr, acc] using Row.new _ _ _, by go_grown⟩
  case round =>
    obtain ⟨k, hk, rfl, hok, hrow, hB⟩ := hrel
    have hS : w.heap.size < wr.heap.size := hrow.lt
    by_cases hlt : k < n
    · obtain ⟨b, off, rfl, hcell⟩ := (hc.keep hB) (by rw [HN.out]; omega)
      obtain ⟨s, hs⟩ := at_ ss k (by rw [HN.out]; exact hlt)
      obtain ⟨c0, c1⟩ := hcell k s hs
      have hll : (acc lv0 (ss.take k)).length = k := by rw [acc_length, List.length_take, HN.out]; omega
      have HS := Lib.hid hs
      have HO := Lib.hid hok
      have HL := Lib.hid hll
      have HT := Lib.hid (show acc lv0 (ss.take (k + 1)) = acc lv0 (ss.take k) ++ [lv0 (acc lv0 (ss.take k)) s] from by rw [take_snoc hs, acc_snoc])
      clear hcell hs hok hll
      obtain ⟨p, o⟩ := s
      dsimp only at c0 c1
      by_cases hg : -1 ≤ p ∧ p < k ∧ -1 ≤ o ∧ o < 60
      · obtain ⟨g0, g1, g2, g3⟩ := hg
        by_cases hp : 0 ≤ p
        · obtain ⟨q, rfl⟩ := Int.eq_ofNat_of_zero_le hp
          have hq : q < k := by omega
          obtain ⟨x, hx⟩ := at_ (acc lv0 (ss.take k)) q (by rw [HL.out]; exact hq)
          obtain ⟨x0, x1⟩ := lev_in HO.out hx
          have HV := Lib.hid (show lv0 (acc lv0 (ss.take k)) ((q : Int), o) = x + 1 from by
            rw [lv0_pos (by exact hp), List.getD_eq_getElem?_getD]
            show (acc lv0 (ss.take k))[((q : Int)).toNat]?.getD 0 + 1 = _
            rw [Int.toNat_natCast, hx]; rfl)
          have l0 : wr.cell? ⟨w.heap.size, q, none⟩ = some (.int .i64 x) := hrow.intAt (arr_at hx)
          have l1 : wr.cell? ⟨w.heap.size, k, none⟩ = some (.int .i64 0) := hrow.intAt (by have := arr_last (n := n) (l := acc lv0 (ss.take k)) (by rw [HL.out]; exact hlt); rwa [HL.out] at this)
          have hf := hrow.frozen k
          have HR := Lib.hid (show ((arr (acc lv0 (ss.take k)) n).set k (x + 1)) = arr (acc lv0 (ss.take (k + 1))) n from by
            rw [HT.out, HV.out, ← arr_set (by rw [HL.out]; exact hlt), HL.out])
          clear hx
          have y0 := Gen.al (o := .cells #[.int .i64 (q : Int), .int .i64 o] 36) l0
          have y1 := Gen.al (o := .cells #[.int .i64 (q : Int), .int .i64 o] 36) l1
          by_cases hx4 : x + 1 ≤ 4
          · go_wp2
            go_roundw
            case rel => exact ⟨k + 1, by omega, by go_num, okF_snoc HS.out HO.out (decide_eq_true ⟨g0, g1, g2, g3⟩) (by rw [HV.out]; exact hx4), by rw [← HR.out, ← ics_set]; exact (hrow.set _ _).alloc _, by go_grown⟩
            case measure => simp [intOf]; omega
          · have HF := Lib.hid (rg_no (.inr (okF_no HS.out (.inr (by rw [HV.out]; omega)))))
            have hx4' : 4 < x + 1 := by omega
            clear hx4
            go_wp2
            go_ret
            exact ⟨ret_bool HF.out.symm, by go_grown⟩
        · have HV := Lib.hid (show lv0 (acc lv0 (ss.take k)) (p, o) = 0 from lv0_neg (by dsimp only; omega))
          have l1 : wr.cell? ⟨w.heap.size, k, none⟩ = some (.int .i64 0) := hrow.intAt (by have := arr_last (n := n) (l := acc lv0 (ss.take k)) (by rw [HL.out]; exact hlt); rwa [HL.out] at this)
          have y1 := Gen.al (o := .cells #[.int .i64 p, .int .i64 o] 36) l1
          have HR := Lib.hid (show arr (acc lv0 (ss.take k)) n = arr (acc lv0 (ss.take (k + 1))) n from by rw [HT.out, HV.out]; exact arr_zero (by rw [HL.out]; exact hlt))
          have hp' : p < 0 := by omega
          clear hp
          go_wp2
          go_roundw
          case rel => exact ⟨k + 1, by omega, by go_num, okF_snoc HS.out HO.out (decide_eq_true ⟨g0, g1, g2, g3⟩) (by rw [HV.out]; omega), by rw [← HR.out]; exact hrow.alloc _, by go_grown⟩
          case measure => simp [intOf]; omega
      · have HF := Lib.hid (rg_no (.inr (okF_no HS.out (.inl (decide_eq_false hg)))))
        rcases (show p < -1 ∨ (-1 ≤ p ∧ (k : Int) ≤ p) ∨ (-1 ≤ p ∧ p < k ∧ o < -1) ∨ (-1 ≤ p ∧ p < k ∧ -1 ≤ o ∧ 60 ≤ o) from by omega) with g0 | ⟨g0, g1⟩ | ⟨g0, g1, g2⟩ | ⟨g0, g1, g2, g3⟩
        all_goals
          clear hg
          go_wp2
          go_ret
          exact ⟨ret_bool HF.out.symm, by go_grown⟩
    · obtain rfl : k = n := by omega
      rw [List.take_of_length_le (by rw [HN.out]; exact Nat.le_refl _)] at hok
      have HF := Lib.hid (rg_yes (by rw [HN.out]; exact hb) hok)
      clear hok
      go_wp2
      go_ret
      exact ⟨ret_bool HF.out.symm, by go_grown⟩
theorem right_is {A : Option Addr} {n cap : Nat} {ss : List (Int × Int)} {b : Bool} (w : World) (hn : ss.length = n) (hc : Prs w A ss) (hbig : n ≤ 9223372036854775807) (h : rg ss = b) :
    Calls Try.prog 13 #[.slice A n cap] w fun e w' => e = .returned (.bool b) ∧ Below w.heap.size w w' := by
  have hh := right_any A n cap ss w hn hc hbig
  rw [h] at hh
  exact hh

set_option maxHeartbeats 1000000 in
theorem has_any (A : Option Addr) (n cap : Nat) (ss : List (Int × Int)) (i : Int) (w : World) (hn : ss.length = n) (hc : Prs w A ss) (hbig : n ≤ 9223372036854775807) :
    Calls Try.prog 30 #[.slice A n cap, .int .i64 i] w fun e w' => e = .returned (.bool (isS ss i)) ∧ Below w.heap.size w w' := by
  have HN := Lib.hid hn
  clear hn
  by_cases h : 0 ≤ i ∧ i < n
  · cases hr : rg ss
    all_goals
      have HF := Lib.hid (show isS ss i = _ from by unfold isS; rw [HN.out, decide_eq_true h, hr])
      obtain ⟨h1, h2⟩ := h
      go_enter Try.func30, Try.ntmps30
      go_wp2_with (fail)
      go_must (refine (right_is _ HN.out hc hbig hr).mono ?_)
      rintro e w1 ⟨rfl, hb⟩
      go_wp2
      go_ret
      exact ⟨ret_bool HF.out.symm, hb⟩
  · have HF := Lib.hid (show isS ss i = false from by unfold isS; rw [HN.out, decide_eq_false h]; rfl)
    rcases (show i < 0 ∨ (0 ≤ i ∧ (n : Int) ≤ i) from by omega) with h1 | ⟨h1, h2⟩
    all_goals
      clear h
      go_enter Try.func30, Try.ntmps30
      go_wp2
      go_ret
      exact ⟨ret_bool HF.out.symm, by go_grown⟩
theorem has_is {A : Option Addr} {n cap : Nat} {ss : List (Int × Int)} {i : Int} {b : Bool} (w : World) (hn : ss.length = n) (hc : Prs w A ss) (hbig : n ≤ 9223372036854775807) (h : isS ss i = b) :
    Calls Try.prog 30 #[.slice A n cap, .int .i64 i] w fun e w' => e = .returned (.bool b) ∧ Below w.heap.size w w' := by
  have hh := has_any A n cap ss i w hn hc hbig
  rw [h] at hh
  exact hh
theorem isS_in {ss : List (Int × Int)} {i : Int} (h : isS ss i = true) : (0 ≤ i ∧ i < ss.length) ∧ ss.length ≤ 20000 ∧ okF ss = true := by
  unfold isS at h
  rw [Bool.and_eq_true] at h
  exact ⟨of_decide_eq_true h.1, rg_ok h.2⟩

set_option maxRecDepth 100000 in
set_option maxHeartbeats 4000000 in
theorem level_any (A : Option Addr) (n cap : Nat) (ss : List (Int × Int)) (i : Int) (w : World) (hn : ss.length = n) (hc : Prs w A ss) (hbig : n ≤ 9223372036854775807) :
    Calls Try.prog 15 #[.slice A n cap, .int .i64 i] w fun e w' => e = .returned (.int .i64 (lvO ss i)) ∧ Below w.heap.size w w' := by
  have HN := Lib.hid hn
  clear hn
  cases hi : isS ss i
  · have HF := Lib.hid (show lvO ss i = -1 from by unfold lvO; rw [hi]; rfl)
    go_enter Try.func15, Try.ntmps15
    go_wp2_with (fail)
    go_must (refine (has_is _ HN.out hc hbig hi).mono ?_)
    rintro e w1 ⟨rfl, hb⟩
    go_wp2
    go_ret
    exact ⟨ret_int HF.out.symm, hb⟩
  · obtain ⟨⟨h0, h1⟩, h2, h3⟩ := isS_in hi
    obtain ⟨c, rfl⟩ := Int.eq_ofNat_of_zero_le h0
    rw [HN.out] at h1 h2
    obtain ⟨y, hy⟩ := at_ (acc lv0 ss) c (by rw [acc_length, HN.out]; omega)
    obtain ⟨y0, y1⟩ := lev_in h3 hy
    have HF := Lib.hid (show lvO ss c = y from by
      unfold lvO
      rw [hi, if_pos rfl, Int.toNat_natCast, List.getD_eq_getElem?_getD, hy]; rfl)
    have HO := Lib.hid h3
    have HI := Lib.hid hi
    have HY := Lib.hid hy
    clear hi h3 hy h0
    go_enter Try.func15, Try.ntmps15
    go_wp2_with (fail)
    go_must (refine (has_is _ HN.out hc hbig HI.out).mono ?_)
    rintro e w1 ⟨rfl, hb⟩
    replace hc := hc.keep hb
    go_wp2_with (fail)
    go_loop [1, 5] (fun cv nv => ∃ (k : Nat) (x m : Int), k < n ∧ cv = .int .i64 k ∧ nv = .int .i64 m ∧ (acc lv0 ss)[k]? = some x ∧ x ≤ y ∧ m = y - x) (fun cv _ => (intOf cv).toNat)
    case atStart => exact ⟨c, y, 0, by omega, rfl, rfl, HY.out, by omega, by omega⟩
    case round =>
      obtain ⟨k, x, m, hk, rfl, rfl, hx, hxy, hm⟩ := hrel
      obtain ⟨b, off, rfl, hcell⟩ := hc (by rw [HN.out]; omega)
      obtain ⟨s, hs⟩ := at_ ss k (by rw [HN.out]; exact hk)
      obtain ⟨c0, c1⟩ := hcell k s hs
      obtain ⟨x0, x1⟩ := lev_in HO.out hx
      by_cases hp : 0 ≤ s.1
      · obtain ⟨hpk, z, hz, hxz⟩ := lev_up HO.out hs hx hp
        have HZ := Lib.hid hz
        have m0 : 0 ≤ m := by omega
        have m1 : m ≤ 4 := by omega
        have hm' : m + 1 = y - z := by omega
        have hzy : z ≤ y := by omega
        have HM := Lib.hid hm'
        clear hcell hs hx hz hxz hm hm' hc
        obtain ⟨p, o⟩ := s
        dsimp only at c0 c1 hp hpk HZ
        obtain ⟨q, rfl⟩ := Int.eq_ofNat_of_zero_le hp
        rw [Int.toNat_natCast] at hpk HZ
        go_wp2
        go_round
        case rel => exact ⟨q, z, _, by omega, rfl, rfl, HZ.out, hzy, HM.out⟩
        case measure => simp [intOf]; omega
      · have hx0 := lev_top hs hx (by omega)
        have hmy : m = y := by omega
        have HM := Lib.hid hmy
        have hp' : s.1 < 0 := by omega
        clear hcell hs hx hx0 hm hmy hp
        obtain ⟨p, o⟩ := s
        dsimp only at c0 c1 hp'
        go_wp2
        go_ret
        exact ⟨ret_int (by rw [HF.out, HM.out]), hb⟩

set_option maxRecDepth 100000 in
set_option maxHeartbeats 4000000 in
theorem root_any (A : Option Addr) (n cap : Nat) (ss : List (Int × Int)) (i : Int) (w : World) (hn : ss.length = n) (hc : Prs w A ss) (hbig : n ≤ 9223372036854775807) :
    Calls Try.prog 17 #[.slice A n cap, .int .i64 i] w fun e w' => e = .returned (.int .i64 (rtO ss i)) ∧ Below w.heap.size w w' := by
  have HN := Lib.hid hn
  clear hn
  cases hi : isS ss i
  · have HF := Lib.hid (show rtO ss i = -1 from by unfold rtO; rw [hi]; rfl)
    go_enter Try.func17, Try.ntmps17
    go_wp2_with (fail)
    go_must (refine (has_is _ HN.out hc hbig hi).mono ?_)
    rintro e w1 ⟨rfl, hb⟩
    go_wp2
    go_ret
    exact ⟨ret_int HF.out.symm, hb⟩
  · obtain ⟨⟨h0, h1⟩, h2, h3⟩ := isS_in hi
    obtain ⟨c, rfl⟩ := Int.eq_ofNat_of_zero_le h0
    rw [HN.out] at h1 h2
    obtain ⟨y, hy⟩ := at_ (acc rt0 ss) c (by rw [acc_length, HN.out]; omega)
    have HF := Lib.hid (show rtO ss c = y from by
      unfold rtO
      rw [hi, if_pos rfl, Int.toNat_natCast, List.getD_eq_getElem?_getD, hy]; rfl)
    have HO := Lib.hid h3
    have HI := Lib.hid hi
    have HY := Lib.hid hy
    clear hi h3 hy h0
    go_enter Try.func17, Try.ntmps17
    go_wp2_with (fail)
    go_must (refine (has_is _ HN.out hc hbig HI.out).mono ?_)
    rintro e w1 ⟨rfl, hb⟩
    replace hc := hc.keep hb
    go_wp2_with (fail)
    go_loop [1] (fun cv => ∃ k : Nat, k < n ∧ cv = .int .i64 k ∧ (acc rt0 ss)[k]? = some y) (fun cv => (intOf cv).toNat)
    case atStart => exact ⟨c, by omega, rfl, HY.out⟩
    case round =>
      obtain ⟨k, hk, rfl, hx⟩ := hrel
      obtain ⟨b, off, rfl, hcell⟩ := hc (by rw [HN.out]; omega)
      obtain ⟨s, hs⟩ := at_ ss k (by rw [HN.out]; exact hk)
      obtain ⟨c0, c1⟩ := hcell k s hs
      by_cases hp : 0 ≤ s.1
      · obtain ⟨hpk, hz⟩ := root_up HO.out hs hx hp
        have HZ := Lib.hid hz
        clear hcell hs hx hz hc
        obtain ⟨p, o⟩ := s
        dsimp only at c0 c1 hp hpk HZ
        obtain ⟨q, rfl⟩ := Int.eq_ofNat_of_zero_le hp
        rw [Int.toNat_natCast] at hpk HZ
        go_wp2
        go_round
        case rel => exact ⟨q, by omega, rfl, HZ.out⟩
        case measure => simp [intOf]; omega
      · have hy := root_top hs hx (by omega)
        have HM := Lib.hid hy
        have hp' : s.1 < 0 := by omega
        clear hcell hs hx hy hp
        obtain ⟨p, o⟩ := s
        dsimp only at c0 c1 hp'
        go_wp2
        go_ret
        exact ⟨ret_int (by rw [HF.out, HM.out]), hb⟩
end Go.Proofs.Ytggheoppbghjeaa.Book
