/- Package book: the contracts of Held, Clone, Move; the reference's Ints; the example's seats. -/
import Derived.Test.YtpekedhcnijgcaaBookB
import Derived.WalkSpells
namespace Go.Proofs.Ytpekedhcnijgcaa.Book
open Go.ChangeShapes Go.WideShapes Go.ChangeAt Go.RowKit Go.Proofs.Ytpekedhcnijgcaa.Cell
set_option linter.unusedVariables false
set_option linter.unusedSimpArgs false

/-- whether a seat is another one or below it, out of the seats before -/
def bl0 (i : Nat) (l : List Bool) (s : Int × Int) : Bool := if l.length = i then true else decide (i < l.length) && (decide (0 ≤ s.1) && l.getD s.1.toNat false)
theorem bl0_gt {i : Nat} {l : List Bool} {s : Int × Int} (h : i < l.length) : bl0 i l s = (decide (0 ≤ s.1) && l.getD s.1.toNat false) := by
  unfold bl0
  rw [if_neg (by omega), decide_eq_true h]; rfl
theorem bl_start (i : Nat) (ss : List (Int × Int)) : ∀ k, k ≤ i → k ≤ ss.length → acc (bl0 i) (ss.take k) = List.replicate k false
  | 0, _, _ => by simp [acc]
  | k + 1, h, hl => by
    obtain ⟨s, hs⟩ := at_ ss k (by omega)
    rw [take_snoc hs, acc_snoc, bl_start i ss k (by omega) (by omega), List.replicate_succ', bl0, if_neg (by simp; omega), decide_eq_false (by simp; omega)]
    rfl
theorem bl_self {i : Nat} {ss : List (Int × Int)} {s : Int × Int} (hs : ss[i]? = some s) : acc (bl0 i) (ss.take (i + 1)) = List.replicate i false ++ [true] := by
  have := lt_of_at hs
  rw [take_snoc hs, acc_snoc, bl_start i ss i (Nat.le_refl _) (by omega), bl0, if_pos (by simp)]
theorem yesR_false : ∀ (xs : List Int) (k : Nat), yesR xs (List.replicate k false) = 0
  | [], k => by cases k <;> rfl
  | x :: xs, 0 => rfl
  | x :: xs, k + 1 => by rw [List.replicate_succ, yesR, yesR_false]; rfl
theorem total_cons (z : Int) (zs : List Int) : total (z :: zs) = z + total zs := by
  have : ∀ (zs : List Int) (a : Int), zs.foldl (· + ·) a = a + total zs := by
    intro zs
    induction zs with
    | nil => intro a; simp [total]
    | cons z zs ih => intro a; unfold total; rw [List.foldl_cons, List.foldl_cons, ih, ih (0 + z)]; omega
  show (z :: zs).foldl (· + ·) 0 = _
  rw [List.foldl_cons, this]; omega
theorem yesR_in {xs : List Int} (ys : List Bool) (h : ∀ u ∈ xs, 0 ≤ u ∧ u ≤ 1000000000) : 0 ≤ yesR xs ys ∧ yesR xs ys ≤ total xs := by
  induction xs generalizing ys with
  | nil => simp [yesR, total]
  | cons z zs ih =>
    have b := h z (by simp)
    have t := total_in (us := zs) fun u hu => h u (by simp [hu])
    rw [total_cons]
    cases ys with
    | nil => simp only [yesR]; omega
    | cons y ys =>
      have i := ih ys fun u hu => h u (by simp [hu])
      simp only [yesR]
      split <;> omega
theorem vd_all {ss : List (Int × Int)} {us : List Int} (h : vd ss us = true) : ∀ u ∈ us, 0 ≤ u ∧ u ≤ 1000000000 := fun u hu => by
  obtain ⟨_, h1, h2, _⟩ := vd_in h
  obtain ⟨k, hk⟩ := List.getElem?_of_mem hu
  obtain ⟨s, hs⟩ := at_ ss k (by rw [← h1]; exact lt_of_at hk)
  have := h2 k (lt_of_at hk)
  rw [okU_at hk hs, Bool.and_eq_true] at this
  exact of_decide_eq_true this.1
def arrB (l : List Bool) (n : Nat) : List Bool := l ++ List.replicate (n - l.length) false
theorem arrB_set {l : List Bool} {n : Nat} (h : l.length < n) (x : Bool) : (arrB l n).set l.length x = arrB (l ++ [x]) n := by
  unfold arrB
  obtain ⟨m, hm⟩ : ∃ m, n - l.length = m + 1 := ⟨n - l.length - 1, by omega⟩
  rw [hm, List.set_append_right _ _ (Nat.le_refl _), Nat.sub_self, List.replicate_succ, List.set_cons_zero]
  have : n - (l ++ [x]).length = m := by simp; omega
  rw [this]
  simp
theorem arrB_no {l : List Bool} {n : Nat} (h : l.length < n) : arrB l n = arrB (l ++ [false]) n := by
  unfold arrB
  obtain ⟨m, hm⟩ : ∃ m, n - l.length = m + 1 := ⟨n - l.length - 1, by omega⟩
  have : n - (l ++ [false]).length = m := by simp; omega
  rw [hm, this, List.replicate_succ]
  simp
theorem arrB_at {l : List Bool} {n j : Nat} {x : Bool} (h : l[j]? = some x) : (arrB l n)[j]? = some x := by
  unfold arrB
  rw [List.getElem?_append_left (lt_of_at h)]
  exact h
theorem arrB_last {l : List Bool} {n : Nat} (h : l.length < n) : (arrB l n)[l.length]? = some false := by
  unfold arrB
  rw [List.getElem?_append_right (Nat.le_refl _), Nat.sub_self, List.getElem?_replicate, if_pos (by omega)]
theorem arrB_rep {k n : Nat} (h : k ≤ n) : arrB (List.replicate k false) n = List.replicate n false := by
  unfold arrB
  rw [List.length_replicate, List.replicate_append_replicate]
  congr 1; omega
def hO (ss : List (Int × Int)) (us : List Int) (i : Int) : Int := if 0 ≤ i ∧ i < ss.length ∧ vd ss us = true then yesR us (acc (bl0 i.toNat) ss) else 0

set_option maxRecDepth 100000 in
set_option maxHeartbeats 8000000 in
theorem held_any (A : Option Addr) (n cap : Nat) (ss : List (Int × Int)) (A' : Option Addr) (m cap' : Nat) (us : List Int) (i : Int) (w : World) (hn : ss.length = n) (hc : Prs w A ss) (hbig : n ≤ 1000000) (hm : us.length = m) (hc' : Ints w A' us) (hbig' : m ≤ 9223372036854775807) :
    Calls Try.prog 25 #[.slice A n cap, .slice A' m cap', .int .i64 i] w fun e w' => e = .returned (.int .i64 (hO ss us i)) ∧ Below w.heap.size w w' := by
  have HN := Lib.hid hn
  have HM := Lib.hid hm
  clear hn hm
  by_cases hi : 0 ≤ i ∧ i < n
  case neg =>
    have HF := Lib.hid (show hO ss us i = 0 from if_neg (by rw [HN.out]; omega))
    rcases (show i < 0 ∨ (0 ≤ i ∧ (n : Int) ≤ i) from by omega) with h1 | ⟨h1, h2⟩
    all_goals
      clear hi
      go_enter Try.func25, Try.ntmps25
      go_wp2
      go_ret
      exact ⟨ret_int HF.out.symm, by go_grown⟩
  obtain ⟨i0, i1⟩ := hi
  cases hv : vd ss us
  · have HF := Lib.hid (show hO ss us i = 0 from if_neg (fun h => by rw [hv] at h; cases h.2.2))
    go_enter Try.func25, Try.ntmps25
    go_wp2_with (fail)
    go_must (refine (valid_is _ HN.out hc hbig HM.out hc' hbig' hv).mono ?_)
    rintro e w1 ⟨rfl, hb⟩
    go_wp2
    go_ret
    exact ⟨ret_int HF.out.symm, hb⟩
  · obtain ⟨c, rfl⟩ := Int.eq_ofNat_of_zero_le i0
    have HF := Lib.hid (show hO ss us c = yesR us (acc (bl0 c) ss) from if_pos ⟨i0, by rw [HN.out]; exact i1, hv⟩)
    have HV := Lib.hid hv
    have hml : m = n := by have := (vd_in hv).2.1; rw [HM.out, HN.out] at this; exact this
    subst hml
    have hle := (rg_ok (vd_in hv).1).1
    rw [HN.out] at hle
    have HK := Lib.hid (okF_iff ss |>.1 (rg_ok (vd_in hv).1).2)
    have HA := Lib.hid (vd_all hv)
    clear hv
    obtain ⟨x0, hx0, hz0, hz1, hz2⟩ := info_parts info4
    have hmk : ∀ W : World, (Instr.makeSlice 64 (.int .i64 m) (.int .i64 m)).run Try.prog W = .ok (.slice (some ⟨W.heap.size, 0, none⟩) m m) (W.alloc (.cells (bcs (List.replicate m false)) 4)) := fun W => by
      have hr := run_make (P := Try.prog) W 64 4 x0 (.bool false) Try.underlying64 hx0 hz0 .i64 .i64 m m (by omega) (Int.le_refl _) (by rw [hz2]; omega) (by omega)
      rw [hz1, Int.toNat_natCast, made_bools] at hr
      exact hr
    clear hx0 hz0 hz1 hz2
    obtain ⟨s, hs⟩ := at_ ss c (by rw [HN.out]; omega)
    obtain ⟨u, hu⟩ := at_ us c (by rw [HM.out]; omega)
    have HST := Lib.hid (bl_self hs)
    have HSU := Lib.hid (show yesR (us.take (c + 1)) (acc (bl0 c) (ss.take (c + 1))) = u from by
      rw [HST.out, take_snoc hu, yesR_snoc _ _ (by rw [List.length_take, HM.out]; simp; omega), yesR_false]; simp)
    have HCU := Lib.hid (fun w1 (hb : Below w.heap.size w w1) => show ∃ b off, A' = some ⟨b, off, none⟩ ∧ w1.cell? ⟨b, off + c, none⟩ = some (.int .i64 u) from by
      obtain ⟨b, off, e, hcell⟩ := (hc'.keep hb) (by rw [HM.out]; omega)
      exact ⟨b, off, e, hcell c u hu⟩)
    clear hs hu
    go_enter Try.func25, Try.ntmps25
    go_wp2_with (fail)
    go_must (refine (valid_is _ HN.out hc hbig HM.out hc' hbig' HV.out).mono ?_)
    rintro e w1 ⟨rfl, hb⟩
    obtain ⟨b', off', rfl, cu⟩ := HCU.out _ hb
    replace hc := hc.keep hb
    replace hc' := hc'.keep hb
    have hS1 : w.heap.size ≤ w1.heap.size := hb.size
    have hr0 : Row (w1.alloc (.cells (bcs (List.replicate m false)) 4)) w1.heap.size 4 (bcs (List.replicate m false)) := Row.new _ _ _
    have y0 : (w1.alloc (.cells (bcs (List.replicate m false)) 4)).cell? ⟨w1.heap.size, c, none⟩ = some (.bool false) := hr0.booAt (by rw [List.getElem?_replicate, if_pos (by omega)])
    have y1 := hr0.frozen c
    have HE1 := Lib.hid (show (bcs (List.replicate m false)).setIfInBounds c (.bool true) = bcs (arrB (acc (bl0 c) (ss.take (c + 1))) m) from by
      rw [HST.out, ← arrB_set (l := List.replicate c false) (by simp; omega), arrB_rep (by omega), List.length_replicate, ← bcs_set])
    have c0 : (0 : Int) ≤ (c : Int) := by omega
    clear hr0
    go_wp2
    clear hmk
    go_loopw [7, 9] (fun sv iv wr => ∃ k : Nat, c + 1 ≤ k ∧ k ≤ m ∧ iv = .int .i64 k ∧ sv = .int .i64 (yesR (us.take k) (acc (bl0 c) (ss.take k))) ∧ Row wr w1.heap.size 4 (bcs (arrB (acc (bl0 c) (ss.take k)) m)) ∧ Below w1.heap.size w1 wr) (fun _ iv _ => m - (intOf iv).toNat)
    case atStart => exact ⟨c + 1, Nat.le_refl _, by omega, by go_num, by rw [HSU.out], by rw [← HE1.out]; exact Row.new _ _ _, by go_grown⟩
    case round =>
      obtain ⟨k, hk0, hk, rfl, rfl, hrow, hB⟩ := hrel
      have hS : w1.heap.size < wr.heap.size := hrow.lt
      have hall : ∀ u ∈ us.take k, 0 ≤ u ∧ u ≤ 1000000000 := fun u hu => HA.out u (List.mem_of_mem_take hu)
      have hin := yesR_in (acc (bl0 c) (ss.take k)) hall
      have hto := total_in hall
      have hl : ((us.take k).length : Int) ≤ 20000 := by
        have := List.length_take_le k us
        omega
      have t0 := hin.1
      have t1 : yesR (us.take k) (acc (bl0 c) (ss.take k)) ≤ 20000000000000 := by omega
      clear hall hin hto hl
      by_cases hlt : k < m
      · obtain ⟨b, off, rfl, hcell⟩ := (hc.keep hB) (by rw [HN.out]; omega)
        obtain ⟨b2, off2, e2, hcell'⟩ := (hc'.keep hB) (by rw [HM.out]; omega)
        injection e2 with e2
        injection e2 with e3 e4 _
        subst e3 e4
        obtain ⟨s, hs⟩ := at_ ss k (by rw [HN.out]; exact hlt)
        obtain ⟨u, hu⟩ := at_ us k (by rw [HM.out]; exact hlt)
        obtain ⟨a0, a1⟩ := hcell k s hs
        have d0 := hcell' k u hu
        obtain ⟨u0, u1⟩ := HA.out u (mem_of_at hu)
        have hsk := okS_in (HK.out k s hs).1
        have hll : (acc (bl0 c) (ss.take k)).length = k := by rw [acc_length, List.length_take, HN.out]; omega
        have HL := Lib.hid hll
        have HT := Lib.hid (show acc (bl0 c) (ss.take (k + 1)) = acc (bl0 c) (ss.take k) ++ [bl0 c (acc (bl0 c) (ss.take k)) s] from by rw [take_snoc hs, acc_snoc])
        have HY := Lib.hid (show yesR (us.take (k + 1)) (acc (bl0 c) (ss.take (k + 1))) = yesR (us.take k) (acc (bl0 c) (ss.take k)) + if bl0 c (acc (bl0 c) (ss.take k)) s = true then u else 0 from by
          rw [HT.out, take_snoc hu, yesR_snoc _ _ (by rw [List.length_take, HM.out, HL.out]; omega)])
        have hb0 := bl0_gt (i := c) (l := acc (bl0 c) (ss.take k)) (s := s) (by rw [HL.out]; omega)
        have HB := Lib.hid hb0
        clear hb0 hcell hcell' hs hu hll
        obtain ⟨p, o⟩ := s
        dsimp only at a0 a1 hsk HB HY HT
        have l1 : wr.cell? ⟨w1.heap.size, k, none⟩ = some (.bool false) := hrow.booAt (by have := arrB_last (n := m) (l := acc (bl0 c) (ss.take k)) (by rw [HL.out]; exact hlt); rwa [HL.out] at this)
        have l2 := hrow.frozen k
        by_cases hp : 0 ≤ p
        · obtain ⟨q, rfl⟩ := Int.eq_ofNat_of_zero_le hp
          obtain ⟨y, hy⟩ := at_ (acc (bl0 c) (ss.take k)) q (by rw [HL.out]; omega)
          have l0 : wr.cell? ⟨w1.heap.size, q, none⟩ = some (.bool y) := hrow.booAt (arrB_at hy)
          have HBY := Lib.hid (show bl0 c (acc (bl0 c) (ss.take k)) ((q : Int), o) = y from by
            rw [HB.out, decide_eq_true hp, Int.toNat_natCast, List.getD_eq_getElem?_getD, hy]; rfl)
          have hq : q < k := by omega
          clear hy
          cases y
          · have HR := Lib.hid (show arrB (acc (bl0 c) (ss.take k)) m = arrB (acc (bl0 c) (ss.take (k + 1))) m from by rw [HT.out, HBY.out]; exact arrB_no (by rw [HL.out]; exact hlt))
            go_wp2
            go_roundw
            case rel => exact ⟨k + 1, by omega, by omega, by go_num, by rw [HY.out, HBY.out]; simp, by rw [← HR.out]; exact hrow, hB⟩
            case measure => simp [intOf]; omega
          · have HR := Lib.hid (show (arrB (acc (bl0 c) (ss.take k)) m).set k true = arrB (acc (bl0 c) (ss.take (k + 1))) m from by rw [HT.out, HBY.out, ← arrB_set (by rw [HL.out]; exact hlt), HL.out])
            have d0' : (wr.setCell ⟨w1.heap.size, k, none⟩ (.bool true)).cell? ⟨b', off' + k, none⟩ = some (.int .i64 u) :=
              (World.cell?_setCell_other wr ⟨w1.heap.size, k, none⟩ ⟨b', off' + k, none⟩ _ (fun e => by
                have hbb := World.block_lt_of_cell? w1 _ cu
                injection e
                dsimp only at hbb
                omega)).trans d0
            go_wp2
            go_roundw
            case rel => exact ⟨k + 1, by omega, by omega, by go_num, by rw [HY.out, HBY.out]; simp, by rw [← HR.out, ← bcs_set]; exact hrow.set _ _, by go_grown⟩
            case measure => simp [intOf]; omega
        · have HBY := Lib.hid (show bl0 c (acc (bl0 c) (ss.take k)) (p, o) = false from by rw [HB.out, decide_eq_false hp]; rfl)
          have HR := Lib.hid (show arrB (acc (bl0 c) (ss.take k)) m = arrB (acc (bl0 c) (ss.take (k + 1))) m from by rw [HT.out, HBY.out]; exact arrB_no (by rw [HL.out]; exact hlt))
          have hp' : p < 0 := by omega
          clear hp
          go_wp2
          go_roundw
          case rel => exact ⟨k + 1, by omega, by omega, by omega, by rw [HY.out, HBY.out]; simp, by rw [← HR.out]; exact hrow⟩
          case measure => simp [intOf]; omega
      · obtain rfl : k = m := by omega
        have HE := Lib.hid (show hO ss us c = yesR (us.take k) (acc (bl0 c) (ss.take k)) from by
          rw [HF.out, List.take_of_length_le (by rw [HM.out]; exact Nat.le_refl _), List.take_of_length_le (by rw [HN.out]; exact Nat.le_refl _)])
        go_wp2
        go_ret
        exact ⟨ret_int HE.out.symm, hb.trans (hB.mono hS1)⟩
theorem held_is {A : Option Addr} {n cap : Nat} {ss : List (Int × Int)} {A' : Option Addr} {m cap' : Nat} {us : List Int} {i x : Int} (w : World) (hn : ss.length = n) (hc : Prs w A ss) (hbig : n ≤ 1000000) (hm : us.length = m) (hc' : Ints w A' us) (hbig' : m ≤ 9223372036854775807) (h : hO ss us i = x) :
    Calls Try.prog 25 #[.slice A n cap, .slice A' m cap', .int .i64 i] w fun e w' => e = .returned (.int .i64 x) ∧ Below w.heap.size w w' := by
  have hh := held_any A n cap ss A' m cap' us i w hn hc hbig hm hc' hbig'
  rw [h] at hh
  exact hh
end Go.Proofs.Ytpekedhcnijgcaa.Book
