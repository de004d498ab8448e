/- Package entitle: the contract of Through. -/
import Derived.Test.YtpekedhcnijgcaaEntB
namespace Go.Proofs.Ytpekedhcnijgcaa.Book
open Go.ChangeShapes Go.WideShapes Go.ChangeAt Go.RowKit Go.Proofs.Ytpekedhcnijgcaa.Cell
set_option linter.unusedVariables false
set_option linter.unusedSimpArgs false

/-- what goes through those that are marked -/
def thr (bs : List Bool) (L : List (Int × Int)) : Int := total (L.map fun p => if lfB bs p.1 = true then p.2 else 0)
theorem thr_snoc (bs : List Bool) (L : List (Int × Int)) (p : Int × Int) : thr bs (L ++ [p]) = thr bs L + if lfB bs p.1 = true then p.2 else 0 := by
  unfold thr
  rw [List.map_append, List.map_cons, List.map_nil, total_snoc]
def thO (ss : List (Int × Int)) (L : List (Int × Int)) (i : Int) : Int := if 0 ≤ i ∧ i < ss.length ∧ rg ss = true then thr (acc (bl0 i.toNat) ss) L else 0
/-- shares that are not too great -/
def Sml (L : List (Int × Int)) : Prop := L.length ≤ 1000 ∧ ∀ p ∈ L, -1000000000000000 ≤ p.2 ∧ p.2 ≤ 1000000000000000
theorem thr_in {L : List (Int × Int)} (h : Sml L) (bs : List Bool) : ∀ k : Nat, k ≤ L.length → -(1000000000000000 * (k : Int)) ≤ thr bs (L.take k) ∧ thr bs (L.take k) ≤ 1000000000000000 * (k : Int)
  | 0, _ => by simp [thr, total]
  | k + 1, hk => by
    obtain ⟨p, hp⟩ := at_ L k (by omega)
    have ih := thr_in h bs k (by omega)
    have hb := h.2 p (mem_of_at hp)
    rw [take_snoc hp, thr_snoc]
    split <;> omega

set_option maxRecDepth 100000 in
set_option maxHeartbeats 8000000 in
theorem thro_any (A : Option Addr) (n cap : Nat) (ss : List (Int × Int)) (A' : Option Addr) (m cap' : Nat) (L : List (Int × Int)) (i x : Int) (w : World) (hn : ss.length = n) (hc : Prs w A ss) (hbig : n ≤ 1000000) (hm : L.length = m) (hc' : Prs w A' L) (hL : Sml L) (hx : thO ss L i = x) :
    Calls Try.prog 34 #[.slice A n cap, .slice A' m cap', .int .i64 i] w fun e w' => e = .returned (.int .i64 x) ∧ Below w.heap.size w w' := by
  have HN := Lib.hid hn
  have HM := Lib.hid hm
  have HSM := Lib.hid hL
  have hbm : m ≤ 1000 := by have := hL.1; omega
  clear hn hm hL
  by_cases hi : 0 ≤ i ∧ i < n
  case neg =>
    have HF := Lib.hid (show x = 0 from by rw [← hx]; exact if_neg (by rw [HN.out]; omega))
    rcases (show i < 0 ∨ (0 ≤ i ∧ (n : Int) ≤ i) from by omega) with h1 | ⟨h1, h2⟩
    all_goals
      clear hi hx
      go_enter Try.func34, Try.ntmps34
      go_wp2
      go_ret
      exact ⟨ret_int HF.out.symm, by go_grown⟩
  obtain ⟨i0, i1⟩ := hi
  cases hv : rg ss
  · have HF := Lib.hid (show x = 0 from by rw [← hx]; exact if_neg (fun h => by rw [hv] at h; cases h.2.2))
    have HV := Lib.hid hv
    clear hx hv
    go_enter Try.func34, Try.ntmps34
    go_wp2_with (fail)
    go_must (refine (right_is _ HN.out hc (by omega) HV.out).mono ?_)
    rintro e w1 ⟨rfl, hb⟩
    go_wp2
    go_ret
    exact ⟨ret_int HF.out.symm, hb⟩
  · obtain ⟨c, rfl⟩ := Int.eq_ofNat_of_zero_le i0
    have HF := Lib.hid (show thr (acc (bl0 c) ss) L = x from by rw [← hx]; exact (if_pos ⟨i0, by rw [HN.out]; exact i1, hv⟩).symm)
    have HV := Lib.hid hv
    have hle := (rg_ok hv).1
    rw [HN.out] at hle
    have HK := Lib.hid (okF_iff ss |>.1 (rg_ok hv).2)
    clear hv hx
    obtain ⟨x0, hx0, hz0, hz1, hz2⟩ := info_parts info4
    have hmk : ∀ W : World, (Instr.makeSlice 64 (.int .i64 n) (.int .i64 n)).run Try.prog W = .ok (.slice (some ⟨W.heap.size, 0, none⟩) n n) (W.alloc (.cells (bcs (List.replicate n false)) 4)) := fun W => by
      have hr := run_make (P := Try.prog) W 64 4 x0 (.bool false) Try.underlying64 hx0 hz0 .i64 .i64 n n (by omega) (Int.le_refl _) (by rw [hz2]; omega) (by omega)
      rw [hz1, Int.toNat_natCast, made_bools] at hr
      exact hr
    clear hx0 hz0 hz1 hz2
    obtain ⟨s, hs⟩ := at_ ss c (by rw [HN.out]; omega)
    have HST := Lib.hid (bl_self hs)
    clear hs
    go_enter Try.func34, Try.ntmps34
    go_wp2_with (fail)
    go_must (refine (right_is _ HN.out hc (by omega) HV.out).mono ?_)
    rintro e w1 ⟨rfl, hb⟩
    replace hc := hc.keep hb
    replace hc' := hc'.keep hb
    have hS1 : w.heap.size ≤ w1.heap.size := hb.size
    have hr0 : Row (w1.alloc (.cells (bcs (List.replicate n false)) 4)) w1.heap.size 4 (bcs (List.replicate n false)) := Row.new _ _ _
    have y0 : (w1.alloc (.cells (bcs (List.replicate n false)) 4)).cell? ⟨w1.heap.size, c, none⟩ = some (.bool false) := hr0.booAt (by rw [List.getElem?_replicate, if_pos (by omega)])
    have y1 := hr0.frozen c
    have HE1 := Lib.hid (show (bcs (List.replicate n false)).setIfInBounds c (.bool true) = bcs (arrB (acc (bl0 c) (ss.take (c + 1))) n) from by
      rw [HST.out, ← arrB_set (l := List.replicate c false) (by simp; omega), arrB_rep (by omega), List.length_replicate, ← bcs_set])
    have c0 : (0 : Int) ≤ (c : Int) := by omega
    clear hr0
    go_wp2
    clear hmk
    go_loopw [8] (fun iv wr => ∃ k : Nat, c + 1 ≤ k ∧ k ≤ n ∧ iv = .int .i64 k ∧ Row wr w1.heap.size 4 (bcs (arrB (acc (bl0 c) (ss.take k)) n)) ∧ Below w1.heap.size w1 wr) (fun iv _ => n - (intOf iv).toNat)
    case atStart => exact ⟨c + 1, Nat.le_refl _, by omega, by go_num, by rw [← HE1.out]; exact Row.new _ _ _, by go_grown⟩
    case round =>
      obtain ⟨k, hk0, hk, rfl, hrow, hB⟩ := hrel
      have hS : w1.heap.size < wr.heap.size := hrow.lt
      by_cases hlt : k < n
      · obtain ⟨b, off, rfl, hcell⟩ := (hc.keep hB) (by rw [HN.out]; omega)
        obtain ⟨s, hs⟩ := at_ ss k (by rw [HN.out]; exact hlt)
        obtain ⟨a0, a1⟩ := hcell k s hs
        have hsk := okS_in (HK.out k s hs).1
        have hll : (acc (bl0 c) (ss.take k)).length = k := by rw [acc_length, List.length_take, HN.out]; omega
        have HL := Lib.hid hll
        have HT := Lib.hid (show acc (bl0 c) (ss.take (k + 1)) = acc (bl0 c) (ss.take k) ++ [bl0 c (acc (bl0 c) (ss.take k)) s] from by rw [take_snoc hs, acc_snoc])
        have HB := Lib.hid (bl0_gt (i := c) (l := acc (bl0 c) (ss.take k)) (s := s) (by rw [HL.out]; omega))
        clear hcell hs hll
        obtain ⟨p, o⟩ := s
        dsimp only at a0 a1 hsk HB HT
        have l1 : wr.cell? ⟨w1.heap.size, k, none⟩ = some (.bool false) := hrow.booAt (by have := arrB_last (n := n) (l := acc (bl0 c) (ss.take k)) (by rw [HL.out]; exact hlt); rwa [HL.out] at this)
        have l2 := hrow.frozen k
        by_cases hp : 0 ≤ p
        · obtain ⟨q, rfl⟩ := Int.eq_ofNat_of_zero_le hp
          obtain ⟨y, hy⟩ := at_ (acc (bl0 c) (ss.take k)) q (by rw [HL.out]; omega)
          have l0 : wr.cell? ⟨w1.heap.size, q, none⟩ = some (.bool y) := hrow.booAt (arrB_at hy)
          have HBY := Lib.hid (show bl0 c (acc (bl0 c) (ss.take k)) ((q : Int), o) = y from by
            rw [HB.out, decide_eq_true hp, Int.toNat_natCast, List.getD_eq_getElem?_getD, hy]; rfl)
          have hq : q < k := by omega
          have HR := Lib.hid (show (arrB (acc (bl0 c) (ss.take k)) n).set k y = arrB (acc (bl0 c) (ss.take (k + 1))) n from by rw [HT.out, HBY.out, ← arrB_set (by rw [HL.out]; exact hlt), HL.out])
          have HROW := Lib.hid hrow
          clear hy hrow
          go_wp2
          go_roundw
          case rel => exact ⟨k + 1, by omega, by omega, by go_num, by rw [← HR.out, ← bcs_set]; exact HROW.out.set _ _, by go_grown⟩
          case measure => simp [intOf]; omega
        · have HBY := Lib.hid (show bl0 c (acc (bl0 c) (ss.take k)) (p, o) = false from by rw [HB.out, decide_eq_false hp]; rfl)
          have HR := Lib.hid (show (arrB (acc (bl0 c) (ss.take k)) n).set k false = arrB (acc (bl0 c) (ss.take (k + 1))) n from by rw [HT.out, HBY.out, ← arrB_set (by rw [HL.out]; exact hlt), HL.out])
          have HROW := Lib.hid hrow
          have hp' : p < 0 := by omega
          clear hp hrow
          go_wp2
          go_roundw
          case rel => exact ⟨k + 1, by omega, by omega, by go_num, by rw [← HR.out, ← bcs_set]; exact HROW.out.set _ _, by go_grown⟩
          case measure => simp [intOf]; omega
      · obtain rfl : k = n := by omega
        obtain ⟨bs, hbs⟩ : ∃ bs, acc (bl0 c) ss = bs := ⟨_, rfl⟩
        have hbl : bs.length = k := by rw [← hbs, acc_length, HN.out]
        have hrow' : Row wr w1.heap.size 4 (bcs bs) := by
          have := hrow
          rw [List.take_of_length_le (by rw [HN.out]; exact Nat.le_refl _), hbs] at this
          rwa [show arrB bs k = bs by unfold arrB; rw [hbl]; simp] at this
        have HBS := Lib.hid hbs
        have HBL := Lib.hid hbl
        have HRW := Lib.hid hrow'
        have HB := Lib.hid hB
        obtain ⟨wo, hwo⟩ : ∃ wo : World, wo = wr := ⟨_, rfl⟩
        rw [← hwo] at HRW HB
        clear hrow hrow' hbs hbl hlt hk0
        go_wp2
        rw [← hwo]
        clear hwo hB
        have hgo : w1.heap.size < wo.heap.size := HRW.out.lt
        have hc2 := hc'.keep HB.out
        go_loopw [9, 60] (fun sv iv wr => ∃ j : Nat, j ≤ m ∧ iv = .int .i64 j ∧ sv = .int .i64 (thr bs (L.take j)) ∧ Below wo.heap.size wo wr) (fun _ iv _ => m - (intOf iv).toNat)
        case atStart => exact ⟨0, Nat.zero_le _, rfl, rfl, Below.refl _ _⟩
        case round =>
          obtain ⟨j, hj, rfl, rfl, hW⟩ := hrel
          have hS : wo.heap.size ≤ wr.heap.size := hW.size
          have t01 := thr_in HSM.out bs j (by rw [HM.out]; exact hj)
          obtain ⟨T, hT⟩ : ∃ T, thr bs (L.take j) = T := ⟨_, rfl⟩
          rw [hT] at t01 ⊢
          obtain ⟨t0, t1⟩ := t01
          have HT := Lib.hid hT
          have jb : (j : Int) ≤ 1000 := by omega
          clear hT
          by_cases hlt : j < m
          · obtain ⟨b, off, rfl, hcell⟩ := (hc2.keep hW) (by rw [HM.out]; omega)
            obtain ⟨p, hp⟩ := at_ L j (by rw [HM.out]; exact hlt)
            obtain ⟨a0, a1⟩ := hcell j p hp
            have pb := HSM.out.2 p (mem_of_at hp)
            obtain ⟨pb0, pb1⟩ := pb
            have HSN := Lib.hid (show thr bs (L.take (j + 1)) = T + if lfB bs p.1 = true then p.2 else 0 from by rw [take_snoc hp, thr_snoc, HT.out])
            clear hcell hp
            obtain ⟨ps, pa⟩ := p
            dsimp only at a0 a1 pb0 pb1 HSN
            by_cases hps : 0 ≤ ps ∧ ps < k
            · obtain ⟨p0, p1⟩ := hps
              obtain ⟨q, rfl⟩ := Int.eq_ofNat_of_zero_le p0
              obtain ⟨y, hy⟩ := at_ bs q (by rw [HBL.out]; omega)
              have l0 : (wr.alloc (.cells #[.int .i64 (q : Int), .int .i64 pa] 54)).cell? ⟨w1.heap.size, q, none⟩ = some (.bool y) := Gen.al ((HRW.out.keep hW).booAt hy)
              have HY := Lib.hid (show lfB bs (q : Int) = y from by
                unfold lfB
                rw [decide_eq_true (by rw [HBL.out]; omega), Int.toNat_natCast, List.getD_eq_getElem?_getD, hy]; rfl)
              clear hy
              cases y
              · have HSE := Lib.hid (show thr bs (L.take (j + 1)) = T from by rw [HSN.out, HY.out]; simp)
                go_wp2
                go_roundw
                case rel => exact ⟨j + 1, by omega, by go_num, by rw [HSE.out], by go_grown⟩
                case measure => simp [intOf]; omega
              · have HSE := Lib.hid (show thr bs (L.take (j + 1)) = T + pa from by rw [HSN.out, HY.out]; simp)
                go_wp2
                go_roundw
                case rel => exact ⟨j + 1, by omega, by go_num, by rw [HSE.out], by go_grown⟩
                case measure => simp [intOf]; omega
            · have HSE := Lib.hid (show thr bs (L.take (j + 1)) = T from by
                rw [HSN.out, show lfB bs ps = false from by unfold lfB; rw [decide_eq_false (by rw [HBL.out]; exact hps)]; rfl]; simp)
              rcases (show ps < 0 ∨ (0 ≤ ps ∧ (k : Int) ≤ ps) from by omega) with h1 | ⟨h1, h2⟩
              all_goals
                clear hps
                go_wp2
                go_roundw
                case rel => first | exact ⟨j + 1, by omega, by go_num, by rw [HSE.out], by go_grown⟩ | exact ⟨.int .i64 T, _, .int .i64 ((j : Int) + 1), ⟨j + 1, by omega, by go_num, by rw [HSE.out], by go_grown⟩, rfl, rfl, rfl⟩ | exact ⟨.int .i64 T, .int .i64 ((j : Int) + 1), _, ⟨j + 1, by omega, by go_num, by rw [HSE.out], by go_grown⟩, rfl, rfl, rfl⟩
                case measure => simp [intOf]; omega
          · obtain rfl : j = m := by omega
            have HE := Lib.hid (show T = x from by
              rw [← HT.out, List.take_of_length_le (by rw [HM.out]; exact Nat.le_refl _), ← HBS.out]
              exact HF.out)
            have hbw := Gen.over hW (Gen.over HB.out hb)
            go_wp2
            go_ret
            exact ⟨ret_int HE.out, hbw⟩
end Go.Proofs.Ytpekedhcnijgcaa.Book
