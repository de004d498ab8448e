/- Package book: the contracts of leaf, Leaf, valid. -/
import Derived.Test.YtpekedhcnijgcaaBookA
namespace Go.Proofs.Ytpekedhcnijgcaa.Book
open Go.ChangeShapes Go.WideShapes Go.ChangeAt Go.RowKit Go.Proofs.Ytpekedhcnijgcaa.Cell
set_option linter.unusedVariables false
set_option linter.unusedSimpArgs false

set_option maxHeartbeats 400000 in
theorem f33 (p o i : Int) (g : Nat) (w : World) (hc : w.cell? ⟨g, 0, none⟩ = some (.int .i64 i)) :
    Calls Try.prog 73 #[.agg #[.int .i64 p, .int .i64 o], .pointer (some ⟨g, 0, none⟩)] w fun e w' => e = .returned (.bool (p == i)) ∧ Below w.heap.size w w' := by
  have hc' := Gen.al (o := .cells #[.int .i64 p, .int .i64 o] 57) hc
  go_enter Try.func73, Try.ntmps73
  go_wp2
  go_ret
  exact ⟨rfl, by go_grown⟩
theorem f33_is {p o i : Int} {g : Nat} {b : Bool} (w : World) (hc : w.cell? ⟨g, 0, none⟩ = some (.int .i64 i)) (h : (p == i) = b) :
    Calls Try.prog 73 #[.agg #[.int .i64 p, .int .i64 o], .pointer (some ⟨g, 0, none⟩)] w fun e w' => e = .returned (.bool b) ∧ Below w.heap.size w w' := by
  have hh := f33 p o i g w hc
  rw [h] at hh
  exact hh
def anyP (ss : List (Int × Int)) (i : Int) : Bool := ss.any fun s => s.1 == i
theorem any_snoc (ss : List (Int × Int)) (s : Int × Int) (i : Int) : anyP (ss ++ [s]) i = (anyP ss i || s.1 == i) := by simp [anyP]
theorem any_of {ss : List (Int × Int)} {k : Nat} {s : Int × Int} {i : Int} (h : ss[k]? = some s) (he : (s.1 == i) = true) : anyP ss i = true := by
  unfold anyP
  rw [List.any_eq_true]
  exact ⟨s, mem_of_at h, he⟩
def IdxPost (ss : List (Int × Int)) (i : Int) (w : World) (e : Ending) (w' : World) : Prop := ∃ r : Int, -1 ≤ r ∧ r ≤ 1000000 ∧ e = .returned (.int .i64 r) ∧ (anyP ss i = decide (0 ≤ r)) ∧ Below w.heap.size w w'

set_option maxHeartbeats 2000000 in
theorem idx_any (A : Option Addr) (n cap : Nat) (ss : List (Int × Int)) (i : Int) (g : Nat) (w : World) (hn : ss.length = n) (hc : Prs w A ss) (hg : w.cell? ⟨g, 0, none⟩ = some (.int .i64 i)) (hbig : n ≤ 1000000) :
    Calls Try.prog 75 #[.slice A n cap, .func (Fn.func 73) #[] #[.pointer (some ⟨g, 0, none⟩)]] w (IdxPost ss i w) := by
  have HN := Lib.hid hn
  have HG := Lib.hid hg
  clear hn hg
  go_enter Try.func75, Try.ntmps75
  go_wp2
  go_loopw [8] (fun iv wr => ∃ k : Nat, k ≤ n ∧ iv = .int .i64 k ∧ anyP (ss.take k) i = false ∧ Below w.heap.size w wr) (fun iv _ => n - (intOf iv).toNat)
  case atStart => exact ⟨0, Nat.zero_le _, rfl, by simp [anyP], Below.refl _ _⟩
  case round =>
    obtain ⟨k, hk, rfl, ha, hB⟩ := hrel
    have HA := Lib.hid ha
    have hS : w.heap.size ≤ wr.heap.size := hB.size
    clear ha
    by_cases hlt : k < n
    · obtain ⟨b, off, rfl, hcell⟩ := (hc.keep hB) (by rw [HN.out]; omega)
      obtain ⟨s, hs⟩ := at_ ss k (by rw [HN.out]; exact hlt)
      obtain ⟨c0, c1⟩ := hcell k s hs
      have HP := Lib.hid hs
      clear hcell hs hc
      obtain ⟨p, o⟩ := s
      dsimp only at c0 c1
      cases ho : p == i
      · have HF := Lib.hid (show anyP (ss.take (k + 1)) i = false from by rw [take_snoc HP.out, any_snoc, HA.out, ho]; rfl)
        have HO := Lib.hid ho
        clear ho
        go_wp2_with (fail)
        go_must (refine (f33_is _ (Gen.keep hB HG.out) HO.out).mono ?_)
        rintro e w1 ⟨rfl, hb⟩
        have hB1 := Gen.over hb hB
        clear hb hB
        go_wp2
        go_roundw
        case rel => exact ⟨k + 1, by omega, by go_num, HF.out, hB1⟩
        case measure => simp [intOf]; omega
      · have HF := Lib.hid (any_of (i := i) HP.out ho)
        have HO := Lib.hid ho
        clear ho
        go_wp2_with (fail)
        go_must (refine (f33_is _ (Gen.keep hB HG.out) HO.out).mono ?_)
        rintro e w1 ⟨rfl, hb⟩
        have hB1 := Gen.over hb hB
        clear hb hB
        go_wp2
        go_ret
        exact ⟨k, by omega, by omega, rfl, by rw [HF.out, decide_eq_true (by omega)], hB1⟩
    · obtain rfl : k = n := by omega
      have HF := Lib.hid (show anyP ss i = false from by
        have := HA.out
        rwa [List.take_of_length_le (by rw [HN.out]; exact Nat.le_refl _)] at this)
      go_wp2
      go_ret
      exact ⟨-1, by omega, by omega, rfl, by rw [HF.out]; rfl, hB⟩

set_option maxHeartbeats 1000000 in
theorem cont_any (A : Option Addr) (n cap : Nat) (ss : List (Int × Int)) (i : Int) (g : Nat) (w : World) (hn : ss.length = n) (hc : Prs w A ss) (hg : w.cell? ⟨g, 0, none⟩ = some (.int .i64 i)) (hbig : n ≤ 1000000) :
    Calls Try.prog 72 #[.slice A n cap, .func (Fn.func 73) #[] #[.pointer (some ⟨g, 0, none⟩)]] w fun e w' => e = .returned (.bool (anyP ss i)) ∧ Below w.heap.size w w' := by
  go_enter Try.func72, Try.ntmps72
  go_wp2_with (fail)
  go_must (refine (idx_any _ _ _ ss i _ _ hn hc hg hbig).mono ?_)
  rintro e w1 ⟨r, r0, r1, rfl, hr, hb⟩
  have HR := Lib.hid hr
  clear hr hg hn
  go_wp2
  go_ret
  exact ⟨ret_bool (by rw [HR.out]), hb⟩
theorem cont_is {A : Option Addr} {n cap : Nat} {ss : List (Int × Int)} {i : Int} {g : Nat} {b : Bool} (w : World) (hn : ss.length = n) (hc : Prs w A ss) (hg : w.cell? ⟨g, 0, none⟩ = some (.int .i64 i)) (hbig : n ≤ 1000000) (h : anyP ss i = b) :
    Calls Try.prog 72 #[.slice A n cap, .func (Fn.func 73) #[] #[.pointer (some ⟨g, 0, none⟩)]] w fun e w' => e = .returned (.bool b) ∧ Below w.heap.size w w' := by
  have hh := cont_any A n cap ss i g w hn hc hg hbig
  rw [h] at hh
  exact hh

set_option maxHeartbeats 2000000 in
theorem leaf_any (A : Option Addr) (n cap : Nat) (ss : List (Int × Int)) (i : Int) (w : World) (hn : ss.length = n) (hc : Prs w A ss) (hbig : n ≤ 1000000) :
    Calls Try.prog 66 #[.slice A n cap, .int .i64 i] w fun e w' => e = .returned (.bool (lf ss i)) ∧ Below w.heap.size w w' := by
  have HN := Lib.hid hn
  clear hn
  by_cases h : 0 ≤ i ∧ i < n
  · cases hr : anyP ss i
    all_goals
      have HF := Lib.hid (show lf ss i = _ from by unfold lf; rw [HN.out, decide_eq_true h, ← anyP, hr])
      have HR := Lib.hid hr
      obtain ⟨h1, h2⟩ := h
      have hcc : (w.alloc (.cells #[.int .i64 i] 3)).cell? ⟨w.heap.size, 0, none⟩ = some (.int .i64 i) := by simp [go_sem]
      have HCC := Lib.hid hcc
      clear hr hcc
      go_enter Try.func66, Try.ntmps66
      go_wp2_with (fail)
      go_must (refine (cont_is _ HN.out (hc.keep (Gen.b_alloc (Below.refl _ _))) HCC.out hbig HR.out).mono ?_)
      rintro e w1 ⟨rfl, hb⟩
      have hB := Gen.over hb (Gen.b_alloc (Below.refl _ _))
      go_wp2
      go_ret
      exact ⟨ret_bool HF.out.symm, hB⟩
  · have HF := Lib.hid (show lf ss i = false from by unfold lf; rw [HN.out, decide_eq_false h]; rfl)
    rcases (show i < 0 ∨ (0 ≤ i ∧ (n : Int) ≤ i) from by omega) with h1 | ⟨h1, h2⟩
    all_goals
      clear h
      go_enter Try.func66, Try.ntmps66
      go_wp2
      go_ret
      exact ⟨ret_bool HF.out.symm, by go_grown⟩
theorem leaf_is {A : Option Addr} {n cap : Nat} {ss : List (Int × Int)} {i : Int} {b : Bool} (w : World) (hn : ss.length = n) (hc : Prs w A ss) (hbig : n ≤ 1000000) (h : lf ss i = b) :
    Calls Try.prog 66 #[.slice A n cap, .int .i64 i] w fun e w' => e = .returned (.bool b) ∧ Below w.heap.size w w' := by
  have hh := leaf_any A n cap ss i w hn hc hbig
  rw [h] at hh
  exact hh
def lfO (ss : List (Int × Int)) (i : Int) : Bool := rg ss && lf ss i
set_option maxHeartbeats 1000000 in
theorem bleaf_any (A : Option Addr) (n cap : Nat) (ss : List (Int × Int)) (i : Int) (w : World) (hn : ss.length = n) (hc : Prs w A ss) (hbig : n ≤ 1000000) :
    Calls Try.prog 36 #[.slice A n cap, .int .i64 i] w fun e w' => e = .returned (.bool (lfO ss i)) ∧ Below w.heap.size w w' := by
  cases hr : rg ss
  · have HF := Lib.hid (show lfO ss i = false from by unfold lfO; rw [hr]; rfl)
    go_enter Try.func36, Try.ntmps36
    go_wp2_with (fail)
    go_must (refine (right_is _ hn hc (by omega) hr).mono ?_)
    rintro e w1 ⟨rfl, hb⟩
    go_wp2
    go_ret
    exact ⟨ret_bool HF.out.symm, hb⟩
  · have HF := Lib.hid (show lfO ss i = lf ss i from by unfold lfO; rw [hr]; rfl)
    have HN := Lib.hid hn
    have HR := Lib.hid hr
    clear hn hr
    go_enter Try.func36, Try.ntmps36
    go_wp2_with (fail)
    go_must (refine (right_is _ HN.out hc (by omega) HR.out).mono ?_)
    rintro e w1 ⟨rfl, hb⟩
    go_wp2_with (fail)
    go_must (refine (leaf_any _ _ _ ss i _ HN.out (hc.keep hb) hbig).mono ?_)
    rintro e w2 ⟨rfl, hb2⟩
    have hB := Gen.over hb2 hb
    go_wp2
    go_ret
    exact ⟨ret_bool HF.out.symm, hB⟩
theorem bleaf_is {A : Option Addr} {n cap : Nat} {ss : List (Int × Int)} {i : Int} {b : Bool} (w : World) (hn : ss.length = n) (hc : Prs w A ss) (hbig : n ≤ 1000000) (h : lfO ss i = b) :
    Calls Try.prog 36 #[.slice A n cap, .int .i64 i] w fun e w' => e = .returned (.bool b) ∧ Below w.heap.size w w' := by
  have hh := bleaf_any A n cap ss i w hn hc hbig
  rw [h] at hh
  exact hh

/-- units that are right at a place -/
def okU (ss : List (Int × Int)) (us : List Int) (k : Nat) : Bool := match us[k]?, ss[k]? with
  | some u, some s => decide (0 ≤ u ∧ u ≤ 1000000000) && (decide (s.1 < 0) || decide (us.getD s.1.toNat 0 = 0))
  | _, _ => true
def vd (ss : List (Int × Int)) (us : List Int) : Bool := rg ss && decide (us.length = ss.length) && (List.range us.length).all (okU ss us) && decide (total us ≤ 1000000000)
theorem okU_at {ss : List (Int × Int)} {us : List Int} {k : Nat} {u : Int} {s : Int × Int} (hu : us[k]? = some u) (hs : ss[k]? = some s) : okU ss us k = (decide (0 ≤ u ∧ u ≤ 1000000000) && (decide (s.1 < 0) || decide (us.getD s.1.toNat 0 = 0))) := by
  unfold okU
  rw [hu, hs]
theorem vd_no {ss : List (Int × Int)} {us : List Int} (h : rg ss = false ∨ us.length ≠ ss.length ∨ ∃ k, k < us.length ∧ okU ss us k = false) : vd ss us = false := by
  unfold vd
  rcases h with h | h | ⟨k, hk, h⟩
  · rw [h]; simp
  · rw [decide_eq_false h]; simp
  · have : (List.range us.length).all (okU ss us) = false := by
      rw [List.all_eq_false]
      exact ⟨k, List.mem_range.2 hk, by simp [h]⟩
    rw [this]; simp
theorem vd_yes {ss : List (Int × Int)} {us : List Int} (h : rg ss = true) (h1 : us.length = ss.length) (h2 : ∀ k, k < us.length → okU ss us k = true) : vd ss us = decide (total us ≤ 1000000000) := by
  unfold vd
  rw [h, decide_eq_true h1, List.all_eq_true.2 fun k hk => h2 k (List.mem_range.1 hk)]; simp
theorem vd_in {ss : List (Int × Int)} {us : List Int} (h : vd ss us = true) : rg ss = true ∧ us.length = ss.length ∧ (∀ k, k < us.length → okU ss us k = true) ∧ total us ≤ 1000000000 := by
  unfold vd at h
  simp only [Bool.and_eq_true, decide_eq_true_eq] at h
  exact ⟨h.1.1.1, h.1.1.2, fun k hk => List.all_eq_true.1 h.1.2 k (List.mem_range.2 hk), h.2⟩
theorem total_in {us : List Int} (h : ∀ u ∈ us, 0 ≤ u ∧ u ≤ 1000000000) : 0 ≤ total us ∧ total us ≤ us.length * 1000000000 := by
  have key : ∀ k, k ≤ us.length → 0 ≤ total (us.take k) ∧ total (us.take k) ≤ k * 1000000000 := by
    intro k
    induction k with
    | zero => intro _; simp [total]
    | succ k ih =>
      intro hk
      obtain ⟨z, hz⟩ := at_ us k (by omega)
      have b := h z (mem_of_at hz)
      have i := ih (by omega)
      rw [take_snoc hz, total_snoc]
      omega
  have := key us.length (Nat.le_refl _)
  rwa [List.take_length] at this

set_option maxRecDepth 100000 in
set_option maxHeartbeats 4000000 in
theorem valid_any (A : Option Addr) (n cap : Nat) (ss : List (Int × Int)) (A' : Option Addr) (m cap' : Nat) (us : List Int) (w : World) (hn : ss.length = n) (hc : Prs w A ss) (hbig : n ≤ 1000000) (hm : us.length = m) (hc' : Ints w A' us) (hbig' : m ≤ 9223372036854775807) :
    Calls Try.prog 58 #[.slice A n cap, .slice A' m cap'] w fun e w' => e = .returned (.bool (vd ss us)) ∧ Below w.heap.size w w' := by
  have HN := Lib.hid hn
  have HM := Lib.hid hm
  clear hn hm
  cases hr : rg ss
  · have HF := Lib.hid (vd_no (us := us) (.inl hr))
    go_enter Try.func58, Try.ntmps58
    go_wp2_with (fail)
    go_must (refine (right_is _ HN.out hc (by omega) hr).mono ?_)
    rintro e w1 ⟨rfl, hb⟩
    go_wp2
    go_ret
    exact ⟨ret_bool HF.out.symm, hb⟩
  · have HR := Lib.hid hr
    clear hr
    by_cases hmn : m = n
    case neg =>
      have HF := Lib.hid (vd_no (ss := ss) (us := us) (.inr (.inl (by rw [HM.out, HN.out]; exact hmn))))
      have hb' : ((m : Int) != (n : Int)) = true := by rw [bne_iff_ne]; omega
      clear hmn
      go_enter Try.func58, Try.ntmps58
      go_wp2_with (fail)
      go_must (refine (right_is _ HN.out hc (by omega) HR.out).mono ?_)
      rintro e w1 ⟨rfl, hb⟩
      go_wp2
      go_ret
      exact ⟨ret_bool HF.out.symm, hb⟩
    subst hmn
    have hle := (rg_ok HR.out).1
    rw [HN.out] at hle
    go_enter Try.func58, Try.ntmps58
    go_wp2_with (fail)
    go_must (refine (right_is _ HN.out hc (by omega) HR.out).mono ?_)
    rintro e w1 ⟨rfl, hb⟩
    replace hc := hc.keep hb
    replace hc' := hc'.keep hb
    go_wp2_with (fail)
    go_loop [5, 21] (fun sv iv => ∃ k : Nat, k ≤ m ∧ iv = .int .i64 k ∧ sv = .int .i64 (total (us.take k)) ∧ ∀ j, j < k → okU ss us j = true) (fun _ iv => m - (intOf iv).toNat)
    case atStart => exact ⟨0, Nat.zero_le _, rfl, by simp [total], fun j hj => absurd hj (by omega)⟩
    case round =>
      obtain ⟨k, hk, rfl, rfl, ha⟩ := hrel
      have hin := total_in (us := us.take k) fun u hu => by
        obtain ⟨j, hj⟩ := List.getElem?_of_mem hu
        have hjk : j < k := by have := lt_of_at hj; rw [List.length_take] at this; omega
        rw [List.getElem?_take_of_lt hjk] at hj
        obtain ⟨s, hs⟩ := at_ ss j (by rw [HN.out]; omega)
        have := ha j hjk
        rw [okU_at hj hs, Bool.and_eq_true] at this
        exact of_decide_eq_true this.1
      have hl : ((us.take k).length : Int) ≤ 20000 := by
        have := List.length_take_le k us
        omega
      have t0 := hin.1
      have t1 : total (us.take k) ≤ 20000000000000 := by omega
      have HA := Lib.hid ha
      clear ha hin hl
      by_cases hlt : k < m
      · obtain ⟨b, off, rfl, hcell⟩ := hc (by rw [HN.out]; omega)
        obtain ⟨b', off', rfl, hcell'⟩ := hc' (by rw [HM.out]; omega)
        obtain ⟨s, hs⟩ := at_ ss k (by rw [HN.out]; exact hlt)
        obtain ⟨u, hu⟩ := at_ us k (by rw [HM.out]; exact hlt)
        obtain ⟨c0, c1⟩ := hcell k s hs
        have d0 := hcell' k u hu
        have HU := Lib.hid hu
        have HO := Lib.hid (okU_at hu hs)
        have hsk := okS_in ((okF_iff ss).1 (rg_ok HR.out).2 k s hs).1
        have HC := Lib.hid hcell'
        clear hcell hcell' hs hu hc hc'
        obtain ⟨p, o⟩ := s
        dsimp only at c0 c1 hsk HO
        have hno : ∀ x : Bool, x = false → okU ss us k = x → vd ss us = false := fun x hx h => vd_no (.inr (.inr ⟨k, by rw [HM.out]; exact hlt, by rw [h, hx]⟩))
        have HNO := Lib.hid hno
        clear hno
        by_cases hg : 0 ≤ u ∧ u ≤ 1000000000
        · obtain ⟨g0, g1⟩ := hg
          by_cases hp : 0 ≤ p
          · obtain ⟨q, rfl⟩ := Int.eq_ofNat_of_zero_le hp
            obtain ⟨v, hv⟩ := at_ us q (by rw [HM.out]; omega)
            have e0 := HC.out q v hv
            have HO2 := Lib.hid (show okU ss us k = decide (v = 0) from by
              rw [HO.out, decide_eq_true ⟨g0, g1⟩, decide_eq_false (by omega), Int.toNat_natCast, List.getD_eq_getElem?_getD, hv]; simp)
            clear hv
            by_cases hv0 : v = 0
            · subst hv0
              go_wp2
              go_round
              case rel => exact ⟨k + 1, by omega, by go_num, by rw [take_snoc HU.out, total_snoc], fun j hj => by
                by_cases hjk : j = k
                · subst hjk; rw [HO2.out]; rfl
                · exact HA.out j (by omega)⟩
              case measure => simp [intOf]; omega
            · have HF := Lib.hid (HNO.out _ rfl (by rw [HO2.out, decide_eq_false hv0]))
              have hvb : (v != 0) = true := by simpa using hv0
              clear hv0
              go_wp2
              go_ret
              exact ⟨ret_bool HF.out.symm, hb⟩
          · have HO2 := Lib.hid (show okU ss us k = true from by rw [HO.out, decide_eq_true ⟨g0, g1⟩, decide_eq_true (by omega)]; rfl)
            have hp' : p < 0 := by omega
            clear hp
            go_wp2
            go_round
            case rel => exact ⟨k + 1, by omega, by go_num, by rw [take_snoc HU.out, total_snoc], fun j hj => by
                by_cases hjk : j = k
                · subst hjk; exact HO2.out
                · exact HA.out j (by omega)⟩
            case measure => simp [intOf]; omega
        · have HF := Lib.hid (HNO.out _ rfl (by rw [HO.out, decide_eq_false hg]; rfl))
          rcases (show u < 0 ∨ (0 ≤ u ∧ 1000000000 < u) from by omega) with g0 | ⟨g0, g1⟩
          all_goals
            clear hg
            go_wp2
            go_ret
            exact ⟨ret_bool HF.out.symm, hb⟩
      · obtain rfl : k = m := by omega
        have ht : us.take k = us := by rw [← HM.out, List.take_length]
        have HF := Lib.hid (show vd ss us = decide (total (us.take k) ≤ 1000000000) from by
          rw [ht]
          exact vd_yes HR.out (by rw [HM.out, HN.out]) fun j hj => HA.out j (by rw [HM.out] at hj; exact hj))
        clear ht
        go_wp2
        go_ret
        exact ⟨ret_bool HF.out.symm, hb⟩
theorem valid_is {A : Option Addr} {n cap : Nat} {ss : List (Int × Int)} {A' : Option Addr} {m cap' : Nat} {us : List Int} {b : Bool} (w : World) (hn : ss.length = n) (hc : Prs w A ss) (hbig : n ≤ 1000000) (hm : us.length = m) (hc' : Ints w A' us) (hbig' : m ≤ 9223372036854775807) (h : vd ss us = b) :
    Calls Try.prog 58 #[.slice A n cap, .slice A' m cap'] w fun e w' => e = .returned (.bool b) ∧ Below w.heap.size w w' := by
  have hh := valid_any A n cap ss A' m cap' us w hn hc hbig hm hc' hbig'
  rw [h] at hh
  exact hh
end Go.Proofs.Ytpekedhcnijgcaa.Book
