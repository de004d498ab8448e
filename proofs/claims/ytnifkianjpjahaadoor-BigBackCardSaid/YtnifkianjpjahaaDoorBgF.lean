/- Big integers: copies, equality, signs. -/
import Derived.Test.YtnifkianjpjahaaDoorBgE
import Derived.Lib.SliceRun
namespace Go.Proofs.YtnifkianjpjahaaDoor.Bg
open Go.ChangeShapes Go.WideShapes Go.ChangeAt Go.RowKit Go.Proofs.YtnifkianjpjahaaDoor.Cell
set_option linter.unusedVariables false
set_option linter.unusedSimpArgs false

theorem ints_reads {w : World} {A : Option Addr} {us : List Int} {n : Nat} (hn : us.length = n) (h : Ints w A us) : App.Reads w w.heap.size 1 A n (ints us) :=
  ⟨by simp [ints, hn], fun h0 => by
    obtain ⟨b, off, e, hc⟩ := h (by omega)
    obtain ⟨z, hz⟩ := at_ us 0 (by omega)
    have hb : b < w.heap.size := World.block_lt_of_cell? w ⟨b, off + 0, none⟩ (hc 0 z hz)
    exact ⟨⟨b, off, none⟩, e, hb, fun j u hu => by
      rw [ints, List.getElem?_map] at hu
      cases hx : us[j]? with
      | none => rw [hx] at hu; simp at hu
      | some x =>
        rw [hx] at hu
        simp at hu
        subst hu
        rw [Addr.add_lit]
        exact hc j x hx⟩⟩
theorem ints_one (us : List Int) : ∀ u ∈ ints us, u.oneCell' = true := by
  intro u hu
  simp [ints] at hu
  obtain ⟨x, _, rfl⟩ := hu
  rfl
set_option maxRecDepth 100000 in
set_option maxHeartbeats 2000000 in
theorem clone_any {A : Option Addr} {n cap : Nat} {us : List Int} (w : World) (hm : us.length = n) (hc : Ints w A us) (hbig : n ≤ 1000000) :
    Calls Tryd.prog 37 #[.slice A n cap] w fun e w' => ∃ A2 c2, e = .returned (.slice A2 n c2) ∧ Ints w' A2 us ∧ Below w.heap.size w w' := by
  have HM := Lib.hid hm
  clear hm
  have hq := fun (W : World) => Lib.run_eql_slice_nil (P := Tryd.prog) W 22 3 A n cap 0 0 Tryd.underlying22
  cases A with
  | none =>
    obtain rfl : n = 0 := by
      by_cases h0 : 0 < n
      · obtain ⟨_, _, e, _⟩ := hc (by rw [HM.out]; exact h0)
        cases e
      · omega
    obtain rfl : us = [] := List.length_eq_zero_iff.1 HM.out
    go_enter Tryd.func37, Tryd.ntmps37
    go_wp2
    go_ret
    exact ⟨none, 0, rfl, fun h => by simp at h, Below.refl _ _⟩
  | some ad =>
    obtain ⟨i0, hi0, hz0, hz1, hz2⟩ := info_parts infoI
    have r1 := ints_reads HM.out hc
    have hown : (w.alloc (.cells #[] 3)).ownsRow w.heap.size 3 1 (.slice (some ⟨w.heap.size, 0, none⟩) 0 0) 0 [] :=
      ⟨rfl, .inr ⟨w.heap.size, 0, #[], rfl, Nat.le_refl _, heap_alloc_new w _, Nat.le_refl _, by simp [maxLen], rfl, rfl⟩⟩
    go_enter Tryd.func37, Tryd.ntmps37
    go_wp2_with (first
      | (at_builtin
         go_must (refine App.wpList_append_any _ rfl (.tmp 5) (.tmp 6) _ rfl w.heap.size 3 i0 _ 1 8 Tryd.underlying22 hi0 hz0 hz1 hz2 rfl (by omega) _ 0 [] rfl hown w.heap.size _ n cap (ints us) rfl (r1.alloc (Nat.le_refl _) _) (ints_one us) (by simp only [maxLen]; omega) (by omega) (by simp) ?_)
         intro v2 w2 hown2 hg2 hat2
         have hB2 := Gen.g_below hown hg2 (Gen.b_alloc (Below.refl _ _)) (Nat.le_refl _)
         rw [List.nil_append, Nat.zero_add] at hown2
         obtain ⟨A2, c2, rfl, hI2⟩ := ints_own hown2 HM.out
         have HI2 := Lib.hid hI2
         clear hg2 hat2 hown2 hI2)
      | fail)
    go_ret
    exact ⟨A2, c2, rfl, HI2.out, hB2⟩
set_option maxRecDepth 100000 in
set_option maxHeartbeats 4000000 in
theorem equal_any {A A' : Option Addr} {n n' c c' : Nat} {a b : List Int} (w : World) (hn : a.length = n) (hn' : b.length = n') (ha : Ints w A a) (hb : Ints w A' b) (hbig : n ≤ 9223372036854775807) (hbig' : n' ≤ 9223372036854775807) :
    Calls Tryd.prog 31 #[.slice A n c, .slice A' n' c'] w fun e w' => e = .returned (.bool (decide (a = b))) ∧ ∃ q, w' = w.drewN q := by
  by_cases hl : n = n'
  case neg =>
    have hlb : ((n : Int) != (n' : Int)) = true := by simp; omega
    have HV : Hid (decide (a = b) = false) := Lib.hid (decide_eq_false (fun e => by rw [e] at hn; omega))
    clear hn hn' ha hb
    go_enter Tryd.func31, Tryd.ntmps31
    go_wp2
    go_ret
    exact ⟨ret_bool HV.out.symm, 0, rfl⟩
  subst hl
  have HN := Lib.hid hn
  have HN' := Lib.hid hn'
  have hlb : ((n : Int) != (n : Int)) = false := by simp
  clear hn hn'
  go_enter Tryd.func31, Tryd.ntmps31
  go_wp2
  clear hlb
  go_loopw [13] (fun v wr => ∃ k : Nat, k ≤ n ∧ v = .int .i64 k ∧ Hid (a.take k = b.take k) ∧ ∃ q, wr = w.drewN q) (fun v _ => n - (intOf v).toNat)
  case atStart => exact ⟨0, Nat.zero_le _, rfl, Lib.hid (by rw [List.take_zero, List.take_zero]), 0, rfl⟩
  case round =>
    obtain ⟨k, hk, rfl, HE, q, rfl⟩ := hrel
    have k0 : (0 : Int) ≤ (k : Int) := by omega
    by_cases hlt : k < n
    · have hltI : (k : Int) < (n : Int) := by omega
      obtain ⟨b1, o1, rfl, hc1⟩ := ha (by rw [HN.out]; omega)
      obtain ⟨b2, o2, rfl, hc2⟩ := hb (by rw [HN'.out]; omega)
      obtain ⟨x, hx⟩ := at_ a k (by rw [HN.out]; omega)
      obtain ⟨y, hy⟩ := at_ b k (by rw [HN'.out]; omega)
      have c1 := hc1 k x hx
      have c2 := hc2 k y hy
      have HX := Lib.hid hx
      have HY := Lib.hid hy
      clear hx hy hc1 hc2 ha hb
      by_cases hxy : x = y
      · have hxb : (x != y) = false := by simp [hxy]
        have HE2 : Hid (a.take (k + 1) = b.take (k + 1)) := Lib.hid (by rw [take_snoc HX.out, take_snoc HY.out, HE.out, hxy])
        clear hxy
        go_wp2
        go_quiet (fail)
        go_wp2
        go_roundw
        case rel => exact ⟨k + 1, by omega, by go_num, HE2, _, rfl⟩
        case measure => simp [intOf]; omega
      · have hxb : (x != y) = true := by simp [hxy]
        have HV : Hid (decide (a = b) = false) := Lib.hid (decide_eq_false (fun e => hxy (by
          have h1 := HX.out
          rw [e, HY.out] at h1
          injection h1 with h1
          exact h1.symm)))
        clear hxy
        go_wp2
        go_quiet (fail)
        go_wp2
        go_ret
        exact ⟨ret_bool HV.out.symm, _, World.drewN_drewN _ _ _⟩
    · obtain rfl : n = k := by omega
      have HV : Hid (decide (a = b) = true) := Lib.hid (decide_eq_true (by
        have h := HE.out
        rwa [List.take_of_length_le (by rw [HN.out]; exact Nat.le_refl _), List.take_of_length_le (by rw [HN'.out]; exact Nat.le_refl _)] at h))
      go_wp2
      go_ret
      exact ⟨ret_bool HV.out.symm, q, rfl⟩
/-- a big integer of sign, digits -/
abbrev bigV (s : Int) (A : Option Addr) (n c : Nat) : Value := .agg #[.int .i64 s, .slice A n c]
def sg (z : Int) : Int := if z < 0 then -1 else if 0 < z then 1 else 0
structure IsBig (w : World) (v : Value) (z : Int) : Prop where
  ex : ∃ A c l, v = bigV (sg z) A l.length c ∧ Ints w A l ∧ Nm l z.natAbs ∧ l.length ≤ 60
theorem IsBig.keep {w w1 : World} {v : Value} {z : Int} (h : IsBig w v z) (hb : Below w.heap.size w w1) : IsBig w1 v z := by
  obtain ⟨A, c, l, e, h1, h2, h3⟩ := h.ex
  exact ⟨A, c, l, e, h1.keep hb, h2, h3⟩
abbrev zeroV : Value := bigV 0 none 0 0
theorem IsBig.zero (w : World) : IsBig w zeroV 0 := ⟨none, 0, [], rfl, fun h => by simp at h, Nm.zero, by simp⟩
/-- whether an integer has at most 60 digits -/
def Fit (z : Int) : Prop := -(pw 60) < z ∧ z < pw 60
instance decFit (z : Int) : Decidable (Fit z) := inferInstanceAs (Decidable (_ ∧ _))
def fe (z : Int) : Int := if Fit z then 0 else 6
def fz (z : Int) : Int := if Fit z then z else 0
theorem Fit.len {z : Int} {l : List Int} (h : Nm l z.natAbs) : l.length ≤ 60 ↔ Fit z := by
  rw [h.len 60]
  unfold Fit
  omega
theorem fe_yes {z : Int} (h : Fit z) : fe z = 0 := if_pos h
theorem fz_yes {z : Int} (h : Fit z) : fz z = z := if_pos h
theorem fe_no {z : Int} (h : ¬ Fit z) : fe z = 6 := if_neg h
theorem fz_no {z : Int} (h : ¬ Fit z) : fz z = 0 := if_neg h
theorem sg_zero : sg 0 = 0 := rfl
theorem sg_in (z : Int) : -1 ≤ sg z ∧ sg z ≤ 1 := by unfold sg; split <;> (try split) <;> omega
theorem sg_eq (z : Int) : z = sg z * (z.natAbs : Int) := by
  unfold sg
  split
  · omega
  · split <;> omega
theorem sg_of {s m : Int} (hs : -1 ≤ s ∧ s ≤ 1) (hm : 0 ≤ m) (h0 : s = 0 ↔ m = 0) : sg (s * m) = s ∧ ((s * m).natAbs : Int) = m := by
  have : s = -1 ∨ s = 0 ∨ s = 1 := by omega
  rcases this with rfl | rfl | rfl
  · unfold sg; constructor
    · rw [if_pos (by omega)]
    · omega
  · unfold sg; constructor
    · rw [if_neg (by omega), if_neg (by omega)]
    · omega
  · unfold sg; constructor
    · rw [if_neg (by omega), if_pos (by omega)]
    · omega
/-- digits and a sign that are right -/
theorem right_big {w : World} {s : Int} {A : Option Addr} {n c : Nat} {l : List Int} (hn : l.length = n) (h : rgtB s l = true) (hc : Ints w A l) : ∃ z, IsBig w (bigV s A n c) z := by
  obtain ⟨h1, h2, h3, h4, h5⟩ := rgtB_in h
  have hz := val_zero h4 h5
  have hv := val_nonneg h4
  obtain ⟨e1, e2⟩ := sg_of h1 hv (by rw [hz, ← h3, List.length_eq_zero_iff])
  refine ⟨s * val l, A, c, l, by rw [e1, hn], hc, ?_, h2⟩
  rw [e2]
  exact ⟨h4, h5, rfl⟩
theorem IsBig.right {w : World} {s : Int} {A : Option Addr} {n c : Nat} {l : List Int} {z : Int} (h1 : s = sg z) (h2 : Nm l z.natAbs) (h3 : l.length ≤ 60) : rgtB s l = true := by
  subst h1
  refine rgtB_yes (sg_in z) h3 ?_ h2.1 h2.2.1
  rw [List.length_eq_zero_iff, h2.nil]
  unfold sg
  split
  · omega
  · split <;> omega
set_option maxRecDepth 100000 in
set_option maxHeartbeats 4000000 in
theorem signed_any {s z : Int} {A : Option Addr} {n c : Nat} {l : List Int} (w : World) (hn : l.length = n) (hc : Ints w A l) (hl : Nm l z.natAbs) (h60 : n ≤ 60) (hs : z ≠ 0 → s = sg z) :
    Calls Tryd.prog 35 #[.int .i64 s, .slice A n c] w fun e w' => ∃ v, e = .returned v ∧ IsBig w' v z ∧ Below w.heap.size w w' := by
  by_cases h0 : n = 0
  · have hz0 : z = 0 := by
      have := hl.nil.1 (List.eq_nil_of_length_eq_zero (hn.trans h0))
      omega
    have HZ := Lib.hid hz0
    have hb : ((n : Int) == 0) = true := by simp [h0]
    clear hn hc hl hs h0 hz0
    go_enter Tryd.func35, Tryd.ntmps35
    go_wp2
    refine bodyPost_ret (v := zeroV) ?_ rfl ⟨_, rfl, by rw [HZ.out]; exact IsBig.zero _, by go_grown⟩
    simp [results, Tryd.results35, go_sem]
  · have hz0 : z ≠ 0 := fun e => h0 (by
      have := hl.nil.2 (by rw [e]; rfl)
      rw [← hn, this]; rfl)
    have HS := Lib.hid (hs hz0)
    have HB := Lib.hid (show IsBig w (bigV s A n c) z from ⟨A, c, l, by rw [HS.out, hn], hc, hl, by omega⟩)
    have hb : ((n : Int) == 0) = false := by simp; omega
    clear hn hc hl hs h0 hz0
    go_enter Tryd.func35, Tryd.ntmps35
    go_wp2
    refine bodyPost_ret (v := bigV s A n c) ?_ rfl ⟨_, rfl, HB.out.keep (by go_grown), by go_grown⟩
    simp [results, Tryd.results35, go_sem]
end Go.Proofs.YtnifkianjpjahaaDoor.Bg
