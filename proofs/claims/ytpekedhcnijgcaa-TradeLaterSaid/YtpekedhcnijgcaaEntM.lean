/- Who is paid, in plain words: all together; leaves alone; what goes through a seat. -/
import Derived.Test.YtpekedhcnijgcaaLEnV
namespace Go.Proofs.Ytpekedhcnijgcaa.Book
open Go.ChangeShapes Go.WideShapes Go.ChangeAt Go.RowKit Go.Proofs.Ytpekedhcnijgcaa.Cell
set_option linter.unusedVariables false

theorem sm_abs {f : Nat → Int} {n : Nat} {M : Int} (h : ∀ j, j < n → -M ≤ f j ∧ f j ≤ M) : -(n * M) ≤ sm f n ∧ sm f n ≤ n * M := by
  induction n with
  | zero => simp [sm]
  | succ n ih =>
    have a := ih fun j hj => h j (by omega)
    have b := h n (by omega)
    rw [sm_succ]
    have : ((n + 1 : Nat) : Int) * M = n * M + M := by rw [Int.natCast_add, Int.add_mul]; simp
    omega
theorem total_bump {us : List Int} {i : Int} (v : Int) (hi : 0 ≤ i ∧ i < us.length) : total (bump us i v) = total us + v := by
  rw [total_sm, total_sm, bump_length]
  have e : sm (fun j => (bump us i v).getD j 0) us.length = sm (fun j => us.getD j 0 + if j = i.toNat then v else 0) us.length := by
    refine sm_congr fun j hj => ?_
    have := bump_at (us := us) (i := i) (j := (j : Int)) (v := v) hi (by omega)
    rw [Int.toNat_natCast] at this
    rw [this]
    by_cases c : i = (j : Int)
    · rw [if_pos c, if_pos (by omega)]
    · rw [if_neg c, if_neg (by omega)]
  rw [e, sm_add, sm_point v (by omega)]
theorem total_stp {day : Int} {us : List Int} {x : Tr} (hf : 0 ≤ x.f ∧ x.f < us.length) (ht : 0 ≤ x.t ∧ x.t < us.length) : total (stp day us x) = total us := by
  unfold stp
  split
  · rw [total_bump _ (by rw [bump_length]; exact ht), total_bump _ hf]; omega
  · split
    · rw [total_bump _ (by rw [bump_length]; exact ht), total_bump _ hf]; omega
    · rfl
theorem total_sums {ss : List (Int × Int)} {us : List Int} {l : List Tr} (h : Rt ss us l) (day : Int) : total (sums day us l) = total us := by
  have key : ∀ k, k ≤ l.length → total (sums day us (l.take k)) = total us := by
    intro k
    induction k with
    | zero => intro _; rfl
    | succ k ih =>
      intro hk
      obtain ⟨x, hx⟩ := at_ l k (by omega)
      obtain ⟨a, b, _⟩ := h.mem hx
      rw [take_snoc hx, sums_snoc, total_stp (by rw [sums_length]; exact a) (by rw [sums_length]; exact b), ih (by omega)]
  have := key l.length (Nat.le_refl _)
  rwa [List.take_length] at this
theorem sums_bd {ss : List (Int × Int)} {us : List Int} {l : List Tr} (h : Rt ss us l) (day : Int) (hl : l.length ≤ 12) : ∀ j : Nat, -13000000000 ≤ (sums day us l).getD j 0 ∧ (sums day us l).getD j 0 ≤ 13000000000 := by
  intro j
  by_cases hj : j < us.length
  · have := sums_in h day l.length (Nat.le_refl _) j hj
    rw [List.take_length] at this
    omega
  · rw [List.getD_eq_getElem?_getD, List.getElem?_eq_none (by rw [sums_length]; omega)]
    simp
theorem sums_node {ss : List (Int × Int)} {us : List Int} {l : List Tr} (h : Rt ss us l) (day : Int) {i : Nat} (hi : i < ss.length) (hn : lf ss i = false) : (sums day us l).getD i 0 = 0 := by
  have hlen := h.len
  have hd := vd_in h.v
  have key : ∀ k, k ≤ l.length → (sums day us (l.take k)).getD i 0 = 0 := by
    intro k
    induction k with
    | zero =>
      intro _
      obtain ⟨u, hu⟩ := at_ us i (by omega)
      have h1 := okR_of_U hd.2.1 hd.2.2.1 i (by omega)
      rw [okR_at hu, hn, Bool.or_false, Bool.and_eq_true] at h1
      have a := of_decide_eq_true h1.1
      have b := of_decide_eq_true h1.2
      simp only [List.take_zero, sums, List.foldl_nil]
      rw [List.getD_eq_getElem?_getD, hu]
      simp only [Option.getD_some]
      omega
    | succ k ih =>
      intro hk
      obtain ⟨x, hx⟩ := at_ l k (by omega)
      obtain ⟨a, b, _, c, d⟩ := h.mem hx
      have hs := stp_at (day := day) (us := sums day us (l.take k)) (x := x) (j := (i : Int)) (by rw [sums_length]; exact a) (by rw [sums_length]; exact b) (by omega)
      rw [Int.toNat_natCast, ih (by omega)] at hs
      rw [take_snoc hx, sums_snoc, hs]
      have e1 : x.f ≠ (i : Int) := fun e => by rw [e, hn] at c; cases c
      have e2 : x.t ≠ (i : Int) := fun e => by rw [e, hn] at d; cases d
      unfold dlt
      rw [if_neg e1, if_neg e2, if_neg e1, if_neg e2]
      repeat' split
      all_goals omega
  have := key l.length (Nat.le_refl _)
  rwa [List.take_length] at this
theorem pf_some {S : List Int} {i : Nat} {p : Int × Int} (h : pf S i = some p) : ∃ z, S[i]? = some z ∧ z ≠ 0 ∧ p = ((i : Int), z) := by
  unfold pf at h
  split at h
  · rename_i u hu
    split at h
    · cases h
    · rename_i hz
      exact ⟨u, hu, hz, (Option.some.inj h).symm⟩
  · cases h
theorem sel_mem {S : List Int} {p : Int × Int} : ∀ {k : Nat}, p ∈ sel (pf S) k → ∃ (i : Nat) (z : Int), i < k ∧ S[i]? = some z ∧ z ≠ 0 ∧ p = ((i : Int), z)
  | 0, h => by simp [sel] at h
  | k + 1, h => by
    rw [sel, List.mem_append] at h
    rcases h with h | h
    · obtain ⟨i, z, hi, a, b, c⟩ := sel_mem h
      exact ⟨i, z, by omega, a, b, c⟩
    · cases hf : pf S k with
      | none => rw [hf] at h; simp at h
      | some q =>
        rw [hf] at h
        have : p = q := by simpa using h
        subst this
        obtain ⟨z, a, b, c⟩ := pf_some hf
        exact ⟨k, z, by omega, a, b, c⟩
theorem sel_up {S : List Int} {p p' : Int × Int} : ∀ {k j : Nat}, (sel (pf S) k)[j]? = some p → (sel (pf S) k)[j + 1]? = some p' → p.1 < p'.1
  | 0, j, h, _ => by simp [sel] at h
  | k + 1, j, h, h' => by
    rw [sel] at h h'
    by_cases hj : j + 1 < (sel (pf S) k).length
    · rw [List.getElem?_append_left (by omega)] at h
      rw [List.getElem?_append_left hj] at h'
      exact sel_up h h'
    · rw [List.getElem?_append_right (by omega)] at h'
      cases hf : pf S k with
      | none => rw [hf] at h'; simp at h'
      | some q =>
        rw [hf] at h h'
        have hl := lt_of_at h'
        simp at hl
        have hj1 : j + 1 - (sel (pf S) k).length = 0 := by omega
        rw [hj1] at h'
        have e : q = p' := by simpa using h'
        rw [List.getElem?_append_left (by omega)] at h
        obtain ⟨i, z, hi, _, _, rfl⟩ := sel_mem (List.mem_of_getElem? h)
        obtain ⟨z', _, _, hq⟩ := pf_some hf
        rw [← e, hq]
        dsimp only
        omega
theorem thr_sel {S : List Int} {bs : List Bool} (hl : bs.length = S.length) : ∀ k, k ≤ S.length → thr bs (sel (pf S) k) = sm (fun j => if bs.getD j false = true then S.getD j 0 else 0) k
  | 0, _ => rfl
  | k + 1, hk => by
    obtain ⟨z, hz⟩ := at_ S k (by omega)
    have ih := thr_sel hl k (by omega)
    have hp := pf_at hz
    have hb : lfB bs (k : Int) = bs.getD k false := by
      unfold lfB
      rw [decide_eq_true (by omega), Bool.true_and, Int.toNat_natCast]
    rw [sm_succ, ← ih, List.getD_eq_getElem?_getD (l := S), hz]
    by_cases h0 : z = 0
    · rw [sel_no (by rw [hp, if_pos h0]), h0]; simp
    · rw [sel_yes (by rw [hp, if_neg h0]), thr_snoc]
      dsimp only
      rw [hb]; rfl
theorem thO_hN {ss : List (Int × Int)} {S : List Int} (hr : rg ss = true) (hl : S.length = ss.length) {i : Nat} (hi : i < ss.length) : thO ss (sel (pf S) ss.length) i = hN ss S i := by
  unfold thO
  rw [if_pos ⟨by omega, by omega, hr⟩, Int.toNat_natCast, ← hl, thr_sel (by rw [acc_length, hl]) _ (Nat.le_refl _), hN_sm hl, hl]
  rfl
theorem total_snd_sel (S : List Int) : total (snd (sel (pf S) S.length)) = total S := by
  have key : ∀ k, k ≤ S.length → total (snd (sel (pf S) k)) = total (S.take k) := by
    intro k
    induction k with
    | zero => intro _; rfl
    | succ k ih =>
      intro hk
      obtain ⟨z, hz⟩ := at_ S k (by omega)
      have hp := pf_at hz
      rw [take_snoc hz, total_snoc, ← ih (by omega)]
      by_cases h0 : z = 0
      · rw [sel_no (by rw [hp, if_pos h0]), h0]; omega
      · rw [sel_yes (by rw [hp, if_neg h0])]
        unfold snd
        rw [List.map_append, List.map_cons, List.map_nil, total_snoc]
  have := key S.length (Nat.le_refl _)
  rwa [List.take_length] at this
theorem hN_bd {ss : List (Int × Int)} {S : List Int} (hl : S.length = ss.length) (hn : ss.length ≤ 10) (h : ∀ j : Nat, -13000000000 ≤ S.getD j 0 ∧ S.getD j 0 ≤ 13000000000) (i : Nat) : -130000000000 ≤ hN ss S i ∧ hN ss S i ≤ 130000000000 := by
  rw [hN_sm hl]
  have := sm_abs (f := fun j => if bB ss i j = true then S.getD j 0 else 0) (n := ss.length) (M := 13000000000) (fun j _ => by
    have := h j
    split <;> omega)
  omega
theorem kids_bd {ss : List (Int × Int)} {S : List Int} (hl : S.length = ss.length) (hn : ss.length ≤ 10) (h : ∀ j : Nat, -13000000000 ≤ S.getD j 0 ∧ S.getD j 0 ≤ 13000000000) (i k : Nat) (hk : k ≤ 10) : -1300000000000 ≤ kids ss S i k ∧ kids ss S i k ≤ 1300000000000 := by
  unfold kids
  have := sm_abs (f := fun c => if (par ss c == (i : Int)) = true then hN ss S c else 0) (n := k) (M := 130000000000) (fun j _ => by
    have := hN_bd hl hn h j
    split <;> omega)
  omega
theorem roots_bd {ss : List (Int × Int)} {S : List Int} (hl : S.length = ss.length) (hn : ss.length ≤ 10) (h : ∀ j : Nat, -13000000000 ≤ S.getD j 0 ∧ S.getD j 0 ≤ 13000000000) (k : Nat) (hk : k ≤ 10) : -1300000000000 ≤ rootS ss S k ∧ rootS ss S k ≤ 1300000000000 := by
  unfold rootS
  have := sm_abs (f := fun c => if decide (par ss c < 0) = true then hN ss S c else 0) (n := k) (M := 130000000000) (fun j _ => by
    have := hN_bd hl hn h j
    split <;> omega)
  omega
/-- what Paid gives, and what is true of it -/
structure PdOk (ss : List (Int × Int)) (us : List Int) (L : List (Int × Int)) (S : List Int) : Prop where
  r : rg ss = true
  ls : S.length = ss.length
  lu : us.length = ss.length
  len : L.length ≤ ss.length
  bd : ∀ j : Nat, -13000000000 ≤ S.getD j 0 ∧ S.getD j 0 ≤ 13000000000
  u : ∀ u ∈ us, 0 ≤ u ∧ u ≤ 1000000000
  tot : total S = total us
  snd : total (snd L) = total S
  mem : ∀ (k : Nat) (p : Int × Int), L[k]? = some p → ∃ (i : Nat) (z : Int), i < ss.length ∧ p = ((i : Int), z) ∧ z ≠ 0 ∧ -13000000000 ≤ z ∧ z ≤ 13000000000 ∧ lf ss i = true
  up : ∀ (k : Nat) (p p' : Int × Int), L[k]? = some p → L[k + 1]? = some p' → p.1 < p'.1
  th : ∀ i : Nat, i < ss.length → thO ss L i = hN ss S i
  node : ∀ i : Nat, i < ss.length → lf ss i = false → hN ss S i = kids ss S i ss.length
  sml : Sml L
theorem pd_ok {ss : List (Int × Int)} {us : List Int} {l : List Tr} {day : Int} {L : List (Int × Int)} (hn : ss.length ≤ 10) (hl : l.length ≤ 12) (h : pdO ss us l day = (L, 0)) : ∃ S, PdOk ss us L S := by
  unfold pdO at h
  split at h
  · rename_i hok
    obtain ⟨hv, hr, _, _⟩ := hok
    have R : Rt ss us l := ⟨hv, hr⟩
    have hlu := R.len
    obtain rfl : sel (pf (sums day us l)) ss.length = L := by injection h
    have hls : (sums day us l).length = ss.length := by rw [sums_length, hlu]
    have hrg := (vd_in hv).1
    have hbd := sums_bd R day hl
    have hmem : ∀ (k : Nat) (p : Int × Int), (sel (pf (sums day us l)) ss.length)[k]? = some p → ∃ (i : Nat) (z : Int), i < ss.length ∧ p = ((i : Int), z) ∧ z ≠ 0 ∧ -13000000000 ≤ z ∧ z ≤ 13000000000 ∧ lf ss i = true := fun k p hp => by
      obtain ⟨i, z, hi, hz, h0, he⟩ := sel_mem (List.mem_of_getElem? hp)
      have hb := hbd i
      rw [List.getD_eq_getElem?_getD, hz] at hb
      refine ⟨i, z, hi, he, h0, hb.1, hb.2, ?_⟩
      cases hlf : lf ss i
      · have := sums_node R day hi hlf
        rw [List.getD_eq_getElem?_getD, hz] at this
        exact absurd this h0
      · rfl
    refine ⟨sums day us l, hrg, hls, hlu, sel_len _ _, hbd, vd_all hv, total_sums R day, ?_, hmem, fun k p p' a b => sel_up a b, fun i hi => thO_hN hrg hls hi, fun i hi hlf => ?_, ?_⟩
    · have := total_snd_sel (sums day us l)
      rwa [hls] at this
    · rw [has_kids (pre_of hrg) hls hi, sums_node R day hi hlf]; omega
    · refine ⟨by have := sel_len (pf (sums day us l)) ss.length; omega, fun p hp => ?_⟩
      obtain ⟨k, hk⟩ := List.getElem?_of_mem hp
      obtain ⟨i, z, _, rfl, _, a, b, _⟩ := hmem k p hk
      dsimp only
      omega
  · cases h
end Go.Proofs.Ytpekedhcnijgcaa.Book
