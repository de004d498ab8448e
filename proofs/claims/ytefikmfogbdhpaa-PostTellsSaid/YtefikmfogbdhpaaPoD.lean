/- Post: Arrive: what is refused; Flight. -/
import Derived.Test.YtefikmfogbdhpaaPoC
namespace Go.Proofs.Ytefikmfogbdhpaa.Po
open Go.ChangeShapes Go.WideShapes Go.ChangeAt Go.RowKit Go.Proofs.Ytefikmfogbdhpaa.Cell
set_option linter.unusedVariables false
set_option linter.unusedSimpArgs false

theorem asc_of {l : List Int} (h : l.Pairwise (· < ·)) : asc l := fun i j x y hij hx hy => by
  obtain ⟨hi, rfl⟩ := List.getElem?_eq_some_iff.1 hx
  obtain ⟨hj, rfl⟩ := List.getElem?_eq_some_iff.1 hy
  exact List.pairwise_iff_getElem.1 h i j hi hj hij
section
variable {A A2 : Option Addr} {c c2 : Nat} {H : List Bool} {S : List En}
set_option maxRecDepth 100000 in
set_option maxHeartbeats 4000000 in
theorem arr_neg (w : World) (seq : Int) (hE : Ens w A S) (hI : Ints w A2 (ea H)) (hl : H.length = S.length) (hb : S.length ≤ 10000) (hcp : S.length ≤ c) (hs : seq < 0) :
    Calls Try.prog 11 #[.agg #[.slice A S.length c, .int .i64 (nx H : Int), .slice A2 (ea H).length c2], .int .i64 seq] w fun e w' =>
      e = .returned (.tuple #[.agg #[.slice none 0 0, .int .i64 0, .slice none 0 0], .slice none 0 0, .int .i64 4]) ∧ Below w.heap.size w w' := by
  obtain ⟨n, hn⟩ : ∃ n, S.length = n := ⟨_, rfl⟩
  obtain ⟨n2, hn2⟩ : ∃ n2, (ea H).length = n2 := ⟨_, rfl⟩
  obtain ⟨q, hq⟩ : ∃ q, nx H = q := ⟨_, rfl⟩
  have hn2b : n2 ≤ 10000 := by have := ea_len H; omega
  have hqn : q ≤ n := by have := nx_le H; omega
  have HRG := Lib.hid (show rgW n q (ea H) = true by rw [← hn, ← hl, ← hq]; exact rgW_ways (by omega))
  have HAS := Lib.hid (asc_of (ea_sorted H))
  try rw [hn] at hp1
  try rw [hq] at hp2
  rw [hn] at hb hcp
  simp only [hn, hn2, hq]
  have HN := Lib.hid hn
  have HN2 := Lib.hid hn2
  have HQ := Lib.hid hq
  have HL := Lib.hid hl
  have hB0 : Below w.heap.size w ((w.alloc (.cells #[.slice A n c, .int .i64 (q : Int), .slice A2 n2 c2] 27)).alloc (.cells #[.slice none 0 0, .int .i64 0, .slice none 0 0] 27)) := Gen.b_alloc (Gen.b_alloc (Below.refl _ _))
  have hr0 : Row ((w.alloc (.cells #[.slice A n c, .int .i64 (q : Int), .slice A2 n2 c2] 27)).alloc (.cells #[.slice none 0 0, .int .i64 0, .slice none 0 0] 27)) w.heap.size 27 #[.slice A n c, .int .i64 (q : Int), .slice A2 n2 c2] := (Row.new _ _ _).alloc _
  have hr2 : Row ((w.alloc (.cells #[.slice A n c, .int .i64 (q : Int), .slice A2 n2 c2] 27)).alloc (.cells #[.slice none 0 0, .int .i64 0, .slice none 0 0] 27)) (w.heap.size + 1) 27 #[.slice none 0 0, .int .i64 0, .slice none 0 0] := Gen.rowAt _ _ _ (by simp)
  have HE := Lib.hid (hE.keep hB0)
  have HI := Lib.hid (hI.keep hB0)
  clear hn hn2 hq hl hE hI
  go_enter Try.func11, Try.ntmps11
  go_wp2_with (fail)
  generalize (w.alloc (.cells #[.slice A n c, .int .i64 (q : Int), .slice A2 n2 c2] 27)).alloc (.cells #[.slice none 0 0, .int .i64 0, .slice none 0 0] 27) = W0 at *
  go_must (refine (right_any _ (by omega) (by omega) HN2.out HI.out).mono ?_)
  rintro e w1 ⟨rfl, hb1⟩
  rw [HRG.out]
  have s0 := hr0.keep hb1
  have d0 := s0.cell 0
  have d1 := s0.cell 1
  have d2 := s0.cell 2
  have hB1 := Gen.over hb1 hB0
  have HE1 := Lib.hid (HE.out.keep hb1)
  have HI1 := Lib.hid (HI.out.keep hb1)
  have r2 := hr2.keep hb1
  have k0 := r2.cell 0
  have k1 := r2.cell 1
  have k2 := r2.cell 2
  have kf0 := r2.frozen 0
  have kf1 := r2.frozen 1
  have kf2 := r2.frozen 2
  have kl := r2.lt
  clear hb1 hr0 hr2 HE HI hB0
  have HB := Lib.hid (Gen.b_set (p := ⟨w.heap.size + 1, 2, none⟩) (u := .slice none 0 0) (Gen.b_set (p := ⟨w.heap.size + 1, 1, none⟩) (u := .int .i64 0) (Gen.b_set (p := ⟨w.heap.size + 1, 0, none⟩) (u := .slice none 0 0) hB1 (by show w.heap.size ≤ w.heap.size + 1; omega)) (by show w.heap.size ≤ w.heap.size + 1; omega)) (by show w.heap.size ≤ w.heap.size + 1; omega))
  clear hB1
  go_wp2
  exact bodyPost_ret (v := .tuple #[.agg #[.slice none 0 0, .int .i64 0, .slice none 0 0], .slice none 0 0, .int .i64 4]) (by simp [results, Try.results11, go_sem, *]) rfl ⟨rfl, HB.out⟩
set_option maxRecDepth 100000 in
set_option maxHeartbeats 4000000 in
theorem arr_big (w : World) (seq : Int) (hE : Ens w A S) (hI : Ints w A2 (ea H)) (hl : H.length = S.length) (hb : S.length ≤ 10000) (hcp : S.length ≤ c) (hp1 : (S.length : Int) ≤ seq) :
    Calls Try.prog 11 #[.agg #[.slice A S.length c, .int .i64 (nx H : Int), .slice A2 (ea H).length c2], .int .i64 seq] w fun e w' =>
      e = .returned (.tuple #[.agg #[.slice none 0 0, .int .i64 0, .slice none 0 0], .slice none 0 0, .int .i64 4]) ∧ Below w.heap.size w w' := by
  obtain ⟨n, hn⟩ : ∃ n, S.length = n := ⟨_, rfl⟩
  obtain ⟨n2, hn2⟩ : ∃ n2, (ea H).length = n2 := ⟨_, rfl⟩
  obtain ⟨q, hq⟩ : ∃ q, nx H = q := ⟨_, rfl⟩
  have hn2b : n2 ≤ 10000 := by have := ea_len H; omega
  have hqn : q ≤ n := by have := nx_le H; omega
  have HRG := Lib.hid (show rgW n q (ea H) = true by rw [← hn, ← hl, ← hq]; exact rgW_ways (by omega))
  have HAS := Lib.hid (asc_of (ea_sorted H))
  try rw [hn] at hp1
  try rw [hq] at hp2
  rw [hn] at hb hcp
  simp only [hn, hn2, hq]
  have HN := Lib.hid hn
  have HN2 := Lib.hid hn2
  have HQ := Lib.hid hq
  have HL := Lib.hid hl
  have hB0 : Below w.heap.size w ((w.alloc (.cells #[.slice A n c, .int .i64 (q : Int), .slice A2 n2 c2] 27)).alloc (.cells #[.slice none 0 0, .int .i64 0, .slice none 0 0] 27)) := Gen.b_alloc (Gen.b_alloc (Below.refl _ _))
  have hr0 : Row ((w.alloc (.cells #[.slice A n c, .int .i64 (q : Int), .slice A2 n2 c2] 27)).alloc (.cells #[.slice none 0 0, .int .i64 0, .slice none 0 0] 27)) w.heap.size 27 #[.slice A n c, .int .i64 (q : Int), .slice A2 n2 c2] := (Row.new _ _ _).alloc _
  have hr2 : Row ((w.alloc (.cells #[.slice A n c, .int .i64 (q : Int), .slice A2 n2 c2] 27)).alloc (.cells #[.slice none 0 0, .int .i64 0, .slice none 0 0] 27)) (w.heap.size + 1) 27 #[.slice none 0 0, .int .i64 0, .slice none 0 0] := Gen.rowAt _ _ _ (by simp)
  have HE := Lib.hid (hE.keep hB0)
  have HI := Lib.hid (hI.keep hB0)
  clear hn hn2 hq hl hE hI
  go_enter Try.func11, Try.ntmps11
  go_wp2_with (fail)
  generalize (w.alloc (.cells #[.slice A n c, .int .i64 (q : Int), .slice A2 n2 c2] 27)).alloc (.cells #[.slice none 0 0, .int .i64 0, .slice none 0 0] 27) = W0 at *
  go_must (refine (right_any _ (by omega) (by omega) HN2.out HI.out).mono ?_)
  rintro e w1 ⟨rfl, hb1⟩
  rw [HRG.out]
  have s0 := hr0.keep hb1
  have d0 := s0.cell 0
  have d1 := s0.cell 1
  have d2 := s0.cell 2
  have hB1 := Gen.over hb1 hB0
  have HE1 := Lib.hid (HE.out.keep hb1)
  have HI1 := Lib.hid (HI.out.keep hb1)
  have r2 := hr2.keep hb1
  have k0 := r2.cell 0
  have k1 := r2.cell 1
  have k2 := r2.cell 2
  have kf0 := r2.frozen 0
  have kf1 := r2.frozen 1
  have kf2 := r2.frozen 2
  have kl := r2.lt
  clear hb1 hr0 hr2 HE HI hB0
  have hs0 : ¬ seq < 0 := by omega
  have HB := Lib.hid (Gen.b_set (p := ⟨w.heap.size + 1, 2, none⟩) (u := .slice none 0 0) (Gen.b_set (p := ⟨w.heap.size + 1, 1, none⟩) (u := .int .i64 0) (Gen.b_set (p := ⟨w.heap.size + 1, 0, none⟩) (u := .slice none 0 0) hB1 (by show w.heap.size ≤ w.heap.size + 1; omega)) (by show w.heap.size ≤ w.heap.size + 1; omega)) (by show w.heap.size ≤ w.heap.size + 1; omega))
  clear hB1
  go_wp2
  exact bodyPost_ret (v := .tuple #[.agg #[.slice none 0 0, .int .i64 0, .slice none 0 0], .slice none 0 0, .int .i64 4]) (by simp [results, Try.results11, go_sem, *]) rfl ⟨rfl, HB.out⟩
set_option maxRecDepth 100000 in
set_option maxHeartbeats 4000000 in
theorem arr_done (w : World) (seq : Int) (hE : Ens w A S) (hI : Ints w A2 (ea H)) (hl : H.length = S.length) (hb : S.length ≤ 10000) (hcp : S.length ≤ c) (hs : 0 ≤ seq) (hp1 : seq < S.length) (hp2 : seq < nx H) :
    Calls Try.prog 11 #[.agg #[.slice A S.length c, .int .i64 (nx H : Int), .slice A2 (ea H).length c2], .int .i64 seq] w fun e w' =>
      e = .returned (.tuple #[.agg #[.slice none 0 0, .int .i64 0, .slice none 0 0], .slice none 0 0, .int .i64 5]) ∧ Below w.heap.size w w' := by
  obtain ⟨n, hn⟩ : ∃ n, S.length = n := ⟨_, rfl⟩
  obtain ⟨n2, hn2⟩ : ∃ n2, (ea H).length = n2 := ⟨_, rfl⟩
  obtain ⟨q, hq⟩ : ∃ q, nx H = q := ⟨_, rfl⟩
  have hn2b : n2 ≤ 10000 := by have := ea_len H; omega
  have hqn : q ≤ n := by have := nx_le H; omega
  have HRG := Lib.hid (show rgW n q (ea H) = true by rw [← hn, ← hl, ← hq]; exact rgW_ways (by omega))
  have HAS := Lib.hid (asc_of (ea_sorted H))
  try rw [hn] at hp1
  try rw [hq] at hp2
  rw [hn] at hb hcp
  simp only [hn, hn2, hq]
  have HN := Lib.hid hn
  have HN2 := Lib.hid hn2
  have HQ := Lib.hid hq
  have HL := Lib.hid hl
  have hB0 : Below w.heap.size w ((w.alloc (.cells #[.slice A n c, .int .i64 (q : Int), .slice A2 n2 c2] 27)).alloc (.cells #[.slice none 0 0, .int .i64 0, .slice none 0 0] 27)) := Gen.b_alloc (Gen.b_alloc (Below.refl _ _))
  have hr0 : Row ((w.alloc (.cells #[.slice A n c, .int .i64 (q : Int), .slice A2 n2 c2] 27)).alloc (.cells #[.slice none 0 0, .int .i64 0, .slice none 0 0] 27)) w.heap.size 27 #[.slice A n c, .int .i64 (q : Int), .slice A2 n2 c2] := (Row.new _ _ _).alloc _
  have hr2 : Row ((w.alloc (.cells #[.slice A n c, .int .i64 (q : Int), .slice A2 n2 c2] 27)).alloc (.cells #[.slice none 0 0, .int .i64 0, .slice none 0 0] 27)) (w.heap.size + 1) 27 #[.slice none 0 0, .int .i64 0, .slice none 0 0] := Gen.rowAt _ _ _ (by simp)
  have HE := Lib.hid (hE.keep hB0)
  have HI := Lib.hid (hI.keep hB0)
  clear hn hn2 hq hl hE hI
  go_enter Try.func11, Try.ntmps11
  go_wp2_with (fail)
  generalize (w.alloc (.cells #[.slice A n c, .int .i64 (q : Int), .slice A2 n2 c2] 27)).alloc (.cells #[.slice none 0 0, .int .i64 0, .slice none 0 0] 27) = W0 at *
  go_must (refine (right_any _ (by omega) (by omega) HN2.out HI.out).mono ?_)
  rintro e w1 ⟨rfl, hb1⟩
  rw [HRG.out]
  have s0 := hr0.keep hb1
  have d0 := s0.cell 0
  have d1 := s0.cell 1
  have d2 := s0.cell 2
  have hB1 := Gen.over hb1 hB0
  have HE1 := Lib.hid (HE.out.keep hb1)
  have HI1 := Lib.hid (HI.out.keep hb1)
  have r2 := hr2.keep hb1
  have k0 := r2.cell 0
  have k1 := r2.cell 1
  have k2 := r2.cell 2
  have kf0 := r2.frozen 0
  have kf1 := r2.frozen 1
  have kf2 := r2.frozen 2
  have kl := r2.lt
  clear hb1 hr0 hr2 HE HI hB0
  have hs0 : ¬ seq < 0 := by omega
  have hs1 : ¬ (n : Int) ≤ seq := by omega
  obtain ⟨bb, hbb⟩ : ∃ bb, decide (seq ∈ ea H) = bb := ⟨_, rfl⟩
  have HBB := Lib.hid hbb
  clear hbb
  go_wp2_with (fail)
  go_must (refine (bsearch_is _ HN2.out HI1.out (by omega) HAS.out HBB.out).mono ?_)
  rintro e w9 ⟨i, rfl, hbs, rfl⟩
  clear hbs
  have HB := Lib.hid (Gen.b_set (p := ⟨w.heap.size + 1, 2, none⟩) (u := .slice none 0 0) (Gen.b_set (p := ⟨w.heap.size + 1, 1, none⟩) (u := .int .i64 0) (Gen.b_set (p := ⟨w.heap.size + 1, 0, none⟩) (u := .slice none 0 0) hB1 (by show w.heap.size ≤ w.heap.size + 1; omega)) (by show w.heap.size ≤ w.heap.size + 1; omega)) (by show w.heap.size ≤ w.heap.size + 1; omega))
  clear hB1
  go_wp2
  exact bodyPost_ret (v := .tuple #[.agg #[.slice none 0 0, .int .i64 0, .slice none 0 0], .slice none 0 0, .int .i64 5]) (by simp [results, Try.results11, go_sem, *]) rfl ⟨rfl, HB.out⟩
set_option maxRecDepth 100000 in
set_option maxHeartbeats 4000000 in
theorem arr_early (w : World) (seq : Int) (hE : Ens w A S) (hI : Ints w A2 (ea H)) (hl : H.length = S.length) (hb : S.length ≤ 10000) (hcp : S.length ≤ c) (hs : 0 ≤ seq) (hp1 : seq < S.length) (hp2 : (nx H : Int) ≤ seq) (hm : seq ∈ ea H) :
    Calls Try.prog 11 #[.agg #[.slice A S.length c, .int .i64 (nx H : Int), .slice A2 (ea H).length c2], .int .i64 seq] w fun e w' =>
      e = .returned (.tuple #[.agg #[.slice none 0 0, .int .i64 0, .slice none 0 0], .slice none 0 0, .int .i64 5]) ∧ Below w.heap.size w w' := by
  obtain ⟨n, hn⟩ : ∃ n, S.length = n := ⟨_, rfl⟩
  obtain ⟨n2, hn2⟩ : ∃ n2, (ea H).length = n2 := ⟨_, rfl⟩
  obtain ⟨q, hq⟩ : ∃ q, nx H = q := ⟨_, rfl⟩
  have hn2b : n2 ≤ 10000 := by have := ea_len H; omega
  have hqn : q ≤ n := by have := nx_le H; omega
  have HRG := Lib.hid (show rgW n q (ea H) = true by rw [← hn, ← hl, ← hq]; exact rgW_ways (by omega))
  have HAS := Lib.hid (asc_of (ea_sorted H))
  try rw [hn] at hp1
  try rw [hq] at hp2
  rw [hn] at hb hcp
  simp only [hn, hn2, hq]
  have HN := Lib.hid hn
  have HN2 := Lib.hid hn2
  have HQ := Lib.hid hq
  have HL := Lib.hid hl
  have hB0 : Below w.heap.size w ((w.alloc (.cells #[.slice A n c, .int .i64 (q : Int), .slice A2 n2 c2] 27)).alloc (.cells #[.slice none 0 0, .int .i64 0, .slice none 0 0] 27)) := Gen.b_alloc (Gen.b_alloc (Below.refl _ _))
  have hr0 : Row ((w.alloc (.cells #[.slice A n c, .int .i64 (q : Int), .slice A2 n2 c2] 27)).alloc (.cells #[.slice none 0 0, .int .i64 0, .slice none 0 0] 27)) w.heap.size 27 #[.slice A n c, .int .i64 (q : Int), .slice A2 n2 c2] := (Row.new _ _ _).alloc _
  have hr2 : Row ((w.alloc (.cells #[.slice A n c, .int .i64 (q : Int), .slice A2 n2 c2] 27)).alloc (.cells #[.slice none 0 0, .int .i64 0, .slice none 0 0] 27)) (w.heap.size + 1) 27 #[.slice none 0 0, .int .i64 0, .slice none 0 0] := Gen.rowAt _ _ _ (by simp)
  have HE := Lib.hid (hE.keep hB0)
  have HI := Lib.hid (hI.keep hB0)
  clear hn hn2 hq hl hE hI
  go_enter Try.func11, Try.ntmps11
  go_wp2_with (fail)
  generalize (w.alloc (.cells #[.slice A n c, .int .i64 (q : Int), .slice A2 n2 c2] 27)).alloc (.cells #[.slice none 0 0, .int .i64 0, .slice none 0 0] 27) = W0 at *
  go_must (refine (right_any _ (by omega) (by omega) HN2.out HI.out).mono ?_)
  rintro e w1 ⟨rfl, hb1⟩
  rw [HRG.out]
  have s0 := hr0.keep hb1
  have d0 := s0.cell 0
  have d1 := s0.cell 1
  have d2 := s0.cell 2
  have hB1 := Gen.over hb1 hB0
  have HE1 := Lib.hid (HE.out.keep hb1)
  have HI1 := Lib.hid (HI.out.keep hb1)
  have r2 := hr2.keep hb1
  have k0 := r2.cell 0
  have k1 := r2.cell 1
  have k2 := r2.cell 2
  have kf0 := r2.frozen 0
  have kf1 := r2.frozen 1
  have kf2 := r2.frozen 2
  have kl := r2.lt
  clear hb1 hr0 hr2 HE HI hB0
  have hs0 : ¬ seq < 0 := by omega
  have hs1 : ¬ (n : Int) ≤ seq := by omega
  have hs2 : ¬ seq < (q : Int) := by omega
  have HBB := Lib.hid (decide_eq_true hm)
  clear hm
  go_wp2_with (fail)
  go_must (refine (bsearch_is _ HN2.out HI1.out (by omega) HAS.out HBB.out).mono ?_)
  rintro e w9 ⟨i, rfl, hbs, rfl⟩
  clear hbs
  have HB := Lib.hid (Gen.b_set (p := ⟨w.heap.size + 1, 2, none⟩) (u := .slice none 0 0) (Gen.b_set (p := ⟨w.heap.size + 1, 1, none⟩) (u := .int .i64 0) (Gen.b_set (p := ⟨w.heap.size + 1, 0, none⟩) (u := .slice none 0 0) hB1 (by show w.heap.size ≤ w.heap.size + 1; omega)) (by show w.heap.size ≤ w.heap.size + 1; omega)) (by show w.heap.size ≤ w.heap.size + 1; omega))
  clear hB1
  go_wp2
  exact bodyPost_ret (v := .tuple #[.agg #[.slice none 0 0, .int .i64 0, .slice none 0 0], .slice none 0 0, .int .i64 5]) (by simp [results, Try.results11, go_sem, *]) rfl ⟨rfl, HB.out⟩
set_option maxRecDepth 100000 in
set_option maxHeartbeats 4000000 in
theorem flight_any (w : World) (hE : Ens w A S) (hI : Ints w A2 (ea H)) (hl : H.length = S.length) (hb : S.length ≤ 10000) (hcp : S.length ≤ c) :
    Calls Try.prog 12 #[.agg #[.slice A S.length c, .int .i64 (nx H : Int), .slice A2 (ea H).length c2]] w fun e w' =>
      ∃ A5 c5, e = .returned (.slice A5 (S.drop (nx H)).length c5) ∧ Ens w' A5 (S.drop (nx H)) ∧ Below w.heap.size w w' := by
  obtain ⟨n, hn⟩ : ∃ n, S.length = n := ⟨_, rfl⟩
  obtain ⟨n2, hn2⟩ : ∃ n2, (ea H).length = n2 := ⟨_, rfl⟩
  obtain ⟨q, hq⟩ : ∃ q, nx H = q := ⟨_, rfl⟩
  have hn2b : n2 ≤ 10000 := by have := ea_len H; omega
  have hqn : q ≤ n := by have := nx_le H; omega
  have HRG := Lib.hid (show rgW n q (ea H) = true by rw [← hn, ← hl, ← hq]; exact rgW_ways (by omega))
  have HAS := Lib.hid (asc_of (ea_sorted H))
  try rw [hn] at hp1
  try rw [hq] at hp2
  rw [hn] at hb hcp
  simp only [hn, hn2, hq]
  have HN := Lib.hid hn
  have HN2 := Lib.hid hn2
  have HQ := Lib.hid hq
  have HL := Lib.hid hl
  have hB0 : Below w.heap.size w ((w.alloc (.cells #[.slice A n c, .int .i64 (q : Int), .slice A2 n2 c2] 27))) := Gen.b_alloc (Below.refl _ _)
  have hr0 : Row ((w.alloc (.cells #[.slice A n c, .int .i64 (q : Int), .slice A2 n2 c2] 27))) w.heap.size 27 #[.slice A n c, .int .i64 (q : Int), .slice A2 n2 c2] := Row.new _ _ _
  have HE := Lib.hid (hE.keep hB0)
  have HI := Lib.hid (hI.keep hB0)
  clear hn hn2 hq hl hE hI
  go_enter Try.func12, Try.ntmps12
  go_wp2_with (fail)
  generalize (w.alloc (.cells #[.slice A n c, .int .i64 (q : Int), .slice A2 n2 c2] 27)) = W0 at *
  go_must (refine (right_any _ (by omega) (by omega) HN2.out HI.out).mono ?_)
  rintro e w1 ⟨rfl, hb1⟩
  rw [HRG.out]
  have s0 := hr0.keep hb1
  have d0 := s0.cell 0
  have d1 := s0.cell 1
  have d2 := s0.cell 2
  have hB1 := Gen.over hb1 hB0
  have HE1 := Lib.hid (HE.out.keep hb1)
  have HI1 := Lib.hid (HI.out.keep hb1)
  clear hb1 hr0 HE HI hB0
  have hq0 : (0 : Int) ≤ (q : Int) := by omega
  have hq1 : (q : Int) ≤ (n : Int) := by omega
  have hq2 : (q : Int) ≤ (c : Int) := by omega
  have rq := (ens_reads HN.out HE1.out).cut hqn hcp
  rw [drop_flat] at rq
  have HDL := Lib.hid (show (S.drop q).length = n - q by rw [List.length_drop, HN.out])
  have hnz : n - q ≤ 1000000 := by omega
  by_cases hck : c = q
  all_goals
    first | rw [if_pos hck] at rq | rw [if_neg hck] at rq
    first | (have hcp3 : (c = q) = True := eq_true hck) | (have hcp3 : (c = q) = False := eq_false hck)
    clear hck
    go_wp2_with (fail)
    go_must (refine (clone_er HDL.out rq (Nat.le_refl _) hnz).mono ?_)
    rintro e w2 ⟨A5, c5, rfl, ho5, hb5⟩
    have HE5 := Lib.hid (ens_own HDL.out ho5)
    have HB5 := Lib.hid (Gen.over hb5 hB1)
    clear ho5 hb5 hB1 rq
    go_wp2
    go_ret
    exact ⟨A5, c5, by rw [HDL.out]; rfl, HE5.out, HB5.out⟩
end
end Go.Proofs.Ytefikmfogbdhpaa.Po
