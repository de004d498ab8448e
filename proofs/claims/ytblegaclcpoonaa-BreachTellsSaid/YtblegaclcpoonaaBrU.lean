/- The reference of breach: 'Notice', 'Waive', 'Next' in one contract each: the same as the program's. -/
import Derived.Test.YtblegaclcpoonaaBrR
namespace Go.Proofs.Ytblegaclcpoonaa.Br
open Go.ChangeShapes Go.WideShapes Go.ChangeAt Go.RowKit
set_option linter.unusedVariables false

theorem rdy_a {s d day : Int} (h : okB s d = false) : rdy s d day = 1 := by unfold rdy; rw [if_neg (by simp [h])]
theorem rdy_b {s d day : Int} (h : ¬ (0 ≤ day ∧ day ≤ 200000)) : rdy s d day = 1 := by
  unfold rdy
  rw [if_neg (fun hh => h (of_decide_eq_true hh.2))]
theorem rdy_c {s d day : Int} (h : okB s d = true) (h1 : 0 ≤ day ∧ day ≤ 200000) (h2 : day < d) : rdy s d day = 20 := by
  unfold rdy
  rw [if_pos ⟨h, decide_eq_true h1⟩, if_pos h2]
theorem rdy_z {s d day : Int} (h : okB s d = true) (h1 : 0 ≤ day ∧ day ≤ 200000) (h2 : d ≤ day) : rdy s d day = 0 := rdy_mk h (decide_eq_true h1) h2
theorem nt_1 {s d day : Int} {r : Int} (h : rdy s d day = r) (hr : r ≠ 0) : nt s d day = (s, d, r) := by unfold nt; rw [h, if_pos hr]
theorem wv_1 {s d day : Int} {r : Int} (h : rdy s d day = r) (hr : r ≠ 0) : wv s d day = (s, d, r) := by unfold wv; rw [h, if_pos hr]
theorem beqF {a b : Int} (h : ¬ a = b) : (a == b) = false := by rw [beq_eq_false_iff_ne]; exact h
theorem bneT {a b : Int} (h : ¬ a = b) : (a != b) = true := by rw [bne_iff_ne]; exact h

theorem rnotice_any (s d day : Int) (w : World) :
    Calls Try.prog 19 #[bv s d, .int .i64 day] w fun e w' => e = .returned (.tuple #[bv (nt s d day).1 (nt s d day).2.1, .int .i64 (nt s d day).2.2]) ∧ Below w.heap.size w w' := by
  cases hok : okB s d
  · rw [nt_1 (rdy_a hok) (by decide)]
    exact rnotice_1 s d day w hok
  by_cases h0 : day < 0
  · rw [nt_1 (rdy_b (by omega)) (by decide)]
    exact rnotice_2 s d day w hok h0
  by_cases h1 : 200000 < day
  · rw [nt_1 (rdy_b (by omega)) (by decide)]
    exact rnotice_3 s d day w hok (by omega) h1
  by_cases h2 : day < d
  · rw [nt_1 (rdy_c hok (by omega) h2) (by decide)]
    exact rnotice_4 s d day w hok (by omega) (by omega) h2
  have hz := rdy_z hok (day := day) (by omega) (by omega)
  by_cases h3 : s = 2
  · subst h3
    have e : nt 2 d day = (3, day, 0) := by unfold nt; rw [if_neg (fun h => h hz), if_pos rfl]
    rw [e]
    exact rnotice_5 d day w hok (by omega) (by omega) (by omega)
  · have e : nt s d day = (s, d, 7) := by unfold nt; rw [if_neg (fun h => h hz), if_neg h3]
    rw [e]
    exact rnotice_6 s d day w hok (by omega) (by omega) (by omega) (bneT h3)

theorem rwaive_any (s d day : Int) (w : World) :
    Calls Try.prog 21 #[bv s d, .int .i64 day] w fun e w' => e = .returned (.tuple #[bv (wv s d day).1 (wv s d day).2.1, .int .i64 (wv s d day).2.2]) ∧ Below w.heap.size w w' := by
  cases hok : okB s d
  · rw [wv_1 (rdy_a hok) (by decide)]
    exact rwaive_1 s d day w hok
  by_cases h0 : day < 0
  · rw [wv_1 (rdy_b (by omega)) (by decide)]
    exact rwaive_2 s d day w hok h0
  by_cases h1 : 200000 < day
  · rw [wv_1 (rdy_b (by omega)) (by decide)]
    exact rwaive_3 s d day w hok (by omega) h1
  by_cases h2 : day < d
  · rw [wv_1 (rdy_c hok (by omega) h2) (by decide)]
    exact rwaive_4 s d day w hok (by omega) (by omega) h2
  have hz := rdy_z hok (day := day) (by omega) (by omega)
  by_cases h3 : s = 0
  · subst h3
    have e : wv 0 d day = (0, d, 7) := by unfold wv; rw [if_neg (fun h => h hz), if_pos (.inl rfl)]
    rw [e]
    exact rwaive_5 d day w hok (by omega) (by omega) (by omega)
  by_cases h4 : s = 3
  · subst h4
    have e : wv 3 d day = (3, d, 7) := by unfold wv; rw [if_neg (fun h => h hz), if_pos (.inr rfl)]
    rw [e]
    exact rwaive_6 d day w hok (by omega) (by omega) (by omega)
  · have e : wv s d day = (0, 0, 0) := by unfold wv; rw [if_neg (fun h => h hz), if_neg (by omega)]
    rw [e]
    exact rwaive_7 s d day w hok (by omega) (by omega) (by omega) (beqF h3) (beqF h4)

theorem nx_1 {s d kept grace day : Int} (h : ¬ (0 ≤ kept ∧ kept < 3 ∧ 0 ≤ grace ∧ grace ≤ 1000)) : nx s d kept grace day = (s, d, 1) := by unfold nx; rw [if_pos h]
theorem nx_2 {s d kept grace day r : Int} (h : 0 ≤ kept ∧ kept < 3 ∧ 0 ≤ grace ∧ grace ≤ 1000) (hr : rdy s d day = r) (h0 : r ≠ 0) : nx s d kept grace day = (s, d, r) := by
  unfold nx
  rw [if_neg (fun hh => hh h), hr, if_pos h0]
theorem nx_3 {s d kept grace day : Int} {x : Int × Int × Int} (h : 0 ≤ kept ∧ kept < 3 ∧ 0 ≤ grace ∧ grace ≤ 1000) (hr : rdy s d day = 0)
    (hx : (if s = 0 ∧ kept = 0 ∧ grace = 0 then (2, day, 0) else if s = 0 ∧ kept = 0 then (1, day, 0) else if s = 1 ∧ kept = 1 then (0, 0, 0) else if s = 1 ∧ d + grace ≤ day then (2, day, 0) else (s, d, 0)) = x) : nx s d kept grace day = x := by
  unfold nx
  rw [if_neg (fun hh => hh h), if_neg (fun hh => hh hr)]
  exact hx

theorem rnext_any (s d kept grace day : Int) (w : World) :
    Calls Try.prog 17 #[bv s d, .int .i64 kept, .int .i64 grace, .int .i64 day] w fun e w' => e = .returned (.tuple #[bv (nx s d kept grace day).1 (nx s d kept grace day).2.1, .int .i64 (nx s d kept grace day).2.2]) ∧ Below w.heap.size w w' := by
  cases hok : okB s d
  · have e : nx s d kept grace day = (s, d, 1) := by
      by_cases h : 0 ≤ kept ∧ kept < 3 ∧ 0 ≤ grace ∧ grace ≤ 1000
      · exact nx_2 h (rdy_a hok) (by decide)
      · exact nx_1 h
    rw [e]
    exact rnext_1 s d kept grace day w hok
  by_cases a0 : kept < 0
  · rw [nx_1 (by omega)]
    exact rnext_2a s d kept grace day w hok a0
  by_cases a1 : 3 ≤ kept
  · rw [nx_1 (by omega)]
    exact rnext_2b s d kept grace day w hok (by omega) a1
  by_cases a2 : grace < 0
  · rw [nx_1 (by omega)]
    exact rnext_2c s d kept grace day w hok (by omega) (by omega) a2
  by_cases a3 : 1000 < grace
  · rw [nx_1 (by omega)]
    exact rnext_2d s d kept grace day w hok (by omega) (by omega) (by omega) a3
  have h : 0 ≤ kept ∧ kept < 3 ∧ 0 ≤ grace ∧ grace ≤ 1000 := by omega
  have g0 := h.1
  have g1 := h.2.1
  have g2 := h.2.2.1
  have g3 := h.2.2.2
  by_cases h0 : day < 0
  · rw [nx_2 h (rdy_b (by omega)) (by decide)]
    exact rnext_2e s d kept grace day w hok g0 g1 g2 g3 h0
  by_cases h1 : 200000 < day
  · rw [nx_2 h (rdy_b (by omega)) (by decide)]
    exact rnext_2f s d kept grace day w hok g0 g1 g2 g3 (by omega) h1
  by_cases h2 : day < d
  · rw [nx_2 h (rdy_c hok (by omega) h2) (by decide)]
    exact rnext_3 s d kept grace day w hok g0 g1 g2 g3 (by omega) (by omega) h2
  have hz := rdy_z hok (day := day) (by omega) (by omega)
  have hd := okB_in hok
  by_cases s0 : s = 0
  · subst s0
    by_cases k0 : kept = 0
    · subst k0
      by_cases e0 : grace = 0
      · subst e0
        rw [nx_3 h hz (if_pos ⟨rfl, rfl, rfl⟩)]
        exact rnext_4 d day w hok (by omega) (by omega) (by omega)
      · rw [nx_3 h hz (by rw [if_neg (fun hh => e0 hh.2.2), if_pos ⟨rfl, rfl⟩])]
        exact rnext_5 d grace day w hok g2 g3 (by omega) (by omega) (by omega) (beqF e0)
    · rw [nx_3 h hz (by rw [if_neg (fun hh => k0 hh.2.1), if_neg (fun hh => k0 hh.2), if_neg (by omega), if_neg (by omega)])]
      exact rnext_6 d kept grace day w hok g0 g1 g2 g3 (by omega) (by omega) (by omega) (beqF k0)
  by_cases s1 : s = 1
  · subst s1
    by_cases k1 : kept = 1
    · subst k1
      rw [nx_3 h hz (by rw [if_neg (by omega), if_neg (by omega), if_pos ⟨rfl, rfl⟩])]
      exact rnext_7 d grace day w hok g2 g3 (by omega) (by omega) (by omega)
    · by_cases e1 : d + grace ≤ day
      · rw [nx_3 h hz (by rw [if_neg (by omega), if_neg (by omega), if_neg (fun hh => k1 hh.2), if_pos ⟨rfl, e1⟩])]
        exact rnext_8 d kept grace day w hok g0 g1 g2 g3 (by omega) (by omega) hd.2.2.1 hd.2.2.2.1 (by omega) (beqF k1) e1
      · rw [nx_3 h hz (by rw [if_neg (by omega), if_neg (by omega), if_neg (fun hh => k1 hh.2), if_neg (fun hh => e1 hh.2)])]
        exact rnext_9 d kept grace day w hok g0 g1 g2 g3 (by omega) (by omega) hd.2.2.1 hd.2.2.2.1 (by omega) (beqF k1) (by omega)
  · rw [nx_3 h hz (by rw [if_neg (fun hh => s0 hh.1), if_neg (fun hh => s0 hh.1), if_neg (fun hh => s1 hh.1), if_neg (fun hh => s1 hh.1)])]
    exact rnext_10 s d kept grace day w hok g0 g1 g2 g3 (by omega) (by omega) (by omega) (beqF s0) (beqF s1)
end Go.Proofs.Ytblegaclcpoonaa.Br
