/- Post: the calls of right ways, in one form. -/
import Derived.Test.YtefikmfogbdhpaaPoH
namespace Go.Proofs.Ytefikmfogbdhpaa.Po
open Go.ChangeShapes Go.WideShapes Go.ChangeAt Go.RowKit Go.Proofs.Ytefikmfogbdhpaa.Cell
set_option linter.unusedVariables false
set_option linter.unusedSimpArgs false

/-- a right way, its parts by name -/
structure Wq (W : World) (A : Option Addr) (n c q : Nat) (A2 : Option Addr) (n2 c2 : Nat) (S : List En) (H : List Bool) : Prop where
  hn : S.length = n
  hq : nx H = q
  hn2 : (ea H).length = n2
  he : Ens W A S
  hi : Ints W A2 (ea H)
  hl : H.length = n
  hb : n ≤ 10000
  hc : n ≤ c
theorem Wq.keep {W W' : World} {A : Option Addr} {n c q : Nat} {A2 : Option Addr} {n2 c2 : Nat} {S : List En} {H : List Bool} (h : Wq W A n c q A2 n2 c2 S H) (hb : Below W.heap.size W W') : Wq W' A n c q A2 n2 c2 S H :=
  ⟨h.hn, h.hq, h.hn2, h.he.keep hb, h.hi.keep hb, h.hl, h.hb, h.hc⟩
theorem Wq.nil (W : World) : Wq W none 0 0 0 none 0 0 [] [] := ⟨rfl, rfl, rfl, fun h => by simp at h, fun h => by simp [ea, ms] at h, rfl, by omega, by omega⟩
theorem wy_wq {W : World} {v : Value} {S : List En} {H : List Bool} {n : Nat} (h : Wy W v S H) (hn : S.length = n) : ∃ A c q A2 n2 c2, v = .agg #[.slice A n c, .int .i64 ((q : Nat) : Int), .slice A2 n2 c2] ∧ Wq W A n c q A2 n2 c2 S H := by
  obtain ⟨A, c, A2, c2, e, h1, h2, h3, h4, h5⟩ := h
  subst hn
  exact ⟨A, c, _, A2, _, c2, e, rfl, rfl, rfl, h1, h2, h3, h4, h5⟩
section
variable {A A2 : Option Addr} {n c q n2 c2 : Nat} {H : List Bool} {S : List En} {W : World}
theorem wq_right (h : Wq W A n c q A2 n2 c2 S H) :
    Calls Try.prog 9 #[.agg #[.slice A n c, .int .i64 (q : Int), .slice A2 n2 c2]] W fun e w' => e = .returned (.bool true) ∧ Below W.heap.size W w' := by
  have hb := h.hb
  have h2 := ea_len H
  have hl := h.hl
  have hn2 := h.hn2
  refine (right_any W (by omega) (by omega) h.hn2 h.hi).mono ?_
  rintro e w' ⟨rfl, hB⟩
  refine ⟨?_, hB⟩
  have := rgW_ways (H := H) (by omega)
  rw [h.hl, h.hq] at this
  rw [this]
theorem wq_send (x : En) (h : Wq W A n c q A2 n2 c2 S H) (hb : n < 10000) :
    Calls Try.prog 10 #[.agg #[.slice A n c, .int .i64 (q : Int), .slice A2 n2 c2], .agg #[.int .i64 x.id, .int .i64 x.dy, .int .i64 x.fr, .int .i64 x.tt, .int .i64 x.am]] W fun e w' =>
      ∃ A' c' q' A2' n2' c2', e = .returned (.tuple #[.agg #[.slice A' (n + 1) c', .int .i64 ((q' : Nat) : Int), .slice A2' n2' c2'], .int .i64 0]) ∧ Wq w' A' (n + 1) c' q' A2' n2' c2' (S ++ [x]) (H ++ [false]) ∧ Below W.heap.size W w' ∧ (∀ a, A' = some a → W.heap.size ≤ a.block) ∧ ∀ a, A2' = some a → W.heap.size ≤ a.block := by
  have h1 := h.hn
  have h2 := h.hq
  have h3 := h.hn2
  subst h1 h2 h3
  refine (send_ok W h.he h.hi h.hl hb).mono ?_
  rintro e w' ⟨v, rfl, hv, hB, hab⟩
  obtain ⟨A', c', q', A2', n2', c2', rfl, hw⟩ := wy_wq hv (show (S ++ [x]).length = S.length + 1 by simp)
  exact ⟨A', c', q', A2', n2', c2', rfl, hw, hB, hab _ _ _ _ _ _ _ rfl⟩
/-- what is returned when something is refused -/
def Refd (k : Int) (W : World) (e : Ending) (w' : World) : Prop := e = .returned (.tuple #[.agg #[.slice none 0 0, .int .i64 0, .slice none 0 0], .slice none 0 0, .int .i64 k]) ∧ Below W.heap.size W w'
/-- what is returned when a message arrives -/
def Arrd (W : World) (n : Nat) (S : List En) (H : List Bool) (p : Nat) (e : Ending) (w' : World) : Prop :=
  ∃ A' c' q' A2' n2' c2' A5 m c5, e = .returned (.tuple #[.agg #[.slice A' n c', .int .i64 ((q' : Nat) : Int), .slice A2' n2' c2'], .slice A5 m c5, .int .i64 0]) ∧ Wq w' A' n c' q' A2' n2' c2' S (H.set p true) ∧ (dlv S H p).length = m ∧ Ens w' A5 (dlv S H p) ∧ Below W.heap.size W w' ∧ (∀ a, A' = some a → W.heap.size ≤ a.block) ∧ (∀ a, A2' = some a → W.heap.size ≤ a.block) ∧ ∀ a, A5 = some a → W.heap.size ≤ a.block
theorem wq_none {seq : Int} (h : Wq W A n c q A2 n2 c2 S H) (hs : seq < 0 ∨ (n : Int) ≤ seq) :
    Calls Try.prog 11 #[.agg #[.slice A n c, .int .i64 (q : Int), .slice A2 n2 c2], .int .i64 seq] W (Refd 4 W) := by
  have h1 := h.hn
  have h2 := h.hq
  have h3 := h.hn2
  subst h1 h2 h3
  rcases hs with hs | hs
  · exact arr_neg W seq h.he h.hi h.hl h.hb h.hc hs
  · exact arr_big W seq h.he h.hi h.hl h.hb h.hc hs
theorem wq_twice {p : Nat} (h : Wq W A n c q A2 n2 c2 S H) (hs : H[p]? = some true) :
    Calls Try.prog 11 #[.agg #[.slice A n c, .int .i64 (q : Int), .slice A2 n2 c2], .int .i64 (p : Int)] W (Refd 5 W) := by
  have h1 := h.hn
  have h2 := h.hq
  have h3 := h.hn2
  have hp := lt_of_at hs
  have hl := h.hl
  subst h1 h2 h3
  by_cases hq : p < nx H
  · exact arr_done W p h.he h.hi h.hl h.hb h.hc (by omega) (by omega) (by omega)
  · refine arr_early W p h.he h.hi h.hl h.hb h.hc (by omega) (by omega) (by omega) (mem_ea.2 ⟨p, rfl, ?_, hs⟩)
    rcases Nat.lt_or_ge (nx H) p with h' | h'
    · exact h'
    · have e : p = nx H := by omega
      rw [e] at hs
      exact absurd hs (nx_at H)
theorem wq_ok {p : Nat} (h : Wq W A n c q A2 n2 c2 S H) (hs : H[p]? = some false) :
    Calls Try.prog 11 #[.agg #[.slice A n c, .int .i64 (q : Int), .slice A2 n2 c2], .int .i64 (p : Int)] W (Arrd W n S H p) := by
  have h1 := h.hn
  have h2 := h.hq
  have h3 := h.hn2
  have hp := lt_of_at hs
  have hl := h.hl
  subst h1 h2 h3
  rcases Nat.lt_trichotomy p (nx H) with hq | hq | hq
  · have := nx_lo H p hq
    rw [this] at hs
    cases hs
  · subst hq
    refine (arr_next W h.he h.hi h.hl h.hb h.hc (by omega)).mono ?_
    rintro e w' ⟨v, A5, c5, rfl, hv, hE, hB, hab, h5⟩
    obtain ⟨A', c', q', A2', n2', c2', rfl, hw⟩ := wy_wq hv rfl
    exact ⟨A', c', q', A2', n2', c2', A5, _, c5, rfl, hw, rfl, hE, hB, (hab _ _ _ _ _ _ _ rfl).1, (hab _ _ _ _ _ _ _ rfl).2, h5⟩
  · refine (arr_fore W p h.he h.hi h.hl h.hb h.hc (by omega) hq hs).mono ?_
    rintro e w' ⟨v, A5, c5, rfl, hv, hE, hB, hab, h5⟩
    obtain ⟨A', c', q', A2', n2', c2', rfl, hw⟩ := wy_wq hv rfl
    exact ⟨A', c', q', A2', n2', c2', A5, _, c5, rfl, hw, rfl, hE, hB, (hab _ _ _ _ _ _ _ rfl).1, (hab _ _ _ _ _ _ _ rfl).2, h5⟩
theorem wq_flight (h : Wq W A n c q A2 n2 c2 S H) :
    Calls Try.prog 12 #[.agg #[.slice A n c, .int .i64 (q : Int), .slice A2 n2 c2]] W fun e w' => ∃ A5 m c5, e = .returned (.slice A5 m c5) ∧ (S.drop (nx H)).length = m ∧ Ens w' A5 (S.drop (nx H)) ∧ Below W.heap.size W w' := by
  have h1 := h.hn
  have h2 := h.hq
  have h3 := h.hn2
  subst h1 h2 h3
  refine (flight_any W h.he h.hi h.hl h.hb h.hc).mono ?_
  rintro e w' ⟨A5, c5, rfl, hE, hB⟩
  exact ⟨A5, _, c5, rfl, rfl, hE, hB⟩
theorem wq_again (h : Wq W A n c q A2 n2 c2 S H) :
    Calls Try.prog 13 #[.agg #[.slice A n c, .int .i64 (q : Int), .slice A2 n2 c2]] W fun e w' => ∃ A5 m c5, e = .returned (.slice A5 m c5) ∧ (ag H).length = m ∧ Ints w' A5 (ag H) ∧ Below W.heap.size W w' := by
  have h1 := h.hn
  have h2 := h.hq
  have h3 := h.hn2
  subst h1 h2 h3
  refine (again_any W h.he h.hi h.hl h.hb h.hc).mono ?_
  rintro e w' ⟨A5, c5, rfl, hE, hB⟩
  exact ⟨A5, _, c5, rfl, rfl, hE, hB⟩
end
theorem ens_row {W : World} {g : Nat} {t : TypeId} {cs : Array Value} {l : List En} (h : Row W g t cs) (hl : cs.toList = l.flatMap ecs) : Ens W (some ⟨g, 0, none⟩) l := fun _ => ⟨g, 0, rfl, fun j x hx => by
  have key : ∀ (r : Nat) (v : Value), (ecs x)[r]? = some v → r < 5 → W.cell? ⟨g, 0 + j * 5 + r, none⟩ = some v := fun r v hr h8 => by
    have := Gen.flat_at (f := ecs) (K := 5) (fun _ => rfl) l _ _ hx r h8
    rw [hr, ← hl] at this
    rw [h.cell, show 0 + j * 5 + r = j * 5 + r by omega]
    simpa using this
  exact ⟨key 0 _ rfl (by omega), key 1 _ rfl (by omega), key 2 _ rfl (by omega), key 3 _ rfl (by omega), key 4 _ rfl (by omega)⟩⟩
theorem row_ints {W : World} {g : Nat} {t : TypeId} {cs : Array Value} {l : List Int} (h : Row W g t cs) (hl : cs.toList = ints l) : Ints W (some ⟨g, 0, none⟩) l := fun _ => ⟨g, 0, rfl, fun j z hz => by
  have : (ints l)[j]? = some (.int .i64 z) := by simp [ints, hz]
  rw [← hl] at this
  rw [Nat.zero_add, h.cell]
  simpa using this⟩
def ent (k : Int) : En := ⟨k, 0, 0, 1, 10 + k⟩
set_option maxRecDepth 100000 in
theorem entry_is (k : Int) (w : World) (h0 : 0 ≤ k) (h1 : k ≤ 100) : Calls Try.prog 21 #[.int .i64 k] w fun e w' => e = .returned (.agg #[.int .i64 k, .int .i64 0, .int .i64 0, .int .i64 1, .int .i64 (10 + k)]) ∧ Below w.heap.size w w' := by
  have HB := Lib.hid (show Below w.heap.size w (w.alloc (.cells #[.int .i64 k, .int .i64 0, .int .i64 0, .int .i64 1, .int .i64 (10 + k)] 36)) from Gen.b_alloc (Below.refl _ _))
  go_enter Try.func21, Try.ntmps21
  go_wp2
  exact bodyPost_ret (v := .agg #[.int .i64 k, .int .i64 0, .int .i64 0, .int .i64 1, .int .i64 (10 + k)]) (by simp [results, Try.results21, go_sem, *]) rfl ⟨rfl, HB.out⟩
end Go.Proofs.Ytefikmfogbdhpaa.Po
