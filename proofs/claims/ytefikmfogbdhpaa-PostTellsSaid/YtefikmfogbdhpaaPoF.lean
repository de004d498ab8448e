/- Post: Arrive: the next message. -/
import Derived.Test.YtefikmfogbdhpaaPoE
namespace Go.Proofs.Ytefikmfogbdhpaa.Po
open Go.ChangeShapes Go.WideShapes Go.ChangeAt Go.RowKit Go.Proofs.Ytefikmfogbdhpaa.Cell
set_option linter.unusedVariables false
set_option linter.unusedSimpArgs false

/-- what holds in the loop that moves on -/
structure Lp (w wr : World) (g : Nat) (A : Option Addr) (n c q : Nat) (A2 : Option Addr) (n2 c2 : Nat) (A3 : Option Addr) (c3 B : Nat) (S : List En) (K : List Bool) (m : Nat) (l : List Int) (A6 : Option Addr) (n6 c6 : Nat) : Prop where
  lo : ∀ j, j < m → K[j]? = some true
  le : l = ms true K m K.length
  ln : l.length = n6
  cp : n6 ≤ c6
  i : Ints wr A6 l
  r9 : Row wr g 27 #[.slice A3 n c3, .int .i64 (m : Int), .slice A6 n6 c6]
  r0 : Row wr w.heap.size 27 #[.slice A n c, .int .i64 (q : Int), .slice A2 n2 c2]
  r2 : Row wr (w.heap.size + 1) 27 #[.slice none 0 0, .int .i64 0, .slice none 0 0]
  o : wr.ownsRow B 36 5 (.slice A3 n c3) n (S.flatMap ecs)
  ob : (Value.slice A3 n c3).ownBlock ≠ some g
  e : Ens wr A S
  ab : ∀ a, A6 = some a → a.block ≠ g ∧ a.block ≠ w.heap.size + 1 ∧ w.heap.size ≤ a.block
  bl : Below w.heap.size w wr
  g2 : w.heap.size + 2 ≤ g
  bb : w.heap.size + 2 ≤ B
  qm : q + 1 ≤ m
/-- the length of a slice in the third cell of a block -/
def lenAt (w : World) (g : Nat) : Nat := match w.cell? ⟨g, 2, none⟩ with
  | some (.slice _ n _) => n
  | _ => 0
theorem ens_put {w : World} {A : Option Addr} {l : List En} (h : Ens w A l) {p : Addr} (hp : ∀ a, A = some a → a.block ≠ p.block) (u : Value) : Ens (w.setCell p u) A l := fun h0 => by
  obtain ⟨b, off, e, hc⟩ := h h0
  have key : ∀ o, (w.setCell p u).cell? ⟨b, o, none⟩ = w.cell? ⟨b, o, none⟩ := fun o => World.cell?_setCell_other w p ⟨b, o, none⟩ u (fun c => hp _ e (by rw [c]))
  exact ⟨b, off, e, fun j x hx => by
    obtain ⟨a0, a1, a2, a3, a4⟩ := hc j x hx
    exact ⟨(key _).trans a0, (key _).trans a1, (key _).trans a2, (key _).trans a3, (key _).trans a4⟩⟩
theorem ens_low {w W : World} {A : Option Addr} {l : List En} (h : Ens w A l) (h0 : 0 < l.length) : ∀ a, A = some a → a.block < w.heap.size := fun a ha => by
  obtain ⟨b, off, e, hc⟩ := h h0
  rw [ha] at e
  injection e with e
  subst e
  obtain ⟨x, hx⟩ := at_ l 0 h0
  exact World.block_lt_of_cell? w ⟨b, off + 0 * 5, none⟩ (hc 0 x hx).c0
section
variable {w wr : World} {g : Nat} {A A2 A3 A6 : Option Addr} {n c q n2 c2 c3 B m n6 c6 : Nat} {S : List En} {K : List Bool} {l : List Int}
theorem Lp.len (h : Lp w wr g A n c q A2 n2 c2 A3 c3 B S K m l A6 n6 c6) : lenAt wr g = n6 := by
  unfold lenAt
  have := h.r9.cell 2
  rw [this]
  rfl
theorem Lp.drewN (h : Lp w wr g A n c q A2 n2 c2 A3 c3 B S K m l A6 n6 c6) (k : Nat) : Lp w (wr.drewN k) g A n c q A2 n2 c2 A3 c3 B S K m l A6 n6 c6 :=
  have hb : Below wr.heap.size wr (wr.drewN k) := Gen.dN (Below.refl _ _) k
  ⟨h.lo, h.le, h.ln, h.cp, h.i.keep hb, h.r9.keep hb, h.r0.keep hb, h.r2.keep hb, Gen.own_keep h.o hb, h.ob, h.e.keep hb, h.ab, Gen.dN h.bl k, h.g2, h.bb, h.qm⟩
theorem Lp.step {y : Int} {r : List Int} {A7 : Option Addr} (h : Lp w wr g A n c q A2 n2 c2 A3 c3 B S K m (y :: r) A6 n6 c6) (hy : y = m) (hA : 0 < S.length → ∀ a, A = some a → a.block < w.heap.size) (hi : Ints wr A7 r) (hab : ∀ a, A7 = some a → ∃ b, A6 = some b ∧ a.block = b.block) :
    Lp w ((wr.setCell ⟨g, 2, none⟩ (.slice A7 (n6 - 1) (c6 - 1))).setCell ⟨g, 1, none⟩ (.int .i64 ((m : Int) + 1))) g A n c q A2 n2 c2 A3 c3 B S K (m + 1) r A7 (n6 - 1) (c6 - 1) := by
  have hab' : ∀ a, A7 = some a → a.block ≠ g ∧ a.block ≠ w.heap.size + 1 ∧ w.heap.size ≤ a.block := fun a ha => by
    obtain ⟨b, hb, e⟩ := hab a ha
    rw [e]
    exact h.ab b hb
  have g2 := h.g2
  obtain ⟨h1, h2, h3⟩ := adv_more h.lo (show (m : Int) :: r = _ by rw [← hy]; exact h.le)
  have hln := h.ln
  simp at hln
  have hcp := h.cp
  refine ⟨h2, h3, by omega, by omega, ints_put (ints_put hi (fun a ha => (hab' a ha).1) _) (fun a ha => (hab' a ha).1) _, ?_, row_put (row_put h.r0 (by show g ≠ _; omega) _) (by show g ≠ _; omega) _, row_put (row_put h.r2 (by show g ≠ _; omega) _) (by show g ≠ _; omega) _, own_put_ne (own_put_ne h.o h.ob _) h.ob _, h.ob, ?_, hab', Gen.b_set (Gen.b_set h.bl (by show w.heap.size ≤ g; omega)) (by show w.heap.size ≤ g; omega), g2, h.bb, by have := h.qm; omega⟩
  · exact (h.r9.set 2 (.slice A7 (n6 - 1) (c6 - 1))).set 1 (.int .i64 ((m : Int) + 1))
  · intro h0
    exact ens_put (ens_put h.e (fun a ha => by have := hA h0 a ha; show a.block ≠ g; omega) _) (fun a ha => by have := hA h0 a ha; show a.block ≠ g; omega) _ h0
theorem Lp.out (h : Lp w wr g A n c q A2 n2 c2 A3 c3 B S K m l A6 n6 c6) (hl : ∀ x, l[0]? = some x → x ≠ (m : Int)) : nx K = m ∧ l = ea K := by
  have hm := adv_end (adv_le h.lo) h.lo (by rw [← h.le]; exact hl)
  exact ⟨hm, by unfold ea; rw [hm]; exact h.le⟩
theorem kx_put3 {W : World} {g : Nat} {a b x0 x1 x2 u0 u1 u2 : Value} (hg : w.heap.size + 2 ≤ g) (h : Below w.heap.size w W ∧ W.cell? ⟨w.heap.size, 0, none⟩ = some a ∧ W.cell? ⟨w.heap.size, 1, none⟩ = some b ∧ W.cell? ⟨g, 0, none⟩ = some x0 ∧ W.cell? ⟨g, 1, none⟩ = some x1 ∧ W.cell? ⟨g, 2, none⟩ = some x2) :
    Below w.heap.size w (((W.setCell ⟨w.heap.size + 1, 0, none⟩ u0).setCell ⟨w.heap.size + 1, 1, none⟩ u1).setCell ⟨w.heap.size + 1, 2, none⟩ u2) ∧ (((W.setCell ⟨w.heap.size + 1, 0, none⟩ u0).setCell ⟨w.heap.size + 1, 1, none⟩ u1).setCell ⟨w.heap.size + 1, 2, none⟩ u2).cell? ⟨w.heap.size, 0, none⟩ = some a ∧
      (((W.setCell ⟨w.heap.size + 1, 0, none⟩ u0).setCell ⟨w.heap.size + 1, 1, none⟩ u1).setCell ⟨w.heap.size + 1, 2, none⟩ u2).cell? ⟨w.heap.size, 1, none⟩ = some b ∧ (((W.setCell ⟨w.heap.size + 1, 0, none⟩ u0).setCell ⟨w.heap.size + 1, 1, none⟩ u1).setCell ⟨w.heap.size + 1, 2, none⟩ u2).cell? ⟨g, 0, none⟩ = some x0 ∧
      (((W.setCell ⟨w.heap.size + 1, 0, none⟩ u0).setCell ⟨w.heap.size + 1, 1, none⟩ u1).setCell ⟨w.heap.size + 1, 2, none⟩ u2).cell? ⟨g, 1, none⟩ = some x1 ∧ (((W.setCell ⟨w.heap.size + 1, 0, none⟩ u0).setCell ⟨w.heap.size + 1, 1, none⟩ u1).setCell ⟨w.heap.size + 1, 2, none⟩ u2).cell? ⟨g, 2, none⟩ = some x2 := by
  obtain ⟨h0, h1, h2, h3, h4, h5⟩ := h
  have hne : ∀ (i j : Nat), (⟨w.heap.size + 1, i, none⟩ : Addr) ≠ ⟨g, j, none⟩ := fun i j e => by injection e with e; omega
  have hne' : ∀ (i j : Nat), (⟨w.heap.size + 1, i, none⟩ : Addr) ≠ ⟨w.heap.size, j, none⟩ := fun i j e => by injection e with e; omega
  refine ⟨Gen.b_set (Gen.b_set (Gen.b_set h0 (by simp)) (by simp)) (by simp), ?_, ?_, ?_, ?_, ?_⟩
  all_goals
    rw [World.cell?_setCell_other _ _ _ _ (by first | exact hne _ _ | exact hne' _ _), World.cell?_setCell_other _ _ _ _ (by first | exact hne _ _ | exact hne' _ _), World.cell?_setCell_other _ _ _ _ (by first | exact hne _ _ | exact hne' _ _)]
    assumption
end
section
variable {A A2 : Option Addr} {c c2 : Nat} {H : List Bool} {S : List En}
set_option maxRecDepth 100000 in
set_option maxHeartbeats 4000000 in
theorem arr_next (w : World) (hE : Ens w A S) (hI : Ints w A2 (ea H)) (hl : H.length = S.length) (hb : S.length ≤ 10000) (hcp : S.length ≤ c) (hp1 : nx H < S.length) :
    Calls Try.prog 11 #[.agg #[.slice A S.length c, .int .i64 (nx H : Int), .slice A2 (ea H).length c2], .int .i64 (nx H : Int)] w fun e w' =>
      ∃ v A5 c5, e = .returned (.tuple #[v, .slice A5 (dlv S H (nx H)).length c5, .int .i64 0]) ∧ Wy w' v S (H.set (nx H) true) ∧ Ens w' A5 (dlv S H (nx H)) ∧ Below w.heap.size w w' ∧ Abv w.heap.size v ∧ ∀ a, A5 = some a → w.heap.size ≤ a.block := by
  obtain ⟨n, hn⟩ : ∃ n, S.length = n := ⟨_, rfl⟩
  obtain ⟨n2, hn2⟩ : ∃ n2, (ea H).length = n2 := ⟨_, rfl⟩
  obtain ⟨q, hq⟩ : ∃ q, nx H = q := ⟨_, rfl⟩
  have hn2b : n2 ≤ 10000 := by have := ea_len H; omega
  have hqn : q ≤ n := by have := nx_le H; omega
  have HRG := Lib.hid (show rgW n q (ea H) = true by rw [← hn, ← hl, ← hq]; exact rgW_ways (by omega))
  have HAS := Lib.hid (asc_of (ea_sorted H))
  try rw [hn] at hp1
  try rw [hq] at hp2
  rw [hn] at hb hcp
  simp only [hn, hn2, hq]
  have HN := Lib.hid hn
  have HN2 := Lib.hid hn2
  have HQ := Lib.hid hq
  have HL := Lib.hid hl
  have hAl : 0 < S.length → ∀ a, A = some a → a.block < w.heap.size := fun h0 => ens_low (W := w) hE h0
  have hB0 : Below w.heap.size w ((w.alloc (.cells #[.slice A n c, .int .i64 (q : Int), .slice A2 n2 c2] 27)).alloc (.cells #[.slice none 0 0, .int .i64 0, .slice none 0 0] 27)) := Gen.b_alloc (Gen.b_alloc (Below.refl _ _))
  have hr0 : Row ((w.alloc (.cells #[.slice A n c, .int .i64 (q : Int), .slice A2 n2 c2] 27)).alloc (.cells #[.slice none 0 0, .int .i64 0, .slice none 0 0] 27)) w.heap.size 27 #[.slice A n c, .int .i64 (q : Int), .slice A2 n2 c2] := (Row.new _ _ _).alloc _
  have hr2 : Row ((w.alloc (.cells #[.slice A n c, .int .i64 (q : Int), .slice A2 n2 c2] 27)).alloc (.cells #[.slice none 0 0, .int .i64 0, .slice none 0 0] 27)) (w.heap.size + 1) 27 #[.slice none 0 0, .int .i64 0, .slice none 0 0] := Gen.rowAt _ _ _ (by simp)
  have HE := Lib.hid (hE.keep hB0)
  have HI := Lib.hid (hI.keep hB0)
  clear hn hn2 hq hl hE hI
  go_enter Try.func11, Try.ntmps11
  go_wp2_with (fail)
  generalize (w.alloc (.cells #[.slice A n c, .int .i64 (q : Int), .slice A2 n2 c2] 27)).alloc (.cells #[.slice none 0 0, .int .i64 0, .slice none 0 0] 27) = W0 at *
  go_must (refine (right_any _ (by omega) (by omega) HN2.out HI.out).mono ?_)
  rintro e w1 ⟨rfl, hb1⟩
  rw [HRG.out]
  have s0 := hr0.keep hb1
  have d0 := s0.cell 0
  have d1 := s0.cell 1
  have d2 := s0.cell 2
  have hB1 := Gen.over hb1 hB0
  have HE1 := Lib.hid (HE.out.keep hb1)
  have HI1 := Lib.hid (HI.out.keep hb1)
  have r2 := hr2.keep hb1
  have k0 := r2.cell 0
  have k1 := r2.cell 1
  have k2 := r2.cell 2
  have kf0 := r2.frozen 0
  have kf1 := r2.frozen 1
  have kf2 := r2.frozen 2
  have kl := r2.lt
  clear hb1 hr0 hr2 HE HI hB0
  rw [HQ.out] at hp1
  have hs0 : ¬ (q : Int) < 0 := by omega
  have hs1 : ¬ (n : Int) ≤ (q : Int) := by omega
  have HBB : Hid (decide ((q : Int) ∈ ea H) = false) := Lib.hid (decide_eq_false fun hm => by
    obtain ⟨j, e, h2, h3⟩ := mem_ea.1 hm
    have := HQ.out
    omega)
  have HAL := Lib.hid hAl
  clear hAl
  go_wp2_with (fail)
  go_must (refine (bsearch_is _ HN2.out HI1.out (by omega) HAS.out HBB.out).mono ?_)
  rintro e w9 ⟨i, rfl, hbs, rfl⟩
  clear hbs
  clear d0 d1 d2
  have d0 := s0.cell 0
  have d1 := s0.cell 1
  have d2 := s0.cell 2
  go_wp2_with (fail)
  go_must (refine (clone_way _ HN.out HE1.out HN2.out HI1.out (by omega) (by omega)).mono ?_)
  rintro e w2 ⟨A3, c3, A4, c4, rfl, ho3, ho4, hb2, hne2⟩
  have x0 := s0.keep hb2
  have x2 := r2.keep hb2
  have hB2 := Gen.over hb2 hB1
  have hB1s : w.heap.size + 2 ≤ w1.heap.size := by have := r2.lt; omega
  have hB2s : w1.heap.size ≤ w2.heap.size := hb2.size
  have HE2 := Lib.hid (HE1.out.keep hb2)
  clear d0 d1 d2 k0 k1 k2 kf0 kf1 kf2 kl s0 r2 hb2 hB1
  go_upto_region 9 with (fail)
  have x0 := x0.alloc (.cells #[.slice A3 n c3, .int .i64 (q : Int), .slice A4 n2 c4] 27)
  have x2 := x2.alloc (.cells #[.slice A3 n c3, .int .i64 (q : Int), .slice A4 n2 c4] 27)
  have x9 : Row (w2.alloc (.cells #[.slice A3 n c3, .int .i64 (q : Int), .slice A4 n2 c4] 27)) w2.heap.size 27 #[.slice A3 n c3, .int .i64 (q : Int), .slice A4 n2 c4] := Row.new _ _ _
  have hB3 : Below w.heap.size w (w2.alloc (.cells #[.slice A3 n c3, .int .i64 (q : Int), .slice A4 n2 c4] 27)) := Gen.b_alloc hB2
  have hb3 : Below w2.heap.size w2 (w2.alloc (.cells #[.slice A3 n c3, .int .i64 (q : Int), .slice A4 n2 c4] 27)) := Gen.b_alloc (Below.refl _ _)
  have hs3 : ((w2.alloc (.cells #[.slice A3 n c3, .int .i64 (q : Int), .slice A4 n2 c4] 27))).heap.size = w2.heap.size + 1 := by simp
  generalize (w2.alloc (.cells #[.slice A3 n c3, .int .i64 (q : Int), .slice A4 n2 c4] 27)) = w3 at *
  have HS3 := Lib.hid hs3
  have HE3 := Lib.hid (HE2.out.keep hb3)
  have HO3 := Lib.hid (Gen.own_keep ho3 hb3)
  have HO4 := Lib.hid (Gen.own_keep ho4 hb3)
  have HW3 := Lib.hid ho3
  have HW4 := Lib.hid ho4
  have HNE := Lib.hid hne2
  have HB3 := Lib.hid hB3
  clear hb3 hs3 ho3 ho4 hB2 hB3 hne2
  have e1 := x0.cell 1
  have h1 := x9.cell 1
  have hf1 := x9.frozen 1
  have hqI : (q : Int) ≤ 10000 := by omega
  go_wp2_with (fail)
  have hw : IntKind.i64.wrap ((q : Int) + 1) = (q : Int) + 1 := IntWalk.i64_in _ (by omega)
  have hOB : (Value.slice A3 n c3).ownBlock ≠ some w2.heap.size := fun h => by have := (HW3.out.lt _ h).2; omega
  have hLP : Lp w (w3.setCell ⟨w2.heap.size, 1, none⟩ (.int .i64 ((q : Int) + 1))) w2.heap.size A n c q A2 n2 c2 A3 c3 w1.heap.size S (H.set q true) (q + 1) (ea H) A4 n2 c4 := by
    have hab : ∀ a, A4 = some a → a.block ≠ w2.heap.size ∧ a.block ≠ w.heap.size + 1 ∧ w.heap.size ≤ a.block := fun a h => by
      subst h
      have := HW4.out.lt a.block rfl
      omega
    have hst := adv_start (H := H) (by rw [HQ.out, HL.out, HN.out]; exact hp1)
    rw [HQ.out] at hst
    have hi4 : Ints w3 A4 (ea H) := by
      obtain ⟨_, _, e, h⟩ := ints_own HO4.out HN2.out
      injection e with e
      subst e
      exact h
    have hb3 := HB3.out
    have hs1' := HE1.out
    refine ⟨hst.1, by rw [List.length_set]; exact hst.2, HN2.out, own_cap HO4.out, ints_put hi4 (fun a ha => (hab a ha).1) _, ?_, row_put x0 (by show w2.heap.size ≠ _; omega) _, row_put x2 (by show w2.heap.size ≠ _; omega) _, own_put_ne HO3.out hOB _, hOB, ?_, hab, Gen.b_set hb3 (by show w.heap.size ≤ w2.heap.size; omega), by omega, by omega, Nat.le_refl _⟩
    · have := x9.set 1 (.int .i64 ((q : Int) + 1))
      exact this
    · intro h0
      exact ens_put (HE3.out) (fun a ha => by have := HAL.out h0 a ha; show a.block ≠ w2.heap.size; omega) _ h0
  generalize w3.setCell ⟨w2.heap.size, 1, none⟩ (.int .i64 ((q : Int) + 1)) = w4 at *
  have HLP := Lib.hid hLP
  clear hLP x0 x2 x9 e1 h1 hf1 HO3 HO4 HW3 HW4 HNE HB3 HS3 hOB HE3
  go_loopw [60] (fun v wr => ∃ (m : Nat) (l : List Int) (A6 : Option Addr) (n6 c6 : Nat), Hid (Lp w wr w2.heap.size A n c q A2 n2 c2 A3 c3 w1.heap.size S (H.set q true) m l A6 n6 c6)) (fun _ wr => lenAt wr w2.heap.size)
  case atStart => exact ⟨q + 1, ea H, A4, n2, c4, HLP⟩
  case round =>
    clear HLP
    obtain ⟨m, l, A6, n6, c6, HLP⟩ := hrel
    have e1 := HLP.out.r9.cell 1
    have e2 := HLP.out.r9.cell 2
    have f1 := HLP.out.r9.frozen 1
    have f2 := HLP.out.r9.frozen 2
    have hmn : m ≤ n := by have := adv_le HLP.out.lo; rw [List.length_set, HL.out, HN.out] at this; exact this
    have hmI : (m : Int) ≤ 10000 := by omega
    have hm0 : (0 : Int) ≤ (m : Int) := by omega
    have hLEN := Lib.hid HLP.out.len
    clear hw
    by_cases hgo : ∃ r, l = (m : Int) :: r
    · obtain ⟨r, rfl⟩ := hgo
      obtain ⟨b, off, rfl, hcell⟩ := HLP.out.i (by simp)
      have e3 : wr.cell? ⟨b, off, none⟩ = some (.int .i64 (m : Int)) := by simpa using hcell 0 (m : Int) rfl
      have hn6 := HLP.out.ln
      have hc6 := HLP.out.cp
      have hn6I : (0 : Int) < (n6 : Int) := by simp at hn6; omega
      have hn6D : decide ((0 : Int) < (n6 : Int)) = true := decide_eq_true hn6I
      have hn61 : (1 : Int) ≤ (n6 : Int) := by omega
      have hn6N : 0 < n6 := by omega
      have hmm : ((m : Int) == (m : Int)) = true := by simp
      have HC := Lib.hid hcell
      have HN6 := Lib.hid hn6
      clear hcell hn6
      by_cases hc1 : c6 = 1
      all_goals
        first | (have hcp3 : (c6 = 1) = True := eq_true hc1) | (have hcp3 : (c6 = 1) = False := eq_false hc1)
        have HC1 := Lib.hid hc1
        clear hc1
        go_wp2_with (fail)
        go_quiet (fail)
        go_wp2
        have hab : ∀ (d : Nat) (a : Addr), some (⟨b, d, none⟩ : Addr) = some a → ∃ b', some (⟨b, off, none⟩ : Addr) = some b' ∧ a.block = b'.block := fun d a h => by
          injection h with h
          subst h
          exact ⟨_, rfl, rfl⟩
        have hL8 := HLP.out.drewN nq
        have hr1 := HN6.out
        simp at hr1
        first
          | (have hS := hL8.step (A7 := some ⟨b, off, none⟩) rfl HAL.out (fun h0 => by have := HC1.out; omega) (hab _))
          | (have hS := hL8.step (A7 := some ⟨b, off + 1, none⟩) rfl HAL.out (fun h0 => ⟨b, off + 1, rfl, fun j z hz => by
              have := HC.out (j + 1) z (by simpa using hz)
              rw [show off + (j + 1) = off + 1 + j by omega] at this
              exact this⟩) (hab _))
        refine ⟨⟨m + 1, r, _, _, _, Lib.hid hS⟩, ?_⟩
        have h5 := hS.len
        have h6 := hLEN.out
        rw [h6]
        exact Nat.lt_of_le_of_lt (Nat.le_of_eq h5) (by omega)
    · have hO := HLP.out.out (fun x hx e => hgo ⟨l.tail, by
        cases l with
        | nil => simp at hx
        | cons y r => simp at hx; subst hx e; rfl⟩)
      have HM := Lib.hid hO.1
      have HEA := Lib.hid hO.2
      have hqm : q + 1 ≤ m := HLP.out.qm
      have hcq : ¬ c = q := by omega
      have hcqF : (c = q) = False := eq_false hcq
      have hq0 : (0 : Int) ≤ (q : Int) := by omega
      have hqmI : (q : Int) ≤ (m : Int) := by omega
      have hmcI : (m : Int) ≤ (c : Int) := by omega
      clear hO
      by_cases hnil : l = []
      · have hn0 : n6 = 0 := by have := HLP.out.ln; rw [hnil] at this; exact this.symm
        have hn6D : decide ((0 : Int) < (n6 : Int)) = false := decide_eq_false (by omega)
        have hn6E : decide (0 < n6) = false := decide_eq_false (by omega)
        clear hn0 hnil hgo
        go_wp2_with (fail)
        go_quiet (fail)
        go_upto_region 16 with (fail)
        have hL7 := HLP.out.drewN nq
        try clear hymF
        try clear hn6N
        try clear hn6I
        try clear e3
        try clear hn6E
        clear e1 e2 f1 f2 HLP hn6D hLEN
        generalize wr.drewN nq = w7 at hL7 ⊢
        have rq := (reads_pre (ens_reads HN.out hL7.e) hmn).cut (k := q) (by omega) (show m ≤ c by omega)
        rw [take_flat, drop_flat, if_neg hcq] at rq
        have RQ := Lib.hid rq
        have HD := Lib.hid (show ((S.take m).drop q).length = m - q by rw [List.length_drop, List.length_take, HN.out]; omega)
        have HS := Lib.hid (show Below w.heap.size w w7.drew ∧ w7.drew.cell? ⟨w.heap.size, 0, none⟩ = some (.slice A n c) ∧ w7.drew.cell? ⟨w.heap.size, 1, none⟩ = some (.int .i64 (q : Int)) ∧ w7.drew.cell? ⟨w2.heap.size, 0, none⟩ = some (.slice A3 n c3) ∧ w7.drew.cell? ⟨w2.heap.size, 1, none⟩ = some (.int .i64 (m : Int)) ∧ w7.drew.cell? ⟨w2.heap.size, 2, none⟩ = some (.slice A6 n6 c6) from ⟨hL7.bl.drew, hL7.r0.cell 0, hL7.r0.cell 1, hL7.r9.cell 0, hL7.r9.cell 1, hL7.r9.cell 2⟩)
        have HR2 := Lib.hid (show Row w7.drew (w.heap.size + 1) 27 #[.slice none 0 0, .int .i64 0, .slice none 0 0] from hL7.r2.keep (Below.refl _ _).drew)
        have hg2 := hL7.g2
        have hbb := hL7.bb
        have HL7 := Lib.hid hL7
        clear rq hcq hL7
        go_region_held3 (fun W' : World => Below w.heap.size w W' ∧ W'.cell? ⟨w.heap.size, 0, none⟩ = some (.slice A n c) ∧ W'.cell? ⟨w.heap.size, 1, none⟩ = some (.int .i64 (q : Int)) ∧ W'.cell? ⟨w2.heap.size, 0, none⟩ = some (.slice A3 n c3) ∧ W'.cell? ⟨w2.heap.size, 1, none⟩ = some (.int .i64 (m : Int)) ∧ W'.cell? ⟨w2.heap.size, 2, none⟩ = some (.slice A6 n6 c6))
          (first | exact HS.out | exact kx_put3 hg2 (by assumption) | exact ⟨Gen.over (by assumption) (And.left (by assumption)), Gen.keep (by assumption) (And.left (And.right (by assumption))), Gen.keep (by assumption) (And.left (And.right (And.right (by assumption)))), Gen.keep (by assumption) (And.left (And.right (And.right (And.right (by assumption))))), Gen.keep (by assumption) (And.left (And.right (And.right (And.right (And.right (by assumption)))))), Gen.keep (by assumption) (And.right (And.right (And.right (And.right (And.right (by assumption))))))⟩ | fail "keep")
          (first
            | (go_at_call 25; refine (clone_er HD.out RQ.out.drew (Nat.le_refl _) (by omega)).mono ?_; rintro e' w8 ⟨A8, c8, rfl, ho8, hB8⟩; have hR8 := HR2.out.keep hB8; have e0 := hR8.cell 0; have e1 := hR8.cell 1; have e2 := hR8.cell 2; have f0 := hR8.frozen 0; have f1 := hR8.frozen 1; have f2 := hR8.frozen 2; have hg := hR8.lt)
            | fail "arm")
        all_goals
          rename_i hKK
          have hL8 : Below w7.heap.size w7 w8 := (Below.refl _ _).drew.trans (hB8.mono (Nat.le_refl _))
          have s7 : w.heap.size + 2 ≤ w7.drew.heap.size := by have := HL7.out.r9.lt; show w.heap.size + 2 ≤ w7.heap.size; omega
          have HE7 := Lib.hid (own_put (own_put (own_put (Gen.own_keep HL7.out.o hL8) (p := ⟨w.heap.size + 1, 0, none⟩) (by show w.heap.size + 1 < _; omega) (.slice A3 n c3)) (p := ⟨w.heap.size + 1, 1, none⟩) (by show w.heap.size + 1 < _; omega) (.int .i64 (m : Int))) (p := ⟨w.heap.size + 1, 2, none⟩) (by show w.heap.size + 1 < _; omega) (.slice A6 n6 c6))
          have HD7 := Lib.hid (own_put (own_put (own_put ho8 (p := ⟨w.heap.size + 1, 0, none⟩) (by show w.heap.size + 1 < _; omega) (.slice A3 n c3)) (p := ⟨w.heap.size + 1, 1, none⟩) (by show w.heap.size + 1 < _; omega) (.int .i64 (m : Int))) (p := ⟨w.heap.size + 1, 2, none⟩) (by show w.heap.size + 1 < _; omega) (.slice A6 n6 c6))
          have HI7 := Lib.hid (ints_put (ints_put (ints_put (HL7.out.i.keep hL8) (p := ⟨w.heap.size + 1, 0, none⟩) (fun a h => (HL7.out.ab a h).2.1) (.slice A3 n c3)) (p := ⟨w.heap.size + 1, 1, none⟩) (fun a h => (HL7.out.ab a h).2.1) (.int .i64 (m : Int))) (p := ⟨w.heap.size + 1, 2, none⟩) (fun a h => (HL7.out.ab a h).2.1) (.slice A6 n6 c6))
          have HCAP := Lib.hid (own_cap HL7.out.o)
          have HB7 := Lib.hid hKK.1
          have HLN := Lib.hid HL7.out.ln
          clear hKK hL8 s7 hB8 hR8 ho8
          go_wp2
          refine bodyPost_ret (v := .tuple #[.agg #[.slice A3 n c3, .int .i64 (m : Int), .slice A6 n6 c6], .slice A8 (m - q) c8, .int .i64 0]) (by simp [results, Try.results11, go_sem, *]) rfl ⟨.agg #[.slice A3 n c3, .int .i64 (m : Int), .slice A6 n6 c6], A8, c8, ?_, ?_, ?_, HB7.out, abv_mk (fun a h => Nat.le_trans (by omega) (own_ab HE7.out a h)) (fun a h => (HL7.out.ab a h).2.2), fun a h => Nat.le_trans (by have := HL7.out.r9.lt; have h9 : w7.drew.heap.size = w7.heap.size := rfl; omega) (own_ab HD7.out a h)⟩
          · unfold dlv
            rw [HM.out, HQ.out, HD.out]
          · exact ⟨A3, c3, _, c6, by rw [HM.out, ← HEA.out, HLN.out, HN.out], ens_own HN.out HE7.out, by rw [← HEA.out]; exact HI7.out, by rw [List.length_set, HL.out], by rw [HN.out]; exact hb, by rw [HN.out]; exact HCAP.out⟩
          · unfold dlv
            rw [HM.out, HQ.out]
            exact ens_own HD.out HD7.out
      · obtain ⟨y, r, rfl⟩ : ∃ y r, l = y :: r := by
          cases l with
          | nil => exact absurd rfl hnil
          | cons y r => exact ⟨y, r, rfl⟩
        have hym : y ≠ (m : Int) := fun e => hgo ⟨r, by rw [e]⟩
        have hymF : (y == (m : Int)) = false := by simpa using hym
        obtain ⟨b, off, rfl, hcell⟩ := HLP.out.i (by simp)
        have e3 : wr.cell? ⟨b, off, none⟩ = some (.int .i64 y) := by simpa using hcell 0 y rfl
        have hn6 := HLP.out.ln
        have hn6I : (0 : Int) < (n6 : Int) := by simp at hn6; omega
        have hn6D : decide ((0 : Int) < (n6 : Int)) = true := decide_eq_true hn6I
        have hn6N : 0 < n6 := by omega
        clear hcell hn6 hym hnil hgo
        go_wp2_with (fail)
        go_quiet (fail)
        go_upto_region 16 with (fail)
        have hL7 := HLP.out.drewN nq
        try clear hymF
        try clear hn6N
        try clear hn6I
        try clear e3
        try clear hn6E
        clear e1 e2 f1 f2 HLP hn6D hLEN
        generalize wr.drewN nq = w7 at hL7 ⊢
        have rq := (reads_pre (ens_reads HN.out hL7.e) hmn).cut (k := q) (by omega) (show m ≤ c by omega)
        rw [take_flat, drop_flat, if_neg hcq] at rq
        have RQ := Lib.hid rq
        have HD := Lib.hid (show ((S.take m).drop q).length = m - q by rw [List.length_drop, List.length_take, HN.out]; omega)
        have HS := Lib.hid (show Below w.heap.size w w7.drew ∧ w7.drew.cell? ⟨w.heap.size, 0, none⟩ = some (.slice A n c) ∧ w7.drew.cell? ⟨w.heap.size, 1, none⟩ = some (.int .i64 (q : Int)) ∧ w7.drew.cell? ⟨w2.heap.size, 0, none⟩ = some (.slice A3 n c3) ∧ w7.drew.cell? ⟨w2.heap.size, 1, none⟩ = some (.int .i64 (m : Int)) ∧ w7.drew.cell? ⟨w2.heap.size, 2, none⟩ = some (.slice (some ⟨b, off, none⟩) n6 c6) from ⟨hL7.bl.drew, hL7.r0.cell 0, hL7.r0.cell 1, hL7.r9.cell 0, hL7.r9.cell 1, hL7.r9.cell 2⟩)
        have HR2 := Lib.hid (show Row w7.drew (w.heap.size + 1) 27 #[.slice none 0 0, .int .i64 0, .slice none 0 0] from hL7.r2.keep (Below.refl _ _).drew)
        have hg2 := hL7.g2
        have hbb := hL7.bb
        have HL7 := Lib.hid hL7
        clear rq hcq hL7
        go_region_held3 (fun W' : World => Below w.heap.size w W' ∧ W'.cell? ⟨w.heap.size, 0, none⟩ = some (.slice A n c) ∧ W'.cell? ⟨w.heap.size, 1, none⟩ = some (.int .i64 (q : Int)) ∧ W'.cell? ⟨w2.heap.size, 0, none⟩ = some (.slice A3 n c3) ∧ W'.cell? ⟨w2.heap.size, 1, none⟩ = some (.int .i64 (m : Int)) ∧ W'.cell? ⟨w2.heap.size, 2, none⟩ = some (.slice (some ⟨b, off, none⟩) n6 c6))
          (first | exact HS.out | exact kx_put3 hg2 (by assumption) | exact ⟨Gen.over (by assumption) (And.left (by assumption)), Gen.keep (by assumption) (And.left (And.right (by assumption))), Gen.keep (by assumption) (And.left (And.right (And.right (by assumption)))), Gen.keep (by assumption) (And.left (And.right (And.right (And.right (by assumption))))), Gen.keep (by assumption) (And.left (And.right (And.right (And.right (And.right (by assumption)))))), Gen.keep (by assumption) (And.right (And.right (And.right (And.right (And.right (by assumption))))))⟩ | fail "keep")
          (first
            | (go_at_call 25; refine (clone_er HD.out RQ.out.drew (Nat.le_refl _) (by omega)).mono ?_; rintro e' w8 ⟨A8, c8, rfl, ho8, hB8⟩; have hR8 := HR2.out.keep hB8; have e0 := hR8.cell 0; have e1 := hR8.cell 1; have e2 := hR8.cell 2; have f0 := hR8.frozen 0; have f1 := hR8.frozen 1; have f2 := hR8.frozen 2; have hg := hR8.lt)
            | fail "arm")
        all_goals
          rename_i hKK
          have hL8 : Below w7.heap.size w7 w8 := (Below.refl _ _).drew.trans (hB8.mono (Nat.le_refl _))
          have s7 : w.heap.size + 2 ≤ w7.drew.heap.size := by have := HL7.out.r9.lt; show w.heap.size + 2 ≤ w7.heap.size; omega
          have HE7 := Lib.hid (own_put (own_put (own_put (Gen.own_keep HL7.out.o hL8) (p := ⟨w.heap.size + 1, 0, none⟩) (by show w.heap.size + 1 < _; omega) (.slice A3 n c3)) (p := ⟨w.heap.size + 1, 1, none⟩) (by show w.heap.size + 1 < _; omega) (.int .i64 (m : Int))) (p := ⟨w.heap.size + 1, 2, none⟩) (by show w.heap.size + 1 < _; omega) (.slice (some ⟨b, off, none⟩) n6 c6))
          have HD7 := Lib.hid (own_put (own_put (own_put ho8 (p := ⟨w.heap.size + 1, 0, none⟩) (by show w.heap.size + 1 < _; omega) (.slice A3 n c3)) (p := ⟨w.heap.size + 1, 1, none⟩) (by show w.heap.size + 1 < _; omega) (.int .i64 (m : Int))) (p := ⟨w.heap.size + 1, 2, none⟩) (by show w.heap.size + 1 < _; omega) (.slice (some ⟨b, off, none⟩) n6 c6))
          have HI7 := Lib.hid (ints_put (ints_put (ints_put (HL7.out.i.keep hL8) (p := ⟨w.heap.size + 1, 0, none⟩) (fun a h => (HL7.out.ab a h).2.1) (.slice A3 n c3)) (p := ⟨w.heap.size + 1, 1, none⟩) (fun a h => (HL7.out.ab a h).2.1) (.int .i64 (m : Int))) (p := ⟨w.heap.size + 1, 2, none⟩) (fun a h => (HL7.out.ab a h).2.1) (.slice (some ⟨b, off, none⟩) n6 c6))
          have HCAP := Lib.hid (own_cap HL7.out.o)
          have HB7 := Lib.hid hKK.1
          have HLN := Lib.hid HL7.out.ln
          clear hKK hL8 s7 hB8 hR8 ho8
          go_wp2
          refine bodyPost_ret (v := .tuple #[.agg #[.slice A3 n c3, .int .i64 (m : Int), .slice (some ⟨b, off, none⟩) n6 c6], .slice A8 (m - q) c8, .int .i64 0]) (by simp [results, Try.results11, go_sem, *]) rfl ⟨.agg #[.slice A3 n c3, .int .i64 (m : Int), .slice (some ⟨b, off, none⟩) n6 c6], A8, c8, ?_, ?_, ?_, HB7.out, abv_mk (fun a h => Nat.le_trans (by omega) (own_ab HE7.out a h)) (fun a h => (HL7.out.ab a h).2.2), fun a h => Nat.le_trans (by have := HL7.out.r9.lt; have h9 : w7.drew.heap.size = w7.heap.size := rfl; omega) (own_ab HD7.out a h)⟩
          · unfold dlv
            rw [HM.out, HQ.out, HD.out]
          · exact ⟨A3, c3, _, c6, by rw [HM.out, ← HEA.out, HLN.out, HN.out], ens_own HN.out HE7.out, by rw [← HEA.out]; exact HI7.out, by rw [List.length_set, HL.out], by rw [HN.out]; exact hb, by rw [HN.out]; exact HCAP.out⟩
          · unfold dlv
            rw [HM.out, HQ.out]
            exact ens_own HD.out HD7.out
end
end Go.Proofs.Ytefikmfogbdhpaa.Po
