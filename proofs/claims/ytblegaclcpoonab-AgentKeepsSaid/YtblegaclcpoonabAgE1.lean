/- play.did: what a script does. -/
import Derived.Test.YtblegaclcpoonabAgD
namespace Go.Proofs.Ytblegaclcpoonab.Agent
open Go.ChangeShapes Go.WideShapes Go.ChangeAt Go.RowKit Go.Proofs.Ytblegaclcpoonab.Cell
set_option linter.unusedVariables false
set_option linter.unusedSimpArgs false

section
variable {w0 w : World} {gx gp : Nat} {L : List Pu} {a b c d e kind who dst n : Int} {k : Nat}
set_option maxRecDepth 100000 in
set_option maxHeartbeats 8000000 in
theorem did_k1 (h : Pl w0 w gx gp L a b c d e) (iv : IV k L a b c d e) (hk : k < 60) {i j : Nat} (hi : i < 3) (hj : j < 3)  :
    Calls Try.prog 32 #[.pointer (some ⟨gx, 0, none⟩), .agg #[.int .i64 1, .int .i64 (i : Int), .int .i64 (j : Int), .int .i64 n]] w fun e' w' => e' = .returned (.bool true) ∧ ∃ L' a' b' c' d' e', IV (k + 1) L' a' b' c' d' e' ∧ Pl w0 w' gx gp L' a' b' c' d' e' := by
  have h1 := h.keep (Gen.b_alloc (x := .cells #[.int .i64 1, .int .i64 (i : Int), .int .i64 (j : Int), .int .i64 n] 57) (Below.refl _ _))
  have ho : Row (w.alloc (.cells #[.int .i64 1, .int .i64 (i : Int), .int .i64 (j : Int), .int .i64 n] 57)) w.heap.size 57 #[.int .i64 1, .int .i64 (i : Int), .int .i64 (j : Int), .int .i64 n] := Row.new _ _ _
  have x0 := h1.x.cell 0
  have o1 := ho.cell 1
  have o2 := ho.cell 2
  obtain ⟨x, hx⟩ : ∃ x, L[i]? = some x := ⟨L[i]'(by rw [iv.len]; exact hi), List.getElem?_eq_getElem _⟩
  obtain ⟨v0, v1, v2⟩ := h1.cell hx
  have hI : (i : Int) < 3 := by omega
  have hJ : (j : Int) < 3 := by omega
  have i0 : (0 : Int) ≤ (i : Int) := by omega
  have j0 : (0 : Int) ≤ (j : Int) := by omega
  have hZ := fun (k : Nat) => h1.keep (Gen.b_alloc (x := .cells #[.int .i64 0, .int .i64 0, .bool false] 41) (Gen.dN (Below.refl _ _) k))
  have hY := fun (k : Nat) => (ho.keep (Gen.b_alloc (x := .cells #[.int .i64 0, .int .i64 0, .bool false] 41) (Gen.dN (Below.refl _ _) k))).cell 1
  have z0 := fun (k : Nat) => (hZ k).x.cell 0
  have z1 := fun (k : Nat) => ((hZ k).cell hx).1
  have z2 := fun (k : Nat) => ((hZ k).cell hx).2.1
  have z3 := fun (k : Nat) => ((hZ k).cell hx).2.2
  have q1 : decide ((i : Int) < 0) = false := decide_eq_false (by omega)
  have q2 : decide (3 ≤ (i : Int)) = false := decide_eq_false (by omega)
  have q3 : decide ((j : Int) < 0) = false := decide_eq_false (by omega)
  have q4 : decide (3 ≤ (j : Int)) = false := decide_eq_false (by omega)
  obtain ⟨ia, ib, ic, id, ie⟩ := iv.in_ (by omega)
  have y6 := iv.at_ hx
  go_enter Try.func32, Try.ntmps32
  go_wp2
  go_quiet (fail)
  go_wp2
  go_cut [5] (fun pv wx => pv = .pointer (some ⟨w.heap.size + 1, 0, none⟩) ∧ Pl w0 wx gx gp L a b c d e ∧ Row wx w.heap.size 57 #[.int .i64 1, .int .i64 (i : Int), .int .i64 (j : Int), .int .i64 n] ∧ Row wx (w.heap.size + 1) 41 #[.int .i64 x.t, .int .i64 x.o, .bool x.g] ∧ Hid (wx.heap.size = w.heap.size + 2))
  case first =>
    go_region
    all_goals
      go_wp2
      go_meet
      exact ⟨by simp, h1.keep (Gen.b_alloc (Gen.dN (Below.refl _ _) _)), ho.keep (Gen.b_alloc (Gen.dN (Below.refl _ _) _)), Gen.rowAt _ _ _ (by simp), Lib.hid (by simp)⟩
  case rest =>
    obtain ⟨rfl, h2, ho2, hp2, HS2⟩ := hcut
    obtain ⟨w2, rfl⟩ : ∃ w' : World, w' = wc := ⟨_, rfl⟩
    have hbA : Below w2.heap.size w2 (w2.alloc (.cells #[.int .i64 x.t, .int .i64 x.o, .bool x.g] 41)) := Gen.b_alloc (Below.refl _ _)
    have h3 := h2.keep hbA
    have ho3 := ho2.keep hbA
    have hp3 := hp2.keep hbA
    have hn3 : Row (w2.alloc (.cells #[.int .i64 x.t, .int .i64 x.o, .bool x.g] 41)) w2.heap.size 41 #[.int .i64 x.t, .int .i64 x.o, .bool x.g] := Row.new _ _ _
    have l0 : w2.heap.size ≠ gx := by have := h2.x.lt; omega
    have l1 : w2.heap.size ≠ gp := by have := h2.p.lt; omega
    have l2 : w0.heap.size ≤ w2.heap.size := by have := h2.bl.size; omega
    have l3 : w.heap.size ≠ w2.heap.size := by have := HS2.out; omega
    have l4 : w.heap.size + 1 ≠ w2.heap.size := by have := HS2.out; omega
    have LX0 : w.heap.size ≠ gx := by have := h.x.lt; omega
    have LX1 : w.heap.size + 1 ≠ gx := by have := h.x.lt; omega
    have LP0 : w.heap.size ≠ gp := by have := h.p.lt; omega
    have LP1 : w.heap.size + 1 ≠ gp := by have := h.p.lt; omega
    have e0 := hp2.cell 0
    have e1 := hp2.cell 1
    have e2 := hp2.cell 2
    have k0 := ho3.cell 0
    clear x0 o1 o2 v0 v1 v2 hZ hY z0 z1 z2 z3 h1 ho q1 q2 q3 q4
    go_upto_block 0 with (fail)
    generalize w2.alloc (.cells #[.int .i64 x.t, .int .i64 x.o, .bool x.g] 41) = w3 at *
    go_cut [7] (fun ev wx => ∃ (E : Int) (L2 : List Pu) (a' b' c' d' e' : Int) (y z : Pu), ev = .int .i64 E ∧ (E = 0 ∨ y = x) ∧ IV (k + 1) (L2.set i y) a' b' c' d' e' ∧ L2[i]? = some z ∧ Pl w0 wx gx gp L2 a' b' c' d' e' ∧ Row wx w.heap.size 57 #[.int .i64 1, .int .i64 (i : Int), .int .i64 (j : Int), .int .i64 n] ∧ Row wx (w.heap.size + 1) 41 #[.int .i64 x.t, .int .i64 x.o, .bool x.g] ∧ Row wx w2.heap.size 41 #[.int .i64 y.t, .int .i64 y.o, .bool y.g])
    case first =>
      have o3 := ho3.cell 3
      have p0 := hp3.cell 0
      have p1 := hp3.cell 1
      have p2 := hp3.cell 2
      go_wp2_with (fail)
      go_must (refine (pay_any x.t x.o x.g n _).mono ?_)
      rintro e' w6 ⟨rfl, hb6⟩
      obtain ⟨E, hE⟩ : ∃ E, (chE x.t x.o x.g n x.t (-n)) = E := ⟨_, rfl⟩
      obtain ⟨V, hV⟩ : ∃ V, (chV x.t x.o x.g n x.t (-n)) = V := ⟨_, rfl⟩
      rw [hE, hV]
      have HE := Lib.hid hE
      have HV := Lib.hid hV
      have h6 := h3.keep hb6
      have ho6 := ho3.keep hb6
      have hp6 := hp3.keep hb6
      have hn6 := hn3.keep hb6
      clear hb6 hE hV p0 p1 p2 o3 h3 ho3 hp3 hn3 k0 e0 e1 e2
      have n0 := hn6.cell 0
      have f0 := hn6.frozen 0
      have n1 := hn6.cell 1
      have f1 := hn6.frozen 1
      have n2 := hn6.cell 2
      have f2 := hn6.frozen 2
      have h7 := h6.st3 l2 l0 l1 (.int .i64 V) (.int .i64 x.o) (.bool x.g) (i := 0) (j := 1) (l := 2)
      have ho7 := row_oth3 ho6 l3 (.int .i64 V) (.int .i64 x.o) (.bool x.g) (i := 0) (j := 1) (l := 2)
      have hp7 := row_oth3 hp6 l4 (.int .i64 V) (.int .i64 x.o) (.bool x.g) (i := 0) (j := 1) (l := 2)
      have hn7 := row3 (.int .i64 V) (.int .i64 x.o) (.bool x.g) hn6
      by_cases hE0 : E = 0
      · subst hE0
        obtain ⟨iv2, n0, n1⟩ := iv.pay hx HE.out
        rw [HV.out] at iv2
        go_wp2
        generalize (((w6.setCell ⟨w2.heap.size, 0, none⟩ (.int .i64 V)).setCell ⟨w2.heap.size, 1, none⟩ (.int .i64 x.o)).setCell ⟨w2.heap.size, 2, none⟩ (.bool x.g)) = w7 at *
        have s0 := h7.x.cell 2
        have s1 := h7.x.frozen 2
        have s2 := ho7.cell 3
        have hw : IntKind.i64.wrap (b + n) = b + n := IntWalk.i64_in _ (by omega)
        have h8 := Pl.sum_b (w := w7.drew) (h7.keep (Below.refl _ _).drew) (b + n)
        go_region
        all_goals
          go_wp2
          go_meet
          exact ⟨0, L, a, (b + n), c, d, e, ⟨V, x.o, x.g⟩, x, rfl, .inl rfl, iv2, hx, h8, row_oth (w := w7.drew) (ho7.keep (Below.refl _ _).drew) LX0 _ _, row_oth (w := w7.drew) (hp7.keep (Below.refl _ _).drew) LX1 _ _, row_oth (w := w7.drew) (hn7.keep (Below.refl _ _).drew) l0 _ _⟩
      · have hEb : (E == 0) = false := by rw [beq_eq_false_iff_ne]; exact hE0
        have hVx := ch_no (by rw [HE.out]; exact hE0)
        rw [HV.out] at hVx
        subst hVx
        go_wp2
        go_meet
        exact ⟨E, L, a, b, c, d, e, x, x, rfl, .inr rfl, iv.same hx, hx, h7, ho7, hp7, hn7⟩
    case rest =>
      obtain ⟨E, L2, a', b', c', d', e', y, z, rfl, hor, iv2, hz, h9, ho9, hp9, hn9⟩ := hcut
      obtain ⟨w9, rfl⟩ : ∃ w' : World, w' = wc := ⟨_, rfl⟩
      have x0 := h9.x.cell 0
      have o1 := ho9.cell 1
      obtain ⟨v0, v1, v2⟩ := h9.cell hz
      have f0 := h9.p.frozen (i * 3)
      have f1 := h9.p.frozen (i * 3 + 1)
      have f2 := h9.p.frozen (i * 3 + 2)
      have n0 := hn9.cell 0
      have n1 := hn9.cell 1
      have n2 := hn9.cell 2
      have hT := h9.put y hz
      have hpT := row_oth3 hp9 LP1 (.int .i64 y.t) (.int .i64 y.o) (.bool y.g) (i := i * 3) (j := i * 3 + 1) (l := i * 3 + 2)
      have hnT := row_oth3 hn9 l1 (.int .i64 y.t) (.int .i64 y.o) (.bool y.g) (i := i * 3) (j := i * 3 + 1) (l := i * 3 + 2)
      go_wp2
      go_region
      all_goals
        have p0 := hpT.cell 0
        have p1 := hpT.cell 1
        have p2 := hpT.cell 2
        have q0 := hnT.cell 0
        have q1 := hnT.cell 1
        have q2 := hnT.cell 2
        rcases hor with rfl | rfl
        · go_wp2
          go_ret
          exact ⟨rfl, _, _, _, _, _, _, iv2, hT.keep (by first | exact Below.refl _ _ | exact (Below.refl _ _).drew | exact Gen.dN (Below.refl _ _) _)⟩
        · by_cases hE : E = 0
          · subst hE
            go_wp2
            go_ret
            exact ⟨rfl, _, _, _, _, _, _, iv2, hT.keep (by first | exact Below.refl _ _ | exact (Below.refl _ _).drew | exact Gen.dN (Below.refl _ _) _)⟩
          · have hEb : (E == 0) = false := by rw [beq_eq_false_iff_ne]; exact hE
            go_wp2
            go_ret
            exact ⟨rfl, _, _, _, _, _, _, iv2, hT.keep (by first | exact Below.refl _ _ | exact (Below.refl _ _).drew | exact Gen.dN (Below.refl _ _) _)⟩
end
end Go.Proofs.Ytblegaclcpoonab.Agent
