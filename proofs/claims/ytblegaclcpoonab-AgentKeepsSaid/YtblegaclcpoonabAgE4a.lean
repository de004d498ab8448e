/- play.did: what a script does. -/
import Derived.Test.YtblegaclcpoonabAgD
namespace Go.Proofs.Ytblegaclcpoonab.Agent
open Go.ChangeShapes Go.WideShapes Go.ChangeAt Go.RowKit Go.Proofs.Ytblegaclcpoonab.Cell
set_option linter.unusedVariables false
set_option linter.unusedSimpArgs false

section
variable {w0 w : World} {gx gp : Nat} {L : List Pu} {a b c d e kind who dst n : Int} {k : Nat}
set_option maxRecDepth 100000 in
set_option maxHeartbeats 8000000 in
theorem did_k4a (h : Pl w0 w gx gp L a b c d e) (iv : IV k L a b c d e) (hk : k < 60) {i j : Nat} (hi : i < 3) (hj : j < 3) (hij : i ≠ j) (hps : ∀ x y, L[i]? = some x → L[j]? = some y → psE x.t x.o x.g y.t y.o y.g n = 0) :
    Calls Try.prog 32 #[.pointer (some ⟨gx, 0, none⟩), .agg #[.int .i64 4, .int .i64 (i : Int), .int .i64 (j : Int), .int .i64 n]] w fun e' w' => e' = .returned (.bool true) ∧ ∃ L' a' b' c' d' e', IV (k + 1) L' a' b' c' d' e' ∧ Pl w0 w' gx gp L' a' b' c' d' e' := by
  have h1 := h.keep (Gen.b_alloc (x := .cells #[.int .i64 4, .int .i64 (i : Int), .int .i64 (j : Int), .int .i64 n] 57) (Below.refl _ _))
  have ho : Row (w.alloc (.cells #[.int .i64 4, .int .i64 (i : Int), .int .i64 (j : Int), .int .i64 n] 57)) w.heap.size 57 #[.int .i64 4, .int .i64 (i : Int), .int .i64 (j : Int), .int .i64 n] := Row.new _ _ _
  have x0 := h1.x.cell 0
  have o1 := ho.cell 1
  have o2 := ho.cell 2
  obtain ⟨x, hx⟩ : ∃ x, L[i]? = some x := ⟨L[i]'(by rw [iv.len]; exact hi), List.getElem?_eq_getElem _⟩
  obtain ⟨v0, v1, v2⟩ := h1.cell hx
  have hI : (i : Int) < 3 := by omega
  have hJ : (j : Int) < 3 := by omega
  have i0 : (0 : Int) ≤ (i : Int) := by omega
  have j0 : (0 : Int) ≤ (j : Int) := by omega
  have hZ := fun (k : Nat) => h1.keep (Gen.b_alloc (x := .cells #[.int .i64 0, .int .i64 0, .bool false] 41) (Gen.dN (Below.refl _ _) k))
  have hY := fun (k : Nat) => (ho.keep (Gen.b_alloc (x := .cells #[.int .i64 0, .int .i64 0, .bool false] 41) (Gen.dN (Below.refl _ _) k))).cell 1
  have z0 := fun (k : Nat) => (hZ k).x.cell 0
  have z1 := fun (k : Nat) => ((hZ k).cell hx).1
  have z2 := fun (k : Nat) => ((hZ k).cell hx).2.1
  have z3 := fun (k : Nat) => ((hZ k).cell hx).2.2
  have q1 : decide ((i : Int) < 0) = false := decide_eq_false (by omega)
  have q2 : decide (3 ≤ (i : Int)) = false := decide_eq_false (by omega)
  have q3 : decide ((j : Int) < 0) = false := decide_eq_false (by omega)
  have q4 : decide (3 ≤ (j : Int)) = false := decide_eq_false (by omega)
  obtain ⟨ia, ib, ic, id, ie⟩ := iv.in_ (by omega)
  have y6 := iv.at_ hx
  go_enter Try.func32, Try.ntmps32
  go_wp2
  go_quiet (fail)
  go_wp2
  go_cut [5] (fun pv wx => pv = .pointer (some ⟨w.heap.size + 1, 0, none⟩) ∧ Pl w0 wx gx gp L a b c d e ∧ Row wx w.heap.size 57 #[.int .i64 4, .int .i64 (i : Int), .int .i64 (j : Int), .int .i64 n] ∧ Row wx (w.heap.size + 1) 41 #[.int .i64 x.t, .int .i64 x.o, .bool x.g] ∧ Hid (wx.heap.size = w.heap.size + 2))
  case first =>
    go_region
    all_goals
      go_wp2
      go_meet
      exact ⟨by simp, h1.keep (Gen.b_alloc (Gen.dN (Below.refl _ _) _)), ho.keep (Gen.b_alloc (Gen.dN (Below.refl _ _) _)), Gen.rowAt _ _ _ (by simp), Lib.hid (by simp)⟩
  case rest =>
    obtain ⟨rfl, h2, ho2, hp2, HS2⟩ := hcut
    obtain ⟨w2, rfl⟩ : ∃ w' : World, w' = wc := ⟨_, rfl⟩
    have hbA : Below w2.heap.size w2 (w2.alloc (.cells #[.int .i64 x.t, .int .i64 x.o, .bool x.g] 41)) := Gen.b_alloc (Below.refl _ _)
    have h3 := h2.keep hbA
    have ho3 := ho2.keep hbA
    have hp3 := hp2.keep hbA
    have hn3 : Row (w2.alloc (.cells #[.int .i64 x.t, .int .i64 x.o, .bool x.g] 41)) w2.heap.size 41 #[.int .i64 x.t, .int .i64 x.o, .bool x.g] := Row.new _ _ _
    have l0 : w2.heap.size ≠ gx := by have := h2.x.lt; omega
    have l1 : w2.heap.size ≠ gp := by have := h2.p.lt; omega
    have l2 : w0.heap.size ≤ w2.heap.size := by have := h2.bl.size; omega
    have l3 : w.heap.size ≠ w2.heap.size := by have := HS2.out; omega
    have l4 : w.heap.size + 1 ≠ w2.heap.size := by have := HS2.out; omega
    have LX0 : w.heap.size ≠ gx := by have := h.x.lt; omega
    have LX1 : w.heap.size + 1 ≠ gx := by have := h.x.lt; omega
    have LP0 : w.heap.size ≠ gp := by have := h.p.lt; omega
    have LP1 : w.heap.size + 1 ≠ gp := by have := h.p.lt; omega
    have e0 := hp2.cell 0
    have e1 := hp2.cell 1
    have e2 := hp2.cell 2
    have k0 := ho3.cell 0
    clear x0 o1 o2 v0 v1 v2 hZ hY z0 z1 z2 z3 h1 ho q1 q2 q3 q4
    go_upto_block 0 with (fail)
    generalize w2.alloc (.cells #[.int .i64 x.t, .int .i64 x.o, .bool x.g] 41) = w3 at *
    have hij2 : ((i : Int) == (j : Int)) = false := by rw [beq_eq_false_iff_ne]; intro c; exact hij (by omega)
    obtain ⟨y, hy⟩ : ∃ y, L[j]? = some y := ⟨L[j]'(by rw [iv.len]; exact hj), List.getElem?_eq_getElem _⟩
    obtain ⟨v0, v1, v2⟩ := h3.cell hy
    have p0 := hp3.cell 0
    have p1 := hp3.cell 1
    have p2 := hp3.cell 2
    have o1 := ho3.cell 1
    have o2 := ho3.cell 2
    have o3 := ho3.cell 3
    have x0 := h3.x.cell 0
    have hE := hps x y hx hy
    obtain ⟨V, hV⟩ : ∃ V, psV x.t x.o x.g y.t y.o y.g n = V := ⟨_, rfl⟩
    obtain ⟨U, hU⟩ : ∃ U, psW x.t x.o x.g y.t y.o y.g n = U := ⟨_, rfl⟩
    have HE := Lib.hid hE
    have HV := Lib.hid hV
    have HU := Lib.hid hU
    clear hE hV hU e0 e1 e2
    go_wp2
    go_cut [8, 9, 10] (fun p8 p9 ev wx => ∃ g8 g9, p8 = .pointer (some ⟨g8, 0, none⟩) ∧ p9 = .pointer (some ⟨g9, 0, none⟩) ∧ ev = .int .i64 0 ∧ Below w3.heap.size w3 wx ∧ w3.heap.size ≤ g8 ∧ w3.heap.size ≤ g9 ∧ Row wx g8 41 #[.int .i64 V, .int .i64 x.o, .bool x.g] ∧ Row wx g9 41 #[.int .i64 U, .int .i64 y.o, .bool y.g])
    case first =>
      have hA : Below w3.heap.size w3 (w3.alloc (.cells #[.int .i64 0, .int .i64 0, .bool false] 41)) := Gen.b_alloc (Below.refl _ _)
      have hAA : Below w3.heap.size w3 ((w3.alloc (.cells #[.int .i64 0, .int .i64 0, .bool false] 41)).alloc (.cells #[.int .i64 0, .int .i64 0, .bool false] 41)) := Gen.b_alloc hA
      have x0A := (h3.keep hA).x.cell 0
      have v0A := ((h3.keep hA).cell hy).1
      have v1A := ((h3.keep hA).cell hy).2.1
      have v2A := ((h3.keep hA).cell hy).2.2
      have o2A := (ho3.keep hA).cell 2
      have o3A := (ho3.keep hA).cell 3
      have p0A := (hp3.keep hA).cell 0
      have p1A := (hp3.keep hA).cell 1
      have p2A := (hp3.keep hA).cell 2
      have x0B := (h3.keep hAA).x.cell 0
      have v0B := ((h3.keep hAA).cell hy).1
      have v1B := ((h3.keep hAA).cell hy).2.1
      have v2B := ((h3.keep hAA).cell hy).2.2
      have o2B := (ho3.keep hAA).cell 2
      have o3B := (ho3.keep hAA).cell 3
      have p0B := (hp3.keep hAA).cell 0
      have p1B := (hp3.keep hAA).cell 1
      have p2B := (hp3.keep hAA).cell 2
      have ua : Row (w3.alloc (.cells #[.int .i64 0, .int .i64 0, .bool false] 41)) w3.heap.size 41 #[.int .i64 0, .int .i64 0, .bool false] := Row.new _ _ _
      have ub : Row ((w3.alloc (.cells #[.int .i64 0, .int .i64 0, .bool false] 41)).alloc (.cells #[.int .i64 0, .int .i64 0, .bool false] 41)) w3.heap.size 41 #[.int .i64 0, .int .i64 0, .bool false] := ua.alloc _
      have uc : Row ((w3.alloc (.cells #[.int .i64 0, .int .i64 0, .bool false] 41)).alloc (.cells #[.int .i64 0, .int .i64 0, .bool false] 41)) (w3.heap.size + 1) 41 #[.int .i64 0, .int .i64 0, .bool false] := Gen.rowAt _ _ _ (by simp)
      have HSS : Hid (∀ W', Below w3.heap.size w3 W' → Below w3.heap.size w3 W' ∧ W'.cell? ⟨w.heap.size + 1, 0, none⟩ = some (.int .i64 x.t) ∧ W'.cell? ⟨w.heap.size + 1, 1, none⟩ = some (.int .i64 x.o) ∧ W'.cell? ⟨w.heap.size + 1, 2, none⟩ = some (.bool x.g) ∧ W'.cell? ⟨w.heap.size, 2, none⟩ = some (.int .i64 (j : Int)) ∧ W'.cell? ⟨w.heap.size, 3, none⟩ = some (.int .i64 n) ∧ W'.cell? ⟨gx, 0, none⟩ = some (.slice (some ⟨gp, 0, none⟩) 3 3) ∧ W'.cell? ⟨gp, j * 3, none⟩ = some (.int .i64 y.t) ∧ W'.cell? ⟨gp, j * 3 + 1, none⟩ = some (.int .i64 y.o) ∧ W'.cell? ⟨gp, j * 3 + 2, none⟩ = some (.bool y.g)) := Lib.hid (fun W' h => ⟨h, (hp3.keep h).cell 0, (hp3.keep h).cell 1, (hp3.keep h).cell 2, (ho3.keep h).cell 2, (ho3.keep h).cell 3, (h3.keep h).x.cell 0, ((h3.keep h).cell hy).1, ((h3.keep h).cell hy).2.1, ((h3.keep h).cell hy).2.2⟩)
      refine wp_region_held_drew (S := fun W' => Below w3.heap.size w3 W' ∧ W'.cell? ⟨w.heap.size + 1, 0, none⟩ = some (.int .i64 x.t) ∧ W'.cell? ⟨w.heap.size + 1, 1, none⟩ = some (.int .i64 x.o) ∧ W'.cell? ⟨w.heap.size + 1, 2, none⟩ = some (.bool x.g) ∧ W'.cell? ⟨w.heap.size, 2, none⟩ = some (.int .i64 (j : Int)) ∧ W'.cell? ⟨w.heap.size, 3, none⟩ = some (.int .i64 n) ∧ W'.cell? ⟨gx, 0, none⟩ = some (.slice (some ⟨gp, 0, none⟩) 3 3) ∧ W'.cell? ⟨gp, j * 3, none⟩ = some (.int .i64 y.t) ∧ W'.cell? ⟨gp, j * 3 + 1, none⟩ = some (.int .i64 y.o) ∧ W'.cell? ⟨gp, j * 3 + 2, none⟩ = some (.bool y.g)) (by kernel_rfl) (HSS.out _ (Below.refl _ _).drew) (fun hHeld => ?_)
      refine wpAnyH_take (i := 0) (v := .agg #[.int .i64 x.t, .int .i64 x.o, .bool x.g]) rfl (by kernel_rfl) (by kernel_rfl) (by kernel_rfl) (fun _ _ _ h => h) (Or.inl ⟨by rfl, (by intro w hSw; (try dsimp only at hSw); go_simp <;> first | with_reducible rfl | omega)⟩) (by assumption) ?_
      refine wpAnyH_take (i := 1) (v := .pointer (some ⟨gx, 0, none⟩)) rfl (by kernel_rfl) (by kernel_rfl) (by kernel_rfl) (fun _ _ _ h => h) (Or.inl ⟨by rfl, (by intro w hSw; (try dsimp only at hSw); go_simp <;> first | with_reducible rfl | omega)⟩) (by assumption) ?_
      refine wpAnyH_take (i := 2) (v := .pointer (some ⟨gx, 0, none⟩)) rfl (by kernel_rfl) (by kernel_rfl) (by kernel_rfl) (fun _ _ _ h => h) (Or.inl ⟨by rfl, (by intro w hSw; (try dsimp only at hSw); go_simp <;> first | with_reducible rfl | omega)⟩) (by assumption) ?_
      refine wpAnyH_take (i := 3) (v := .pointer (some ⟨gx, 0, none⟩)) rfl (by kernel_rfl) (by kernel_rfl) (by kernel_rfl) (fun _ _ _ h => h) (Or.inl ⟨by rfl, (by intro w hSw; (try dsimp only at hSw); go_simp <;> first | with_reducible rfl | omega)⟩) (by assumption) ?_
      refine wpAnyH_take (i := 4) (v := .slice (some ⟨gp, 0, none⟩) 3 3) rfl (by kernel_rfl) (by kernel_rfl) (by kernel_rfl) (fun _ _ _ h => h) (Or.inl ⟨by rfl, (by intro w hSw; (try dsimp only at hSw); go_simp <;> first | with_reducible rfl | omega)⟩) (by assumption) ?_
      refine wpAnyH_take (i := 5) (v := .pointer (some ⟨w.heap.size, 2, none⟩)) rfl (by kernel_rfl) (by kernel_rfl) (by kernel_rfl) (fun _ _ _ h => h) (Or.inl ⟨by rfl, (by intro w hSw; (try dsimp only at hSw); go_simp <;> first | with_reducible rfl | omega)⟩) (by assumption) ?_
      refine wpAnyH_take (i := 6) (v := .int .i64 (j : Int)) rfl (by kernel_rfl) (by kernel_rfl) (by kernel_rfl) (fun _ _ _ h => h) (Or.inl ⟨by rfl, (by intro w hSw; (try dsimp only at hSw); go_simp <;> first | with_reducible rfl | omega)⟩) (by assumption) ?_
      refine wpAnyH_take (i := 7) (v := .pointer (some ⟨gp, j * 3, none⟩)) rfl (by kernel_rfl) (by kernel_rfl) (by kernel_rfl) (fun _ _ _ h => h) (Or.inl ⟨by rfl, (by intro w hSw; (try dsimp only at hSw); go_simp <;> first | with_reducible rfl | omega)⟩) (by assumption) ?_
      refine wpAnyH_take (i := 8) (v := .agg #[.int .i64 y.t, .int .i64 y.o, .bool y.g]) rfl (by kernel_rfl) (by kernel_rfl) (by kernel_rfl) (fun _ _ _ h => h) (Or.inl ⟨by rfl, (by intro w hSw; (try dsimp only at hSw); go_simp <;> first | with_reducible rfl | omega)⟩) (by assumption) ?_
      refine wpAnyH_take (i := 9) (v := .pointer (some ⟨w.heap.size, 3, none⟩)) rfl (by kernel_rfl) (by kernel_rfl) (by kernel_rfl) (fun _ _ _ h => h) (Or.inl ⟨by rfl, (by intro w hSw; (try dsimp only at hSw); go_simp <;> first | with_reducible rfl | omega)⟩) (by assumption) ?_
      refine wpAnyH_take (i := 10) (v := .int .i64 n) rfl (by kernel_rfl) (by kernel_rfl) (by kernel_rfl) (fun _ _ _ h => h) (Or.inl ⟨by rfl, (by intro w hSw; (try dsimp only at hSw); go_simp <;> first | with_reducible rfl | omega)⟩) (by assumption) ?_
      (try simp only [Act.put, List.getElem_toArray, List.getElem_cons_succ, List.getElem_cons_zero, List.setIfInBounds_toArray, List.set_cons_zero, List.set_cons_succ])
      refine wpAnyH_ready (rs := [11, 16, 17]) (by kernel_rfl) (by simp) ?_
      refine AllReadyH.cons rfl (fun K hK => ?_) (AllReadyH.cons rfl (fun K hK => ?_) (AllReadyH.cons rfl (fun K hK => ?_) (AllReadyH.nil)))
      · rw [if_pos (by rfl)]
        (try simp only [Act.put, List.getElem_toArray, List.getElem_cons_succ, List.getElem_cons_zero, List.setIfInBounds_toArray, List.set_cons_zero, List.set_cons_succ])
        go_simp
        go_at_call 26
        refine (pass_any x.t x.o x.g y.t y.o y.g n _).mono ?_
        rintro e' w6 ⟨rfl, hb6⟩
        rw [HE.out, HV.out, HU.out]
        have hB6 : Below w3.heap.size w3 w6 := (Below.refl _ _).drew.trans hb6
        have hz6 : w3.heap.size ≤ w6.heap.size := hB6.size
        refine hK.out _ _ (HSS.out _ hB6) (fun hH2 => ?_)
        clear hK K
        (try simp only [Act.put, List.getElem_toArray, List.getElem_cons_succ, List.getElem_cons_zero, List.setIfInBounds_toArray, List.set_cons_zero, List.set_cons_succ])
        refine wpAnyH_take (i := 12) (v := .tuple #[.agg #[.int .i64 V, .int .i64 x.o, .bool x.g], .agg #[.int .i64 U, .int .i64 y.o, .bool y.g], .int .i64 0]) rfl (by kernel_rfl) (by kernel_rfl) (by kernel_rfl) (fun _ _ _ h => h) (Or.inl ⟨by rfl, (by intro w hSw; (try dsimp only at hSw); go_simp <;> first | with_reducible rfl | omega)⟩) (by assumption) ?_
        refine wpAnyH_take (i := 13) (v := .agg #[.int .i64 V, .int .i64 x.o, .bool x.g]) rfl (by kernel_rfl) (by kernel_rfl) (by kernel_rfl) (fun _ _ _ h => h) (Or.inl ⟨by rfl, (by intro w hSw; (try dsimp only at hSw); go_simp <;> first | with_reducible rfl | omega)⟩) (by assumption) ?_
        refine wpAnyH_take (i := 14) (v := .agg #[.int .i64 U, .int .i64 y.o, .bool y.g]) rfl (by kernel_rfl) (by kernel_rfl) (by kernel_rfl) (fun _ _ _ h => h) (Or.inl ⟨by rfl, (by intro w hSw; (try dsimp only at hSw); go_simp <;> first | with_reducible rfl | omega)⟩) (by assumption) ?_
        refine wpAnyH_take (i := 15) (v := .int .i64 0) rfl (by kernel_rfl) (by kernel_rfl) (by kernel_rfl) (fun _ _ _ h => h) (Or.inl ⟨by rfl, (by intro w hSw; (try dsimp only at hSw); go_simp <;> first | with_reducible rfl | omega)⟩) (by assumption) ?_
        (try simp only [Act.put, List.getElem_toArray, List.getElem_cons_succ, List.getElem_cons_zero, List.setIfInBounds_toArray, List.set_cons_zero, List.set_cons_succ])
        refine wpAnyH_ready (rs := [16, 17]) (by kernel_rfl) (by simp) ?_
        refine AllReadyH.cons rfl (fun K hK => ?_) (AllReadyH.cons rfl (fun K hK => ?_) (AllReadyH.nil))
        · rw [if_pos (by rfl)]
          (try simp only [Act.put, List.getElem_toArray, List.getElem_cons_succ, List.getElem_cons_zero, List.setIfInBounds_toArray, List.set_cons_zero, List.set_cons_succ])
          go_simp
          refine hK.out _ _ (HSS.out _ (by first | exact (Gen.b_alloc (Below.refl _ _)).drew | exact (Gen.b_alloc (Gen.b_alloc (Below.refl _ _))).drew | exact Gen.b_alloc hB6 | exact Gen.b_alloc (Gen.b_alloc hB6) | go_grown)) (fun hH2 => ?_)
          clear hK K
          (try simp only [Act.put, List.getElem_toArray, List.getElem_cons_succ, List.getElem_cons_zero, List.setIfInBounds_toArray, List.set_cons_zero, List.set_cons_succ])
          refine wpAnyH_ready (rs := [17]) (by kernel_rfl) (by simp) ?_
          refine AllReadyH.cons rfl (fun K hK => ?_) (AllReadyH.nil)
          · rw [if_pos (by rfl)]
            (try simp only [Act.put, List.getElem_toArray, List.getElem_cons_succ, List.getElem_cons_zero, List.setIfInBounds_toArray, List.set_cons_zero, List.set_cons_succ])
            go_simp
            refine hK.out _ _ (HSS.out _ (by first | exact (Gen.b_alloc (Below.refl _ _)).drew | exact (Gen.b_alloc (Gen.b_alloc (Below.refl _ _))).drew | exact Gen.b_alloc hB6 | exact Gen.b_alloc (Gen.b_alloc hB6) | go_grown)) (fun hH2 => ?_)
            clear hK K
            (try simp only [Act.put, List.getElem_toArray, List.getElem_cons_succ, List.getElem_cons_zero, List.setIfInBounds_toArray, List.set_cons_zero, List.set_cons_succ])
            refine wpAnyH_ready (rs := [18]) (by kernel_rfl) (by simp) ?_
            refine AllReadyH.cons rfl (fun K hK => ?_) AllReadyH.nil
            rw [if_pos (by rfl)]
            (try simp only [Act.put, List.getElem_toArray, List.getElem_cons_succ, List.getElem_cons_zero, List.setIfInBounds_toArray, List.set_cons_zero, List.set_cons_succ])
            go_simp
            refine hK.out _ _ (HSS.out _ (by go_grown)) (fun hH3 => ?_)
            clear hK K
            (try simp only [Act.put, List.getElem_toArray, List.getElem_cons_succ, List.getElem_cons_zero, List.setIfInBounds_toArray, List.set_cons_zero, List.set_cons_succ])
            refine wpAnyH_ready (rs := [19]) (by kernel_rfl) (by simp) ?_
            refine AllReadyH.cons rfl (fun K hK => ?_) AllReadyH.nil
            rw [if_pos (by rfl)]
            (try simp only [Act.put, List.getElem_toArray, List.getElem_cons_succ, List.getElem_cons_zero, List.setIfInBounds_toArray, List.set_cons_zero, List.set_cons_succ])
            go_simp
            refine hK.out _ _ (HSS.out _ (by go_grown)) (fun hH3 => ?_)
            clear hK K
            (try simp only [Act.put, List.getElem_toArray, List.getElem_cons_succ, List.getElem_cons_zero, List.setIfInBounds_toArray, List.set_cons_zero, List.set_cons_succ])
            refine wpAnyH_take (i := 20) (v := .int .i64 0) rfl (by kernel_rfl) (by kernel_rfl) (by kernel_rfl) (fun _ _ _ h => h) (Or.inl ⟨by rfl, (by intro w hSw; (try dsimp only at hSw); go_simp <;> first | with_reducible rfl | omega)⟩) (by assumption) ?_
            (try simp only [Act.put, List.getElem_toArray, List.getElem_cons_succ, List.getElem_cons_zero, List.setIfInBounds_toArray, List.set_cons_zero, List.set_cons_succ])
            refine wpAnyH_done (by kernel_rfl) ?_ _
            go_wp2
            go_meet
            refine ⟨w6.heap.size, w6.heap.size + 1, by first | rfl | simp, by first | rfl | simp, rfl, by go_grown, by omega, by omega, ?_, ?_⟩
            · exact (Row.new _ _ _).alloc _
            · exact Gen.rowAt _ _ _ (by simp)
        · rw [if_pos (by rfl)]
          (try simp only [Act.put, List.getElem_toArray, List.getElem_cons_succ, List.getElem_cons_zero, List.setIfInBounds_toArray, List.set_cons_zero, List.set_cons_succ])
          go_simp
          refine hK.out _ _ (HSS.out _ (by first | exact (Gen.b_alloc (Below.refl _ _)).drew | exact (Gen.b_alloc (Gen.b_alloc (Below.refl _ _))).drew | exact Gen.b_alloc hB6 | exact Gen.b_alloc (Gen.b_alloc hB6) | go_grown)) (fun hH2 => ?_)
          clear hK K
          (try simp only [Act.put, List.getElem_toArray, List.getElem_cons_succ, List.getElem_cons_zero, List.setIfInBounds_toArray, List.set_cons_zero, List.set_cons_succ])
          refine wpAnyH_ready (rs := [16]) (by kernel_rfl) (by simp) ?_
          refine AllReadyH.cons rfl (fun K hK => ?_) (AllReadyH.nil)
          · rw [if_pos (by rfl)]
            (try simp only [Act.put, List.getElem_toArray, List.getElem_cons_succ, List.getElem_cons_zero, List.setIfInBounds_toArray, List.set_cons_zero, List.set_cons_succ])
            go_simp
            refine hK.out _ _ (HSS.out _ (by first | exact (Gen.b_alloc (Below.refl _ _)).drew | exact (Gen.b_alloc (Gen.b_alloc (Below.refl _ _))).drew | exact Gen.b_alloc hB6 | exact Gen.b_alloc (Gen.b_alloc hB6) | go_grown)) (fun hH2 => ?_)
            clear hK K
            (try simp only [Act.put, List.getElem_toArray, List.getElem_cons_succ, List.getElem_cons_zero, List.setIfInBounds_toArray, List.set_cons_zero, List.set_cons_succ])
            refine wpAnyH_ready (rs := [18]) (by kernel_rfl) (by simp) ?_
            refine AllReadyH.cons rfl (fun K hK => ?_) AllReadyH.nil
            rw [if_pos (by rfl)]
            (try simp only [Act.put, List.getElem_toArray, List.getElem_cons_succ, List.getElem_cons_zero, List.setIfInBounds_toArray, List.set_cons_zero, List.set_cons_succ])
            go_simp
            refine hK.out _ _ (HSS.out _ (by go_grown)) (fun hH3 => ?_)
            clear hK K
            (try simp only [Act.put, List.getElem_toArray, List.getElem_cons_succ, List.getElem_cons_zero, List.setIfInBounds_toArray, List.set_cons_zero, List.set_cons_succ])
            refine wpAnyH_ready (rs := [19]) (by kernel_rfl) (by simp) ?_
            refine AllReadyH.cons rfl (fun K hK => ?_) AllReadyH.nil
            rw [if_pos (by rfl)]
            (try simp only [Act.put, List.getElem_toArray, List.getElem_cons_succ, List.getElem_cons_zero, List.setIfInBounds_toArray, List.set_cons_zero, List.set_cons_succ])
            go_simp
            refine hK.out _ _ (HSS.out _ (by go_grown)) (fun hH3 => ?_)
            clear hK K
            (try simp only [Act.put, List.getElem_toArray, List.getElem_cons_succ, List.getElem_cons_zero, List.setIfInBounds_toArray, List.set_cons_zero, List.set_cons_succ])
            refine wpAnyH_take (i := 20) (v := .int .i64 0) rfl (by kernel_rfl) (by kernel_rfl) (by kernel_rfl) (fun _ _ _ h => h) (Or.inl ⟨by rfl, (by intro w hSw; (try dsimp only at hSw); go_simp <;> first | with_reducible rfl | omega)⟩) (by assumption) ?_
            (try simp only [Act.put, List.getElem_toArray, List.getElem_cons_succ, List.getElem_cons_zero, List.setIfInBounds_toArray, List.set_cons_zero, List.set_cons_succ])
            refine wpAnyH_done (by kernel_rfl) ?_ _
            go_wp2
            go_meet
            refine ⟨w6.heap.size + 1, w6.heap.size, by first | rfl | simp, by first | rfl | simp, rfl, by go_grown, by omega, by omega, ?_, ?_⟩
            · exact Gen.rowAt _ _ _ (by simp)
            · exact (Row.new _ _ _).alloc _
      · rw [if_pos (by rfl)]
        (try simp only [Act.put, List.getElem_toArray, List.getElem_cons_succ, List.getElem_cons_zero, List.setIfInBounds_toArray, List.set_cons_zero, List.set_cons_succ])
        go_simp
        refine hK.out _ _ (HSS.out _ (by first | exact (Gen.b_alloc (Below.refl _ _)).drew | exact (Gen.b_alloc (Gen.b_alloc (Below.refl _ _))).drew | exact Gen.b_alloc hB6 | exact Gen.b_alloc (Gen.b_alloc hB6) | go_grown)) (fun hH2 => ?_)
        clear hK K
        (try simp only [Act.put, List.getElem_toArray, List.getElem_cons_succ, List.getElem_cons_zero, List.setIfInBounds_toArray, List.set_cons_zero, List.set_cons_succ])
        refine wpAnyH_ready (rs := [11, 17]) (by kernel_rfl) (by simp) ?_
        refine AllReadyH.cons rfl (fun K hK => ?_) (AllReadyH.cons rfl (fun K hK => ?_) (AllReadyH.nil))
        · rw [if_pos (by rfl)]
          (try simp only [Act.put, List.getElem_toArray, List.getElem_cons_succ, List.getElem_cons_zero, List.setIfInBounds_toArray, List.set_cons_zero, List.set_cons_succ])
          go_simp
          go_at_call 26
          refine (pass_any x.t x.o x.g y.t y.o y.g n _).mono ?_
          rintro e' w6 ⟨rfl, hb6⟩
          rw [HE.out, HV.out, HU.out]
          have ra : Row w6 w3.heap.size 41 #[.int .i64 0, .int .i64 0, .bool false] := (show Row ((w3.alloc (.cells #[.int .i64 0, .int .i64 0, .bool false] 41)).drew) w3.heap.size 41 #[.int .i64 0, .int .i64 0, .bool false] from ua).keep hb6
          have hB6 : Below w3.heap.size w3 w6 := (Gen.b_alloc (Below.refl _ _)).drew.trans (hb6.mono (by simp))
          have hz6 : w3.heap.size + 1 ≤ w6.heap.size := (by have := hb6.size; simp at this; omega)
          have ne1 : ¬ w3.heap.size = w6.heap.size := (by omega)
          have ne2 : ¬ w6.heap.size = w3.heap.size := (by omega)
          have rac0 := ra.cell 0
          have rac1 := ra.cell 1
          have rac2 := ra.cell 2
          have raf0 := ra.frozen 0
          have raf1 := ra.frozen 1
          have raf2 := ra.frozen 2
          refine hK.out _ _ (HSS.out _ hB6) (fun hH2 => ?_)
          clear hK K
          (try simp only [Act.put, List.getElem_toArray, List.getElem_cons_succ, List.getElem_cons_zero, List.setIfInBounds_toArray, List.set_cons_zero, List.set_cons_succ])
          refine wpAnyH_take (i := 12) (v := .tuple #[.agg #[.int .i64 V, .int .i64 x.o, .bool x.g], .agg #[.int .i64 U, .int .i64 y.o, .bool y.g], .int .i64 0]) rfl (by kernel_rfl) (by kernel_rfl) (by kernel_rfl) (fun _ _ _ h => h) (Or.inl ⟨by rfl, (by intro w hSw; (try dsimp only at hSw); go_simp <;> first | with_reducible rfl | omega)⟩) (by assumption) ?_
          refine wpAnyH_take (i := 13) (v := .agg #[.int .i64 V, .int .i64 x.o, .bool x.g]) rfl (by kernel_rfl) (by kernel_rfl) (by kernel_rfl) (fun _ _ _ h => h) (Or.inl ⟨by rfl, (by intro w hSw; (try dsimp only at hSw); go_simp <;> first | with_reducible rfl | omega)⟩) (by assumption) ?_
          refine wpAnyH_take (i := 14) (v := .agg #[.int .i64 U, .int .i64 y.o, .bool y.g]) rfl (by kernel_rfl) (by kernel_rfl) (by kernel_rfl) (fun _ _ _ h => h) (Or.inl ⟨by rfl, (by intro w hSw; (try dsimp only at hSw); go_simp <;> first | with_reducible rfl | omega)⟩) (by assumption) ?_
          refine wpAnyH_take (i := 15) (v := .int .i64 0) rfl (by kernel_rfl) (by kernel_rfl) (by kernel_rfl) (fun _ _ _ h => h) (Or.inl ⟨by rfl, (by intro w hSw; (try dsimp only at hSw); go_simp <;> first | with_reducible rfl | omega)⟩) (by assumption) ?_
          (try simp only [Act.put, List.getElem_toArray, List.getElem_cons_succ, List.getElem_cons_zero, List.setIfInBounds_toArray, List.set_cons_zero, List.set_cons_succ])
          refine wpAnyH_ready (rs := [17]) (by kernel_rfl) (by simp) ?_
          refine AllReadyH.cons rfl (fun K hK => ?_) (AllReadyH.nil)
          · rw [if_pos (by rfl)]
            (try simp only [Act.put, List.getElem_toArray, List.getElem_cons_succ, List.getElem_cons_zero, List.setIfInBounds_toArray, List.set_cons_zero, List.set_cons_succ])
            go_simp
            refine hK.out _ _ (HSS.out _ (by first | exact (Gen.b_alloc (Below.refl _ _)).drew | exact (Gen.b_alloc (Gen.b_alloc (Below.refl _ _))).drew | exact Gen.b_alloc hB6 | exact Gen.b_alloc (Gen.b_alloc hB6) | go_grown)) (fun hH2 => ?_)
            clear hK K
            (try simp only [Act.put, List.getElem_toArray, List.getElem_cons_succ, List.getElem_cons_zero, List.setIfInBounds_toArray, List.set_cons_zero, List.set_cons_succ])
            have rz := ra.alloc (.cells #[.int .i64 0, .int .i64 0, .bool false] 41)
            have rzc0 := rz.cell 0
            have rzc1 := rz.cell 1
            have rzc2 := rz.cell 2
            have rzf0 := rz.frozen 0
            have rzf1 := rz.frozen 1
            have rzf2 := rz.frozen 2
            refine wpAnyH_ready (rs := [18]) (by kernel_rfl) (by simp) ?_
            refine AllReadyH.cons rfl (fun K hK => ?_) AllReadyH.nil
            rw [if_pos (by rfl)]
            (try simp only [Act.put, List.getElem_toArray, List.getElem_cons_succ, List.getElem_cons_zero, List.setIfInBounds_toArray, List.set_cons_zero, List.set_cons_succ])
            go_simp
            refine hK.out _ _ (HSS.out _ (by go_grown)) (fun hH3 => ?_)
            clear hK K
            (try simp only [Act.put, List.getElem_toArray, List.getElem_cons_succ, List.getElem_cons_zero, List.setIfInBounds_toArray, List.set_cons_zero, List.set_cons_succ])
            refine wpAnyH_ready (rs := [19]) (by kernel_rfl) (by simp) ?_
            refine AllReadyH.cons rfl (fun K hK => ?_) AllReadyH.nil
            rw [if_pos (by rfl)]
            (try simp only [Act.put, List.getElem_toArray, List.getElem_cons_succ, List.getElem_cons_zero, List.setIfInBounds_toArray, List.set_cons_zero, List.set_cons_succ])
            go_simp
            refine hK.out _ _ (HSS.out _ (by go_grown)) (fun hH3 => ?_)
            clear hK K
            (try simp only [Act.put, List.getElem_toArray, List.getElem_cons_succ, List.getElem_cons_zero, List.setIfInBounds_toArray, List.set_cons_zero, List.set_cons_succ])
            refine wpAnyH_take (i := 20) (v := .int .i64 0) rfl (by kernel_rfl) (by kernel_rfl) (by kernel_rfl) (fun _ _ _ h => h) (Or.inl ⟨by rfl, (by intro w hSw; (try dsimp only at hSw); go_simp <;> first | with_reducible rfl | omega)⟩) (by assumption) ?_
            (try simp only [Act.put, List.getElem_toArray, List.getElem_cons_succ, List.getElem_cons_zero, List.setIfInBounds_toArray, List.set_cons_zero, List.set_cons_succ])
            refine wpAnyH_done (by kernel_rfl) ?_ _
            go_wp2
            go_meet
            refine ⟨w3.heap.size, w6.heap.size, by first | rfl | simp, by first | rfl | simp, rfl, by go_grown, by omega, by omega, ?_, ?_⟩
            · exact row_oth3 (row3 _ _ _ rz) ne1 _ _ _
            · exact row3 _ _ _ (row_oth3 (Row.new _ _ _) ne2 _ _ _)
        · rw [if_pos (by rfl)]
          (try simp only [Act.put, List.getElem_toArray, List.getElem_cons_succ, List.getElem_cons_zero, List.setIfInBounds_toArray, List.set_cons_zero, List.set_cons_succ])
          go_simp
          refine hK.out _ _ (HSS.out _ (by first | exact (Gen.b_alloc (Below.refl _ _)).drew | exact (Gen.b_alloc (Gen.b_alloc (Below.refl _ _))).drew | exact Gen.b_alloc hB6 | exact Gen.b_alloc (Gen.b_alloc hB6) | go_grown)) (fun hH2 => ?_)
          clear hK K
          (try simp only [Act.put, List.getElem_toArray, List.getElem_cons_succ, List.getElem_cons_zero, List.setIfInBounds_toArray, List.set_cons_zero, List.set_cons_succ])
          refine wpAnyH_ready (rs := [11]) (by kernel_rfl) (by simp) ?_
          refine AllReadyH.cons rfl (fun K hK => ?_) (AllReadyH.nil)
          · rw [if_pos (by rfl)]
            (try simp only [Act.put, List.getElem_toArray, List.getElem_cons_succ, List.getElem_cons_zero, List.setIfInBounds_toArray, List.set_cons_zero, List.set_cons_succ])
            go_simp
            go_at_call 26
            refine (pass_any x.t x.o x.g y.t y.o y.g n _).mono ?_
            rintro e' w6 ⟨rfl, hb6⟩
            rw [HE.out, HV.out, HU.out]
            have ra : Row w6 w3.heap.size 41 #[.int .i64 0, .int .i64 0, .bool false] := (show Row (((w3.alloc (.cells #[.int .i64 0, .int .i64 0, .bool false] 41)).alloc (.cells #[.int .i64 0, .int .i64 0, .bool false] 41)).drew) w3.heap.size 41 #[.int .i64 0, .int .i64 0, .bool false] from ub).keep hb6
            have rb : Row w6 (w3.heap.size + 1) 41 #[.int .i64 0, .int .i64 0, .bool false] := (show Row (((w3.alloc (.cells #[.int .i64 0, .int .i64 0, .bool false] 41)).alloc (.cells #[.int .i64 0, .int .i64 0, .bool false] 41)).drew) (w3.heap.size + 1) 41 #[.int .i64 0, .int .i64 0, .bool false] from uc).keep hb6
            have hB6 : Below w3.heap.size w3 w6 := (Gen.b_alloc (Gen.b_alloc (Below.refl _ _))).drew.trans (hb6.mono (by simp only [World.size_drew, World.size_alloc]; omega))
            have hz6 : w3.heap.size + 2 ≤ w6.heap.size := (by have := hb6.size; simp at this; omega)
            have rac0 := ra.cell 0
            have rac1 := ra.cell 1
            have rac2 := ra.cell 2
            have raf0 := ra.frozen 0
            have raf1 := ra.frozen 1
            have raf2 := ra.frozen 2
            have rbc0 := rb.cell 0
            have rbc1 := rb.cell 1
            have rbc2 := rb.cell 2
            have rbf0 := rb.frozen 0
            have rbf1 := rb.frozen 1
            have rbf2 := rb.frozen 2
            refine hK.out _ _ (HSS.out _ hB6) (fun hH2 => ?_)
            clear hK K
            (try simp only [Act.put, List.getElem_toArray, List.getElem_cons_succ, List.getElem_cons_zero, List.setIfInBounds_toArray, List.set_cons_zero, List.set_cons_succ])
            refine wpAnyH_take (i := 12) (v := .tuple #[.agg #[.int .i64 V, .int .i64 x.o, .bool x.g], .agg #[.int .i64 U, .int .i64 y.o, .bool y.g], .int .i64 0]) rfl (by kernel_rfl) (by kernel_rfl) (by kernel_rfl) (fun _ _ _ h => h) (Or.inl ⟨by rfl, (by intro w hSw; (try dsimp only at hSw); go_simp <;> first | with_reducible rfl | omega)⟩) (by assumption) ?_
            refine wpAnyH_take (i := 13) (v := .agg #[.int .i64 V, .int .i64 x.o, .bool x.g]) rfl (by kernel_rfl) (by kernel_rfl) (by kernel_rfl) (fun _ _ _ h => h) (Or.inl ⟨by rfl, (by intro w hSw; (try dsimp only at hSw); go_simp <;> first | with_reducible rfl | omega)⟩) (by assumption) ?_
            refine wpAnyH_take (i := 14) (v := .agg #[.int .i64 U, .int .i64 y.o, .bool y.g]) rfl (by kernel_rfl) (by kernel_rfl) (by kernel_rfl) (fun _ _ _ h => h) (Or.inl ⟨by rfl, (by intro w hSw; (try dsimp only at hSw); go_simp <;> first | with_reducible rfl | omega)⟩) (by assumption) ?_
            refine wpAnyH_take (i := 15) (v := .int .i64 0) rfl (by kernel_rfl) (by kernel_rfl) (by kernel_rfl) (fun _ _ _ h => h) (Or.inl ⟨by rfl, (by intro w hSw; (try dsimp only at hSw); go_simp <;> first | with_reducible rfl | omega)⟩) (by assumption) ?_
            (try simp only [Act.put, List.getElem_toArray, List.getElem_cons_succ, List.getElem_cons_zero, List.setIfInBounds_toArray, List.set_cons_zero, List.set_cons_succ])
            refine wpAnyH_ready (rs := [18]) (by kernel_rfl) (by simp) ?_
            refine AllReadyH.cons rfl (fun K hK => ?_) AllReadyH.nil
            rw [if_pos (by rfl)]
            (try simp only [Act.put, List.getElem_toArray, List.getElem_cons_succ, List.getElem_cons_zero, List.setIfInBounds_toArray, List.set_cons_zero, List.set_cons_succ])
            go_simp
            refine hK.out _ _ (HSS.out _ (by go_grown)) (fun hH3 => ?_)
            clear hK K
            (try simp only [Act.put, List.getElem_toArray, List.getElem_cons_succ, List.getElem_cons_zero, List.setIfInBounds_toArray, List.set_cons_zero, List.set_cons_succ])
            refine wpAnyH_ready (rs := [19]) (by kernel_rfl) (by simp) ?_
            refine AllReadyH.cons rfl (fun K hK => ?_) AllReadyH.nil
            rw [if_pos (by rfl)]
            (try simp only [Act.put, List.getElem_toArray, List.getElem_cons_succ, List.getElem_cons_zero, List.setIfInBounds_toArray, List.set_cons_zero, List.set_cons_succ])
            go_simp
            refine hK.out _ _ (HSS.out _ (by go_grown)) (fun hH3 => ?_)
            clear hK K
            (try simp only [Act.put, List.getElem_toArray, List.getElem_cons_succ, List.getElem_cons_zero, List.setIfInBounds_toArray, List.set_cons_zero, List.set_cons_succ])
            refine wpAnyH_take (i := 20) (v := .int .i64 0) rfl (by kernel_rfl) (by kernel_rfl) (by kernel_rfl) (fun _ _ _ h => h) (Or.inl ⟨by rfl, (by intro w hSw; (try dsimp only at hSw); go_simp <;> first | with_reducible rfl | omega)⟩) (by assumption) ?_
            (try simp only [Act.put, List.getElem_toArray, List.getElem_cons_succ, List.getElem_cons_zero, List.setIfInBounds_toArray, List.set_cons_zero, List.set_cons_succ])
            refine wpAnyH_done (by kernel_rfl) ?_ _
            go_wp2
            go_meet
            refine ⟨w3.heap.size, w3.heap.size + 1, by first | rfl | simp, by first | rfl | simp, rfl, by go_grown, by omega, by omega, ?_, ?_⟩
            · exact row_oth3 (row3 _ _ _ ra) (by omega) _ _ _
            · exact row3 _ _ _ (row_oth3 rb (by omega) _ _ _)
      · rw [if_pos (by rfl)]
        (try simp only [Act.put, List.getElem_toArray, List.getElem_cons_succ, List.getElem_cons_zero, List.setIfInBounds_toArray, List.set_cons_zero, List.set_cons_succ])
        go_simp
        refine hK.out _ _ (HSS.out _ (by first | exact (Gen.b_alloc (Below.refl _ _)).drew | exact (Gen.b_alloc (Gen.b_alloc (Below.refl _ _))).drew | exact Gen.b_alloc hB6 | exact Gen.b_alloc (Gen.b_alloc hB6) | go_grown)) (fun hH2 => ?_)
        clear hK K
        (try simp only [Act.put, List.getElem_toArray, List.getElem_cons_succ, List.getElem_cons_zero, List.setIfInBounds_toArray, List.set_cons_zero, List.set_cons_succ])
        refine wpAnyH_ready (rs := [11, 16]) (by kernel_rfl) (by simp) ?_
        refine AllReadyH.cons rfl (fun K hK => ?_) (AllReadyH.cons rfl (fun K hK => ?_) (AllReadyH.nil))
        · rw [if_pos (by rfl)]
          (try simp only [Act.put, List.getElem_toArray, List.getElem_cons_succ, List.getElem_cons_zero, List.setIfInBounds_toArray, List.set_cons_zero, List.set_cons_succ])
          go_simp
          go_at_call 26
          refine (pass_any x.t x.o x.g y.t y.o y.g n _).mono ?_
          rintro e' w6 ⟨rfl, hb6⟩
          rw [HE.out, HV.out, HU.out]
          have ra : Row w6 w3.heap.size 41 #[.int .i64 0, .int .i64 0, .bool false] := (show Row ((w3.alloc (.cells #[.int .i64 0, .int .i64 0, .bool false] 41)).drew) w3.heap.size 41 #[.int .i64 0, .int .i64 0, .bool false] from ua).keep hb6
          have hB6 : Below w3.heap.size w3 w6 := (Gen.b_alloc (Below.refl _ _)).drew.trans (hb6.mono (by simp))
          have hz6 : w3.heap.size + 1 ≤ w6.heap.size := (by have := hb6.size; simp at this; omega)
          have ne1 : ¬ w3.heap.size = w6.heap.size := (by omega)
          have ne2 : ¬ w6.heap.size = w3.heap.size := (by omega)
          have rac0 := ra.cell 0
          have rac1 := ra.cell 1
          have rac2 := ra.cell 2
          have raf0 := ra.frozen 0
          have raf1 := ra.frozen 1
          have raf2 := ra.frozen 2
          refine hK.out _ _ (HSS.out _ hB6) (fun hH2 => ?_)
          clear hK K
          (try simp only [Act.put, List.getElem_toArray, List.getElem_cons_succ, List.getElem_cons_zero, List.setIfInBounds_toArray, List.set_cons_zero, List.set_cons_succ])
          refine wpAnyH_take (i := 12) (v := .tuple #[.agg #[.int .i64 V, .int .i64 x.o, .bool x.g], .agg #[.int .i64 U, .int .i64 y.o, .bool y.g], .int .i64 0]) rfl (by kernel_rfl) (by kernel_rfl) (by kernel_rfl) (fun _ _ _ h => h) (Or.inl ⟨by rfl, (by intro w hSw; (try dsimp only at hSw); go_simp <;> first | with_reducible rfl | omega)⟩) (by assumption) ?_
          refine wpAnyH_take (i := 13) (v := .agg #[.int .i64 V, .int .i64 x.o, .bool x.g]) rfl (by kernel_rfl) (by kernel_rfl) (by kernel_rfl) (fun _ _ _ h => h) (Or.inl ⟨by rfl, (by intro w hSw; (try dsimp only at hSw); go_simp <;> first | with_reducible rfl | omega)⟩) (by assumption) ?_
          refine wpAnyH_take (i := 14) (v := .agg #[.int .i64 U, .int .i64 y.o, .bool y.g]) rfl (by kernel_rfl) (by kernel_rfl) (by kernel_rfl) (fun _ _ _ h => h) (Or.inl ⟨by rfl, (by intro w hSw; (try dsimp only at hSw); go_simp <;> first | with_reducible rfl | omega)⟩) (by assumption) ?_
          refine wpAnyH_take (i := 15) (v := .int .i64 0) rfl (by kernel_rfl) (by kernel_rfl) (by kernel_rfl) (fun _ _ _ h => h) (Or.inl ⟨by rfl, (by intro w hSw; (try dsimp only at hSw); go_simp <;> first | with_reducible rfl | omega)⟩) (by assumption) ?_
          (try simp only [Act.put, List.getElem_toArray, List.getElem_cons_succ, List.getElem_cons_zero, List.setIfInBounds_toArray, List.set_cons_zero, List.set_cons_succ])
          refine wpAnyH_ready (rs := [16]) (by kernel_rfl) (by simp) ?_
          refine AllReadyH.cons rfl (fun K hK => ?_) (AllReadyH.nil)
          · rw [if_pos (by rfl)]
            (try simp only [Act.put, List.getElem_toArray, List.getElem_cons_succ, List.getElem_cons_zero, List.setIfInBounds_toArray, List.set_cons_zero, List.set_cons_succ])
            go_simp
            refine hK.out _ _ (HSS.out _ (by first | exact (Gen.b_alloc (Below.refl _ _)).drew | exact (Gen.b_alloc (Gen.b_alloc (Below.refl _ _))).drew | exact Gen.b_alloc hB6 | exact Gen.b_alloc (Gen.b_alloc hB6) | go_grown)) (fun hH2 => ?_)
            clear hK K
            (try simp only [Act.put, List.getElem_toArray, List.getElem_cons_succ, List.getElem_cons_zero, List.setIfInBounds_toArray, List.set_cons_zero, List.set_cons_succ])
            have rz := ra.alloc (.cells #[.int .i64 0, .int .i64 0, .bool false] 41)
            have rzc0 := rz.cell 0
            have rzc1 := rz.cell 1
            have rzc2 := rz.cell 2
            have rzf0 := rz.frozen 0
            have rzf1 := rz.frozen 1
            have rzf2 := rz.frozen 2
            have ry := ra.alloc (.cells #[.int .i64 V, .int .i64 x.o, .bool x.g] 41)
            have ryc0 := ry.cell 0
            have ryc1 := ry.cell 1
            have ryc2 := ry.cell 2
            have ryf0 := ry.frozen 0
            have ryf1 := ry.frozen 1
            have ryf2 := ry.frozen 2
            refine wpAnyH_ready (rs := [18]) (by kernel_rfl) (by simp) ?_
            refine AllReadyH.cons rfl (fun K hK => ?_) AllReadyH.nil
            rw [if_pos (by rfl)]
            (try simp only [Act.put, List.getElem_toArray, List.getElem_cons_succ, List.getElem_cons_zero, List.setIfInBounds_toArray, List.set_cons_zero, List.set_cons_succ])
            go_simp
            refine hK.out _ _ (HSS.out _ (by go_grown)) (fun hH3 => ?_)
            clear hK K
            (try simp only [Act.put, List.getElem_toArray, List.getElem_cons_succ, List.getElem_cons_zero, List.setIfInBounds_toArray, List.set_cons_zero, List.set_cons_succ])
            refine wpAnyH_ready (rs := [19]) (by kernel_rfl) (by simp) ?_
            refine AllReadyH.cons rfl (fun K hK => ?_) AllReadyH.nil
            rw [if_pos (by rfl)]
            (try simp only [Act.put, List.getElem_toArray, List.getElem_cons_succ, List.getElem_cons_zero, List.setIfInBounds_toArray, List.set_cons_zero, List.set_cons_succ])
            go_simp
            refine hK.out _ _ (HSS.out _ (by go_grown)) (fun hH3 => ?_)
            clear hK K
            (try simp only [Act.put, List.getElem_toArray, List.getElem_cons_succ, List.getElem_cons_zero, List.setIfInBounds_toArray, List.set_cons_zero, List.set_cons_succ])
            refine wpAnyH_take (i := 20) (v := .int .i64 0) rfl (by kernel_rfl) (by kernel_rfl) (by kernel_rfl) (fun _ _ _ h => h) (Or.inl ⟨by rfl, (by intro w hSw; (try dsimp only at hSw); go_simp <;> first | with_reducible rfl | omega)⟩) (by assumption) ?_
            (try simp only [Act.put, List.getElem_toArray, List.getElem_cons_succ, List.getElem_cons_zero, List.setIfInBounds_toArray, List.set_cons_zero, List.set_cons_succ])
            refine wpAnyH_done (by kernel_rfl) ?_ _
            go_wp2
            go_meet
            refine ⟨w6.heap.size, w3.heap.size, by first | rfl | simp, by first | rfl | simp, rfl, by go_grown, by omega, by omega, ?_, ?_⟩
            · exact row_oth3 (Row.new _ _ _) ne2 _ _ _
            · exact row3 _ _ _ ry
        · rw [if_pos (by rfl)]
          (try simp only [Act.put, List.getElem_toArray, List.getElem_cons_succ, List.getElem_cons_zero, List.setIfInBounds_toArray, List.set_cons_zero, List.set_cons_succ])
          go_simp
          refine hK.out _ _ (HSS.out _ (by first | exact (Gen.b_alloc (Below.refl _ _)).drew | exact (Gen.b_alloc (Gen.b_alloc (Below.refl _ _))).drew | exact Gen.b_alloc hB6 | exact Gen.b_alloc (Gen.b_alloc hB6) | go_grown)) (fun hH2 => ?_)
          clear hK K
          (try simp only [Act.put, List.getElem_toArray, List.getElem_cons_succ, List.getElem_cons_zero, List.setIfInBounds_toArray, List.set_cons_zero, List.set_cons_succ])
          refine wpAnyH_ready (rs := [11]) (by kernel_rfl) (by simp) ?_
          refine AllReadyH.cons rfl (fun K hK => ?_) (AllReadyH.nil)
          · rw [if_pos (by rfl)]
            (try simp only [Act.put, List.getElem_toArray, List.getElem_cons_succ, List.getElem_cons_zero, List.setIfInBounds_toArray, List.set_cons_zero, List.set_cons_succ])
            go_simp
            go_at_call 26
            refine (pass_any x.t x.o x.g y.t y.o y.g n _).mono ?_
            rintro e' w6 ⟨rfl, hb6⟩
            rw [HE.out, HV.out, HU.out]
            have ra : Row w6 w3.heap.size 41 #[.int .i64 0, .int .i64 0, .bool false] := (show Row (((w3.alloc (.cells #[.int .i64 0, .int .i64 0, .bool false] 41)).alloc (.cells #[.int .i64 0, .int .i64 0, .bool false] 41)).drew) w3.heap.size 41 #[.int .i64 0, .int .i64 0, .bool false] from ub).keep hb6
            have rb : Row w6 (w3.heap.size + 1) 41 #[.int .i64 0, .int .i64 0, .bool false] := (show Row (((w3.alloc (.cells #[.int .i64 0, .int .i64 0, .bool false] 41)).alloc (.cells #[.int .i64 0, .int .i64 0, .bool false] 41)).drew) (w3.heap.size + 1) 41 #[.int .i64 0, .int .i64 0, .bool false] from uc).keep hb6
            have hB6 : Below w3.heap.size w3 w6 := (Gen.b_alloc (Gen.b_alloc (Below.refl _ _))).drew.trans (hb6.mono (by simp only [World.size_drew, World.size_alloc]; omega))
            have hz6 : w3.heap.size + 2 ≤ w6.heap.size := (by have := hb6.size; simp at this; omega)
            have rac0 := ra.cell 0
            have rac1 := ra.cell 1
            have rac2 := ra.cell 2
            have raf0 := ra.frozen 0
            have raf1 := ra.frozen 1
            have raf2 := ra.frozen 2
            have rbc0 := rb.cell 0
            have rbc1 := rb.cell 1
            have rbc2 := rb.cell 2
            have rbf0 := rb.frozen 0
            have rbf1 := rb.frozen 1
            have rbf2 := rb.frozen 2
            refine hK.out _ _ (HSS.out _ hB6) (fun hH2 => ?_)
            clear hK K
            (try simp only [Act.put, List.getElem_toArray, List.getElem_cons_succ, List.getElem_cons_zero, List.setIfInBounds_toArray, List.set_cons_zero, List.set_cons_succ])
            refine wpAnyH_take (i := 12) (v := .tuple #[.agg #[.int .i64 V, .int .i64 x.o, .bool x.g], .agg #[.int .i64 U, .int .i64 y.o, .bool y.g], .int .i64 0]) rfl (by kernel_rfl) (by kernel_rfl) (by kernel_rfl) (fun _ _ _ h => h) (Or.inl ⟨by rfl, (by intro w hSw; (try dsimp only at hSw); go_simp <;> first | with_reducible rfl | omega)⟩) (by assumption) ?_
            refine wpAnyH_take (i := 13) (v := .agg #[.int .i64 V, .int .i64 x.o, .bool x.g]) rfl (by kernel_rfl) (by kernel_rfl) (by kernel_rfl) (fun _ _ _ h => h) (Or.inl ⟨by rfl, (by intro w hSw; (try dsimp only at hSw); go_simp <;> first | with_reducible rfl | omega)⟩) (by assumption) ?_
            refine wpAnyH_take (i := 14) (v := .agg #[.int .i64 U, .int .i64 y.o, .bool y.g]) rfl (by kernel_rfl) (by kernel_rfl) (by kernel_rfl) (fun _ _ _ h => h) (Or.inl ⟨by rfl, (by intro w hSw; (try dsimp only at hSw); go_simp <;> first | with_reducible rfl | omega)⟩) (by assumption) ?_
            refine wpAnyH_take (i := 15) (v := .int .i64 0) rfl (by kernel_rfl) (by kernel_rfl) (by kernel_rfl) (fun _ _ _ h => h) (Or.inl ⟨by rfl, (by intro w hSw; (try dsimp only at hSw); go_simp <;> first | with_reducible rfl | omega)⟩) (by assumption) ?_
            (try simp only [Act.put, List.getElem_toArray, List.getElem_cons_succ, List.getElem_cons_zero, List.setIfInBounds_toArray, List.set_cons_zero, List.set_cons_succ])
            refine wpAnyH_ready (rs := [18]) (by kernel_rfl) (by simp) ?_
            refine AllReadyH.cons rfl (fun K hK => ?_) AllReadyH.nil
            rw [if_pos (by rfl)]
            (try simp only [Act.put, List.getElem_toArray, List.getElem_cons_succ, List.getElem_cons_zero, List.setIfInBounds_toArray, List.set_cons_zero, List.set_cons_succ])
            go_simp
            refine hK.out _ _ (HSS.out _ (by go_grown)) (fun hH3 => ?_)
            clear hK K
            (try simp only [Act.put, List.getElem_toArray, List.getElem_cons_succ, List.getElem_cons_zero, List.setIfInBounds_toArray, List.set_cons_zero, List.set_cons_succ])
            refine wpAnyH_ready (rs := [19]) (by kernel_rfl) (by simp) ?_
            refine AllReadyH.cons rfl (fun K hK => ?_) AllReadyH.nil
            rw [if_pos (by rfl)]
            (try simp only [Act.put, List.getElem_toArray, List.getElem_cons_succ, List.getElem_cons_zero, List.setIfInBounds_toArray, List.set_cons_zero, List.set_cons_succ])
            go_simp
            refine hK.out _ _ (HSS.out _ (by go_grown)) (fun hH3 => ?_)
            clear hK K
            (try simp only [Act.put, List.getElem_toArray, List.getElem_cons_succ, List.getElem_cons_zero, List.setIfInBounds_toArray, List.set_cons_zero, List.set_cons_succ])
            refine wpAnyH_take (i := 20) (v := .int .i64 0) rfl (by kernel_rfl) (by kernel_rfl) (by kernel_rfl) (fun _ _ _ h => h) (Or.inl ⟨by rfl, (by intro w hSw; (try dsimp only at hSw); go_simp <;> first | with_reducible rfl | omega)⟩) (by assumption) ?_
            (try simp only [Act.put, List.getElem_toArray, List.getElem_cons_succ, List.getElem_cons_zero, List.setIfInBounds_toArray, List.set_cons_zero, List.set_cons_succ])
            refine wpAnyH_done (by kernel_rfl) ?_ _
            go_wp2
            go_meet
            refine ⟨w3.heap.size + 1, w3.heap.size, by first | rfl | simp, by first | rfl | simp, rfl, by go_grown, by omega, by omega, ?_, ?_⟩
            · exact row_oth3 (row3 _ _ _ rb) (by omega) _ _ _
            · exact row3 _ _ _ (row_oth3 ra (by omega) _ _ _)
    case rest =>
      obtain ⟨g8, g9, rfl, rfl, rfl, hbc, lg8, lg9, r8, r9⟩ := hcut
      obtain ⟨w6, rfl⟩ : ∃ w' : World, w' = wc := ⟨_, rfl⟩
      have h6 := h3.keep hbc
      have ho6 := ho3.keep hbc
      have hp6 := hp3.keep hbc
      have hn6 := hn3.keep hbc
      have m8 : g8 ≠ w2.heap.size := by have := hn3.lt; omega
      have m9 : g9 ≠ w2.heap.size := by have := hn3.lt; omega
      have m9p : g9 ≠ gp := by have := h3.p.lt; omega
      have hij3 : i ≠ j := hij
      have ivp := iv.pass hij3 hx hy n
      rw [HV.out, HU.out] at ivp
      clear h3 ho3 hp3 hn3 hbc x0 v0 v1 v2 o1 o2 o3 p0 p1 p2 k0
      have x0 := h6.x.cell 0
      have o2 := ho6.cell 2
      obtain ⟨v0, v1, v2⟩ := h6.cell hy
      have r0 := r9.cell 0
      have r1 := r9.cell 1
      have r2 := r9.cell 2
      go_wp2
      go_cut [173] (fun cv wx => cv = .bool false ∧ Below w6.heap.size w6 wx)
      case first =>
        go_quiet (fail)
        go_wp2
        go_meet
        exact ⟨rfl, Gen.dN (Below.refl _ _) _⟩
      case rest =>
        obtain ⟨rfl, hbd⟩ := hcut
        obtain ⟨w7, rfl⟩ : ∃ w' : World, w' = wc := ⟨_, rfl⟩
        have h7 := h6.keep hbd
        have ho7 := ho6.keep hbd
        have hp7 := hp6.keep hbd
        have hn7 := hn6.keep hbd
        have r87 := r8.keep hbd
        have r97 := r9.keep hbd
        clear h6 ho6 hp6 hn6 r8 r9 hbd x0 o2 v0 v1 v2 r0 r1 r2
        have a0 := r87.cell 0
        have n0 := hn7.cell 0
        have f0 := hn7.frozen 0
        have a1 := r87.cell 1
        have n1 := hn7.cell 1
        have f1 := hn7.frozen 1
        have a2 := r87.cell 2
        have n2 := hn7.cell 2
        have f2 := hn7.frozen 2
        have h8 := h7.st3 l2 l0 l1 (.int .i64 V) (.int .i64 x.o) (.bool x.g) (i := 0) (j := 1) (l := 2)
        have ho8 := row_oth3 ho7 l3 (.int .i64 V) (.int .i64 x.o) (.bool x.g) (i := 0) (j := 1) (l := 2)
        have hp8 := row_oth3 hp7 l4 (.int .i64 V) (.int .i64 x.o) (.bool x.g) (i := 0) (j := 1) (l := 2)
        have hn8 := row3 (.int .i64 V) (.int .i64 x.o) (.bool x.g) hn7
        have r98 := row_oth3 r97 m9 (.int .i64 V) (.int .i64 x.o) (.bool x.g) (i := 0) (j := 1) (l := 2)
        go_upto_region 31 with (fail)
        clear a0 a1 a2 n0 n1 n2 f0 f1 f2 h7 ho7 hp7 hn7 r87 r97
        generalize (((w7.setCell ⟨w2.heap.size, 0, none⟩ (.int .i64 V)).setCell ⟨w2.heap.size, 1, none⟩ (.int .i64 x.o)).setCell ⟨w2.heap.size, 2, none⟩ (.bool x.g)) = w8 at *
        have x0 := h8.x.cell 0
        have o2 := ho8.cell 2
        obtain ⟨v0, v1, v2⟩ := h8.cell hy
        have f0 := h8.p.frozen (j * 3)
        have r0 := r98.cell 0
        have f1 := h8.p.frozen (j * 3 + 1)
        have r1 := r98.cell 1
        have f2 := h8.p.frozen (j * 3 + 2)
        have r2 := r98.cell 2
        go_region
        all_goals
          have h9 : Pl w0 (((w8.setCell ⟨gp, j * 3, none⟩ (.int .i64 U)).setCell ⟨gp, j * 3 + 1, none⟩ (.int .i64 y.o)).setCell ⟨gp, j * 3 + 2, none⟩ (.bool y.g)) gx gp (L.set j ⟨U, y.o, y.g⟩) a b c d e := h8.put ⟨U, y.o, y.g⟩ hy
          have ho9 := row_oth3 ho8 LP0 (.int .i64 U) (.int .i64 y.o) (.bool y.g) (i := j * 3) (j := j * 3 + 1) (l := j * 3 + 2)
          have hp9 := row_oth3 hp8 LP1 (.int .i64 U) (.int .i64 y.o) (.bool y.g) (i := j * 3) (j := j * 3 + 1) (l := j * 3 + 2)
          have hn9 := row_oth3 hn8 l1 (.int .i64 U) (.int .i64 y.o) (.bool y.g) (i := j * 3) (j := j * 3 + 1) (l := j * 3 + 2)
          clear h8 ho8 hp8 hn8 r98 x0 o2 v0 v1 v2 f0 f1 f2 r0 r1 r2
          go_wp2
          generalize (((w8.setCell ⟨gp, j * 3, none⟩ (.int .i64 U)).setCell ⟨gp, j * 3 + 1, none⟩ (.int .i64 y.o)).setCell ⟨gp, j * 3 + 2, none⟩ (.bool y.g)) = w9 at *
          have hzz : (L.set j ⟨U, y.o, y.g⟩)[i]? = some x := by rw [List.getElem?_set_ne (Ne.symm hij3)]; exact hx
          have x0 := h9.x.cell 0
          have o1 := ho9.cell 1
          obtain ⟨v0, v1, v2⟩ := h9.cell hzz
          have f0 := h9.p.frozen (i * 3)
          have f1 := h9.p.frozen (i * 3 + 1)
          have f2 := h9.p.frozen (i * 3 + 2)
          have n0 := hn9.cell 0
          have n1 := hn9.cell 1
          have n2 := hn9.cell 2
          have hT : Pl w0 (((w9.setCell ⟨gp, i * 3, none⟩ (.int .i64 V)).setCell ⟨gp, i * 3 + 1, none⟩ (.int .i64 x.o)).setCell ⟨gp, i * 3 + 2, none⟩ (.bool x.g)) gx gp ((L.set j ⟨U, y.o, y.g⟩).set i ⟨V, x.o, x.g⟩) a b c d e := h9.put ⟨V, x.o, x.g⟩ hzz
          have hpT := row_oth3 hp9 LP1 (.int .i64 V) (.int .i64 x.o) (.bool x.g) (i := i * 3) (j := i * 3 + 1) (l := i * 3 + 2)
          have hnT := row_oth3 hn9 l1 (.int .i64 V) (.int .i64 x.o) (.bool x.g) (i := i * 3) (j := i * 3 + 1) (l := i * 3 + 2)
          go_region
          all_goals
            have p0 := hpT.cell 0
            have p1 := hpT.cell 1
            have p2 := hpT.cell 2
            have q0 := hnT.cell 0
            have q1 := hnT.cell 1
            have q2 := hnT.cell 2
            go_wp2
            go_ret
            exact ⟨rfl, _, _, _, _, _, _, ivp, hT.keep (by first | exact Below.refl _ _ | exact (Below.refl _ _).drew.drew | exact (Below.refl _ _).drew | exact Gen.dN (Below.refl _ _) _)⟩
end
end Go.Proofs.Ytblegaclcpoonab.Agent
