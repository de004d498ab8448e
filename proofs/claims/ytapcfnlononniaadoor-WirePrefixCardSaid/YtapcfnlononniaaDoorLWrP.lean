/- WirePrefix returns true: every two values; no condition. -/
import Derived.Test.YtapcfnlononniaaDoorLWrW
import Derived.Deep.RegionHeld3
namespace Go.Proofs.YtapcfnlononniaaDoor.Wr
open Go.Lib Go.ChangeShapes Go.WideShapes Go.ChangeAt Go.RowKit Go.Proofs.YtapcfnlononniaaDoor.Cell
set_option linter.unusedVariables false
set_option linter.unusedSimpArgs false
section
variable {v u : Vl} {A A' D D' : Option Addr} {c c' d d' : Nat}
set_option maxRecDepth 100000 in
set_option maxHeartbeats 16000000 in
theorem prefix_A (w : World) (hE : En w w) (hv : Wv v) (hu : Wv u) (hvL : Ints w A v.L) (hvT : Sts w A' v.T) (huL : Ints w D u.L) (huT : Sts w D' u.T) (hf : ¬ fewP [v]) :
    Calls Tryd.prog 7 #[.agg (vcs v A c A' c'), .agg (vcs u D d D' d')] w fun e w' => e = .returned (.bool true) ∧ Below w.heap.size w w' := by
  have hB1 : Below w.heap.size w (w.alloc (.cells (vcs v A c A' c') 25)) := Gen.b_alloc (Below.refl _ _)
  have hR1 : Row (w.alloc (.cells (vcs v A c A' c') 25)) w.heap.size 25 (vcs v A c A' c') := Row.new _ _ _
  have hb12 : Below (w.alloc (.cells (vcs v A c A' c') 25)).heap.size (w.alloc (.cells (vcs v A c A' c') 25)) ((w.alloc (.cells (vcs v A c A' c') 25)).alloc (.cells (vcs u D d D' d') 25)) := Gen.b_alloc (Below.refl _ _)
  have hB : Below w.heap.size w ((w.alloc (.cells (vcs v A c A' c') 25)).alloc (.cells (vcs u D d D' d') 25)) := Gen.b_alloc hB1
  have hR : Row ((w.alloc (.cells (vcs v A c A' c') 25)).alloc (.cells (vcs u D d D' d') 25)) w.heap.size 25 (vcs v A c A' c') := hR1.keep hb12
  have hQ : Row ((w.alloc (.cells (vcs v A c A' c') 25)).alloc (.cells (vcs u D d D' d') 25)) (w.heap.size + 1) 25 (vcs u D d D' d') := by
    have h := Row.new (w.alloc (.cells (vcs v A c A' c') 25)) 25 (vcs u D d D' d')
    rwa [World.size_alloc] at h
  have HV : Hid (∀ W' b, Below w.heap.size w W' → Row W' b 25 (vcs v A c A' c') → Vll W' (some ⟨b, 0, none⟩) [v]) := Lib.hid fun W' b hb hr => vll_one hr (hvL.keep hb) (hvT.keep hb)
  have HU : Hid (∀ W' b, Below w.heap.size w W' → Row W' b 25 (vcs u D d D' d') → Vll W' (some ⟨b, 0, none⟩) [u]) := Lib.hid fun W' b hb hr => vll_one hr (huL.keep hb) (huT.keep hb)
  have hKV := fun W' => kind_any (v := v) (A := A) (c := c) (A' := A') (c' := c') (W := W') hv.1
  have hKU := fun W' => kind_any (v := u) (A := D) (c := d) (A' := D') (c' := d') (W := W') hu.1
  have HF := Lib.hid hf
  have HE := Lib.hid hE
  unfold vcs at hB1 hR1 hb12 hB hR hQ HV HU hKV hKU ⊢
  have HKV := Lib.hid hKV
  have HKU := Lib.hid hKU
  have HB := Lib.hid hB
  clear hE hvL hvT huL huT hv hu hKV hKU hB1 hR1 hb12
  go_enter Tryd.func7, Tryd.ntmps7
  go_upto_region 1 with (fail)
  generalize (w.alloc (.cells #[.int .i64 v.kd, .int .i64 v.n, .string ⟨v.s.toArray⟩, .slice A v.L.length c, .slice A' v.T.length c'] 25)).alloc (.cells #[.int .i64 u.kd, .int .i64 u.n, .string ⟨u.s.toArray⟩, .slice D u.L.length d, .slice D' u.T.length d'] 25) = W1 at *
  go_wp2_with (fail)
  go_must (refine (small_any (HE.out.keep HB.out)).mono ?_)
  rintro e w1 ⟨rfl, hb⟩
  replace HB := Lib.hid (Gen.over hb HB.out)
  have hR1 := hR.keep hb
  have hQ1 := hQ.keep hb
  have r0 := hR1.cell 0
  have r1 := hR1.cell 1
  have r2 := hR1.cell 2
  have r3 := hR1.cell 3
  have r4 := hR1.cell 4
  have s0 := hQ1.cell 0
  have s1 := hQ1.cell 1
  have s2 := hQ1.cell 2
  have s3 := hQ1.cell 3
  have s4 := hQ1.cell 4
  clear hb hB hR hR1 hQ hQ1
  dsimp only
  go_upto_region 2 with (fail)
  refine wp_region_held_drew (S := fun W' => Below w1.heap.size w1 W') (by kernel_rfl) (Below.refl _ _).drew (fun hHeld => ?_)
  refine wpAnyH_take (i := 0) (v := .agg #[.int .i64 v.kd, .int .i64 v.n, .string ⟨v.s.toArray⟩, .slice A v.L.length c, .slice A' v.T.length c']) rfl (by kernel_rfl) (by kernel_rfl) (by kernel_rfl) (fun _ _ _ h => h) (Or.inl ⟨by rfl, (by intro w' hSw; (try dsimp only at hSw); (have q0 := Gen.keep hSw r0; have q1 := Gen.keep hSw r1; have q2 := Gen.keep hSw r2; have q3 := Gen.keep hSw r3; have q4 := Gen.keep hSw r4); go_simp <;> with_reducible rfl)⟩) (by assumption) ?_
  (try simp only [Act.put, List.getElem_toArray, List.getElem_cons_succ, List.getElem_cons_zero, List.setIfInBounds_toArray, List.set_cons_zero, List.set_cons_succ])
  refine wpAnyH_ready (rs := [1]) (by kernel_rfl) (by simp) ?_
  refine AllReadyH.cons rfl (fun K hK => ?_) AllReadyH.nil
  rw [if_pos (by rfl)]
  (try simp only [Act.put, List.getElem_toArray, List.getElem_cons_succ, List.getElem_cons_zero, List.setIfInBounds_toArray, List.set_cons_zero, List.set_cons_succ])
  go_simp
  refine hK.out _ _ (Gen.b_alloc hHeld) (fun hHA => ?_)
  clear hK K
  (try simp only [Act.put, List.getElem_toArray, List.getElem_cons_succ, List.getElem_cons_zero, List.setIfInBounds_toArray, List.set_cons_zero, List.set_cons_succ])
  refine wpAnyH_ready (rs := [2]) (by kernel_rfl) (by simp) ?_
  refine AllReadyH.cons rfl (fun K hK => ?_) AllReadyH.nil
  rw [if_pos (by rfl)]
  (try simp only [Act.put, List.getElem_toArray, List.getElem_cons_succ, List.getElem_cons_zero, List.setIfInBounds_toArray, List.set_cons_zero, List.set_cons_succ])
  go_simp
  go_at_call 10
  refine (few_not (HV.out _ _ (Gen.over hHA HB.out) (Row.new _ _ _)) HF.out).mono ?_
  rintro e w2 ⟨rfl, hb2⟩
  refine hK.out _ _ (Gen.over hb2 hHA) (fun hH2 => ?_)
  clear hK K
  (try simp only [Act.put, List.getElem_toArray, List.getElem_cons_succ, List.getElem_cons_zero, List.setIfInBounds_toArray, List.set_cons_zero, List.set_cons_succ])
  refine wpAnyH_take (i := 3) (v := .bool true) rfl (by kernel_rfl) (by kernel_rfl) (by kernel_rfl) (fun _ _ _ h => h) (Or.inl ⟨by rfl, (by intro w' hSw; (try dsimp only at hSw); go_simp <;> with_reducible rfl)⟩) (by assumption) ?_
  (try simp only [Act.put, List.getElem_toArray, List.getElem_cons_succ, List.getElem_cons_zero, List.setIfInBounds_toArray, List.set_cons_zero, List.set_cons_succ])
  refine wpAnyH_take (i := 4) (v := .bool true) rfl (by kernel_rfl) (by kernel_rfl) (by kernel_rfl) (fun _ _ _ h => h) (Or.inl ⟨by rfl, (by intro w' hSw; (try dsimp only at hSw); go_simp <;> with_reducible rfl)⟩) (by assumption) ?_
  (try simp only [Act.put, List.getElem_toArray, List.getElem_cons_succ, List.getElem_cons_zero, List.setIfInBounds_toArray, List.set_cons_zero, List.set_cons_succ])
  refine wpAnyH_take (i := 5) (v := undef) rfl (by kernel_rfl) (by kernel_rfl) (by kernel_rfl) (fun _ _ _ h => h) (Or.inr ⟨by rfl, rfl⟩) (by assumption) ?_
  (try simp only [Act.put, List.getElem_toArray, List.getElem_cons_succ, List.getElem_cons_zero, List.setIfInBounds_toArray, List.set_cons_zero, List.set_cons_succ])
  refine wpAnyH_take (i := 6) (v := undef) rfl (by kernel_rfl) (by kernel_rfl) (by kernel_rfl) (fun _ _ _ h => h) (Or.inr ⟨by rfl, rfl⟩) (by assumption) ?_
  (try simp only [Act.put, List.getElem_toArray, List.getElem_cons_succ, List.getElem_cons_zero, List.setIfInBounds_toArray, List.set_cons_zero, List.set_cons_succ])
  refine wpAnyH_take (i := 7) (v := undef) rfl (by kernel_rfl) (by kernel_rfl) (by kernel_rfl) (fun _ _ _ h => h) (Or.inr ⟨by rfl, rfl⟩) (by assumption) ?_
  (try simp only [Act.put, List.getElem_toArray, List.getElem_cons_succ, List.getElem_cons_zero, List.setIfInBounds_toArray, List.set_cons_zero, List.set_cons_succ])
  refine wpAnyH_take (i := 8) (v := undef) rfl (by kernel_rfl) (by kernel_rfl) (by kernel_rfl) (fun _ _ _ h => h) (Or.inr ⟨by rfl, rfl⟩) (by assumption) ?_
  (try simp only [Act.put, List.getElem_toArray, List.getElem_cons_succ, List.getElem_cons_zero, List.setIfInBounds_toArray, List.set_cons_zero, List.set_cons_succ])
  refine wpAnyH_take (i := 9) (v := .bool true) rfl (by kernel_rfl) (by kernel_rfl) (by kernel_rfl) (fun _ _ _ h => h) (Or.inl ⟨by rfl, (by intro w' hSw; (try dsimp only at hSw); go_simp <;> with_reducible rfl)⟩) (by assumption) ?_
  (try simp only [Act.put, List.getElem_toArray, List.getElem_cons_succ, List.getElem_cons_zero, List.setIfInBounds_toArray, List.set_cons_zero, List.set_cons_succ])
  refine wpAnyH_take (i := 10) (v := .bool true) rfl (by kernel_rfl) (by kernel_rfl) (by kernel_rfl) (fun _ _ _ h => h) (Or.inl ⟨by rfl, (by intro w' hSw; (try dsimp only at hSw); go_simp <;> with_reducible rfl)⟩) (by assumption) ?_
  (try simp only [Act.put, List.getElem_toArray, List.getElem_cons_succ, List.getElem_cons_zero, List.setIfInBounds_toArray, List.set_cons_zero, List.set_cons_succ])
  refine wpAnyH_take (i := 11) (v := undef) rfl (by kernel_rfl) (by kernel_rfl) (by kernel_rfl) (fun _ _ _ h => h) (Or.inr ⟨by rfl, rfl⟩) (by assumption) ?_
  (try simp only [Act.put, List.getElem_toArray, List.getElem_cons_succ, List.getElem_cons_zero, List.setIfInBounds_toArray, List.set_cons_zero, List.set_cons_succ])
  refine wpAnyH_take (i := 12) (v := undef) rfl (by kernel_rfl) (by kernel_rfl) (by kernel_rfl) (fun _ _ _ h => h) (Or.inr ⟨by rfl, rfl⟩) (by assumption) ?_
  (try simp only [Act.put, List.getElem_toArray, List.getElem_cons_succ, List.getElem_cons_zero, List.setIfInBounds_toArray, List.set_cons_zero, List.set_cons_succ])
  refine wpAnyH_take (i := 13) (v := undef) rfl (by kernel_rfl) (by kernel_rfl) (by kernel_rfl) (fun _ _ _ h => h) (Or.inr ⟨by rfl, rfl⟩) (by assumption) ?_
  (try simp only [Act.put, List.getElem_toArray, List.getElem_cons_succ, List.getElem_cons_zero, List.setIfInBounds_toArray, List.set_cons_zero, List.set_cons_succ])
  refine wpAnyH_take (i := 14) (v := undef) rfl (by kernel_rfl) (by kernel_rfl) (by kernel_rfl) (fun _ _ _ h => h) (Or.inr ⟨by rfl, rfl⟩) (by assumption) ?_
  (try simp only [Act.put, List.getElem_toArray, List.getElem_cons_succ, List.getElem_cons_zero, List.setIfInBounds_toArray, List.set_cons_zero, List.set_cons_succ])
  refine wpAnyH_take (i := 15) (v := undef) rfl (by kernel_rfl) (by kernel_rfl) (by kernel_rfl) (fun _ _ _ h => h) (Or.inr ⟨by rfl, rfl⟩) (by assumption) ?_
  (try simp only [Act.put, List.getElem_toArray, List.getElem_cons_succ, List.getElem_cons_zero, List.setIfInBounds_toArray, List.set_cons_zero, List.set_cons_succ])
  refine wpAnyH_take (i := 16) (v := .bool true) rfl (by kernel_rfl) (by kernel_rfl) (by kernel_rfl) (fun _ _ _ h => h) (Or.inl ⟨by rfl, (by intro w' hSw; (try dsimp only at hSw); go_simp <;> with_reducible rfl)⟩) (by assumption) ?_
  (try simp only [Act.put, List.getElem_toArray, List.getElem_cons_succ, List.getElem_cons_zero, List.setIfInBounds_toArray, List.set_cons_zero, List.set_cons_succ])
  refine wpAnyH_done (by kernel_rfl) ?_ _
  have HBz := Lib.hid (Gen.over hH2 HB.out)
  clear r0 r1 r2 r3 r4 s0 s1 s2 s3 s4
  go_wp2
  go_ret
  exact ⟨rfl, HBz.out⟩
set_option maxRecDepth 100000 in
set_option maxHeartbeats 16000000 in
theorem prefix_B (w : World) (hE : En w w) (hv : Wv v) (hu : Wv u) (hvL : Ints w A v.L) (hvT : Sts w A' v.T) (huL : Ints w D u.L) (huT : Sts w D' u.T) (hf : fewP [v]) (hg : ¬ fewP [u]) :
    Calls Tryd.prog 7 #[.agg (vcs v A c A' c'), .agg (vcs u D d D' d')] w fun e w' => e = .returned (.bool true) ∧ Below w.heap.size w w' := by
  have hB1 : Below w.heap.size w (w.alloc (.cells (vcs v A c A' c') 25)) := Gen.b_alloc (Below.refl _ _)
  have hR1 : Row (w.alloc (.cells (vcs v A c A' c') 25)) w.heap.size 25 (vcs v A c A' c') := Row.new _ _ _
  have hb12 : Below (w.alloc (.cells (vcs v A c A' c') 25)).heap.size (w.alloc (.cells (vcs v A c A' c') 25)) ((w.alloc (.cells (vcs v A c A' c') 25)).alloc (.cells (vcs u D d D' d') 25)) := Gen.b_alloc (Below.refl _ _)
  have hB : Below w.heap.size w ((w.alloc (.cells (vcs v A c A' c') 25)).alloc (.cells (vcs u D d D' d') 25)) := Gen.b_alloc hB1
  have hR : Row ((w.alloc (.cells (vcs v A c A' c') 25)).alloc (.cells (vcs u D d D' d') 25)) w.heap.size 25 (vcs v A c A' c') := hR1.keep hb12
  have hQ : Row ((w.alloc (.cells (vcs v A c A' c') 25)).alloc (.cells (vcs u D d D' d') 25)) (w.heap.size + 1) 25 (vcs u D d D' d') := by
    have h := Row.new (w.alloc (.cells (vcs v A c A' c') 25)) 25 (vcs u D d D' d')
    rwa [World.size_alloc] at h
  have HV : Hid (∀ W' b, Below w.heap.size w W' → Row W' b 25 (vcs v A c A' c') → Vll W' (some ⟨b, 0, none⟩) [v]) := Lib.hid fun W' b hb hr => vll_one hr (hvL.keep hb) (hvT.keep hb)
  have HU : Hid (∀ W' b, Below w.heap.size w W' → Row W' b 25 (vcs u D d D' d') → Vll W' (some ⟨b, 0, none⟩) [u]) := Lib.hid fun W' b hb hr => vll_one hr (huL.keep hb) (huT.keep hb)
  have hKV := fun W' => kind_any (v := v) (A := A) (c := c) (A' := A') (c' := c') (W := W') hv.1
  have hKU := fun W' => kind_any (v := u) (A := D) (c := d) (A' := D') (c' := d') (W := W') hu.1
  have HF := Lib.hid hf
  have HG := Lib.hid hg
  have HE := Lib.hid hE
  unfold vcs at hB1 hR1 hb12 hB hR hQ HV HU hKV hKU ⊢
  have HKV := Lib.hid hKV
  have HKU := Lib.hid hKU
  have HB := Lib.hid hB
  clear hE hvL hvT huL huT hv hu hKV hKU hB1 hR1 hb12
  go_enter Tryd.func7, Tryd.ntmps7
  go_upto_region 1 with (fail)
  generalize (w.alloc (.cells #[.int .i64 v.kd, .int .i64 v.n, .string ⟨v.s.toArray⟩, .slice A v.L.length c, .slice A' v.T.length c'] 25)).alloc (.cells #[.int .i64 u.kd, .int .i64 u.n, .string ⟨u.s.toArray⟩, .slice D u.L.length d, .slice D' u.T.length d'] 25) = W1 at *
  go_wp2_with (fail)
  go_must (refine (small_any (HE.out.keep HB.out)).mono ?_)
  rintro e w1 ⟨rfl, hb⟩
  replace HB := Lib.hid (Gen.over hb HB.out)
  have hR1 := hR.keep hb
  have hQ1 := hQ.keep hb
  have r0 := hR1.cell 0
  have r1 := hR1.cell 1
  have r2 := hR1.cell 2
  have r3 := hR1.cell 3
  have r4 := hR1.cell 4
  have s0 := hQ1.cell 0
  have s1 := hQ1.cell 1
  have s2 := hQ1.cell 2
  have s3 := hQ1.cell 3
  have s4 := hQ1.cell 4
  clear hb hB hR hR1 hQ hQ1
  dsimp only
  go_upto_region 2 with (fail)
  refine wp_region_held_drew (S := fun W' => Below w1.heap.size w1 W') (by kernel_rfl) (Below.refl _ _).drew (fun hHeld => ?_)
  refine wpAnyH_take (i := 0) (v := .agg #[.int .i64 v.kd, .int .i64 v.n, .string ⟨v.s.toArray⟩, .slice A v.L.length c, .slice A' v.T.length c']) rfl (by kernel_rfl) (by kernel_rfl) (by kernel_rfl) (fun _ _ _ h => h) (Or.inl ⟨by rfl, (by intro w' hSw; (try dsimp only at hSw); (have q0 := Gen.keep hSw r0; have q1 := Gen.keep hSw r1; have q2 := Gen.keep hSw r2; have q3 := Gen.keep hSw r3; have q4 := Gen.keep hSw r4); go_simp <;> with_reducible rfl)⟩) (by assumption) ?_
  (try simp only [Act.put, List.getElem_toArray, List.getElem_cons_succ, List.getElem_cons_zero, List.setIfInBounds_toArray, List.set_cons_zero, List.set_cons_succ])
  refine wpAnyH_ready (rs := [1]) (by kernel_rfl) (by simp) ?_
  refine AllReadyH.cons rfl (fun K hK => ?_) AllReadyH.nil
  rw [if_pos (by rfl)]
  (try simp only [Act.put, List.getElem_toArray, List.getElem_cons_succ, List.getElem_cons_zero, List.setIfInBounds_toArray, List.set_cons_zero, List.set_cons_succ])
  go_simp
  refine hK.out _ _ (Gen.b_alloc hHeld) (fun hHA => ?_)
  clear hK K
  (try simp only [Act.put, List.getElem_toArray, List.getElem_cons_succ, List.getElem_cons_zero, List.setIfInBounds_toArray, List.set_cons_zero, List.set_cons_succ])
  refine wpAnyH_ready (rs := [2]) (by kernel_rfl) (by simp) ?_
  refine AllReadyH.cons rfl (fun K hK => ?_) AllReadyH.nil
  rw [if_pos (by rfl)]
  (try simp only [Act.put, List.getElem_toArray, List.getElem_cons_succ, List.getElem_cons_zero, List.setIfInBounds_toArray, List.set_cons_zero, List.set_cons_succ])
  go_simp
  go_at_call 10
  refine (few_yes (HV.out _ _ (Gen.over hHA HB.out) (Row.new _ _ _)) HF.out).mono ?_
  rintro e w2 ⟨rfl, hb2⟩
  refine hK.out _ _ (Gen.over hb2 hHA) (fun hH2 => ?_)
  clear hK K
  (try simp only [Act.put, List.getElem_toArray, List.getElem_cons_succ, List.getElem_cons_zero, List.setIfInBounds_toArray, List.set_cons_zero, List.set_cons_succ])
  refine wpAnyH_take (i := 3) (v := .bool false) rfl (by kernel_rfl) (by kernel_rfl) (by kernel_rfl) (fun _ _ _ h => h) (Or.inl ⟨by rfl, (by intro w' hSw; (try dsimp only at hSw); go_simp <;> with_reducible rfl)⟩) (by assumption) ?_
  (try simp only [Act.put, List.getElem_toArray, List.getElem_cons_succ, List.getElem_cons_zero, List.setIfInBounds_toArray, List.set_cons_zero, List.set_cons_succ])
  refine wpAnyH_take (i := 4) (v := .bool false) rfl (by kernel_rfl) (by kernel_rfl) (by kernel_rfl) (fun _ _ _ h => h) (Or.inl ⟨by rfl, (by intro w' hSw; (try dsimp only at hSw); go_simp <;> with_reducible rfl)⟩) (by assumption) ?_
  (try simp only [Act.put, List.getElem_toArray, List.getElem_cons_succ, List.getElem_cons_zero, List.setIfInBounds_toArray, List.set_cons_zero, List.set_cons_succ])
  refine wpAnyH_take (i := 5) (v := .agg #[.int .i64 u.kd, .int .i64 u.n, .string ⟨u.s.toArray⟩, .slice D u.L.length d, .slice D' u.T.length d']) rfl (by kernel_rfl) (by kernel_rfl) (by kernel_rfl) (fun _ _ _ h => h) (Or.inl ⟨by rfl, (by intro w' hSw; (try dsimp only at hSw); (have q0 := Gen.keep hSw s0; have q1 := Gen.keep hSw s1; have q2 := Gen.keep hSw s2; have q3 := Gen.keep hSw s3; have q4 := Gen.keep hSw s4); go_simp <;> with_reducible rfl)⟩) (by assumption) ?_
  (try simp only [Act.put, List.getElem_toArray, List.getElem_cons_succ, List.getElem_cons_zero, List.setIfInBounds_toArray, List.set_cons_zero, List.set_cons_succ])
  refine wpAnyH_ready (rs := [6]) (by kernel_rfl) (by simp) ?_
  refine AllReadyH.cons rfl (fun K hK => ?_) AllReadyH.nil
  rw [if_pos (by rfl)]
  (try simp only [Act.put, List.getElem_toArray, List.getElem_cons_succ, List.getElem_cons_zero, List.setIfInBounds_toArray, List.set_cons_zero, List.set_cons_succ])
  go_simp
  refine hK.out _ _ (Gen.b_alloc hH2) (fun hHB => ?_)
  clear hK K
  (try simp only [Act.put, List.getElem_toArray, List.getElem_cons_succ, List.getElem_cons_zero, List.setIfInBounds_toArray, List.set_cons_zero, List.set_cons_succ])
  refine wpAnyH_ready (rs := [7]) (by kernel_rfl) (by simp) ?_
  refine AllReadyH.cons rfl (fun K hK => ?_) AllReadyH.nil
  rw [if_pos (by rfl)]
  (try simp only [Act.put, List.getElem_toArray, List.getElem_cons_succ, List.getElem_cons_zero, List.setIfInBounds_toArray, List.set_cons_zero, List.set_cons_succ])
  go_simp
  go_at_call 10
  refine (few_not (HU.out _ _ (Gen.over hHB HB.out) (Row.new _ _ _)) HG.out).mono ?_
  rintro e w7 ⟨rfl, hb7⟩
  refine hK.out _ _ (Gen.over hb7 hHB) (fun hH7 => ?_)
  clear hK K
  (try simp only [Act.put, List.getElem_toArray, List.getElem_cons_succ, List.getElem_cons_zero, List.setIfInBounds_toArray, List.set_cons_zero, List.set_cons_succ])
  refine wpAnyH_take (i := 8) (v := .bool true) rfl (by kernel_rfl) (by kernel_rfl) (by kernel_rfl) (fun _ _ _ h => h) (Or.inl ⟨by rfl, (by intro w' hSw; (try dsimp only at hSw); go_simp <;> with_reducible rfl)⟩) (by assumption) ?_
  (try simp only [Act.put, List.getElem_toArray, List.getElem_cons_succ, List.getElem_cons_zero, List.setIfInBounds_toArray, List.set_cons_zero, List.set_cons_succ])
  refine wpAnyH_take (i := 9) (v := .bool true) rfl (by kernel_rfl) (by kernel_rfl) (by kernel_rfl) (fun _ _ _ h => h) (Or.inl ⟨by rfl, (by intro w' hSw; (try dsimp only at hSw); go_simp <;> with_reducible rfl)⟩) (by assumption) ?_
  (try simp only [Act.put, List.getElem_toArray, List.getElem_cons_succ, List.getElem_cons_zero, List.setIfInBounds_toArray, List.set_cons_zero, List.set_cons_succ])
  refine wpAnyH_take (i := 10) (v := .bool true) rfl (by kernel_rfl) (by kernel_rfl) (by kernel_rfl) (fun _ _ _ h => h) (Or.inl ⟨by rfl, (by intro w' hSw; (try dsimp only at hSw); go_simp <;> with_reducible rfl)⟩) (by assumption) ?_
  (try simp only [Act.put, List.getElem_toArray, List.getElem_cons_succ, List.getElem_cons_zero, List.setIfInBounds_toArray, List.set_cons_zero, List.set_cons_succ])
  refine wpAnyH_take (i := 11) (v := undef) rfl (by kernel_rfl) (by kernel_rfl) (by kernel_rfl) (fun _ _ _ h => h) (Or.inr ⟨by rfl, rfl⟩) (by assumption) ?_
  (try simp only [Act.put, List.getElem_toArray, List.getElem_cons_succ, List.getElem_cons_zero, List.setIfInBounds_toArray, List.set_cons_zero, List.set_cons_succ])
  refine wpAnyH_take (i := 12) (v := undef) rfl (by kernel_rfl) (by kernel_rfl) (by kernel_rfl) (fun _ _ _ h => h) (Or.inr ⟨by rfl, rfl⟩) (by assumption) ?_
  (try simp only [Act.put, List.getElem_toArray, List.getElem_cons_succ, List.getElem_cons_zero, List.setIfInBounds_toArray, List.set_cons_zero, List.set_cons_succ])
  refine wpAnyH_take (i := 13) (v := undef) rfl (by kernel_rfl) (by kernel_rfl) (by kernel_rfl) (fun _ _ _ h => h) (Or.inr ⟨by rfl, rfl⟩) (by assumption) ?_
  (try simp only [Act.put, List.getElem_toArray, List.getElem_cons_succ, List.getElem_cons_zero, List.setIfInBounds_toArray, List.set_cons_zero, List.set_cons_succ])
  refine wpAnyH_take (i := 14) (v := undef) rfl (by kernel_rfl) (by kernel_rfl) (by kernel_rfl) (fun _ _ _ h => h) (Or.inr ⟨by rfl, rfl⟩) (by assumption) ?_
  (try simp only [Act.put, List.getElem_toArray, List.getElem_cons_succ, List.getElem_cons_zero, List.setIfInBounds_toArray, List.set_cons_zero, List.set_cons_succ])
  refine wpAnyH_take (i := 15) (v := undef) rfl (by kernel_rfl) (by kernel_rfl) (by kernel_rfl) (fun _ _ _ h => h) (Or.inr ⟨by rfl, rfl⟩) (by assumption) ?_
  (try simp only [Act.put, List.getElem_toArray, List.getElem_cons_succ, List.getElem_cons_zero, List.setIfInBounds_toArray, List.set_cons_zero, List.set_cons_succ])
  refine wpAnyH_take (i := 16) (v := .bool true) rfl (by kernel_rfl) (by kernel_rfl) (by kernel_rfl) (fun _ _ _ h => h) (Or.inl ⟨by rfl, (by intro w' hSw; (try dsimp only at hSw); go_simp <;> with_reducible rfl)⟩) (by assumption) ?_
  (try simp only [Act.put, List.getElem_toArray, List.getElem_cons_succ, List.getElem_cons_zero, List.setIfInBounds_toArray, List.set_cons_zero, List.set_cons_succ])
  refine wpAnyH_done (by kernel_rfl) ?_ _
  have HBz := Lib.hid (Gen.over hH7 HB.out)
  clear r0 r1 r2 r3 r4 s0 s1 s2 s3 s4
  go_wp2
  go_ret
  exact ⟨rfl, HBz.out⟩
set_option maxRecDepth 100000 in
set_option maxHeartbeats 16000000 in
theorem prefix_C (w : World) (hE : En w w) (hv : Wv v) (hu : Wv u) (hvL : Ints w A v.L) (hvT : Sts w A' v.T) (huL : Ints w D u.L) (huT : Sts w D' u.T) (hf : fewP [v]) (hg : fewP [u]) (hk : kdv v.kd ≠ kdv u.kd) :
    Calls Tryd.prog 7 #[.agg (vcs v A c A' c'), .agg (vcs u D d D' d')] w fun e w' => e = .returned (.bool true) ∧ Below w.heap.size w w' := by
  have hB1 : Below w.heap.size w (w.alloc (.cells (vcs v A c A' c') 25)) := Gen.b_alloc (Below.refl _ _)
  have hR1 : Row (w.alloc (.cells (vcs v A c A' c') 25)) w.heap.size 25 (vcs v A c A' c') := Row.new _ _ _
  have hb12 : Below (w.alloc (.cells (vcs v A c A' c') 25)).heap.size (w.alloc (.cells (vcs v A c A' c') 25)) ((w.alloc (.cells (vcs v A c A' c') 25)).alloc (.cells (vcs u D d D' d') 25)) := Gen.b_alloc (Below.refl _ _)
  have hB : Below w.heap.size w ((w.alloc (.cells (vcs v A c A' c') 25)).alloc (.cells (vcs u D d D' d') 25)) := Gen.b_alloc hB1
  have hR : Row ((w.alloc (.cells (vcs v A c A' c') 25)).alloc (.cells (vcs u D d D' d') 25)) w.heap.size 25 (vcs v A c A' c') := hR1.keep hb12
  have hQ : Row ((w.alloc (.cells (vcs v A c A' c') 25)).alloc (.cells (vcs u D d D' d') 25)) (w.heap.size + 1) 25 (vcs u D d D' d') := by
    have h := Row.new (w.alloc (.cells (vcs v A c A' c') 25)) 25 (vcs u D d D' d')
    rwa [World.size_alloc] at h
  have HV : Hid (∀ W' b, Below w.heap.size w W' → Row W' b 25 (vcs v A c A' c') → Vll W' (some ⟨b, 0, none⟩) [v]) := Lib.hid fun W' b hb hr => vll_one hr (hvL.keep hb) (hvT.keep hb)
  have HU : Hid (∀ W' b, Below w.heap.size w W' → Row W' b 25 (vcs u D d D' d') → Vll W' (some ⟨b, 0, none⟩) [u]) := Lib.hid fun W' b hb hr => vll_one hr (huL.keep hb) (huT.keep hb)
  have hKV := fun W' => kind_any (v := v) (A := A) (c := c) (A' := A') (c' := c') (W := W') hv.1
  have hKU := fun W' => kind_any (v := u) (A := D) (c := d) (A' := D') (c' := d') (W := W') hu.1
  have HF := Lib.hid hf
  have HG := Lib.hid hg
  have hKE : ∃ K J, kdv v.kd = K ∧ kdv u.kd = J ∧ K ≠ J := ⟨_, _, rfl, rfl, hk⟩
  obtain ⟨K, J, hKK, hJJ, hkj⟩ := hKE
  rw [hKK] at hKV
  rw [hJJ] at hKU
  have HE := Lib.hid hE
  unfold vcs at hB1 hR1 hb12 hB hR hQ HV HU hKV hKU ⊢
  have HKV := Lib.hid hKV
  have HKU := Lib.hid hKU
  have HB := Lib.hid hB
  clear hE hvL hvT huL huT hv hu hKV hKU hB1 hR1 hb12 hKK hJJ hk
  go_enter Tryd.func7, Tryd.ntmps7
  go_upto_region 1 with (fail)
  generalize (w.alloc (.cells #[.int .i64 v.kd, .int .i64 v.n, .string ⟨v.s.toArray⟩, .slice A v.L.length c, .slice A' v.T.length c'] 25)).alloc (.cells #[.int .i64 u.kd, .int .i64 u.n, .string ⟨u.s.toArray⟩, .slice D u.L.length d, .slice D' u.T.length d'] 25) = W1 at *
  go_wp2_with (fail)
  go_must (refine (small_any (HE.out.keep HB.out)).mono ?_)
  rintro e w1 ⟨rfl, hb⟩
  replace HB := Lib.hid (Gen.over hb HB.out)
  have hR1 := hR.keep hb
  have hQ1 := hQ.keep hb
  have r0 := hR1.cell 0
  have r1 := hR1.cell 1
  have r2 := hR1.cell 2
  have r3 := hR1.cell 3
  have r4 := hR1.cell 4
  have s0 := hQ1.cell 0
  have s1 := hQ1.cell 1
  have s2 := hQ1.cell 2
  have s3 := hQ1.cell 3
  have s4 := hQ1.cell 4
  clear hb hB hR hR1 hQ hQ1
  dsimp only
  go_upto_region 2 with (fail)
  refine wp_region_held_drew (S := fun W' => Below w1.heap.size w1 W') (by kernel_rfl) (Below.refl _ _).drew (fun hHeld => ?_)
  refine wpAnyH_take (i := 0) (v := .agg #[.int .i64 v.kd, .int .i64 v.n, .string ⟨v.s.toArray⟩, .slice A v.L.length c, .slice A' v.T.length c']) rfl (by kernel_rfl) (by kernel_rfl) (by kernel_rfl) (fun _ _ _ h => h) (Or.inl ⟨by rfl, (by intro w' hSw; (try dsimp only at hSw); (have q0 := Gen.keep hSw r0; have q1 := Gen.keep hSw r1; have q2 := Gen.keep hSw r2; have q3 := Gen.keep hSw r3; have q4 := Gen.keep hSw r4); go_simp <;> with_reducible rfl)⟩) (by assumption) ?_
  (try simp only [Act.put, List.getElem_toArray, List.getElem_cons_succ, List.getElem_cons_zero, List.setIfInBounds_toArray, List.set_cons_zero, List.set_cons_succ])
  refine wpAnyH_ready (rs := [1]) (by kernel_rfl) (by simp) ?_
  refine AllReadyH.cons rfl (fun K hK => ?_) AllReadyH.nil
  rw [if_pos (by rfl)]
  (try simp only [Act.put, List.getElem_toArray, List.getElem_cons_succ, List.getElem_cons_zero, List.setIfInBounds_toArray, List.set_cons_zero, List.set_cons_succ])
  go_simp
  refine hK.out _ _ (Gen.b_alloc hHeld) (fun hHA => ?_)
  clear hK K
  (try simp only [Act.put, List.getElem_toArray, List.getElem_cons_succ, List.getElem_cons_zero, List.setIfInBounds_toArray, List.set_cons_zero, List.set_cons_succ])
  refine wpAnyH_ready (rs := [2]) (by kernel_rfl) (by simp) ?_
  refine AllReadyH.cons rfl (fun K hK => ?_) AllReadyH.nil
  rw [if_pos (by rfl)]
  (try simp only [Act.put, List.getElem_toArray, List.getElem_cons_succ, List.getElem_cons_zero, List.setIfInBounds_toArray, List.set_cons_zero, List.set_cons_succ])
  go_simp
  go_at_call 10
  refine (few_yes (HV.out _ _ (Gen.over hHA HB.out) (Row.new _ _ _)) HF.out).mono ?_
  rintro e w2 ⟨rfl, hb2⟩
  refine hK.out _ _ (Gen.over hb2 hHA) (fun hH2 => ?_)
  clear hK K
  (try simp only [Act.put, List.getElem_toArray, List.getElem_cons_succ, List.getElem_cons_zero, List.setIfInBounds_toArray, List.set_cons_zero, List.set_cons_succ])
  refine wpAnyH_take (i := 3) (v := .bool false) rfl (by kernel_rfl) (by kernel_rfl) (by kernel_rfl) (fun _ _ _ h => h) (Or.inl ⟨by rfl, (by intro w' hSw; (try dsimp only at hSw); go_simp <;> with_reducible rfl)⟩) (by assumption) ?_
  (try simp only [Act.put, List.getElem_toArray, List.getElem_cons_succ, List.getElem_cons_zero, List.setIfInBounds_toArray, List.set_cons_zero, List.set_cons_succ])
  refine wpAnyH_take (i := 4) (v := .bool false) rfl (by kernel_rfl) (by kernel_rfl) (by kernel_rfl) (fun _ _ _ h => h) (Or.inl ⟨by rfl, (by intro w' hSw; (try dsimp only at hSw); go_simp <;> with_reducible rfl)⟩) (by assumption) ?_
  (try simp only [Act.put, List.getElem_toArray, List.getElem_cons_succ, List.getElem_cons_zero, List.setIfInBounds_toArray, List.set_cons_zero, List.set_cons_succ])
  refine wpAnyH_take (i := 5) (v := .agg #[.int .i64 u.kd, .int .i64 u.n, .string ⟨u.s.toArray⟩, .slice D u.L.length d, .slice D' u.T.length d']) rfl (by kernel_rfl) (by kernel_rfl) (by kernel_rfl) (fun _ _ _ h => h) (Or.inl ⟨by rfl, (by intro w' hSw; (try dsimp only at hSw); (have q0 := Gen.keep hSw s0; have q1 := Gen.keep hSw s1; have q2 := Gen.keep hSw s2; have q3 := Gen.keep hSw s3; have q4 := Gen.keep hSw s4); go_simp <;> with_reducible rfl)⟩) (by assumption) ?_
  (try simp only [Act.put, List.getElem_toArray, List.getElem_cons_succ, List.getElem_cons_zero, List.setIfInBounds_toArray, List.set_cons_zero, List.set_cons_succ])
  refine wpAnyH_ready (rs := [6]) (by kernel_rfl) (by simp) ?_
  refine AllReadyH.cons rfl (fun K hK => ?_) AllReadyH.nil
  rw [if_pos (by rfl)]
  (try simp only [Act.put, List.getElem_toArray, List.getElem_cons_succ, List.getElem_cons_zero, List.setIfInBounds_toArray, List.set_cons_zero, List.set_cons_succ])
  go_simp
  refine hK.out _ _ (Gen.b_alloc hH2) (fun hHB => ?_)
  clear hK K
  (try simp only [Act.put, List.getElem_toArray, List.getElem_cons_succ, List.getElem_cons_zero, List.setIfInBounds_toArray, List.set_cons_zero, List.set_cons_succ])
  refine wpAnyH_ready (rs := [7]) (by kernel_rfl) (by simp) ?_
  refine AllReadyH.cons rfl (fun K hK => ?_) AllReadyH.nil
  rw [if_pos (by rfl)]
  (try simp only [Act.put, List.getElem_toArray, List.getElem_cons_succ, List.getElem_cons_zero, List.setIfInBounds_toArray, List.set_cons_zero, List.set_cons_succ])
  go_simp
  go_at_call 10
  refine (few_yes (HU.out _ _ (Gen.over hHB HB.out) (Row.new _ _ _)) HG.out).mono ?_
  rintro e w7 ⟨rfl, hb7⟩
  refine hK.out _ _ (Gen.over hb7 hHB) (fun hH7 => ?_)
  clear hK K
  (try simp only [Act.put, List.getElem_toArray, List.getElem_cons_succ, List.getElem_cons_zero, List.setIfInBounds_toArray, List.set_cons_zero, List.set_cons_succ])
  refine wpAnyH_take (i := 8) (v := .bool false) rfl (by kernel_rfl) (by kernel_rfl) (by kernel_rfl) (fun _ _ _ h => h) (Or.inl ⟨by rfl, (by intro w' hSw; (try dsimp only at hSw); go_simp <;> with_reducible rfl)⟩) (by assumption) ?_
  (try simp only [Act.put, List.getElem_toArray, List.getElem_cons_succ, List.getElem_cons_zero, List.setIfInBounds_toArray, List.set_cons_zero, List.set_cons_succ])
  refine wpAnyH_take (i := 9) (v := .bool false) rfl (by kernel_rfl) (by kernel_rfl) (by kernel_rfl) (fun _ _ _ h => h) (Or.inl ⟨by rfl, (by intro w' hSw; (try dsimp only at hSw); go_simp <;> with_reducible rfl)⟩) (by assumption) ?_
  (try simp only [Act.put, List.getElem_toArray, List.getElem_cons_succ, List.getElem_cons_zero, List.setIfInBounds_toArray, List.set_cons_zero, List.set_cons_succ])
  refine wpAnyH_take (i := 10) (v := .bool false) rfl (by kernel_rfl) (by kernel_rfl) (by kernel_rfl) (fun _ _ _ h => h) (Or.inl ⟨by rfl, (by intro w' hSw; (try dsimp only at hSw); go_simp <;> with_reducible rfl)⟩) (by assumption) ?_
  (try simp only [Act.put, List.getElem_toArray, List.getElem_cons_succ, List.getElem_cons_zero, List.setIfInBounds_toArray, List.set_cons_zero, List.set_cons_succ])
  refine wpAnyH_take (i := 11) (v := .agg #[.int .i64 v.kd, .int .i64 v.n, .string ⟨v.s.toArray⟩, .slice A v.L.length c, .slice A' v.T.length c']) rfl (by kernel_rfl) (by kernel_rfl) (by kernel_rfl) (fun _ _ _ h => h) (Or.inl ⟨by rfl, (by intro w' hSw; (try dsimp only at hSw); (have q0 := Gen.keep hSw r0; have q1 := Gen.keep hSw r1; have q2 := Gen.keep hSw r2; have q3 := Gen.keep hSw r3; have q4 := Gen.keep hSw r4); go_simp <;> with_reducible rfl)⟩) (by assumption) ?_
  (try simp only [Act.put, List.getElem_toArray, List.getElem_cons_succ, List.getElem_cons_zero, List.setIfInBounds_toArray, List.set_cons_zero, List.set_cons_succ])
  refine wpAnyH_take (i := 13) (v := .agg #[.int .i64 u.kd, .int .i64 u.n, .string ⟨u.s.toArray⟩, .slice D u.L.length d, .slice D' u.T.length d']) rfl (by kernel_rfl) (by kernel_rfl) (by kernel_rfl) (fun _ _ _ h => h) (Or.inl ⟨by rfl, (by intro w' hSw; (try dsimp only at hSw); (have q0 := Gen.keep hSw s0; have q1 := Gen.keep hSw s1; have q2 := Gen.keep hSw s2; have q3 := Gen.keep hSw s3; have q4 := Gen.keep hSw s4); go_simp <;> with_reducible rfl)⟩) (by assumption) ?_
  (try simp only [Act.put, List.getElem_toArray, List.getElem_cons_succ, List.getElem_cons_zero, List.setIfInBounds_toArray, List.set_cons_zero, List.set_cons_succ])
  refine wpAnyH_ready (rs := [12]) (by kernel_rfl) (by simp) ?_
  refine AllReadyH.cons rfl (fun K hK => ?_) AllReadyH.nil
  rw [if_pos (by rfl)]
  (try simp only [Act.put, List.getElem_toArray, List.getElem_cons_succ, List.getElem_cons_zero, List.setIfInBounds_toArray, List.set_cons_zero, List.set_cons_succ])
  go_simp
  go_at_call 23
  refine (HKV.out _).mono ?_
  rintro e w12 ⟨rfl, hb12⟩
  refine hK.out _ _ (Gen.over hb12 hH7) (fun hH12 => ?_)
  clear hK K
  (try simp only [Act.put, List.getElem_toArray, List.getElem_cons_succ, List.getElem_cons_zero, List.setIfInBounds_toArray, List.set_cons_zero, List.set_cons_succ])
  refine wpAnyH_ready (rs := [14]) (by kernel_rfl) (by simp) ?_
  refine AllReadyH.cons rfl (fun K hK => ?_) AllReadyH.nil
  rw [if_pos (by rfl)]
  (try simp only [Act.put, List.getElem_toArray, List.getElem_cons_succ, List.getElem_cons_zero, List.setIfInBounds_toArray, List.set_cons_zero, List.set_cons_succ])
  go_simp
  go_at_call 23
  refine (HKU.out _).mono ?_
  rintro e w14 ⟨rfl, hb14⟩
  refine hK.out _ _ (Gen.over hb14 hH12) (fun hH14 => ?_)
  clear hK K
  (try simp only [Act.put, List.getElem_toArray, List.getElem_cons_succ, List.getElem_cons_zero, List.setIfInBounds_toArray, List.set_cons_zero, List.set_cons_succ])
  refine wpAnyH_take (i := 15) (v := .bool true) rfl (by kernel_rfl) (by kernel_rfl) (by kernel_rfl) (fun _ _ _ h => h) (Or.inl ⟨by rfl, (by intro w' hSw; (try dsimp only at hSw); go_simp <;> with_reducible rfl)⟩) (by assumption) ?_
  (try simp only [Act.put, List.getElem_toArray, List.getElem_cons_succ, List.getElem_cons_zero, List.setIfInBounds_toArray, List.set_cons_zero, List.set_cons_succ])
  refine wpAnyH_take (i := 16) (v := .bool true) rfl (by kernel_rfl) (by kernel_rfl) (by kernel_rfl) (fun _ _ _ h => h) (Or.inl ⟨by rfl, (by intro w' hSw; (try dsimp only at hSw); go_simp <;> with_reducible rfl)⟩) (by assumption) ?_
  (try simp only [Act.put, List.getElem_toArray, List.getElem_cons_succ, List.getElem_cons_zero, List.setIfInBounds_toArray, List.set_cons_zero, List.set_cons_succ])
  refine wpAnyH_done (by kernel_rfl) ?_ _
  have HBz := Lib.hid (Gen.over hH14 HB.out)
  clear r0 r1 r2 r3 r4 s0 s1 s2 s3 s4
  go_wp2
  go_ret
  exact ⟨rfl, HBz.out⟩
set_option maxRecDepth 100000 in
set_option maxHeartbeats 16000000 in
theorem prefix_D (w : World) (hE : En w w) (hv : Wv v) (hu : Wv u) (hvL : Ints w A v.L) (hvT : Sts w A' v.T) (huL : Ints w D u.L) (huT : Sts w D' u.T) (hf : fewP [v]) (hg : fewP [u]) (hk : kdv v.kd = kdv u.kd) :
    Calls Tryd.prog 7 #[.agg (vcs v A c A' c'), .agg (vcs u D d D' d')] w fun e w' => e = .returned (.bool true) ∧ Below w.heap.size w w' := by
  have hB1 : Below w.heap.size w (w.alloc (.cells (vcs v A c A' c') 25)) := Gen.b_alloc (Below.refl _ _)
  have hR1 : Row (w.alloc (.cells (vcs v A c A' c') 25)) w.heap.size 25 (vcs v A c A' c') := Row.new _ _ _
  have hb12 : Below (w.alloc (.cells (vcs v A c A' c') 25)).heap.size (w.alloc (.cells (vcs v A c A' c') 25)) ((w.alloc (.cells (vcs v A c A' c') 25)).alloc (.cells (vcs u D d D' d') 25)) := Gen.b_alloc (Below.refl _ _)
  have hB : Below w.heap.size w ((w.alloc (.cells (vcs v A c A' c') 25)).alloc (.cells (vcs u D d D' d') 25)) := Gen.b_alloc hB1
  have hR : Row ((w.alloc (.cells (vcs v A c A' c') 25)).alloc (.cells (vcs u D d D' d') 25)) w.heap.size 25 (vcs v A c A' c') := hR1.keep hb12
  have hQ : Row ((w.alloc (.cells (vcs v A c A' c') 25)).alloc (.cells (vcs u D d D' d') 25)) (w.heap.size + 1) 25 (vcs u D d D' d') := by
    have h := Row.new (w.alloc (.cells (vcs v A c A' c') 25)) 25 (vcs u D d D' d')
    rwa [World.size_alloc] at h
  have HV : Hid (∀ W' b, Below w.heap.size w W' → Row W' b 25 (vcs v A c A' c') → Vll W' (some ⟨b, 0, none⟩) [v]) := Lib.hid fun W' b hb hr => vll_one hr (hvL.keep hb) (hvT.keep hb)
  have HU : Hid (∀ W' b, Below w.heap.size w W' → Row W' b 25 (vcs u D d D' d') → Vll W' (some ⟨b, 0, none⟩) [u]) := Lib.hid fun W' b hb hr => vll_one hr (huL.keep hb) (huT.keep hb)
  have hKV := fun W' => kind_any (v := v) (A := A) (c := c) (A' := A') (c' := c') (W := W') hv.1
  have hKU := fun W' => kind_any (v := u) (A := D) (c := d) (A' := D') (c' := d') (W := W') hu.1
  have HF := Lib.hid hf
  have HG := Lib.hid hg
  have hsv := sm_of hv (fewP_one hf)
  have hsu := sm_of hu (fewP_one hg)
  have HX1 : Hid ((encV v).length ≤ 500000) := Lib.hid (encV_len hsv)
  have HX2 : Hid ((encV u).length ≤ 500000) := Lib.hid (encV_len hsu)
  have HPN : Hid (∀ t, encV u = encV v ++ t → t = []) := Lib.hid fun t h => pre_nil hsv hsu hk h
  have hWV := fun W' (hb : Below w.heap.size w W') => write_any (v := v) (A := A) (c := c) (A' := A') (c' := c') (w := w) (W := W') hsv (hvL.keep hb) (hvT.keep hb) (hE.keep hb)
  have hWU := fun W' (hb : Below w.heap.size w W') => write_any (v := u) (A := D) (c := d) (A' := D') (c' := d') (w := w) (W := W') hsu (huL.keep hb) (huT.keep hb) (hE.keep hb)
  have hEU := fun W' g (hb : Below w.heap.size w W') (hg : w.heap.size ≤ g) (hr : Rd W' g ⟨(encV u ++ []).toArray⟩ false) => equal_yes (v := u) (A := D) (c := d) (A' := D') (c' := d') (w0 := w) (W := W') (t := []) hsu huL huT (hE.keep hb) hg hr (by have := encV_len hsu; rw [List.append_nil]; omega)
  have hKE : ∃ K J, kdv v.kd = K ∧ kdv u.kd = J ∧ K = J := ⟨_, _, rfl, rfl, hk⟩
  obtain ⟨K, J, hKK, hJJ, hkj⟩ := hKE
  rw [hKK] at hKV
  rw [hJJ] at hKU
  have HE := Lib.hid hE
  unfold vcs at hB1 hR1 hb12 hB hR hQ HV HU hKV hKU hWV hWU hEU ⊢
  subst hkj
  have hkk : (K != K) = false := by simp
  have HKV := Lib.hid hKV
  have HWV := Lib.hid hWV
  have HWU := Lib.hid hWU
  have HEU := Lib.hid hEU
  have HKU := Lib.hid hKU
  have HB := Lib.hid hB
  clear hE hvL hvT huL huT hv hu hKV hKU hB1 hR1 hb12 hKK hJJ hk hsv hsu hf hg hWV hWU hEU
  go_enter Tryd.func7, Tryd.ntmps7
  go_upto_region 1 with (fail)
  generalize (w.alloc (.cells #[.int .i64 v.kd, .int .i64 v.n, .string ⟨v.s.toArray⟩, .slice A v.L.length c, .slice A' v.T.length c'] 25)).alloc (.cells #[.int .i64 u.kd, .int .i64 u.n, .string ⟨u.s.toArray⟩, .slice D u.L.length d, .slice D' u.T.length d'] 25) = W1 at *
  go_wp2_with (fail)
  go_must (refine (small_any (HE.out.keep HB.out)).mono ?_)
  rintro e w1 ⟨rfl, hb⟩
  replace HB := Lib.hid (Gen.over hb HB.out)
  have hR1 := hR.keep hb
  have hQ1 := hQ.keep hb
  have r0 := hR1.cell 0
  have r1 := hR1.cell 1
  have r2 := hR1.cell 2
  have r3 := hR1.cell 3
  have r4 := hR1.cell 4
  have s0 := hQ1.cell 0
  have s1 := hQ1.cell 1
  have s2 := hQ1.cell 2
  have s3 := hQ1.cell 3
  have s4 := hQ1.cell 4
  clear hb hB hR hR1 hQ hQ1
  dsimp only
  go_upto_region 2 with (fail)
  refine wp_region_held_drew (S := fun W' => Below w1.heap.size w1 W') (by kernel_rfl) (Below.refl _ _).drew (fun hHeld => ?_)
  refine wpAnyH_take (i := 0) (v := .agg #[.int .i64 v.kd, .int .i64 v.n, .string ⟨v.s.toArray⟩, .slice A v.L.length c, .slice A' v.T.length c']) rfl (by kernel_rfl) (by kernel_rfl) (by kernel_rfl) (fun _ _ _ h => h) (Or.inl ⟨by rfl, (by intro w' hSw; (try dsimp only at hSw); (have q0 := Gen.keep hSw r0; have q1 := Gen.keep hSw r1; have q2 := Gen.keep hSw r2; have q3 := Gen.keep hSw r3; have q4 := Gen.keep hSw r4); go_simp <;> with_reducible rfl)⟩) (by assumption) ?_
  (try simp only [Act.put, List.getElem_toArray, List.getElem_cons_succ, List.getElem_cons_zero, List.setIfInBounds_toArray, List.set_cons_zero, List.set_cons_succ])
  refine wpAnyH_ready (rs := [1]) (by kernel_rfl) (by simp) ?_
  refine AllReadyH.cons rfl (fun K hK => ?_) AllReadyH.nil
  rw [if_pos (by rfl)]
  (try simp only [Act.put, List.getElem_toArray, List.getElem_cons_succ, List.getElem_cons_zero, List.setIfInBounds_toArray, List.set_cons_zero, List.set_cons_succ])
  go_simp
  refine hK.out _ _ (Gen.b_alloc hHeld) (fun hHA => ?_)
  clear hK K
  (try simp only [Act.put, List.getElem_toArray, List.getElem_cons_succ, List.getElem_cons_zero, List.setIfInBounds_toArray, List.set_cons_zero, List.set_cons_succ])
  refine wpAnyH_ready (rs := [2]) (by kernel_rfl) (by simp) ?_
  refine AllReadyH.cons rfl (fun K hK => ?_) AllReadyH.nil
  rw [if_pos (by rfl)]
  (try simp only [Act.put, List.getElem_toArray, List.getElem_cons_succ, List.getElem_cons_zero, List.setIfInBounds_toArray, List.set_cons_zero, List.set_cons_succ])
  go_simp
  go_at_call 10
  refine (few_yes (HV.out _ _ (Gen.over hHA HB.out) (Row.new _ _ _)) HF.out).mono ?_
  rintro e w2 ⟨rfl, hb2⟩
  refine hK.out _ _ (Gen.over hb2 hHA) (fun hH2 => ?_)
  clear hK K
  (try simp only [Act.put, List.getElem_toArray, List.getElem_cons_succ, List.getElem_cons_zero, List.setIfInBounds_toArray, List.set_cons_zero, List.set_cons_succ])
  refine wpAnyH_take (i := 3) (v := .bool false) rfl (by kernel_rfl) (by kernel_rfl) (by kernel_rfl) (fun _ _ _ h => h) (Or.inl ⟨by rfl, (by intro w' hSw; (try dsimp only at hSw); go_simp <;> with_reducible rfl)⟩) (by assumption) ?_
  (try simp only [Act.put, List.getElem_toArray, List.getElem_cons_succ, List.getElem_cons_zero, List.setIfInBounds_toArray, List.set_cons_zero, List.set_cons_succ])
  refine wpAnyH_take (i := 4) (v := .bool false) rfl (by kernel_rfl) (by kernel_rfl) (by kernel_rfl) (fun _ _ _ h => h) (Or.inl ⟨by rfl, (by intro w' hSw; (try dsimp only at hSw); go_simp <;> with_reducible rfl)⟩) (by assumption) ?_
  (try simp only [Act.put, List.getElem_toArray, List.getElem_cons_succ, List.getElem_cons_zero, List.setIfInBounds_toArray, List.set_cons_zero, List.set_cons_succ])
  refine wpAnyH_take (i := 5) (v := .agg #[.int .i64 u.kd, .int .i64 u.n, .string ⟨u.s.toArray⟩, .slice D u.L.length d, .slice D' u.T.length d']) rfl (by kernel_rfl) (by kernel_rfl) (by kernel_rfl) (fun _ _ _ h => h) (Or.inl ⟨by rfl, (by intro w' hSw; (try dsimp only at hSw); (have q0 := Gen.keep hSw s0; have q1 := Gen.keep hSw s1; have q2 := Gen.keep hSw s2; have q3 := Gen.keep hSw s3; have q4 := Gen.keep hSw s4); go_simp <;> with_reducible rfl)⟩) (by assumption) ?_
  (try simp only [Act.put, List.getElem_toArray, List.getElem_cons_succ, List.getElem_cons_zero, List.setIfInBounds_toArray, List.set_cons_zero, List.set_cons_succ])
  refine wpAnyH_ready (rs := [6]) (by kernel_rfl) (by simp) ?_
  refine AllReadyH.cons rfl (fun K hK => ?_) AllReadyH.nil
  rw [if_pos (by rfl)]
  (try simp only [Act.put, List.getElem_toArray, List.getElem_cons_succ, List.getElem_cons_zero, List.setIfInBounds_toArray, List.set_cons_zero, List.set_cons_succ])
  go_simp
  refine hK.out _ _ (Gen.b_alloc hH2) (fun hHB => ?_)
  clear hK K
  (try simp only [Act.put, List.getElem_toArray, List.getElem_cons_succ, List.getElem_cons_zero, List.setIfInBounds_toArray, List.set_cons_zero, List.set_cons_succ])
  refine wpAnyH_ready (rs := [7]) (by kernel_rfl) (by simp) ?_
  refine AllReadyH.cons rfl (fun K hK => ?_) AllReadyH.nil
  rw [if_pos (by rfl)]
  (try simp only [Act.put, List.getElem_toArray, List.getElem_cons_succ, List.getElem_cons_zero, List.setIfInBounds_toArray, List.set_cons_zero, List.set_cons_succ])
  go_simp
  go_at_call 10
  refine (few_yes (HU.out _ _ (Gen.over hHB HB.out) (Row.new _ _ _)) HG.out).mono ?_
  rintro e w7 ⟨rfl, hb7⟩
  refine hK.out _ _ (Gen.over hb7 hHB) (fun hH7 => ?_)
  clear hK K
  (try simp only [Act.put, List.getElem_toArray, List.getElem_cons_succ, List.getElem_cons_zero, List.setIfInBounds_toArray, List.set_cons_zero, List.set_cons_succ])
  refine wpAnyH_take (i := 8) (v := .bool false) rfl (by kernel_rfl) (by kernel_rfl) (by kernel_rfl) (fun _ _ _ h => h) (Or.inl ⟨by rfl, (by intro w' hSw; (try dsimp only at hSw); go_simp <;> with_reducible rfl)⟩) (by assumption) ?_
  (try simp only [Act.put, List.getElem_toArray, List.getElem_cons_succ, List.getElem_cons_zero, List.setIfInBounds_toArray, List.set_cons_zero, List.set_cons_succ])
  refine wpAnyH_take (i := 9) (v := .bool false) rfl (by kernel_rfl) (by kernel_rfl) (by kernel_rfl) (fun _ _ _ h => h) (Or.inl ⟨by rfl, (by intro w' hSw; (try dsimp only at hSw); go_simp <;> with_reducible rfl)⟩) (by assumption) ?_
  (try simp only [Act.put, List.getElem_toArray, List.getElem_cons_succ, List.getElem_cons_zero, List.setIfInBounds_toArray, List.set_cons_zero, List.set_cons_succ])
  refine wpAnyH_take (i := 10) (v := .bool false) rfl (by kernel_rfl) (by kernel_rfl) (by kernel_rfl) (fun _ _ _ h => h) (Or.inl ⟨by rfl, (by intro w' hSw; (try dsimp only at hSw); go_simp <;> with_reducible rfl)⟩) (by assumption) ?_
  (try simp only [Act.put, List.getElem_toArray, List.getElem_cons_succ, List.getElem_cons_zero, List.setIfInBounds_toArray, List.set_cons_zero, List.set_cons_succ])
  refine wpAnyH_take (i := 11) (v := .agg #[.int .i64 v.kd, .int .i64 v.n, .string ⟨v.s.toArray⟩, .slice A v.L.length c, .slice A' v.T.length c']) rfl (by kernel_rfl) (by kernel_rfl) (by kernel_rfl) (fun _ _ _ h => h) (Or.inl ⟨by rfl, (by intro w' hSw; (try dsimp only at hSw); (have q0 := Gen.keep hSw r0; have q1 := Gen.keep hSw r1; have q2 := Gen.keep hSw r2; have q3 := Gen.keep hSw r3; have q4 := Gen.keep hSw r4); go_simp <;> with_reducible rfl)⟩) (by assumption) ?_
  (try simp only [Act.put, List.getElem_toArray, List.getElem_cons_succ, List.getElem_cons_zero, List.setIfInBounds_toArray, List.set_cons_zero, List.set_cons_succ])
  refine wpAnyH_take (i := 13) (v := .agg #[.int .i64 u.kd, .int .i64 u.n, .string ⟨u.s.toArray⟩, .slice D u.L.length d, .slice D' u.T.length d']) rfl (by kernel_rfl) (by kernel_rfl) (by kernel_rfl) (fun _ _ _ h => h) (Or.inl ⟨by rfl, (by intro w' hSw; (try dsimp only at hSw); (have q0 := Gen.keep hSw s0; have q1 := Gen.keep hSw s1; have q2 := Gen.keep hSw s2; have q3 := Gen.keep hSw s3; have q4 := Gen.keep hSw s4); go_simp <;> with_reducible rfl)⟩) (by assumption) ?_
  (try simp only [Act.put, List.getElem_toArray, List.getElem_cons_succ, List.getElem_cons_zero, List.setIfInBounds_toArray, List.set_cons_zero, List.set_cons_succ])
  refine wpAnyH_ready (rs := [12]) (by kernel_rfl) (by simp) ?_
  refine AllReadyH.cons rfl (fun K hK => ?_) AllReadyH.nil
  rw [if_pos (by rfl)]
  (try simp only [Act.put, List.getElem_toArray, List.getElem_cons_succ, List.getElem_cons_zero, List.setIfInBounds_toArray, List.set_cons_zero, List.set_cons_succ])
  go_simp
  go_at_call 23
  refine (HKV.out _).mono ?_
  rintro e w12 ⟨rfl, hb12⟩
  refine hK.out _ _ (Gen.over hb12 hH7) (fun hH12 => ?_)
  clear hK K
  (try simp only [Act.put, List.getElem_toArray, List.getElem_cons_succ, List.getElem_cons_zero, List.setIfInBounds_toArray, List.set_cons_zero, List.set_cons_succ])
  refine wpAnyH_ready (rs := [14]) (by kernel_rfl) (by simp) ?_
  refine AllReadyH.cons rfl (fun K hK => ?_) AllReadyH.nil
  rw [if_pos (by rfl)]
  (try simp only [Act.put, List.getElem_toArray, List.getElem_cons_succ, List.getElem_cons_zero, List.setIfInBounds_toArray, List.set_cons_zero, List.set_cons_succ])
  go_simp
  go_at_call 23
  refine (HKU.out _).mono ?_
  rintro e w14 ⟨rfl, hb14⟩
  refine hK.out _ _ (Gen.over hb14 hH12) (fun hH14 => ?_)
  clear hK K
  (try simp only [Act.put, List.getElem_toArray, List.getElem_cons_succ, List.getElem_cons_zero, List.setIfInBounds_toArray, List.set_cons_zero, List.set_cons_succ])
  refine wpAnyH_take (i := 15) (v := .bool false) rfl (by kernel_rfl) (by kernel_rfl) (by kernel_rfl) (fun _ _ _ h => h) (Or.inl ⟨by rfl, (by intro w' hSw; (try dsimp only at hSw); go_simp <;> with_reducible rfl)⟩) (by assumption) ?_
  (try simp only [Act.put, List.getElem_toArray, List.getElem_cons_succ, List.getElem_cons_zero, List.setIfInBounds_toArray, List.set_cons_zero, List.set_cons_succ])
  refine wpAnyH_take (i := 16) (v := .bool false) rfl (by kernel_rfl) (by kernel_rfl) (by kernel_rfl) (fun _ _ _ h => h) (Or.inl ⟨by rfl, (by intro w' hSw; (try dsimp only at hSw); go_simp <;> with_reducible rfl)⟩) (by assumption) ?_
  (try simp only [Act.put, List.getElem_toArray, List.getElem_cons_succ, List.getElem_cons_zero, List.setIfInBounds_toArray, List.set_cons_zero, List.set_cons_succ])
  refine wpAnyH_done (by kernel_rfl) ?_ _
  have HBz := Lib.hid (Gen.over hH14 HB.out)
  have HK : Hid (∀ W', Below w14.heap.size w14 W' → W'.cell? ⟨w.heap.size, 0, none⟩ = some (.int .i64 v.kd) ∧ W'.cell? ⟨w.heap.size, 1, none⟩ = some (.int .i64 v.n) ∧ W'.cell? ⟨w.heap.size, 2, none⟩ = some (.string ⟨v.s.toArray⟩) ∧ W'.cell? ⟨w.heap.size, 3, none⟩ = some (.slice A v.L.length c) ∧ W'.cell? ⟨w.heap.size, 4, none⟩ = some (.slice A' v.T.length c') ∧ W'.cell? ⟨w.heap.size + 1, 0, none⟩ = some (.int .i64 u.kd) ∧ W'.cell? ⟨w.heap.size + 1, 1, none⟩ = some (.int .i64 u.n) ∧ W'.cell? ⟨w.heap.size + 1, 2, none⟩ = some (.string ⟨u.s.toArray⟩) ∧ W'.cell? ⟨w.heap.size + 1, 3, none⟩ = some (.slice D u.L.length d) ∧ W'.cell? ⟨w.heap.size + 1, 4, none⟩ = some (.slice D' u.T.length d')) := Lib.hid fun W' h => ⟨Gen.keep h (Gen.keep hH14 r0), Gen.keep h (Gen.keep hH14 r1), Gen.keep h (Gen.keep hH14 r2), Gen.keep h (Gen.keep hH14 r3), Gen.keep h (Gen.keep hH14 r4), Gen.keep h (Gen.keep hH14 s0), Gen.keep h (Gen.keep hH14 s1), Gen.keep h (Gen.keep hH14 s2), Gen.keep h (Gen.keep hH14 s3), Gen.keep h (Gen.keep hH14 s4)⟩
  clear r0 r1 r2 r3 r4 s0 s1 s2 s3 s4
  obtain ⟨r0, r1, r2, r3, r4, s0, s1, s2, s3, s4⟩ := HK.out w14 (Below.refl _ _)
  clear hH14 hb14 hH12 hb12 hH7 hb7 hH2 hb2 hHA hHB
  go_wp2_with (fail)
  go_must (refine (HWV.out _ HBz.out).mono ?_)
  rintro e w3 ⟨rfl, hb3⟩
  have HB3 := Lib.hid (Gen.over hb3 HBz.out)
  have HC3 := Lib.hid (show Below w14.heap.size w14 w3 from hb3)
  clear hb3 r0 r1 r2 r3 r4 s0 s1 s2 s3 s4
  obtain ⟨r0, r1, r2, r3, r4, s0, s1, s2, s3, s4⟩ := HK.out w3 HC3.out
  dsimp only
  go_wp2_with (fail)
  go_must (refine (HWU.out _ HB3.out).mono ?_)
  rintro e w4 ⟨rfl, hb4⟩
  have HB4 := Lib.hid (Gen.over hb4 HB3.out)
  have HC4 := Lib.hid (Gen.over hb4 HC3.out)
  clear hb4 r0 r1 r2 r3 r4 s0 s1 s2 s3 s4
  obtain ⟨X, hX⟩ : ∃ X, encV v = X := ⟨_, rfl⟩
  obtain ⟨Y, hY⟩ : ∃ Y, encV u = Y := ⟨_, rfl⟩
  rw [hX] at HPN HX1
  rw [hY] at HPN HX2 HEU
  rw [hX, hY]
  clear hX hY
  have hz1 : (⟨X.toArray⟩ : ByteArray).size = X.length := by simp [ByteArray.size]
  have hz2 : (⟨Y.toArray⟩ : ByteArray).size = Y.length := by simp [ByteArray.size]
  by_cases hgt : Y.length < X.length
  · have hgtI : (Y.length : Int) < (X.length : Int) := by omega
    dsimp only
    go_wp2
    go_ret
    exact ⟨rfl, HB4.out⟩
  · have hgtI : ¬ (Y.length : Int) < (X.length : Int) := by omega
    have hle : (X.length : Int) ≤ (Y.length : Int) := by omega
    have hmin : min (X.length : Int) (Y.length : Int) = (X.length : Int) := by omega
    have h0 : (0 : Int) ≤ (X.length : Int) := by omega
    have hAl : ((⟨Y.toArray⟩ : ByteArray).extract 0 X.length).toList = Y.take X.length := by
      rw [Lib.toList_data, Lib.extract_data, List.drop_zero, Nat.sub_zero]
    dsimp only
    by_cases hq : Y.take X.length = X
    · have hYX : Y = X := by
        have h2 : Y = X ++ Y.drop X.length := by
          conv => lhs; rw [← List.take_append_drop X.length Y]
          rw [hq]
        have h3 := HPN.out _ h2
        rw [h3, List.append_nil] at h2
        exact h2
      subst hYX
      rw [hq] at hAl
      have hself : (Y == Y) = true := beq_self_eq_true _
      clear hq
      go_wp2_with (fail)
      go_must (refine wopen_any.mono ?_)
      rintro e w5 ⟨g, rfl, hg, hr, hb5⟩
      have HG5 : Hid (w.heap.size ≤ g) := Lib.hid (by have := HB4.out.size; omega)
      have HR5 := Lib.hid (show Rd w5 g ⟨(Y ++ []).toArray⟩ false from by rw [List.append_nil]; exact hr)
      have HB5 := Lib.hid (Gen.over hb5 HB4.out)
      obtain ⟨r0, r1, r2, r3, r4, s0, s1, s2, s3, s4⟩ := HK.out w5 (Gen.over hb5 HC4.out)
      clear hb5 hr hg
      dsimp only
      go_wp2_with (fail)
      go_must (refine (HEU.out _ _ HB5.out HG5.out HR5.out).mono ?_)
      rintro e w6 ⟨rfl, hr6, ho6⟩
      have HB6 := Lib.hid (Only.below HB5.out ho6 (fun b e => by subst e; exact HG5.out))
      clear hr6 ho6 r0 r1 r2 r3 r4 s0 s1 s2 s3 s4
      dsimp only
      go_wp2
      go_ret
      exact ⟨rfl, HB6.out⟩
    · have hne : (Y.take X.length == X) = false := by simpa using hq
      obtain ⟨T, hT⟩ : ∃ T, Y.take X.length = T := ⟨_, rfl⟩
      rw [hT] at hAl hne hq
      clear hT
      go_wp2
      go_ret
      exact ⟨rfl, HB4.out⟩
theorem prefix_any (w : World) (hE : En w w) (hv : Wv v) (hu : Wv u) (hvL : Ints w A v.L) (hvT : Sts w A' v.T) (huL : Ints w D u.L) (huT : Sts w D' u.T) :
    Calls Tryd.prog 7 #[.agg (vcs v A c A' c'), .agg (vcs u D d D' d')] w fun e w' => e = .returned (.bool true) ∧ Below w.heap.size w w' := by
  by_cases hf : fewP [v]
  · by_cases hg : fewP [u]
    · by_cases hk : kdv v.kd = kdv u.kd
      · exact prefix_D w hE hv hu hvL hvT huL huT hf hg hk
      · exact prefix_C w hE hv hu hvL hvT huL huT hf hg hk
    · exact prefix_B w hE hv hu hvL hvT huL huT hf hg
  · exact prefix_A w hE hv hu hvL hvT huL huT hf
end
end Go.Proofs.YtapcfnlononniaaDoor.Wr
