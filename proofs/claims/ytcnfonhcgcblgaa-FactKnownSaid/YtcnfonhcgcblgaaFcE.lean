/- Facts: Add. -/
import Derived.Test.YtcnfonhcgcblgaaFcD
import Derived.Deep.DeepCutAuto
namespace Go.Proofs.Ytcnfonhcgcblgaa.Fc
open Go.Lib Go.ChangeShapes Go.WideShapes Go.ChangeAt Go.RowKit Go.Maps Go.Proofs.Ytcnfonhcgcblgaa.Cell Go.Proofs.Ytcnfonhcgcblgaa.Wd Go.Proofs.Ytcnfonhcgcblgaa.Rk
set_option linter.unusedVariables false
set_option linter.unusedSimpArgs false
/-- what adding a fact gives -/
def addL (l : List Fa) (f : Fa) : List Fa := if addE l f = 0 then l ++ [f] else []
theorem addE_bad {l : List Fa} {f : Fa} (h : rgF l = false ∨ okF f = false) : addE l f = 1 ∧ addL l f = [] := by
  have : addE l f = 1 := by unfold addE; rw [if_pos h]
  refine ⟨this, ?_⟩
  unfold addL
  rw [this]
  rfl
theorem addE_early {l : List Fa} {f x : Fa} (h1 : rgF l = true) (h2 : okF f = true) (hx : l.getLast? = some x) (h : f.dy < x.dy) : addE l f = 20 ∧ addL l f = [] := by
  have : addE l f = 20 := by unfold addE; rw [if_neg (by simp [h1, h2]), hx]; simp [h]
  refine ⟨this, ?_⟩
  unfold addL
  rw [this]
  rfl
theorem addE_ok {l : List Fa} {f : Fa} (h1 : rgF l = true) (h2 : okF f = true) (hx : ∀ x, l.getLast? = some x → x.dy ≤ f.dy) (hn : l.length ≤ 100) : addE l f = 0 ∧ addL l f = l ++ [f] := by
  have : addE l f = 0 := by
    unfold addE
    rw [if_neg (by simp [h1, h2])]
    cases h : l.getLast? with
    | none => simp; omega
    | some x => have := hx x h; simp; omega
  refine ⟨this, ?_⟩
  unfold addL
  rw [this]
  rfl
theorem last_at {l : List Fa} {k : Nat} (h : l.length = k + 1) {x : Fa} (hx : l[k]? = some x) : l.getLast? = some x := by
  rw [List.getLast?_eq_getElem?, h]
  exact hx
abbrev fobj (x : Fa) : Obj := .cells #[.int .i64 x.is, .string ⟨x.nm.toArray⟩, .int .i64 x.pe, .int .i64 x.va, .int .i64 x.dy] 24
def AddQ (w : World) (l : List Fa) (f : Fa) (e : Ending) (w' : World) : Prop := ∃ A2 c2, e = .returned (.tuple #[.slice A2 (addL l f).length c2, .int .i64 (addE l f)]) ∧ Rs fcs 5 w' A2 (addL l f) ∧ Below w.heap.size w w'
theorem AddQ.err {w w' : World} {l : List Fa} {f : Fa} {E : Int} (h : addE l f = E ∧ addL l f = []) (hb : Below w.heap.size w w') : AddQ w l f (.returned (.tuple #[.slice none 0 0, .int .i64 E])) w' := by
  refine ⟨none, 0, ?_, ?_, hb⟩
  · rw [h.1, h.2]; rfl
  · rw [h.2]; exact Rs.nil _ _
theorem fcs_one1 (x : Fa) : ∀ u ∈ fcs x, u.oneCell' = true := fun u hu => fcs_one [x] u (by simpa using hu)
theorem reads_keep {W W' : World} {B K n : Nat} {A : Option Addr} {xs : List Value} (h : App.Reads W B K A n xs) (hB : B ≤ W.heap.size) (hb : Below W.heap.size W W') : App.Reads W' B K A n xs := h.below (hb.mono hB)
theorem AddQ.good {w w' : World} {l : List Fa} {f : Fa} {A : Option Addr} {n c : Nat} (h : addE l f = 0 ∧ addL l f = l ++ [f]) (hn : (l ++ [f]).length = n) (hr : Rs fcs 5 w' A (l ++ [f])) (hb : Below w.heap.size w w') : AddQ w l f (.returned (.tuple #[.slice A n c, .int .i64 0])) w' := by
  refine ⟨A, c, ?_, ?_, hb⟩
  · rw [h.1, h.2, hn]
  · rw [h.2]; exact hr
theorem AddQ.drew {w w' : World} {l : List Fa} {f : Fa} {e : Ending} (h : AddQ w l f e w') (k : Nat) : AddQ w l f e (w'.drewN k) := by
  obtain ⟨A2, c2, h1, h2, h3⟩ := h
  exact ⟨A2, c2, h1, h2.keep (Gen.dN (Below.refl _ _) k), Gen.dN h3 k⟩
abbrev BX (w3 : World) (g : Nat) (fi fp fv fd : Int) (fn : List UInt8) (W' : World) : Prop := Below w3.heap.size w3 W' ∧ W'.cell? ⟨g, 0, none⟩ = some (.int .i64 fi) ∧ W'.cell? ⟨g, 1, none⟩ = some (.string ⟨fn.toArray⟩) ∧ W'.cell? ⟨g, 2, none⟩ = some (.int .i64 fp) ∧ W'.cell? ⟨g, 3, none⟩ = some (.int .i64 fv) ∧ W'.cell? ⟨g, 4, none⟩ = some (.int .i64 fd)
theorem BX.over {w3 : World} {g : Nat} {fi fp fv fd : Int} {fn : List UInt8} {W W' : World} (hb : Below W.heap.size W W') (h : BX w3 g fi fp fv fd fn W) : BX w3 g fi fp fv fd fn W' :=
  ⟨Gen.over hb h.1, keep0 hb _ _ _ h.2.1, keep0 hb _ _ _ h.2.2.1, keep0 hb _ _ _ h.2.2.2.1, keep0 hb _ _ _ h.2.2.2.2.1, keep0 hb _ _ _ h.2.2.2.2.2⟩
theorem BX.alloc {w3 : World} {g : Nat} {fi fp fv fd : Int} {fn : List UInt8} {W : World} {x : Obj} (h : BX w3 g fi fp fv fd fn W) : BX w3 g fi fp fv fd fn (W.alloc x) := BX.over (Gen.b_alloc (Below.refl _ _)) h
theorem BX.old {w3 : World} {g : Nat} {fi fp fv fd : Int} {fn : List UInt8} {W' : World} (h : BX w3 g fi fp fv fd fn w3) (hg : g < w3.heap.size) (hb : Below w3.heap.size w3 W') : BX w3 g fi fp fv fd fn W' := BX.over hb h
set_option maxRecDepth 100000 in
set_option maxHeartbeats 8000000 in
theorem fAdd_any {w : World} {A : Option Addr} {n c : Nat} {l : List Fa} (hn : l.length = n) (hc : Rs fcs 5 w A l) (hbig : n ≤ 100) (hnm : ∀ x ∈ l, x.nm.length ≤ 1000000000) (f : Fa) (hf : f.nm.length ≤ 1000000000) :
    Calls Try.prog 14 #[.slice A n c, .agg #[.int .i64 f.is, .string ⟨f.nm.toArray⟩, .int .i64 f.pe, .int .i64 f.va, .int .i64 f.dy]] w (AddQ w l f) := by
  have hb1 : Below w.heap.size w (w.alloc (fobj f)) := Gen.b_alloc (Below.refl _ _)
  have hr1 : Row (w.alloc (fobj f)) w.heap.size 24 (fcs f).toArray := Row.new _ _ _
  have HB1 := Lib.hid hb1
  have HR := Lib.hid (fRight_any (c := c) hn (hc.keep hb1) (by omega) hnm)
  obtain ⟨R, hR⟩ : ∃ R, rgF l = R := ⟨_, rfl⟩
  obtain ⟨r, hr⟩ : ∃ r, okF f = r := ⟨_, rfl⟩
  have HN := Lib.hid hn
  have HC := Lib.hid hc
  have HRW := Lib.hid hr1
  have HRG := Lib.hid hR
  have HRT := Lib.hid hr
  rw [hR] at HR
  obtain ⟨fi, fn, fp, fv, fd⟩ := f
  have HT := Lib.hid (fun W => fright_any fi fp fv fd fn (W := W) hf)
  have HT : Hid (∀ W, Calls Try.prog 42 #[.agg #[.int .i64 fi, .string ⟨fn.toArray⟩, .int .i64 fp, .int .i64 fv, .int .i64 fd]] W fun e w' => e = .returned (.bool r) ∧ Below W.heap.size W w') := Lib.hid (by rw [← HRT.out]; exact HT.out)
  try dsimp only at HB1 HR HRW
  clear hR hr hn hc hnm hf hb1 hr1
  go_enter Try.func14, Try.ntmps14
  go_wp2_with (fail)
  go_must (refine (HR.out).mono ?_)
  rintro e w1 ⟨rfl, hb1⟩
  have HB2 := Lib.hid (Gen.over hb1 HB1.out)
  have HW1 := Lib.hid (HRW.out.keep hb1)
  clear HR hb1 HB1
  cases R with
  | false =>
    have HE := Lib.hid (AddQ.err (addE_bad (f := ⟨fi, fn, fp, fv, fd⟩) (.inl HRG.out)) HB2.out)
    go_wp2
    exact bodyPost_ret (v := .tuple #[.slice none 0 0, .int .i64 1]) (by simp [results, Try.results14, go_sem]) rfl HE.out
  | true =>
    have c0 := HW1.out.cell 0
    have c1 := HW1.out.cell 1
    have c2 := HW1.out.cell 2
    have c3 := HW1.out.cell 3
    have c4 := HW1.out.cell 4
    simp [fcs] at c0 c1 c2 c3 c4
    go_wp2_with (fail)
    go_must (refine (HT.out w1).mono ?_)
    rintro e w2 ⟨rfl, hb2⟩
    have HB3 := Lib.hid (Gen.over hb2 HB2.out)
    have HW2 := Lib.hid (HW1.out.keep hb2)
    clear HT hb2 c0 c1 c2 c3 c4 HB2 HW1
    cases r with
    | false =>
      have HE := Lib.hid (AddQ.err (addE_bad (l := l) (.inr HRT.out)) HB3.out)
      go_wp2
      exact bodyPost_ret (v := .tuple #[.slice none 0 0, .int .i64 1]) (by simp [results, Try.results14, go_sem]) rfl HE.out
    | true =>
      have c4 := HW2.out.cell 4
      have hglt := HW2.out.lt
      simp [fcs] at c4
      by_cases hlast : ∃ x, l.getLast? = some x ∧ fd < x.dy
      · obtain ⟨x, hx, hxd⟩ := hlast
        have HE := Lib.hid (AddQ.err (addE_early (f := ⟨fi, fn, fp, fv, fd⟩) HRG.out HRT.out hx hxd) HB3.out)
        obtain ⟨k, rfl⟩ : ∃ k, n = k + 1 := ⟨n - 1, by have : l ≠ [] := (by rintro rfl; simp at hx); have := List.length_pos_iff.2 this; have := HN.out; omega⟩
        rw [List.getLast?_eq_getElem?, HN.out] at hx
        obtain ⟨b, off, rfl, hcell⟩ := (HC.out.keep HB3.out) (by rw [HN.out]; omega)
        have m4 := hcell k _ hx 4 _ rfl
        obtain ⟨xi, xn, xp, xv, xd⟩ := x
        dsimp only at m4 hxd
        have h0 : (0 : Int) < ((k + 1 : Nat) : Int) := by omega
        have kk : (k : Int) < ((k + 1 : Nat) : Int) := by omega
        have k0 : (0 : Int) ≤ (k : Int) := by omega
        clear hcell hx
        go_wp2_with (fail)
        go_quiet (fail)
        have HE2 := Lib.hid (HE.out.drew nq)
        go_wp2
        exact bodyPost_ret (v := .tuple #[.slice none 0 0, .int .i64 20]) (by simp [results, Try.results14, go_sem]) rfl HE2.out
      · have hall : ∀ x, l.getLast? = some x → x.dy ≤ fd := fun x hx => by
          have := not_exists.1 hlast x
          simp [hx] at this
          omega
        have HOK := Lib.hid (addE_ok (f := ⟨fi, fn, fp, fv, fd⟩) HRG.out HRT.out hall (by rw [HN.out]; omega))
        have hne : ¬ ((n : Int) = 10000) := by omega
        have hne2 : ((n : Int) == 10000) = false := by simp; omega
        clear hlast
        obtain ⟨i0, hi0, hz0, hz1, hz2⟩ := info_parts' infoF
        have N1 := Lib.hid (show n + 1 ≤ maxLen from by simp only [maxLen]; omega)
        have N2 := Lib.hid (show (n + 1) * 48 ≤ 140737488355328 from by omega)
        have HSS : Hid (Below w2.heap.size w2 w2.drew) := Lib.hid (Below.refl _ _).drew
        cases n with
        | zero =>
          have h0 : ¬ (0 : Int) < ((0 : Nat) : Int) := by omega
          go_wp2_with (fail)
          go_quiet (fail)
          have HB4 := Lib.hid (Gen.dN HB3.out nq)
          have HR4 := Lib.hid (HW2.out.keep (Gen.dN (Below.refl _ _) nq))
          obtain ⟨w3, hw3⟩ : ∃ w3, w2.drewN nq = w3 := ⟨_, rfl⟩
          rw [hw3] at HB4 HR4
          clear h0 HSS
          go_upto_region 7 with (fail)
          try rw [hw3]
          clear hw3 HB3 HW2
          try clear c4
          have c0 := HR4.out.cell 0
          have c1 := HR4.out.cell 1
          have c2 := HR4.out.cell 2
          have c3 := HR4.out.cell 3
          have c4 := HR4.out.cell 4
          simp [fcs] at c0 c1 c2 c3 c4
          have HSS : Hid (BX w3 w.heap.size fi fp fv fd fn w3.drew) := Lib.hid ⟨(Below.refl _ _).drew, c0, c1, c2, c3, c4⟩
          have HSS0 : Hid (BX w3 w.heap.size fi fp fv fd fn w3) := Lib.hid ⟨Below.refl _ _, c0, c1, c2, c3, c4⟩
          clear c0 c1 c2 c3 c4
          have hG3 := Lib.hid HR4.out.lt
          refine wp_region_held_drew (S := (fun W' : World => Below w3.heap.size w3 W' ∧ W'.cell? ⟨w.heap.size, 0, none⟩ = some (.int .i64 fi) ∧ W'.cell? ⟨w.heap.size, 1, none⟩ = some (.string ⟨fn.toArray⟩) ∧ W'.cell? ⟨w.heap.size, 2, none⟩ = some (.int .i64 fp) ∧ W'.cell? ⟨w.heap.size, 3, none⟩ = some (.int .i64 fv) ∧ W'.cell? ⟨w.heap.size, 4, none⟩ = some (.int .i64 fd))) (by kernel_rfl) (HSS.out) (fun hHeld => ?_)
          refine wpAnyH_take (i := 0) (v := .slice A 0 c) rfl (by kernel_rfl) (by kernel_rfl) (by kernel_rfl) (fun _ _ _ h => h) (Or.inl ⟨by rfl, (by intro w hSw; (try dsimp only at hSw); go_simp <;> first | with_reducible rfl | (with_reducible assumption) | omega)⟩) (by assumption) ?_
          (try simp only [Act.put, List.getElem_toArray, List.getElem_cons_succ, List.getElem_cons_zero, List.setIfInBounds_toArray, List.set_cons_zero, List.set_cons_succ])
          refine wpAnyH_take (i := 2) (v := .agg #[.int .i64 fi, .string ⟨fn.toArray⟩, .int .i64 fp, .int .i64 fv, .int .i64 fd]) rfl (by kernel_rfl) (by kernel_rfl) (by kernel_rfl) (fun _ _ _ h => h) (Or.inl ⟨by rfl, (by intro w hSw; (try dsimp only at hSw); go_simp <;> first | with_reducible rfl | (with_reducible assumption) | omega)⟩) (by assumption) ?_
          (try simp only [Act.put, List.getElem_toArray, List.getElem_cons_succ, List.getElem_cons_zero, List.setIfInBounds_toArray, List.set_cons_zero, List.set_cons_succ])
          refine wpAnyH_ready (rs := [1, 3]) (by kernel_rfl) (by simp) ?_
          refine AllReadyH.cons rfl (fun K hK => ?_) (AllReadyH.cons rfl (fun K hK => ?_) AllReadyH.nil)
          · rw [if_pos (by rfl)]
            (try simp only [Act.put, List.getElem_toArray, List.getElem_cons_succ, List.getElem_cons_zero, List.setIfInBounds_toArray, List.set_cons_zero, List.set_cons_succ])
            go_simp
            go_at_call 43
            refine (clone_f HN.out (HC.out.keep (Gen.over (Below.refl _ _).drew HB4.out)) (by omega)).mono ?_
            rintro e' w8 ⟨A8, c8, rfl, ho8, hB8⟩
            have hB8' : Below w3.heap.size w3 w8 := Gen.over hB8 (Below.refl _ _).drew
            refine hK.out _ _ (BX.old HSS0.out hG3.out hB8') (fun hH8 => ?_)
            clear hK K
            (try simp only [Act.put, List.getElem_toArray, List.getElem_cons_succ, List.getElem_cons_zero, List.setIfInBounds_toArray, List.set_cons_zero, List.set_cons_succ])
            refine wpAnyH_ready (rs := [3]) (by kernel_rfl) (by simp) ?_
            refine AllReadyH.cons rfl (fun K hK => ?_) AllReadyH.nil
            rw [if_pos (by rfl)]
            (try simp only [Act.put, List.getElem_toArray, List.getElem_cons_succ, List.getElem_cons_zero, List.setIfInBounds_toArray, List.set_cons_zero, List.set_cons_succ])
            go_simp
            refine hK.out _ _ (BX.alloc hH8) (fun hH9 => ?_)
            clear hK K
            (try simp only [Act.put, List.getElem_toArray, List.getElem_cons_succ, List.getElem_cons_zero, List.setIfInBounds_toArray, List.set_cons_zero, List.set_cons_succ])
            refine wpAnyH_ready (rs := [4]) (by kernel_rfl) (by simp) ?_
            refine AllReadyH.cons rfl (fun K hK => ?_) AllReadyH.nil
            refine App.step_append_any _ (by rfl) (.tmp 36) (.tmp 38) 22 (by rfl) _ 24 i0 _ 5 48 Try.underlying22 hi0 hz0 hz1 hz2 rfl (by omega) (.slice A8 0 c8) 0 (l.flatMap fcs) rfl (Gen.own_keep ho8 (Gen.b_alloc (x := .cells #[.int .i64 fi, .string ⟨fn.toArray⟩, .int .i64 fp, .int .i64 fv, .int .i64 fd] 24) (Below.refl _ _))) (w8.heap.size + 1) (some ⟨w8.heap.size, 0, none⟩) 1 1 (fcs ⟨fi, fn, fp, fv, fd⟩) rfl (Gen.reads_blk (W := w8) (cs := #[.int .i64 fi, .string ⟨fn.toArray⟩, .int .i64 fp, .int .i64 fv, .int .i64 fd]) rfl rfl) (fcs_one1 _) N1.out N2.out (by first | (simp; done) | (simp; omega) | (have := hB8.size; simp at this ⊢; omega)) ?_
            intro v7 w7 ho7 hg7 ha7
            have hb7 : Below w3.heap.size w3 w7 := Gen.g_below ho8 hg7 (Gen.b_alloc hB8') (by first | exact Nat.le_refl _ | (simp; done) | (simp; omega))
            obtain ⟨A9, c9, rfl, _⟩ := Gen.own_slice ho7
            refine hK.out _ _ (BX.old HSS0.out hG3.out hb7) (fun hH7 => ?_)
            clear hK K
            (try simp only [Act.put, List.getElem_toArray, List.getElem_cons_succ, List.getElem_cons_zero, List.setIfInBounds_toArray, List.set_cons_zero, List.set_cons_succ])
            refine wpAnyH_take (i := 5) (v := .slice A9 (0 + 1) c9) rfl (by kernel_rfl) (by kernel_rfl) (by kernel_rfl) (fun _ _ _ h => h) (Or.inl ⟨by rfl, (by intro w hSw; (try dsimp only at hSw); go_simp <;> first | with_reducible rfl | (with_reducible assumption) | omega)⟩) (by assumption) ?_
            (try simp only [Act.put, List.getElem_toArray, List.getElem_cons_succ, List.getElem_cons_zero, List.setIfInBounds_toArray, List.set_cons_zero, List.set_cons_succ])
            refine wpAnyH_take (i := 6) (v := .int .i64 0) rfl (by kernel_rfl) (by kernel_rfl) (by kernel_rfl) (fun _ _ _ h => h) (Or.inl ⟨by rfl, (by intro w hSw; (try dsimp only at hSw); go_simp <;> first | with_reducible rfl | (with_reducible assumption) | omega)⟩) (by assumption) ?_
            (try simp only [Act.put, List.getElem_toArray, List.getElem_cons_succ, List.getElem_cons_zero, List.setIfInBounds_toArray, List.set_cons_zero, List.set_cons_succ])
            refine wpAnyH_done (by kernel_rfl) ?_ _
            have HOWN := Lib.hid (show Rs fcs 5 w7 A9 (l ++ [⟨fi, fn, fp, fv, fd⟩]) from rs_own (n := (0 + 1)) fcs5 (by simp [HN.out]) (by rw [List.flatMap_append]; simpa using ho7))
            have HB7 := Lib.hid (Gen.over hb7 HB4.out)
            clear ho7 hg7 ha7 hb7
            go_wp2
            exact bodyPost_ret (v := .tuple #[.slice A9 (0 + 1) c9, .int .i64 0]) (by simp [results, Try.results14, go_sem]) rfl (AddQ.good (A := A9) (c := c9) (n := (0 + 1)) HOK.out (by simp [HN.out]) HOWN.out HB7.out)
          · rw [if_pos (by rfl)]
            (try simp only [Act.put, List.getElem_toArray, List.getElem_cons_succ, List.getElem_cons_zero, List.setIfInBounds_toArray, List.set_cons_zero, List.set_cons_succ])
            go_simp
            refine hK.out _ _ (BX.alloc HSS.out) (fun hH9 => ?_)
            clear hK K
            (try simp only [Act.put, List.getElem_toArray, List.getElem_cons_succ, List.getElem_cons_zero, List.setIfInBounds_toArray, List.set_cons_zero, List.set_cons_succ])
            refine wpAnyH_ready (rs := [1]) (by kernel_rfl) (by simp) ?_
            refine AllReadyH.cons rfl (fun K hK => ?_) AllReadyH.nil
            rw [if_pos (by rfl)]
            (try simp only [Act.put, List.getElem_toArray, List.getElem_cons_succ, List.getElem_cons_zero, List.setIfInBounds_toArray, List.set_cons_zero, List.set_cons_succ])
            go_simp
            go_at_call 43
            refine (clone_f HN.out (HC.out.keep (Gen.over hH9.1 HB4.out)) (by omega)).mono ?_
            rintro e' w8 ⟨A8, c8, rfl, ho8, hB8⟩
            have hB8' : Below w3.heap.size w3 w8 := Gen.over hB8 hH9.1
            refine hK.out _ _ (BX.old HSS0.out hG3.out hB8') (fun hH8 => ?_)
            clear hK K
            (try simp only [Act.put, List.getElem_toArray, List.getElem_cons_succ, List.getElem_cons_zero, List.setIfInBounds_toArray, List.set_cons_zero, List.set_cons_succ])
            refine wpAnyH_ready (rs := [4]) (by kernel_rfl) (by simp) ?_
            refine AllReadyH.cons rfl (fun K hK => ?_) AllReadyH.nil
            refine App.step_append_any _ (by rfl) (.tmp 36) (.tmp 38) 22 (by rfl) _ 24 i0 _ 5 48 Try.underlying22 hi0 hz0 hz1 hz2 rfl (by omega) (.slice A8 0 c8) 0 (l.flatMap fcs) rfl ho8 (w3.heap.size + 1) (some ⟨w3.heap.size, 0, none⟩) 1 1 (fcs ⟨fi, fn, fp, fv, fd⟩) rfl (reads_keep (Gen.reads_blk (W := w3.drew) (cs := #[.int .i64 fi, .string ⟨fn.toArray⟩, .int .i64 fp, .int .i64 fv, .int .i64 fd]) rfl rfl) (by simp) hB8) (fcs_one1 _) N1.out N2.out (by first | (simp; done) | (simp; omega) | (have := hB8.size; simp at this ⊢; omega)) ?_
            intro v7 w7 ho7 hg7 ha7
            have hb7 : Below w3.heap.size w3 w7 := Gen.g_below ho8 hg7 (hB8') (by first | exact Nat.le_refl _ | (simp; done) | (simp; omega))
            obtain ⟨A9, c9, rfl, _⟩ := Gen.own_slice ho7
            refine hK.out _ _ (BX.old HSS0.out hG3.out hb7) (fun hH7 => ?_)
            clear hK K
            (try simp only [Act.put, List.getElem_toArray, List.getElem_cons_succ, List.getElem_cons_zero, List.setIfInBounds_toArray, List.set_cons_zero, List.set_cons_succ])
            refine wpAnyH_take (i := 5) (v := .slice A9 (0 + 1) c9) rfl (by kernel_rfl) (by kernel_rfl) (by kernel_rfl) (fun _ _ _ h => h) (Or.inl ⟨by rfl, (by intro w hSw; (try dsimp only at hSw); go_simp <;> first | with_reducible rfl | (with_reducible assumption) | omega)⟩) (by assumption) ?_
            (try simp only [Act.put, List.getElem_toArray, List.getElem_cons_succ, List.getElem_cons_zero, List.setIfInBounds_toArray, List.set_cons_zero, List.set_cons_succ])
            refine wpAnyH_take (i := 6) (v := .int .i64 0) rfl (by kernel_rfl) (by kernel_rfl) (by kernel_rfl) (fun _ _ _ h => h) (Or.inl ⟨by rfl, (by intro w hSw; (try dsimp only at hSw); go_simp <;> first | with_reducible rfl | (with_reducible assumption) | omega)⟩) (by assumption) ?_
            (try simp only [Act.put, List.getElem_toArray, List.getElem_cons_succ, List.getElem_cons_zero, List.setIfInBounds_toArray, List.set_cons_zero, List.set_cons_succ])
            refine wpAnyH_done (by kernel_rfl) ?_ _
            have HOWN := Lib.hid (show Rs fcs 5 w7 A9 (l ++ [⟨fi, fn, fp, fv, fd⟩]) from rs_own (n := (0 + 1)) fcs5 (by simp [HN.out]) (by rw [List.flatMap_append]; simpa using ho7))
            have HB7 := Lib.hid (Gen.over hb7 HB4.out)
            clear ho7 hg7 ha7 hb7
            go_wp2
            exact bodyPost_ret (v := .tuple #[.slice A9 (0 + 1) c9, .int .i64 0]) (by simp [results, Try.results14, go_sem]) rfl (AddQ.good (A := A9) (c := c9) (n := (0 + 1)) HOK.out (by simp [HN.out]) HOWN.out HB7.out)
        | succ k =>
          obtain ⟨⟨xi, xn, xp, xv, xd⟩, hx⟩ := at_ l k (by rw [HN.out]; omega)
          have hxd := hall _ (last_at HN.out hx)
          obtain ⟨b, off, rfl, hcell⟩ := (HC.out.keep HB3.out) (by rw [HN.out]; omega)
          have m4 := hcell k _ hx 4 _ rfl
          dsimp only at m4 hxd
          have hnd : ¬ fd < xd := by omega
          have h0 : (0 : Int) < ((k + 1 : Nat) : Int) := by omega
          have kk : (k : Int) < ((k + 1 : Nat) : Int) := by omega
          have k0 : (0 : Int) ≤ (k : Int) := by omega
          clear hcell hx hall
          go_wp2_with (fail)
          go_quiet (fail)
          have HB4 := Lib.hid (Gen.dN HB3.out nq)
          have HR4 := Lib.hid (HW2.out.keep (Gen.dN (Below.refl _ _) nq))
          obtain ⟨w3, hw3⟩ : ∃ w3, w2.drewN nq = w3 := ⟨_, rfl⟩
          rw [hw3] at HB4 HR4
          clear h0 HSS
          go_upto_region 7 with (fail)
          try rw [hw3]
          clear hw3 HB3 HW2
          try clear c4
          have c0 := HR4.out.cell 0
          have c1 := HR4.out.cell 1
          have c2 := HR4.out.cell 2
          have c3 := HR4.out.cell 3
          have c4 := HR4.out.cell 4
          simp [fcs] at c0 c1 c2 c3 c4
          have HSS : Hid (BX w3 w.heap.size fi fp fv fd fn w3.drew) := Lib.hid ⟨(Below.refl _ _).drew, c0, c1, c2, c3, c4⟩
          have HSS0 : Hid (BX w3 w.heap.size fi fp fv fd fn w3) := Lib.hid ⟨Below.refl _ _, c0, c1, c2, c3, c4⟩
          clear c0 c1 c2 c3 c4
          have hG3 := Lib.hid HR4.out.lt
          refine wp_region_held_drew (S := (fun W' : World => Below w3.heap.size w3 W' ∧ W'.cell? ⟨w.heap.size, 0, none⟩ = some (.int .i64 fi) ∧ W'.cell? ⟨w.heap.size, 1, none⟩ = some (.string ⟨fn.toArray⟩) ∧ W'.cell? ⟨w.heap.size, 2, none⟩ = some (.int .i64 fp) ∧ W'.cell? ⟨w.heap.size, 3, none⟩ = some (.int .i64 fv) ∧ W'.cell? ⟨w.heap.size, 4, none⟩ = some (.int .i64 fd))) (by kernel_rfl) (HSS.out) (fun hHeld => ?_)
          refine wpAnyH_take (i := 0) (v := .slice (some ⟨b, off, none⟩) (k + 1) c) rfl (by kernel_rfl) (by kernel_rfl) (by kernel_rfl) (fun _ _ _ h => h) (Or.inl ⟨by rfl, (by intro w hSw; (try dsimp only at hSw); go_simp <;> first | with_reducible rfl | (with_reducible assumption) | omega)⟩) (by assumption) ?_
          (try simp only [Act.put, List.getElem_toArray, List.getElem_cons_succ, List.getElem_cons_zero, List.setIfInBounds_toArray, List.set_cons_zero, List.set_cons_succ])
          refine wpAnyH_take (i := 2) (v := .agg #[.int .i64 fi, .string ⟨fn.toArray⟩, .int .i64 fp, .int .i64 fv, .int .i64 fd]) rfl (by kernel_rfl) (by kernel_rfl) (by kernel_rfl) (fun _ _ _ h => h) (Or.inl ⟨by rfl, (by intro w hSw; (try dsimp only at hSw); go_simp <;> first | with_reducible rfl | (with_reducible assumption) | omega)⟩) (by assumption) ?_
          (try simp only [Act.put, List.getElem_toArray, List.getElem_cons_succ, List.getElem_cons_zero, List.setIfInBounds_toArray, List.set_cons_zero, List.set_cons_succ])
          refine wpAnyH_ready (rs := [1, 3]) (by kernel_rfl) (by simp) ?_
          refine AllReadyH.cons rfl (fun K hK => ?_) (AllReadyH.cons rfl (fun K hK => ?_) AllReadyH.nil)
          · rw [if_pos (by rfl)]
            (try simp only [Act.put, List.getElem_toArray, List.getElem_cons_succ, List.getElem_cons_zero, List.setIfInBounds_toArray, List.set_cons_zero, List.set_cons_succ])
            go_simp
            go_at_call 43
            refine (clone_f HN.out (HC.out.keep (Gen.over (Below.refl _ _).drew HB4.out)) (by omega)).mono ?_
            rintro e' w8 ⟨A8, c8, rfl, ho8, hB8⟩
            have hB8' : Below w3.heap.size w3 w8 := Gen.over hB8 (Below.refl _ _).drew
            refine hK.out _ _ (BX.old HSS0.out hG3.out hB8') (fun hH8 => ?_)
            clear hK K
            (try simp only [Act.put, List.getElem_toArray, List.getElem_cons_succ, List.getElem_cons_zero, List.setIfInBounds_toArray, List.set_cons_zero, List.set_cons_succ])
            refine wpAnyH_ready (rs := [3]) (by kernel_rfl) (by simp) ?_
            refine AllReadyH.cons rfl (fun K hK => ?_) AllReadyH.nil
            rw [if_pos (by rfl)]
            (try simp only [Act.put, List.getElem_toArray, List.getElem_cons_succ, List.getElem_cons_zero, List.setIfInBounds_toArray, List.set_cons_zero, List.set_cons_succ])
            go_simp
            refine hK.out _ _ (BX.alloc hH8) (fun hH9 => ?_)
            clear hK K
            (try simp only [Act.put, List.getElem_toArray, List.getElem_cons_succ, List.getElem_cons_zero, List.setIfInBounds_toArray, List.set_cons_zero, List.set_cons_succ])
            refine wpAnyH_ready (rs := [4]) (by kernel_rfl) (by simp) ?_
            refine AllReadyH.cons rfl (fun K hK => ?_) AllReadyH.nil
            refine App.step_append_any _ (by rfl) (.tmp 36) (.tmp 38) 22 (by rfl) _ 24 i0 _ 5 48 Try.underlying22 hi0 hz0 hz1 hz2 rfl (by omega) (.slice A8 (k + 1) c8) (k + 1) (l.flatMap fcs) rfl (Gen.own_keep ho8 (Gen.b_alloc (x := .cells #[.int .i64 fi, .string ⟨fn.toArray⟩, .int .i64 fp, .int .i64 fv, .int .i64 fd] 24) (Below.refl _ _))) (w8.heap.size + 1) (some ⟨w8.heap.size, 0, none⟩) 1 1 (fcs ⟨fi, fn, fp, fv, fd⟩) rfl (Gen.reads_blk (W := w8) (cs := #[.int .i64 fi, .string ⟨fn.toArray⟩, .int .i64 fp, .int .i64 fv, .int .i64 fd]) rfl rfl) (fcs_one1 _) N1.out N2.out (by first | (simp; done) | (simp; omega) | (have := hB8.size; simp at this ⊢; omega)) ?_
            intro v7 w7 ho7 hg7 ha7
            have hb7 : Below w3.heap.size w3 w7 := Gen.g_below ho8 hg7 (Gen.b_alloc hB8') (by first | exact Nat.le_refl _ | (simp; done) | (simp; omega))
            obtain ⟨A9, c9, rfl, _⟩ := Gen.own_slice ho7
            refine hK.out _ _ (BX.old HSS0.out hG3.out hb7) (fun hH7 => ?_)
            clear hK K
            (try simp only [Act.put, List.getElem_toArray, List.getElem_cons_succ, List.getElem_cons_zero, List.setIfInBounds_toArray, List.set_cons_zero, List.set_cons_succ])
            refine wpAnyH_take (i := 5) (v := .slice A9 ((k + 1) + 1) c9) rfl (by kernel_rfl) (by kernel_rfl) (by kernel_rfl) (fun _ _ _ h => h) (Or.inl ⟨by rfl, (by intro w hSw; (try dsimp only at hSw); go_simp <;> first | with_reducible rfl | (with_reducible assumption) | omega)⟩) (by assumption) ?_
            (try simp only [Act.put, List.getElem_toArray, List.getElem_cons_succ, List.getElem_cons_zero, List.setIfInBounds_toArray, List.set_cons_zero, List.set_cons_succ])
            refine wpAnyH_take (i := 6) (v := .int .i64 0) rfl (by kernel_rfl) (by kernel_rfl) (by kernel_rfl) (fun _ _ _ h => h) (Or.inl ⟨by rfl, (by intro w hSw; (try dsimp only at hSw); go_simp <;> first | with_reducible rfl | (with_reducible assumption) | omega)⟩) (by assumption) ?_
            (try simp only [Act.put, List.getElem_toArray, List.getElem_cons_succ, List.getElem_cons_zero, List.setIfInBounds_toArray, List.set_cons_zero, List.set_cons_succ])
            refine wpAnyH_done (by kernel_rfl) ?_ _
            have HOWN := Lib.hid (show Rs fcs 5 w7 A9 (l ++ [⟨fi, fn, fp, fv, fd⟩]) from rs_own (n := ((k + 1) + 1)) fcs5 (by simp [HN.out]) (by rw [List.flatMap_append]; simpa using ho7))
            have HB7 := Lib.hid (Gen.over hb7 HB4.out)
            clear ho7 hg7 ha7 hb7
            go_wp2
            exact bodyPost_ret (v := .tuple #[.slice A9 ((k + 1) + 1) c9, .int .i64 0]) (by simp [results, Try.results14, go_sem]) rfl (AddQ.good (A := A9) (c := c9) (n := ((k + 1) + 1)) HOK.out (by simp [HN.out]) HOWN.out HB7.out)
          · rw [if_pos (by rfl)]
            (try simp only [Act.put, List.getElem_toArray, List.getElem_cons_succ, List.getElem_cons_zero, List.setIfInBounds_toArray, List.set_cons_zero, List.set_cons_succ])
            go_simp
            refine hK.out _ _ (BX.alloc HSS.out) (fun hH9 => ?_)
            clear hK K
            (try simp only [Act.put, List.getElem_toArray, List.getElem_cons_succ, List.getElem_cons_zero, List.setIfInBounds_toArray, List.set_cons_zero, List.set_cons_succ])
            refine wpAnyH_ready (rs := [1]) (by kernel_rfl) (by simp) ?_
            refine AllReadyH.cons rfl (fun K hK => ?_) AllReadyH.nil
            rw [if_pos (by rfl)]
            (try simp only [Act.put, List.getElem_toArray, List.getElem_cons_succ, List.getElem_cons_zero, List.setIfInBounds_toArray, List.set_cons_zero, List.set_cons_succ])
            go_simp
            go_at_call 43
            refine (clone_f HN.out (HC.out.keep (Gen.over hH9.1 HB4.out)) (by omega)).mono ?_
            rintro e' w8 ⟨A8, c8, rfl, ho8, hB8⟩
            have hB8' : Below w3.heap.size w3 w8 := Gen.over hB8 hH9.1
            refine hK.out _ _ (BX.old HSS0.out hG3.out hB8') (fun hH8 => ?_)
            clear hK K
            (try simp only [Act.put, List.getElem_toArray, List.getElem_cons_succ, List.getElem_cons_zero, List.setIfInBounds_toArray, List.set_cons_zero, List.set_cons_succ])
            refine wpAnyH_ready (rs := [4]) (by kernel_rfl) (by simp) ?_
            refine AllReadyH.cons rfl (fun K hK => ?_) AllReadyH.nil
            refine App.step_append_any _ (by rfl) (.tmp 36) (.tmp 38) 22 (by rfl) _ 24 i0 _ 5 48 Try.underlying22 hi0 hz0 hz1 hz2 rfl (by omega) (.slice A8 (k + 1) c8) (k + 1) (l.flatMap fcs) rfl ho8 (w3.heap.size + 1) (some ⟨w3.heap.size, 0, none⟩) 1 1 (fcs ⟨fi, fn, fp, fv, fd⟩) rfl (reads_keep (Gen.reads_blk (W := w3.drew) (cs := #[.int .i64 fi, .string ⟨fn.toArray⟩, .int .i64 fp, .int .i64 fv, .int .i64 fd]) rfl rfl) (by simp) hB8) (fcs_one1 _) N1.out N2.out (by first | (simp; done) | (simp; omega) | (have := hB8.size; simp at this ⊢; omega)) ?_
            intro v7 w7 ho7 hg7 ha7
            have hb7 : Below w3.heap.size w3 w7 := Gen.g_below ho8 hg7 (hB8') (by first | exact Nat.le_refl _ | (simp; done) | (simp; omega))
            obtain ⟨A9, c9, rfl, _⟩ := Gen.own_slice ho7
            refine hK.out _ _ (BX.old HSS0.out hG3.out hb7) (fun hH7 => ?_)
            clear hK K
            (try simp only [Act.put, List.getElem_toArray, List.getElem_cons_succ, List.getElem_cons_zero, List.setIfInBounds_toArray, List.set_cons_zero, List.set_cons_succ])
            refine wpAnyH_take (i := 5) (v := .slice A9 ((k + 1) + 1) c9) rfl (by kernel_rfl) (by kernel_rfl) (by kernel_rfl) (fun _ _ _ h => h) (Or.inl ⟨by rfl, (by intro w hSw; (try dsimp only at hSw); go_simp <;> first | with_reducible rfl | (with_reducible assumption) | omega)⟩) (by assumption) ?_
            (try simp only [Act.put, List.getElem_toArray, List.getElem_cons_succ, List.getElem_cons_zero, List.setIfInBounds_toArray, List.set_cons_zero, List.set_cons_succ])
            refine wpAnyH_take (i := 6) (v := .int .i64 0) rfl (by kernel_rfl) (by kernel_rfl) (by kernel_rfl) (fun _ _ _ h => h) (Or.inl ⟨by rfl, (by intro w hSw; (try dsimp only at hSw); go_simp <;> first | with_reducible rfl | (with_reducible assumption) | omega)⟩) (by assumption) ?_
            (try simp only [Act.put, List.getElem_toArray, List.getElem_cons_succ, List.getElem_cons_zero, List.setIfInBounds_toArray, List.set_cons_zero, List.set_cons_succ])
            refine wpAnyH_done (by kernel_rfl) ?_ _
            have HOWN := Lib.hid (show Rs fcs 5 w7 A9 (l ++ [⟨fi, fn, fp, fv, fd⟩]) from rs_own (n := ((k + 1) + 1)) fcs5 (by simp [HN.out]) (by rw [List.flatMap_append]; simpa using ho7))
            have HB7 := Lib.hid (Gen.over hb7 HB4.out)
            clear ho7 hg7 ha7 hb7
            go_wp2
            exact bodyPost_ret (v := .tuple #[.slice A9 ((k + 1) + 1) c9, .int .i64 0]) (by simp [results, Try.results14, go_sem]) rfl (AddQ.good (A := A9) (c := c9) (n := ((k + 1) + 1)) HOK.out (by simp [HN.out]) HOWN.out HB7.out)
end Go.Proofs.Ytcnfonhcgcblgaa.Fc
