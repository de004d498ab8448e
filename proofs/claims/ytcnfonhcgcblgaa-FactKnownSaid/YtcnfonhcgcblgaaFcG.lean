/- Facts: the law's some, says, small. -/
import Derived.Test.YtcnfonhcgcblgaaFcF
import Derived.Deep.RegionHeld3
namespace Go.Proofs.Ytcnfonhcgcblgaa.Fc
open Go.Lib Go.ChangeShapes Go.WideShapes Go.ChangeAt Go.RowKit Go.Maps Go.Proofs.Ytcnfonhcgcblgaa.Cell Go.Proofs.Ytcnfonhcgcblgaa.Wd Go.Proofs.Ytcnfonhcgcblgaa.Rk
set_option linter.unusedVariables false
set_option linter.unusedSimpArgs false
/-- the facts of the documentation -/
def someF : List Fa := [⟨3, [99, 97, 115, 104], 90, 500, 100⟩, ⟨3, [99, 97, 115, 104], 180, 700, 200⟩, ⟨3, [99, 97, 115, 104], 90, 400, 210⟩]
theorem someF_nm : ∀ x ∈ someF, x.nm.length ≤ 1000000000 := fun x hx => by
  unfold someF at hx
  simp at hx
  rcases hx with rfl | rfl | rfl <;> decide
theorem someF_nm2 : ∀ x ∈ someF.take 2, x.nm.length ≤ 1000000000 := fun x hx => someF_nm x (List.mem_of_mem_take hx)
set_option maxRecDepth 100000 in
set_option maxHeartbeats 4000000 in
theorem some_any (w : World) : Calls Try.prog 40 #[] w fun e w' => ∃ g, e = .returned (.slice (some ⟨g, 0, none⟩) 3 3) ∧ Rs fcs 5 w' (some ⟨g, 0, none⟩) someF ∧ w.heap.size ≤ g ∧ g < w'.heap.size ∧ Below w.heap.size w w' := by
  go_enter Try.func40, Try.ntmps40
  go_wp2
  refine bodyPost_ret (v := .slice (some ⟨w.heap.size, 0, none⟩) 3 3) (by simp [results, Try.results40, go_sem]) rfl ?_
  exact ⟨w.heap.size, rfl, rs_row (f := fcs) (K := 5) (n := 3) fcs5 (t := 24) (Gen.rowAt _ _ _ rfl) rfl rfl (by simp [maxLen]), Nat.le_refl _, by simp, Gen.b_alloc (Below.refl _ _)⟩
set_option maxRecDepth 100000 in
set_option maxHeartbeats 4000000 in
theorem says_any (w : World) (p d want : Int) (h1 : (valF someF 3 [99, 97, 115, 104] p d).isSome = decide (0 ≤ want)) (h2 : vI (valF someF 3 [99, 97, 115, 104] p d) = max want 0) : Calls Try.prog 41 #[.int .i64 p, .int .i64 d, .int .i64 want] w fun e w' => e = .returned (.bool true) ∧ Below w.heap.size w w' := by
  have HS := Lib.hid (some_any w)
  obtain ⟨o, ho⟩ : ∃ o, valF someF 3 [99, 97, 115, 104] p d = o := ⟨_, rfl⟩
  rw [ho] at h1 h2
  have HO := Lib.hid ho
  clear ho
  have H1 := Lib.hid h1
  have H2 := Lib.hid h2
  clear h1 h2
  go_enter Try.func41, Try.ntmps41
  go_wp2_with (fail)
  go_must (refine (HS.out).mono ?_)
  rintro e w1 ⟨g, rfl, hs, _, _, hb1⟩
  have HB1 := Lib.hid hb1
  have HV := Lib.hid (fValue_any (c := 3) (n := 3) 3 p d (nm := [99, 97, 115, 104]) rfl hs (by omega) someF_nm (by decide))
  rw [HO.out] at HV
  clear hs hb1 HS
  go_wp2_with (fail)
  go_must (refine (HV.out).mono ?_)
  rintro e w2 ⟨rfl, hb2⟩
  have HB2 := Lib.hid (Gen.over hb2 HB1.out)
  clear hb2 HV
  obtain ⟨z, hz⟩ : ∃ z, o.isSome = z := ⟨_, rfl⟩
  obtain ⟨v, hv⟩ : ∃ v, vI o = v := ⟨_, rfl⟩
  have q1 := H1.out
  have q2 := H2.out
  rw [hz] at q1
  rw [hv] at q2
  rw [hz, hv]
  clear hz hv
  subst q1 q2
  by_cases hw : 0 ≤ want
  · have e1 : decide (0 ≤ want) = true := decide_eq_true hw
    have e2 : max want 0 = want := by omega
    rw [e1, e2]
    go_wp2
    go_ret
    exact ⟨rfl, HB2.out⟩
  · have e1 : decide (0 ≤ want) = false := decide_eq_false hw
    have e2 : max want 0 = 0 := by omega
    rw [e1, e2]
    go_wp2
    go_ret
    exact ⟨rfl, HB2.out⟩
theorem add_1 {w : World} {A : Option Addr} (h : Rs fcs 5 w A someF) : Calls Try.prog 14 #[.slice A 3 3, .agg #[.int .i64 3, .string ⟨#[99, 97, 115, 104]⟩, .int .i64 0, .int .i64 0, .int .i64 209]] w fun e w' => ∃ B c, e = .returned (.tuple #[.slice B 0 c, .int .i64 20]) ∧ Below w.heap.size w w' := by
  refine (fAdd_any (c := 3) (n := 3) rfl h (by omega) someF_nm ⟨3, [99, 97, 115, 104], 0, 0, 209⟩ (by decide)).mono ?_
  rintro e w' ⟨B, c, rfl, _, hb⟩
  exact ⟨B, c, by rw [show addE someF ⟨3, [99, 97, 115, 104], 0, 0, 209⟩ = 20 by decide, show addL someF ⟨3, [99, 97, 115, 104], 0, 0, 209⟩ = [] by decide]; rfl, hb⟩
theorem add_2 {w : World} {A : Option Addr} (h : Rs fcs 5 w A someF) : Calls Try.prog 14 #[.slice A 2 3, .agg #[.int .i64 3, .string ⟨#[99, 97, 115, 104]⟩, .int .i64 90, .int .i64 400, .int .i64 210]] w fun e w' => ∃ B c, e = .returned (.tuple #[.slice B 3 c, .int .i64 0]) ∧ Rs fcs 5 w' B someF ∧ Below w.heap.size w w' := by
  refine (fAdd_any (c := 3) (n := 2) rfl (h.take 2) (by omega) someF_nm2 ⟨3, [99, 97, 115, 104], 90, 400, 210⟩ (by decide)).mono ?_
  rintro e w' ⟨B, c, rfl, hr, hb⟩
  rw [show addL (someF.take 2) ⟨3, [99, 97, 115, 104], 90, 400, 210⟩ = someF by decide] at hr ⊢
  exact ⟨B, c, by rw [show addE (someF.take 2) ⟨3, [99, 97, 115, 104], 90, 400, 210⟩ = 0 by decide]; rfl, hr, hb⟩
abbrev SM (w3 : World) (g : Nat) (W' : World) : Prop := Below w3.heap.size w3 W' ∧ W'.cell? ⟨g, 5, none⟩ = some (.int .i64 3) ∧ W'.cell? ⟨g, 6, none⟩ = some (.string ⟨#[99, 97, 115, 104]⟩) ∧ W'.cell? ⟨g, 7, none⟩ = some (.int .i64 180) ∧ W'.cell? ⟨g, 8, none⟩ = some (.int .i64 700) ∧ W'.cell? ⟨g, 9, none⟩ = some (.int .i64 200) ∧ W'.cell? ⟨g, 10, none⟩ = some (.int .i64 3) ∧ W'.cell? ⟨g, 11, none⟩ = some (.string ⟨#[99, 97, 115, 104]⟩) ∧ W'.cell? ⟨g, 12, none⟩ = some (.int .i64 90) ∧ W'.cell? ⟨g, 13, none⟩ = some (.int .i64 400) ∧ W'.cell? ⟨g, 14, none⟩ = some (.int .i64 210)
theorem SM.over {w3 W W' : World} {g : Nat} (hb : Below W.heap.size W W') (h : SM w3 g W) : SM w3 g W' := ⟨Gen.over hb h.1, keep0 hb _ _ _ h.2.1, keep0 hb _ _ _ h.2.2.1, keep0 hb _ _ _ h.2.2.2.1, keep0 hb _ _ _ h.2.2.2.2.1, keep0 hb _ _ _ h.2.2.2.2.2.1, keep0 hb _ _ _ h.2.2.2.2.2.2.1, keep0 hb _ _ _ h.2.2.2.2.2.2.2.1, keep0 hb _ _ _ h.2.2.2.2.2.2.2.2.1, keep0 hb _ _ _ h.2.2.2.2.2.2.2.2.2.1, keep0 hb _ _ _ h.2.2.2.2.2.2.2.2.2.2⟩
theorem SM.of {w : World} {g : Nat} (h : Rs fcs 5 w (some ⟨g, 0, none⟩) someF) : SM w g w := by
  obtain ⟨b, off, e, hc⟩ := h (by decide)
  injection e with e
  injection e with e1 e2
  subst e1 e2
  refine ⟨Below.refl _ _, ?_⟩
  exact ⟨by simpa using hc 1 _ rfl 0 _ rfl, by simpa using hc 1 _ rfl 1 _ rfl, by simpa using hc 1 _ rfl 2 _ rfl, by simpa using hc 1 _ rfl 3 _ rfl, by simpa using hc 1 _ rfl 4 _ rfl, by simpa using hc 2 _ rfl 0 _ rfl, by simpa using hc 2 _ rfl 1 _ rfl, by simpa using hc 2 _ rfl 2 _ rfl, by simpa using hc 2 _ rfl 3 _ rfl, by simpa using hc 2 _ rfl 4 _ rfl⟩
set_option maxRecDepth 100000 in
set_option maxHeartbeats 8000000 in
theorem small_any (w : World) : Calls Try.prog 12 #[] w fun e w' => e = .returned (.bool true) ∧ Below w.heap.size w w' := by
  have HS := Lib.hid (some_any w)
  go_enter Try.func12, Try.ntmps12
  go_wp2_with (fail)
  go_must (refine (HS.out).mono ?_)
  rintro e w1 ⟨g, rfl, hs, _, hg1, hb1⟩
  have HB1 := Lib.hid hb1
  have HX1 := Lib.hid hs
  clear hs hb1 HS
  go_wp2_with (fail)
  go_must (refine (add_1 HX1.out).mono ?_)
  rintro e w2 ⟨B, c, rfl, hb2⟩
  have HB2 := Lib.hid (Gen.over hb2 HB1.out)
  have HX2 := Lib.hid (HX1.out.keep hb2)
  clear hb2 HB1 HX1
  go_upto_region 3 with (fail)
  have HSD : Hid (SM w2 g w2.drew) := Lib.hid (SM.over (Below.refl _ _).drew (SM.of HX2.out))
  refine wp_region_held_drew (S := (fun W' : World => Below w2.heap.size w2 W' ∧ W'.cell? ⟨g, 5, none⟩ = some (.int .i64 3) ∧ W'.cell? ⟨g, 6, none⟩ = some (.string ⟨#[99, 97, 115, 104]⟩) ∧ W'.cell? ⟨g, 7, none⟩ = some (.int .i64 180) ∧ W'.cell? ⟨g, 8, none⟩ = some (.int .i64 700) ∧ W'.cell? ⟨g, 9, none⟩ = some (.int .i64 200) ∧ W'.cell? ⟨g, 10, none⟩ = some (.int .i64 3) ∧ W'.cell? ⟨g, 11, none⟩ = some (.string ⟨#[99, 97, 115, 104]⟩) ∧ W'.cell? ⟨g, 12, none⟩ = some (.int .i64 90) ∧ W'.cell? ⟨g, 13, none⟩ = some (.int .i64 400) ∧ W'.cell? ⟨g, 14, none⟩ = some (.int .i64 210))) (by kernel_rfl) (HSD.out) (fun hHeld => ?_)
  refine wpAnyH_take (i := 0) (v := .slice (some ⟨g, 0, none⟩) 3 3) rfl (by kernel_rfl) (by kernel_rfl) (by kernel_rfl) (fun _ _ _ h => h) (Or.inl ⟨by rfl, (by intro w hSw; (try dsimp only at hSw); go_simp <;> first | with_reducible rfl | (with_reducible assumption) | omega)⟩) (by assumption) ?_
  (try simp only [Act.put, List.getElem_toArray, List.getElem_cons_succ, List.getElem_cons_zero, List.setIfInBounds_toArray, List.set_cons_zero, List.set_cons_succ])
  refine wpAnyH_take (i := 1) (v := .slice (some ⟨g, 0, none⟩) 2 3) rfl (by kernel_rfl) (by kernel_rfl) (by kernel_rfl) (fun _ _ _ h => h) (Or.inl ⟨by rfl, (by intro w hSw; (try dsimp only at hSw); go_simp <;> first | with_reducible rfl | (with_reducible assumption) | omega)⟩) (by assumption) ?_
  (try simp only [Act.put, List.getElem_toArray, List.getElem_cons_succ, List.getElem_cons_zero, List.setIfInBounds_toArray, List.set_cons_zero, List.set_cons_succ])
  refine wpAnyH_take (i := 2) (v := .slice (some ⟨g, 0, none⟩) 3 3) rfl (by kernel_rfl) (by kernel_rfl) (by kernel_rfl) (fun _ _ _ h => h) (Or.inl ⟨by rfl, (by intro w hSw; (try dsimp only at hSw); go_simp <;> first | with_reducible rfl | (with_reducible assumption) | omega)⟩) (by assumption) ?_
  (try simp only [Act.put, List.getElem_toArray, List.getElem_cons_succ, List.getElem_cons_zero, List.setIfInBounds_toArray, List.set_cons_zero, List.set_cons_succ])
  refine wpAnyH_take (i := 3) (v := .pointer (some ⟨g, 10, none⟩)) rfl (by kernel_rfl) (by kernel_rfl) (by kernel_rfl) (fun _ _ _ h => h) (Or.inl ⟨by rfl, (by intro w hSw; (try dsimp only at hSw); go_simp <;> first | with_reducible rfl | (with_reducible assumption) | omega)⟩) (by assumption) ?_
  (try simp only [Act.put, List.getElem_toArray, List.getElem_cons_succ, List.getElem_cons_zero, List.setIfInBounds_toArray, List.set_cons_zero, List.set_cons_succ])
  refine wpAnyH_take (i := 4) (v := .agg #[.int .i64 3, .string ⟨#[99, 97, 115, 104]⟩, .int .i64 90, .int .i64 400, .int .i64 210]) rfl (by kernel_rfl) (by kernel_rfl) (by kernel_rfl) (fun _ _ _ h => h) (Or.inl ⟨by rfl, (by intro w hSw; (try dsimp only at hSw); go_simp <;> first | with_reducible rfl | (with_reducible assumption) | omega)⟩) (by assumption) ?_
  (try simp only [Act.put, List.getElem_toArray, List.getElem_cons_succ, List.getElem_cons_zero, List.setIfInBounds_toArray, List.set_cons_zero, List.set_cons_succ])
  refine wpAnyH_ready (rs := [5]) (by kernel_rfl) (by simp) ?_
  refine AllReadyH.cons rfl (fun K hK => ?_) AllReadyH.nil
  rw [if_pos (by rfl)]
  (try simp only [Act.put, List.getElem_toArray, List.getElem_cons_succ, List.getElem_cons_zero, List.setIfInBounds_toArray, List.set_cons_zero, List.set_cons_succ])
  go_simp
  go_at_call 14
  refine (add_2 (HX2.out.keep (Below.refl _ _).drew)).mono ?_
  rintro e' w3 ⟨B3, c3, rfl, hm3, hb3⟩
  refine hK.out _ _ (SM.over hb3 HSD.out) (fun hH5 => ?_)
  clear hK K
  (try simp only [Act.put, List.getElem_toArray, List.getElem_cons_succ, List.getElem_cons_zero, List.setIfInBounds_toArray, List.set_cons_zero, List.set_cons_succ])
  refine wpAnyH_take (i := 6) (v := .tuple #[.slice B3 3 c3, .int .i64 0]) rfl (by kernel_rfl) (by kernel_rfl) (by kernel_rfl) (fun _ _ _ h => h) (Or.inl ⟨by rfl, (by intro w hSw; (try dsimp only at hSw); go_simp <;> first | with_reducible rfl | (with_reducible assumption) | omega)⟩) (by assumption) ?_
  (try simp only [Act.put, List.getElem_toArray, List.getElem_cons_succ, List.getElem_cons_zero, List.setIfInBounds_toArray, List.set_cons_zero, List.set_cons_succ])
  refine wpAnyH_take (i := 7) (v := .slice B3 3 c3) rfl (by kernel_rfl) (by kernel_rfl) (by kernel_rfl) (fun _ _ _ h => h) (Or.inl ⟨by rfl, (by intro w hSw; (try dsimp only at hSw); go_simp <;> first | with_reducible rfl | (with_reducible assumption) | omega)⟩) (by assumption) ?_
  (try simp only [Act.put, List.getElem_toArray, List.getElem_cons_succ, List.getElem_cons_zero, List.setIfInBounds_toArray, List.set_cons_zero, List.set_cons_succ])
  refine wpAnyH_take (i := 8) (v := .int .i64 0) rfl (by kernel_rfl) (by kernel_rfl) (by kernel_rfl) (fun _ _ _ h => h) (Or.inl ⟨by rfl, (by intro w hSw; (try dsimp only at hSw); go_simp <;> first | with_reducible rfl | (with_reducible assumption) | omega)⟩) (by assumption) ?_
  (try simp only [Act.put, List.getElem_toArray, List.getElem_cons_succ, List.getElem_cons_zero, List.setIfInBounds_toArray, List.set_cons_zero, List.set_cons_succ])
  refine wpAnyH_take (i := 9) (v := .slice B3 3 c3) rfl (by kernel_rfl) (by kernel_rfl) (by kernel_rfl) (fun _ _ _ h => h) (Or.inl ⟨by rfl, (by intro w hSw; (try dsimp only at hSw); go_simp <;> first | with_reducible rfl | (with_reducible assumption) | omega)⟩) (by assumption) ?_
  (try simp only [Act.put, List.getElem_toArray, List.getElem_cons_succ, List.getElem_cons_zero, List.setIfInBounds_toArray, List.set_cons_zero, List.set_cons_succ])
  refine wpAnyH_take (i := 10) (v := .int .i64 0) rfl (by kernel_rfl) (by kernel_rfl) (by kernel_rfl) (fun _ _ _ h => h) (Or.inl ⟨by rfl, (by intro w hSw; (try dsimp only at hSw); go_simp <;> first | with_reducible rfl | (with_reducible assumption) | omega)⟩) (by assumption) ?_
  (try simp only [Act.put, List.getElem_toArray, List.getElem_cons_succ, List.getElem_cons_zero, List.setIfInBounds_toArray, List.set_cons_zero, List.set_cons_succ])
  refine wpAnyH_done (by kernel_rfl) ?_ _
  clear HSD
  have HB3 := Lib.hid (Gen.over hb3 (Gen.over (Below.refl _ _).drew HB2.out))
  have HX3 := Lib.hid (HX2.out.keep (Gen.over hb3 (Below.refl _ _).drew))
  have HM3 := Lib.hid hm3
  clear hb3 hm3
  try clear hH5
  try clear hHeld
  go_wp2_with (fail)
  go_must (refine (says_any w3 100 99 (-1) (by decide) (by decide)).mono ?_)
  rintro e w4 ⟨rfl, hb⟩
  have hb34 : Below w3.heap.size w3 w4 := hb
  clear hb
  go_wp2_with (fail)
  go_must (refine (says_any w4 100 100 (500) (by decide) (by decide)).mono ?_)
  rintro e w5 ⟨rfl, hb⟩
  have hb35 : Below w3.heap.size w3 w5 := Gen.over hb hb34
  clear hb
  clear hb34
  go_wp2_with (fail)
  go_must (refine (says_any w5 100 209 (500) (by decide) (by decide)).mono ?_)
  rintro e w6 ⟨rfl, hb⟩
  have hb36 : Below w3.heap.size w3 w6 := Gen.over hb hb35
  clear hb
  clear hb35
  go_wp2_with (fail)
  go_must (refine (says_any w6 100 210 (400) (by decide) (by decide)).mono ?_)
  rintro e w7 ⟨rfl, hb⟩
  have hb37 : Below w3.heap.size w3 w7 := Gen.over hb hb36
  clear hb
  clear hb36
  go_wp2_with (fail)
  go_must (refine (says_any w7 180 199 (500) (by decide) (by decide)).mono ?_)
  rintro e w8 ⟨rfl, hb⟩
  have hb38 : Below w3.heap.size w3 w8 := Gen.over hb hb37
  clear hb
  clear hb37
  go_wp2_with (fail)
  go_must (refine (says_any w8 180 200 (700) (by decide) (by decide)).mono ?_)
  rintro e w9 ⟨rfl, hb⟩
  have hb39 : Below w3.heap.size w3 w9 := Gen.over hb hb38
  clear hb
  clear hb38
  go_wp2_with (fail)
  go_must (refine (says_any w9 180 300 (700) (by decide) (by decide)).mono ?_)
  rintro e w10 ⟨rfl, hb⟩
  have hb310 : Below w3.heap.size w3 w10 := Gen.over hb hb39
  clear hb
  clear hb39
  have HB10 := Lib.hid (Gen.over hb310 HB3.out)
  have HX10 := Lib.hid (HX3.out.keep hb310)
  go_upto_region 5 with (fail)
  have HSD : Hid (SM w10 g w10.drew) := Lib.hid (SM.over (Below.refl _ _).drew (SM.of HX10.out))
  have HM10 := Lib.hid (HM3.out.keep hb310)
  refine wp_region_held_drew (S := (fun W' : World => Below w10.heap.size w10 W' ∧ W'.cell? ⟨g, 5, none⟩ = some (.int .i64 3) ∧ W'.cell? ⟨g, 6, none⟩ = some (.string ⟨#[99, 97, 115, 104]⟩) ∧ W'.cell? ⟨g, 7, none⟩ = some (.int .i64 180) ∧ W'.cell? ⟨g, 8, none⟩ = some (.int .i64 700) ∧ W'.cell? ⟨g, 9, none⟩ = some (.int .i64 200) ∧ W'.cell? ⟨g, 10, none⟩ = some (.int .i64 3) ∧ W'.cell? ⟨g, 11, none⟩ = some (.string ⟨#[99, 97, 115, 104]⟩) ∧ W'.cell? ⟨g, 12, none⟩ = some (.int .i64 90) ∧ W'.cell? ⟨g, 13, none⟩ = some (.int .i64 400) ∧ W'.cell? ⟨g, 14, none⟩ = some (.int .i64 210))) (by kernel_rfl) (HSD.out) (fun hHeld => ?_)
  refine wpAnyH_take (i := 0) (v := .bool true) rfl (by kernel_rfl) (by kernel_rfl) (by kernel_rfl) (fun _ _ _ h => h) (Or.inl ⟨by rfl, (by intro w hSw; (try dsimp only at hSw); go_simp <;> first | with_reducible rfl | (with_reducible assumption) | omega)⟩) (by assumption) ?_
  (try simp only [Act.put, List.getElem_toArray, List.getElem_cons_succ, List.getElem_cons_zero, List.setIfInBounds_toArray, List.set_cons_zero, List.set_cons_succ])
  refine wpAnyH_take (i := 1) (v := .bool true) rfl (by kernel_rfl) (by kernel_rfl) (by kernel_rfl) (fun _ _ _ h => h) (Or.inl ⟨by rfl, (by intro w hSw; (try dsimp only at hSw); go_simp <;> first | with_reducible rfl | (with_reducible assumption) | omega)⟩) (by assumption) ?_
  (try simp only [Act.put, List.getElem_toArray, List.getElem_cons_succ, List.getElem_cons_zero, List.setIfInBounds_toArray, List.set_cons_zero, List.set_cons_succ])
  refine wpAnyH_take (i := 2) (v := .slice (some ⟨g, 0, none⟩) 3 3) rfl (by kernel_rfl) (by kernel_rfl) (by kernel_rfl) (fun _ _ _ h => h) (Or.inl ⟨by rfl, (by intro w hSw; (try dsimp only at hSw); go_simp <;> first | with_reducible rfl | (with_reducible assumption) | omega)⟩) (by assumption) ?_
  (try simp only [Act.put, List.getElem_toArray, List.getElem_cons_succ, List.getElem_cons_zero, List.setIfInBounds_toArray, List.set_cons_zero, List.set_cons_succ])
  refine wpAnyH_take (i := 3) (v := .slice (some ⟨g, 0, none⟩) 2 3) rfl (by kernel_rfl) (by kernel_rfl) (by kernel_rfl) (fun _ _ _ h => h) (Or.inl ⟨by rfl, (by intro w hSw; (try dsimp only at hSw); go_simp <;> first | with_reducible rfl | (with_reducible assumption) | omega)⟩) (by assumption) ?_
  (try simp only [Act.put, List.getElem_toArray, List.getElem_cons_succ, List.getElem_cons_zero, List.setIfInBounds_toArray, List.set_cons_zero, List.set_cons_succ])
  refine wpAnyH_take (i := 4) (v := .slice (some ⟨g, 0, none⟩) 3 3) rfl (by kernel_rfl) (by kernel_rfl) (by kernel_rfl) (fun _ _ _ h => h) (Or.inl ⟨by rfl, (by intro w hSw; (try dsimp only at hSw); go_simp <;> first | with_reducible rfl | (with_reducible assumption) | omega)⟩) (by assumption) ?_
  (try simp only [Act.put, List.getElem_toArray, List.getElem_cons_succ, List.getElem_cons_zero, List.setIfInBounds_toArray, List.set_cons_zero, List.set_cons_succ])
  refine wpAnyH_take (i := 5) (v := .pointer (some ⟨g, 10, none⟩)) rfl (by kernel_rfl) (by kernel_rfl) (by kernel_rfl) (fun _ _ _ h => h) (Or.inl ⟨by rfl, (by intro w hSw; (try dsimp only at hSw); go_simp <;> first | with_reducible rfl | (with_reducible assumption) | omega)⟩) (by assumption) ?_
  (try simp only [Act.put, List.getElem_toArray, List.getElem_cons_succ, List.getElem_cons_zero, List.setIfInBounds_toArray, List.set_cons_zero, List.set_cons_succ])
  refine wpAnyH_take (i := 6) (v := .agg #[.int .i64 3, .string ⟨#[99, 97, 115, 104]⟩, .int .i64 90, .int .i64 400, .int .i64 210]) rfl (by kernel_rfl) (by kernel_rfl) (by kernel_rfl) (fun _ _ _ h => h) (Or.inl ⟨by rfl, (by intro w hSw; (try dsimp only at hSw); go_simp <;> first | with_reducible rfl | (with_reducible assumption) | omega)⟩) (by assumption) ?_
  (try simp only [Act.put, List.getElem_toArray, List.getElem_cons_succ, List.getElem_cons_zero, List.setIfInBounds_toArray, List.set_cons_zero, List.set_cons_succ])
  refine wpAnyH_ready (rs := [7]) (by kernel_rfl) (by simp) ?_
  refine AllReadyH.cons rfl (fun K hK => ?_) AllReadyH.nil
  rw [if_pos (by rfl)]
  (try simp only [Act.put, List.getElem_toArray, List.getElem_cons_succ, List.getElem_cons_zero, List.setIfInBounds_toArray, List.set_cons_zero, List.set_cons_succ])
  go_simp
  go_at_call 25
  refine (fRestated_any (c := 3) (n := 2) (l := someF.take 2) rfl ((HX10.out.take 2).keep HSD.out.1) (by omega) ⟨3, [99, 97, 115, 104], 90, 400, 210⟩).mono ?_
  rintro e' w11 ⟨rfl, hH7b⟩
  rw [show rst (someF.take 2) ⟨3, [99, 97, 115, 104], 90, 400, 210⟩ = true by decide]
  refine hK.out _ _ (SM.over hH7b HSD.out) (fun hH7 => ?_)
  clear hK K
  (try simp only [Act.put, List.getElem_toArray, List.getElem_cons_succ, List.getElem_cons_zero, List.setIfInBounds_toArray, List.set_cons_zero, List.set_cons_succ])
  refine wpAnyH_take (i := 8) (v := .bool true) rfl (by kernel_rfl) (by kernel_rfl) (by kernel_rfl) (fun _ _ _ h => h) (Or.inl ⟨by rfl, (by intro w hSw; (try dsimp only at hSw); go_simp <;> first | with_reducible rfl | (with_reducible assumption) | omega)⟩) (by assumption) ?_
  (try simp only [Act.put, List.getElem_toArray, List.getElem_cons_succ, List.getElem_cons_zero, List.setIfInBounds_toArray, List.set_cons_zero, List.set_cons_succ])
  refine wpAnyH_take (i := 9) (v := .bool true) rfl (by kernel_rfl) (by kernel_rfl) (by kernel_rfl) (fun _ _ _ h => h) (Or.inl ⟨by rfl, (by intro w hSw; (try dsimp only at hSw); go_simp <;> first | with_reducible rfl | (with_reducible assumption) | omega)⟩) (by assumption) ?_
  (try simp only [Act.put, List.getElem_toArray, List.getElem_cons_succ, List.getElem_cons_zero, List.setIfInBounds_toArray, List.set_cons_zero, List.set_cons_succ])
  refine wpAnyH_take (i := 10) (v := .slice (some ⟨g, 0, none⟩) 3 3) rfl (by kernel_rfl) (by kernel_rfl) (by kernel_rfl) (fun _ _ _ h => h) (Or.inl ⟨by rfl, (by intro w hSw; (try dsimp only at hSw); go_simp <;> first | with_reducible rfl | (with_reducible assumption) | omega)⟩) (by assumption) ?_
  (try simp only [Act.put, List.getElem_toArray, List.getElem_cons_succ, List.getElem_cons_zero, List.setIfInBounds_toArray, List.set_cons_zero, List.set_cons_succ])
  refine wpAnyH_take (i := 11) (v := .slice (some ⟨g, 0, none⟩) 1 3) rfl (by kernel_rfl) (by kernel_rfl) (by kernel_rfl) (fun _ _ _ h => h) (Or.inl ⟨by rfl, (by intro w hSw; (try dsimp only at hSw); go_simp <;> first | with_reducible rfl | (with_reducible assumption) | omega)⟩) (by assumption) ?_
  (try simp only [Act.put, List.getElem_toArray, List.getElem_cons_succ, List.getElem_cons_zero, List.setIfInBounds_toArray, List.set_cons_zero, List.set_cons_succ])
  refine wpAnyH_take (i := 12) (v := .slice (some ⟨g, 0, none⟩) 3 3) rfl (by kernel_rfl) (by kernel_rfl) (by kernel_rfl) (fun _ _ _ h => h) (Or.inl ⟨by rfl, (by intro w hSw; (try dsimp only at hSw); go_simp <;> first | with_reducible rfl | (with_reducible assumption) | omega)⟩) (by assumption) ?_
  (try simp only [Act.put, List.getElem_toArray, List.getElem_cons_succ, List.getElem_cons_zero, List.setIfInBounds_toArray, List.set_cons_zero, List.set_cons_succ])
  refine wpAnyH_take (i := 13) (v := .pointer (some ⟨g, 5, none⟩)) rfl (by kernel_rfl) (by kernel_rfl) (by kernel_rfl) (fun _ _ _ h => h) (Or.inl ⟨by rfl, (by intro w hSw; (try dsimp only at hSw); go_simp <;> first | with_reducible rfl | (with_reducible assumption) | omega)⟩) (by assumption) ?_
  (try simp only [Act.put, List.getElem_toArray, List.getElem_cons_succ, List.getElem_cons_zero, List.setIfInBounds_toArray, List.set_cons_zero, List.set_cons_succ])
  refine wpAnyH_take (i := 14) (v := .agg #[.int .i64 3, .string ⟨#[99, 97, 115, 104]⟩, .int .i64 180, .int .i64 700, .int .i64 200]) rfl (by kernel_rfl) (by kernel_rfl) (by kernel_rfl) (fun _ _ _ h => h) (Or.inl ⟨by rfl, (by intro w hSw; (try dsimp only at hSw); go_simp <;> first | with_reducible rfl | (with_reducible assumption) | omega)⟩) (by assumption) ?_
  (try simp only [Act.put, List.getElem_toArray, List.getElem_cons_succ, List.getElem_cons_zero, List.setIfInBounds_toArray, List.set_cons_zero, List.set_cons_succ])
  refine wpAnyH_ready (rs := [15]) (by kernel_rfl) (by simp) ?_
  refine AllReadyH.cons rfl (fun K hK => ?_) AllReadyH.nil
  rw [if_pos (by rfl)]
  (try simp only [Act.put, List.getElem_toArray, List.getElem_cons_succ, List.getElem_cons_zero, List.setIfInBounds_toArray, List.set_cons_zero, List.set_cons_succ])
  go_simp
  go_at_call 25
  refine (fRestated_any (c := 3) (n := 1) (l := someF.take 1) rfl ((HX10.out.take 1).keep hH7.1) (by omega) ⟨3, [99, 97, 115, 104], 180, 700, 200⟩).mono ?_
  rintro e' w12 ⟨rfl, hH15b⟩
  rw [show rst (someF.take 1) ⟨3, [99, 97, 115, 104], 180, 700, 200⟩ = false by decide]
  refine hK.out _ _ (SM.over hH15b hH7) (fun hH15 => ?_)
  clear hK K
  (try simp only [Act.put, List.getElem_toArray, List.getElem_cons_succ, List.getElem_cons_zero, List.setIfInBounds_toArray, List.set_cons_zero, List.set_cons_succ])
  refine wpAnyH_take (i := 16) (v := .bool true) rfl (by kernel_rfl) (by kernel_rfl) (by kernel_rfl) (fun _ _ _ h => h) (Or.inl ⟨by rfl, (by intro w hSw; (try dsimp only at hSw); go_simp <;> first | with_reducible rfl | (with_reducible assumption) | omega)⟩) (by assumption) ?_
  (try simp only [Act.put, List.getElem_toArray, List.getElem_cons_succ, List.getElem_cons_zero, List.setIfInBounds_toArray, List.set_cons_zero, List.set_cons_succ])
  refine wpAnyH_take (i := 17) (v := .bool true) rfl (by kernel_rfl) (by kernel_rfl) (by kernel_rfl) (fun _ _ _ h => h) (Or.inl ⟨by rfl, (by intro w hSw; (try dsimp only at hSw); go_simp <;> first | with_reducible rfl | (with_reducible assumption) | omega)⟩) (by assumption) ?_
  (try simp only [Act.put, List.getElem_toArray, List.getElem_cons_succ, List.getElem_cons_zero, List.setIfInBounds_toArray, List.set_cons_zero, List.set_cons_succ])
  refine wpAnyH_take (i := 18) (v := .bool true) rfl (by kernel_rfl) (by kernel_rfl) (by kernel_rfl) (fun _ _ _ h => h) (Or.inl ⟨by rfl, (by intro w hSw; (try dsimp only at hSw); go_simp <;> first | with_reducible rfl | (with_reducible assumption) | omega)⟩) (by assumption) ?_
  (try simp only [Act.put, List.getElem_toArray, List.getElem_cons_succ, List.getElem_cons_zero, List.setIfInBounds_toArray, List.set_cons_zero, List.set_cons_succ])
  refine wpAnyH_take (i := 19) (v := .int .i64 20) rfl (by kernel_rfl) (by kernel_rfl) (by kernel_rfl) (fun _ _ _ h => h) (Or.inl ⟨by rfl, (by intro w hSw; (try dsimp only at hSw); go_simp <;> first | with_reducible rfl | (with_reducible assumption) | omega)⟩) (by assumption) ?_
  (try simp only [Act.put, List.getElem_toArray, List.getElem_cons_succ, List.getElem_cons_zero, List.setIfInBounds_toArray, List.set_cons_zero, List.set_cons_succ])
  refine wpAnyH_take (i := 20) (v := .bool true) rfl (by kernel_rfl) (by kernel_rfl) (by kernel_rfl) (fun _ _ _ h => h) (Or.inl ⟨by rfl, (by intro w hSw; (try dsimp only at hSw); go_simp <;> first | with_reducible rfl | (with_reducible assumption) | omega)⟩) (by assumption) ?_
  (try simp only [Act.put, List.getElem_toArray, List.getElem_cons_succ, List.getElem_cons_zero, List.setIfInBounds_toArray, List.set_cons_zero, List.set_cons_succ])
  refine wpAnyH_take (i := 21) (v := .bool true) rfl (by kernel_rfl) (by kernel_rfl) (by kernel_rfl) (fun _ _ _ h => h) (Or.inl ⟨by rfl, (by intro w hSw; (try dsimp only at hSw); go_simp <;> first | with_reducible rfl | (with_reducible assumption) | omega)⟩) (by assumption) ?_
  (try simp only [Act.put, List.getElem_toArray, List.getElem_cons_succ, List.getElem_cons_zero, List.setIfInBounds_toArray, List.set_cons_zero, List.set_cons_succ])
  refine wpAnyH_take (i := 22) (v := .bool true) rfl (by kernel_rfl) (by kernel_rfl) (by kernel_rfl) (fun _ _ _ h => h) (Or.inl ⟨by rfl, (by intro w hSw; (try dsimp only at hSw); go_simp <;> first | with_reducible rfl | (with_reducible assumption) | omega)⟩) (by assumption) ?_
  (try simp only [Act.put, List.getElem_toArray, List.getElem_cons_succ, List.getElem_cons_zero, List.setIfInBounds_toArray, List.set_cons_zero, List.set_cons_succ])
  refine wpAnyH_take (i := 23) (v := .int .i64 0) rfl (by kernel_rfl) (by kernel_rfl) (by kernel_rfl) (fun _ _ _ h => h) (Or.inl ⟨by rfl, (by intro w hSw; (try dsimp only at hSw); go_simp <;> first | with_reducible rfl | (with_reducible assumption) | omega)⟩) (by assumption) ?_
  (try simp only [Act.put, List.getElem_toArray, List.getElem_cons_succ, List.getElem_cons_zero, List.setIfInBounds_toArray, List.set_cons_zero, List.set_cons_succ])
  refine wpAnyH_take (i := 24) (v := .bool true) rfl (by kernel_rfl) (by kernel_rfl) (by kernel_rfl) (fun _ _ _ h => h) (Or.inl ⟨by rfl, (by intro w hSw; (try dsimp only at hSw); go_simp <;> first | with_reducible rfl | (with_reducible assumption) | omega)⟩) (by assumption) ?_
  (try simp only [Act.put, List.getElem_toArray, List.getElem_cons_succ, List.getElem_cons_zero, List.setIfInBounds_toArray, List.set_cons_zero, List.set_cons_succ])
  refine wpAnyH_take (i := 25) (v := .bool true) rfl (by kernel_rfl) (by kernel_rfl) (by kernel_rfl) (fun _ _ _ h => h) (Or.inl ⟨by rfl, (by intro w hSw; (try dsimp only at hSw); go_simp <;> first | with_reducible rfl | (with_reducible assumption) | omega)⟩) (by assumption) ?_
  (try simp only [Act.put, List.getElem_toArray, List.getElem_cons_succ, List.getElem_cons_zero, List.setIfInBounds_toArray, List.set_cons_zero, List.set_cons_succ])
  refine wpAnyH_take (i := 26) (v := .bool true) rfl (by kernel_rfl) (by kernel_rfl) (by kernel_rfl) (fun _ _ _ h => h) (Or.inl ⟨by rfl, (by intro w hSw; (try dsimp only at hSw); go_simp <;> first | with_reducible rfl | (with_reducible assumption) | omega)⟩) (by assumption) ?_
  (try simp only [Act.put, List.getElem_toArray, List.getElem_cons_succ, List.getElem_cons_zero, List.setIfInBounds_toArray, List.set_cons_zero, List.set_cons_succ])
  refine wpAnyH_take (i := 27) (v := .slice B3 3 c3) rfl (by kernel_rfl) (by kernel_rfl) (by kernel_rfl) (fun _ _ _ h => h) (Or.inl ⟨by rfl, (by intro w hSw; (try dsimp only at hSw); go_simp <;> first | with_reducible rfl | (with_reducible assumption) | omega)⟩) (by assumption) ?_
  (try simp only [Act.put, List.getElem_toArray, List.getElem_cons_succ, List.getElem_cons_zero, List.setIfInBounds_toArray, List.set_cons_zero, List.set_cons_succ])
  refine wpAnyH_take (i := 28) (v := .slice (some ⟨g, 0, none⟩) 3 3) rfl (by kernel_rfl) (by kernel_rfl) (by kernel_rfl) (fun _ _ _ h => h) (Or.inl ⟨by rfl, (by intro w hSw; (try dsimp only at hSw); go_simp <;> first | with_reducible rfl | (with_reducible assumption) | omega)⟩) (by assumption) ?_
  (try simp only [Act.put, List.getElem_toArray, List.getElem_cons_succ, List.getElem_cons_zero, List.setIfInBounds_toArray, List.set_cons_zero, List.set_cons_succ])
  refine wpAnyH_ready (rs := [29]) (by kernel_rfl) (by simp) ?_
  refine AllReadyH.cons rfl (fun K hK => ?_) AllReadyH.nil
  rw [if_pos (by rfl)]
  (try simp only [Act.put, List.getElem_toArray, List.getElem_cons_succ, List.getElem_cons_zero, List.setIfInBounds_toArray, List.set_cons_zero, List.set_cons_succ])
  go_simp
  go_at_call 22
  refine (rSame_any (n := 3) (n' := 3) rfl rfl (HM10.out.keep hH15.1) (HX10.out.keep hH15.1) (by omega) (by omega)).mono ?_
  rintro e' w13 ⟨rfl, hH29b⟩
  rw [decide_eq_true rfl]
  refine hK.out _ _ (SM.over hH29b hH15) (fun hH29 => ?_)
  clear hK K
  (try simp only [Act.put, List.getElem_toArray, List.getElem_cons_succ, List.getElem_cons_zero, List.setIfInBounds_toArray, List.set_cons_zero, List.set_cons_succ])
  refine wpAnyH_take (i := 30) (v := .bool true) rfl (by kernel_rfl) (by kernel_rfl) (by kernel_rfl) (fun _ _ _ h => h) (Or.inl ⟨by rfl, (by intro w hSw; (try dsimp only at hSw); go_simp <;> first | with_reducible rfl | (with_reducible assumption) | omega)⟩) (by assumption) ?_
  (try simp only [Act.put, List.getElem_toArray, List.getElem_cons_succ, List.getElem_cons_zero, List.setIfInBounds_toArray, List.set_cons_zero, List.set_cons_succ])
  refine wpAnyH_take (i := 31) (v := .bool true) rfl (by kernel_rfl) (by kernel_rfl) (by kernel_rfl) (fun _ _ _ h => h) (Or.inl ⟨by rfl, (by intro w hSw; (try dsimp only at hSw); go_simp <;> first | with_reducible rfl | (with_reducible assumption) | omega)⟩) (by assumption) ?_
  (try simp only [Act.put, List.getElem_toArray, List.getElem_cons_succ, List.getElem_cons_zero, List.setIfInBounds_toArray, List.set_cons_zero, List.set_cons_succ])
  refine wpAnyH_take (i := 32) (v := .slice (some ⟨g, 0, none⟩) 3 3) rfl (by kernel_rfl) (by kernel_rfl) (by kernel_rfl) (fun _ _ _ h => h) (Or.inl ⟨by rfl, (by intro w hSw; (try dsimp only at hSw); go_simp <;> first | with_reducible rfl | (with_reducible assumption) | omega)⟩) (by assumption) ?_
  (try simp only [Act.put, List.getElem_toArray, List.getElem_cons_succ, List.getElem_cons_zero, List.setIfInBounds_toArray, List.set_cons_zero, List.set_cons_succ])
  refine wpAnyH_ready (rs := [33]) (by kernel_rfl) (by simp) ?_
  refine AllReadyH.cons rfl (fun K hK => ?_) AllReadyH.nil
  rw [if_pos (by rfl)]
  (try simp only [Act.put, List.getElem_toArray, List.getElem_cons_succ, List.getElem_cons_zero, List.setIfInBounds_toArray, List.set_cons_zero, List.set_cons_succ])
  go_simp
  go_at_call 20
  refine (fRight_any (n := 3) rfl (HX10.out.keep hH29.1) (by omega) someF_nm).mono ?_
  rintro e' w14 ⟨rfl, hH35b⟩
  rw [show rgF someF = true by decide]
  refine hK.out _ _ (SM.over hH35b hH29) (fun hH35 => ?_)
  clear hK K
  (try simp only [Act.put, List.getElem_toArray, List.getElem_cons_succ, List.getElem_cons_zero, List.setIfInBounds_toArray, List.set_cons_zero, List.set_cons_succ])
  refine wpAnyH_take (i := 34) (v := .bool true) rfl (by kernel_rfl) (by kernel_rfl) (by kernel_rfl) (fun _ _ _ h => h) (Or.inl ⟨by rfl, (by intro w hSw; (try dsimp only at hSw); go_simp <;> first | with_reducible rfl | (with_reducible assumption) | omega)⟩) (by assumption) ?_
  (try simp only [Act.put, List.getElem_toArray, List.getElem_cons_succ, List.getElem_cons_zero, List.setIfInBounds_toArray, List.set_cons_zero, List.set_cons_succ])
  refine wpAnyH_take (i := 35) (v := .bool true) rfl (by kernel_rfl) (by kernel_rfl) (by kernel_rfl) (fun _ _ _ h => h) (Or.inl ⟨by rfl, (by intro w hSw; (try dsimp only at hSw); go_simp <;> first | with_reducible rfl | (with_reducible assumption) | omega)⟩) (by assumption) ?_
  (try simp only [Act.put, List.getElem_toArray, List.getElem_cons_succ, List.getElem_cons_zero, List.setIfInBounds_toArray, List.set_cons_zero, List.set_cons_succ])
  refine wpAnyH_done (by kernel_rfl) ?_ _
  go_wp2
  go_ret
  exact ⟨rfl, Gen.over hH35.1 HB10.out⟩
end Go.Proofs.Ytcnfonhcgcblgaa.Fc
