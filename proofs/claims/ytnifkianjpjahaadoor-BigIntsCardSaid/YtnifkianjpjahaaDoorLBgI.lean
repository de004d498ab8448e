/- BigInts returns true: all two ints; the table of powers of ten as the text lays it. -/
import Derived.Test.YtnifkianjpjahaaDoorBhS
import Derived.Test.YtnifkianjpjahaaDoorBhP
namespace Go.Proofs.YtnifkianjpjahaaDoor.Bg
open Go.ChangeShapes Go.WideShapes Go.ChangeAt Go.RowKit Go.Proofs.YtnifkianjpjahaaDoor.Cell
set_option linter.unusedVariables false
set_option linter.unusedSimpArgs false

theorem i64_in {a : Int} (h : (Lit.int .i64 a).wf = true) : I64 a := by
  simp [Lit.wf, IntKind.min, IntKind.max, IntKind.signed, IntKind.bits] at h
  unfold I64
  omega
theorem i64_sz {a : Int} (h : I64 a) : Sz 4 a := by
  unfold I64 at h
  unfold Sz
  rw [pw_4]
  omega
theorem txt_beq (a b : Int) : (txt a == txt b) = (a == b) := by
  by_cases h : a = b
  · subst h; simp
  · have h' : txt a ≠ txt b := fun e => h (txt_inj.1 e)
    rw [beq_eq_false_iff_ne.2 h, beq_eq_false_iff_ne.2 h']

theorem half_mul {a b : Int} (h1 : -1073741824 < a) (h2 : a < 1073741824) (h3 : -1073741824 < b) (h4 : b < 1073741824) : -1152921504606846976 ≤ a * b ∧ a * b ≤ 1152921504606846976 := by
  have h5 : ((a * b).natAbs : Int) = (a.natAbs : Int) * (b.natAbs : Int) := abs_mul' a b
  have h6 := Int.mul_le_mul (show (a.natAbs : Int) ≤ 1073741824 by omega) (show (b.natAbs : Int) ≤ 1073741824 by omega) (by omega) (by omega)
  omega
set_option maxRecDepth 100000 in
set_option maxHeartbeats 16000000 in
theorem ints_min (a b : Int) (w : World) (hT : PowTab w) (ha : I64 a) (hb : I64 b) (hmin : a = -9223372036854775808) :
    Calls Tryd.prog 7 #[.int .i64 a, .int .i64 b] w fun e w' => e = .returned (.bool true) ∧ Below w.heap.size w w' := by
  have HT := Lib.hid hT
  have HA := Lib.hid ha
  have HB1 := Lib.hid hb
  have ZA := Lib.hid (i64_sz ha)
  have ZB := Lib.hid (i64_sz hb)
  have HV := Lib.hid (Vs.nil w)
  have HB := Lib.hid (Below.refl w.heap.size w)
  have ha' := ha
  unfold I64 at ha'
  have hmn : (a != -9223372036854775808) = false := by simp [hmin]
  have HM : Hid (¬ I64 (-a)) := Lib.hid (by unfold I64; omega)
  have hq := txt_beq a b
  clear hT ha hb hmin ha'
  go_enter Tryd.func7, Tryd.ntmps7
  go_wp2_with (fail)
  go_must (refine (small_yes _ HT.out).mono ?_)
  rintro e W1 ⟨rfl, hb1⟩
  replace HV := Lib.hid (HV.out.keep hb1)
  replace HB := Lib.hid (Gen.over hb1 HB.out)
  clear hb1
  go_wp2_with (fail)
  go_must (refine (of_val a _ HA.out).mono ?_)
  rintro e W2 ⟨v2, rfl, hv2, hb2⟩
  replace HV := Lib.hid (HV.out.keep hb2)
  replace HB := Lib.hid (Gen.over hb2 HB.out)
  obtain ⟨Av2, cv2, lv2, rfl, _⟩ := hv2.ex
  obtain ⟨nv2, hnv2⟩ : ∃ n, lv2.length = n := ⟨_, rfl⟩
  rw [hnv2] at hv2 ⊢
  have Hv2 := Lib.hid hv2
  clear hnv2 hv2
  clear hb2
  replace HV := Lib.hid (HV.out.ad Hv2.out)
  replace HB := Lib.hid (below_ad HB.out Hv2.out)
  go_wp2_with (fail)
  go_must (refine (of_val b _ HB1.out).mono ?_)
  rintro e W3 ⟨v3, rfl, hv3, hb3⟩
  replace HV := Lib.hid (HV.out.keep hb3)
  replace HB := Lib.hid (Gen.over hb3 HB.out)
  obtain ⟨Av3, cv3, lv3, rfl, _⟩ := hv3.ex
  obtain ⟨nv3, hnv3⟩ : ∃ n, lv3.length = n := ⟨_, rfl⟩
  rw [hnv3] at hv3 ⊢
  have Hv3 := Lib.hid hv3
  clear hnv3 hv3
  clear hb3
  replace HV := Lib.hid (HV.out.ad Hv3.out)
  replace HB := Lib.hid (below_ad HB.out Hv3.out)
  have d1 := HV.out.c0 (.tail _ (.head _))
  have f1 := HV.out.c1 (.tail _ (.head _))
  go_wp2_with (fail)
  go_must (refine (int_yes _ (HV.out.big (.tail _ (.head _))) HA.out).mono ?_)
  rintro e W4 ⟨rfl, hb4⟩
  replace HV := Lib.hid (HV.out.keep hb4)
  replace HB := Lib.hid (Gen.over hb4 HB.out)
  clear hb4
  clear d1 f1
  have d2 := HV.out.c0 (.tail _ (.head _))
  have f2 := HV.out.c1 (.tail _ (.head _))
  go_wp2_with (fail)
  go_must (refine (neg_val _ (HV.out.big (.tail _ (.head _)))).mono ?_)
  rintro e W5 ⟨v5, rfl, hv5, hb5⟩
  replace HV := Lib.hid (HV.out.keep hb5)
  replace HB := Lib.hid (Gen.over hb5 HB.out)
  obtain ⟨Av5, cv5, lv5, rfl, _⟩ := hv5.ex
  obtain ⟨nv5, hnv5⟩ : ∃ n, lv5.length = n := ⟨_, rfl⟩
  rw [hnv5] at hv5 ⊢
  have Hv5 := Lib.hid hv5
  clear hnv5 hv5
  clear hb5
  clear d2 f2
  go_wp2_with (fail)
  go_must (refine (int_no _ Hv5.out HM.out).mono ?_)
  rintro e W6 ⟨rfl, hb6⟩
  replace Hv5 := Lib.hid (Hv5.out.keep hb6)
  replace HV := Lib.hid (HV.out.keep hb6)
  replace HB := Lib.hid (Gen.over hb6 HB.out)
  clear hb6
  clear Hv5 HM
  have HXx := Lib.hid (HV.out.big (.tail _ (.head _)))
  have HXy := Lib.hid (HV.out.big (.head _))
  have HT0 := Lib.hid (HT.out.keep HB.out)
  have HS0 : Hid (Below W6.heap.size W6 W6 ∧ W6.cell? ⟨W2.heap.size, 0, none⟩ = some (.int .i64 (sg a)) ∧ W6.cell? ⟨W2.heap.size, 1, none⟩ = some (.slice Av2 nv2 cv2) ∧ W6.cell? ⟨W3.heap.size, 0, none⟩ = some (.int .i64 (sg b)) ∧ W6.cell? ⟨W3.heap.size, 1, none⟩ = some (.slice Av3 nv3 cv3)) := Lib.hid ⟨Below.refl _ _, HV.out.c0 (.tail _ (.head _)), HV.out.c1 (.tail _ (.head _)), HV.out.c0 (.head _), HV.out.c1 (.head _)⟩
  go_wp2_with (fail)
  refine wp_region_noPanic ?_
  refine wp_region_held_drew (S := fun W' : World => Below W6.heap.size W6 W' ∧ W'.cell? ⟨W2.heap.size, 0, none⟩ = some (.int .i64 (sg a)) ∧ W'.cell? ⟨W2.heap.size, 1, none⟩ = some (.slice Av2 nv2 cv2) ∧ W'.cell? ⟨W3.heap.size, 0, none⟩ = some (.int .i64 (sg b)) ∧ W'.cell? ⟨W3.heap.size, 1, none⟩ = some (.slice Av3 nv3 cv3)) (by kernel_rfl) ⟨HS0.out.1.drew, HS0.out.2⟩ (fun hHeld => ?_)
  refine wpAnyH_take (i := 0) (v := .agg #[.int .i64 (sg a), .slice Av2 nv2 cv2]) rfl (by kernel_rfl) (by kernel_rfl) (by kernel_rfl) (fun _ _ _ h => h) (Or.inl ⟨by rfl, (by intro w hSw; (try dsimp only at hSw); go_simp <;> with_reducible rfl)⟩) (by assumption) ?_
  (try simp only [Act.put, List.getElem_toArray, List.getElem_cons_succ, List.getElem_cons_zero, List.setIfInBounds_toArray, List.set_cons_zero, List.set_cons_succ])
  refine wpAnyH_ready (rs := [1]) (by kernel_rfl) (by simp) ?_
  refine AllReadyH.cons rfl (fun K hK => ?_) AllReadyH.nil
  rw [if_pos (by rfl)]
  (try simp only [Act.put, List.getElem_toArray, List.getElem_cons_succ, List.getElem_cons_zero, List.setIfInBounds_toArray, List.set_cons_zero, List.set_cons_succ])
  go_simp
  go_at_call 11
  refine (right_val (HXx.out.keep hHeld.1)).mono ?_
  rintro e w1 ⟨rfl, hb1⟩
  refine hK.out _ _ ⟨Gen.over hb1 hHeld.1, Gen.keep hb1 hHeld.2.1, Gen.keep hb1 hHeld.2.2.1, Gen.keep hb1 hHeld.2.2.2.1, Gen.keep hb1 hHeld.2.2.2.2⟩ (fun hH1 => ?_)
  clear hK K
  (try simp only [Act.put, List.getElem_toArray, List.getElem_cons_succ, List.getElem_cons_zero, List.setIfInBounds_toArray, List.set_cons_zero, List.set_cons_succ])
  refine wpAnyH_take (i := 2) (v := .bool false) rfl (by kernel_rfl) (by kernel_rfl) (by kernel_rfl) (fun _ _ _ h => h) (Or.inl ⟨by rfl, (by intro w hSw; (try dsimp only at hSw); go_simp <;> with_reducible rfl)⟩) (by assumption) ?_
  (try simp only [Act.put, List.getElem_toArray, List.getElem_cons_succ, List.getElem_cons_zero, List.setIfInBounds_toArray, List.set_cons_zero, List.set_cons_succ])
  refine wpAnyH_take (i := 3) (v := .bool false) rfl (by kernel_rfl) (by kernel_rfl) (by kernel_rfl) (fun _ _ _ h => h) (Or.inl ⟨by rfl, (by intro w hSw; (try dsimp only at hSw); go_simp <;> with_reducible rfl)⟩) (by assumption) ?_
  (try simp only [Act.put, List.getElem_toArray, List.getElem_cons_succ, List.getElem_cons_zero, List.setIfInBounds_toArray, List.set_cons_zero, List.set_cons_succ])
  refine wpAnyH_take (i := 4) (v := .bool true) rfl (by kernel_rfl) (by kernel_rfl) (by kernel_rfl) (fun _ _ _ h => h) (Or.inl ⟨by rfl, (by intro w hSw; (try dsimp only at hSw); go_simp <;> with_reducible rfl)⟩) (by assumption) ?_
  (try simp only [Act.put, List.getElem_toArray, List.getElem_cons_succ, List.getElem_cons_zero, List.setIfInBounds_toArray, List.set_cons_zero, List.set_cons_succ])
  refine wpAnyH_take (i := 5) (v := .bool false) rfl (by kernel_rfl) (by kernel_rfl) (by kernel_rfl) (fun _ _ _ h => h) (Or.inl ⟨by rfl, (by intro w hSw; (try dsimp only at hSw); go_simp <;> with_reducible rfl)⟩) (by assumption) ?_
  (try simp only [Act.put, List.getElem_toArray, List.getElem_cons_succ, List.getElem_cons_zero, List.setIfInBounds_toArray, List.set_cons_zero, List.set_cons_succ])
  refine wpAnyH_take (i := 6) (v := .bool false) rfl (by kernel_rfl) (by kernel_rfl) (by kernel_rfl) (fun _ _ _ h => h) (Or.inl ⟨by rfl, (by intro w hSw; (try dsimp only at hSw); go_simp <;> with_reducible rfl)⟩) (by assumption) ?_
  (try simp only [Act.put, List.getElem_toArray, List.getElem_cons_succ, List.getElem_cons_zero, List.setIfInBounds_toArray, List.set_cons_zero, List.set_cons_succ])
  refine wpAnyH_take (i := 7) (v := .bool false) rfl (by kernel_rfl) (by kernel_rfl) (by kernel_rfl) (fun _ _ _ h => h) (Or.inl ⟨by rfl, (by intro w hSw; (try dsimp only at hSw); go_simp <;> with_reducible rfl)⟩) (by assumption) ?_
  (try simp only [Act.put, List.getElem_toArray, List.getElem_cons_succ, List.getElem_cons_zero, List.setIfInBounds_toArray, List.set_cons_zero, List.set_cons_succ])
  refine wpAnyH_take (i := 8) (v := .int .i64 a) rfl (by kernel_rfl) (by kernel_rfl) (by kernel_rfl) (fun _ _ _ h => h) (Or.inl ⟨by rfl, (by intro w hSw; (try dsimp only at hSw); go_simp <;> with_reducible rfl)⟩) (by assumption) ?_
  (try simp only [Act.put, List.getElem_toArray, List.getElem_cons_succ, List.getElem_cons_zero, List.setIfInBounds_toArray, List.set_cons_zero, List.set_cons_succ])
  refine wpAnyH_take (i := 9) (v := .int .i64 a) rfl (by kernel_rfl) (by kernel_rfl) (by kernel_rfl) (fun _ _ _ h => h) (Or.inl ⟨by rfl, (by intro w hSw; (try dsimp only at hSw); go_simp <;> with_reducible rfl)⟩) (by assumption) ?_
  (try simp only [Act.put, List.getElem_toArray, List.getElem_cons_succ, List.getElem_cons_zero, List.setIfInBounds_toArray, List.set_cons_zero, List.set_cons_succ])
  refine wpAnyH_take (i := 10) (v := .bool false) rfl (by kernel_rfl) (by kernel_rfl) (by kernel_rfl) (fun _ _ _ h => h) (Or.inl ⟨by rfl, (by intro w hSw; (try dsimp only at hSw); go_simp <;> with_reducible rfl)⟩) (by assumption) ?_
  (try simp only [Act.put, List.getElem_toArray, List.getElem_cons_succ, List.getElem_cons_zero, List.setIfInBounds_toArray, List.set_cons_zero, List.set_cons_succ])
  refine wpAnyH_take (i := 11) (v := .bool false) rfl (by kernel_rfl) (by kernel_rfl) (by kernel_rfl) (fun _ _ _ h => h) (Or.inl ⟨by rfl, (by intro w hSw; (try dsimp only at hSw); go_simp <;> with_reducible rfl)⟩) (by assumption) ?_
  (try simp only [Act.put, List.getElem_toArray, List.getElem_cons_succ, List.getElem_cons_zero, List.setIfInBounds_toArray, List.set_cons_zero, List.set_cons_succ])
  refine wpAnyH_take (i := 12) (v := .bool false) rfl (by kernel_rfl) (by kernel_rfl) (by kernel_rfl) (fun _ _ _ h => h) (Or.inl ⟨by rfl, (by intro w hSw; (try dsimp only at hSw); go_simp <;> with_reducible rfl)⟩) (by assumption) ?_
  (try simp only [Act.put, List.getElem_toArray, List.getElem_cons_succ, List.getElem_cons_zero, List.setIfInBounds_toArray, List.set_cons_zero, List.set_cons_succ])
  refine wpAnyH_take (i := 13) (v := .bool false) rfl (by kernel_rfl) (by kernel_rfl) (by kernel_rfl) (fun _ _ _ h => h) (Or.inl ⟨by rfl, (by intro w hSw; (try dsimp only at hSw); go_simp <;> with_reducible rfl)⟩) (by assumption) ?_
  (try simp only [Act.put, List.getElem_toArray, List.getElem_cons_succ, List.getElem_cons_zero, List.setIfInBounds_toArray, List.set_cons_zero, List.set_cons_succ])
  refine wpAnyH_take (i := 14) (v := .int .i64 a) rfl (by kernel_rfl) (by kernel_rfl) (by kernel_rfl) (fun _ _ _ h => h) (Or.inl ⟨by rfl, (by intro w hSw; (try dsimp only at hSw); go_simp <;> with_reducible rfl)⟩) (by assumption) ?_
  (try simp only [Act.put, List.getElem_toArray, List.getElem_cons_succ, List.getElem_cons_zero, List.setIfInBounds_toArray, List.set_cons_zero, List.set_cons_succ])
  refine wpAnyH_take (i := 15) (v := .bool false) rfl (by kernel_rfl) (by kernel_rfl) (by kernel_rfl) (fun _ _ _ h => h) (Or.inl ⟨by rfl, (by intro w hSw; (try dsimp only at hSw); go_simp <;> with_reducible rfl)⟩) (by assumption) ?_
  (try simp only [Act.put, List.getElem_toArray, List.getElem_cons_succ, List.getElem_cons_zero, List.setIfInBounds_toArray, List.set_cons_zero, List.set_cons_succ])
  refine wpAnyH_take (i := 16) (v := .bool false) rfl (by kernel_rfl) (by kernel_rfl) (by kernel_rfl) (fun _ _ _ h => h) (Or.inl ⟨by rfl, (by intro w hSw; (try dsimp only at hSw); go_simp <;> with_reducible rfl)⟩) (by assumption) ?_
  (try simp only [Act.put, List.getElem_toArray, List.getElem_cons_succ, List.getElem_cons_zero, List.setIfInBounds_toArray, List.set_cons_zero, List.set_cons_succ])
  refine wpAnyH_take (i := 17) (v := .bool false) rfl (by kernel_rfl) (by kernel_rfl) (by kernel_rfl) (fun _ _ _ h => h) (Or.inl ⟨by rfl, (by intro w hSw; (try dsimp only at hSw); go_simp <;> with_reducible rfl)⟩) (by assumption) ?_
  (try simp only [Act.put, List.getElem_toArray, List.getElem_cons_succ, List.getElem_cons_zero, List.setIfInBounds_toArray, List.set_cons_zero, List.set_cons_succ])
  refine wpAnyH_take (i := 18) (v := .bool false) rfl (by kernel_rfl) (by kernel_rfl) (by kernel_rfl) (fun _ _ _ h => h) (Or.inl ⟨by rfl, (by intro w hSw; (try dsimp only at hSw); go_simp <;> with_reducible rfl)⟩) (by assumption) ?_
  (try simp only [Act.put, List.getElem_toArray, List.getElem_cons_succ, List.getElem_cons_zero, List.setIfInBounds_toArray, List.set_cons_zero, List.set_cons_succ])
  refine wpAnyH_take (i := 19) (v := .bool false) rfl (by kernel_rfl) (by kernel_rfl) (by kernel_rfl) (fun _ _ _ h => h) (Or.inl ⟨by rfl, (by intro w hSw; (try dsimp only at hSw); go_simp <;> with_reducible rfl)⟩) (by assumption) ?_
  (try simp only [Act.put, List.getElem_toArray, List.getElem_cons_succ, List.getElem_cons_zero, List.setIfInBounds_toArray, List.set_cons_zero, List.set_cons_succ])
  refine wpAnyH_take (i := 20) (v := .bool false) rfl (by kernel_rfl) (by kernel_rfl) (by kernel_rfl) (fun _ _ _ h => h) (Or.inl ⟨by rfl, (by intro w hSw; (try dsimp only at hSw); go_simp <;> with_reducible rfl)⟩) (by assumption) ?_
  (try simp only [Act.put, List.getElem_toArray, List.getElem_cons_succ, List.getElem_cons_zero, List.setIfInBounds_toArray, List.set_cons_zero, List.set_cons_succ])
  refine wpAnyH_take (i := 21) (v := undef) rfl (by kernel_rfl) (by kernel_rfl) (by kernel_rfl) (fun _ _ _ h => h) (Or.inr ⟨by rfl, rfl⟩) (by assumption) ?_
  (try simp only [Act.put, List.getElem_toArray, List.getElem_cons_succ, List.getElem_cons_zero, List.setIfInBounds_toArray, List.set_cons_zero, List.set_cons_succ])
  refine wpAnyH_take (i := 22) (v := undef) rfl (by kernel_rfl) (by kernel_rfl) (by kernel_rfl) (fun _ _ _ h => h) (Or.inr ⟨by rfl, rfl⟩) (by assumption) ?_
  (try simp only [Act.put, List.getElem_toArray, List.getElem_cons_succ, List.getElem_cons_zero, List.setIfInBounds_toArray, List.set_cons_zero, List.set_cons_succ])
  refine wpAnyH_take (i := 23) (v := undef) rfl (by kernel_rfl) (by kernel_rfl) (by kernel_rfl) (fun _ _ _ h => h) (Or.inr ⟨by rfl, rfl⟩) (by assumption) ?_
  (try simp only [Act.put, List.getElem_toArray, List.getElem_cons_succ, List.getElem_cons_zero, List.setIfInBounds_toArray, List.set_cons_zero, List.set_cons_succ])
  refine wpAnyH_take (i := 24) (v := undef) rfl (by kernel_rfl) (by kernel_rfl) (by kernel_rfl) (fun _ _ _ h => h) (Or.inr ⟨by rfl, rfl⟩) (by assumption) ?_
  (try simp only [Act.put, List.getElem_toArray, List.getElem_cons_succ, List.getElem_cons_zero, List.setIfInBounds_toArray, List.set_cons_zero, List.set_cons_succ])
  refine wpAnyH_take (i := 25) (v := .bool false) rfl (by kernel_rfl) (by kernel_rfl) (by kernel_rfl) (fun _ _ _ h => h) (Or.inl ⟨by rfl, (by intro w hSw; (try dsimp only at hSw); go_simp <;> with_reducible rfl)⟩) (by assumption) ?_
  (try simp only [Act.put, List.getElem_toArray, List.getElem_cons_succ, List.getElem_cons_zero, List.setIfInBounds_toArray, List.set_cons_zero, List.set_cons_succ])
  refine wpAnyH_take (i := 26) (v := .bool false) rfl (by kernel_rfl) (by kernel_rfl) (by kernel_rfl) (fun _ _ _ h => h) (Or.inl ⟨by rfl, (by intro w hSw; (try dsimp only at hSw); go_simp <;> with_reducible rfl)⟩) (by assumption) ?_
  (try simp only [Act.put, List.getElem_toArray, List.getElem_cons_succ, List.getElem_cons_zero, List.setIfInBounds_toArray, List.set_cons_zero, List.set_cons_succ])
  refine wpAnyH_take (i := 27) (v := .bool false) rfl (by kernel_rfl) (by kernel_rfl) (by kernel_rfl) (fun _ _ _ h => h) (Or.inl ⟨by rfl, (by intro w hSw; (try dsimp only at hSw); go_simp <;> with_reducible rfl)⟩) (by assumption) ?_
  (try simp only [Act.put, List.getElem_toArray, List.getElem_cons_succ, List.getElem_cons_zero, List.setIfInBounds_toArray, List.set_cons_zero, List.set_cons_succ])
  refine wpAnyH_take (i := 28) (v := .agg #[.int .i64 (sg a), .slice Av2 nv2 cv2]) rfl (by kernel_rfl) (by kernel_rfl) (by kernel_rfl) (fun _ _ _ h => h) (Or.inl ⟨by rfl, (by intro w hSw; (try dsimp only at hSw); go_simp <;> with_reducible rfl)⟩) (by assumption) ?_
  (try simp only [Act.put, List.getElem_toArray, List.getElem_cons_succ, List.getElem_cons_zero, List.setIfInBounds_toArray, List.set_cons_zero, List.set_cons_succ])
  refine wpAnyH_take (i := 30) (v := .agg #[.int .i64 (sg b), .slice Av3 nv3 cv3]) rfl (by kernel_rfl) (by kernel_rfl) (by kernel_rfl) (fun _ _ _ h => h) (Or.inl ⟨by rfl, (by intro w hSw; (try dsimp only at hSw); go_simp <;> with_reducible rfl)⟩) (by assumption) ?_
  (try simp only [Act.put, List.getElem_toArray, List.getElem_cons_succ, List.getElem_cons_zero, List.setIfInBounds_toArray, List.set_cons_zero, List.set_cons_succ])
  refine wpAnyH_take (i := 33) (v := .int .i64 a) rfl (by kernel_rfl) (by kernel_rfl) (by kernel_rfl) (fun _ _ _ h => h) (Or.inl ⟨by rfl, (by intro w hSw; (try dsimp only at hSw); go_simp <;> with_reducible rfl)⟩) (by assumption) ?_
  (try simp only [Act.put, List.getElem_toArray, List.getElem_cons_succ, List.getElem_cons_zero, List.setIfInBounds_toArray, List.set_cons_zero, List.set_cons_succ])
  refine wpAnyH_take (i := 34) (v := .int .i64 b) rfl (by kernel_rfl) (by kernel_rfl) (by kernel_rfl) (fun _ _ _ h => h) (Or.inl ⟨by rfl, (by intro w hSw; (try dsimp only at hSw); go_simp <;> with_reducible rfl)⟩) (by assumption) ?_
  (try simp only [Act.put, List.getElem_toArray, List.getElem_cons_succ, List.getElem_cons_zero, List.setIfInBounds_toArray, List.set_cons_zero, List.set_cons_succ])
  refine wpAnyH_take (i := 35) (v := .bool (a == b)) rfl (by kernel_rfl) (by kernel_rfl) (by kernel_rfl) (fun _ _ _ h => h) (Or.inl ⟨by rfl, (by intro w hSw; (try dsimp only at hSw); go_simp <;> with_reducible rfl)⟩) (by assumption) ?_
  (try simp only [Act.put, List.getElem_toArray, List.getElem_cons_succ, List.getElem_cons_zero, List.setIfInBounds_toArray, List.set_cons_zero, List.set_cons_succ])
  refine wpAnyH_ready (rs := [29]) (by kernel_rfl) (by simp) ?_
  refine AllReadyH.cons rfl (fun K hK => ?_) AllReadyH.nil
  rw [if_pos (by rfl)]
  (try simp only [Act.put, List.getElem_toArray, List.getElem_cons_succ, List.getElem_cons_zero, List.setIfInBounds_toArray, List.set_cons_zero, List.set_cons_succ])
  go_simp
  go_at_call 23
  refine (text_all _ (HT0.out.keep hH1.1) (HXx.out.keep hH1.1)).mono ?_
  rintro e w29 ⟨rfl, hb29⟩
  refine hK.out _ _ ⟨Gen.over hb29 hH1.1, Gen.keep hb29 hH1.2.1, Gen.keep hb29 hH1.2.2.1, Gen.keep hb29 hH1.2.2.2.1, Gen.keep hb29 hH1.2.2.2.2⟩ (fun hH2 => ?_)
  clear hK K
  (try simp only [Act.put, List.getElem_toArray, List.getElem_cons_succ, List.getElem_cons_zero, List.setIfInBounds_toArray, List.set_cons_zero, List.set_cons_succ])
  refine wpAnyH_ready (rs := [31]) (by kernel_rfl) (by simp) ?_
  refine AllReadyH.cons rfl (fun K hK => ?_) AllReadyH.nil
  rw [if_pos (by rfl)]
  (try simp only [Act.put, List.getElem_toArray, List.getElem_cons_succ, List.getElem_cons_zero, List.setIfInBounds_toArray, List.set_cons_zero, List.set_cons_succ])
  go_simp
  go_at_call 23
  refine (text_all _ (HT0.out.keep hH2.1) (HXy.out.keep hH2.1)).mono ?_
  rintro e w31 ⟨rfl, hb31⟩
  refine hK.out _ _ ⟨Gen.over hb31 hH2.1, Gen.keep hb31 hH2.2.1, Gen.keep hb31 hH2.2.2.1, Gen.keep hb31 hH2.2.2.2.1, Gen.keep hb31 hH2.2.2.2.2⟩ (fun hS5 => ?_)
  clear hK K
  (try simp only [Act.put, List.getElem_toArray, List.getElem_cons_succ, List.getElem_cons_zero, List.setIfInBounds_toArray, List.set_cons_zero, List.set_cons_succ])
  refine wpAnyH_take (i := 32) (v := .bool (a == b)) rfl (by kernel_rfl) (by kernel_rfl) (by kernel_rfl) (fun _ _ _ h => h) (Or.inl ⟨by rfl, (by intro w hSw; (try dsimp only at hSw); go_simp <;> with_reducible rfl)⟩) (by assumption) ?_
  (try simp only [Act.put, List.getElem_toArray, List.getElem_cons_succ, List.getElem_cons_zero, List.setIfInBounds_toArray, List.set_cons_zero, List.set_cons_succ])
  refine wpAnyH_take (i := 36) (v := .bool false) rfl (by kernel_rfl) (by kernel_rfl) (by kernel_rfl) (fun _ _ _ h => h) (Or.inl ⟨by rfl, (by intro w hSw; (try dsimp only at hSw); go_simp <;> with_reducible rfl)⟩) (by assumption) ?_
  (try simp only [Act.put, List.getElem_toArray, List.getElem_cons_succ, List.getElem_cons_zero, List.setIfInBounds_toArray, List.set_cons_zero, List.set_cons_succ])
  refine wpAnyH_take (i := 37) (v := .bool false) rfl (by kernel_rfl) (by kernel_rfl) (by kernel_rfl) (fun _ _ _ h => h) (Or.inl ⟨by rfl, (by intro w hSw; (try dsimp only at hSw); go_simp <;> with_reducible rfl)⟩) (by assumption) ?_
  (try simp only [Act.put, List.getElem_toArray, List.getElem_cons_succ, List.getElem_cons_zero, List.setIfInBounds_toArray, List.set_cons_zero, List.set_cons_succ])
  refine wpAnyH_done (by kernel_rfl) ?_ _
  refine NoPanic.normal ?_
  all_goals
    obtain ⟨Wy, hWy⟩ : ∃ W, W = w31 := ⟨_, rfl⟩
    rw [← hWy] at hS5 ⊢
    replace HB := Lib.hid (Gen.over hS5.1 HB.out)
    replace HV := Lib.hid (HV.out.keep hS5.1)
    clear hWy hS5 HS0 HXx HXy HT0 HT hmn hq
    rcases Int.lt_trichotomy a b with hab | hab | hab
    · have HC : Hid (cmpI a b = -1) := Lib.hid (cmpI_lt hab)
      have u1 : a < b := hab
      have u2 : ¬ b < a := by omega
      clear hab
      have d3 := HV.out.c0 (.tail _ (.head _))
      have f3 := HV.out.c1 (.tail _ (.head _))
      have d4 := HV.out.c0 (.head _)
      have f4 := HV.out.c1 (.head _)
      go_wp2_with (fail)
      go_must (refine (add_fit _ (HV.out.big (.tail _ (.head _))) (HV.out.big (.head _)) ((ZA.out.add ZB.out (n := 5) (by omega)).fit)).mono ?_)
      rintro e W7 ⟨v7, rfl, hv7, hb7⟩
      replace HV := Lib.hid (HV.out.keep hb7)
      replace HB := Lib.hid (Gen.over hb7 HB.out)
      obtain ⟨Av7, cv7, lv7, rfl, _⟩ := hv7.ex
      obtain ⟨nv7, hnv7⟩ : ∃ n, lv7.length = n := ⟨_, rfl⟩
      rw [hnv7] at hv7 ⊢
      have Hv7 := Lib.hid hv7
      clear hnv7 hv7
      clear hb7
      clear d3 f3 d4 f4
      replace HV := Lib.hid (HV.out.ad Hv7.out)
      replace HB := Lib.hid (below_ad HB.out Hv7.out)
      clear u1 u2
      have d5 := HV.out.c0 (.tail _ (.tail _ (.head _)))
      have f5 := HV.out.c1 (.tail _ (.tail _ (.head _)))
      have d6 := HV.out.c0 (.tail _ (.head _))
      have f6 := HV.out.c1 (.tail _ (.head _))
      go_wp2_with (fail)
      go_must (refine (sub_fit _ (HV.out.big (.tail _ (.tail _ (.head _)))) (HV.out.big (.tail _ (.head _))) ((ZA.out.sub ZB.out (n := 5) (by omega)).fit)).mono ?_)
      rintro e W8 ⟨v8, rfl, hv8, hb8⟩
      replace HV := Lib.hid (HV.out.keep hb8)
      replace HB := Lib.hid (Gen.over hb8 HB.out)
      obtain ⟨Av8, cv8, lv8, rfl, _⟩ := hv8.ex
      obtain ⟨nv8, hnv8⟩ : ∃ n, lv8.length = n := ⟨_, rfl⟩
      rw [hnv8] at hv8 ⊢
      have Hv8 := Lib.hid hv8
      clear hnv8 hv8
      clear hb8
      clear d5 f5 d6 f6
      replace HV := Lib.hid (HV.out.ad Hv8.out)
      replace HB := Lib.hid (below_ad HB.out Hv8.out)
      have d7 := HV.out.c0 (.tail _ (.tail _ (.tail _ (.head _))))
      have f7 := HV.out.c1 (.tail _ (.tail _ (.tail _ (.head _))))
      have d8 := HV.out.c0 (.tail _ (.tail _ (.head _)))
      have f8 := HV.out.c1 (.tail _ (.tail _ (.head _)))
      go_wp2_with (fail)
      go_must (refine (mul_fit _ (HV.out.big (.tail _ (.tail _ (.tail _ (.head _))))) (HV.out.big (.tail _ (.tail _ (.head _)))) ((ZA.out.mul ZB.out).fit)).mono ?_)
      rintro e W9 ⟨v9, rfl, hv9, hb9⟩
      replace HV := Lib.hid (HV.out.keep hb9)
      replace HB := Lib.hid (Gen.over hb9 HB.out)
      obtain ⟨Av9, cv9, lv9, rfl, _⟩ := hv9.ex
      obtain ⟨nv9, hnv9⟩ : ∃ n, lv9.length = n := ⟨_, rfl⟩
      rw [hnv9] at hv9 ⊢
      have Hv9 := Lib.hid hv9
      clear hnv9 hv9
      clear hb9
      clear d7 f7 d8 f8
      replace HV := Lib.hid (HV.out.ad Hv9.out)
      replace HB := Lib.hid (below_ad HB.out Hv9.out)
      have d9 := HV.out.c0 (.tail _ (.tail _ (.tail _ (.tail _ (.head _)))))
      have f9 := HV.out.c1 (.tail _ (.tail _ (.tail _ (.tail _ (.head _)))))
      have d10 := HV.out.c0 (.tail _ (.tail _ (.tail _ (.head _))))
      have f10 := HV.out.c1 (.tail _ (.tail _ (.tail _ (.head _))))
      go_wp2_with (fail)
      go_must (refine (cmp_to _ (HV.out.big (.tail _ (.tail _ (.tail _ (.tail _ (.head _)))))) (HV.out.big (.tail _ (.tail _ (.tail _ (.head _))))) HC.out).mono ?_)
      rintro e W10 ⟨rfl, hb10⟩
      replace HV := Lib.hid (HV.out.keep hb10)
      replace HB := Lib.hid (Gen.over hb10 HB.out)
      clear hb10
      clear d9 f9 d10 f10
      by_cases hh : ((-1073741824 < a ∧ a < 1073741824) ∧ -1073741824 < b ∧ b < 1073741824)
      · obtain ⟨⟨h1, h2⟩, h3, h4⟩ := hh
        have w1 : IntKind.i64.wrap (a + b) = a + b := IntWalk.i64_in _ (by omega)
        have w2 : IntKind.i64.wrap (a - b) = a - b := IntWalk.i64_in _ (by omega)
        have hab := half_mul h1 h2 h3 h4
        have w3 : IntKind.i64.wrap (a * b) = a * b := IntWalk.i64_in _ (by omega)
        have I1 : Hid (I64 (a + b)) := Lib.hid (by unfold I64; omega)
        have I2 : Hid (I64 (a - b)) := Lib.hid (by unfold I64; omega)
        have I3 : Hid (I64 (a * b)) := Lib.hid (by unfold I64; omega)
        clear hab
        have d11 := HV.out.c0 (.tail _ (.tail _ (.head _)))
        have f11 := HV.out.c1 (.tail _ (.tail _ (.head _)))
        go_wp2_with (fail)
        go_must (refine (int_yes _ (HV.out.big (.tail _ (.tail _ (.head _)))) I1.out).mono ?_)
        rintro e W11 ⟨rfl, hb11⟩
        replace HV := Lib.hid (HV.out.keep hb11)
        replace HB := Lib.hid (Gen.over hb11 HB.out)
        clear hb11
        clear d11 f11
        have d12 := HV.out.c0 (.tail _ (.head _))
        have f12 := HV.out.c1 (.tail _ (.head _))
        go_wp2_with (fail)
        go_must (refine (int_yes _ (HV.out.big (.tail _ (.head _))) I2.out).mono ?_)
        rintro e W12 ⟨rfl, hb12⟩
        replace HV := Lib.hid (HV.out.keep hb12)
        replace HB := Lib.hid (Gen.over hb12 HB.out)
        clear hb12
        clear d12 f12
        have d13 := HV.out.c0 (.head _)
        have f13 := HV.out.c1 (.head _)
        go_wp2_with (fail)
        go_must (refine (int_yes _ (HV.out.big (.head _)) I3.out).mono ?_)
        rintro e W13 ⟨rfl, hb13⟩
        replace HV := Lib.hid (HV.out.keep hb13)
        replace HB := Lib.hid (Gen.over hb13 HB.out)
        clear hb13
        clear d13 f13
        go_wp2
        go_ret
        exact ⟨rfl, HB.out⟩
      · have hh2 : a ≤ -1073741824 ∨ (-1073741824 < a ∧ 1073741824 ≤ a) ∨ (-1073741824 < a ∧ a < 1073741824 ∧ b ≤ -1073741824) ∨ (-1073741824 < a ∧ a < 1073741824 ∧ -1073741824 < b ∧ 1073741824 ≤ b) := by omega
        clear hh
        rcases hh2 with h | ⟨h, h1⟩ | ⟨h, h1, h2⟩ | ⟨h, h1, h2, h3⟩
        all_goals
          go_wp2
          go_ret
          exact ⟨rfl, HB.out⟩
    · have HC : Hid (cmpI a b = 0) := Lib.hid (cmpI_eq hab)
      have u1 : ¬ a < b := by omega
      have u2 : ¬ b < a := by omega
      clear hab
      have d3 := HV.out.c0 (.tail _ (.head _))
      have f3 := HV.out.c1 (.tail _ (.head _))
      have d4 := HV.out.c0 (.head _)
      have f4 := HV.out.c1 (.head _)
      go_wp2_with (fail)
      go_must (refine (add_fit _ (HV.out.big (.tail _ (.head _))) (HV.out.big (.head _)) ((ZA.out.add ZB.out (n := 5) (by omega)).fit)).mono ?_)
      rintro e W7 ⟨v7, rfl, hv7, hb7⟩
      replace HV := Lib.hid (HV.out.keep hb7)
      replace HB := Lib.hid (Gen.over hb7 HB.out)
      obtain ⟨Av7, cv7, lv7, rfl, _⟩ := hv7.ex
      obtain ⟨nv7, hnv7⟩ : ∃ n, lv7.length = n := ⟨_, rfl⟩
      rw [hnv7] at hv7 ⊢
      have Hv7 := Lib.hid hv7
      clear hnv7 hv7
      clear hb7
      clear d3 f3 d4 f4
      replace HV := Lib.hid (HV.out.ad Hv7.out)
      replace HB := Lib.hid (below_ad HB.out Hv7.out)
      clear u1 u2
      have d5 := HV.out.c0 (.tail _ (.tail _ (.head _)))
      have f5 := HV.out.c1 (.tail _ (.tail _ (.head _)))
      have d6 := HV.out.c0 (.tail _ (.head _))
      have f6 := HV.out.c1 (.tail _ (.head _))
      go_wp2_with (fail)
      go_must (refine (sub_fit _ (HV.out.big (.tail _ (.tail _ (.head _)))) (HV.out.big (.tail _ (.head _))) ((ZA.out.sub ZB.out (n := 5) (by omega)).fit)).mono ?_)
      rintro e W8 ⟨v8, rfl, hv8, hb8⟩
      replace HV := Lib.hid (HV.out.keep hb8)
      replace HB := Lib.hid (Gen.over hb8 HB.out)
      obtain ⟨Av8, cv8, lv8, rfl, _⟩ := hv8.ex
      obtain ⟨nv8, hnv8⟩ : ∃ n, lv8.length = n := ⟨_, rfl⟩
      rw [hnv8] at hv8 ⊢
      have Hv8 := Lib.hid hv8
      clear hnv8 hv8
      clear hb8
      clear d5 f5 d6 f6
      replace HV := Lib.hid (HV.out.ad Hv8.out)
      replace HB := Lib.hid (below_ad HB.out Hv8.out)
      have d7 := HV.out.c0 (.tail _ (.tail _ (.tail _ (.head _))))
      have f7 := HV.out.c1 (.tail _ (.tail _ (.tail _ (.head _))))
      have d8 := HV.out.c0 (.tail _ (.tail _ (.head _)))
      have f8 := HV.out.c1 (.tail _ (.tail _ (.head _)))
      go_wp2_with (fail)
      go_must (refine (mul_fit _ (HV.out.big (.tail _ (.tail _ (.tail _ (.head _))))) (HV.out.big (.tail _ (.tail _ (.head _)))) ((ZA.out.mul ZB.out).fit)).mono ?_)
      rintro e W9 ⟨v9, rfl, hv9, hb9⟩
      replace HV := Lib.hid (HV.out.keep hb9)
      replace HB := Lib.hid (Gen.over hb9 HB.out)
      obtain ⟨Av9, cv9, lv9, rfl, _⟩ := hv9.ex
      obtain ⟨nv9, hnv9⟩ : ∃ n, lv9.length = n := ⟨_, rfl⟩
      rw [hnv9] at hv9 ⊢
      have Hv9 := Lib.hid hv9
      clear hnv9 hv9
      clear hb9
      clear d7 f7 d8 f8
      replace HV := Lib.hid (HV.out.ad Hv9.out)
      replace HB := Lib.hid (below_ad HB.out Hv9.out)
      have d9 := HV.out.c0 (.tail _ (.tail _ (.tail _ (.tail _ (.head _)))))
      have f9 := HV.out.c1 (.tail _ (.tail _ (.tail _ (.tail _ (.head _)))))
      have d10 := HV.out.c0 (.tail _ (.tail _ (.tail _ (.head _))))
      have f10 := HV.out.c1 (.tail _ (.tail _ (.tail _ (.head _))))
      go_wp2_with (fail)
      go_must (refine (cmp_to _ (HV.out.big (.tail _ (.tail _ (.tail _ (.tail _ (.head _)))))) (HV.out.big (.tail _ (.tail _ (.tail _ (.head _))))) HC.out).mono ?_)
      rintro e W10 ⟨rfl, hb10⟩
      replace HV := Lib.hid (HV.out.keep hb10)
      replace HB := Lib.hid (Gen.over hb10 HB.out)
      clear hb10
      clear d9 f9 d10 f10
      by_cases hh : ((-1073741824 < a ∧ a < 1073741824) ∧ -1073741824 < b ∧ b < 1073741824)
      · obtain ⟨⟨h1, h2⟩, h3, h4⟩ := hh
        have w1 : IntKind.i64.wrap (a + b) = a + b := IntWalk.i64_in _ (by omega)
        have w2 : IntKind.i64.wrap (a - b) = a - b := IntWalk.i64_in _ (by omega)
        have hab := half_mul h1 h2 h3 h4
        have w3 : IntKind.i64.wrap (a * b) = a * b := IntWalk.i64_in _ (by omega)
        have I1 : Hid (I64 (a + b)) := Lib.hid (by unfold I64; omega)
        have I2 : Hid (I64 (a - b)) := Lib.hid (by unfold I64; omega)
        have I3 : Hid (I64 (a * b)) := Lib.hid (by unfold I64; omega)
        clear hab
        have d11 := HV.out.c0 (.tail _ (.tail _ (.head _)))
        have f11 := HV.out.c1 (.tail _ (.tail _ (.head _)))
        go_wp2_with (fail)
        go_must (refine (int_yes _ (HV.out.big (.tail _ (.tail _ (.head _)))) I1.out).mono ?_)
        rintro e W11 ⟨rfl, hb11⟩
        replace HV := Lib.hid (HV.out.keep hb11)
        replace HB := Lib.hid (Gen.over hb11 HB.out)
        clear hb11
        clear d11 f11
        have d12 := HV.out.c0 (.tail _ (.head _))
        have f12 := HV.out.c1 (.tail _ (.head _))
        go_wp2_with (fail)
        go_must (refine (int_yes _ (HV.out.big (.tail _ (.head _))) I2.out).mono ?_)
        rintro e W12 ⟨rfl, hb12⟩
        replace HV := Lib.hid (HV.out.keep hb12)
        replace HB := Lib.hid (Gen.over hb12 HB.out)
        clear hb12
        clear d12 f12
        have d13 := HV.out.c0 (.head _)
        have f13 := HV.out.c1 (.head _)
        go_wp2_with (fail)
        go_must (refine (int_yes _ (HV.out.big (.head _)) I3.out).mono ?_)
        rintro e W13 ⟨rfl, hb13⟩
        replace HV := Lib.hid (HV.out.keep hb13)
        replace HB := Lib.hid (Gen.over hb13 HB.out)
        clear hb13
        clear d13 f13
        go_wp2
        go_ret
        exact ⟨rfl, HB.out⟩
      · have hh2 : a ≤ -1073741824 ∨ (-1073741824 < a ∧ 1073741824 ≤ a) ∨ (-1073741824 < a ∧ a < 1073741824 ∧ b ≤ -1073741824) ∨ (-1073741824 < a ∧ a < 1073741824 ∧ -1073741824 < b ∧ 1073741824 ≤ b) := by omega
        clear hh
        rcases hh2 with h | ⟨h, h1⟩ | ⟨h, h1, h2⟩ | ⟨h, h1, h2, h3⟩
        all_goals
          go_wp2
          go_ret
          exact ⟨rfl, HB.out⟩
    · have HC : Hid (cmpI a b = 1) := Lib.hid (cmpI_gt hab)
      have u1 : ¬ a < b := by omega
      have u2 : b < a := hab
      clear hab
      have d3 := HV.out.c0 (.tail _ (.head _))
      have f3 := HV.out.c1 (.tail _ (.head _))
      have d4 := HV.out.c0 (.head _)
      have f4 := HV.out.c1 (.head _)
      go_wp2_with (fail)
      go_must (refine (add_fit _ (HV.out.big (.tail _ (.head _))) (HV.out.big (.head _)) ((ZA.out.add ZB.out (n := 5) (by omega)).fit)).mono ?_)
      rintro e W7 ⟨v7, rfl, hv7, hb7⟩
      replace HV := Lib.hid (HV.out.keep hb7)
      replace HB := Lib.hid (Gen.over hb7 HB.out)
      obtain ⟨Av7, cv7, lv7, rfl, _⟩ := hv7.ex
      obtain ⟨nv7, hnv7⟩ : ∃ n, lv7.length = n := ⟨_, rfl⟩
      rw [hnv7] at hv7 ⊢
      have Hv7 := Lib.hid hv7
      clear hnv7 hv7
      clear hb7
      clear d3 f3 d4 f4
      replace HV := Lib.hid (HV.out.ad Hv7.out)
      replace HB := Lib.hid (below_ad HB.out Hv7.out)
      clear u1 u2
      have d5 := HV.out.c0 (.tail _ (.tail _ (.head _)))
      have f5 := HV.out.c1 (.tail _ (.tail _ (.head _)))
      have d6 := HV.out.c0 (.tail _ (.head _))
      have f6 := HV.out.c1 (.tail _ (.head _))
      go_wp2_with (fail)
      go_must (refine (sub_fit _ (HV.out.big (.tail _ (.tail _ (.head _)))) (HV.out.big (.tail _ (.head _))) ((ZA.out.sub ZB.out (n := 5) (by omega)).fit)).mono ?_)
      rintro e W8 ⟨v8, rfl, hv8, hb8⟩
      replace HV := Lib.hid (HV.out.keep hb8)
      replace HB := Lib.hid (Gen.over hb8 HB.out)
      obtain ⟨Av8, cv8, lv8, rfl, _⟩ := hv8.ex
      obtain ⟨nv8, hnv8⟩ : ∃ n, lv8.length = n := ⟨_, rfl⟩
      rw [hnv8] at hv8 ⊢
      have Hv8 := Lib.hid hv8
      clear hnv8 hv8
      clear hb8
      clear d5 f5 d6 f6
      replace HV := Lib.hid (HV.out.ad Hv8.out)
      replace HB := Lib.hid (below_ad HB.out Hv8.out)
      have d7 := HV.out.c0 (.tail _ (.tail _ (.tail _ (.head _))))
      have f7 := HV.out.c1 (.tail _ (.tail _ (.tail _ (.head _))))
      have d8 := HV.out.c0 (.tail _ (.tail _ (.head _)))
      have f8 := HV.out.c1 (.tail _ (.tail _ (.head _)))
      go_wp2_with (fail)
      go_must (refine (mul_fit _ (HV.out.big (.tail _ (.tail _ (.tail _ (.head _))))) (HV.out.big (.tail _ (.tail _ (.head _)))) ((ZA.out.mul ZB.out).fit)).mono ?_)
      rintro e W9 ⟨v9, rfl, hv9, hb9⟩
      replace HV := Lib.hid (HV.out.keep hb9)
      replace HB := Lib.hid (Gen.over hb9 HB.out)
      obtain ⟨Av9, cv9, lv9, rfl, _⟩ := hv9.ex
      obtain ⟨nv9, hnv9⟩ : ∃ n, lv9.length = n := ⟨_, rfl⟩
      rw [hnv9] at hv9 ⊢
      have Hv9 := Lib.hid hv9
      clear hnv9 hv9
      clear hb9
      clear d7 f7 d8 f8
      replace HV := Lib.hid (HV.out.ad Hv9.out)
      replace HB := Lib.hid (below_ad HB.out Hv9.out)
      have d9 := HV.out.c0 (.tail _ (.tail _ (.tail _ (.tail _ (.head _)))))
      have f9 := HV.out.c1 (.tail _ (.tail _ (.tail _ (.tail _ (.head _)))))
      have d10 := HV.out.c0 (.tail _ (.tail _ (.tail _ (.head _))))
      have f10 := HV.out.c1 (.tail _ (.tail _ (.tail _ (.head _))))
      go_wp2_with (fail)
      go_must (refine (cmp_to _ (HV.out.big (.tail _ (.tail _ (.tail _ (.tail _ (.head _)))))) (HV.out.big (.tail _ (.tail _ (.tail _ (.head _))))) HC.out).mono ?_)
      rintro e W10 ⟨rfl, hb10⟩
      replace HV := Lib.hid (HV.out.keep hb10)
      replace HB := Lib.hid (Gen.over hb10 HB.out)
      clear hb10
      clear d9 f9 d10 f10
      by_cases hh : ((-1073741824 < a ∧ a < 1073741824) ∧ -1073741824 < b ∧ b < 1073741824)
      · obtain ⟨⟨h1, h2⟩, h3, h4⟩ := hh
        have w1 : IntKind.i64.wrap (a + b) = a + b := IntWalk.i64_in _ (by omega)
        have w2 : IntKind.i64.wrap (a - b) = a - b := IntWalk.i64_in _ (by omega)
        have hab := half_mul h1 h2 h3 h4
        have w3 : IntKind.i64.wrap (a * b) = a * b := IntWalk.i64_in _ (by omega)
        have I1 : Hid (I64 (a + b)) := Lib.hid (by unfold I64; omega)
        have I2 : Hid (I64 (a - b)) := Lib.hid (by unfold I64; omega)
        have I3 : Hid (I64 (a * b)) := Lib.hid (by unfold I64; omega)
        clear hab
        have d11 := HV.out.c0 (.tail _ (.tail _ (.head _)))
        have f11 := HV.out.c1 (.tail _ (.tail _ (.head _)))
        go_wp2_with (fail)
        go_must (refine (int_yes _ (HV.out.big (.tail _ (.tail _ (.head _)))) I1.out).mono ?_)
        rintro e W11 ⟨rfl, hb11⟩
        replace HV := Lib.hid (HV.out.keep hb11)
        replace HB := Lib.hid (Gen.over hb11 HB.out)
        clear hb11
        clear d11 f11
        have d12 := HV.out.c0 (.tail _ (.head _))
        have f12 := HV.out.c1 (.tail _ (.head _))
        go_wp2_with (fail)
        go_must (refine (int_yes _ (HV.out.big (.tail _ (.head _))) I2.out).mono ?_)
        rintro e W12 ⟨rfl, hb12⟩
        replace HV := Lib.hid (HV.out.keep hb12)
        replace HB := Lib.hid (Gen.over hb12 HB.out)
        clear hb12
        clear d12 f12
        have d13 := HV.out.c0 (.head _)
        have f13 := HV.out.c1 (.head _)
        go_wp2_with (fail)
        go_must (refine (int_yes _ (HV.out.big (.head _)) I3.out).mono ?_)
        rintro e W13 ⟨rfl, hb13⟩
        replace HV := Lib.hid (HV.out.keep hb13)
        replace HB := Lib.hid (Gen.over hb13 HB.out)
        clear hb13
        clear d13 f13
        go_wp2
        go_ret
        exact ⟨rfl, HB.out⟩
      · have hh2 : a ≤ -1073741824 ∨ (-1073741824 < a ∧ 1073741824 ≤ a) ∨ (-1073741824 < a ∧ a < 1073741824 ∧ b ≤ -1073741824) ∨ (-1073741824 < a ∧ a < 1073741824 ∧ -1073741824 < b ∧ 1073741824 ≤ b) := by omega
        clear hh
        rcases hh2 with h | ⟨h, h1⟩ | ⟨h, h1, h2⟩ | ⟨h, h1, h2, h3⟩
        all_goals
          go_wp2
          go_ret
          exact ⟨rfl, HB.out⟩
set_option maxRecDepth 100000 in
set_option maxHeartbeats 16000000 in
theorem ints_oth (a b : Int) (w : World) (hT : PowTab w) (ha : I64 a) (hb : I64 b) (hmin : a ≠ -9223372036854775808) :
    Calls Tryd.prog 7 #[.int .i64 a, .int .i64 b] w fun e w' => e = .returned (.bool true) ∧ Below w.heap.size w w' := by
  have HT := Lib.hid hT
  have HA := Lib.hid ha
  have HB1 := Lib.hid hb
  have ZA := Lib.hid (i64_sz ha)
  have ZB := Lib.hid (i64_sz hb)
  have HV := Lib.hid (Vs.nil w)
  have HB := Lib.hid (Below.refl w.heap.size w)
  have ha' := ha
  unfold I64 at ha'
  have hmn : (a != -9223372036854775808) = true := by simp [hmin]
  have HM : Hid (I64 (-a)) := Lib.hid (by unfold I64; omega)
  have hwn : IntKind.i64.wrap (-a) = -a := IntWalk.i64_in _ (by omega)
  have hq := txt_beq a b
  clear hT ha hb hmin ha'
  go_enter Tryd.func7, Tryd.ntmps7
  go_wp2_with (fail)
  go_must (refine (small_yes _ HT.out).mono ?_)
  rintro e W1 ⟨rfl, hb1⟩
  replace HV := Lib.hid (HV.out.keep hb1)
  replace HB := Lib.hid (Gen.over hb1 HB.out)
  clear hb1
  go_wp2_with (fail)
  go_must (refine (of_val a _ HA.out).mono ?_)
  rintro e W2 ⟨v2, rfl, hv2, hb2⟩
  replace HV := Lib.hid (HV.out.keep hb2)
  replace HB := Lib.hid (Gen.over hb2 HB.out)
  obtain ⟨Av2, cv2, lv2, rfl, _⟩ := hv2.ex
  obtain ⟨nv2, hnv2⟩ : ∃ n, lv2.length = n := ⟨_, rfl⟩
  rw [hnv2] at hv2 ⊢
  have Hv2 := Lib.hid hv2
  clear hnv2 hv2
  clear hb2
  replace HV := Lib.hid (HV.out.ad Hv2.out)
  replace HB := Lib.hid (below_ad HB.out Hv2.out)
  go_wp2_with (fail)
  go_must (refine (of_val b _ HB1.out).mono ?_)
  rintro e W3 ⟨v3, rfl, hv3, hb3⟩
  replace HV := Lib.hid (HV.out.keep hb3)
  replace HB := Lib.hid (Gen.over hb3 HB.out)
  obtain ⟨Av3, cv3, lv3, rfl, _⟩ := hv3.ex
  obtain ⟨nv3, hnv3⟩ : ∃ n, lv3.length = n := ⟨_, rfl⟩
  rw [hnv3] at hv3 ⊢
  have Hv3 := Lib.hid hv3
  clear hnv3 hv3
  clear hb3
  replace HV := Lib.hid (HV.out.ad Hv3.out)
  replace HB := Lib.hid (below_ad HB.out Hv3.out)
  have d1 := HV.out.c0 (.tail _ (.head _))
  have f1 := HV.out.c1 (.tail _ (.head _))
  go_wp2_with (fail)
  go_must (refine (int_yes _ (HV.out.big (.tail _ (.head _))) HA.out).mono ?_)
  rintro e W4 ⟨rfl, hb4⟩
  replace HV := Lib.hid (HV.out.keep hb4)
  replace HB := Lib.hid (Gen.over hb4 HB.out)
  clear hb4
  clear d1 f1
  have d2 := HV.out.c0 (.tail _ (.head _))
  have f2 := HV.out.c1 (.tail _ (.head _))
  go_wp2_with (fail)
  go_must (refine (neg_val _ (HV.out.big (.tail _ (.head _)))).mono ?_)
  rintro e W5 ⟨v5, rfl, hv5, hb5⟩
  replace HV := Lib.hid (HV.out.keep hb5)
  replace HB := Lib.hid (Gen.over hb5 HB.out)
  obtain ⟨Av5, cv5, lv5, rfl, _⟩ := hv5.ex
  obtain ⟨nv5, hnv5⟩ : ∃ n, lv5.length = n := ⟨_, rfl⟩
  rw [hnv5] at hv5 ⊢
  have Hv5 := Lib.hid hv5
  clear hnv5 hv5
  clear hb5
  clear d2 f2
  go_wp2_with (fail)
  go_must (refine (int_yes _ Hv5.out HM.out).mono ?_)
  rintro e W6 ⟨rfl, hb6⟩
  replace Hv5 := Lib.hid (Hv5.out.keep hb6)
  replace HV := Lib.hid (HV.out.keep hb6)
  replace HB := Lib.hid (Gen.over hb6 HB.out)
  clear hb6
  clear Hv5 HM
  have HXx := Lib.hid (HV.out.big (.tail _ (.head _)))
  have HXy := Lib.hid (HV.out.big (.head _))
  have HT0 := Lib.hid (HT.out.keep HB.out)
  have HS0 : Hid (Below W6.heap.size W6 W6 ∧ W6.cell? ⟨W2.heap.size, 0, none⟩ = some (.int .i64 (sg a)) ∧ W6.cell? ⟨W2.heap.size, 1, none⟩ = some (.slice Av2 nv2 cv2) ∧ W6.cell? ⟨W3.heap.size, 0, none⟩ = some (.int .i64 (sg b)) ∧ W6.cell? ⟨W3.heap.size, 1, none⟩ = some (.slice Av3 nv3 cv3)) := Lib.hid ⟨Below.refl _ _, HV.out.c0 (.tail _ (.head _)), HV.out.c1 (.tail _ (.head _)), HV.out.c0 (.head _), HV.out.c1 (.head _)⟩
  go_wp2_with (fail)
  go_region_held3 (fun W' : World => Below W6.heap.size W6 W' ∧ W'.cell? ⟨W2.heap.size, 0, none⟩ = some (.int .i64 (sg a)) ∧ W'.cell? ⟨W2.heap.size, 1, none⟩ = some (.slice Av2 nv2 cv2) ∧ W'.cell? ⟨W3.heap.size, 0, none⟩ = some (.int .i64 (sg b)) ∧ W'.cell? ⟨W3.heap.size, 1, none⟩ = some (.slice Av3 nv3 cv3))
    (first | exact hS5 | exact ⟨HS0.out.1.drew, HS0.out.2⟩ | fail "keep")
    (first
      | (go_at_call 11; (with_reducible refine (right_val (HXx.out.keep (And.left (by assumption)))).mono ?_); rintro e' w' ⟨rfl, hb⟩; have hS5 := (show (Below W6.heap.size W6 w' ∧ w'.cell? ⟨W2.heap.size, 0, none⟩ = some (.int .i64 (sg a)) ∧ w'.cell? ⟨W2.heap.size, 1, none⟩ = some (.slice Av2 nv2 cv2) ∧ w'.cell? ⟨W3.heap.size, 0, none⟩ = some (.int .i64 (sg b)) ∧ w'.cell? ⟨W3.heap.size, 1, none⟩ = some (.slice Av3 nv3 cv3)) from ⟨Gen.over hb (And.left (by assumption)), Gen.keep hb (And.left (And.right (by assumption))), Gen.keep hb (And.left (And.right (And.right (by assumption)))), Gen.keep hb (And.left (And.right (And.right (And.right (by assumption))))), Gen.keep hb (And.right (And.right (And.right (And.right (by assumption)))))⟩))
      | (go_at_call 23; (with_reducible refine (text_all _ (HT0.out.keep (And.left (by assumption))) (HXx.out.keep (And.left (by assumption)))).mono ?_); rintro e' w' ⟨rfl, hb⟩; have hS5 := (show (Below W6.heap.size W6 w' ∧ w'.cell? ⟨W2.heap.size, 0, none⟩ = some (.int .i64 (sg a)) ∧ w'.cell? ⟨W2.heap.size, 1, none⟩ = some (.slice Av2 nv2 cv2) ∧ w'.cell? ⟨W3.heap.size, 0, none⟩ = some (.int .i64 (sg b)) ∧ w'.cell? ⟨W3.heap.size, 1, none⟩ = some (.slice Av3 nv3 cv3)) from ⟨Gen.over hb (And.left (by assumption)), Gen.keep hb (And.left (And.right (by assumption))), Gen.keep hb (And.left (And.right (And.right (by assumption)))), Gen.keep hb (And.left (And.right (And.right (And.right (by assumption))))), Gen.keep hb (And.right (And.right (And.right (And.right (by assumption)))))⟩))
      | (go_at_call 23; (with_reducible refine (text_all _ (HT0.out.keep (And.left (by assumption))) (HXy.out.keep (And.left (by assumption)))).mono ?_); rintro e' w' ⟨rfl, hb⟩; have hS5 := (show (Below W6.heap.size W6 w' ∧ w'.cell? ⟨W2.heap.size, 0, none⟩ = some (.int .i64 (sg a)) ∧ w'.cell? ⟨W2.heap.size, 1, none⟩ = some (.slice Av2 nv2 cv2) ∧ w'.cell? ⟨W3.heap.size, 0, none⟩ = some (.int .i64 (sg b)) ∧ w'.cell? ⟨W3.heap.size, 1, none⟩ = some (.slice Av3 nv3 cv3)) from ⟨Gen.over hb (And.left (by assumption)), Gen.keep hb (And.left (And.right (by assumption))), Gen.keep hb (And.left (And.right (And.right (by assumption)))), Gen.keep hb (And.left (And.right (And.right (And.right (by assumption))))), Gen.keep hb (And.right (And.right (And.right (And.right (by assumption)))))⟩))
      | fail "arm")
  all_goals
    obtain ⟨Wy, hWy⟩ : ∃ W, W = w' := ⟨_, rfl⟩
    rw [← hWy] at hS5 ⊢
    replace HB := Lib.hid (Gen.over hS5.1 HB.out)
    replace HV := Lib.hid (HV.out.keep hS5.1)
    clear hWy hS5 HS0 HXx HXy HT0 HT hmn hq
    clear hwn
    rcases Int.lt_trichotomy a b with hab | hab | hab
    · have HC : Hid (cmpI a b = -1) := Lib.hid (cmpI_lt hab)
      have u1 : a < b := hab
      have u2 : ¬ b < a := by omega
      clear hab
      have d3 := HV.out.c0 (.tail _ (.head _))
      have f3 := HV.out.c1 (.tail _ (.head _))
      have d4 := HV.out.c0 (.head _)
      have f4 := HV.out.c1 (.head _)
      go_wp2_with (fail)
      go_must (refine (add_fit _ (HV.out.big (.tail _ (.head _))) (HV.out.big (.head _)) ((ZA.out.add ZB.out (n := 5) (by omega)).fit)).mono ?_)
      rintro e W7 ⟨v7, rfl, hv7, hb7⟩
      replace HV := Lib.hid (HV.out.keep hb7)
      replace HB := Lib.hid (Gen.over hb7 HB.out)
      obtain ⟨Av7, cv7, lv7, rfl, _⟩ := hv7.ex
      obtain ⟨nv7, hnv7⟩ : ∃ n, lv7.length = n := ⟨_, rfl⟩
      rw [hnv7] at hv7 ⊢
      have Hv7 := Lib.hid hv7
      clear hnv7 hv7
      clear hb7
      clear d3 f3 d4 f4
      replace HV := Lib.hid (HV.out.ad Hv7.out)
      replace HB := Lib.hid (below_ad HB.out Hv7.out)
      clear u1 u2
      have d5 := HV.out.c0 (.tail _ (.tail _ (.head _)))
      have f5 := HV.out.c1 (.tail _ (.tail _ (.head _)))
      have d6 := HV.out.c0 (.tail _ (.head _))
      have f6 := HV.out.c1 (.tail _ (.head _))
      go_wp2_with (fail)
      go_must (refine (sub_fit _ (HV.out.big (.tail _ (.tail _ (.head _)))) (HV.out.big (.tail _ (.head _))) ((ZA.out.sub ZB.out (n := 5) (by omega)).fit)).mono ?_)
      rintro e W8 ⟨v8, rfl, hv8, hb8⟩
      replace HV := Lib.hid (HV.out.keep hb8)
      replace HB := Lib.hid (Gen.over hb8 HB.out)
      obtain ⟨Av8, cv8, lv8, rfl, _⟩ := hv8.ex
      obtain ⟨nv8, hnv8⟩ : ∃ n, lv8.length = n := ⟨_, rfl⟩
      rw [hnv8] at hv8 ⊢
      have Hv8 := Lib.hid hv8
      clear hnv8 hv8
      clear hb8
      clear d5 f5 d6 f6
      replace HV := Lib.hid (HV.out.ad Hv8.out)
      replace HB := Lib.hid (below_ad HB.out Hv8.out)
      have d7 := HV.out.c0 (.tail _ (.tail _ (.tail _ (.head _))))
      have f7 := HV.out.c1 (.tail _ (.tail _ (.tail _ (.head _))))
      have d8 := HV.out.c0 (.tail _ (.tail _ (.head _)))
      have f8 := HV.out.c1 (.tail _ (.tail _ (.head _)))
      go_wp2_with (fail)
      go_must (refine (mul_fit _ (HV.out.big (.tail _ (.tail _ (.tail _ (.head _))))) (HV.out.big (.tail _ (.tail _ (.head _)))) ((ZA.out.mul ZB.out).fit)).mono ?_)
      rintro e W9 ⟨v9, rfl, hv9, hb9⟩
      replace HV := Lib.hid (HV.out.keep hb9)
      replace HB := Lib.hid (Gen.over hb9 HB.out)
      obtain ⟨Av9, cv9, lv9, rfl, _⟩ := hv9.ex
      obtain ⟨nv9, hnv9⟩ : ∃ n, lv9.length = n := ⟨_, rfl⟩
      rw [hnv9] at hv9 ⊢
      have Hv9 := Lib.hid hv9
      clear hnv9 hv9
      clear hb9
      clear d7 f7 d8 f8
      replace HV := Lib.hid (HV.out.ad Hv9.out)
      replace HB := Lib.hid (below_ad HB.out Hv9.out)
      have d9 := HV.out.c0 (.tail _ (.tail _ (.tail _ (.tail _ (.head _)))))
      have f9 := HV.out.c1 (.tail _ (.tail _ (.tail _ (.tail _ (.head _)))))
      have d10 := HV.out.c0 (.tail _ (.tail _ (.tail _ (.head _))))
      have f10 := HV.out.c1 (.tail _ (.tail _ (.tail _ (.head _))))
      go_wp2_with (fail)
      go_must (refine (cmp_to _ (HV.out.big (.tail _ (.tail _ (.tail _ (.tail _ (.head _)))))) (HV.out.big (.tail _ (.tail _ (.tail _ (.head _))))) HC.out).mono ?_)
      rintro e W10 ⟨rfl, hb10⟩
      replace HV := Lib.hid (HV.out.keep hb10)
      replace HB := Lib.hid (Gen.over hb10 HB.out)
      clear hb10
      clear d9 f9 d10 f10
      by_cases hh : ((-1073741824 < a ∧ a < 1073741824) ∧ -1073741824 < b ∧ b < 1073741824)
      · obtain ⟨⟨h1, h2⟩, h3, h4⟩ := hh
        have w1 : IntKind.i64.wrap (a + b) = a + b := IntWalk.i64_in _ (by omega)
        have w2 : IntKind.i64.wrap (a - b) = a - b := IntWalk.i64_in _ (by omega)
        have hab := half_mul h1 h2 h3 h4
        have w3 : IntKind.i64.wrap (a * b) = a * b := IntWalk.i64_in _ (by omega)
        have I1 : Hid (I64 (a + b)) := Lib.hid (by unfold I64; omega)
        have I2 : Hid (I64 (a - b)) := Lib.hid (by unfold I64; omega)
        have I3 : Hid (I64 (a * b)) := Lib.hid (by unfold I64; omega)
        clear hab
        have d11 := HV.out.c0 (.tail _ (.tail _ (.head _)))
        have f11 := HV.out.c1 (.tail _ (.tail _ (.head _)))
        go_wp2_with (fail)
        go_must (refine (int_yes _ (HV.out.big (.tail _ (.tail _ (.head _)))) I1.out).mono ?_)
        rintro e W11 ⟨rfl, hb11⟩
        replace HV := Lib.hid (HV.out.keep hb11)
        replace HB := Lib.hid (Gen.over hb11 HB.out)
        clear hb11
        clear d11 f11
        have d12 := HV.out.c0 (.tail _ (.head _))
        have f12 := HV.out.c1 (.tail _ (.head _))
        go_wp2_with (fail)
        go_must (refine (int_yes _ (HV.out.big (.tail _ (.head _))) I2.out).mono ?_)
        rintro e W12 ⟨rfl, hb12⟩
        replace HV := Lib.hid (HV.out.keep hb12)
        replace HB := Lib.hid (Gen.over hb12 HB.out)
        clear hb12
        clear d12 f12
        have d13 := HV.out.c0 (.head _)
        have f13 := HV.out.c1 (.head _)
        go_wp2_with (fail)
        go_must (refine (int_yes _ (HV.out.big (.head _)) I3.out).mono ?_)
        rintro e W13 ⟨rfl, hb13⟩
        replace HV := Lib.hid (HV.out.keep hb13)
        replace HB := Lib.hid (Gen.over hb13 HB.out)
        clear hb13
        clear d13 f13
        go_wp2
        go_ret
        exact ⟨rfl, HB.out⟩
      · have hh2 : a ≤ -1073741824 ∨ (-1073741824 < a ∧ 1073741824 ≤ a) ∨ (-1073741824 < a ∧ a < 1073741824 ∧ b ≤ -1073741824) ∨ (-1073741824 < a ∧ a < 1073741824 ∧ -1073741824 < b ∧ 1073741824 ≤ b) := by omega
        clear hh
        rcases hh2 with h | ⟨h, h1⟩ | ⟨h, h1, h2⟩ | ⟨h, h1, h2, h3⟩
        all_goals
          go_wp2
          go_ret
          exact ⟨rfl, HB.out⟩
    · have HC : Hid (cmpI a b = 0) := Lib.hid (cmpI_eq hab)
      have u1 : ¬ a < b := by omega
      have u2 : ¬ b < a := by omega
      clear hab
      have d3 := HV.out.c0 (.tail _ (.head _))
      have f3 := HV.out.c1 (.tail _ (.head _))
      have d4 := HV.out.c0 (.head _)
      have f4 := HV.out.c1 (.head _)
      go_wp2_with (fail)
      go_must (refine (add_fit _ (HV.out.big (.tail _ (.head _))) (HV.out.big (.head _)) ((ZA.out.add ZB.out (n := 5) (by omega)).fit)).mono ?_)
      rintro e W7 ⟨v7, rfl, hv7, hb7⟩
      replace HV := Lib.hid (HV.out.keep hb7)
      replace HB := Lib.hid (Gen.over hb7 HB.out)
      obtain ⟨Av7, cv7, lv7, rfl, _⟩ := hv7.ex
      obtain ⟨nv7, hnv7⟩ : ∃ n, lv7.length = n := ⟨_, rfl⟩
      rw [hnv7] at hv7 ⊢
      have Hv7 := Lib.hid hv7
      clear hnv7 hv7
      clear hb7
      clear d3 f3 d4 f4
      replace HV := Lib.hid (HV.out.ad Hv7.out)
      replace HB := Lib.hid (below_ad HB.out Hv7.out)
      clear u1 u2
      have d5 := HV.out.c0 (.tail _ (.tail _ (.head _)))
      have f5 := HV.out.c1 (.tail _ (.tail _ (.head _)))
      have d6 := HV.out.c0 (.tail _ (.head _))
      have f6 := HV.out.c1 (.tail _ (.head _))
      go_wp2_with (fail)
      go_must (refine (sub_fit _ (HV.out.big (.tail _ (.tail _ (.head _)))) (HV.out.big (.tail _ (.head _))) ((ZA.out.sub ZB.out (n := 5) (by omega)).fit)).mono ?_)
      rintro e W8 ⟨v8, rfl, hv8, hb8⟩
      replace HV := Lib.hid (HV.out.keep hb8)
      replace HB := Lib.hid (Gen.over hb8 HB.out)
      obtain ⟨Av8, cv8, lv8, rfl, _⟩ := hv8.ex
      obtain ⟨nv8, hnv8⟩ : ∃ n, lv8.length = n := ⟨_, rfl⟩
      rw [hnv8] at hv8 ⊢
      have Hv8 := Lib.hid hv8
      clear hnv8 hv8
      clear hb8
      clear d5 f5 d6 f6
      replace HV := Lib.hid (HV.out.ad Hv8.out)
      replace HB := Lib.hid (below_ad HB.out Hv8.out)
      have d7 := HV.out.c0 (.tail _ (.tail _ (.tail _ (.head _))))
      have f7 := HV.out.c1 (.tail _ (.tail _ (.tail _ (.head _))))
      have d8 := HV.out.c0 (.tail _ (.tail _ (.head _)))
      have f8 := HV.out.c1 (.tail _ (.tail _ (.head _)))
      go_wp2_with (fail)
      go_must (refine (mul_fit _ (HV.out.big (.tail _ (.tail _ (.tail _ (.head _))))) (HV.out.big (.tail _ (.tail _ (.head _)))) ((ZA.out.mul ZB.out).fit)).mono ?_)
      rintro e W9 ⟨v9, rfl, hv9, hb9⟩
      replace HV := Lib.hid (HV.out.keep hb9)
      replace HB := Lib.hid (Gen.over hb9 HB.out)
      obtain ⟨Av9, cv9, lv9, rfl, _⟩ := hv9.ex
      obtain ⟨nv9, hnv9⟩ : ∃ n, lv9.length = n := ⟨_, rfl⟩
      rw [hnv9] at hv9 ⊢
      have Hv9 := Lib.hid hv9
      clear hnv9 hv9
      clear hb9
      clear d7 f7 d8 f8
      replace HV := Lib.hid (HV.out.ad Hv9.out)
      replace HB := Lib.hid (below_ad HB.out Hv9.out)
      have d9 := HV.out.c0 (.tail _ (.tail _ (.tail _ (.tail _ (.head _)))))
      have f9 := HV.out.c1 (.tail _ (.tail _ (.tail _ (.tail _ (.head _)))))
      have d10 := HV.out.c0 (.tail _ (.tail _ (.tail _ (.head _))))
      have f10 := HV.out.c1 (.tail _ (.tail _ (.tail _ (.head _))))
      go_wp2_with (fail)
      go_must (refine (cmp_to _ (HV.out.big (.tail _ (.tail _ (.tail _ (.tail _ (.head _)))))) (HV.out.big (.tail _ (.tail _ (.tail _ (.head _))))) HC.out).mono ?_)
      rintro e W10 ⟨rfl, hb10⟩
      replace HV := Lib.hid (HV.out.keep hb10)
      replace HB := Lib.hid (Gen.over hb10 HB.out)
      clear hb10
      clear d9 f9 d10 f10
      by_cases hh : ((-1073741824 < a ∧ a < 1073741824) ∧ -1073741824 < b ∧ b < 1073741824)
      · obtain ⟨⟨h1, h2⟩, h3, h4⟩ := hh
        have w1 : IntKind.i64.wrap (a + b) = a + b := IntWalk.i64_in _ (by omega)
        have w2 : IntKind.i64.wrap (a - b) = a - b := IntWalk.i64_in _ (by omega)
        have hab := half_mul h1 h2 h3 h4
        have w3 : IntKind.i64.wrap (a * b) = a * b := IntWalk.i64_in _ (by omega)
        have I1 : Hid (I64 (a + b)) := Lib.hid (by unfold I64; omega)
        have I2 : Hid (I64 (a - b)) := Lib.hid (by unfold I64; omega)
        have I3 : Hid (I64 (a * b)) := Lib.hid (by unfold I64; omega)
        clear hab
        have d11 := HV.out.c0 (.tail _ (.tail _ (.head _)))
        have f11 := HV.out.c1 (.tail _ (.tail _ (.head _)))
        go_wp2_with (fail)
        go_must (refine (int_yes _ (HV.out.big (.tail _ (.tail _ (.head _)))) I1.out).mono ?_)
        rintro e W11 ⟨rfl, hb11⟩
        replace HV := Lib.hid (HV.out.keep hb11)
        replace HB := Lib.hid (Gen.over hb11 HB.out)
        clear hb11
        clear d11 f11
        have d12 := HV.out.c0 (.tail _ (.head _))
        have f12 := HV.out.c1 (.tail _ (.head _))
        go_wp2_with (fail)
        go_must (refine (int_yes _ (HV.out.big (.tail _ (.head _))) I2.out).mono ?_)
        rintro e W12 ⟨rfl, hb12⟩
        replace HV := Lib.hid (HV.out.keep hb12)
        replace HB := Lib.hid (Gen.over hb12 HB.out)
        clear hb12
        clear d12 f12
        have d13 := HV.out.c0 (.head _)
        have f13 := HV.out.c1 (.head _)
        go_wp2_with (fail)
        go_must (refine (int_yes _ (HV.out.big (.head _)) I3.out).mono ?_)
        rintro e W13 ⟨rfl, hb13⟩
        replace HV := Lib.hid (HV.out.keep hb13)
        replace HB := Lib.hid (Gen.over hb13 HB.out)
        clear hb13
        clear d13 f13
        go_wp2
        go_ret
        exact ⟨rfl, HB.out⟩
      · have hh2 : a ≤ -1073741824 ∨ (-1073741824 < a ∧ 1073741824 ≤ a) ∨ (-1073741824 < a ∧ a < 1073741824 ∧ b ≤ -1073741824) ∨ (-1073741824 < a ∧ a < 1073741824 ∧ -1073741824 < b ∧ 1073741824 ≤ b) := by omega
        clear hh
        rcases hh2 with h | ⟨h, h1⟩ | ⟨h, h1, h2⟩ | ⟨h, h1, h2, h3⟩
        all_goals
          go_wp2
          go_ret
          exact ⟨rfl, HB.out⟩
    · have HC : Hid (cmpI a b = 1) := Lib.hid (cmpI_gt hab)
      have u1 : ¬ a < b := by omega
      have u2 : b < a := hab
      clear hab
      have d3 := HV.out.c0 (.tail _ (.head _))
      have f3 := HV.out.c1 (.tail _ (.head _))
      have d4 := HV.out.c0 (.head _)
      have f4 := HV.out.c1 (.head _)
      go_wp2_with (fail)
      go_must (refine (add_fit _ (HV.out.big (.tail _ (.head _))) (HV.out.big (.head _)) ((ZA.out.add ZB.out (n := 5) (by omega)).fit)).mono ?_)
      rintro e W7 ⟨v7, rfl, hv7, hb7⟩
      replace HV := Lib.hid (HV.out.keep hb7)
      replace HB := Lib.hid (Gen.over hb7 HB.out)
      obtain ⟨Av7, cv7, lv7, rfl, _⟩ := hv7.ex
      obtain ⟨nv7, hnv7⟩ : ∃ n, lv7.length = n := ⟨_, rfl⟩
      rw [hnv7] at hv7 ⊢
      have Hv7 := Lib.hid hv7
      clear hnv7 hv7
      clear hb7
      clear d3 f3 d4 f4
      replace HV := Lib.hid (HV.out.ad Hv7.out)
      replace HB := Lib.hid (below_ad HB.out Hv7.out)
      clear u1 u2
      have d5 := HV.out.c0 (.tail _ (.tail _ (.head _)))
      have f5 := HV.out.c1 (.tail _ (.tail _ (.head _)))
      have d6 := HV.out.c0 (.tail _ (.head _))
      have f6 := HV.out.c1 (.tail _ (.head _))
      go_wp2_with (fail)
      go_must (refine (sub_fit _ (HV.out.big (.tail _ (.tail _ (.head _)))) (HV.out.big (.tail _ (.head _))) ((ZA.out.sub ZB.out (n := 5) (by omega)).fit)).mono ?_)
      rintro e W8 ⟨v8, rfl, hv8, hb8⟩
      replace HV := Lib.hid (HV.out.keep hb8)
      replace HB := Lib.hid (Gen.over hb8 HB.out)
      obtain ⟨Av8, cv8, lv8, rfl, _⟩ := hv8.ex
      obtain ⟨nv8, hnv8⟩ : ∃ n, lv8.length = n := ⟨_, rfl⟩
      rw [hnv8] at hv8 ⊢
      have Hv8 := Lib.hid hv8
      clear hnv8 hv8
      clear hb8
      clear d5 f5 d6 f6
      replace HV := Lib.hid (HV.out.ad Hv8.out)
      replace HB := Lib.hid (below_ad HB.out Hv8.out)
      have d7 := HV.out.c0 (.tail _ (.tail _ (.tail _ (.head _))))
      have f7 := HV.out.c1 (.tail _ (.tail _ (.tail _ (.head _))))
      have d8 := HV.out.c0 (.tail _ (.tail _ (.head _)))
      have f8 := HV.out.c1 (.tail _ (.tail _ (.head _)))
      go_wp2_with (fail)
      go_must (refine (mul_fit _ (HV.out.big (.tail _ (.tail _ (.tail _ (.head _))))) (HV.out.big (.tail _ (.tail _ (.head _)))) ((ZA.out.mul ZB.out).fit)).mono ?_)
      rintro e W9 ⟨v9, rfl, hv9, hb9⟩
      replace HV := Lib.hid (HV.out.keep hb9)
      replace HB := Lib.hid (Gen.over hb9 HB.out)
      obtain ⟨Av9, cv9, lv9, rfl, _⟩ := hv9.ex
      obtain ⟨nv9, hnv9⟩ : ∃ n, lv9.length = n := ⟨_, rfl⟩
      rw [hnv9] at hv9 ⊢
      have Hv9 := Lib.hid hv9
      clear hnv9 hv9
      clear hb9
      clear d7 f7 d8 f8
      replace HV := Lib.hid (HV.out.ad Hv9.out)
      replace HB := Lib.hid (below_ad HB.out Hv9.out)
      have d9 := HV.out.c0 (.tail _ (.tail _ (.tail _ (.tail _ (.head _)))))
      have f9 := HV.out.c1 (.tail _ (.tail _ (.tail _ (.tail _ (.head _)))))
      have d10 := HV.out.c0 (.tail _ (.tail _ (.tail _ (.head _))))
      have f10 := HV.out.c1 (.tail _ (.tail _ (.tail _ (.head _))))
      go_wp2_with (fail)
      go_must (refine (cmp_to _ (HV.out.big (.tail _ (.tail _ (.tail _ (.tail _ (.head _)))))) (HV.out.big (.tail _ (.tail _ (.tail _ (.head _))))) HC.out).mono ?_)
      rintro e W10 ⟨rfl, hb10⟩
      replace HV := Lib.hid (HV.out.keep hb10)
      replace HB := Lib.hid (Gen.over hb10 HB.out)
      clear hb10
      clear d9 f9 d10 f10
      by_cases hh : ((-1073741824 < a ∧ a < 1073741824) ∧ -1073741824 < b ∧ b < 1073741824)
      · obtain ⟨⟨h1, h2⟩, h3, h4⟩ := hh
        have w1 : IntKind.i64.wrap (a + b) = a + b := IntWalk.i64_in _ (by omega)
        have w2 : IntKind.i64.wrap (a - b) = a - b := IntWalk.i64_in _ (by omega)
        have hab := half_mul h1 h2 h3 h4
        have w3 : IntKind.i64.wrap (a * b) = a * b := IntWalk.i64_in _ (by omega)
        have I1 : Hid (I64 (a + b)) := Lib.hid (by unfold I64; omega)
        have I2 : Hid (I64 (a - b)) := Lib.hid (by unfold I64; omega)
        have I3 : Hid (I64 (a * b)) := Lib.hid (by unfold I64; omega)
        clear hab
        have d11 := HV.out.c0 (.tail _ (.tail _ (.head _)))
        have f11 := HV.out.c1 (.tail _ (.tail _ (.head _)))
        go_wp2_with (fail)
        go_must (refine (int_yes _ (HV.out.big (.tail _ (.tail _ (.head _)))) I1.out).mono ?_)
        rintro e W11 ⟨rfl, hb11⟩
        replace HV := Lib.hid (HV.out.keep hb11)
        replace HB := Lib.hid (Gen.over hb11 HB.out)
        clear hb11
        clear d11 f11
        have d12 := HV.out.c0 (.tail _ (.head _))
        have f12 := HV.out.c1 (.tail _ (.head _))
        go_wp2_with (fail)
        go_must (refine (int_yes _ (HV.out.big (.tail _ (.head _))) I2.out).mono ?_)
        rintro e W12 ⟨rfl, hb12⟩
        replace HV := Lib.hid (HV.out.keep hb12)
        replace HB := Lib.hid (Gen.over hb12 HB.out)
        clear hb12
        clear d12 f12
        have d13 := HV.out.c0 (.head _)
        have f13 := HV.out.c1 (.head _)
        go_wp2_with (fail)
        go_must (refine (int_yes _ (HV.out.big (.head _)) I3.out).mono ?_)
        rintro e W13 ⟨rfl, hb13⟩
        replace HV := Lib.hid (HV.out.keep hb13)
        replace HB := Lib.hid (Gen.over hb13 HB.out)
        clear hb13
        clear d13 f13
        go_wp2
        go_ret
        exact ⟨rfl, HB.out⟩
      · have hh2 : a ≤ -1073741824 ∨ (-1073741824 < a ∧ 1073741824 ≤ a) ∨ (-1073741824 < a ∧ a < 1073741824 ∧ b ≤ -1073741824) ∨ (-1073741824 < a ∧ a < 1073741824 ∧ -1073741824 < b ∧ 1073741824 ≤ b) := by omega
        clear hh
        rcases hh2 with h | ⟨h, h1⟩ | ⟨h, h1, h2⟩ | ⟨h, h1, h2, h3⟩
        all_goals
          go_wp2
          go_ret
          exact ⟨rfl, HB.out⟩
theorem ints_law (a b : Int) (w : World) (hT : PowTab w) (ha : I64 a) (hb : I64 b) :
    Calls Tryd.prog 7 #[.int .i64 a, .int .i64 b] w fun e w' => e = .returned (.bool true) ∧ Below w.heap.size w w' := by
  by_cases h : a = -9223372036854775808
  · exact ints_min a b w hT ha hb h
  · exact ints_oth a b w hT ha hb h
end Go.Proofs.YtnifkianjpjahaaDoor.Bg
