/- Texts of one kind joined: the sixth part. -/
import Derived.Test.YtnifkianjpjahaaGreatDoorTmE
/- Big integers: the examples. -/
namespace Go.Proofs.YtnifkianjpjahaaGreatDoor.Bg
open Go.ChangeShapes Go.WideShapes Go.ChangeAt Go.RowKit Go.Proofs.YtnifkianjpjahaaGreatDoor.Cell
set_option linter.unusedVariables false
set_option linter.unusedSimpArgs false
variable {N0 : Nat}

def vc : Value → Array Value | .agg a => a | _ => #[]
/-- variables that hold big integers -/
def Vs (N0 : Nat) (W : World) (L : List (Nat × Value × Int)) : Prop := ∀ p ∈ L, Row W p.1 24 (vc p.2.1) ∧ IsBig N0 W p.2.1 p.2.2
theorem Vs.nil (W : World) : Vs N0 W [] := fun p h => by simp at h
theorem Vs.keep {W W' : World} {L : List (Nat × Value × Int)} (h : Vs N0 W L) (hb : Below W.heap.size W W') : Vs N0 W' L := fun p hp => ⟨(h p hp).1.keep hb, (h p hp).2.keep hb⟩
theorem Vs.add {W : World} {L : List (Nat × Value × Int)} {v : Value} {z : Int} (h : Vs N0 W L) (hv : IsBig N0 W v z) : Vs N0 (W.alloc (.cells (vc v) 24)) ((W.heap.size, v, z) :: L) := fun p hp => by
  rcases List.mem_cons.1 hp with rfl | hp
  · exact ⟨Row.new _ _ _, hv.keep (Gen.b_alloc (Below.refl _ _))⟩
  · exact ⟨(h p hp).1.alloc _, (h p hp).2.keep (Gen.b_alloc (Below.refl _ _))⟩
theorem below_add {w W : World} {v : Value} {z : Int} (hb : Below w.heap.size w W) (hv : IsBig N0 W v z) : Below w.heap.size w (W.alloc (.cells (vc v) 24)) := Gen.b_alloc hb
theorem keep_add {W : World} {u v : Value} {y z : Int} (hu : IsBig N0 W u y) (hv : IsBig N0 W v z) : IsBig N0 (W.alloc (.cells (vc v) 24)) u y := hu.keep (Gen.b_alloc (Below.refl _ _))
theorem Vs.c0 {W : World} {L : List (Nat × Value × Int)} {g : Nat} {s z : Int} {A : Option Addr} {n c : Nat} (h : Vs N0 W L) (hm : (g, bigV s A n c, z) ∈ L) : W.cell? ⟨g, 0, none⟩ = some (.int .i64 s) := (h _ hm).1.cell 0
theorem Vs.c1 {W : World} {L : List (Nat × Value × Int)} {g : Nat} {s z : Int} {A : Option Addr} {n c : Nat} (h : Vs N0 W L) (hm : (g, bigV s A n c, z) ∈ L) : W.cell? ⟨g, 1, none⟩ = some (.slice A n c) := (h _ hm).1.cell 1
theorem Vs.big {W : World} {L : List (Nat × Value × Int)} {g : Nat} {v : Value} {z : Int} (h : Vs N0 W L) (hm : (g, v, z) ∈ L) : IsBig N0 W v z := (h _ hm).2
theorem big_two (W : World) : IsBig N0 (W.alloc (.cells #[.int .i64 0, .int .i64 0, .int .i64 0, .int .i64 8] 3)) (bigV 1 (some ⟨W.heap.size, 0, none⟩) 4 4) 9223372036854775808 :=
  ⟨some ⟨W.heap.size, 0, none⟩, 4, [0, 0, 0, 8], rfl, (show Row _ _ 3 (ics [0, 0, 0, 8]) from Row.new _ _ _).ints', ⟨fun d hd => by simp at hd; omega, by simp [Tr], by decide⟩, by decide⟩
theorem big_one (W : World) : IsBig N0 (W.alloc (.cells #[.int .i64 1, .int .i64 1] 3)) (bigV 1 (some ⟨W.heap.size, 0, none⟩) 2 2) 1048577 :=
  ⟨some ⟨W.heap.size, 0, none⟩, 2, [1, 1], rfl, (show Row _ _ 3 (ics [1, 1]) from Row.new _ _ _).ints', ⟨fun d hd => by simp at hd; omega, by simp [Tr], by decide⟩, by decide⟩
theorem int_yes {x : Int} {va : Value} (w : World) (hx : IsBig N0 w va x) (h : I64 x) : Calls Tryz.prog 20 #[va] w fun e w' => e = .returned (.tuple #[.int .i64 x, .bool true]) ∧ Below w.heap.size w w' :=
  (int_val w hx).mono fun e w' ⟨h1, h2⟩ => ⟨by rw [h1, if_pos h, decide_eq_true h], h2⟩
theorem int_no {x : Int} {va : Value} (w : World) (hx : IsBig N0 w va x) (h : ¬ I64 x) : Calls Tryz.prog 20 #[va] w fun e w' => e = .returned (.tuple #[.int .i64 0, .bool false]) ∧ Below w.heap.size w w' :=
  (int_val w hx).mono fun e w' ⟨h1, h2⟩ => ⟨by rw [h1, if_neg h, decide_eq_false h], h2⟩
theorem rsame_yes {x : Int} {va vb : Value} (w : World) (hx : IsBig N0 w va x) (hy : IsBig N0 w vb x) : Calls Tryz.prog 17 #[va, vb] w fun e w' => e = .returned (.bool true) ∧ Below w.heap.size w w' :=
  (rsame_val w hx hy).mono fun e w' ⟨h1, h2⟩ => ⟨by rw [h1, decide_eq_true rfl], h2⟩
theorem txt_p : txt (-99999999999 * 99999999999) = [45, 57, 57, 57, 57, 57, 57, 57, 57, 57, 57, 56, 48, 48, 48, 48, 48, 48, 48, 48, 48, 48, 49] := by
  have h : Lib.decDigits 9999999999800000000001 = fx 22 9999999999800000000001 := by
    rw [dec_split 21 _ (by decide), dec_lt (by decide), show (22 : Nat) = 21 + 1 from rfl]
    decide
  unfold txt
  rw [if_pos (by decide), show ((-99999999999 * 99999999999 : Int)).natAbs = 9999999999800000000001 by decide, h]
  decide
theorem IsBig.cast' {W : World} {v : Value} {y z : Int} (h : IsBig N0 W v z) (e : z = y) : IsBig N0 W v y := e ▸ h
theorem mul_fit {x y : Int} {va vb : Value} (w : World) (hx : IsBig N0 w va x) (hy : IsBig N0 w vb y) (hf : Fit (x * y)) :
    Calls Tryz.prog 15 #[va, vb] w fun e w' => ∃ v, e = .returned (.tuple #[v, .int .i64 0]) ∧ IsBig N0 w' v (x * y) ∧ Below w.heap.size w w' :=
  (mul_val w hx hy).mono fun e w' ⟨v, h1, h2, h3⟩ => ⟨v, by rw [h1, fe_yes hf], by rw [fz_yes hf] at h2; exact h2, h3⟩
set_option maxRecDepth 100000 in
set_option maxHeartbeats 16000000 in
theorem small_yes (w : World) (hT : PowTab w) : Calls Tryz.prog 9 #[] w fun e w' => e = .returned (.bool true) ∧ Below w.heap.size w w' := by
  have HT := Lib.hid hT
  have HV := Lib.hid (Vs.nil (N0 := w.heap.size) w)
  have HB := Lib.hid (Below.refl w.heap.size w)
  clear hT
  go_enter Tryz.func9, Tryz.ntmps9
  go_wp2_with (fail)
  go_must (refine (of_val (N0 := w.heap.size) (1048577) _ (by unfold I64; omega)).mono ?_)
  rintro e W1 ⟨v1, rfl, hv1, hb1⟩
  replace HV := Lib.hid (HV.out.keep hb1)
  replace HB := Lib.hid (Gen.over hb1 HB.out)
  obtain ⟨Av1, cv1, lv1, rfl, _⟩ := hv1.ex
  obtain ⟨nv1, hnv1⟩ : ∃ n, lv1.length = n := ⟨_, rfl⟩
  rw [hnv1] at hv1 ⊢
  have Hv1 := Lib.hid hv1
  clear hnv1 hv1
  clear hb1
  replace HV := Lib.hid (HV.out.add Hv1.out)
  replace HB := Lib.hid (below_add HB.out Hv1.out)
  go_wp2_with (fail)
  go_must (refine (of_val (N0 := w.heap.size) (-99999999999) _ (by unfold I64; omega)).mono ?_)
  rintro e W2 ⟨v2, rfl, hv2, hb2⟩
  replace HV := Lib.hid (HV.out.keep hb2)
  replace HB := Lib.hid (Gen.over hb2 HB.out)
  obtain ⟨Av2, cv2, lv2, rfl, _⟩ := hv2.ex
  obtain ⟨nv2, hnv2⟩ : ∃ n, lv2.length = n := ⟨_, rfl⟩
  rw [hnv2] at hv2 ⊢
  have Hv2 := Lib.hid hv2
  clear hnv2 hv2
  clear hb2
  go_wp2_with (fail)
  go_must (refine (of_val (N0 := w.heap.size) (99999999999) _ (by unfold I64; omega)).mono ?_)
  rintro e W3 ⟨v3, rfl, hv3, hb3⟩
  replace Hv2 := Lib.hid (Hv2.out.keep hb3)
  replace HV := Lib.hid (HV.out.keep hb3)
  replace HB := Lib.hid (Gen.over hb3 HB.out)
  obtain ⟨Av3, cv3, lv3, rfl, _⟩ := hv3.ex
  obtain ⟨nv3, hnv3⟩ : ∃ n, lv3.length = n := ⟨_, rfl⟩
  rw [hnv3] at hv3 ⊢
  have Hv3 := Lib.hid hv3
  clear hnv3 hv3
  clear hb3
  go_wp2_with (fail)
  go_must (refine (mul_fit _ Hv2.out Hv3.out (by decide)).mono ?_)
  rintro e W4 ⟨v4, rfl, hv4, hb4⟩
  replace Hv2 := Lib.hid (Hv2.out.keep hb4)
  replace Hv3 := Lib.hid (Hv3.out.keep hb4)
  replace HV := Lib.hid (HV.out.keep hb4)
  replace HB := Lib.hid (Gen.over hb4 HB.out)
  obtain ⟨Av4, cv4, lv4, rfl, _⟩ := hv4.ex
  obtain ⟨nv4, hnv4⟩ : ∃ n, lv4.length = n := ⟨_, rfl⟩
  rw [hnv4] at hv4 ⊢
  have Hv4 := Lib.hid hv4
  clear hnv4 hv4
  clear hb4
  replace HV := Lib.hid (HV.out.add Hv4.out)
  replace HB := Lib.hid (below_add HB.out Hv4.out)
  go_wp2_with (fail)
  go_must (refine (of_val (N0 := w.heap.size) (-7) _ (by unfold I64; omega)).mono ?_)
  rintro e W5 ⟨v5, rfl, hv5, hb5⟩
  replace HV := Lib.hid (HV.out.keep hb5)
  replace HB := Lib.hid (Gen.over hb5 HB.out)
  obtain ⟨Av5, cv5, lv5, rfl, _⟩ := hv5.ex
  obtain ⟨nv5, hnv5⟩ : ∃ n, lv5.length = n := ⟨_, rfl⟩
  rw [hnv5] at hv5 ⊢
  have Hv5 := Lib.hid hv5
  clear hnv5 hv5
  clear hb5
  go_wp2_with (fail)
  go_must (refine (of_val (N0 := w.heap.size) (2) _ (by unfold I64; omega)).mono ?_)
  rintro e W6 ⟨v6, rfl, hv6, hb6⟩
  replace Hv5 := Lib.hid (Hv5.out.keep hb6)
  replace HV := Lib.hid (HV.out.keep hb6)
  replace HB := Lib.hid (Gen.over hb6 HB.out)
  obtain ⟨Av6, cv6, lv6, rfl, _⟩ := hv6.ex
  obtain ⟨nv6, hnv6⟩ : ∃ n, lv6.length = n := ⟨_, rfl⟩
  rw [hnv6] at hv6 ⊢
  have Hv6 := Lib.hid hv6
  clear hnv6 hv6
  clear hb6
  go_wp2_with (fail)
  go_must (refine (Div_val _ Hv5.out Hv6.out (by decide)).mono ?_)
  rintro e W7 ⟨v7, u7, rfl, hv7, hu7, hb7⟩
  replace Hv5 := Lib.hid (Hv5.out.keep hb7)
  replace Hv6 := Lib.hid (Hv6.out.keep hb7)
  replace HV := Lib.hid (HV.out.keep hb7)
  replace HB := Lib.hid (Gen.over hb7 HB.out)
  obtain ⟨Av7, cv7, lv7, rfl, _⟩ := hv7.ex
  obtain ⟨nv7, hnv7⟩ : ∃ n, lv7.length = n := ⟨_, rfl⟩
  rw [hnv7] at hv7 ⊢
  have Hv7 := Lib.hid hv7
  clear hnv7 hv7
  obtain ⟨Au7, cu7, lu7, rfl, _⟩ := hu7.ex
  obtain ⟨nu7, hnu7⟩ : ∃ n, lu7.length = n := ⟨_, rfl⟩
  rw [hnu7] at hu7 ⊢
  have Hu7 := Lib.hid hu7
  clear hnu7 hu7
  clear hb7
  replace Hu7 := Lib.hid (keep_add Hu7.out Hv7.out)
  replace HV := Lib.hid (HV.out.add Hv7.out)
  replace HB := Lib.hid (below_add HB.out Hv7.out)
  replace HV := Lib.hid (HV.out.add Hu7.out)
  replace HB := Lib.hid (below_add HB.out Hu7.out)
  go_wp2_with (fail)
  go_must (refine (of_val (N0 := w.heap.size) (7) _ (by unfold I64; omega)).mono ?_)
  rintro e W8 ⟨v8, rfl, hv8, hb8⟩
  replace HV := Lib.hid (HV.out.keep hb8)
  replace HB := Lib.hid (Gen.over hb8 HB.out)
  obtain ⟨Av8, cv8, lv8, rfl, _⟩ := hv8.ex
  obtain ⟨nv8, hnv8⟩ : ∃ n, lv8.length = n := ⟨_, rfl⟩
  rw [hnv8] at hv8 ⊢
  have Hv8 := Lib.hid hv8
  clear hnv8 hv8
  clear hb8
  go_wp2_with (fail)
  go_must (refine (of_val (N0 := w.heap.size) (-2) _ (by unfold I64; omega)).mono ?_)
  rintro e W9 ⟨v9, rfl, hv9, hb9⟩
  replace Hv8 := Lib.hid (Hv8.out.keep hb9)
  replace HV := Lib.hid (HV.out.keep hb9)
  replace HB := Lib.hid (Gen.over hb9 HB.out)
  obtain ⟨Av9, cv9, lv9, rfl, _⟩ := hv9.ex
  obtain ⟨nv9, hnv9⟩ : ∃ n, lv9.length = n := ⟨_, rfl⟩
  rw [hnv9] at hv9 ⊢
  have Hv9 := Lib.hid hv9
  clear hnv9 hv9
  clear hb9
  go_wp2_with (fail)
  go_must (refine (Div_val _ Hv8.out Hv9.out (by decide)).mono ?_)
  rintro e W10 ⟨v10, u10, rfl, hv10, hu10, hb10⟩
  replace Hv8 := Lib.hid (Hv8.out.keep hb10)
  replace Hv9 := Lib.hid (Hv9.out.keep hb10)
  replace HV := Lib.hid (HV.out.keep hb10)
  replace HB := Lib.hid (Gen.over hb10 HB.out)
  obtain ⟨Av10, cv10, lv10, rfl, _⟩ := hv10.ex
  obtain ⟨nv10, hnv10⟩ : ∃ n, lv10.length = n := ⟨_, rfl⟩
  rw [hnv10] at hv10 ⊢
  have Hv10 := Lib.hid hv10
  clear hnv10 hv10
  obtain ⟨Au10, cu10, lu10, rfl, _⟩ := hu10.ex
  obtain ⟨nu10, hnu10⟩ : ∃ n, lu10.length = n := ⟨_, rfl⟩
  rw [hnu10] at hu10 ⊢
  have Hu10 := Lib.hid hu10
  clear hnu10 hu10
  clear hb10
  replace Hu10 := Lib.hid (keep_add Hu10.out Hv10.out)
  replace HV := Lib.hid (HV.out.add Hv10.out)
  replace HB := Lib.hid (below_add HB.out Hv10.out)
  replace HV := Lib.hid (HV.out.add Hu10.out)
  replace HB := Lib.hid (below_add HB.out Hu10.out)
  go_wp2_with (fail)
  go_must (refine (of_val (N0 := w.heap.size) (-7) _ (by unfold I64; omega)).mono ?_)
  rintro e W11 ⟨v11, rfl, hv11, hb11⟩
  replace HV := Lib.hid (HV.out.keep hb11)
  replace HB := Lib.hid (Gen.over hb11 HB.out)
  obtain ⟨Av11, cv11, lv11, rfl, _⟩ := hv11.ex
  obtain ⟨nv11, hnv11⟩ : ∃ n, lv11.length = n := ⟨_, rfl⟩
  rw [hnv11] at hv11 ⊢
  have Hv11 := Lib.hid hv11
  clear hnv11 hv11
  clear hb11
  go_wp2_with (fail)
  go_must (refine (of_val (N0 := w.heap.size) (-2) _ (by unfold I64; omega)).mono ?_)
  rintro e W12 ⟨v12, rfl, hv12, hb12⟩
  replace Hv11 := Lib.hid (Hv11.out.keep hb12)
  replace HV := Lib.hid (HV.out.keep hb12)
  replace HB := Lib.hid (Gen.over hb12 HB.out)
  obtain ⟨Av12, cv12, lv12, rfl, _⟩ := hv12.ex
  obtain ⟨nv12, hnv12⟩ : ∃ n, lv12.length = n := ⟨_, rfl⟩
  rw [hnv12] at hv12 ⊢
  have Hv12 := Lib.hid hv12
  clear hnv12 hv12
  clear hb12
  go_wp2_with (fail)
  go_must (refine (Div_val _ Hv11.out Hv12.out (by decide)).mono ?_)
  rintro e W13 ⟨v13, u13, rfl, hv13, hu13, hb13⟩
  replace Hv11 := Lib.hid (Hv11.out.keep hb13)
  replace Hv12 := Lib.hid (Hv12.out.keep hb13)
  replace HV := Lib.hid (HV.out.keep hb13)
  replace HB := Lib.hid (Gen.over hb13 HB.out)
  obtain ⟨Av13, cv13, lv13, rfl, _⟩ := hv13.ex
  obtain ⟨nv13, hnv13⟩ : ∃ n, lv13.length = n := ⟨_, rfl⟩
  rw [hnv13] at hv13 ⊢
  have Hv13 := Lib.hid hv13
  clear hnv13 hv13
  obtain ⟨Au13, cu13, lu13, rfl, _⟩ := hu13.ex
  obtain ⟨nu13, hnu13⟩ : ∃ n, lu13.length = n := ⟨_, rfl⟩
  rw [hnu13] at hu13 ⊢
  have Hu13 := Lib.hid hu13
  clear hnu13 hu13
  clear hb13
  replace Hu13 := Lib.hid (keep_add Hu13.out Hv13.out)
  replace HV := Lib.hid (HV.out.add Hv13.out)
  replace HB := Lib.hid (below_add HB.out Hv13.out)
  replace HV := Lib.hid (HV.out.add Hu13.out)
  replace HB := Lib.hid (below_add HB.out Hu13.out)
  go_wp2_with (fail)
  go_must (refine (of_val (N0 := w.heap.size) (-12) _ (by unfold I64; omega)).mono ?_)
  rintro e W14 ⟨v14, rfl, hv14, hb14⟩
  replace HV := Lib.hid (HV.out.keep hb14)
  replace HB := Lib.hid (Gen.over hb14 HB.out)
  obtain ⟨Av14, cv14, lv14, rfl, _⟩ := hv14.ex
  obtain ⟨nv14, hnv14⟩ : ∃ n, lv14.length = n := ⟨_, rfl⟩
  rw [hnv14] at hv14 ⊢
  have Hv14 := Lib.hid hv14
  clear hnv14 hv14
  clear hb14
  go_wp2_with (fail)
  go_must (refine (of_val (N0 := w.heap.size) (18) _ (by unfold I64; omega)).mono ?_)
  rintro e W15 ⟨v15, rfl, hv15, hb15⟩
  replace Hv14 := Lib.hid (Hv14.out.keep hb15)
  replace HV := Lib.hid (HV.out.keep hb15)
  replace HB := Lib.hid (Gen.over hb15 HB.out)
  obtain ⟨Av15, cv15, lv15, rfl, _⟩ := hv15.ex
  obtain ⟨nv15, hnv15⟩ : ∃ n, lv15.length = n := ⟨_, rfl⟩
  rw [hnv15] at hv15 ⊢
  have Hv15 := Lib.hid hv15
  clear hnv15 hv15
  clear hb15
  go_wp2_with (fail)
  go_must (refine (Gcd_val _ Hv14.out Hv15.out).mono ?_)
  rintro e W16 ⟨v16, rfl, hv16, hb16⟩
  replace Hv14 := Lib.hid (Hv14.out.keep hb16)
  replace Hv15 := Lib.hid (Hv15.out.keep hb16)
  replace HV := Lib.hid (HV.out.keep hb16)
  replace HB := Lib.hid (Gen.over hb16 HB.out)
  obtain ⟨Av16, cv16, lv16, rfl, _⟩ := hv16.ex
  obtain ⟨nv16, hnv16⟩ : ∃ n, lv16.length = n := ⟨_, rfl⟩
  rw [hnv16] at hv16 ⊢
  have Hv16 := Lib.hid hv16
  clear hnv16 hv16
  clear hb16
  replace HV := Lib.hid (HV.out.add Hv16.out)
  replace HB := Lib.hid (below_add HB.out Hv16.out)
  go_wp2_with (fail)
  go_must (refine (of_val (N0 := w.heap.size) (0) _ (by unfold I64; omega)).mono ?_)
  rintro e W17 ⟨v17, rfl, hv17, hb17⟩
  replace HV := Lib.hid (HV.out.keep hb17)
  replace HB := Lib.hid (Gen.over hb17 HB.out)
  obtain ⟨Av17, cv17, lv17, rfl, _⟩ := hv17.ex
  obtain ⟨nv17, hnv17⟩ : ∃ n, lv17.length = n := ⟨_, rfl⟩
  rw [hnv17] at hv17 ⊢
  have Hv17 := Lib.hid hv17
  clear hnv17 hv17
  clear hb17
  go_wp2_with (fail)
  go_must (refine (of_val (N0 := w.heap.size) (-5) _ (by unfold I64; omega)).mono ?_)
  rintro e W18 ⟨v18, rfl, hv18, hb18⟩
  replace Hv17 := Lib.hid (Hv17.out.keep hb18)
  replace HV := Lib.hid (HV.out.keep hb18)
  replace HB := Lib.hid (Gen.over hb18 HB.out)
  obtain ⟨Av18, cv18, lv18, rfl, _⟩ := hv18.ex
  obtain ⟨nv18, hnv18⟩ : ∃ n, lv18.length = n := ⟨_, rfl⟩
  rw [hnv18] at hv18 ⊢
  have Hv18 := Lib.hid hv18
  clear hnv18 hv18
  clear hb18
  go_wp2_with (fail)
  go_must (refine (Gcd_val _ Hv17.out Hv18.out).mono ?_)
  rintro e W19 ⟨v19, rfl, hv19, hb19⟩
  replace Hv17 := Lib.hid (Hv17.out.keep hb19)
  replace Hv18 := Lib.hid (Hv18.out.keep hb19)
  replace HV := Lib.hid (HV.out.keep hb19)
  replace HB := Lib.hid (Gen.over hb19 HB.out)
  obtain ⟨Av19, cv19, lv19, rfl, _⟩ := hv19.ex
  obtain ⟨nv19, hnv19⟩ : ∃ n, lv19.length = n := ⟨_, rfl⟩
  rw [hnv19] at hv19 ⊢
  have Hv19 := Lib.hid hv19
  clear hnv19 hv19
  clear hb19
  replace HV := Lib.hid (HV.out.add Hv19.out)
  replace HB := Lib.hid (below_add HB.out Hv19.out)
  go_wp2_with (fail)
  go_must (refine (read_d _).mono ?_)
  rintro e W20 ⟨rfl, hb20⟩
  replace HV := Lib.hid (HV.out.keep hb20)
  replace HB := Lib.hid (Gen.over hb20 HB.out)
  clear hb20
  replace HV := Lib.hid (HV.out.keep (Gen.b_alloc (x := .cells #[.int .i64 0, .slice none 0 0] 24) (Below.refl _ _)))
  replace HB := Lib.hid (Gen.b_alloc (x := .cells #[.int .i64 0, .slice none 0 0] 24) HB.out)
  go_wp2_with (fail)
  go_must (refine (read_m _).mono ?_)
  rintro e W21 ⟨rfl, hb21⟩
  replace HV := Lib.hid (HV.out.keep hb21)
  replace HB := Lib.hid (Gen.over hb21 HB.out)
  clear hb21
  replace HV := Lib.hid (HV.out.keep (Gen.b_alloc (x := .cells #[.int .i64 0, .slice none 0 0] 24) (Below.refl _ _)))
  replace HB := Lib.hid (Gen.b_alloc (x := .cells #[.int .i64 0, .slice none 0 0] 24) HB.out)
  go_wp2_with (fail)
  go_must (refine (read_e _).mono ?_)
  rintro e W22 ⟨rfl, hb22⟩
  replace HV := Lib.hid (HV.out.keep hb22)
  replace HB := Lib.hid (Gen.over hb22 HB.out)
  clear hb22
  replace HV := Lib.hid (HV.out.keep (Gen.b_alloc (x := .cells #[.int .i64 0, .slice none 0 0] 24) (Below.refl _ _)))
  replace HB := Lib.hid (Gen.b_alloc (x := .cells #[.int .i64 0, .slice none 0 0] 24) HB.out)
  have HTW := Lib.hid (big_two (N0 := w.heap.size) (W22.alloc (.cells #[.int .i64 0, .slice none 0 0] 24)))
  replace HV := Lib.hid (HV.out.keep (Gen.b_alloc (x := .cells #[.int .i64 0, .int .i64 0, .int .i64 0, .int .i64 8] 3) (Below.refl _ _)))
  replace HB := Lib.hid (Gen.b_alloc (x := .cells #[.int .i64 0, .int .i64 0, .int .i64 0, .int .i64 8] 3) HB.out)
  replace HV := Lib.hid (HV.out.add HTW.out)
  replace HB := Lib.hid (below_add HB.out HTW.out)
  simp only [World.size_alloc] at HV HB
  go_wp2_with (fail)
  go_must (refine (int_no _ (HV.out.big (.head _)) (by unfold I64; omega)).mono ?_)
  rintro e W23 ⟨rfl, hb23⟩
  replace HV := Lib.hid (HV.out.keep hb23)
  replace HB := Lib.hid (Gen.over hb23 HB.out)
  clear hb23
  have d1 := HV.out.c0 (.head _)
  have f1 := HV.out.c1 (.head _)
  go_wp2_with (fail)
  go_must (refine (neg_val _ (HV.out.big (.head _))).mono ?_)
  rintro e W24 ⟨v24, rfl, hv24, hb24⟩
  replace HV := Lib.hid (HV.out.keep hb24)
  replace HB := Lib.hid (Gen.over hb24 HB.out)
  obtain ⟨Av24, cv24, lv24, rfl, _⟩ := hv24.ex
  obtain ⟨nv24, hnv24⟩ : ∃ n, lv24.length = n := ⟨_, rfl⟩
  rw [hnv24] at hv24 ⊢
  have Hv24 := Lib.hid hv24
  clear hnv24 hv24
  clear hb24
  clear d1 f1
  go_wp2_with (fail)
  go_must (refine (int_yes _ Hv24.out (by unfold I64; omega)).mono ?_)
  rintro e W25 ⟨rfl, hb25⟩
  replace Hv24 := Lib.hid (Hv24.out.keep hb25)
  replace HV := Lib.hid (HV.out.keep hb25)
  replace HB := Lib.hid (Gen.over hb25 HB.out)
  clear hb25
  have d2 := HV.out.c0 (.tail _ (.tail _ (.tail _ (.tail _ (.tail _ (.tail _ (.tail _ (.tail _ (.tail _ (.tail _ (.head _)))))))))))
  have f2 := HV.out.c1 (.tail _ (.tail _ (.tail _ (.tail _ (.tail _ (.tail _ (.tail _ (.tail _ (.tail _ (.tail _ (.head _)))))))))))
  go_wp2_with (fail)
  replace HV := Lib.hid (HV.out.keep (Gen.b_alloc (x := .cells #[.int .i64 1, .int .i64 1] 3) (Below.refl _ _)))
  replace HB := Lib.hid (Gen.b_alloc (x := .cells #[.int .i64 1, .int .i64 1] 3) HB.out)
  go_wp2_with (fail)
  go_must (refine (rsame_yes _ (HV.out.big (.tail _ (.tail _ (.tail _ (.tail _ (.tail _ (.tail _ (.tail _ (.tail _ (.tail _ (.tail _ (.head _)))))))))))) (big_one _)).mono ?_)
  rintro e W26 ⟨rfl, hb26⟩
  replace HV := Lib.hid (HV.out.keep hb26)
  replace HB := Lib.hid (Gen.over hb26 HB.out)
  clear hb26
  clear d2 f2
  have d3 := HV.out.c0 (.tail _ (.tail _ (.tail _ (.tail _ (.tail _ (.tail _ (.tail _ (.tail _ (.tail _ (.head _))))))))))
  have f3 := HV.out.c1 (.tail _ (.tail _ (.tail _ (.tail _ (.tail _ (.tail _ (.tail _ (.tail _ (.tail _ (.head _))))))))))
  go_wp2_with (fail)
  go_must (refine (text_any _ (HT.out.keep HB.out) (HV.out.big (.tail _ (.tail _ (.tail _ (.tail _ (.tail _ (.tail _ (.tail _ (.tail _ (.tail _ (.head _))))))))))) (by decide)).mono ?_)
  rintro e W27 ⟨rfl, hb27⟩
  replace HV := Lib.hid (HV.out.keep hb27)
  replace HB := Lib.hid (Gen.over hb27 HB.out)
  clear hb27
  rw [txt_p]
  clear d3 f3
  have d4 := HV.out.c0 (.tail _ (.tail _ (.tail _ (.tail _ (.tail _ (.tail _ (.tail _ (.tail _ (.head _)))))))))
  have f4 := HV.out.c1 (.tail _ (.tail _ (.tail _ (.tail _ (.tail _ (.tail _ (.tail _ (.tail _ (.head _)))))))))
  have d5 := HV.out.c0 (.tail _ (.tail _ (.tail _ (.tail _ (.tail _ (.tail _ (.tail _ (.head _))))))))
  have f5 := HV.out.c1 (.tail _ (.tail _ (.tail _ (.tail _ (.tail _ (.tail _ (.tail _ (.head _))))))))
  go_wp2_with (fail)
  go_must (refine (pair_yes (q := -4) (r := 1) _ (IsBig.cast' (HV.out.big (.tail _ (.tail _ (.tail _ (.tail _ (.tail _ (.tail _ (.tail _ (.tail _ (.head _)))))))))) (by decide)) (IsBig.cast' (HV.out.big (.tail _ (.tail _ (.tail _ (.tail _ (.tail _ (.tail _ (.tail _ (.head _))))))))) (by decide)) (by unfold I64; omega) (by unfold I64; omega)).mono ?_)
  rintro e W28 ⟨rfl, hb28⟩
  replace HV := Lib.hid (HV.out.keep hb28)
  replace HB := Lib.hid (Gen.over hb28 HB.out)
  clear hb28
  clear d4 f4 d5 f5
  have d6 := HV.out.c0 (.tail _ (.tail _ (.tail _ (.tail _ (.tail _ (.tail _ (.head _)))))))
  have f6 := HV.out.c1 (.tail _ (.tail _ (.tail _ (.tail _ (.tail _ (.tail _ (.head _)))))))
  have d7 := HV.out.c0 (.tail _ (.tail _ (.tail _ (.tail _ (.tail _ (.head _))))))
  have f7 := HV.out.c1 (.tail _ (.tail _ (.tail _ (.tail _ (.tail _ (.head _))))))
  go_wp2_with (fail)
  go_must (refine (pair_yes (q := -4) (r := -1) _ (IsBig.cast' (HV.out.big (.tail _ (.tail _ (.tail _ (.tail _ (.tail _ (.tail _ (.head _)))))))) (by decide)) (IsBig.cast' (HV.out.big (.tail _ (.tail _ (.tail _ (.tail _ (.tail _ (.head _))))))) (by decide)) (by unfold I64; omega) (by unfold I64; omega)).mono ?_)
  rintro e W29 ⟨rfl, hb29⟩
  replace HV := Lib.hid (HV.out.keep hb29)
  replace HB := Lib.hid (Gen.over hb29 HB.out)
  clear hb29
  clear d6 f6 d7 f7
  have d8 := HV.out.c0 (.tail _ (.tail _ (.tail _ (.tail _ (.head _)))))
  have f8 := HV.out.c1 (.tail _ (.tail _ (.tail _ (.tail _ (.head _)))))
  have d9 := HV.out.c0 (.tail _ (.tail _ (.tail _ (.head _))))
  have f9 := HV.out.c1 (.tail _ (.tail _ (.tail _ (.head _))))
  go_wp2_with (fail)
  go_must (refine (pair_yes (q := 3) (r := -1) _ (IsBig.cast' (HV.out.big (.tail _ (.tail _ (.tail _ (.tail _ (.head _)))))) (by decide)) (IsBig.cast' (HV.out.big (.tail _ (.tail _ (.tail _ (.head _))))) (by decide)) (by unfold I64; omega) (by unfold I64; omega)).mono ?_)
  rintro e W30 ⟨rfl, hb30⟩
  replace HV := Lib.hid (HV.out.keep hb30)
  replace HB := Lib.hid (Gen.over hb30 HB.out)
  clear hb30
  clear d8 f8 d9 f9
  have d10 := HV.out.c0 (.tail _ (.tail _ (.head _)))
  have f10 := HV.out.c1 (.tail _ (.tail _ (.head _)))
  have d11 := HV.out.c0 (.tail _ (.head _))
  have f11 := HV.out.c1 (.tail _ (.head _))
  go_wp2_with (fail)
  obtain ⟨s16, hs16⟩ : ∃ s, sg ((Int.gcd (-12) 18 : Nat) : Int) = s := ⟨_, rfl⟩
  obtain ⟨s19, hs19⟩ : ∃ s, sg ((Int.gcd 0 (-5) : Nat) : Int) = s := ⟨_, rfl⟩
  have H6 : Hid (IsBig w.heap.size W30 (bigV s16 Av16 nv16 cv16) 6) := Lib.hid (by rw [← hs16]; exact IsBig.cast' (HV.out.big (.tail _ (.tail _ (.head _)))) (by decide))
  have H5 : Hid (IsBig w.heap.size W30 (bigV s19 Av19 nv19 cv19) 5) := Lib.hid (by rw [← hs19]; exact IsBig.cast' (HV.out.big (.tail _ (.head _))) (by decide))
  have HS0 : Hid (Below W30.heap.size W30 W30 ∧ W30.cell? ⟨W16.heap.size, 0, none⟩ = some (.int .i64 s16) ∧ W30.cell? ⟨W16.heap.size, 1, none⟩ = some (.slice Av16 nv16 cv16) ∧ W30.cell? ⟨W19.heap.size, 0, none⟩ = some (.int .i64 s19) ∧ W30.cell? ⟨W19.heap.size, 1, none⟩ = some (.slice Av19 nv19 cv19)) := Lib.hid (by rw [← hs16, ← hs19]; exact ⟨Below.refl _ _, HV.out.c0 (.tail _ (.tail _ (.head _))), HV.out.c1 (.tail _ (.tail _ (.head _))), HV.out.c0 (.tail _ (.head _)), HV.out.c1 (.tail _ (.head _))⟩)
  clear d10 f10 d11 f11 hs16 hs19
  have y0 := HS0.out.2.1
  have y1 := HS0.out.2.2.1
  have y2 := HS0.out.2.2.2.1
  have y3 := HS0.out.2.2.2.2
  go_region_held3 (fun W' : World => Below W30.heap.size W30 W' ∧ W'.cell? ⟨W16.heap.size, 0, none⟩ = some (.int .i64 s16) ∧ W'.cell? ⟨W16.heap.size, 1, none⟩ = some (.slice Av16 nv16 cv16) ∧ W'.cell? ⟨W19.heap.size, 0, none⟩ = some (.int .i64 s19) ∧ W'.cell? ⟨W19.heap.size, 1, none⟩ = some (.slice Av19 nv19 cv19))
    (first | exact hS5 | exact ⟨HS0.out.1.drew, HS0.out.2⟩ | fail "keep")
    (first
      | (go_at_call 35; (with_reducible refine (of_val (N0 := w.heap.size) 6 _ (by unfold I64; omega)).mono ?_); rintro e' w' ⟨v1, rfl, hv1, hb1⟩; have hS5 := (show (Below W30.heap.size W30 w' ∧ w'.cell? ⟨W16.heap.size, 0, none⟩ = some (.int .i64 s16) ∧ w'.cell? ⟨W16.heap.size, 1, none⟩ = some (.slice Av16 nv16 cv16) ∧ w'.cell? ⟨W19.heap.size, 0, none⟩ = some (.int .i64 s19) ∧ w'.cell? ⟨W19.heap.size, 1, none⟩ = some (.slice Av19 nv19 cv19)) from ⟨Gen.over hb1 (And.left (by assumption)), Gen.keep hb1 (And.left (And.right (by assumption))), Gen.keep hb1 (And.left (And.right (And.right (by assumption)))), Gen.keep hb1 (And.left (And.right (And.right (And.right (by assumption))))), Gen.keep hb1 (And.right (And.right (And.right (And.right (by assumption)))))⟩))
      | (go_at_call 35; (with_reducible refine (of_val (N0 := w.heap.size) 5 _ (by unfold I64; omega)).mono ?_); rintro e' w' ⟨v2, rfl, hv2, hb3⟩; have hS5 := (show (Below W30.heap.size W30 w' ∧ w'.cell? ⟨W16.heap.size, 0, none⟩ = some (.int .i64 s16) ∧ w'.cell? ⟨W16.heap.size, 1, none⟩ = some (.slice Av16 nv16 cv16) ∧ w'.cell? ⟨W19.heap.size, 0, none⟩ = some (.int .i64 s19) ∧ w'.cell? ⟨W19.heap.size, 1, none⟩ = some (.slice Av19 nv19 cv19)) from ⟨Gen.over hb3 (And.left (by assumption)), Gen.keep hb3 (And.left (And.right (by assumption))), Gen.keep hb3 (And.left (And.right (And.right (by assumption)))), Gen.keep hb3 (And.left (And.right (And.right (And.right (by assumption))))), Gen.keep hb3 (And.right (And.right (And.right (And.right (by assumption)))))⟩))
      | (go_at_call 30; (with_reducible refine (same_yes _ (H6.out.keep (And.left (by assumption))) hv1).mono ?_); rintro e' w' ⟨rfl, hb2⟩; have hS5 := (show (Below W30.heap.size W30 w' ∧ w'.cell? ⟨W16.heap.size, 0, none⟩ = some (.int .i64 s16) ∧ w'.cell? ⟨W16.heap.size, 1, none⟩ = some (.slice Av16 nv16 cv16) ∧ w'.cell? ⟨W19.heap.size, 0, none⟩ = some (.int .i64 s19) ∧ w'.cell? ⟨W19.heap.size, 1, none⟩ = some (.slice Av19 nv19 cv19)) from ⟨Gen.over hb2 (And.left (by assumption)), Gen.keep hb2 (And.left (And.right (by assumption))), Gen.keep hb2 (And.left (And.right (And.right (by assumption)))), Gen.keep hb2 (And.left (And.right (And.right (And.right (by assumption))))), Gen.keep hb2 (And.right (And.right (And.right (And.right (by assumption)))))⟩))
      | (go_at_call 30; (with_reducible refine (same_yes _ (H5.out.keep (And.left (by assumption))) hv2).mono ?_); rintro e' w' ⟨rfl, hb4⟩; have hS5 := (show (Below W30.heap.size W30 w' ∧ w'.cell? ⟨W16.heap.size, 0, none⟩ = some (.int .i64 s16) ∧ w'.cell? ⟨W16.heap.size, 1, none⟩ = some (.slice Av16 nv16 cv16) ∧ w'.cell? ⟨W19.heap.size, 0, none⟩ = some (.int .i64 s19) ∧ w'.cell? ⟨W19.heap.size, 1, none⟩ = some (.slice Av19 nv19 cv19)) from ⟨Gen.over hb4 (And.left (by assumption)), Gen.keep hb4 (And.left (And.right (by assumption))), Gen.keep hb4 (And.left (And.right (And.right (by assumption)))), Gen.keep hb4 (And.left (And.right (And.right (And.right (by assumption))))), Gen.keep hb4 (And.right (And.right (And.right (And.right (by assumption)))))⟩))
      | fail "arm")
  all_goals
    have HF := Lib.hid (Gen.over hS5.1 HB.out)
    go_wp2
    go_ret
    exact ⟨rfl, HF.out⟩
end Go.Proofs.YtnifkianjpjahaaGreatDoor.Bg
/- Big integers: sizes, and what fits. -/
namespace Go.Proofs.YtnifkianjpjahaaGreatDoor.Bg
open Go.ChangeShapes Go.WideShapes Go.ChangeAt Go.RowKit Go.Proofs.YtnifkianjpjahaaGreatDoor.Cell
set_option linter.unusedVariables false
set_option linter.unusedSimpArgs false
variable {N0 : Nat}

/-- less than the base to the power k, without its sign -/
def Sz (k : Nat) (z : Int) : Prop := -(pw k) < z ∧ z < pw k
theorem Sz.abs {k : Nat} {z : Int} : Sz k z ↔ (z.natAbs : Int) < pw k := by unfold Sz; omega
theorem Sz.mono {j k : Nat} {z : Int} (h : Sz j z) (hjk : j ≤ k) : Sz k z := by
  have := pw_le hjk
  unfold Sz at *
  omega
theorem Sz.neg {k : Nat} {z : Int} (h : Sz k z) : Sz k (-z) := by
  unfold Sz at *
  omega
theorem Sz.add {j n : Nat} {x y : Int} (h : Sz j x) (h' : Sz j y) (hj : j < n) : Sz n (x + y) := by
  have h1 := pw_le (show j + 1 ≤ n by omega)
  have h2 := pw_pos j
  rw [pw_succ] at h1
  unfold Sz at *
  omega
theorem Sz.sub {j n : Nat} {x y : Int} (h : Sz j x) (h' : Sz j y) (hj : j < n) : Sz n (x - y) := by
  have := h.add h'.neg hj
  rwa [← Int.sub_eq_add_neg] at this
theorem Sz.mul {j k : Nat} {x y : Int} (h : Sz j x) (h' : Sz k y) : Sz (j + k) (x * y) := by
  rw [Sz.abs] at *
  rw [pw_add, abs_mul' x y]
  have p := pw_pos j
  have q := pw_pos k
  have m := Int.mul_le_mul (show (x.natAbs : Int) ≤ pw j - 1 by omega) (show (y.natAbs : Int) ≤ pw k - 1 by omega) (by omega) (by omega)
  rw [Int.sub_mul, Int.mul_sub, Int.mul_one, Int.one_mul] at m
  omega
theorem Sz.fit {k : Nat} {z : Int} (h : Sz k z) (hk : k ≤ 60 := by decide) : Fit z := h.mono hk
theorem IsBig.sz {W : World} {s : Int} {A : Option Addr} {n c k : Nat} {z : Int} (h : IsBig N0 W (bigV s A n c) z) (hn : n ≤ k) : Sz k z := by
  obtain ⟨A', c', l, e, _, h2, _⟩ := h.ex
  simp only [bigV, Value.agg.injEq, Array.mk.injEq, List.cons.injEq, Value.slice.injEq] at e
  rw [Sz.abs, ← h2.len k]
  omega
theorem IsBig.few {W : World} {s : Int} {A : Option Addr} {n c k : Nat} {z : Int} (h : IsBig N0 W (bigV s A n c) z) (hs : Sz k z) : n ≤ k := by
  obtain ⟨A', c', l, e, _, h2, _⟩ := h.ex
  simp only [bigV, Value.agg.injEq, Array.mk.injEq, List.cons.injEq, Value.slice.injEq] at e
  have := (h2.len k).2 (Sz.abs.1 hs)
  omega
theorem IsBig.sgn {W : World} {s : Int} {A : Option Addr} {n c : Nat} {z : Int} (h : IsBig N0 W (bigV s A n c) z) : s = sg z := by
  obtain ⟨A', c', l, e, _⟩ := h.ex
  simp only [bigV, Value.agg.injEq, Array.mk.injEq, List.cons.injEq, Value.int.injEq] at e
  exact e.1.2
theorem add_fit {x y : Int} {va vb : Value} (w : World) (hx : IsBig N0 w va x) (hy : IsBig N0 w vb y) (hf : Fit (x + y)) :
    Calls Tryz.prog 11 #[va, vb] w fun e w' => ∃ v, e = .returned (.tuple #[v, .int .i64 0]) ∧ IsBig N0 w' v (x + y) ∧ Below w.heap.size w w' :=
  (add_val w hx hy).mono fun e w' ⟨v, h1, h2, h3⟩ => ⟨v, by rw [h1, fe_yes hf], by rw [fz_yes hf] at h2; exact h2, h3⟩
theorem sub_fit {x y : Int} {va vb : Value} (w : World) (hx : IsBig N0 w va x) (hy : IsBig N0 w vb y) (hf : Fit (x - y)) :
    Calls Tryz.prog 13 #[va, vb] w fun e w' => ∃ v, e = .returned (.tuple #[v, .int .i64 0]) ∧ IsBig N0 w' v (x - y) ∧ Below w.heap.size w w' :=
  (sub_val w hx hy).mono fun e w' ⟨v, h1, h2, h3⟩ => ⟨v, by rw [h1, fe_yes hf], by rw [fz_yes hf] at h2; exact h2, h3⟩
/-- whether a big integer is right: the one answer or the other -/
theorem rgt_yes {s : Int} {A : Option Addr} {l : List Int} {n c : Nat} (w : World) (hn : l.length = n) (hc : Ints N0 w A l) (h : rgtB s l = true) (hbig : n ≤ 9223372036854775807) :
    Calls Tryz.prog 26 #[bigV s A n c] w fun e w' => e = .returned (.bool true) ∧ Below w.heap.size w w' :=
  (right_any s A n c l w hn hc hbig).mono fun e w' ⟨h1, h2⟩ => ⟨by rw [h1, h], h2⟩
theorem rgt_no {s : Int} {A : Option Addr} {l : List Int} {n c : Nat} (w : World) (hn : l.length = n) (hc : Ints N0 w A l) (h : rgtB s l = false) (hbig : n ≤ 9223372036854775807) :
    Calls Tryz.prog 26 #[bigV s A n c] w fun e w' => e = .returned (.bool false) ∧ Below w.heap.size w w' :=
  (right_any s A n c l w hn hc hbig).mono fun e w' ⟨h1, h2⟩ => ⟨by rw [h1, h], h2⟩
theorem few_yes {s : Int} {A : Option Addr} {n c : Nat} {m : Int} (w : World) (hbig : n ≤ 9223372036854775807) (h : (n : Int) ≤ m) :
    Calls Tryz.prog 10 #[bigV s A n c, .int .i64 m] w fun e w' => e = .returned (.bool true) ∧ Below w.heap.size w w' :=
  (few_any s A n c m w hbig).mono fun e w' ⟨h1, h2⟩ => ⟨by rw [h1, decide_eq_true h], h2⟩
theorem few_no {s : Int} {A : Option Addr} {n c : Nat} {m : Int} (w : World) (hbig : n ≤ 9223372036854775807) (h : ¬ (n : Int) ≤ m) :
    Calls Tryz.prog 10 #[bigV s A n c, .int .i64 m] w fun e w' => e = .returned (.bool false) ∧ Below w.heap.size w w' :=
  (few_any s A n c m w hbig).mono fun e w' ⟨h1, h2⟩ => ⟨by rw [h1, decide_eq_false h], h2⟩
theorem same_to {x y : Int} {va vb : Value} (w : World) (hx : IsBig N0 w va x) (hy : IsBig N0 w vb y) (h : x = y) :
    Calls Tryz.prog 30 #[va, vb] w fun e w' => e = .returned (.bool true) ∧ Below w.heap.size w w' := by
  subst h
  exact same_yes w hx hy
theorem rsame_to {x y : Int} {va vb : Value} (w : World) (hx : IsBig N0 w va x) (hy : IsBig N0 w vb y) (h : x = y) :
    Calls Tryz.prog 17 #[va, vb] w fun e w' => e = .returned (.bool true) ∧ Below w.heap.size w w' := by
  subst h
  exact rsame_yes w hx hy
theorem cmp_to {x y k : Int} {va vb : Value} (w : World) (hx : IsBig N0 w va x) (hy : IsBig N0 w vb y) (h : cmpI x y = k) :
    Calls Tryz.prog 28 #[va, vb] w fun e w' => e = .returned (.int .i64 k) ∧ Below w.heap.size w w' := by
  subst h
  exact compare_val w hx hy
/-- an argument, not yet known to be right -/
structure Arg (N0 : Nat) (w : World) (v : Value) (n : Nat) (s : Int) (l : List Int) : Prop where
  ex : ∃ A c, v = bigV s A n c ∧ l.length = n ∧ Ints N0 w A l ∧ n ≤ 9223372036854775807
theorem Arg.keep {w w1 : World} {v : Value} {n : Nat} {s : Int} {l : List Int} (h : Arg N0 w v n s l) (hb : Below w.heap.size w w1) : Arg N0 w1 v n s l := by
  obtain ⟨A, c, e, h1, h2, h3⟩ := h.ex
  exact ⟨A, c, e, h1, h2.keep hb, h3⟩
theorem Arg.few {w : World} {v : Value} {n : Nat} {s m : Int} {l : List Int} (W : World) (h : Arg N0 w v n s l) (b : Bool) (hb : decide ((n : Int) ≤ m) = b) :
    Calls Tryz.prog 10 #[v, .int .i64 m] W fun e w' => e = .returned (.bool b) ∧ Below W.heap.size W w' := by
  obtain ⟨A, c, rfl, h1, h2, h3⟩ := h.ex
  rw [← hb]
  exact few_any s A n c m W h3
theorem Arg.right {w : World} {v : Value} {n : Nat} {s : Int} {l : List Int} (h : Arg N0 w v n s l) (b : Bool) (hb : rgtB s l = b) :
    Calls Tryz.prog 26 #[v] w fun e w' => e = .returned (.bool b) ∧ Below w.heap.size w w' := by
  obtain ⟨A, c, rfl, h1, h2, h3⟩ := h.ex
  rw [← hb]
  exact right_any s A n c l w h1 h2 h3
theorem Arg.big {w : World} {v : Value} {n : Nat} {s : Int} {l : List Int} (h : Arg N0 w v n s l) (hb : rgtB s l = true) : ∃ z, IsBig N0 w v z ∧ s = sg z ∧ ∀ k, n ≤ k → Sz k z := by
  obtain ⟨A, c, rfl, h1, h2, h3⟩ := h.ex
  obtain ⟨z, hz⟩ := right_big (c := c) h1 hb h2
  exact ⟨z, hz, hz.sgn, fun k hk => hz.sz hk⟩
end Go.Proofs.YtnifkianjpjahaaGreatDoor.Bg
/- Big integers: texts read, plain facts. -/
namespace Go.Proofs.YtnifkianjpjahaaGreatDoor.Bg
open Go.RowKit Go.Proofs.YtnifkianjpjahaaGreatDoor.Cell
set_option linter.unusedVariables false
variable {N0 : Nat}

def isDc (b : UInt8) : Bool := decide (48 ≤ b.toNat ∧ b.toNat ≤ 57)
/-- decimal digits of a number -/
def decB (t : List UInt8) : Bool := decide (t ≠ [] ∧ ¬ (1 < t.length ∧ t[0]? = some 48)) && t.all isDc
def dv (t : List UInt8) : Nat := t.foldl (fun n b => n * 10 + (b.toNat - 48)) 0
theorem dv_nil : dv [] = 0 := rfl
theorem dv_snoc (t : List UInt8) (b : UInt8) : dv (t ++ [b]) = dv t * 10 + (b.toNat - 48) := by unfold dv; rw [List.foldl_append]; rfl
theorem dg1_nat {n : Nat} (h : n < 10) : (dg1 n).toNat = 48 + n := by
  unfold dg1
  rw [UInt8.toNat_ofNat']
  omega
theorem dg1_of {b : UInt8} (h : isDc b = true) : dg1 (b.toNat - 48) = b := by
  have := of_decide_eq_true h
  apply UInt8.toNat_inj.1
  rw [dg1_nat (by omega)]
  omega
theorem dv_dec : ∀ n : Nat, dv (Lib.decDigits n) = n := by
  intro n
  induction n using Nat.strongRecOn with
  | ind n ih =>
    by_cases h : n < 10
    · rw [dec_lt h, ← List.nil_append [dg1 n], dv_snoc, dg1_nat h, dv_nil]
      omega
    · rw [dec_ge (by omega), dv_snoc, ih _ (by omega), dg1_nat (by omega)]
      omega
theorem isDc_dg1 {n : Nat} (h : n < 10) : isDc (dg1 n) = true := decide_eq_true (by rw [dg1_nat h]; omega)
theorem dec_all : ∀ n : Nat, (Lib.decDigits n).all isDc = true := by
  intro n
  induction n using Nat.strongRecOn with
  | ind n ih =>
    by_cases h : n < 10
    · rw [dec_lt h]
      simp [isDc_dg1 h]
    · rw [dec_ge (by omega), List.all_append, ih _ (by omega)]
      simp [isDc_dg1 (show n % 10 < 10 by omega)]
theorem dec_head : ∀ n : Nat, n ≠ 0 → (Lib.decDigits n)[0]? ≠ some 48 := by
  intro n
  induction n using Nat.strongRecOn with
  | ind n ih =>
    intro h0
    by_cases h : n < 10
    · rw [dec_lt h]
      intro e
      have e1 : dg1 n = 48 := by simpa using e
      have := dg1_nat h
      rw [e1] at this
      have h48 : (48 : UInt8).toNat = 48 := rfl
      omega
    · have h1 := ih (n / 10) (by omega) (by omega)
      have h2 := dec_pos (n / 10)
      rw [dec_ge (by omega), List.getElem?_append_left (by omega)]
      exact h1
theorem decB_dec (n : Nat) : decB (Lib.decDigits n) = true := by
  unfold decB
  rw [dec_all, Bool.and_true]
  refine decide_eq_true ⟨fun e => ?_, fun ⟨h1, h2⟩ => ?_⟩
  · have := dec_pos n
    rw [e] at this
    simp at this
  · by_cases h0 : n = 0
    · subst h0
      rw [dec_lt (by omega)] at h1
      simp at h1
    · exact dec_head n h0 h2
theorem decB_in {t : List UInt8} (h : decB t = true) : t ≠ [] ∧ ¬ (1 < t.length ∧ t[0]? = some 48) ∧ t.all isDc = true := by
  unfold decB at h
  rw [Bool.and_eq_true] at h
  have := of_decide_eq_true h.1
  exact ⟨this.1, this.2, h.2⟩
theorem dv_pos : ∀ {t : List UInt8}, t ≠ [] → t[0]? ≠ some 48 → t.all isDc = true → 1 ≤ dv t := by
  intro t
  induction h : t.length generalizing t with
  | zero => intro h0; exact absurd (List.length_eq_zero_iff.1 h) h0
  | succ k ih =>
    intro h0 h1 h2
    obtain ⟨t', b, rfl⟩ : ∃ t' b, t = t' ++ [b] := ⟨t.dropLast, t.getLast h0, (List.dropLast_concat_getLast h0).symm⟩
    rw [dv_snoc]
    rw [List.all_append] at h2
    have h2' := Bool.and_eq_true .. ▸ h2
    rw [Bool.and_eq_true] at h2
    cases t' with
    | nil =>
      have hb : isDc b = true := by simpa using h2.2
      have := of_decide_eq_true hb
      have h3 : b.toNat ≠ 48 := fun e => h1 (by
        have : b = 48 := UInt8.toNat_inj.1 (by rw [e]; rfl)
        rw [this]; rfl)
      omega
    | cons a t'' =>
      have := ih (t := a :: t'') (by simp at h ⊢; exact h) (by simp) (by simpa using h1) h2.1
      omega
theorem dec_dv : ∀ {t : List UInt8}, decB t = true → Lib.decDigits (dv t) = t := by
  intro t
  induction h : t.length generalizing t with
  | zero => intro h0; exact absurd (List.length_eq_zero_iff.1 h) (decB_in h0).1
  | succ k ih =>
    intro hd
    obtain ⟨h0, h1, h2⟩ := decB_in hd
    obtain ⟨t', b, rfl⟩ : ∃ t' b, t = t' ++ [b] := ⟨t.dropLast, t.getLast h0, (List.dropLast_concat_getLast h0).symm⟩
    rw [List.all_append, Bool.and_eq_true] at h2
    have hb : isDc b = true := by simpa using h2.2
    have hb' := of_decide_eq_true hb
    cases t' with
    | nil =>
      rw [dv_snoc, dv_nil, dec_lt (by omega), show 0 * 10 + (b.toNat - 48) = b.toNat - 48 by omega, dg1_of hb]
      rfl
    | cons a t'' =>
      have ha : (a :: t'')[0]? ≠ some 48 := fun e => h1 ⟨by simp, by simpa using e⟩
      have hp := dv_pos (t := a :: t'') (by simp) ha h2.1
      have hB : decB (a :: t'') = true := by
        unfold decB
        rw [h2.1, Bool.and_true]
        exact decide_eq_true ⟨by simp, fun h => ha h.2⟩
      have hi := ih (t := a :: t'') (by simp at h ⊢; exact h) hB
      rw [dv_snoc, dec_ge (by omega), show (dv (a :: t'') * 10 + (b.toNat - 48)) / 10 = dv (a :: t'') by omega, show (dv (a :: t'') * 10 + (b.toNat - 48)) % 10 = b.toNat - 48 by omega, hi, dg1_of hb]
theorem dv_lt : ∀ (k : Nat) {t : List UInt8}, t.length = k → t.all isDc = true → dv t < 10 ^ k
  | 0, t, h, _ => by rw [List.length_eq_zero_iff.1 h]; decide
  | k + 1, t, h, h2 => by
    have h0 : t ≠ [] := fun e => by rw [e] at h; simp at h
    obtain ⟨t', b, rfl⟩ : ∃ t' b, t = t' ++ [b] := ⟨t.dropLast, t.getLast h0, (List.dropLast_concat_getLast h0).symm⟩
    rw [List.all_append, Bool.and_eq_true] at h2
    have hb : isDc b = true := by simpa using h2.2
    have hb' := of_decide_eq_true hb
    have := dv_lt k (t := t') (by simpa using h) h2.1
    rw [dv_snoc, Nat.pow_succ]
    omega
set_option exponentiation.threshold 400 in
/-- a text of too many digits is no number of 60 -/
theorem dv_long {t : List UInt8} (hd : decB t = true) (h : 362 < t.length) : pw 60 ≤ (dv t : Int) := by
  have h1 : ¬ dv t < 10 ^ 362 := fun h' => by
    have := dec_len 361 (dv t) h'
    rw [dec_dv hd] at this
    omega
  have h2 : pw 60 ≤ ((10 ^ 362 : Nat) : Int) := by decide
  omega
set_option exponentiation.threshold 400 in
theorem dv_few {t : List UInt8} (hd : t.all isDc = true) (h : t.length ≤ 362) : (dv t : Int) < pw 61 := by
  have h1 := dv_lt t.length rfl hd
  have h2 : 10 ^ t.length ≤ 10 ^ 362 := Nat.pow_le_pow_right (by omega) h
  have h3 : ((10 ^ 362 : Nat) : Int) < pw 61 := by decide
  omega
/-- the number of a text -/
def rd (s : List UInt8) : Option Int :=
  if s[0]? = some 45 then (if decB (s.drop 1) = true ∧ s.drop 1 ≠ [48] then some (-(dv (s.drop 1) : Int)) else none)
  else if decB s = true then some (dv s : Int) else none
theorem dec_minus (n : Nat) : (Lib.decDigits n)[0]? ≠ some 45 := fun e => by
  have := dec_all n
  cases h : Lib.decDigits n with
  | nil => rw [h] at e; simp at e
  | cons a t =>
    rw [h] at e this
    simp at e
    subst e
    simp [isDc] at this
theorem rd_txt (z : Int) : rd (txt z) = some z := by
  unfold txt
  split
  case isTrue h =>
    unfold rd
    rw [if_pos (show (45 :: Lib.decDigits z.natAbs)[0]? = some 45 from rfl)]
    have e : ((45 :: Lib.decDigits z.natAbs).drop 1) = Lib.decDigits z.natAbs := rfl
    have hn : Lib.decDigits z.natAbs ≠ [48] := fun e => by
      have h1 := dv_dec z.natAbs
      rw [e] at h1
      have : dv [48] = 0 := by decide
      omega
    rw [e, if_pos ⟨decB_dec _, hn⟩, dv_dec]
    congr 1
    omega
  case isFalse h =>
    unfold rd
    rw [if_neg (dec_minus _), if_pos (decB_dec _), dv_dec]
    congr 1
    omega
theorem txt_rd {s : List UInt8} {z : Int} (h : rd s = some z) : txt z = s := by
  unfold rd at h
  split at h
  case isTrue h0 =>
    split at h
    case isTrue h1 =>
      injection h with h
      subst h
      have hp : 0 < dv (s.drop 1) := by
        rcases Nat.eq_zero_or_pos (dv (s.drop 1)) with e | e
        · exfalso
          apply h1.2
          rw [← dec_dv h1.1, e, dec_lt (by omega)]
          rfl
        · exact e
      unfold txt
      rw [if_pos (by omega), show (-(dv (s.drop 1) : Int)).natAbs = dv (s.drop 1) by omega, dec_dv h1.1]
      cases s with
      | nil => simp at h0
      | cons a t => simp at h0; simp [h0]
    case isFalse => exact absurd h (by simp)
  case isFalse h0 =>
    split at h
    case isTrue h1 =>
      injection h with h
      subst h
      unfold txt
      rw [if_neg (by omega), show ((dv s : Int)).natAbs = dv s by omega, dec_dv h1]
    case isFalse => exact absurd h (by simp)
theorem txt_inj {x y : Int} : txt x = txt y ↔ x = y := ⟨fun e => by
  have h := rd_txt x
  rw [e, rd_txt y] at h
  injection h with h
  exact h.symm, fun e => by rw [e]⟩
theorem txt_zero : txt 0 = [48] := by
  unfold txt
  rw [if_neg (by omega)]
  exact dec_lt (by decide)
/-- one digit more -/
theorem txt_more {z : Int} (h : z ≠ 0) : txt z ++ [55] = txt (z * 10 + 7 * sg z) := by
  have e7 : (55 : UInt8) = dg1 7 := rfl
  by_cases hz : z < 0
  · have hs : sg z = -1 := if_pos hz
    unfold txt
    rw [if_pos hz, if_pos (by omega), show (z * 10 + 7 * sg z).natAbs = z.natAbs * 10 + 7 by rw [hs]; omega, dec_ge (n := z.natAbs * 10 + 7) (by omega),
      show (z.natAbs * 10 + 7) / 10 = z.natAbs by omega, show (z.natAbs * 10 + 7) % 10 = 7 by omega, e7]
    rfl
  · have hs : sg z = 1 := by unfold sg; rw [if_neg hz, if_pos (by omega)]
    unfold txt
    rw [if_neg hz, if_neg (by omega), show (z * 10 + 7 * sg z).natAbs = z.natAbs * 10 + 7 by rw [hs]; omega, dec_ge (n := z.natAbs * 10 + 7) (by omega),
      show (z.natAbs * 10 + 7) / 10 = z.natAbs by omega, show (z.natAbs * 10 + 7) % 10 = 7 by omega, e7]
end Go.Proofs.YtnifkianjpjahaaGreatDoor.Bg
/- Big integers: decimal. -/
namespace Go.Proofs.YtnifkianjpjahaaGreatDoor.Bg
open Go.ChangeShapes Go.WideShapes Go.ChangeAt Go.RowKit Go.Proofs.YtnifkianjpjahaaGreatDoor.Cell
set_option linter.unusedVariables false
set_option linter.unusedSimpArgs false
variable {N0 : Nat}

theorem byte_at {t : List UInt8} {j : Nat} {x : UInt8} (h : t[j]? = some x) : ∀ p : j < (ByteArray.mk t.toArray).size, (ByteArray.mk t.toArray)[j]'p = x := fun p => by
  have : (ByteArray.mk t.toArray)[j]'p = t.toArray[j]'p := rfl
  rw [this]
  have h2 : t.toArray[j]? = some x := by simpa using h
  exact (Array.getElem?_eq_some_iff.1 h2).2
set_option maxRecDepth 100000 in
theorem decimal_any (t : List UInt8) (w : World) (hl : t.length ≤ 9223372036854775807) : Calls Tryz.prog 82 #[.string ⟨t.toArray⟩] w fun e w' => e = .returned (.bool (decB t)) ∧ w' = w := by
  by_cases hne : t = []
  · subst hne
    go_enter Tryz.func82, Tryz.ntmps82
    go_wp2
    go_ret
    exact ⟨rfl, rfl⟩
  have hle : 0 < t.length := List.length_pos_iff.2 hne
  obtain ⟨a, ha⟩ := at_ t 0 hle
  have hx0 := byte_at ha
  have hq : t.isEmpty = false := by simp [hne]
  by_cases hld : 1 < t.length ∧ a = 48
  · have h1 : (1 : Int) < (t.length : Int) := by omega
    have HV : Hid (decB t = false) := Lib.hid (by
      unfold decB
      rw [decide_eq_false (fun h => h.2 ⟨by omega, by rw [ha, hld.2]⟩)]
      rfl)
    have h2 : ((a.toNat : Int) == 48) = true := by rw [hld.2]; rfl
    clear hld ha hne
    go_enter Tryz.func82, Tryz.ntmps82
    go_wp2
    go_ret
    exact ⟨ret_bool HV.out.symm, rfl⟩
  · have HV : Hid (decB t = t.all isDc) := Lib.hid (by
      unfold decB
      rw [decide_eq_true ⟨hne, fun h => hld ⟨h.1, by have := h.2; rw [ha] at this; injection this⟩⟩, Bool.true_and])
    have HH := Lib.hid ha
    have hc : (t.length : Int) ≤ 1 ∨ ((1 : Int) < (t.length : Int) ∧ ((a.toNat : Int) == 48) = false) := by
      by_cases h1 : 1 < t.length
      · refine .inr ⟨by omega, ?_⟩
        have : a ≠ 48 := fun e => hld ⟨h1, e⟩
        have h3 : a.toNat ≠ 48 := fun e => this (UInt8.toNat_inj.1 (by rw [e]; rfl))
        simp
        omega
      · exact .inl (by omega)
    clear hld ha hne
    have loop : ∀ (b : Bool) (k : Nat), True := fun _ _ => trivial
    rcases hc with h1 | ⟨h1, h2⟩
    all_goals
      go_enter Tryz.func82, Tryz.ntmps82
      go_wp2
      go_loopw [18] (fun iv wr => ∃ k : Nat, k ≤ t.length ∧ iv = .int .i64 k ∧ Hid ((t.take k).all isDc = true) ∧ wr = w) (fun iv _ => t.length - (intOf iv).toNat)
      case atStart => exact ⟨0, Nat.zero_le _, rfl, Lib.hid rfl, rfl⟩
      case round =>
        obtain ⟨k, hk, rfl, HA, rfl⟩ := hrel
        have k0 : (0 : Int) ≤ (k : Int) := by omega
        by_cases hlt : k < t.length
        · have hltI : (k : Int) < (t.length : Int) := by omega
          obtain ⟨x, hx⟩ := at_ t k hlt
          have hb := byte_at hx
          by_cases hd : isDc x = true
          · have hd' := of_decide_eq_true hd
            have u1 : ¬ ((x.toNat : Int) < 48) := by omega
            have u2 : ¬ ((57 : Int) < (x.toNat : Int)) := by omega
            have HA2 : Hid ((t.take (k + 1)).all isDc = true) := Lib.hid (by rw [take_snoc hx, List.all_append, HA.out]; simp [hd])
            clear hd hd' hx
            go_wp2
            go_roundw
            case rel => exact ⟨k + 1, by omega, by go_num, HA2, trivial⟩
            case measure => simp [intOf]; omega
          · have hv : Hid (decB t = false) := Lib.hid (by
              rw [HV.out]
              refine List.all_eq_false.2 ⟨x, List.mem_of_getElem? hx, hd⟩)
            by_cases u1 : (x.toNat : Int) < 48
            · clear hd hx
              go_wp2
              go_ret
              exact ⟨ret_bool hv.out.symm, rfl⟩
            · have u2 : (57 : Int) < (x.toNat : Int) := by
                rcases Int.lt_or_le 57 (x.toNat : Int) with h | h
                · exact h
                · exact absurd (decide_eq_true (by omega)) hd
              clear hd hx
              go_wp2
              go_ret
              exact ⟨ret_bool hv.out.symm, rfl⟩
        · obtain rfl : t.length = k := by omega
          have hv : Hid (decB t = true) := Lib.hid (by
            have h := HA.out
            rw [List.take_length] at h
            rw [HV.out, h])
          go_wp2
          go_ret
          exact ⟨ret_bool hv.out.symm, rfl⟩
/-- a string without its sign -/
theorem cut_minus (s : List UInt8) (w : World) : Calls Tryz.prog 81 #[.string ⟨s.toArray⟩, .string ⟨#[45]⟩] w fun e w' => (∃ t, s = 45 :: t ∧ e = .returned (.tuple #[.string ⟨t.toArray⟩, .bool true]) ∧ w' = w) ∨ (s[0]? ≠ some 45 ∧ e = .returned (.tuple #[.string ⟨s.toArray⟩, .bool false]) ∧ w' = w) := by
  refine (Tryz.strings_CutPrefix ⟨s.toArray⟩ ⟨#[45]⟩ w).mono fun e w' ⟨h1, h2⟩ => ?_
  subst h2
  cases s with
  | nil => exact .inr ⟨by simp, h1, rfl⟩
  | cons a t =>
    by_cases ha : a = 45
    · subst ha
      refine .inl ⟨t, rfl, ?_, rfl⟩
      rw [h1]
      simp [Lib.trimPrefix, Lib.hasPrefix]
    · refine .inr ⟨by simpa using ha, ?_, rfl⟩
      rw [h1]
      have ha' : ¬ 45 = a := fun e => ha e.symm
      simp [Lib.trimPrefix, Lib.hasPrefix, ha', List.isPrefixOf]
end Go.Proofs.YtnifkianjpjahaaGreatDoor.Bg
/- Big integers: Read, of every string. -/
namespace Go.Proofs.YtnifkianjpjahaaGreatDoor.Bg
open Go.ChangeShapes Go.WideShapes Go.ChangeAt Go.RowKit Go.Proofs.YtnifkianjpjahaaGreatDoor.Cell
set_option linter.unusedVariables false
set_option linter.unusedSimpArgs false
variable {N0 : Nat}

theorem own_set {W : World} {base n size cap g j : Nat} {e : TypeId} {xs : List Value} (h : W.ownsRow base e size (.slice (some ⟨g, 0, none⟩) n cap) n xs) (u : Value) : (W.setCell ⟨g, j, none⟩ u).ownsRow base e size (.slice (some ⟨g, 0, none⟩) n cap) n (xs.set j u) := by
  refine ⟨by rw [List.length_set]; exact h.1, ?_⟩
  rcases h.2 with ⟨c, _⟩ | ⟨g', cap', cur, hv, hb, hg, h1, h2, h3, h4⟩
  · cases c
  · injection hv with e1 e2 e3
    injection e1 with e1
    injection e1 with e1
    subst e1 e3
    refine .inr ⟨g, cap, cur.setIfInBounds j u, rfl, hb, Row.set (t := e) (cs := cur) hg j u, h1, h2, by rw [Array.size_setIfInBounds]; exact h3, ?_⟩
    rw [Array.toList_setIfInBounds, List.take_set, h4]
/-- a number times ten, and a digit, as far as k digits of it -/
structure Mt (L out : List Int) (k : Nat) (cy d : Int) : Prop where
  dg : Dg out
  len : out.length = k
  rng : 0 ≤ cy ∧ cy ≤ 9
  eq : val out + pw k * (cy + 10 * val (L.drop k)) = 10 * val L + d
theorem Mt.start (L : List Int) {d : Int} (hd : 0 ≤ d ∧ d ≤ 9) : Mt L [] 0 d d := ⟨Dg.nil, rfl, hd, by rw [List.drop_zero, val_nil, pw_zero]; omega⟩
theorem Mt.step {L out : List Int} {k : Nat} {cy d z : Int} (h : Mt L out k cy d) (hz : L[k]? = some z) (hb : 0 ≤ z ∧ z < 1048576) : Mt L (out ++ [(z * 10 + cy) % 1048576]) (k + 1) ((z * 10 + cy) / 1048576) d := by
  have h3 := h.rng
  refine ⟨h.dg.snoc (by omega), by rw [List.length_append, h.len]; rfl, by omega, ?_⟩
  have e := h.eq
  rw [drop_at hz, val_cons] at e
  rw [val_snoc, h.len, pw_succ]
  have h4 : 1048576 * ((z * 10 + cy) / 1048576) + (z * 10 + cy) % 1048576 = z * 10 + cy := by omega
  obtain ⟨q, hq⟩ : ∃ q, (z * 10 + cy) / 1048576 = q := ⟨_, rfl⟩
  obtain ⟨r, hr⟩ : ∃ r, (z * 10 + cy) % 1048576 = r := ⟨_, rfl⟩
  rw [hq, hr] at h4
  rw [hq, hr, ← e]
  have h5 : cy = 1048576 * q + r - z * 10 := by omega
  rw [h5]
  grind
theorem Tr.of_ge {l : List Int} (h : Dg l) (hv : pw (l.length - 1) ≤ val l) : Tr l := fun e => by
  have h0 : l ≠ [] := fun e0 => by rw [e0] at e; simp at e
  obtain ⟨t, d, rfl⟩ : ∃ t d, l = t ++ [d] := last_snoc h0
  have hd : d = 0 := by simpa using e
  subst hd
  have h1 := val_lt (l := t) (fun x hx => h x (List.mem_append.2 (.inl hx)))
  rw [val_snoc, List.length_append, List.length_singleton, Nat.add_sub_cancel] at hv
  omega
theorem Mt.more {L out : List Int} {n : Nat} {cy d v : Int} (h : Mt L out n cy d) (hL : Nm L v) (hn : L.length = n) (hc : 0 < cy) : Nm (out ++ [cy]) (v * 10 + d) := by
  have e := h.eq
  have h3 := h.rng
  rw [List.drop_of_length_le (by omega), val_nil, hL.2.2] at e
  refine ⟨h.dg.snoc (by omega), Tr.snoc (by omega), ?_⟩
  rw [val_snoc, h.len]
  rw [Int.mul_zero, Int.add_zero] at e
  omega
theorem Mt.same {L out : List Int} {n : Nat} {cy d v : Int} (h : Mt L out n cy d) (hL : Nm L v) (hn : L.length = n) (hc : ¬ 0 < cy) (hd : 0 ≤ d) : Nm out (v * 10 + d) := by
  have e := h.eq
  have h3 := h.rng
  obtain rfl : cy = 0 := by omega
  rw [List.drop_of_length_le (by omega), val_nil, hL.2.2] at e
  rw [Int.mul_zero, Int.add_zero, Int.mul_zero, Int.add_zero] at e
  refine ⟨h.dg, ?_, by omega⟩
  by_cases h0 : n = 0
  · have : out = [] := List.length_eq_zero_iff.1 (by rw [h.len]; exact h0)
    rw [this]
    exact Tr.nil
  · refine Tr.of_ge h.dg ?_
    have h4 := val_ge hL.1 hL.2.1 (fun e0 => h0 (by rw [← hn, e0]; rfl))
    rw [hL.2.2, hn] at h4
    rw [h.len]
    have := pw_pos (n - 1)
    omega
/-- what Read says of a text -/
def rdE (s : List UInt8) : Int := match rd s with | none => 2 | some z => fe z
def rdV (s : List UInt8) : Int := match rd s with | none => 0 | some z => fz z
theorem rd_minus (t : List UInt8) : rd (45 :: t) = if decB t = true ∧ t ≠ [48] then some (-(dv t : Int)) else none := by
  unfold rd
  rw [if_pos (show (45 :: t)[0]? = some 45 from rfl)]
  rfl
theorem rd_plain {s : List UInt8} (h : s[0]? ≠ some 45) : rd s = if decB s = true then some (dv s : Int) else none := by
  unfold rd
  rw [if_neg h]
/-- the number that is read, of its digits and its sign -/
def sgd (neg : Bool) (t : List UInt8) : Int := if neg then -(dv t : Int) else (dv t : Int)
set_option maxRecDepth 100000 in
set_option maxHeartbeats 8000000 in
theorem read_no1 {s t : List UInt8} {neg : Bool} (w : World) (hcut : ∀ W, Calls Tryz.prog 81 #[.string ⟨s.toArray⟩, .string ⟨#[45]⟩] W fun e w' => e = .returned (.tuple #[.string ⟨t.toArray⟩, .bool neg]) ∧ w' = W) (hl : t.length ≤ 9223372036854775807) (hd : decB t = false) :
    Calls Tryz.prog 22 #[.string ⟨s.toArray⟩] w fun e w' => e = .returned (.tuple #[zeroV, .int .i64 2]) ∧ Below w.heap.size w w' := by
  have HD := Lib.hid hd
  have HR0 := Lib.hid (Res.new (Below.refl w.heap.size w))
  clear hd
  go_enter Tryz.func22, Tryz.ntmps22
  go_wp2_with (fail)
  go_must (refine (hcut _).mono ?_)
  rintro e w2 ⟨rfl, rfl⟩
  go_wp2_with (fail)
  go_must (refine (decimal_any t _ hl).mono ?_)
  rintro e w2 ⟨rfl, rfl⟩
  rw [HD.out]
  have d0 := HR0.out.c0
  have d1 := HR0.out.c1
  have f0 := HR0.out.row.frozen 0
  have f1 := HR0.out.row.frozen 1
  have hg := HR0.out.row.lt
  go_wp2
  refine bodyPost_ret (v := .tuple #[zeroV, .int .i64 2]) ?_ rfl ⟨rfl, HR0.out.bl⟩
  simp [results, Tryz.results22, go_sem, *]
set_option maxRecDepth 100000 in
set_option maxHeartbeats 8000000 in
theorem read_no2 {s t : List UInt8} (w : World) (hcut : ∀ W, Calls Tryz.prog 81 #[.string ⟨s.toArray⟩, .string ⟨#[45]⟩] W fun e w' => e = .returned (.tuple #[.string ⟨t.toArray⟩, .bool true]) ∧ w' = W) (hl : t.length ≤ 9223372036854775807) (hd : decB t = true) (h0 : t = [48]) :
    Calls Tryz.prog 22 #[.string ⟨s.toArray⟩] w fun e w' => e = .returned (.tuple #[zeroV, .int .i64 2]) ∧ Below w.heap.size w w' := by
  have HD := Lib.hid hd
  have HR0 := Lib.hid (Res.new (Below.refl w.heap.size w))
  clear hd
  subst h0
  go_enter Tryz.func22, Tryz.ntmps22
  go_wp2_with (fail)
  go_must (refine (hcut _).mono ?_)
  rintro e w2 ⟨rfl, rfl⟩
  go_wp2_with (fail)
  go_must (refine (decimal_any [48] _ hl).mono ?_)
  rintro e w2 ⟨rfl, rfl⟩
  rw [HD.out]
  have d0 := HR0.out.c0
  have d1 := HR0.out.c1
  have f0 := HR0.out.row.frozen 0
  have f1 := HR0.out.row.frozen 1
  have hg := HR0.out.row.lt
  go_wp2
  refine bodyPost_ret (v := .tuple #[zeroV, .int .i64 2]) ?_ rfl ⟨rfl, HR0.out.bl⟩
  simp [results, Tryz.results22, go_sem, *]
set_option maxRecDepth 100000 in
set_option maxHeartbeats 8000000 in
theorem read_full_true {s t : List UInt8} (w : World) (hcut : ∀ W, Calls Tryz.prog 81 #[.string ⟨s.toArray⟩, .string ⟨#[45]⟩] W fun e w' => e = .returned (.tuple #[.string ⟨t.toArray⟩, .bool true]) ∧ w' = W) (hl : t.length ≤ 9223372036854775807) (hd : decB t = true) (h0 : t ≠ [48]) (h362 : 362 < t.length) :
    Calls Tryz.prog 22 #[.string ⟨s.toArray⟩] w fun e w' => e = .returned (.tuple #[zeroV, .int .i64 6]) ∧ Below w.heap.size w w' := by
  have HD := Lib.hid hd
  have h1 : (362 : Int) < (t.length : Int) := by omega
  have HR0 := Lib.hid (Res.new (Below.refl w.heap.size w))
  have hq : (t == [48]) = false := by simp [h0]
  clear hd h362
  go_enter Tryz.func22, Tryz.ntmps22
  go_wp2_with (fail)
  go_must (refine (hcut _).mono ?_)
  rintro e w2 ⟨rfl, rfl⟩
  go_wp2_with (fail)
  go_must (refine (decimal_any t _ hl).mono ?_)
  rintro e w2 ⟨rfl, rfl⟩
  rw [HD.out]
  have d0 := HR0.out.c0
  have d1 := HR0.out.c1
  have f0 := HR0.out.row.frozen 0
  have f1 := HR0.out.row.frozen 1
  have hg := HR0.out.row.lt
  go_wp2
  refine bodyPost_ret (v := .tuple #[zeroV, .int .i64 6]) ?_ rfl ⟨rfl, HR0.out.bl⟩
  simp [results, Tryz.results22, go_sem, *]
set_option maxRecDepth 100000 in
set_option maxHeartbeats 8000000 in
theorem read_full_false {s t : List UInt8} (w : World) (hcut : ∀ W, Calls Tryz.prog 81 #[.string ⟨s.toArray⟩, .string ⟨#[45]⟩] W fun e w' => e = .returned (.tuple #[.string ⟨t.toArray⟩, .bool false]) ∧ w' = W) (hl : t.length ≤ 9223372036854775807) (hd : decB t = true) (h362 : 362 < t.length) :
    Calls Tryz.prog 22 #[.string ⟨s.toArray⟩] w fun e w' => e = .returned (.tuple #[zeroV, .int .i64 6]) ∧ Below w.heap.size w w' := by
  have HD := Lib.hid hd
  have h1 : (362 : Int) < (t.length : Int) := by omega
  have HR0 := Lib.hid (Res.new (Below.refl w.heap.size w))
  clear hd h362
  go_enter Tryz.func22, Tryz.ntmps22
  go_wp2_with (fail)
  go_must (refine (hcut _).mono ?_)
  rintro e w2 ⟨rfl, rfl⟩
  go_wp2_with (fail)
  go_must (refine (decimal_any t _ hl).mono ?_)
  rintro e w2 ⟨rfl, rfl⟩
  rw [HD.out]
  have d0 := HR0.out.c0
  have d1 := HR0.out.c1
  have f0 := HR0.out.row.frozen 0
  have f1 := HR0.out.row.frozen 1
  have hg := HR0.out.row.lt
  go_wp2
  refine bodyPost_ret (v := .tuple #[zeroV, .int .i64 6]) ?_ rfl ⟨rfl, HR0.out.bl⟩
  simp [results, Tryz.results22, go_sem, *]
set_option maxRecDepth 100000 in
set_option maxHeartbeats 16000000 in
theorem read_ok_true {s t : List UInt8} (w : World) (hcut : ∀ W, Calls Tryz.prog 81 #[.string ⟨s.toArray⟩, .string ⟨#[45]⟩] W fun e w' => e = .returned (.tuple #[.string ⟨t.toArray⟩, .bool true]) ∧ w' = W) (hl : t.length ≤ 9223372036854775807) (hd : decB t = true) (h0 : t ≠ [48]) (h362 : t.length ≤ 362) :
    Calls Tryz.prog 22 #[.string ⟨s.toArray⟩] w fun e w' => ∃ v, e = .returned (.tuple #[v, .int .i64 (fe (-(dv t : Int)))]) ∧ IsBig N0 w' v (fz (-(dv t : Int))) ∧ Below w.heap.size w w' := by
  obtain ⟨iI, hiI, hzI, hyI, hxI⟩ := info_parts infoI
  have HD := Lib.hid hd
  have HDC := Lib.hid (decB_in hd).2.2
  have h1 : ¬ (362 : Int) < (t.length : Int) := by omega
  have HSZ : Hid (∀ k, (dv (t.take k) : Int) < pw 61) := Lib.hid fun k => dv_few (List.all_eq_true.2 fun x hx => List.all_eq_true.1 (decB_in hd).2.2 x (List.mem_of_mem_take hx)) (by rw [List.length_take]; omega)
  have HR0 := Lib.hid (Res.new (Below.refl w.heap.size w))
  have HO0 : Hid ((w.alloc (.cells #[.int .i64 0, .slice none 0 0] 24)).ownsRow (w.heap.size + 1) 3 1 (.slice none 0 0) 0 (ints [])) := Lib.hid (World.ownsRow_nil _ _ _ _)
  have hq : (t == [48]) = false := by simp [h0]
  clear hd h362
  go_enter Tryz.func22, Tryz.ntmps22
  go_wp2_with (fail)
  go_must (refine (hcut _).mono ?_)
  rintro e w2 ⟨rfl, rfl⟩
  go_wp2_with (fail)
  go_must (refine (decimal_any t _ hl).mono ?_)
  rintro e w2 ⟨rfl, rfl⟩
  rw [HD.out]
  clear hcut
  go_wp2_with (fail)
  go_loopw [6, 33] (fun lv iv wr => ∃ (k n : Nat) (A : Option Addr) (c : Nat) (L : List Int), k ≤ t.length ∧ iv = .int .i64 k ∧ lv = .slice A n c ∧ L.length = n ∧ Hid (wr.ownsRow (w.heap.size + 1) 3 1 (.slice A n c) n (ints L)) ∧ Hid (Nm L (dv (t.take k))) ∧ Hid (Res w wr w.heap.size)) (fun _ iv _ => t.length - (intOf iv).toNat)
  case atStart => exact ⟨0, 0, none, 0, [], Nat.zero_le _, rfl, rfl, rfl, HO0, Lib.hid Nm.zero, HR0⟩
  case round =>
    clear HO0 HR0
    obtain ⟨k, n, A, c, L, hk, rfl, rfl, hL, HO, HM, HR⟩ := hrel
    have HL := Lib.hid hL
    clear hL
    have k0 : (0 : Int) ≤ (k : Int) := by omega
    have hn61 : n ≤ 61 := by
      rw [← HL.out]
      exact (HM.out.len 61).2 (HSZ.out k)
    by_cases hlt : k < t.length
    · have hltI : (k : Int) < (t.length : Int) := by omega
      obtain ⟨x, hx⟩ := at_ t k hlt
      have hb := byte_at hx
      have hdx := of_decide_eq_true (List.all_eq_true.1 HDC.out x (List.mem_of_getElem? hx))
      obtain ⟨d, hd⟩ : ∃ d : Int, (x.toNat : Int) - 48 = d := ⟨_, rfl⟩
      have hd0 : 0 ≤ d ∧ d ≤ 9 := by omega
      have hw8 : IntKind.u8.wrap ((x.toNat : Int) - 48) = d := by rw [IntWalk.u8_in _ (by omega), hd]
      have hw64 : IntKind.i64.wrap d = d := IntWalk.i64_in _ (by omega)
      have HN2 : Hid ((dv (t.take (k + 1)) : Int) = (dv (t.take k) : Int) * 10 + d) := Lib.hid (by rw [take_snoc hx, dv_snoc]; omega)
      have HC0 := Lib.hid (Mt.start L hd0)
      have HDD := Lib.hid hd0
      clear hdx hd hx
      go_wp2
      clear hb hw8
      go_loopw [8, 43] (fun cv jv wr => ∃ (j : Nat) (out : List Int) (cy : Int), j ≤ n ∧ jv = .int .i64 j ∧ cv = .int .i64 cy ∧ Hid (wr.ownsRow (w.heap.size + 1) 3 1 (.slice A n c) n (ints (out ++ L.drop j))) ∧ Hid (Mt L out j cy d) ∧ Hid (Res w wr w.heap.size)) (fun _ jv _ => n - (intOf jv).toNat)
      case atStart => exact ⟨0, [], d, Nat.zero_le _, rfl, rfl, HO, HC0, HR⟩
      case round =>
        clear HO HC0 HR
        obtain ⟨j, out, cy, hj, rfl, rfl, HO, HC, HR⟩ := hrel
        have j0 : (0 : Int) ≤ (j : Int) := by omega
        obtain ⟨y0, y1⟩ := HC.out.rng
        by_cases hjn : j < n
        · have hjI : (j : Int) < (n : Int) := by omega
          obtain ⟨z, hz⟩ := at_ L j (by rw [HL.out]; exact hjn)
          have hzb := HM.out.1.at_ hz
          obtain ⟨g, c', hv, hgB, hcn, hB⟩ := blk_own HO.out (by omega) (by rw [List.length_append, HC.out.len, List.length_drop, HL.out]; omega)
          injection hv with e1 e2 e3
          subst e1 e3
          have l1 := hB.cell (at_mid HC.out.len hz)
          have hf := hB.frozen j
          have hgl := hB.lt
          have hs := HC.out.step hz hzb
          have w1 : IntKind.i64.wrap (z * 10) = z * 10 := IntWalk.i64_in _ (by omega)
          obtain ⟨p, hp⟩ : ∃ p, z * 10 = p := ⟨_, rfl⟩
          rw [hp] at hs w1
          have hand := and_mask (p + cy) (by omega)
          have w2 : IntKind.i64.wrap (p + cy) = p + cy := IntWalk.i64_in _ (by omega)
          obtain ⟨u, hu⟩ : ∃ u, p + cy = u := ⟨_, rfl⟩
          rw [hu] at hs w2 hand
          obtain ⟨r, hr⟩ : ∃ r, u % 1048576 = r := ⟨_, rfl⟩
          obtain ⟨q, hq⟩ : ∃ q, u / 1048576 = q := ⟨_, rfl⟩
          rw [hr, hq] at hs
          rw [hr] at hand
          have HS2 := Lib.hid hs
          have HO2 : Hid ((wr.setCell ⟨g, j, none⟩ (.int .i64 r)).ownsRow (w.heap.size + 1) 3 1 (.slice (some ⟨g, 0, none⟩) n c) n (ints ((out ++ [r]) ++ L.drop (j + 1)))) := Lib.hid (by
            have h := own_set (j := j) HO.out (.int .i64 r)
            rw [← set_mid HC.out.len hz]
            have e : (ints (out ++ L.drop j)).set j (.int .i64 r) = ints ((out ++ L.drop j).set j r) := by simp [ints]
            rw [← e]
            exact h)
          have HR2 : Hid (Res w (wr.setCell ⟨g, j, none⟩ (.int .i64 r)) w.heap.size) := Lib.hid ⟨by
            have hne : w.heap.size ≠ g := by omega
            have h := HR.out.row
            unfold Row at h ⊢
            rw [Below.heap_setCell _ _ _ _ hne]
            exact h, Gen.b_set HR.out.bl (by show w.heap.size ≤ g; omega), Nat.le_refl _⟩
          clear hz hzb hs hB hgB hcn
          go_wp2
          go_roundw
          case rel => exact ⟨j + 1, out ++ [r], q, by omega, by go_num, rfl, HO2, HS2, HR2⟩
          case measure => simp [intOf]; omega
        · obtain rfl : n = j := by omega
          have HO3 : Hid (wr.ownsRow (w.heap.size + 1) 3 1 (.slice A n c) n (ints out)) := Lib.hid (by
            have h := HO.out
            rw [List.drop_of_length_le (by rw [HL.out]; exact Nat.le_refl _), List.append_nil] at h
            exact h)
          have HLO := Lib.hid HC.out.len
          clear HO
          by_cases hcy : 0 < cy
          · have HN3 : Hid (Nm (out ++ [cy]) (dv (t.take (k + 1)))) := Lib.hid (by rw [HN2.out]; exact HC.out.more HM.out HL.out hcy)
            have N1 : Hid (n + 1 ≤ maxLen) := Lib.hid (by simp only [maxLen]; omega)
            have N2 : Hid ((n + 1) * 8 ≤ 140737488355328) := Lib.hid (by omega)
            have hg := HR.out.row.lt
            go_wp2_with (first
              | (at_builtin
                 go_must (refine App.wpList_append_any _ rfl (.tmp 63) (.tmp 65) _ rfl (w.heap.size + 1) 3 iI _ 1 8 Tryz.underlying22 hiI hzI hyI hxI rfl (by omega) (.slice A n c) n (ints out) rfl (Gen.own_keep HO3.out (Gen.b_alloc (Below.refl _ _))) _ _ 1 1 (ints [cy]) rfl (Gen.reads_blk (by simp) rfl) (by simp [ints, Value.oneCell']) N1.out N2.out (by simp; omega) ?_)
                 intro v7 w7 ho7 hg7 ha7
                 have HR7 : Hid (Res w w7 w.heap.size) := Lib.hid ⟨Gen.g_row HO3.out hg7 (by omega) (HR.out.row.alloc _), Gen.g_below HO3.out hg7 (Gen.b_alloc HR.out.bl) (by omega), Nat.le_refl _⟩
                 obtain ⟨A7, c7, hv7, _⟩ := Gen.own_slice ho7
                 subst hv7
                 have HO7 := Lib.hid ho7
                 clear hg7 ha7 ho7)
              | fail)
            go_roundw
            case rel => exact ⟨k + 1, n + 1, A7, c7, out ++ [cy], by omega, by go_num, rfl, by rw [List.length_append, HLO.out]; rfl, Lib.hid (by rw [ints, List.map_append]; exact HO7.out), HN3, HR7⟩
            case measure => simp [intOf]; omega
          · have HN3 : Hid (Nm out (dv (t.take (k + 1)))) := Lib.hid (by rw [HN2.out]; exact HC.out.same HM.out HL.out hcy HDD.out.1)
            go_wp2
            go_roundw
            case rel => exact ⟨k + 1, n, A, c, out, by omega, by go_num, rfl, HLO.out, HO3, HN3, HR⟩
            case measure => simp [intOf]; omega
    · obtain rfl : t.length = k := by omega
      have HNZ : Hid (Nm L (-(dv t : Int)).natAbs) := Lib.hid (by
        have h := HM.out
        rw [List.take_length] at h
        exact h.to (by omega))
      have HSG : Hid ((-(dv t : Int)) ≠ 0 → (-1 : Int) = sg (-(dv t : Int))) := Lib.hid fun h => (sg_neg (by omega)).symm
      obtain ⟨A7, c7, hv7, hI7⟩ := ints_own (N0 := N0) HO.out HL.out
      injection hv7 with e1 _ e2
      subst e1 e2
      have HI7 := Lib.hid hI7
      clear hI7
      go_wp2_with (fail)
      go_must (refine (fit_any _ HL.out HI7.out HNZ.out (by omega) HSG.out).mono ?_)
      rintro e w4 ⟨v, rfl, hv, hb4⟩
      obtain ⟨A3, c3, l3, rfl, _⟩ := hv.ex
      have HR2 := Lib.hid (HR.out.keep hb4)
      have HV := Lib.hid hv
      have d0 := HR2.out.c0
      have d1 := HR2.out.c1
      have f0 := HR2.out.row.frozen 0
      have f1 := HR2.out.row.frozen 1
      have hg := HR2.out.row.lt
      clear hb4 hv
      go_wp2
      refine bodyPost_ret (v := .tuple #[bigV (sg (fz (-(dv t : Int)))) A3 l3.length c3, .int .i64 (fe (-(dv t : Int)))]) ?_ rfl ⟨_, rfl, HR2.out.big HV.out _ _, HR2.out.put _ _⟩
      simp [results, Tryz.results22, go_sem, *]
set_option maxRecDepth 100000 in
set_option maxHeartbeats 16000000 in
theorem read_ok_false {s t : List UInt8} (w : World) (hcut : ∀ W, Calls Tryz.prog 81 #[.string ⟨s.toArray⟩, .string ⟨#[45]⟩] W fun e w' => e = .returned (.tuple #[.string ⟨t.toArray⟩, .bool false]) ∧ w' = W) (hl : t.length ≤ 9223372036854775807) (hd : decB t = true) (h362 : t.length ≤ 362) :
    Calls Tryz.prog 22 #[.string ⟨s.toArray⟩] w fun e w' => ∃ v, e = .returned (.tuple #[v, .int .i64 (fe ((dv t : Int)))]) ∧ IsBig N0 w' v (fz ((dv t : Int))) ∧ Below w.heap.size w w' := by
  obtain ⟨iI, hiI, hzI, hyI, hxI⟩ := info_parts infoI
  have HD := Lib.hid hd
  have HDC := Lib.hid (decB_in hd).2.2
  have h1 : ¬ (362 : Int) < (t.length : Int) := by omega
  have HSZ : Hid (∀ k, (dv (t.take k) : Int) < pw 61) := Lib.hid fun k => dv_few (List.all_eq_true.2 fun x hx => List.all_eq_true.1 (decB_in hd).2.2 x (List.mem_of_mem_take hx)) (by rw [List.length_take]; omega)
  have HR0 := Lib.hid (Res.new (Below.refl w.heap.size w))
  have HO0 : Hid ((w.alloc (.cells #[.int .i64 0, .slice none 0 0] 24)).ownsRow (w.heap.size + 1) 3 1 (.slice none 0 0) 0 (ints [])) := Lib.hid (World.ownsRow_nil _ _ _ _)
  clear hd h362
  go_enter Tryz.func22, Tryz.ntmps22
  go_wp2_with (fail)
  go_must (refine (hcut _).mono ?_)
  rintro e w2 ⟨rfl, rfl⟩
  go_wp2_with (fail)
  go_must (refine (decimal_any t _ hl).mono ?_)
  rintro e w2 ⟨rfl, rfl⟩
  rw [HD.out]
  clear hcut
  go_wp2_with (fail)
  go_loopw [6, 33] (fun lv iv wr => ∃ (k n : Nat) (A : Option Addr) (c : Nat) (L : List Int), k ≤ t.length ∧ iv = .int .i64 k ∧ lv = .slice A n c ∧ L.length = n ∧ Hid (wr.ownsRow (w.heap.size + 1) 3 1 (.slice A n c) n (ints L)) ∧ Hid (Nm L (dv (t.take k))) ∧ Hid (Res w wr w.heap.size)) (fun _ iv _ => t.length - (intOf iv).toNat)
  case atStart => exact ⟨0, 0, none, 0, [], Nat.zero_le _, rfl, rfl, rfl, HO0, Lib.hid Nm.zero, HR0⟩
  case round =>
    clear HO0 HR0
    obtain ⟨k, n, A, c, L, hk, rfl, rfl, hL, HO, HM, HR⟩ := hrel
    have HL := Lib.hid hL
    clear hL
    have k0 : (0 : Int) ≤ (k : Int) := by omega
    have hn61 : n ≤ 61 := by
      rw [← HL.out]
      exact (HM.out.len 61).2 (HSZ.out k)
    by_cases hlt : k < t.length
    · have hltI : (k : Int) < (t.length : Int) := by omega
      obtain ⟨x, hx⟩ := at_ t k hlt
      have hb := byte_at hx
      have hdx := of_decide_eq_true (List.all_eq_true.1 HDC.out x (List.mem_of_getElem? hx))
      obtain ⟨d, hd⟩ : ∃ d : Int, (x.toNat : Int) - 48 = d := ⟨_, rfl⟩
      have hd0 : 0 ≤ d ∧ d ≤ 9 := by omega
      have hw8 : IntKind.u8.wrap ((x.toNat : Int) - 48) = d := by rw [IntWalk.u8_in _ (by omega), hd]
      have hw64 : IntKind.i64.wrap d = d := IntWalk.i64_in _ (by omega)
      have HN2 : Hid ((dv (t.take (k + 1)) : Int) = (dv (t.take k) : Int) * 10 + d) := Lib.hid (by rw [take_snoc hx, dv_snoc]; omega)
      have HC0 := Lib.hid (Mt.start L hd0)
      have HDD := Lib.hid hd0
      clear hdx hd hx
      go_wp2
      clear hb hw8
      go_loopw [8, 43] (fun cv jv wr => ∃ (j : Nat) (out : List Int) (cy : Int), j ≤ n ∧ jv = .int .i64 j ∧ cv = .int .i64 cy ∧ Hid (wr.ownsRow (w.heap.size + 1) 3 1 (.slice A n c) n (ints (out ++ L.drop j))) ∧ Hid (Mt L out j cy d) ∧ Hid (Res w wr w.heap.size)) (fun _ jv _ => n - (intOf jv).toNat)
      case atStart => exact ⟨0, [], d, Nat.zero_le _, rfl, rfl, HO, HC0, HR⟩
      case round =>
        clear HO HC0 HR
        obtain ⟨j, out, cy, hj, rfl, rfl, HO, HC, HR⟩ := hrel
        have j0 : (0 : Int) ≤ (j : Int) := by omega
        obtain ⟨y0, y1⟩ := HC.out.rng
        by_cases hjn : j < n
        · have hjI : (j : Int) < (n : Int) := by omega
          obtain ⟨z, hz⟩ := at_ L j (by rw [HL.out]; exact hjn)
          have hzb := HM.out.1.at_ hz
          obtain ⟨g, c', hv, hgB, hcn, hB⟩ := blk_own HO.out (by omega) (by rw [List.length_append, HC.out.len, List.length_drop, HL.out]; omega)
          injection hv with e1 e2 e3
          subst e1 e3
          have l1 := hB.cell (at_mid HC.out.len hz)
          have hf := hB.frozen j
          have hgl := hB.lt
          have hs := HC.out.step hz hzb
          have w1 : IntKind.i64.wrap (z * 10) = z * 10 := IntWalk.i64_in _ (by omega)
          obtain ⟨p, hp⟩ : ∃ p, z * 10 = p := ⟨_, rfl⟩
          rw [hp] at hs w1
          have hand := and_mask (p + cy) (by omega)
          have w2 : IntKind.i64.wrap (p + cy) = p + cy := IntWalk.i64_in _ (by omega)
          obtain ⟨u, hu⟩ : ∃ u, p + cy = u := ⟨_, rfl⟩
          rw [hu] at hs w2 hand
          obtain ⟨r, hr⟩ : ∃ r, u % 1048576 = r := ⟨_, rfl⟩
          obtain ⟨q, hq⟩ : ∃ q, u / 1048576 = q := ⟨_, rfl⟩
          rw [hr, hq] at hs
          rw [hr] at hand
          have HS2 := Lib.hid hs
          have HO2 : Hid ((wr.setCell ⟨g, j, none⟩ (.int .i64 r)).ownsRow (w.heap.size + 1) 3 1 (.slice (some ⟨g, 0, none⟩) n c) n (ints ((out ++ [r]) ++ L.drop (j + 1)))) := Lib.hid (by
            have h := own_set (j := j) HO.out (.int .i64 r)
            rw [← set_mid HC.out.len hz]
            have e : (ints (out ++ L.drop j)).set j (.int .i64 r) = ints ((out ++ L.drop j).set j r) := by simp [ints]
            rw [← e]
            exact h)
          have HR2 : Hid (Res w (wr.setCell ⟨g, j, none⟩ (.int .i64 r)) w.heap.size) := Lib.hid ⟨by
            have hne : w.heap.size ≠ g := by omega
            have h := HR.out.row
            unfold Row at h ⊢
            rw [Below.heap_setCell _ _ _ _ hne]
            exact h, Gen.b_set HR.out.bl (by show w.heap.size ≤ g; omega), Nat.le_refl _⟩
          clear hz hzb hs hB hgB hcn
          go_wp2
          go_roundw
          case rel => exact ⟨j + 1, out ++ [r], q, by omega, by go_num, rfl, HO2, HS2, HR2⟩
          case measure => simp [intOf]; omega
        · obtain rfl : n = j := by omega
          have HO3 : Hid (wr.ownsRow (w.heap.size + 1) 3 1 (.slice A n c) n (ints out)) := Lib.hid (by
            have h := HO.out
            rw [List.drop_of_length_le (by rw [HL.out]; exact Nat.le_refl _), List.append_nil] at h
            exact h)
          have HLO := Lib.hid HC.out.len
          clear HO
          by_cases hcy : 0 < cy
          · have HN3 : Hid (Nm (out ++ [cy]) (dv (t.take (k + 1)))) := Lib.hid (by rw [HN2.out]; exact HC.out.more HM.out HL.out hcy)
            have N1 : Hid (n + 1 ≤ maxLen) := Lib.hid (by simp only [maxLen]; omega)
            have N2 : Hid ((n + 1) * 8 ≤ 140737488355328) := Lib.hid (by omega)
            have hg := HR.out.row.lt
            go_wp2_with (first
              | (at_builtin
                 go_must (refine App.wpList_append_any _ rfl (.tmp 63) (.tmp 65) _ rfl (w.heap.size + 1) 3 iI _ 1 8 Tryz.underlying22 hiI hzI hyI hxI rfl (by omega) (.slice A n c) n (ints out) rfl (Gen.own_keep HO3.out (Gen.b_alloc (Below.refl _ _))) _ _ 1 1 (ints [cy]) rfl (Gen.reads_blk (by simp) rfl) (by simp [ints, Value.oneCell']) N1.out N2.out (by simp; omega) ?_)
                 intro v7 w7 ho7 hg7 ha7
                 have HR7 : Hid (Res w w7 w.heap.size) := Lib.hid ⟨Gen.g_row HO3.out hg7 (by omega) (HR.out.row.alloc _), Gen.g_below HO3.out hg7 (Gen.b_alloc HR.out.bl) (by omega), Nat.le_refl _⟩
                 obtain ⟨A7, c7, hv7, _⟩ := Gen.own_slice ho7
                 subst hv7
                 have HO7 := Lib.hid ho7
                 clear hg7 ha7 ho7)
              | fail)
            go_roundw
            case rel => exact ⟨k + 1, n + 1, A7, c7, out ++ [cy], by omega, by go_num, rfl, by rw [List.length_append, HLO.out]; rfl, Lib.hid (by rw [ints, List.map_append]; exact HO7.out), HN3, HR7⟩
            case measure => simp [intOf]; omega
          · have HN3 : Hid (Nm out (dv (t.take (k + 1)))) := Lib.hid (by rw [HN2.out]; exact HC.out.same HM.out HL.out hcy HDD.out.1)
            go_wp2
            go_roundw
            case rel => exact ⟨k + 1, n, A, c, out, by omega, by go_num, rfl, HLO.out, HO3, HN3, HR⟩
            case measure => simp [intOf]; omega
    · obtain rfl : t.length = k := by omega
      have HNZ : Hid (Nm L ((dv t : Int)).natAbs) := Lib.hid (by
        have h := HM.out
        rw [List.take_length] at h
        exact h.to (by omega))
      have HSG : Hid (((dv t : Int)) ≠ 0 → (1 : Int) = sg ((dv t : Int))) := Lib.hid fun h => (sg_pos (by omega)).symm
      obtain ⟨A7, c7, hv7, hI7⟩ := ints_own (N0 := N0) HO.out HL.out
      injection hv7 with e1 _ e2
      subst e1 e2
      have HI7 := Lib.hid hI7
      clear hI7
      go_wp2_with (fail)
      go_must (refine (fit_any _ HL.out HI7.out HNZ.out (by omega) HSG.out).mono ?_)
      rintro e w4 ⟨v, rfl, hv, hb4⟩
      obtain ⟨A3, c3, l3, rfl, _⟩ := hv.ex
      have HR2 := Lib.hid (HR.out.keep hb4)
      have HV := Lib.hid hv
      have d0 := HR2.out.c0
      have d1 := HR2.out.c1
      have f0 := HR2.out.row.frozen 0
      have f1 := HR2.out.row.frozen 1
      have hg := HR2.out.row.lt
      clear hb4 hv
      go_wp2
      refine bodyPost_ret (v := .tuple #[bigV (sg (fz ((dv t : Int)))) A3 l3.length c3, .int .i64 (fe ((dv t : Int)))]) ?_ rfl ⟨_, rfl, HR2.out.big HV.out _ _, HR2.out.put _ _⟩
      simp [results, Tryz.results22, go_sem, *]
theorem dv_48 : dv [48] = 0 := by decide
theorem not_fit_neg {t : List UInt8} (hd : decB t = true) (h : 362 < t.length) : ¬ Fit (-(dv t : Int)) := fun hf => by
  have := dv_long hd h
  unfold Fit at hf
  omega
theorem not_fit_pos {t : List UInt8} (hd : decB t = true) (h : 362 < t.length) : ¬ Fit (dv t : Int) := fun hf => by
  have := dv_long hd h
  unfold Fit at hf
  omega
theorem read_any (s : List UInt8) (w : World) (hl : s.length ≤ 9223372036854775807) :
    Calls Tryz.prog 22 #[.string ⟨s.toArray⟩] w fun e w' => ∃ v, e = .returned (.tuple #[v, .int .i64 (rdE s)]) ∧ IsBig N0 w' v (rdV s) ∧ Below w.heap.size w w' := by
  by_cases hm : s[0]? = some 45
  · obtain ⟨t, rfl⟩ : ∃ t, s = 45 :: t := by
      cases s with
      | nil => simp at hm
      | cons a t => simp at hm; exact ⟨t, by rw [hm]⟩
    have hcut : ∀ W, Calls Tryz.prog 81 #[.string ⟨(45 :: t).toArray⟩, .string ⟨#[45]⟩] W fun e w' => e = .returned (.tuple #[.string ⟨t.toArray⟩, .bool true]) ∧ w' = W := fun W =>
      (cut_minus (45 :: t) W).mono fun e w' h => by
        rcases h with ⟨t', e1, h2⟩ | ⟨h1, _⟩
        · injection e1 with _ e1
          subst e1
          exact h2
        · exact absurd hm h1
    have hlt : t.length ≤ 9223372036854775807 := by simp at hl; omega
    cases hd : decB t
    · have hr : rd (45 :: t) = none := by rw [rd_minus, if_neg (by rw [hd]; simp)]
      refine (read_no1 w hcut hlt hd).mono fun e w' ⟨h1, h2⟩ => ⟨zeroV, ?_, ?_, h2⟩
      · rw [h1]; unfold rdE; rw [hr]
      · unfold rdV; rw [hr]; exact IsBig.zero _
    · by_cases h0 : t = [48]
      · have hr : rd (45 :: t) = none := by rw [rd_minus, if_neg (fun h => h.2 h0)]
        refine (read_no2 w hcut hlt hd h0).mono fun e w' ⟨h1, h2⟩ => ⟨zeroV, ?_, ?_, h2⟩
        · rw [h1]; unfold rdE; rw [hr]
        · unfold rdV; rw [hr]; exact IsBig.zero _
      · have hr : rd (45 :: t) = some (-(dv t : Int)) := by rw [rd_minus, if_pos ⟨hd, h0⟩]
        by_cases hf : 362 < t.length
        · refine (read_full_true w hcut hlt hd h0 hf).mono fun e w' ⟨h1, h2⟩ => ⟨zeroV, ?_, ?_, h2⟩
          · rw [h1]; unfold rdE; rw [hr]; dsimp only; rw [fe_no (not_fit_neg hd hf)]
          · unfold rdV; rw [hr]; dsimp only; rw [fz_no (not_fit_neg hd hf)]; exact IsBig.zero _
        · refine (read_ok_true (N0 := N0) w hcut hlt hd h0 (by omega)).mono fun e w' ⟨v, h1, h2, h3⟩ => ⟨v, ?_, ?_, h3⟩
          · rw [h1]; unfold rdE; rw [hr]
          · unfold rdV; rw [hr]; exact h2
  · have hcut : ∀ W, Calls Tryz.prog 81 #[.string ⟨s.toArray⟩, .string ⟨#[45]⟩] W fun e w' => e = .returned (.tuple #[.string ⟨s.toArray⟩, .bool false]) ∧ w' = W := fun W =>
      (cut_minus s W).mono fun e w' h => by
        rcases h with ⟨t', e1, h2⟩ | ⟨_, h2⟩
        · subst e1
          exact absurd rfl hm
        · exact h2
    cases hd : decB s
    · have hr : rd s = none := by rw [rd_plain hm, if_neg (by rw [hd]; simp)]
      refine (read_no1 w hcut hl hd).mono fun e w' ⟨h1, h2⟩ => ⟨zeroV, ?_, ?_, h2⟩
      · rw [h1]; unfold rdE; rw [hr]
      · unfold rdV; rw [hr]; exact IsBig.zero _
    · have hr : rd s = some (dv s : Int) := by rw [rd_plain hm, if_pos hd]
      by_cases hf : 362 < s.length
      · refine (read_full_false w hcut hl hd hf).mono fun e w' ⟨h1, h2⟩ => ⟨zeroV, ?_, ?_, h2⟩
        · rw [h1]; unfold rdE; rw [hr]; dsimp only; rw [fe_no (not_fit_pos hd hf)]
        · unfold rdV; rw [hr]; dsimp only; rw [fz_no (not_fit_pos hd hf)]; exact IsBig.zero _
      · refine (read_ok_false (N0 := N0) w hcut hl hd (by omega)).mono fun e w' ⟨v, h1, h2, h3⟩ => ⟨v, ?_, ?_, h3⟩
        · rw [h1]; unfold rdE; rw [hr]
        · unfold rdV; rw [hr]; exact h2
set_option maxRecDepth 100000 in
/-- the text of 0, and of what is not right -/
theorem text_zero {va : Value} (w : World) (hx : IsBig N0 w va 0) : Calls Tryz.prog 31 #[va] w fun e w' => e = .returned (.string ⟨(txt 0).toArray⟩) ∧ Below w.heap.size w w' := by
  obtain ⟨A, c, a, rfl, ha, na, h60⟩ := hx.ex
  obtain ⟨n, hn⟩ : ∃ n, a.length = n := ⟨_, rfl⟩
  rw [hn] at hx ⊢
  have HX := Lib.hid hx
  have hs : sg 0 = 0 := rfl
  rw [hs] at HX ⊢
  have HB0 : Hid (Below w.heap.size w (w.alloc (.cells #[.int .i64 0, .slice A n c] 24))) := Lib.hid (Gen.b_alloc (Below.refl _ _))
  have R0 := Lib.hid (Row.new w 24 #[.int .i64 0, .slice A n c])
  clear hx ha na hn h60 hs
  go_enter Tryz.func31, Tryz.ntmps31
  go_wp2_with (fail)
  go_must (refine (right_val (HX.out.keep HB0.out)).mono ?_)
  rintro e w2 ⟨rfl, hb2⟩
  have c0 := (R0.out.keep hb2).cell 0
  have c1 := (R0.out.keep hb2).cell 1
  have HB := Lib.hid (Gen.over hb2 HB0.out)
  clear hb2
  go_wp2
  go_ret
  exact ⟨by rw [txt_zero]; rfl, HB.out⟩
set_option maxRecDepth 100000 in
theorem text_no {s : Int} {A : Option Addr} {n c : Nat} {l : List Int} (w : World) (hx : Arg N0 w (bigV s A n c) n s l) (hr : rgtB s l = false) : Calls Tryz.prog 31 #[bigV s A n c] w fun e w' => e = .returned (.string ⟨#[]⟩) ∧ Below w.heap.size w w' := by
  have HX := Lib.hid hx
  have HRR := Lib.hid hr
  have HB0 : Hid (Below w.heap.size w (w.alloc (.cells #[.int .i64 s, .slice A n c] 24))) := Lib.hid (Gen.b_alloc (Below.refl _ _))
  clear hx hr
  go_enter Tryz.func31, Tryz.ntmps31
  go_wp2_with (fail)
  go_must (refine ((HX.out.keep HB0.out).right false HRR.out).mono ?_)
  rintro e w2 ⟨rfl, hb2⟩
  have HB := Lib.hid (Gen.over hb2 HB0.out)
  clear hb2
  go_wp2
  go_ret
  exact ⟨rfl, HB.out⟩
theorem text_all {x : Int} {va : Value} (w : World) (hT : PowTab w) (hx : IsBig N0 w va x) : Calls Tryz.prog 31 #[va] w fun e w' => e = .returned (.string ⟨(txt x).toArray⟩) ∧ Below w.heap.size w w' := by
  by_cases h : x = 0
  · subst h
    exact text_zero w hx
  · exact text_any w hT hx h
end Go.Proofs.YtnifkianjpjahaaGreatDoor.Bg
/- Big integers: products that lie above the memory that was there; variables that are written again. -/
namespace Go.Proofs.YtnifkianjpjahaaGreatDoor.Bg
open Go.ChangeShapes Go.WideShapes Go.ChangeAt Go.RowKit Go.Proofs.YtnifkianjpjahaaGreatDoor.Cell
set_option linter.unusedVariables false
set_option linter.unusedSimpArgs false

variable {N0 : Nat}
theorem add_to {x y z : Int} {va vb : Value} (w : World) (hx : IsBig N0 w va x) (hy : IsBig N0 w vb y) (hz : x + y = z) (hf : Fit z) :
    Calls Tryz.prog 11 #[va, vb] w fun e w' => ∃ v, e = .returned (.tuple #[v, .int .i64 0]) ∧ IsBig N0 w' v z ∧ Below w.heap.size w w' := by
  subst hz
  exact add_fit w hx hy hf
theorem sub_to {x y z : Int} {va vb : Value} (w : World) (hx : IsBig N0 w va x) (hy : IsBig N0 w vb y) (hz : x - y = z) (hf : Fit z) :
    Calls Tryz.prog 13 #[va, vb] w fun e w' => ∃ v, e = .returned (.tuple #[v, .int .i64 0]) ∧ IsBig N0 w' v z ∧ Below w.heap.size w w' := by
  subst hz
  exact sub_fit w hx hy hf
theorem mul_to {x y z : Int} {va vb : Value} (w : World) (hx : IsBig N0 w va x) (hy : IsBig N0 w vb y) (hz : x * y = z) (hf : Fit z) :
    Calls Tryz.prog 15 #[va, vb] w fun e w' => ∃ v, e = .returned (.tuple #[v, .int .i64 0]) ∧ IsBig N0 w' v z ∧ Below w.heap.size w w' := by
  subst hz
  exact mul_fit w hx hy hf
/-- digits elsewhere than in block g -/
theorem rset2 {W : World} {g : Nat} {t : TypeId} {a b : Value} (h : Row W g t #[a, b]) (u u' : Value) : Row ((W.setCell ⟨g, 0, none⟩ u).setCell ⟨g, 1, none⟩ u') g t #[u, u'] := by
  have h1 := (h.set 0 u).set 1 u'
  simpa using h1
theorem roff2 {W : World} {g k : Nat} {t : TypeId} {cs : Array Value} (h : Row W k t cs) (hk : k ≠ g) (u u' : Value) : Row ((W.setCell ⟨g, 0, none⟩ u).setCell ⟨g, 1, none⟩ u') k t cs := by
  unfold Row at *
  rw [Below.heap_setCell _ _ _ _ hk, Below.heap_setCell _ _ _ _ hk]
  exact h
theorem Vs.ad {W : World} {L : List (Nat × Value × Int)} {s z : Int} {A : Option Addr} {n c : Nat} (h : Vs N0 W L) (hv : IsBig N0 W (bigV s A n c) z) : Vs N0 (W.alloc (.cells #[.int .i64 s, .slice A n c] 24)) ((W.heap.size, bigV s A n c, z) :: L) := h.add hv
theorem below_ad {w W : World} {s z : Int} {A : Option Addr} {n c : Nat} (hb : Below w.heap.size w W) (hv : IsBig N0 W (bigV s A n c) z) : Below w.heap.size w (W.alloc (.cells #[.int .i64 s, .slice A n c] 24)) := Gen.b_alloc hb
theorem keep_ad {W : World} {u : Value} {y s z : Int} {A : Option Addr} {n c : Nat} (hu : IsBig N0 W u y) (hv : IsBig N0 W (bigV s A n c) z) : IsBig N0 (W.alloc (.cells #[.int .i64 s, .slice A n c] 24)) u y := hu.keep (Gen.b_alloc (Below.refl _ _))
/-- what stays when block g is written: other variables, whose digits lie elsewhere -/
theorem Vs.row {W : World} {L : List (Nat × Value × Int)} {g : Nat} {s z : Int} {A : Option Addr} {n c : Nat} (h : Vs N0 W L) (hm : (g, bigV s A n c, z) ∈ L) : Row W g 24 #[.int .i64 s, .slice A n c] := (h _ hm).1
theorem Vs.cons {W : World} {L : List (Nat × Value × Int)} {g : Nat} {s z : Int} {A : Option Addr} {n c : Nat} (h : Vs N0 W L) (hr : Row W g 24 #[.int .i64 s, .slice A n c]) (hv : IsBig N0 W (bigV s A n c) z) : Vs N0 W ((g, bigV s A n c, z) :: L) := fun p hp => by
  rcases List.mem_cons.1 hp with rfl | hp
  · exact ⟨hr, hv⟩
  · exact h p hp
/-- the same in a world in which the block is -/
theorem Vs.frz {W : World} {L : List (Nat × Value × Int)} {g : Nat} {v : Value} {z : Int} (h : Vs N0 W L) (hm : (g, v, z) ∈ L) (j : Nat) : W.frozen? ⟨g, j, none⟩ = false := (h _ hm).1.frozen j
theorem below_set2 {w W : World} {g : Nat} (hb : Below w.heap.size w W) (hg : w.heap.size ≤ g) (u u' : Value) : Below w.heap.size w ((W.setCell ⟨g, 0, none⟩ u).setCell ⟨g, 1, none⟩ u') := Gen.b_set (Gen.b_set hb hg) hg
/-- a region that makes a new variable, in any order: what holds in it -/
theorem reg_put {W X : World} {g p : Nat} {u v a b : Value} (h : Below W.heap.size W X ∧ X.cell? ⟨p, 0, none⟩ = some a ∧ X.cell? ⟨p, 1, none⟩ = some b) (hp : p < W.heap.size) (hg : W.heap.size ≤ g) :
    Below W.heap.size W ((X.setCell ⟨g, 0, none⟩ u).setCell ⟨g, 1, none⟩ v) ∧ ((X.setCell ⟨g, 0, none⟩ u).setCell ⟨g, 1, none⟩ v).cell? ⟨p, 0, none⟩ = some a ∧ ((X.setCell ⟨g, 0, none⟩ u).setCell ⟨g, 1, none⟩ v).cell? ⟨p, 1, none⟩ = some b :=
  ⟨below_set2 h.1 hg _ _, (set2_keep X g u v p 0 (by omega)).trans h.2.1, (set2_keep X g u v p 1 (by omega)).trans h.2.2⟩
theorem rowd (w : World) (t : TypeId) (cs : Array Value) : Row (w.alloc (.cells cs t)).drew w.heap.size t cs := Row.new w t cs
/-- values put into a frame -/
def upd (a : Act) (l : List (Nat × Value)) : Act := { a with tmps := l.foldl (fun t p => t.setIfInBounds p.1 p.2) a.tmps }
/-- the ways of a region, joined -/
theorem wp_join {P : Program} {C : Code} {K : Act → World → Prop} {Q : Exit → Act → World → Prop} {a : Act} {w : World} (R : Act → Act → World → Prop) (h1 : Code.wp P C (Exit.then (R a) Q) a w) (h2 : ∀ a' Y, R a a' Y → K a' Y) : Code.wp P C (Exit.then K Q) a w :=
  Code.wp_mono (fun e a' w' q => by cases e <;> first | exact h2 _ _ q | exact q) h1
/-- what holds behind a region that makes a variable of a call's result, with a constant -/
abbrev bx3 (w : World) (p q r : Array Value) : World := ((w.alloc (.cells p 24)).alloc (.cells q 24)).alloc (.cells r 24)
theorem bx3_0 (w : World) (p q r : Array Value) : Row (bx3 w p q r) w.heap.size 24 p := ((Row.new w _ _).alloc _).alloc _
theorem bx3_1 (w : World) (p q r : Array Value) : Row (bx3 w p q r) (w.heap.size + 1) 24 q := by
  have h := (Row.new (w.alloc (.cells p 24)) 24 q).alloc (.cells r 24)
  rwa [World.size_alloc] at h
theorem bx3_2 (w : World) (p q r : Array Value) : Row (bx3 w p q r) (w.heap.size + 1 + 1) 24 r := by
  have h := Row.new ((w.alloc (.cells p 24)).alloc (.cells q 24)) 24 r
  rwa [World.size_alloc, World.size_alloc] at h
theorem bx3_b (w : World) (p q r : Array Value) : Below w.heap.size w (bx3 w p q r) := Gen.b_alloc (Gen.b_alloc (Gen.b_alloc (Below.refl _ _)))
/-- what is written into memory that is no memory of ints, and not old, changes no number -/
theorem IsBig.wr {W : World} {v : Value} {z : Int} {g : Nat} {t : TypeId} {cs : Array Value} (h : IsBig N0 W v z) (r : Row W g t cs) (ht : t ≠ 3) (hg : N0 ≤ g) (j : Nat) (u : Value) : IsBig N0 (W.setCell ⟨g, j, none⟩ u) v z := by
  obtain ⟨A, c, l, e, h1, h2⟩ := h.ex
  refine ⟨A, c, l, e, ⟨fun hp => ?_, fun hp => (h1.ty hp).set _ _⟩, h2⟩
  obtain ⟨b, off, e2, hc⟩ := h1.cells hp
  have hb : b ≠ g := by
    rintro rfl
    rcases h1.ty hp b off none e2 with h3 | ⟨cs', fr, h3⟩
    · omega
    · unfold Row at r
      rw [r] at h3
      injection h3 with h3
      injection h3 with _ h3
      exact ht h3
  exact ⟨b, off, e2, fun j' x hx => (World.cell?_setCell_other _ _ _ _ (fun e => hb (by injection e with e1; exact e1.symm))).trans (hc j' x hx)⟩
theorem big_ne : (24 : TypeId) ≠ 3 := by decide
theorem IsBig.set2 {W : World} {v : Value} {z : Int} {g : Nat} {a b : Value} (h : IsBig N0 W v z) (r : Row W g 24 #[a, b]) (hg : N0 ≤ g) (u u' : Value) : IsBig N0 ((W.setCell ⟨g, 0, none⟩ u).setCell ⟨g, 1, none⟩ u') v z :=
  (h.wr r big_ne hg 0 u).wr (r.set 0 u) big_ne hg 1 u'
/-- a variable is written again: the others stay -/
theorem Vs.put {W : World} {L L' : List (Nat × Value × Int)} {g : Nat} {a0 b0 : Value} {s z : Int} {A : Option Addr} {n c : Nat} (h : Vs N0 W L) (hg : Row W g 24 #[a0, b0]) (hN : N0 ≤ g) (hv : IsBig N0 W (bigV s A n c) z) (hL : L'.Sublist L) (hne : ∀ p ∈ L', p.1 ≠ g) :
    Vs N0 ((W.setCell ⟨g, 0, none⟩ (.int .i64 s)).setCell ⟨g, 1, none⟩ (.slice A n c)) ((g, bigV s A n c, z) :: L') := fun p hp => by
  rcases List.mem_cons.1 hp with rfl | hp
  · exact ⟨rset2 hg _ _, hv.set2 hg hN _ _⟩
  · have h1 := h p (hL.subset hp)
    exact ⟨roff2 h1.1 (hne p hp) _ _, h1.2.set2 hg hN _ _⟩
end Go.Proofs.YtnifkianjpjahaaGreatDoor.Bg
/- Big integers: what does not fit as well; a region of calls, joined (RJg). -/
namespace Go.Proofs.YtnifkianjpjahaaGreatDoor.Bg
open Go.ChangeShapes Go.WideShapes Go.ChangeAt Go.RowKit Go.Proofs.YtnifkianjpjahaaGreatDoor.Cell
set_option linter.unusedVariables false
set_option linter.unusedSimpArgs false
variable {N0 : Nat}

theorem mul_gen {x y z er t : Int} {va vb : Value} (w : World) (hx : IsBig N0 w va x) (hy : IsBig N0 w vb y) (hz : fz (x * y) = z) (he : fe (x * y) = er) (ht : sg z = t) :
    Calls Tryz.prog 15 #[va, vb] w fun e w' => ∃ A n c, e = .returned (.tuple #[bigV t A n c, .int .i64 er]) ∧ IsBig N0 w' (bigV t A n c) z ∧ Below w.heap.size w w' :=
  (mul_val w hx hy).mono fun e w' ⟨v, h1, h2, h3⟩ => by
    rw [hz] at h2
    obtain ⟨A, c, l, rfl, _⟩ := h2.ex
    subst ht he
    exact ⟨A, l.length, c, h1, h2, h3⟩
theorem add_gen {x y z er t : Int} {va vb : Value} (w : World) (hx : IsBig N0 w va x) (hy : IsBig N0 w vb y) (hz : fz (x + y) = z) (he : fe (x + y) = er) (ht : sg z = t) :
    Calls Tryz.prog 11 #[va, vb] w fun e w' => ∃ A n c, e = .returned (.tuple #[bigV t A n c, .int .i64 er]) ∧ IsBig N0 w' (bigV t A n c) z ∧ Below w.heap.size w w' :=
  (add_val w hx hy).mono fun e w' ⟨v, h1, h2, h3⟩ => by
    rw [hz] at h2
    obtain ⟨A, c, l, rfl, _⟩ := h2.ex
    subst ht he
    exact ⟨A, l.length, c, h1, h2, h3⟩
theorem read_gen {z er t : Int} (s : List UInt8) (w : World) (hl : s.length ≤ 9223372036854775807) (hz : rdV s = z) (he : rdE s = er) (ht : sg z = t) :
    Calls Tryz.prog 22 #[.string ⟨s.toArray⟩] w fun e w' => ∃ A n c, e = .returned (.tuple #[bigV t A n c, .int .i64 er]) ∧ IsBig N0 w' (bigV t A n c) z ∧ Below w.heap.size w w' :=
  (read_any (N0 := N0) s w hl).mono fun e w' ⟨v, h1, h2, h3⟩ => by
    rw [hz] at h2
    obtain ⟨A, c, l, rfl, _⟩ := h2.ex
    subst ht he
    exact ⟨A, l.length, c, h1, h2, h3⟩
theorem text_is {x : Int} {l : List UInt8} {va : Value} (w : World) (hT : PowTab w) (hx : IsBig N0 w va x) (h : txt x = l) : Calls Tryz.prog 31 #[va] w fun e w' => e = .returned (.string ⟨l.toArray⟩) ∧ Below w.heap.size w w' := by
  subst h
  exact text_all w hT hx
theorem cat7 (l : List UInt8) : (ByteArray.mk l.toArray) ++ (ByteArray.mk #[55]) = ByteArray.mk (l ++ [55]).toArray := by
  apply ByteArray.ext
  rw [ByteArray.data_append]
  simp
theorem rd_none {s : List UInt8} (h : rd s = none) : rdV s = 0 ∧ rdE s = 2 := by unfold rdV rdE; rw [h]; exact ⟨rfl, rfl⟩
theorem rd_fit {s : List UInt8} {z : Int} (h : rd s = some z) (hf : Fit z) : rdV s = z ∧ rdE s = 0 := by unfold rdV rdE; rw [h]; exact ⟨fz_yes hf, fe_yes hf⟩
theorem rd_big {s : List UInt8} {z : Int} (h : rd s = some z) (hf : ¬ Fit z) : rdV s = 0 ∧ rdE s = 6 := by unfold rdV rdE; rw [h]; exact ⟨fz_no hf, fe_no hf⟩
set_option exponentiation.threshold 400 in
theorem txt_len {x : Int} (h : Fit x) : (txt x).length ≤ 400 := by
  have h1 : x.natAbs < 10 ^ (361 + 1) := by
    have : pw 60 < ((10 ^ 362 : Nat) : Int) := by decide
    unfold Fit at h
    omega
  have h2 := dec_len 361 x.natAbs h1
  unfold txt
  split
  · rw [List.length_cons]; omega
  · omega
/-- what holds behind a region that makes a variable of a call's result and errno -/
def RJg (N0 : Nat) (w : World) (t z er : Int) (L : List (Nat × Value × Int)) (pre : Option Addr → Nat → Nat → List (Nat × Value)) (tt tm t0 t1 tg te : Nat) (a a' : Act) (Y : World) : Prop :=
  ∃ g Ao no co A n c, a' = upd a (pre Ao no co ++ [(tt, .tuple #[bigV t A n c, .int .i64 er]), (tm, .tuple #[bigV t A n c, .int .i64 er]), (t0, bigV t A n c), (t1, .int .i64 er), (tg, .pointer (some ⟨g, 0, none⟩)), (te, .int .i64 er)]) ∧
    Hid (Vs N0 Y ((g, bigV t A n c, z) :: L)) ∧ Hid (Below w.heap.size w Y)
theorem RJg.mk' {w : World} {t z er : Int} {L : List (Nat × Value × Int)} {pre : Option Addr → Nat → Nat → List (Nat × Value)} {tt tm t0 t1 tg te : Nat} {a a' : Act} {Y : World} (g : Nat) (Ao : Option Addr) (no co : Nat) (A : Option Addr) (n c : Nat)
    (ha : a' = upd a (pre Ao no co ++ [(tt, .tuple #[bigV t A n c, .int .i64 er]), (tm, .tuple #[bigV t A n c, .int .i64 er]), (t0, bigV t A n c), (t1, .int .i64 er), (tg, .pointer (some ⟨g, 0, none⟩)), (te, .int .i64 er)]))
    (hV : Vs N0 Y ((g, bigV t A n c, z) :: L)) (hB : Below w.heap.size w Y) : RJg N0 w t z er L pre tt tm t0 t1 tg te a a' Y := ⟨g, Ao, no, co, A, n, c, ha, Lib.hid hV, Lib.hid hB⟩
theorem reg_put3 {W X : World} {g p q : Nat} {u v a c d : Value} (h : Below W.heap.size W X ∧ X.cell? ⟨q, 0, none⟩ = some c ∧ X.cell? ⟨q, 1, none⟩ = some d ∧ X.cell? ⟨p, 0, none⟩ = some a) (hp : p < W.heap.size) (hq : q < W.heap.size) (hg : W.heap.size ≤ g) :
    Below W.heap.size W ((X.setCell ⟨g, 0, none⟩ u).setCell ⟨g, 1, none⟩ v) ∧ ((X.setCell ⟨g, 0, none⟩ u).setCell ⟨g, 1, none⟩ v).cell? ⟨q, 0, none⟩ = some c ∧ ((X.setCell ⟨g, 0, none⟩ u).setCell ⟨g, 1, none⟩ v).cell? ⟨q, 1, none⟩ = some d ∧ ((X.setCell ⟨g, 0, none⟩ u).setCell ⟨g, 1, none⟩ v).cell? ⟨p, 0, none⟩ = some a :=
  ⟨below_set2 h.1 hg _ _, (set2_keep X g u v q 0 (by omega)).trans h.2.1, (set2_keep X g u v q 1 (by omega)).trans h.2.2.1, (set2_keep X g u v p 0 (by omega)).trans h.2.2.2⟩
end Go.Proofs.YtnifkianjpjahaaGreatDoor.Bg
