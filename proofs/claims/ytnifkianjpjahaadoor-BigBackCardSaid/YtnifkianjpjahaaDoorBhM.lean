/- Big integers: the examples. -/
import Derived.Test.YtnifkianjpjahaaDoorBhL
namespace Go.Proofs.YtnifkianjpjahaaDoor.Bg
open Go.ChangeShapes Go.WideShapes Go.ChangeAt Go.RowKit Go.Proofs.YtnifkianjpjahaaDoor.Cell
set_option linter.unusedVariables false
set_option linter.unusedSimpArgs false

def vc : Value → Array Value | .agg a => a | _ => #[]
/-- variables that hold big integers -/
def Vs (W : World) (L : List (Nat × Value × Int)) : Prop := ∀ p ∈ L, Row W p.1 24 (vc p.2.1) ∧ IsBig W p.2.1 p.2.2
theorem Vs.nil (W : World) : Vs W [] := fun p h => by simp at h
theorem Vs.keep {W W' : World} {L : List (Nat × Value × Int)} (h : Vs W L) (hb : Below W.heap.size W W') : Vs W' L := fun p hp => ⟨(h p hp).1.keep hb, (h p hp).2.keep hb⟩
theorem Vs.add {W : World} {L : List (Nat × Value × Int)} {v : Value} {z : Int} (h : Vs W L) (hv : IsBig W v z) : Vs (W.alloc (.cells (vc v) 24)) ((W.heap.size, v, z) :: L) := fun p hp => by
  rcases List.mem_cons.1 hp with rfl | hp
  · exact ⟨Row.new _ _ _, hv.keep (Gen.b_alloc (Below.refl _ _))⟩
  · exact ⟨(h p hp).1.alloc _, (h p hp).2.keep (Gen.b_alloc (Below.refl _ _))⟩
theorem below_add {w W : World} {v : Value} {z : Int} (hb : Below w.heap.size w W) (hv : IsBig W v z) : Below w.heap.size w (W.alloc (.cells (vc v) 24)) := Gen.b_alloc hb
theorem keep_add {W : World} {u v : Value} {y z : Int} (hu : IsBig W u y) (hv : IsBig W v z) : IsBig (W.alloc (.cells (vc v) 24)) u y := hu.keep (Gen.b_alloc (Below.refl _ _))
theorem Vs.c0 {W : World} {L : List (Nat × Value × Int)} {g : Nat} {s z : Int} {A : Option Addr} {n c : Nat} (h : Vs W L) (hm : (g, bigV s A n c, z) ∈ L) : W.cell? ⟨g, 0, none⟩ = some (.int .i64 s) := (h _ hm).1.cell 0
theorem Vs.c1 {W : World} {L : List (Nat × Value × Int)} {g : Nat} {s z : Int} {A : Option Addr} {n c : Nat} (h : Vs W L) (hm : (g, bigV s A n c, z) ∈ L) : W.cell? ⟨g, 1, none⟩ = some (.slice A n c) := (h _ hm).1.cell 1
theorem Vs.big {W : World} {L : List (Nat × Value × Int)} {g : Nat} {v : Value} {z : Int} (h : Vs W L) (hm : (g, v, z) ∈ L) : IsBig W v z := (h _ hm).2
theorem big_two (W : World) : IsBig (W.alloc (.cells #[.int .i64 0, .int .i64 0, .int .i64 0, .int .i64 8] 3)) (bigV 1 (some ⟨W.heap.size, 0, none⟩) 4 4) 9223372036854775808 :=
  ⟨some ⟨W.heap.size, 0, none⟩, 4, [0, 0, 0, 8], rfl, (show Row _ _ 3 (ics [0, 0, 0, 8]) from Row.new _ _ _).ints, ⟨fun d hd => by simp at hd; omega, by simp [Tr], by decide⟩, by decide⟩
theorem big_one (W : World) : IsBig (W.alloc (.cells #[.int .i64 1, .int .i64 1] 3)) (bigV 1 (some ⟨W.heap.size, 0, none⟩) 2 2) 1048577 :=
  ⟨some ⟨W.heap.size, 0, none⟩, 2, [1, 1], rfl, (show Row _ _ 3 (ics [1, 1]) from Row.new _ _ _).ints, ⟨fun d hd => by simp at hd; omega, by simp [Tr], by decide⟩, by decide⟩
theorem int_yes {x : Int} {va : Value} (w : World) (hx : IsBig w va x) (h : I64 x) : Calls Tryd.prog 22 #[va] w fun e w' => e = .returned (.tuple #[.int .i64 x, .bool true]) ∧ Below w.heap.size w w' :=
  (int_val w hx).mono fun e w' ⟨h1, h2⟩ => ⟨by rw [h1, if_pos h, decide_eq_true h], h2⟩
theorem int_no {x : Int} {va : Value} (w : World) (hx : IsBig w va x) (h : ¬ I64 x) : Calls Tryd.prog 22 #[va] w fun e w' => e = .returned (.tuple #[.int .i64 0, .bool false]) ∧ Below w.heap.size w w' :=
  (int_val w hx).mono fun e w' ⟨h1, h2⟩ => ⟨by rw [h1, if_neg h, decide_eq_false h], h2⟩
theorem rsame_yes {x : Int} {va vb : Value} (w : World) (hx : IsBig w va x) (hy : IsBig w vb x) : Calls Tryd.prog 13 #[va, vb] w fun e w' => e = .returned (.bool true) ∧ Below w.heap.size w w' :=
  (rsame_val w hx hy).mono fun e w' ⟨h1, h2⟩ => ⟨by rw [h1, decide_eq_true rfl], h2⟩
theorem txt_p : txt (-99999999999 * 99999999999) = [45, 57, 57, 57, 57, 57, 57, 57, 57, 57, 57, 56, 48, 48, 48, 48, 48, 48, 48, 48, 48, 48, 49] := by
  have h : Lib.decDigits 9999999999800000000001 = fx 22 9999999999800000000001 := by
    rw [dec_split 21 _ (by decide), dec_lt (by decide), show (22 : Nat) = 21 + 1 from rfl]
    decide
  unfold txt
  rw [if_pos (by decide), show ((-99999999999 * 99999999999 : Int)).natAbs = 9999999999800000000001 by decide, h]
  decide
theorem IsBig.cast' {W : World} {v : Value} {y z : Int} (h : IsBig W v z) (e : z = y) : IsBig W v y := e ▸ h
theorem mul_fit {x y : Int} {va vb : Value} (w : World) (hx : IsBig w va x) (hy : IsBig w vb y) (hf : Fit (x * y)) :
    Calls Tryd.prog 14 #[va, vb] w fun e w' => ∃ v, e = .returned (.tuple #[v, .int .i64 0]) ∧ IsBig w' v (x * y) ∧ Below w.heap.size w w' :=
  (mul_val w hx hy).mono fun e w' ⟨v, h1, h2, h3⟩ => ⟨v, by rw [h1, fe_yes hf], by rw [fz_yes hf] at h2; exact h2, h3⟩
set_option maxRecDepth 100000 in
set_option maxHeartbeats 16000000 in
theorem small_yes (w : World) (hT : PowTab w) : Calls Tryd.prog 9 #[] w fun e w' => e = .returned (.bool true) ∧ Below w.heap.size w w' := by
  have HT := Lib.hid hT
  have HV := Lib.hid (Vs.nil w)
  have HB := Lib.hid (Below.refl w.heap.size w)
  clear hT
  go_enter Tryd.func9, Tryd.ntmps9
  go_wp2_with (fail)
  go_must (refine (of_val (1048577) _ (by unfold I64; omega)).mono ?_)
  rintro e W1 ⟨v1, rfl, hv1, hb1⟩
  replace HV := Lib.hid (HV.out.keep hb1)
  replace HB := Lib.hid (Gen.over hb1 HB.out)
  obtain ⟨Av1, cv1, lv1, rfl, _⟩ := hv1.ex
  obtain ⟨nv1, hnv1⟩ : ∃ n, lv1.length = n := ⟨_, rfl⟩
  rw [hnv1] at hv1 ⊢
  have Hv1 := Lib.hid hv1
  clear hnv1 hv1
  clear hb1
  replace HV := Lib.hid (HV.out.add Hv1.out)
  replace HB := Lib.hid (below_add HB.out Hv1.out)
  go_wp2_with (fail)
  go_must (refine (of_val (-99999999999) _ (by unfold I64; omega)).mono ?_)
  rintro e W2 ⟨v2, rfl, hv2, hb2⟩
  replace HV := Lib.hid (HV.out.keep hb2)
  replace HB := Lib.hid (Gen.over hb2 HB.out)
  obtain ⟨Av2, cv2, lv2, rfl, _⟩ := hv2.ex
  obtain ⟨nv2, hnv2⟩ : ∃ n, lv2.length = n := ⟨_, rfl⟩
  rw [hnv2] at hv2 ⊢
  have Hv2 := Lib.hid hv2
  clear hnv2 hv2
  clear hb2
  go_wp2_with (fail)
  go_must (refine (of_val (99999999999) _ (by unfold I64; omega)).mono ?_)
  rintro e W3 ⟨v3, rfl, hv3, hb3⟩
  replace Hv2 := Lib.hid (Hv2.out.keep hb3)
  replace HV := Lib.hid (HV.out.keep hb3)
  replace HB := Lib.hid (Gen.over hb3 HB.out)
  obtain ⟨Av3, cv3, lv3, rfl, _⟩ := hv3.ex
  obtain ⟨nv3, hnv3⟩ : ∃ n, lv3.length = n := ⟨_, rfl⟩
  rw [hnv3] at hv3 ⊢
  have Hv3 := Lib.hid hv3
  clear hnv3 hv3
  clear hb3
  go_wp2_with (fail)
  go_must (refine (mul_fit _ Hv2.out Hv3.out (by decide)).mono ?_)
  rintro e W4 ⟨v4, rfl, hv4, hb4⟩
  replace Hv2 := Lib.hid (Hv2.out.keep hb4)
  replace Hv3 := Lib.hid (Hv3.out.keep hb4)
  replace HV := Lib.hid (HV.out.keep hb4)
  replace HB := Lib.hid (Gen.over hb4 HB.out)
  obtain ⟨Av4, cv4, lv4, rfl, _⟩ := hv4.ex
  obtain ⟨nv4, hnv4⟩ : ∃ n, lv4.length = n := ⟨_, rfl⟩
  rw [hnv4] at hv4 ⊢
  have Hv4 := Lib.hid hv4
  clear hnv4 hv4
  clear hb4
  replace HV := Lib.hid (HV.out.add Hv4.out)
  replace HB := Lib.hid (below_add HB.out Hv4.out)
  go_wp2_with (fail)
  go_must (refine (of_val (-7) _ (by unfold I64; omega)).mono ?_)
  rintro e W5 ⟨v5, rfl, hv5, hb5⟩
  replace HV := Lib.hid (HV.out.keep hb5)
  replace HB := Lib.hid (Gen.over hb5 HB.out)
  obtain ⟨Av5, cv5, lv5, rfl, _⟩ := hv5.ex
  obtain ⟨nv5, hnv5⟩ : ∃ n, lv5.length = n := ⟨_, rfl⟩
  rw [hnv5] at hv5 ⊢
  have Hv5 := Lib.hid hv5
  clear hnv5 hv5
  clear hb5
  go_wp2_with (fail)
  go_must (refine (of_val (2) _ (by unfold I64; omega)).mono ?_)
  rintro e W6 ⟨v6, rfl, hv6, hb6⟩
  replace Hv5 := Lib.hid (Hv5.out.keep hb6)
  replace HV := Lib.hid (HV.out.keep hb6)
  replace HB := Lib.hid (Gen.over hb6 HB.out)
  obtain ⟨Av6, cv6, lv6, rfl, _⟩ := hv6.ex
  obtain ⟨nv6, hnv6⟩ : ∃ n, lv6.length = n := ⟨_, rfl⟩
  rw [hnv6] at hv6 ⊢
  have Hv6 := Lib.hid hv6
  clear hnv6 hv6
  clear hb6
  go_wp2_with (fail)
  go_must (refine (Div_val _ Hv5.out Hv6.out (by decide)).mono ?_)
  rintro e W7 ⟨v7, u7, rfl, hv7, hu7, hb7⟩
  replace Hv5 := Lib.hid (Hv5.out.keep hb7)
  replace Hv6 := Lib.hid (Hv6.out.keep hb7)
  replace HV := Lib.hid (HV.out.keep hb7)
  replace HB := Lib.hid (Gen.over hb7 HB.out)
  obtain ⟨Av7, cv7, lv7, rfl, _⟩ := hv7.ex
  obtain ⟨nv7, hnv7⟩ : ∃ n, lv7.length = n := ⟨_, rfl⟩
  rw [hnv7] at hv7 ⊢
  have Hv7 := Lib.hid hv7
  clear hnv7 hv7
  obtain ⟨Au7, cu7, lu7, rfl, _⟩ := hu7.ex
  obtain ⟨nu7, hnu7⟩ : ∃ n, lu7.length = n := ⟨_, rfl⟩
  rw [hnu7] at hu7 ⊢
  have Hu7 := Lib.hid hu7
  clear hnu7 hu7
  clear hb7
  replace Hu7 := Lib.hid (keep_add Hu7.out Hv7.out)
  replace HV := Lib.hid (HV.out.add Hv7.out)
  replace HB := Lib.hid (below_add HB.out Hv7.out)
  replace HV := Lib.hid (HV.out.add Hu7.out)
  replace HB := Lib.hid (below_add HB.out Hu7.out)
  go_wp2_with (fail)
  go_must (refine (of_val (7) _ (by unfold I64; omega)).mono ?_)
  rintro e W8 ⟨v8, rfl, hv8, hb8⟩
  replace HV := Lib.hid (HV.out.keep hb8)
  replace HB := Lib.hid (Gen.over hb8 HB.out)
  obtain ⟨Av8, cv8, lv8, rfl, _⟩ := hv8.ex
  obtain ⟨nv8, hnv8⟩ : ∃ n, lv8.length = n := ⟨_, rfl⟩
  rw [hnv8] at hv8 ⊢
  have Hv8 := Lib.hid hv8
  clear hnv8 hv8
  clear hb8
  go_wp2_with (fail)
  go_must (refine (of_val (-2) _ (by unfold I64; omega)).mono ?_)
  rintro e W9 ⟨v9, rfl, hv9, hb9⟩
  replace Hv8 := Lib.hid (Hv8.out.keep hb9)
  replace HV := Lib.hid (HV.out.keep hb9)
  replace HB := Lib.hid (Gen.over hb9 HB.out)
  obtain ⟨Av9, cv9, lv9, rfl, _⟩ := hv9.ex
  obtain ⟨nv9, hnv9⟩ : ∃ n, lv9.length = n := ⟨_, rfl⟩
  rw [hnv9] at hv9 ⊢
  have Hv9 := Lib.hid hv9
  clear hnv9 hv9
  clear hb9
  go_wp2_with (fail)
  go_must (refine (Div_val _ Hv8.out Hv9.out (by decide)).mono ?_)
  rintro e W10 ⟨v10, u10, rfl, hv10, hu10, hb10⟩
  replace Hv8 := Lib.hid (Hv8.out.keep hb10)
  replace Hv9 := Lib.hid (Hv9.out.keep hb10)
  replace HV := Lib.hid (HV.out.keep hb10)
  replace HB := Lib.hid (Gen.over hb10 HB.out)
  obtain ⟨Av10, cv10, lv10, rfl, _⟩ := hv10.ex
  obtain ⟨nv10, hnv10⟩ : ∃ n, lv10.length = n := ⟨_, rfl⟩
  rw [hnv10] at hv10 ⊢
  have Hv10 := Lib.hid hv10
  clear hnv10 hv10
  obtain ⟨Au10, cu10, lu10, rfl, _⟩ := hu10.ex
  obtain ⟨nu10, hnu10⟩ : ∃ n, lu10.length = n := ⟨_, rfl⟩
  rw [hnu10] at hu10 ⊢
  have Hu10 := Lib.hid hu10
  clear hnu10 hu10
  clear hb10
  replace Hu10 := Lib.hid (keep_add Hu10.out Hv10.out)
  replace HV := Lib.hid (HV.out.add Hv10.out)
  replace HB := Lib.hid (below_add HB.out Hv10.out)
  replace HV := Lib.hid (HV.out.add Hu10.out)
  replace HB := Lib.hid (below_add HB.out Hu10.out)
  go_wp2_with (fail)
  go_must (refine (of_val (-7) _ (by unfold I64; omega)).mono ?_)
  rintro e W11 ⟨v11, rfl, hv11, hb11⟩
  replace HV := Lib.hid (HV.out.keep hb11)
  replace HB := Lib.hid (Gen.over hb11 HB.out)
  obtain ⟨Av11, cv11, lv11, rfl, _⟩ := hv11.ex
  obtain ⟨nv11, hnv11⟩ : ∃ n, lv11.length = n := ⟨_, rfl⟩
  rw [hnv11] at hv11 ⊢
  have Hv11 := Lib.hid hv11
  clear hnv11 hv11
  clear hb11
  go_wp2_with (fail)
  go_must (refine (of_val (-2) _ (by unfold I64; omega)).mono ?_)
  rintro e W12 ⟨v12, rfl, hv12, hb12⟩
  replace Hv11 := Lib.hid (Hv11.out.keep hb12)
  replace HV := Lib.hid (HV.out.keep hb12)
  replace HB := Lib.hid (Gen.over hb12 HB.out)
  obtain ⟨Av12, cv12, lv12, rfl, _⟩ := hv12.ex
  obtain ⟨nv12, hnv12⟩ : ∃ n, lv12.length = n := ⟨_, rfl⟩
  rw [hnv12] at hv12 ⊢
  have Hv12 := Lib.hid hv12
  clear hnv12 hv12
  clear hb12
  go_wp2_with (fail)
  go_must (refine (Div_val _ Hv11.out Hv12.out (by decide)).mono ?_)
  rintro e W13 ⟨v13, u13, rfl, hv13, hu13, hb13⟩
  replace Hv11 := Lib.hid (Hv11.out.keep hb13)
  replace Hv12 := Lib.hid (Hv12.out.keep hb13)
  replace HV := Lib.hid (HV.out.keep hb13)
  replace HB := Lib.hid (Gen.over hb13 HB.out)
  obtain ⟨Av13, cv13, lv13, rfl, _⟩ := hv13.ex
  obtain ⟨nv13, hnv13⟩ : ∃ n, lv13.length = n := ⟨_, rfl⟩
  rw [hnv13] at hv13 ⊢
  have Hv13 := Lib.hid hv13
  clear hnv13 hv13
  obtain ⟨Au13, cu13, lu13, rfl, _⟩ := hu13.ex
  obtain ⟨nu13, hnu13⟩ : ∃ n, lu13.length = n := ⟨_, rfl⟩
  rw [hnu13] at hu13 ⊢
  have Hu13 := Lib.hid hu13
  clear hnu13 hu13
  clear hb13
  replace Hu13 := Lib.hid (keep_add Hu13.out Hv13.out)
  replace HV := Lib.hid (HV.out.add Hv13.out)
  replace HB := Lib.hid (below_add HB.out Hv13.out)
  replace HV := Lib.hid (HV.out.add Hu13.out)
  replace HB := Lib.hid (below_add HB.out Hu13.out)
  go_wp2_with (fail)
  go_must (refine (of_val (-12) _ (by unfold I64; omega)).mono ?_)
  rintro e W14 ⟨v14, rfl, hv14, hb14⟩
  replace HV := Lib.hid (HV.out.keep hb14)
  replace HB := Lib.hid (Gen.over hb14 HB.out)
  obtain ⟨Av14, cv14, lv14, rfl, _⟩ := hv14.ex
  obtain ⟨nv14, hnv14⟩ : ∃ n, lv14.length = n := ⟨_, rfl⟩
  rw [hnv14] at hv14 ⊢
  have Hv14 := Lib.hid hv14
  clear hnv14 hv14
  clear hb14
  go_wp2_with (fail)
  go_must (refine (of_val (18) _ (by unfold I64; omega)).mono ?_)
  rintro e W15 ⟨v15, rfl, hv15, hb15⟩
  replace Hv14 := Lib.hid (Hv14.out.keep hb15)
  replace HV := Lib.hid (HV.out.keep hb15)
  replace HB := Lib.hid (Gen.over hb15 HB.out)
  obtain ⟨Av15, cv15, lv15, rfl, _⟩ := hv15.ex
  obtain ⟨nv15, hnv15⟩ : ∃ n, lv15.length = n := ⟨_, rfl⟩
  rw [hnv15] at hv15 ⊢
  have Hv15 := Lib.hid hv15
  clear hnv15 hv15
  clear hb15
  go_wp2_with (fail)
  go_must (refine (Gcd_val _ Hv14.out Hv15.out).mono ?_)
  rintro e W16 ⟨v16, rfl, hv16, hb16⟩
  replace Hv14 := Lib.hid (Hv14.out.keep hb16)
  replace Hv15 := Lib.hid (Hv15.out.keep hb16)
  replace HV := Lib.hid (HV.out.keep hb16)
  replace HB := Lib.hid (Gen.over hb16 HB.out)
  obtain ⟨Av16, cv16, lv16, rfl, _⟩ := hv16.ex
  obtain ⟨nv16, hnv16⟩ : ∃ n, lv16.length = n := ⟨_, rfl⟩
  rw [hnv16] at hv16 ⊢
  have Hv16 := Lib.hid hv16
  clear hnv16 hv16
  clear hb16
  replace HV := Lib.hid (HV.out.add Hv16.out)
  replace HB := Lib.hid (below_add HB.out Hv16.out)
  go_wp2_with (fail)
  go_must (refine (of_val (0) _ (by unfold I64; omega)).mono ?_)
  rintro e W17 ⟨v17, rfl, hv17, hb17⟩
  replace HV := Lib.hid (HV.out.keep hb17)
  replace HB := Lib.hid (Gen.over hb17 HB.out)
  obtain ⟨Av17, cv17, lv17, rfl, _⟩ := hv17.ex
  obtain ⟨nv17, hnv17⟩ : ∃ n, lv17.length = n := ⟨_, rfl⟩
  rw [hnv17] at hv17 ⊢
  have Hv17 := Lib.hid hv17
  clear hnv17 hv17
  clear hb17
  go_wp2_with (fail)
  go_must (refine (of_val (-5) _ (by unfold I64; omega)).mono ?_)
  rintro e W18 ⟨v18, rfl, hv18, hb18⟩
  replace Hv17 := Lib.hid (Hv17.out.keep hb18)
  replace HV := Lib.hid (HV.out.keep hb18)
  replace HB := Lib.hid (Gen.over hb18 HB.out)
  obtain ⟨Av18, cv18, lv18, rfl, _⟩ := hv18.ex
  obtain ⟨nv18, hnv18⟩ : ∃ n, lv18.length = n := ⟨_, rfl⟩
  rw [hnv18] at hv18 ⊢
  have Hv18 := Lib.hid hv18
  clear hnv18 hv18
  clear hb18
  go_wp2_with (fail)
  go_must (refine (Gcd_val _ Hv17.out Hv18.out).mono ?_)
  rintro e W19 ⟨v19, rfl, hv19, hb19⟩
  replace Hv17 := Lib.hid (Hv17.out.keep hb19)
  replace Hv18 := Lib.hid (Hv18.out.keep hb19)
  replace HV := Lib.hid (HV.out.keep hb19)
  replace HB := Lib.hid (Gen.over hb19 HB.out)
  obtain ⟨Av19, cv19, lv19, rfl, _⟩ := hv19.ex
  obtain ⟨nv19, hnv19⟩ : ∃ n, lv19.length = n := ⟨_, rfl⟩
  rw [hnv19] at hv19 ⊢
  have Hv19 := Lib.hid hv19
  clear hnv19 hv19
  clear hb19
  replace HV := Lib.hid (HV.out.add Hv19.out)
  replace HB := Lib.hid (below_add HB.out Hv19.out)
  go_wp2_with (fail)
  go_must (refine (read_d _).mono ?_)
  rintro e W20 ⟨rfl, hb20⟩
  replace HV := Lib.hid (HV.out.keep hb20)
  replace HB := Lib.hid (Gen.over hb20 HB.out)
  clear hb20
  replace HV := Lib.hid (HV.out.keep (Gen.b_alloc (x := .cells #[.int .i64 0, .slice none 0 0] 24) (Below.refl _ _)))
  replace HB := Lib.hid (Gen.b_alloc (x := .cells #[.int .i64 0, .slice none 0 0] 24) HB.out)
  go_wp2_with (fail)
  go_must (refine (read_m _).mono ?_)
  rintro e W21 ⟨rfl, hb21⟩
  replace HV := Lib.hid (HV.out.keep hb21)
  replace HB := Lib.hid (Gen.over hb21 HB.out)
  clear hb21
  replace HV := Lib.hid (HV.out.keep (Gen.b_alloc (x := .cells #[.int .i64 0, .slice none 0 0] 24) (Below.refl _ _)))
  replace HB := Lib.hid (Gen.b_alloc (x := .cells #[.int .i64 0, .slice none 0 0] 24) HB.out)
  go_wp2_with (fail)
  go_must (refine (read_e _).mono ?_)
  rintro e W22 ⟨rfl, hb22⟩
  replace HV := Lib.hid (HV.out.keep hb22)
  replace HB := Lib.hid (Gen.over hb22 HB.out)
  clear hb22
  replace HV := Lib.hid (HV.out.keep (Gen.b_alloc (x := .cells #[.int .i64 0, .slice none 0 0] 24) (Below.refl _ _)))
  replace HB := Lib.hid (Gen.b_alloc (x := .cells #[.int .i64 0, .slice none 0 0] 24) HB.out)
  have HTW := Lib.hid (big_two (W22.alloc (.cells #[.int .i64 0, .slice none 0 0] 24)))
  replace HV := Lib.hid (HV.out.keep (Gen.b_alloc (x := .cells #[.int .i64 0, .int .i64 0, .int .i64 0, .int .i64 8] 3) (Below.refl _ _)))
  replace HB := Lib.hid (Gen.b_alloc (x := .cells #[.int .i64 0, .int .i64 0, .int .i64 0, .int .i64 8] 3) HB.out)
  replace HV := Lib.hid (HV.out.add HTW.out)
  replace HB := Lib.hid (below_add HB.out HTW.out)
  simp only [World.size_alloc] at HV HB
  go_wp2_with (fail)
  go_must (refine (int_no _ (HV.out.big (.head _)) (by unfold I64; omega)).mono ?_)
  rintro e W23 ⟨rfl, hb23⟩
  replace HV := Lib.hid (HV.out.keep hb23)
  replace HB := Lib.hid (Gen.over hb23 HB.out)
  clear hb23
  have d1 := HV.out.c0 (.head _)
  have f1 := HV.out.c1 (.head _)
  go_wp2_with (fail)
  go_must (refine (neg_val _ (HV.out.big (.head _))).mono ?_)
  rintro e W24 ⟨v24, rfl, hv24, hb24⟩
  replace HV := Lib.hid (HV.out.keep hb24)
  replace HB := Lib.hid (Gen.over hb24 HB.out)
  obtain ⟨Av24, cv24, lv24, rfl, _⟩ := hv24.ex
  obtain ⟨nv24, hnv24⟩ : ∃ n, lv24.length = n := ⟨_, rfl⟩
  rw [hnv24] at hv24 ⊢
  have Hv24 := Lib.hid hv24
  clear hnv24 hv24
  clear hb24
  clear d1 f1
  go_wp2_with (fail)
  go_must (refine (int_yes _ Hv24.out (by unfold I64; omega)).mono ?_)
  rintro e W25 ⟨rfl, hb25⟩
  replace Hv24 := Lib.hid (Hv24.out.keep hb25)
  replace HV := Lib.hid (HV.out.keep hb25)
  replace HB := Lib.hid (Gen.over hb25 HB.out)
  clear hb25
  have d2 := HV.out.c0 (.tail _ (.tail _ (.tail _ (.tail _ (.tail _ (.tail _ (.tail _ (.tail _ (.tail _ (.tail _ (.head _)))))))))))
  have f2 := HV.out.c1 (.tail _ (.tail _ (.tail _ (.tail _ (.tail _ (.tail _ (.tail _ (.tail _ (.tail _ (.tail _ (.head _)))))))))))
  go_wp2_with (fail)
  replace HV := Lib.hid (HV.out.keep (Gen.b_alloc (x := .cells #[.int .i64 1, .int .i64 1] 3) (Below.refl _ _)))
  replace HB := Lib.hid (Gen.b_alloc (x := .cells #[.int .i64 1, .int .i64 1] 3) HB.out)
  go_wp2_with (fail)
  go_must (refine (rsame_yes _ (HV.out.big (.tail _ (.tail _ (.tail _ (.tail _ (.tail _ (.tail _ (.tail _ (.tail _ (.tail _ (.tail _ (.head _)))))))))))) (big_one _)).mono ?_)
  rintro e W26 ⟨rfl, hb26⟩
  replace HV := Lib.hid (HV.out.keep hb26)
  replace HB := Lib.hid (Gen.over hb26 HB.out)
  clear hb26
  clear d2 f2
  have d3 := HV.out.c0 (.tail _ (.tail _ (.tail _ (.tail _ (.tail _ (.tail _ (.tail _ (.tail _ (.tail _ (.head _))))))))))
  have f3 := HV.out.c1 (.tail _ (.tail _ (.tail _ (.tail _ (.tail _ (.tail _ (.tail _ (.tail _ (.tail _ (.head _))))))))))
  go_wp2_with (fail)
  go_must (refine (text_any _ (HT.out.keep HB.out) (HV.out.big (.tail _ (.tail _ (.tail _ (.tail _ (.tail _ (.tail _ (.tail _ (.tail _ (.tail _ (.head _))))))))))) (by decide)).mono ?_)
  rintro e W27 ⟨rfl, hb27⟩
  replace HV := Lib.hid (HV.out.keep hb27)
  replace HB := Lib.hid (Gen.over hb27 HB.out)
  clear hb27
  rw [txt_p]
  clear d3 f3
  have d4 := HV.out.c0 (.tail _ (.tail _ (.tail _ (.tail _ (.tail _ (.tail _ (.tail _ (.tail _ (.head _)))))))))
  have f4 := HV.out.c1 (.tail _ (.tail _ (.tail _ (.tail _ (.tail _ (.tail _ (.tail _ (.tail _ (.head _)))))))))
  have d5 := HV.out.c0 (.tail _ (.tail _ (.tail _ (.tail _ (.tail _ (.tail _ (.tail _ (.head _))))))))
  have f5 := HV.out.c1 (.tail _ (.tail _ (.tail _ (.tail _ (.tail _ (.tail _ (.tail _ (.head _))))))))
  go_wp2_with (fail)
  go_must (refine (pair_yes (q := -4) (r := 1) _ (IsBig.cast' (HV.out.big (.tail _ (.tail _ (.tail _ (.tail _ (.tail _ (.tail _ (.tail _ (.tail _ (.head _)))))))))) (by decide)) (IsBig.cast' (HV.out.big (.tail _ (.tail _ (.tail _ (.tail _ (.tail _ (.tail _ (.tail _ (.head _))))))))) (by decide)) (by unfold I64; omega) (by unfold I64; omega)).mono ?_)
  rintro e W28 ⟨rfl, hb28⟩
  replace HV := Lib.hid (HV.out.keep hb28)
  replace HB := Lib.hid (Gen.over hb28 HB.out)
  clear hb28
  clear d4 f4 d5 f5
  have d6 := HV.out.c0 (.tail _ (.tail _ (.tail _ (.tail _ (.tail _ (.tail _ (.head _)))))))
  have f6 := HV.out.c1 (.tail _ (.tail _ (.tail _ (.tail _ (.tail _ (.tail _ (.head _)))))))
  have d7 := HV.out.c0 (.tail _ (.tail _ (.tail _ (.tail _ (.tail _ (.head _))))))
  have f7 := HV.out.c1 (.tail _ (.tail _ (.tail _ (.tail _ (.tail _ (.head _))))))
  go_wp2_with (fail)
  go_must (refine (pair_yes (q := -4) (r := -1) _ (IsBig.cast' (HV.out.big (.tail _ (.tail _ (.tail _ (.tail _ (.tail _ (.tail _ (.head _)))))))) (by decide)) (IsBig.cast' (HV.out.big (.tail _ (.tail _ (.tail _ (.tail _ (.tail _ (.head _))))))) (by decide)) (by unfold I64; omega) (by unfold I64; omega)).mono ?_)
  rintro e W29 ⟨rfl, hb29⟩
  replace HV := Lib.hid (HV.out.keep hb29)
  replace HB := Lib.hid (Gen.over hb29 HB.out)
  clear hb29
  clear d6 f6 d7 f7
  have d8 := HV.out.c0 (.tail _ (.tail _ (.tail _ (.tail _ (.head _)))))
  have f8 := HV.out.c1 (.tail _ (.tail _ (.tail _ (.tail _ (.head _)))))
  have d9 := HV.out.c0 (.tail _ (.tail _ (.tail _ (.head _))))
  have f9 := HV.out.c1 (.tail _ (.tail _ (.tail _ (.head _))))
  go_wp2_with (fail)
  go_must (refine (pair_yes (q := 3) (r := -1) _ (IsBig.cast' (HV.out.big (.tail _ (.tail _ (.tail _ (.tail _ (.head _)))))) (by decide)) (IsBig.cast' (HV.out.big (.tail _ (.tail _ (.tail _ (.head _))))) (by decide)) (by unfold I64; omega) (by unfold I64; omega)).mono ?_)
  rintro e W30 ⟨rfl, hb30⟩
  replace HV := Lib.hid (HV.out.keep hb30)
  replace HB := Lib.hid (Gen.over hb30 HB.out)
  clear hb30
  clear d8 f8 d9 f9
  have d10 := HV.out.c0 (.tail _ (.tail _ (.head _)))
  have f10 := HV.out.c1 (.tail _ (.tail _ (.head _)))
  have d11 := HV.out.c0 (.tail _ (.head _))
  have f11 := HV.out.c1 (.tail _ (.head _))
  go_wp2_with (fail)
  obtain ⟨s16, hs16⟩ : ∃ s, sg ((Int.gcd (-12) 18 : Nat) : Int) = s := ⟨_, rfl⟩
  obtain ⟨s19, hs19⟩ : ∃ s, sg ((Int.gcd 0 (-5) : Nat) : Int) = s := ⟨_, rfl⟩
  have H6 : Hid (IsBig W30 (bigV s16 Av16 nv16 cv16) 6) := Lib.hid (by rw [← hs16]; exact IsBig.cast' (HV.out.big (.tail _ (.tail _ (.head _)))) (by decide))
  have H5 : Hid (IsBig W30 (bigV s19 Av19 nv19 cv19) 5) := Lib.hid (by rw [← hs19]; exact IsBig.cast' (HV.out.big (.tail _ (.head _))) (by decide))
  have HS0 : Hid (Below W30.heap.size W30 W30 ∧ W30.cell? ⟨W16.heap.size, 0, none⟩ = some (.int .i64 s16) ∧ W30.cell? ⟨W16.heap.size, 1, none⟩ = some (.slice Av16 nv16 cv16) ∧ W30.cell? ⟨W19.heap.size, 0, none⟩ = some (.int .i64 s19) ∧ W30.cell? ⟨W19.heap.size, 1, none⟩ = some (.slice Av19 nv19 cv19)) := Lib.hid (by rw [← hs16, ← hs19]; exact ⟨Below.refl _ _, HV.out.c0 (.tail _ (.tail _ (.head _))), HV.out.c1 (.tail _ (.tail _ (.head _))), HV.out.c0 (.tail _ (.head _)), HV.out.c1 (.tail _ (.head _))⟩)
  clear d10 f10 d11 f11 hs16 hs19
  have y0 := HS0.out.2.1
  have y1 := HS0.out.2.2.1
  have y2 := HS0.out.2.2.2.1
  have y3 := HS0.out.2.2.2.2
  go_region_held3 (fun W' : World => Below W30.heap.size W30 W' ∧ W'.cell? ⟨W16.heap.size, 0, none⟩ = some (.int .i64 s16) ∧ W'.cell? ⟨W16.heap.size, 1, none⟩ = some (.slice Av16 nv16 cv16) ∧ W'.cell? ⟨W19.heap.size, 0, none⟩ = some (.int .i64 s19) ∧ W'.cell? ⟨W19.heap.size, 1, none⟩ = some (.slice Av19 nv19 cv19))
    (first | exact hS5 | exact ⟨HS0.out.1.drew, HS0.out.2⟩ | fail "keep")
    (first
      | (go_at_call 16; (with_reducible refine (of_val 6 _ (by unfold I64; omega)).mono ?_); rintro e' w' ⟨v1, rfl, hv1, hb1⟩; have hS5 := (show (Below W30.heap.size W30 w' ∧ w'.cell? ⟨W16.heap.size, 0, none⟩ = some (.int .i64 s16) ∧ w'.cell? ⟨W16.heap.size, 1, none⟩ = some (.slice Av16 nv16 cv16) ∧ w'.cell? ⟨W19.heap.size, 0, none⟩ = some (.int .i64 s19) ∧ w'.cell? ⟨W19.heap.size, 1, none⟩ = some (.slice Av19 nv19 cv19)) from ⟨Gen.over hb1 (And.left (by assumption)), Gen.keep hb1 (And.left (And.right (by assumption))), Gen.keep hb1 (And.left (And.right (And.right (by assumption)))), Gen.keep hb1 (And.left (And.right (And.right (And.right (by assumption))))), Gen.keep hb1 (And.right (And.right (And.right (And.right (by assumption)))))⟩))
      | (go_at_call 16; (with_reducible refine (of_val 5 _ (by unfold I64; omega)).mono ?_); rintro e' w' ⟨v2, rfl, hv2, hb3⟩; have hS5 := (show (Below W30.heap.size W30 w' ∧ w'.cell? ⟨W16.heap.size, 0, none⟩ = some (.int .i64 s16) ∧ w'.cell? ⟨W16.heap.size, 1, none⟩ = some (.slice Av16 nv16 cv16) ∧ w'.cell? ⟨W19.heap.size, 0, none⟩ = some (.int .i64 s19) ∧ w'.cell? ⟨W19.heap.size, 1, none⟩ = some (.slice Av19 nv19 cv19)) from ⟨Gen.over hb3 (And.left (by assumption)), Gen.keep hb3 (And.left (And.right (by assumption))), Gen.keep hb3 (And.left (And.right (And.right (by assumption)))), Gen.keep hb3 (And.left (And.right (And.right (And.right (by assumption))))), Gen.keep hb3 (And.right (And.right (And.right (And.right (by assumption)))))⟩))
      | (go_at_call 18; (with_reducible refine (same_yes _ (H6.out.keep (And.left (by assumption))) hv1).mono ?_); rintro e' w' ⟨rfl, hb2⟩; have hS5 := (show (Below W30.heap.size W30 w' ∧ w'.cell? ⟨W16.heap.size, 0, none⟩ = some (.int .i64 s16) ∧ w'.cell? ⟨W16.heap.size, 1, none⟩ = some (.slice Av16 nv16 cv16) ∧ w'.cell? ⟨W19.heap.size, 0, none⟩ = some (.int .i64 s19) ∧ w'.cell? ⟨W19.heap.size, 1, none⟩ = some (.slice Av19 nv19 cv19)) from ⟨Gen.over hb2 (And.left (by assumption)), Gen.keep hb2 (And.left (And.right (by assumption))), Gen.keep hb2 (And.left (And.right (And.right (by assumption)))), Gen.keep hb2 (And.left (And.right (And.right (And.right (by assumption))))), Gen.keep hb2 (And.right (And.right (And.right (And.right (by assumption)))))⟩))
      | (go_at_call 18; (with_reducible refine (same_yes _ (H5.out.keep (And.left (by assumption))) hv2).mono ?_); rintro e' w' ⟨rfl, hb4⟩; have hS5 := (show (Below W30.heap.size W30 w' ∧ w'.cell? ⟨W16.heap.size, 0, none⟩ = some (.int .i64 s16) ∧ w'.cell? ⟨W16.heap.size, 1, none⟩ = some (.slice Av16 nv16 cv16) ∧ w'.cell? ⟨W19.heap.size, 0, none⟩ = some (.int .i64 s19) ∧ w'.cell? ⟨W19.heap.size, 1, none⟩ = some (.slice Av19 nv19 cv19)) from ⟨Gen.over hb4 (And.left (by assumption)), Gen.keep hb4 (And.left (And.right (by assumption))), Gen.keep hb4 (And.left (And.right (And.right (by assumption)))), Gen.keep hb4 (And.left (And.right (And.right (And.right (by assumption))))), Gen.keep hb4 (And.right (And.right (And.right (And.right (by assumption)))))⟩))
      | fail "arm")
  all_goals
    have HF := Lib.hid (Gen.over hS5.1 HB.out)
    go_wp2
    go_ret
    exact ⟨rfl, HF.out⟩
end Go.Proofs.YtnifkianjpjahaaDoor.Bg
