/- Wire: the examples. -/
import Derived.Test.YtapcfnlononniaaDoorWrJ
namespace Go.Proofs.YtapcfnlononniaaDoor.Wr
open Go.Lib Go.ChangeShapes Go.WideShapes Go.ChangeAt Go.RowKit Go.Proofs.YtapcfnlononniaaDoor.Cell
set_option linter.unusedVariables false
set_option linter.unusedSimpArgs false
theorem dec1 {u : Nat} (h : u < 10) : decDigits u = [UInt8.ofNat (48 + u)] := by rw [dec_step, if_pos h]
theorem dec300 : decDigits 300 = [51, 48, 48] := by
  rw [dec_step, if_neg (by decide), dec_step, if_neg (by decide), dec1 (by decide)]
  decide
theorem e0 : encN 0 = [48, 59] := by
  unfold encN encI itoa
  rw [if_neg (by decide), if_neg (by decide), show (0 : Int).toNat = 0 from rfl, dec1 (by decide)]
  decide
theorem e300 : encN 300 = [51, 48, 48, 59] := by
  unfold encN encI itoa
  rw [if_neg (by decide), if_neg (by decide), show (300 : Int).toNat = 300 from rfl, dec300]
  decide
theorem em1 : encN (-1) = [] := if_pos (by decide)
theorem em7 : encI (-7) = [45, 55, 59] := by
  unfold encI itoa
  rw [if_pos (by decide), show (-7 : Int).natAbs = 7 from rfl, dec1 (by decide)]
  decide
theorem e7 : encI 7 = [55, 59] := by
  unfold encI itoa
  rw [if_neg (by decide), show (7 : Int).toNat = 7 from rfl, dec1 (by decide)]
  decide
theorem i3 : itoa 3 = [51] := by
  unfold itoa
  rw [if_neg (by decide), show (3 : Int).toNat = 3 from rfl, dec1 (by decide)]
  decide
theorem i2 : itoa 2 = [50] := by
  unfold itoa
  rw [if_neg (by decide), show (2 : Int).toNat = 2 from rfl, dec1 (by decide)]
  decide
theorem i0 : itoa 0 = [48] := by
  unfold itoa
  rw [if_neg (by decide), show (0 : Int).toNat = 0 from rfl, dec1 (by decide)]
  decide
theorem i7 : itoa 7 = [55] := by
  unfold itoa
  rw [if_neg (by decide), show (7 : Int).toNat = 7 from rfl, dec1 (by decide)]
  decide
theorem e1 : encI 1 = [49, 59] := by
  unfold encI itoa
  rw [if_neg (by decide), show (1 : Int).toNat = 1 from rfl, dec1 (by decide)]
  decide
theorem em1' : encI (-1) = [45, 49, 59] := by
  unfold encI itoa
  rw [if_pos (by decide), show (-1 : Int).natAbs = 1 from rfl, dec1 (by decide)]
  decide
theorem et : encT [97, 44, 98] = [51, 58, 97, 44, 98, 44] := by
  unfold encT
  rw [show (([97, 44, 98] : List UInt8).length : Int) = 3 from rfl, i3]
  decide
theorem el : encL encI [1, -1] = [50, 91, 49, 59, 45, 49, 59, 93] := by
  unfold encL
  rw [show (([1, -1] : List Int).length : Int) = 2 from rfl, i2]
  simp [e1, em1']
theorem en : encL encT [] = [48, 91, 93] := by
  unfold encL
  rw [show (([] : List (List UInt8)).length : Int) = 0 from rfl, i0]
  simp
theorem bad007 : siz 59 [48, 48, 55, 59] = none := by
  cases h : siz 59 [48, 48, 55, 59] with
  | none => rfl
  | some y =>
    obtain ⟨n, t⟩ := y
    exfalso
    obtain ⟨h1, h2⟩ := siz_some h
    have h3 := ix_app (e := 59) (itoa (n : Int)) t (fun h => nb59 (itoa_bytes _ _ h))
    rw [← h1] at h3
    have h4 : indexByte [48, 48, 55, 59] 59 = 3 := by decide
    rw [h4] at h3
    have h5 : itoa (n : Int) = [48, 48, 55] := by
      have h6 := congrArg (List.take (itoa (n : Int)).length) h1
      rw [List.take_left] at h6
      rw [← h6, show (itoa (n : Int)).length = 3 by omega]
      rfl
    have h7 := atoi_itoa (n := (n : Int)) ⟨by omega, by omega⟩
    rw [h5] at h7
    have h8 : atoiAll [48, 48, 55] = .ok 7 := by decide
    rw [h8] at h7
    injection h7 with h7
    rw [← h7, i7] at h5
    cases h5
set_option maxRecDepth 100000 in
set_option maxHeartbeats 8000000 in
theorem small_any {w0 W : World} (hE : En w0 W) : Calls Tryd.prog 9 #[] W fun e w' => e = .returned (.bool true) ∧ Below W.heap.size W w' := by
  have HE := Lib.hid hE
  have HB := Lib.hid (Below.refl W.heap.size W)
  clear hE
  go_enter Tryd.func9, Tryd.ntmps9
  go_wp2_with (fail)
  go_must (refine (wnum_any (n := 0) ⟨by decide, by decide⟩ (HE.out.keep HB.out).pt).mono ?_)
  rintro e w1 ⟨rfl, hb⟩
  rw [e0]
  replace HB := Lib.hid (Gen.over hb HB.out)
  clear hb
  dsimp only
  go_wp2_with (fail)
  go_must (refine (wnum_any (n := 300) ⟨by decide, by decide⟩ (HE.out.keep HB.out).pt).mono ?_)
  rintro e w1 ⟨rfl, hb⟩
  rw [e300]
  replace HB := Lib.hid (Gen.over hb HB.out)
  clear hb
  dsimp only
  go_wp2_with (fail)
  go_must (refine (wnum_any (n := -1) ⟨by decide, by decide⟩ (HE.out.keep HB.out).pt).mono ?_)
  rintro e w1 ⟨rfl, hb⟩
  rw [em1]
  replace HB := Lib.hid (Gen.over hb HB.out)
  clear hb
  dsimp only
  go_wp2_with (fail)
  go_must (refine (wint_any (n := -7) ⟨by decide, by decide⟩ (HE.out.keep HB.out).pt).mono ?_)
  rintro e w1 ⟨rfl, hb⟩
  rw [em7]
  replace HB := Lib.hid (Gen.over hb HB.out)
  clear hb
  dsimp only
  go_wp2_with (fail)
  go_must (refine (wint_any (n := 7) ⟨by decide, by decide⟩ (HE.out.keep HB.out).pt).mono ?_)
  rintro e w1 ⟨rfl, hb⟩
  rw [e7]
  replace HB := Lib.hid (Gen.over hb HB.out)
  clear hb
  dsimp only
  go_wp2_with (fail)
  go_must (refine (wtext_any (l := [97, 44, 98]) (by decide) (HE.out.keep HB.out).pt).mono ?_)
  rintro e w1 ⟨rfl, hb⟩
  rw [et]
  replace HB := Lib.hid (Gen.over hb HB.out)
  clear hb
  dsimp only
  go_wp2_with (fail)
  have hI : Ints (w1.alloc (.cells #[.int .i64 1, .int .i64 (-1)] 3)) (some ⟨w1.heap.size, 0, none⟩) [1, -1] := Row.ints (show Row (w1.alloc (.cells #[.int .i64 1, .int .i64 (-1)] 3)) w1.heap.size 3 (ics [1, -1]) from Row.new _ _ _)
  replace HB := Lib.hid (Gen.b_alloc (x := .cells #[.int .i64 1, .int .i64 (-1)] 3) HB.out)
  have hn1 : ∀ x ∈ ([1, -1] : List Int), I64 x := by
    intro x hx
    simp at hx
    rcases hx with rfl | rfl <;> exact ⟨by decide, by decide⟩
  go_must (refine (wnums_any rfl hI (fun x hx => by have := encI_len (hn1 x hx); omega) hn1 (by decide) (HE.out.keep HB.out)).mono ?_)
  rintro e w2 ⟨rfl, hb⟩
  rw [el]
  replace HB := Lib.hid (Gen.over hb HB.out)
  clear hb hI hn1
  dsimp only
  go_wp2_with (fail)
  go_must (refine (wtexts_any (A := none) (l := []) rfl (fun h => absurd h (by simp)) (by simp) (by simp) (by decide) (HE.out.keep HB.out)).mono ?_)
  rintro e w3 ⟨rfl, hb⟩
  rw [en]
  replace HB := Lib.hid (Gen.over hb HB.out)
  clear hb
  dsimp only
  go_wp2_with (fail)
  go_must (refine wopen_any.mono ?_)
  rintro e w4 ⟨g, rfl, hg, hr, hb⟩
  have HR := Lib.hid hr
  have HG : Hid (W.heap.size ≤ g) := Lib.hid (by have := HB.out.size; omega)
  replace HB := Lib.hid (Gen.over hb HB.out)
  clear hb hr hg
  dsimp only
  go_wp2_with (fail)
  go_must (refine (num_any HR.out (by decide) (HE.out.keep HB.out).pt (HE.out.keep HB.out).e2 (HE.out.keep HB.out).e3).mono ?_)
  rintro e w5 hor
  have hor2 : RdP w4 g false (none : Option (Nat × List UInt8)) (fun n => .int .i64 (n : Int)) (.int .i64 0) e w5 := by
    have h := hor
    rw [show siz 59 (⟨#[48, 48, 55, 59]⟩ : ByteArray).data.toList = none from bad007] at h
    exact h
  rcases hor2 with ⟨v, t, h1, _⟩ | ⟨_, rfl, hr, ho⟩
  · cases h1
  · have HR5 := Lib.hid hr
    replace HB := Lib.hid (Only.below HB.out ho (fun b e => by subst e; exact HG.out))
    clear hr ho hor
    dsimp only
    go_wp2_with (fail)
    go_must (refine (left_any HR5.out).mono ?_)
    rintro e w6 ⟨rfl, hw⟩
    have hw := hw.symm
    subst hw
    dsimp only
    go_wp2_with (fail)
    go_must (refine (done_any (l := []) HR5.out).mono ?_)
    rintro e w6 ⟨rfl, hw⟩
    have hw := hw.symm
    subst hw
    dsimp only
    go_wp2
    go_ret
    exact ⟨rfl, HB.out⟩
end Go.Proofs.YtapcfnlononniaaDoor.Wr
