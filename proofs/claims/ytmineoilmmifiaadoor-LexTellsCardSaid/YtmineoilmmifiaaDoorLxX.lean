/- Tokens: the examples hold. -/
import Derived.Test.YtmineoilmmifiaaDoorLxW
namespace Go.Proofs.YtmineoilmmifiaaDoor.Lx
open Go.Lib Go.ChangeShapes Go.WideShapes Go.ChangeAt Go.RowKit Go.Proofs.YtmineoilmmifiaaDoor.Cell
set_option linter.unusedVariables false
set_option linter.unusedSimpArgs false
def want1 : List Tg := [⟨0, [120], 0, 0⟩, ⟨2, [61, 61], 0, 2⟩, ⟨1, [49, 50], 12, 5⟩, ⟨0, [97], 0, 7⟩, ⟨3, [], 0, 8⟩]
def want4 : List Tg := [⟨0, [97], 0, 0⟩, ⟨2, [61], 0, 1⟩, ⟨0, [98], 0, 2⟩, ⟨2, [59], 0, 4⟩, ⟨3, [], 0, 5⟩]
theorem jn4 : jn (txs want4) = [97, 32, 61, 32, 98, 32, 59] := rfl
theorem want_mem (W : World) : Tgs (W.alloc (.cells #[.int .i64 0, .string ⟨#[120]⟩, .int .i64 0, .int .i64 0, .int .i64 2, .string ⟨#[61, 61]⟩, .int .i64 0, .int .i64 2, .int .i64 1, .string ⟨#[49, 50]⟩, .int .i64 12, .int .i64 5, .int .i64 0, .string ⟨#[97]⟩, .int .i64 0, .int .i64 7, .int .i64 3, .string ⟨#[]⟩, .int .i64 0, .int .i64 8] 25)) (some ⟨W.heap.size, 0, none⟩) [⟨0, [120], 0, 0⟩, ⟨2, [61, 61], 0, 2⟩, ⟨1, [49, 50], 12, 5⟩, ⟨0, [97], 0, 7⟩, ⟨3, [], 0, 8⟩] := fun _ => by
  refine ⟨W.heap.size, 0, rfl, fun j x hx => ?_⟩
  have hr := Row.new W 25 #[.int .i64 0, .string ⟨#[120]⟩, .int .i64 0, .int .i64 0, .int .i64 2, .string ⟨#[61, 61]⟩, .int .i64 0, .int .i64 2, .int .i64 1, .string ⟨#[49, 50]⟩, .int .i64 12, .int .i64 5, .int .i64 0, .string ⟨#[97]⟩, .int .i64 0, .int .i64 7, .int .i64 3, .string ⟨#[]⟩, .int .i64 0, .int .i64 8]
  have hj := (List.getElem?_eq_some_iff.1 hx).1
  simp at hj
  rw [Nat.zero_add]
  rcases (show j = 0 ∨ j = 1 ∨ j = 2 ∨ j = 3 ∨ j = 4 by omega) with rfl | rfl | rfl | rfl | rfl
  · injection hx with hx; subst hx; exact ⟨Row.cell hr 0, Row.cell hr 1, Row.cell hr 2, Row.cell hr 3⟩
  · injection hx with hx; subst hx; exact ⟨Row.cell hr 4, Row.cell hr 5, Row.cell hr 6, Row.cell hr 7⟩
  · injection hx with hx; subst hx; exact ⟨Row.cell hr 8, Row.cell hr 9, Row.cell hr 10, Row.cell hr 11⟩
  · injection hx with hx; subst hx; exact ⟨Row.cell hr 12, Row.cell hr 13, Row.cell hr 14, Row.cell hr 15⟩
  · injection hx with hx; subst hx; exact ⟨Row.cell hr 16, Row.cell hr 17, Row.cell hr 18, Row.cell hr 19⟩
set_option maxRecDepth 100000 in
set_option maxHeartbeats 16000000 in
theorem small_any {w0 W : World} (hE : Ev w0 W) : Calls Tryd.prog 9 #[] W fun e w' => e = .returned (.bool true) ∧ Below W.heap.size W w' := by
  have HE := Lib.hid hE
  have HB := Lib.hid (Below.refl W.heap.size W)
  clear hE
  go_enter Tryd.func9, Tryd.ntmps9
  go_wp2_with (fail)
  go_must (refine (lex_any (l := [120, 32, 61, 61, 32, 49, 50, 97]) HE.out (by decide)).mono ?_)
  intro e w1 h
  obtain ⟨⟨A1, c1, rfl, ho1⟩, hb⟩ := lexP_ok ex1 h
  replace HB := Lib.hid (Gen.over hb HB.out)
  have HT1 : Hid (Tgs w1 A1 want1) := Lib.hid (own_tgs ho1 rfl)
  clear h hb ho1
  dsimp only
  go_wp2_with (fail)
  go_must (refine (lex_any (l := [97, 49, 61, 61, 48, 48, 55]) (HE.out.keep HB.out) (by decide)).mono ?_)
  intro e w2 h
  obtain ⟨rfl, hb⟩ := lexP_err ex2 h
  replace HB := Lib.hid (Gen.over hb HB.out)
  replace HT1 := Lib.hid (HT1.out.keep hb)
  clear h hb
  dsimp only
  go_wp2_with (fail)
  go_must (refine (lex_any (l := [97, 32, 58]) (HE.out.keep HB.out) (by decide)).mono ?_)
  intro e w3 h
  obtain ⟨rfl, hb⟩ := lexP_err ex3 h
  replace HB := Lib.hid (Gen.over hb HB.out)
  replace HT1 := Lib.hid (HT1.out.keep hb)
  clear h hb
  dsimp only
  go_wp2_with (fail)
  go_must (refine (lex_any (l := [97, 61, 98, 32, 59]) (HE.out.keep HB.out) (by decide)).mono ?_)
  intro e w4 h
  obtain ⟨⟨A4, c4, rfl, ho4⟩, hb⟩ := lexP_ok ex4 h
  replace HB := Lib.hid (Gen.over hb HB.out)
  replace HT1 := Lib.hid (HT1.out.keep hb)
  have HT4 : Hid (Tgs w4 A4 want4) := Lib.hid (own_tgs ho4 rfl)
  clear h hb ho4
  dsimp only
  go_wp2_with (fail)
  have hw : Tgs _ _ want1 := want_mem w4
  have hb5 : Below w4.heap.size w4 (w4.alloc (.cells #[.int .i64 0, .string ⟨#[120]⟩, .int .i64 0, .int .i64 0, .int .i64 2, .string ⟨#[61, 61]⟩, .int .i64 0, .int .i64 2, .int .i64 1, .string ⟨#[49, 50]⟩, .int .i64 12, .int .i64 5, .int .i64 0, .string ⟨#[97]⟩, .int .i64 0, .int .i64 7, .int .i64 3, .string ⟨#[]⟩, .int .i64 0, .int .i64 8] 25)) := Gen.b_alloc (Below.refl _ _)
  replace HB := Lib.hid (Gen.over hb5 HB.out)
  replace HT1 := Lib.hid (HT1.out.keep hb5)
  replace HT4 := Lib.hid (HT4.out.keep hb5)
  have HW := Lib.hid hw
  clear hw hb5
  generalize w4.alloc (.cells #[.int .i64 0, .string ⟨#[120]⟩, .int .i64 0, .int .i64 0, .int .i64 2, .string ⟨#[61, 61]⟩, .int .i64 0, .int .i64 2, .int .i64 1, .string ⟨#[49, 50]⟩, .int .i64 12, .int .i64 5, .int .i64 0, .string ⟨#[97]⟩, .int .i64 0, .int .i64 7, .int .i64 3, .string ⟨#[]⟩, .int .i64 0, .int .i64 8] 25) = w5 at *
  go_must (refine (number_any (l := [49, 50]) (HE.out.keep HB.out) (by decide)).mono ?_)
  rintro e w6 ⟨rfl, hb⟩
  replace HB := Lib.hid (Gen.over hb HB.out)
  replace HT1 := Lib.hid (HT1.out.keep hb)
  replace HT4 := Lib.hid (HT4.out.keep hb)
  replace HW := Lib.hid (HW.out.keep hb)
  clear hb
  rw [show NumR [49, 50] = .tuple #[.int .i64 12, .bool true] from rfl]
  dsimp only
  go_wp2_with (fail)
  go_must (refine (number_any (l := [48, 49, 50]) (HE.out.keep HB.out) (by decide)).mono ?_)
  rintro e w7 ⟨rfl, hb⟩
  replace HB := Lib.hid (Gen.over hb HB.out)
  replace HT1 := Lib.hid (HT1.out.keep hb)
  replace HT4 := Lib.hid (HT4.out.keep hb)
  replace HW := Lib.hid (HW.out.keep hb)
  clear hb
  rw [show NumR [48, 49, 50] = .tuple #[.int .i64 0, .bool false] from rfl]
  dsimp only
  go_wp2_with (fail)
  go_must (refine (same_eq (n := 5) (xs := want1) (by decide) rfl HT1.out HW.out).mono ?_)
  rintro e w8 ⟨rfl, hb⟩
  replace HB := Lib.hid (Gen.over hb HB.out)
  replace HT4 := Lib.hid (HT4.out.keep hb)
  clear hb HT1 HW
  dsimp only
  go_wp2_with (fail)
  go_must (refine (text_any (M := 10) (xs := want4) (n := 5) rfl HT4.out (by decide) (by decide) (by decide)).mono ?_)
  rintro e w9 ⟨rfl, hb⟩
  replace HB := Lib.hid (Gen.over hb HB.out)
  clear hb
  rw [jn4]
  dsimp only
  go_wp2_with (fail)
  go_must (refine (word_any (l := [97, 49]) (by decide)).mono ?_)
  rintro e w10 ⟨rfl, hw⟩
  have hw := hw.symm
  subst hw
  rw [show isWord [97, 49] = true from rfl]
  dsimp only
  go_wp2_with (fail)
  go_must (refine (word_any (l := [49, 97]) (by decide)).mono ?_)
  rintro e w10 ⟨rfl, hw⟩
  have hw := hw.symm
  subst hw
  rw [show isWord [49, 97] = false from rfl]
  dsimp only
  go_wp2
  go_ret
  exact ⟨rfl, HB.out⟩
end Go.Proofs.YtmineoilmmifiaaDoor.Lx
