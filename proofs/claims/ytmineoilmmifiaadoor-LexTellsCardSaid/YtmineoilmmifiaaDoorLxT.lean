/- Tokens: the program's next. -/
import Derived.Test.YtmineoilmmifiaaDoorLxS
import Derived.Deep.Cut
namespace Go.Proofs.YtmineoilmmifiaaDoor.Lx
open Go.Lib Go.ChangeShapes Go.WideShapes Go.ChangeAt Go.RowKit Go.Proofs.YtmineoilmmifiaaDoor.Cell
set_option linter.unusedVariables false
set_option linter.unusedSimpArgs false
/-- a token as a value -/
def tkv (k : Int) (t : List UInt8) (n p : Int) : Value := .agg #[.int .i64 k, .string ⟨t.toArray⟩, .int .i64 n, .int .i64 p]
/-- what next returns -/
def NxR (l : List UInt8) : Value := match nxt l with
  | .ok (k, t, n) => .tuple #[tkv k t n 0, .int .i64 0]
  | .error e => .tuple #[tkv 0 [] 0 0, .int .i64 e]
theorem find_at {α : Type} {p : α → Bool} : ∀ {l : List α} {k : Nat} {x : α}, (∀ j y, j < k → l[j]? = some y → p y = false) → l[k]? = some x → p x = true → l.find? p = some x
  | [], k, x, _, h, _ => by simp at h
  | a :: l, 0, x, _, h, hp => by
    simp at h
    subst h
    rw [List.find?_cons, hp]
  | a :: l, k + 1, x, hj, h, hp => by
    rw [List.find?_cons, hj 0 a (by omega) rfl]
    exact find_at (l := l) (k := k) (fun j y h1 h2 => hj (j + 1) y (by omega) h2) h hp
theorem find_no {α : Type} {p : α → Bool} {l : List α} (h : ∀ j y, j < l.length → l[j]? = some y → p y = false) : l.find? p = none := by
  rw [List.find?_eq_none]
  intro x hx
  obtain ⟨j, hj⟩ := List.getElem?_of_mem hx
  rw [h j x (List.getElem?_eq_some_iff.1 hj).1 hj]
  simp
theorem sgn_at {l : List UInt8} {k : Nat} {x : List UInt8} (h : ∀ j y, j < k → signs[j]? = some y → y.isPrefixOf l = false) (hx : signs[k]? = some x) (hp : x.isPrefixOf l = true) : sgn l = some x := find_at (p := fun t : List UInt8 => t.isPrefixOf l) h hx hp
theorem sgn_no {l : List UInt8} (h : ∀ j y, j < 11 → signs[j]? = some y → y.isPrefixOf l = false) : sgn l = none := find_no (p := fun t : List UInt8 => t.isPrefixOf l) (l := signs) h
theorem sig_0 (w : World) : (Instr.index 48 (.agg #[.string ⟨#[61, 61]⟩, .string ⟨#[59]⟩, .string ⟨#[44]⟩, .string ⟨#[61]⟩, .string ⟨#[60]⟩, .string ⟨#[43]⟩, .string ⟨#[45]⟩, .string ⟨#[42]⟩, .string ⟨#[47]⟩, .string ⟨#[40]⟩, .string ⟨#[41]⟩]) (.int .i64 0)).run Tryd.prog w = .ok (.string ⟨#[61, 61]⟩) w := by kernel_rfl
theorem sig_1 (w : World) : (Instr.index 48 (.agg #[.string ⟨#[61, 61]⟩, .string ⟨#[59]⟩, .string ⟨#[44]⟩, .string ⟨#[61]⟩, .string ⟨#[60]⟩, .string ⟨#[43]⟩, .string ⟨#[45]⟩, .string ⟨#[42]⟩, .string ⟨#[47]⟩, .string ⟨#[40]⟩, .string ⟨#[41]⟩]) (.int .i64 1)).run Tryd.prog w = .ok (.string ⟨#[59]⟩) w := by kernel_rfl
theorem sig_2 (w : World) : (Instr.index 48 (.agg #[.string ⟨#[61, 61]⟩, .string ⟨#[59]⟩, .string ⟨#[44]⟩, .string ⟨#[61]⟩, .string ⟨#[60]⟩, .string ⟨#[43]⟩, .string ⟨#[45]⟩, .string ⟨#[42]⟩, .string ⟨#[47]⟩, .string ⟨#[40]⟩, .string ⟨#[41]⟩]) (.int .i64 2)).run Tryd.prog w = .ok (.string ⟨#[44]⟩) w := by kernel_rfl
theorem sig_3 (w : World) : (Instr.index 48 (.agg #[.string ⟨#[61, 61]⟩, .string ⟨#[59]⟩, .string ⟨#[44]⟩, .string ⟨#[61]⟩, .string ⟨#[60]⟩, .string ⟨#[43]⟩, .string ⟨#[45]⟩, .string ⟨#[42]⟩, .string ⟨#[47]⟩, .string ⟨#[40]⟩, .string ⟨#[41]⟩]) (.int .i64 3)).run Tryd.prog w = .ok (.string ⟨#[61]⟩) w := by kernel_rfl
theorem sig_4 (w : World) : (Instr.index 48 (.agg #[.string ⟨#[61, 61]⟩, .string ⟨#[59]⟩, .string ⟨#[44]⟩, .string ⟨#[61]⟩, .string ⟨#[60]⟩, .string ⟨#[43]⟩, .string ⟨#[45]⟩, .string ⟨#[42]⟩, .string ⟨#[47]⟩, .string ⟨#[40]⟩, .string ⟨#[41]⟩]) (.int .i64 4)).run Tryd.prog w = .ok (.string ⟨#[60]⟩) w := by kernel_rfl
theorem sig_5 (w : World) : (Instr.index 48 (.agg #[.string ⟨#[61, 61]⟩, .string ⟨#[59]⟩, .string ⟨#[44]⟩, .string ⟨#[61]⟩, .string ⟨#[60]⟩, .string ⟨#[43]⟩, .string ⟨#[45]⟩, .string ⟨#[42]⟩, .string ⟨#[47]⟩, .string ⟨#[40]⟩, .string ⟨#[41]⟩]) (.int .i64 5)).run Tryd.prog w = .ok (.string ⟨#[43]⟩) w := by kernel_rfl
theorem sig_6 (w : World) : (Instr.index 48 (.agg #[.string ⟨#[61, 61]⟩, .string ⟨#[59]⟩, .string ⟨#[44]⟩, .string ⟨#[61]⟩, .string ⟨#[60]⟩, .string ⟨#[43]⟩, .string ⟨#[45]⟩, .string ⟨#[42]⟩, .string ⟨#[47]⟩, .string ⟨#[40]⟩, .string ⟨#[41]⟩]) (.int .i64 6)).run Tryd.prog w = .ok (.string ⟨#[45]⟩) w := by kernel_rfl
theorem sig_7 (w : World) : (Instr.index 48 (.agg #[.string ⟨#[61, 61]⟩, .string ⟨#[59]⟩, .string ⟨#[44]⟩, .string ⟨#[61]⟩, .string ⟨#[60]⟩, .string ⟨#[43]⟩, .string ⟨#[45]⟩, .string ⟨#[42]⟩, .string ⟨#[47]⟩, .string ⟨#[40]⟩, .string ⟨#[41]⟩]) (.int .i64 7)).run Tryd.prog w = .ok (.string ⟨#[42]⟩) w := by kernel_rfl
theorem sig_8 (w : World) : (Instr.index 48 (.agg #[.string ⟨#[61, 61]⟩, .string ⟨#[59]⟩, .string ⟨#[44]⟩, .string ⟨#[61]⟩, .string ⟨#[60]⟩, .string ⟨#[43]⟩, .string ⟨#[45]⟩, .string ⟨#[42]⟩, .string ⟨#[47]⟩, .string ⟨#[40]⟩, .string ⟨#[41]⟩]) (.int .i64 8)).run Tryd.prog w = .ok (.string ⟨#[47]⟩) w := by kernel_rfl
theorem sig_9 (w : World) : (Instr.index 48 (.agg #[.string ⟨#[61, 61]⟩, .string ⟨#[59]⟩, .string ⟨#[44]⟩, .string ⟨#[61]⟩, .string ⟨#[60]⟩, .string ⟨#[43]⟩, .string ⟨#[45]⟩, .string ⟨#[42]⟩, .string ⟨#[47]⟩, .string ⟨#[40]⟩, .string ⟨#[41]⟩]) (.int .i64 9)).run Tryd.prog w = .ok (.string ⟨#[40]⟩) w := by kernel_rfl
theorem sig_10 (w : World) : (Instr.index 48 (.agg #[.string ⟨#[61, 61]⟩, .string ⟨#[59]⟩, .string ⟨#[44]⟩, .string ⟨#[61]⟩, .string ⟨#[60]⟩, .string ⟨#[43]⟩, .string ⟨#[45]⟩, .string ⟨#[42]⟩, .string ⟨#[47]⟩, .string ⟨#[40]⟩, .string ⟨#[41]⟩]) (.int .i64 10)).run Tryd.prog w = .ok (.string ⟨#[41]⟩) w := by kernel_rfl
section
variable {w0 W : World} {c : UInt8} {r : List UInt8}
set_option maxRecDepth 100000 in
set_option maxHeartbeats 8000000 in
theorem next_ltr (hl : (c :: r).length ≤ 1000000000) (hc : ltr c = true) :
    Calls Tryd.prog 24 #[.string ⟨(c :: r).toArray⟩] W fun e w' => e = .returned (NxR (c :: r)) ∧ Below W.heap.size W w' := by
  have hz : (⟨(c :: r).toArray⟩ : ByteArray).size = r.length + 1 := by simp [ByteArray.size]
  have hgc : (⟨(c :: r).toArray⟩ : ByteArray)[0]'(by rw [hz]; omega) = c := rfl
  have HL := Lib.hid (letter_any c)
  rw [hc] at HL
  have HS := Lib.hid (fun W' => span_wrd (l := c :: r) (W := W') hl)
  have HSL := Lib.hid (spn_le wrd (c :: r))
  have HTK : Hid ((⟨(c :: r).toArray⟩ : ByteArray).extract 0 (spn wrd (c :: r)) = ⟨((c :: r).takeWhile wrd).toArray⟩) := Lib.hid (str_eq (by rw [Lib.extract_data, List.drop_zero, Nat.sub_zero]; exact take_spn wrd (c :: r)))
  have hTl : ((c :: r).takeWhile wrd).length ≤ 1000000000 := Nat.le_trans (spn_le wrd (c :: r)) hl
  obtain ⟨S, hS⟩ : ∃ S, spn wrd (c :: r) = S := ⟨_, rfl⟩
  obtain ⟨T, hT⟩ : ∃ T, (c :: r).takeWhile wrd = T := ⟨_, rfl⟩
  have HNX : Hid (NxR (c :: r) = if isWord T then .tuple #[tkv 0 T 0 0, .int .i64 0] else .tuple #[tkv 0 [] 0 0, .int .i64 11]) := Lib.hid (by
    unfold NxR nxt
    dsimp only
    rw [if_pos hc, hT]
    by_cases h : isWord T = true
    · rw [if_pos h, if_pos h]
    · rw [if_neg h, if_neg h])
  rw [hS] at HS HSL HTK
  rw [hT] at HTK hTl
  have HW := Lib.hid (fun W' => word_any (l := T) (W := W') hTl)
  have hS0 : (0 : Int) ≤ (S : Int) := by omega
  have hS1 : (S : Int) ≤ (r.length : Int) + 1 := by have := HSL.out; simp at this; omega
  clear hS hT
  go_enter Tryd.func24, Tryd.ntmps24
  go_wp2_with (fail)
  go_must (refine (HL.out _).mono ?_)
  rintro e w1 ⟨rfl, hw⟩
  have hw := hw.symm
  subst hw
  dsimp only
  go_wp2_with (fail)
  go_must (refine (HS.out _).mono ?_)
  rintro e w1 ⟨rfl, hw⟩
  have hw := hw.symm
  subst hw
  dsimp only
  go_wp2_with (fail)
  rw [HTK.out]
  go_must (refine (HW.out _).mono ?_)
  rintro e w1 ⟨rfl, hw⟩
  have hw := hw.symm
  subst hw
  cases hword : isWord T
  · have HN : Hid (NxR (c :: r) = .tuple #[tkv 0 [] 0 0, .int .i64 11]) := Lib.hid (by rw [HNX.out, hword]; rfl)
    dsimp only
    have HB := Lib.hid (show Below W.heap.size W (W.alloc (.cells #[.int .i64 0, .string ⟨#[]⟩, .int .i64 0, .int .i64 0] 25)) from Gen.b_alloc (Below.refl _ _))
    go_wp2
    exact bodyPost_ret (v := .tuple #[.agg #[.int .i64 0, .string ⟨#[]⟩, .int .i64 0, .int .i64 0], .int .i64 11]) (by simp [results, Tryd.results24, go_sem]) rfl ⟨by rw [HN.out]; rfl, HB.out⟩
  · have HN : Hid (NxR (c :: r) = .tuple #[tkv 0 T 0 0, .int .i64 0]) := Lib.hid (by rw [HNX.out, hword]; rfl)
    dsimp only
    have HB := Lib.hid (show Below W.heap.size W (W.alloc (.cells #[.int .i64 0, .string ⟨T.toArray⟩, .int .i64 0, .int .i64 0] 25)) from Gen.b_alloc (Below.refl _ _))
    go_wp2
    exact bodyPost_ret (v := .tuple #[.agg #[.int .i64 0, .string ⟨T.toArray⟩, .int .i64 0, .int .i64 0], .int .i64 0]) (by simp [results, Tryd.results24, go_sem]) rfl ⟨by rw [HN.out]; rfl, HB.out⟩
set_option maxRecDepth 100000 in
set_option maxHeartbeats 8000000 in
theorem next_dgt (hE : Ev w0 W) (hl : (c :: r).length ≤ 1000000000) (hc : dgt c = true) :
    Calls Tryd.prog 24 #[.string ⟨(c :: r).toArray⟩] W fun e w' => e = .returned (NxR (c :: r)) ∧ Below W.heap.size W w' := by
  have hz : (⟨(c :: r).toArray⟩ : ByteArray).size = r.length + 1 := by simp [ByteArray.size]
  have hgc : (⟨(c :: r).toArray⟩ : ByteArray)[0]'(by rw [hz]; omega) = c := rfl
  have HL := Lib.hid (letter_any c)
  rw [dgt_ltr hc] at HL
  have HD := Lib.hid (digit_any c)
  rw [hc] at HD
  have HS := Lib.hid (fun W' => span_dgt (l := c :: r) (W := W') hl)
  have HSL := Lib.hid (spn_le dgt (c :: r))
  have HTK : Hid ((⟨(c :: r).toArray⟩ : ByteArray).extract 0 (spn dgt (c :: r)) = ⟨((c :: r).takeWhile dgt).toArray⟩) := Lib.hid (str_eq (by rw [Lib.extract_data, List.drop_zero, Nat.sub_zero]; exact take_spn dgt (c :: r)))
  have hTl : ((c :: r).takeWhile dgt).length ≤ 1000000000 := Nat.le_trans (spn_le dgt (c :: r)) hl
  obtain ⟨S, hS⟩ : ∃ S, spn dgt (c :: r) = S := ⟨_, rfl⟩
  obtain ⟨T, hT⟩ : ∃ T, (c :: r).takeWhile dgt = T := ⟨_, rfl⟩
  have HNX : Hid (NxR (c :: r) = if isNum T then .tuple #[tkv 1 T (val T : Int) 0, .int .i64 0] else .tuple #[tkv 0 [] 0 0, .int .i64 3]) := Lib.hid (by
    unfold NxR nxt
    dsimp only
    rw [dgt_ltr hc, if_neg (by simp), if_pos hc, hT]
    by_cases h : isNum T = true
    · rw [if_pos h, if_pos h]
    · rw [if_neg h, if_neg h])
  rw [hS] at HS HSL HTK
  rw [hT] at HTK hTl
  have HA : Hid (Ev w0 (W.alloc (.cells #[.int .i64 0, .string ⟨#[]⟩, .int .i64 0, .int .i64 0] 25))) := Lib.hid (hE.keep (Gen.b_alloc (Below.refl _ _)))
  have HW := Lib.hid (number_any (l := T) HA.out hTl)
  have hRr : Row (W.alloc (.cells #[.int .i64 0, .string ⟨#[]⟩, .int .i64 0, .int .i64 0] 25)) W.heap.size 25 #[.int .i64 0, .string ⟨#[]⟩, .int .i64 0, .int .i64 0] := Row.new _ _ _
  have HRr := Lib.hid hRr
  have hB0 : Below W.heap.size W (W.alloc (.cells #[.int .i64 0, .string ⟨#[]⟩, .int .i64 0, .int .i64 0] 25)) := Gen.b_alloc (Below.refl _ _)
  have HB0 := Lib.hid hB0
  have hS0 : (0 : Int) ≤ (S : Int) := by omega
  have hS1 : (S : Int) ≤ (r.length : Int) + 1 := by have := HSL.out; simp at this; omega
  clear hS hT hE hRr hB0
  go_enter Tryd.func24, Tryd.ntmps24
  go_wp2_with (fail)
  go_must (refine (HL.out _).mono ?_)
  rintro e w1 ⟨rfl, hw⟩
  have hw := hw.symm
  subst hw
  dsimp only
  go_wp2_with (fail)
  go_must (refine (HD.out _).mono ?_)
  rintro e w1 ⟨rfl, hw⟩
  have hw := hw.symm
  subst hw
  dsimp only
  go_wp2_with (fail)
  go_must (refine (HS.out _).mono ?_)
  rintro e w1 ⟨rfl, hw⟩
  have hw := hw.symm
  subst hw
  dsimp only
  go_wp2_with (fail)
  rw [HTK.out]
  go_must (refine HW.out.mono ?_)
  rintro e w1 ⟨rfl, hb1⟩
  have HB1 := Lib.hid (Gen.over hb1 HB0.out)
  have HR1 := Lib.hid (HRr.out.keep hb1)
  have f0 := Row.frozen HR1.out 0
  have f1 := Row.frozen HR1.out 1
  have f2 := Row.frozen HR1.out 2
  have f3 := Row.frozen HR1.out 3
  have d0 := Row.cell HR1.out 0
  have d1 := Row.cell HR1.out 1
  have d2 := Row.cell HR1.out 2
  have d3 := Row.cell HR1.out 3
  clear hb1
  cases hnum : isNum T
  · have HN : Hid (NxR (c :: r) = .tuple #[tkv 0 [] 0 0, .int .i64 3]) := Lib.hid (by rw [HNX.out, hnum]; rfl)
    rw [NumR_no hnum]
    dsimp only
    have HBz := Lib.hid (show Below W.heap.size W ((((w1.setCell ⟨W.heap.size, 0, none⟩ (.int .i64 0)).setCell ⟨W.heap.size, 1, none⟩ (.string ⟨#[]⟩)).setCell ⟨W.heap.size, 2, none⟩ (.int .i64 0)).setCell ⟨W.heap.size, 3, none⟩ (.int .i64 0)) from (Below.setCell (p := ⟨W.heap.size, 3, none⟩) (Below.setCell (p := ⟨W.heap.size, 2, none⟩) (Below.setCell (p := ⟨W.heap.size, 1, none⟩) (Below.setCell (p := ⟨W.heap.size, 0, none⟩) HB1.out (Nat.le_refl _) (.int .i64 0)) (Nat.le_refl _) (.string ⟨#[]⟩)) (Nat.le_refl _) (.int .i64 0)) (Nat.le_refl _) (.int .i64 0)))
    have hrz := (Row.set (Row.set (Row.set (Row.set HR1.out 0 (.int .i64 0)) 1 (.string ⟨#[]⟩)) 2 (.int .i64 0)) 3 (.int .i64 0))
    have e0 := Row.cell hrz 0
    have e1 := Row.cell hrz 1
    have e2 := Row.cell hrz 2
    have e3 := Row.cell hrz 3
    clear hrz
    go_wp2
    exact bodyPost_ret (v := .tuple #[.agg #[.int .i64 0, .string ⟨#[]⟩, .int .i64 0, .int .i64 0], .int .i64 3]) (by simp [results, Tryd.results24, go_sem, e0, e1, e2, e3]) rfl ⟨by rw [HN.out]; rfl, HBz.out⟩
  · have HN : Hid (NxR (c :: r) = .tuple #[tkv 1 T (val T : Int) 0, .int .i64 0]) := Lib.hid (by rw [HNX.out, hnum]; rfl)
    rw [NumR_yes hnum rfl]
    obtain ⟨V, hV⟩ : ∃ V, val T = V := ⟨_, rfl⟩
    rw [hV] at HN ⊢
    dsimp only
    have HBz := Lib.hid (show Below W.heap.size W ((((w1.setCell ⟨W.heap.size, 0, none⟩ (.int .i64 1)).setCell ⟨W.heap.size, 1, none⟩ (.string ⟨T.toArray⟩)).setCell ⟨W.heap.size, 2, none⟩ (.int .i64 (V : Int))).setCell ⟨W.heap.size, 3, none⟩ (.int .i64 0)) from (Below.setCell (p := ⟨W.heap.size, 3, none⟩) (Below.setCell (p := ⟨W.heap.size, 2, none⟩) (Below.setCell (p := ⟨W.heap.size, 1, none⟩) (Below.setCell (p := ⟨W.heap.size, 0, none⟩) HB1.out (Nat.le_refl _) (.int .i64 1)) (Nat.le_refl _) (.string ⟨T.toArray⟩)) (Nat.le_refl _) (.int .i64 (V : Int))) (Nat.le_refl _) (.int .i64 0)))
    have hrz := (Row.set (Row.set (Row.set (Row.set HR1.out 0 (.int .i64 1)) 1 (.string ⟨T.toArray⟩)) 2 (.int .i64 (V : Int))) 3 (.int .i64 0))
    have e0 := Row.cell hrz 0
    have e1 := Row.cell hrz 1
    have e2 := Row.cell hrz 2
    have e3 := Row.cell hrz 3
    clear hrz
    go_wp2
    exact bodyPost_ret (v := .tuple #[.agg #[.int .i64 1, .string ⟨T.toArray⟩, .int .i64 (V : Int), .int .i64 0], .int .i64 0]) (by simp [results, Tryd.results24, go_sem, e0, e1, e2, e3]) rfl ⟨by rw [HN.out]; rfl, HBz.out⟩
set_option maxRecDepth 100000 in
set_option maxHeartbeats 16000000 in
theorem next_sgn (hE : Ev w0 W) (hl : (c :: r).length ≤ 1000000000) (hc1 : ltr c = false) (hc2 : dgt c = false) :
    Calls Tryd.prog 24 #[.string ⟨(c :: r).toArray⟩] W fun e w' => e = .returned (NxR (c :: r)) ∧ Below W.heap.size W w' := by
  have hz : (⟨(c :: r).toArray⟩ : ByteArray).size = r.length + 1 := by simp [ByteArray.size]
  have hgc : (⟨(c :: r).toArray⟩ : ByteArray)[0]'(by rw [hz]; omega) = c := rfl
  have HL := Lib.hid (letter_any c)
  have HD := Lib.hid (digit_any c)
  rw [hc1] at HL
  rw [hc2] at HD
  have HNX : Hid (NxR (c :: r) = match sgn (c :: r) with | some t => .tuple #[tkv 2 t 0 0, .int .i64 0] | none => .tuple #[tkv 0 [] 0 0, .int .i64 10]) := Lib.hid (by
    unfold NxR nxt
    dsimp only
    rw [hc1, hc2]
    simp only [Bool.false_eq_true, if_false]
    cases sgn (c :: r) <;> rfl)
  have HP := Lib.hid (fun (p : List UInt8) W' => Tryd.strings_HasPrefix ⟨(c :: r).toArray⟩ ⟨p.toArray⟩ W')
  have hA := hE.keep (show Below W.heap.size W (W.alloc (.cells #[.int .i64 0, .string ⟨#[]⟩, .int .i64 0, .int .i64 0] 25)) from Gen.b_alloc (Below.refl _ _))
  have q0 := Gen.keep hA.b (hE.sg 0 [61, 61] rfl)
  have q1 := Gen.keep hA.b (hE.sg 1 [59] rfl)
  have q2 := Gen.keep hA.b (hE.sg 2 [44] rfl)
  have q3 := Gen.keep hA.b (hE.sg 3 [61] rfl)
  have q4 := Gen.keep hA.b (hE.sg 4 [60] rfl)
  have q5 := Gen.keep hA.b (hE.sg 5 [43] rfl)
  have q6 := Gen.keep hA.b (hE.sg 6 [45] rfl)
  have q7 := Gen.keep hA.b (hE.sg 7 [42] rfl)
  have q8 := Gen.keep hA.b (hE.sg 8 [47] rfl)
  have q9 := Gen.keep hA.b (hE.sg 9 [40] rfl)
  have q10 := Gen.keep hA.b (hE.sg 10 [41] rfl)
  have x0 := sig_0
  have x1 := sig_1
  have x2 := sig_2
  have x3 := sig_3
  have x4 := sig_4
  have x5 := sig_5
  have x6 := sig_6
  have x7 := sig_7
  have x8 := sig_8
  have x9 := sig_9
  have x10 := sig_10
  have HRr : Hid (Row (W.alloc (.cells #[.int .i64 0, .string ⟨#[]⟩, .int .i64 0, .int .i64 0] 25)) W.heap.size 25 #[.int .i64 0, .string ⟨#[]⟩, .int .i64 0, .int .i64 0]) := Lib.hid (Row.new _ _ _)
  have HB0 : Hid (Below W.heap.size W (W.alloc (.cells #[.int .i64 0, .string ⟨#[]⟩, .int .i64 0, .int .i64 0] 25))) := Lib.hid (Gen.b_alloc (Below.refl _ _))
  clear hE hA
  go_enter Tryd.func24, Tryd.ntmps24
  go_wp2_with (fail)
  go_must (refine (HL.out _).mono ?_)
  rintro e w1 ⟨rfl, hw⟩
  have hw := hw.symm
  subst hw
  dsimp only
  go_wp2_with (fail)
  go_must (refine (HD.out _).mono ?_)
  rintro e w1 ⟨rfl, hw⟩
  have hw := hw.symm
  subst hw
  dsimp only
  go_upto_region 12 with (fail)
  generalize (W.alloc (.cells #[.int .i64 0, .string ⟨#[]⟩, .int .i64 0, .int .i64 0] 25)) = W1 at *
  go_wp2
  go_loopw [44] (fun iv wr => ∃ k : Nat, k ≤ 11 ∧ iv = .int .i64 k ∧ Hid (∀ j y, j < k → signs[j]? = some y → y.isPrefixOf (c :: r) = false) ∧ wr = W1) (fun iv _ => 11 - (RowKit.intOf iv).toNat)
  case atStart => exact ⟨0, by decide, rfl, Lib.hid (fun j y hj => absurd hj (by omega)), rfl⟩
  case round =>
    obtain ⟨k, hk, rfl, HJ, hw⟩ := hrel
    have hw := hw.symm
    subst hw
    rcases (show k = 0 ∨ k = 1 ∨ k = 2 ∨ k = 3 ∨ k = 4 ∨ k = 5 ∨ k = 6 ∨ k = 7 ∨ k = 8 ∨ k = 9 ∨ k = 10 ∨ k = 11 by omega) with rfl | rfl | rfl | rfl | rfl | rfl | rfl | rfl | rfl | rfl | rfl | rfl
    · go_wp2_with (fail)
      go_must (refine (HP.out [61, 61] _).mono ?_)
      rintro e w5 ⟨rfl, hw⟩
      have hw := hw.symm
      subst hw
      cases hp : (([61, 61] : List UInt8).isPrefixOf (c :: r))
      · have HJ2 : Hid (∀ j y, j < 1 → signs[j]? = some y → y.isPrefixOf (c :: r) = false) := Lib.hid fun j y hj hy => by
          by_cases hjk : j < 0
          · exact HJ.out j y hjk hy
          · obtain rfl : j = 0 := by omega
            obtain rfl : [61, 61] = y := by injection hy
            exact hp
        have hpp : Lib.hasPrefix (⟨(c :: r).toArray⟩ : ByteArray).data.toList (⟨([61, 61] : List UInt8).toArray⟩ : ByteArray).data.toList = false := hp
        rw [hpp]
        clear hpp hp
        dsimp only
        go_wp2
        go_roundw
        case rel => exact ⟨1, by omega, by first | rfl | go_num, HJ2, by first | rfl | trivial⟩
        case measure => simp [RowKit.intOf]
      · have HN : Hid (NxR (c :: r) = .tuple #[tkv 2 [61, 61] 0 0, .int .i64 0]) := Lib.hid (by
          rw [HNX.out, show sgn (c :: r) = some [61, 61] from sgn_at (k := 0) HJ.out rfl hp])
        have hpp : Lib.hasPrefix (⟨(c :: r).toArray⟩ : ByteArray).data.toList (⟨([61, 61] : List UInt8).toArray⟩ : ByteArray).data.toList = true := hp
        rw [hpp]
        clear hpp hp
        have HR1 := HRr
        have HB1 := HB0
        have f0 := Row.frozen HR1.out 0
        have f1 := Row.frozen HR1.out 1
        have f2 := Row.frozen HR1.out 2
        have f3 := Row.frozen HR1.out 3
        have d0 := Row.cell HR1.out 0
        have d1 := Row.cell HR1.out 1
        have d2 := Row.cell HR1.out 2
        have d3 := Row.cell HR1.out 3
        dsimp only
        have HBz := Lib.hid (show Below W.heap.size W ((((W1.setCell ⟨W.heap.size, 0, none⟩ (.int .i64 2)).setCell ⟨W.heap.size, 1, none⟩ (.string ⟨#[61, 61]⟩)).setCell ⟨W.heap.size, 2, none⟩ (.int .i64 0)).setCell ⟨W.heap.size, 3, none⟩ (.int .i64 0)) from (Below.setCell (p := ⟨W.heap.size, 3, none⟩) (Below.setCell (p := ⟨W.heap.size, 2, none⟩) (Below.setCell (p := ⟨W.heap.size, 1, none⟩) (Below.setCell (p := ⟨W.heap.size, 0, none⟩) HB1.out (Nat.le_refl _) (.int .i64 2)) (Nat.le_refl _) (.string ⟨#[61, 61]⟩)) (Nat.le_refl _) (.int .i64 0)) (Nat.le_refl _) (.int .i64 0)))
        have hrz := (Row.set (Row.set (Row.set (Row.set HR1.out 0 (.int .i64 2)) 1 (.string ⟨#[61, 61]⟩)) 2 (.int .i64 0)) 3 (.int .i64 0))
        have e0 := Row.cell hrz 0
        have e1 := Row.cell hrz 1
        have e2 := Row.cell hrz 2
        have e3 := Row.cell hrz 3
        clear hrz
        go_wp2
        exact bodyPost_ret (v := .tuple #[.agg #[.int .i64 2, .string ⟨#[61, 61]⟩, .int .i64 0, .int .i64 0], .int .i64 0]) (by simp [results, Tryd.results24, go_sem, e0, e1, e2, e3]) rfl ⟨by rw [HN.out]; rfl, HBz.out⟩
    · go_wp2_with (fail)
      go_must (refine (HP.out [59] _).mono ?_)
      rintro e w5 ⟨rfl, hw⟩
      have hw := hw.symm
      subst hw
      cases hp : (([59] : List UInt8).isPrefixOf (c :: r))
      · have HJ2 : Hid (∀ j y, j < 2 → signs[j]? = some y → y.isPrefixOf (c :: r) = false) := Lib.hid fun j y hj hy => by
          by_cases hjk : j < 1
          · exact HJ.out j y hjk hy
          · obtain rfl : j = 1 := by omega
            obtain rfl : [59] = y := by injection hy
            exact hp
        have hpp : Lib.hasPrefix (⟨(c :: r).toArray⟩ : ByteArray).data.toList (⟨([59] : List UInt8).toArray⟩ : ByteArray).data.toList = false := hp
        rw [hpp]
        clear hpp hp
        dsimp only
        go_wp2
        go_roundw
        case rel => exact ⟨2, by omega, by first | rfl | go_num, HJ2, by first | rfl | trivial⟩
        case measure => simp [RowKit.intOf]
      · have HN : Hid (NxR (c :: r) = .tuple #[tkv 2 [59] 0 0, .int .i64 0]) := Lib.hid (by
          rw [HNX.out, show sgn (c :: r) = some [59] from sgn_at (k := 1) HJ.out rfl hp])
        have hpp : Lib.hasPrefix (⟨(c :: r).toArray⟩ : ByteArray).data.toList (⟨([59] : List UInt8).toArray⟩ : ByteArray).data.toList = true := hp
        rw [hpp]
        clear hpp hp
        have HR1 := HRr
        have HB1 := HB0
        have f0 := Row.frozen HR1.out 0
        have f1 := Row.frozen HR1.out 1
        have f2 := Row.frozen HR1.out 2
        have f3 := Row.frozen HR1.out 3
        have d0 := Row.cell HR1.out 0
        have d1 := Row.cell HR1.out 1
        have d2 := Row.cell HR1.out 2
        have d3 := Row.cell HR1.out 3
        dsimp only
        have HBz := Lib.hid (show Below W.heap.size W ((((W1.setCell ⟨W.heap.size, 0, none⟩ (.int .i64 2)).setCell ⟨W.heap.size, 1, none⟩ (.string ⟨#[59]⟩)).setCell ⟨W.heap.size, 2, none⟩ (.int .i64 0)).setCell ⟨W.heap.size, 3, none⟩ (.int .i64 0)) from (Below.setCell (p := ⟨W.heap.size, 3, none⟩) (Below.setCell (p := ⟨W.heap.size, 2, none⟩) (Below.setCell (p := ⟨W.heap.size, 1, none⟩) (Below.setCell (p := ⟨W.heap.size, 0, none⟩) HB1.out (Nat.le_refl _) (.int .i64 2)) (Nat.le_refl _) (.string ⟨#[59]⟩)) (Nat.le_refl _) (.int .i64 0)) (Nat.le_refl _) (.int .i64 0)))
        have hrz := (Row.set (Row.set (Row.set (Row.set HR1.out 0 (.int .i64 2)) 1 (.string ⟨#[59]⟩)) 2 (.int .i64 0)) 3 (.int .i64 0))
        have e0 := Row.cell hrz 0
        have e1 := Row.cell hrz 1
        have e2 := Row.cell hrz 2
        have e3 := Row.cell hrz 3
        clear hrz
        go_wp2
        exact bodyPost_ret (v := .tuple #[.agg #[.int .i64 2, .string ⟨#[59]⟩, .int .i64 0, .int .i64 0], .int .i64 0]) (by simp [results, Tryd.results24, go_sem, e0, e1, e2, e3]) rfl ⟨by rw [HN.out]; rfl, HBz.out⟩
    · go_wp2_with (fail)
      go_must (refine (HP.out [44] _).mono ?_)
      rintro e w5 ⟨rfl, hw⟩
      have hw := hw.symm
      subst hw
      cases hp : (([44] : List UInt8).isPrefixOf (c :: r))
      · have HJ2 : Hid (∀ j y, j < 3 → signs[j]? = some y → y.isPrefixOf (c :: r) = false) := Lib.hid fun j y hj hy => by
          by_cases hjk : j < 2
          · exact HJ.out j y hjk hy
          · obtain rfl : j = 2 := by omega
            obtain rfl : [44] = y := by injection hy
            exact hp
        have hpp : Lib.hasPrefix (⟨(c :: r).toArray⟩ : ByteArray).data.toList (⟨([44] : List UInt8).toArray⟩ : ByteArray).data.toList = false := hp
        rw [hpp]
        clear hpp hp
        dsimp only
        go_wp2
        go_roundw
        case rel => exact ⟨3, by omega, by first | rfl | go_num, HJ2, by first | rfl | trivial⟩
        case measure => simp [RowKit.intOf]
      · have HN : Hid (NxR (c :: r) = .tuple #[tkv 2 [44] 0 0, .int .i64 0]) := Lib.hid (by
          rw [HNX.out, show sgn (c :: r) = some [44] from sgn_at (k := 2) HJ.out rfl hp])
        have hpp : Lib.hasPrefix (⟨(c :: r).toArray⟩ : ByteArray).data.toList (⟨([44] : List UInt8).toArray⟩ : ByteArray).data.toList = true := hp
        rw [hpp]
        clear hpp hp
        have HR1 := HRr
        have HB1 := HB0
        have f0 := Row.frozen HR1.out 0
        have f1 := Row.frozen HR1.out 1
        have f2 := Row.frozen HR1.out 2
        have f3 := Row.frozen HR1.out 3
        have d0 := Row.cell HR1.out 0
        have d1 := Row.cell HR1.out 1
        have d2 := Row.cell HR1.out 2
        have d3 := Row.cell HR1.out 3
        dsimp only
        have HBz := Lib.hid (show Below W.heap.size W ((((W1.setCell ⟨W.heap.size, 0, none⟩ (.int .i64 2)).setCell ⟨W.heap.size, 1, none⟩ (.string ⟨#[44]⟩)).setCell ⟨W.heap.size, 2, none⟩ (.int .i64 0)).setCell ⟨W.heap.size, 3, none⟩ (.int .i64 0)) from (Below.setCell (p := ⟨W.heap.size, 3, none⟩) (Below.setCell (p := ⟨W.heap.size, 2, none⟩) (Below.setCell (p := ⟨W.heap.size, 1, none⟩) (Below.setCell (p := ⟨W.heap.size, 0, none⟩) HB1.out (Nat.le_refl _) (.int .i64 2)) (Nat.le_refl _) (.string ⟨#[44]⟩)) (Nat.le_refl _) (.int .i64 0)) (Nat.le_refl _) (.int .i64 0)))
        have hrz := (Row.set (Row.set (Row.set (Row.set HR1.out 0 (.int .i64 2)) 1 (.string ⟨#[44]⟩)) 2 (.int .i64 0)) 3 (.int .i64 0))
        have e0 := Row.cell hrz 0
        have e1 := Row.cell hrz 1
        have e2 := Row.cell hrz 2
        have e3 := Row.cell hrz 3
        clear hrz
        go_wp2
        exact bodyPost_ret (v := .tuple #[.agg #[.int .i64 2, .string ⟨#[44]⟩, .int .i64 0, .int .i64 0], .int .i64 0]) (by simp [results, Tryd.results24, go_sem, e0, e1, e2, e3]) rfl ⟨by rw [HN.out]; rfl, HBz.out⟩
    · go_wp2_with (fail)
      go_must (refine (HP.out [61] _).mono ?_)
      rintro e w5 ⟨rfl, hw⟩
      have hw := hw.symm
      subst hw
      cases hp : (([61] : List UInt8).isPrefixOf (c :: r))
      · have HJ2 : Hid (∀ j y, j < 4 → signs[j]? = some y → y.isPrefixOf (c :: r) = false) := Lib.hid fun j y hj hy => by
          by_cases hjk : j < 3
          · exact HJ.out j y hjk hy
          · obtain rfl : j = 3 := by omega
            obtain rfl : [61] = y := by injection hy
            exact hp
        have hpp : Lib.hasPrefix (⟨(c :: r).toArray⟩ : ByteArray).data.toList (⟨([61] : List UInt8).toArray⟩ : ByteArray).data.toList = false := hp
        rw [hpp]
        clear hpp hp
        dsimp only
        go_wp2
        go_roundw
        case rel => exact ⟨4, by omega, by first | rfl | go_num, HJ2, by first | rfl | trivial⟩
        case measure => simp [RowKit.intOf]
      · have HN : Hid (NxR (c :: r) = .tuple #[tkv 2 [61] 0 0, .int .i64 0]) := Lib.hid (by
          rw [HNX.out, show sgn (c :: r) = some [61] from sgn_at (k := 3) HJ.out rfl hp])
        have hpp : Lib.hasPrefix (⟨(c :: r).toArray⟩ : ByteArray).data.toList (⟨([61] : List UInt8).toArray⟩ : ByteArray).data.toList = true := hp
        rw [hpp]
        clear hpp hp
        have HR1 := HRr
        have HB1 := HB0
        have f0 := Row.frozen HR1.out 0
        have f1 := Row.frozen HR1.out 1
        have f2 := Row.frozen HR1.out 2
        have f3 := Row.frozen HR1.out 3
        have d0 := Row.cell HR1.out 0
        have d1 := Row.cell HR1.out 1
        have d2 := Row.cell HR1.out 2
        have d3 := Row.cell HR1.out 3
        dsimp only
        have HBz := Lib.hid (show Below W.heap.size W ((((W1.setCell ⟨W.heap.size, 0, none⟩ (.int .i64 2)).setCell ⟨W.heap.size, 1, none⟩ (.string ⟨#[61]⟩)).setCell ⟨W.heap.size, 2, none⟩ (.int .i64 0)).setCell ⟨W.heap.size, 3, none⟩ (.int .i64 0)) from (Below.setCell (p := ⟨W.heap.size, 3, none⟩) (Below.setCell (p := ⟨W.heap.size, 2, none⟩) (Below.setCell (p := ⟨W.heap.size, 1, none⟩) (Below.setCell (p := ⟨W.heap.size, 0, none⟩) HB1.out (Nat.le_refl _) (.int .i64 2)) (Nat.le_refl _) (.string ⟨#[61]⟩)) (Nat.le_refl _) (.int .i64 0)) (Nat.le_refl _) (.int .i64 0)))
        have hrz := (Row.set (Row.set (Row.set (Row.set HR1.out 0 (.int .i64 2)) 1 (.string ⟨#[61]⟩)) 2 (.int .i64 0)) 3 (.int .i64 0))
        have e0 := Row.cell hrz 0
        have e1 := Row.cell hrz 1
        have e2 := Row.cell hrz 2
        have e3 := Row.cell hrz 3
        clear hrz
        go_wp2
        exact bodyPost_ret (v := .tuple #[.agg #[.int .i64 2, .string ⟨#[61]⟩, .int .i64 0, .int .i64 0], .int .i64 0]) (by simp [results, Tryd.results24, go_sem, e0, e1, e2, e3]) rfl ⟨by rw [HN.out]; rfl, HBz.out⟩
    · go_wp2_with (fail)
      go_must (refine (HP.out [60] _).mono ?_)
      rintro e w5 ⟨rfl, hw⟩
      have hw := hw.symm
      subst hw
      cases hp : (([60] : List UInt8).isPrefixOf (c :: r))
      · have HJ2 : Hid (∀ j y, j < 5 → signs[j]? = some y → y.isPrefixOf (c :: r) = false) := Lib.hid fun j y hj hy => by
          by_cases hjk : j < 4
          · exact HJ.out j y hjk hy
          · obtain rfl : j = 4 := by omega
            obtain rfl : [60] = y := by injection hy
            exact hp
        have hpp : Lib.hasPrefix (⟨(c :: r).toArray⟩ : ByteArray).data.toList (⟨([60] : List UInt8).toArray⟩ : ByteArray).data.toList = false := hp
        rw [hpp]
        clear hpp hp
        dsimp only
        go_wp2
        go_roundw
        case rel => exact ⟨5, by omega, by first | rfl | go_num, HJ2, by first | rfl | trivial⟩
        case measure => simp [RowKit.intOf]
      · have HN : Hid (NxR (c :: r) = .tuple #[tkv 2 [60] 0 0, .int .i64 0]) := Lib.hid (by
          rw [HNX.out, show sgn (c :: r) = some [60] from sgn_at (k := 4) HJ.out rfl hp])
        have hpp : Lib.hasPrefix (⟨(c :: r).toArray⟩ : ByteArray).data.toList (⟨([60] : List UInt8).toArray⟩ : ByteArray).data.toList = true := hp
        rw [hpp]
        clear hpp hp
        have HR1 := HRr
        have HB1 := HB0
        have f0 := Row.frozen HR1.out 0
        have f1 := Row.frozen HR1.out 1
        have f2 := Row.frozen HR1.out 2
        have f3 := Row.frozen HR1.out 3
        have d0 := Row.cell HR1.out 0
        have d1 := Row.cell HR1.out 1
        have d2 := Row.cell HR1.out 2
        have d3 := Row.cell HR1.out 3
        dsimp only
        have HBz := Lib.hid (show Below W.heap.size W ((((W1.setCell ⟨W.heap.size, 0, none⟩ (.int .i64 2)).setCell ⟨W.heap.size, 1, none⟩ (.string ⟨#[60]⟩)).setCell ⟨W.heap.size, 2, none⟩ (.int .i64 0)).setCell ⟨W.heap.size, 3, none⟩ (.int .i64 0)) from (Below.setCell (p := ⟨W.heap.size, 3, none⟩) (Below.setCell (p := ⟨W.heap.size, 2, none⟩) (Below.setCell (p := ⟨W.heap.size, 1, none⟩) (Below.setCell (p := ⟨W.heap.size, 0, none⟩) HB1.out (Nat.le_refl _) (.int .i64 2)) (Nat.le_refl _) (.string ⟨#[60]⟩)) (Nat.le_refl _) (.int .i64 0)) (Nat.le_refl _) (.int .i64 0)))
        have hrz := (Row.set (Row.set (Row.set (Row.set HR1.out 0 (.int .i64 2)) 1 (.string ⟨#[60]⟩)) 2 (.int .i64 0)) 3 (.int .i64 0))
        have e0 := Row.cell hrz 0
        have e1 := Row.cell hrz 1
        have e2 := Row.cell hrz 2
        have e3 := Row.cell hrz 3
        clear hrz
        go_wp2
        exact bodyPost_ret (v := .tuple #[.agg #[.int .i64 2, .string ⟨#[60]⟩, .int .i64 0, .int .i64 0], .int .i64 0]) (by simp [results, Tryd.results24, go_sem, e0, e1, e2, e3]) rfl ⟨by rw [HN.out]; rfl, HBz.out⟩
    · go_wp2_with (fail)
      go_must (refine (HP.out [43] _).mono ?_)
      rintro e w5 ⟨rfl, hw⟩
      have hw := hw.symm
      subst hw
      cases hp : (([43] : List UInt8).isPrefixOf (c :: r))
      · have HJ2 : Hid (∀ j y, j < 6 → signs[j]? = some y → y.isPrefixOf (c :: r) = false) := Lib.hid fun j y hj hy => by
          by_cases hjk : j < 5
          · exact HJ.out j y hjk hy
          · obtain rfl : j = 5 := by omega
            obtain rfl : [43] = y := by injection hy
            exact hp
        have hpp : Lib.hasPrefix (⟨(c :: r).toArray⟩ : ByteArray).data.toList (⟨([43] : List UInt8).toArray⟩ : ByteArray).data.toList = false := hp
        rw [hpp]
        clear hpp hp
        dsimp only
        go_wp2
        go_roundw
        case rel => exact ⟨6, by omega, by first | rfl | go_num, HJ2, by first | rfl | trivial⟩
        case measure => simp [RowKit.intOf]
      · have HN : Hid (NxR (c :: r) = .tuple #[tkv 2 [43] 0 0, .int .i64 0]) := Lib.hid (by
          rw [HNX.out, show sgn (c :: r) = some [43] from sgn_at (k := 5) HJ.out rfl hp])
        have hpp : Lib.hasPrefix (⟨(c :: r).toArray⟩ : ByteArray).data.toList (⟨([43] : List UInt8).toArray⟩ : ByteArray).data.toList = true := hp
        rw [hpp]
        clear hpp hp
        have HR1 := HRr
        have HB1 := HB0
        have f0 := Row.frozen HR1.out 0
        have f1 := Row.frozen HR1.out 1
        have f2 := Row.frozen HR1.out 2
        have f3 := Row.frozen HR1.out 3
        have d0 := Row.cell HR1.out 0
        have d1 := Row.cell HR1.out 1
        have d2 := Row.cell HR1.out 2
        have d3 := Row.cell HR1.out 3
        dsimp only
        have HBz := Lib.hid (show Below W.heap.size W ((((W1.setCell ⟨W.heap.size, 0, none⟩ (.int .i64 2)).setCell ⟨W.heap.size, 1, none⟩ (.string ⟨#[43]⟩)).setCell ⟨W.heap.size, 2, none⟩ (.int .i64 0)).setCell ⟨W.heap.size, 3, none⟩ (.int .i64 0)) from (Below.setCell (p := ⟨W.heap.size, 3, none⟩) (Below.setCell (p := ⟨W.heap.size, 2, none⟩) (Below.setCell (p := ⟨W.heap.size, 1, none⟩) (Below.setCell (p := ⟨W.heap.size, 0, none⟩) HB1.out (Nat.le_refl _) (.int .i64 2)) (Nat.le_refl _) (.string ⟨#[43]⟩)) (Nat.le_refl _) (.int .i64 0)) (Nat.le_refl _) (.int .i64 0)))
        have hrz := (Row.set (Row.set (Row.set (Row.set HR1.out 0 (.int .i64 2)) 1 (.string ⟨#[43]⟩)) 2 (.int .i64 0)) 3 (.int .i64 0))
        have e0 := Row.cell hrz 0
        have e1 := Row.cell hrz 1
        have e2 := Row.cell hrz 2
        have e3 := Row.cell hrz 3
        clear hrz
        go_wp2
        exact bodyPost_ret (v := .tuple #[.agg #[.int .i64 2, .string ⟨#[43]⟩, .int .i64 0, .int .i64 0], .int .i64 0]) (by simp [results, Tryd.results24, go_sem, e0, e1, e2, e3]) rfl ⟨by rw [HN.out]; rfl, HBz.out⟩
    · go_wp2_with (fail)
      go_must (refine (HP.out [45] _).mono ?_)
      rintro e w5 ⟨rfl, hw⟩
      have hw := hw.symm
      subst hw
      cases hp : (([45] : List UInt8).isPrefixOf (c :: r))
      · have HJ2 : Hid (∀ j y, j < 7 → signs[j]? = some y → y.isPrefixOf (c :: r) = false) := Lib.hid fun j y hj hy => by
          by_cases hjk : j < 6
          · exact HJ.out j y hjk hy
          · obtain rfl : j = 6 := by omega
            obtain rfl : [45] = y := by injection hy
            exact hp
        have hpp : Lib.hasPrefix (⟨(c :: r).toArray⟩ : ByteArray).data.toList (⟨([45] : List UInt8).toArray⟩ : ByteArray).data.toList = false := hp
        rw [hpp]
        clear hpp hp
        dsimp only
        go_wp2
        go_roundw
        case rel => exact ⟨7, by omega, by first | rfl | go_num, HJ2, by first | rfl | trivial⟩
        case measure => simp [RowKit.intOf]
      · have HN : Hid (NxR (c :: r) = .tuple #[tkv 2 [45] 0 0, .int .i64 0]) := Lib.hid (by
          rw [HNX.out, show sgn (c :: r) = some [45] from sgn_at (k := 6) HJ.out rfl hp])
        have hpp : Lib.hasPrefix (⟨(c :: r).toArray⟩ : ByteArray).data.toList (⟨([45] : List UInt8).toArray⟩ : ByteArray).data.toList = true := hp
        rw [hpp]
        clear hpp hp
        have HR1 := HRr
        have HB1 := HB0
        have f0 := Row.frozen HR1.out 0
        have f1 := Row.frozen HR1.out 1
        have f2 := Row.frozen HR1.out 2
        have f3 := Row.frozen HR1.out 3
        have d0 := Row.cell HR1.out 0
        have d1 := Row.cell HR1.out 1
        have d2 := Row.cell HR1.out 2
        have d3 := Row.cell HR1.out 3
        dsimp only
        have HBz := Lib.hid (show Below W.heap.size W ((((W1.setCell ⟨W.heap.size, 0, none⟩ (.int .i64 2)).setCell ⟨W.heap.size, 1, none⟩ (.string ⟨#[45]⟩)).setCell ⟨W.heap.size, 2, none⟩ (.int .i64 0)).setCell ⟨W.heap.size, 3, none⟩ (.int .i64 0)) from (Below.setCell (p := ⟨W.heap.size, 3, none⟩) (Below.setCell (p := ⟨W.heap.size, 2, none⟩) (Below.setCell (p := ⟨W.heap.size, 1, none⟩) (Below.setCell (p := ⟨W.heap.size, 0, none⟩) HB1.out (Nat.le_refl _) (.int .i64 2)) (Nat.le_refl _) (.string ⟨#[45]⟩)) (Nat.le_refl _) (.int .i64 0)) (Nat.le_refl _) (.int .i64 0)))
        have hrz := (Row.set (Row.set (Row.set (Row.set HR1.out 0 (.int .i64 2)) 1 (.string ⟨#[45]⟩)) 2 (.int .i64 0)) 3 (.int .i64 0))
        have e0 := Row.cell hrz 0
        have e1 := Row.cell hrz 1
        have e2 := Row.cell hrz 2
        have e3 := Row.cell hrz 3
        clear hrz
        go_wp2
        exact bodyPost_ret (v := .tuple #[.agg #[.int .i64 2, .string ⟨#[45]⟩, .int .i64 0, .int .i64 0], .int .i64 0]) (by simp [results, Tryd.results24, go_sem, e0, e1, e2, e3]) rfl ⟨by rw [HN.out]; rfl, HBz.out⟩
    · go_wp2_with (fail)
      go_must (refine (HP.out [42] _).mono ?_)
      rintro e w5 ⟨rfl, hw⟩
      have hw := hw.symm
      subst hw
      cases hp : (([42] : List UInt8).isPrefixOf (c :: r))
      · have HJ2 : Hid (∀ j y, j < 8 → signs[j]? = some y → y.isPrefixOf (c :: r) = false) := Lib.hid fun j y hj hy => by
          by_cases hjk : j < 7
          · exact HJ.out j y hjk hy
          · obtain rfl : j = 7 := by omega
            obtain rfl : [42] = y := by injection hy
            exact hp
        have hpp : Lib.hasPrefix (⟨(c :: r).toArray⟩ : ByteArray).data.toList (⟨([42] : List UInt8).toArray⟩ : ByteArray).data.toList = false := hp
        rw [hpp]
        clear hpp hp
        dsimp only
        go_wp2
        go_roundw
        case rel => exact ⟨8, by omega, by first | rfl | go_num, HJ2, by first | rfl | trivial⟩
        case measure => simp [RowKit.intOf]
      · have HN : Hid (NxR (c :: r) = .tuple #[tkv 2 [42] 0 0, .int .i64 0]) := Lib.hid (by
          rw [HNX.out, show sgn (c :: r) = some [42] from sgn_at (k := 7) HJ.out rfl hp])
        have hpp : Lib.hasPrefix (⟨(c :: r).toArray⟩ : ByteArray).data.toList (⟨([42] : List UInt8).toArray⟩ : ByteArray).data.toList = true := hp
        rw [hpp]
        clear hpp hp
        have HR1 := HRr
        have HB1 := HB0
        have f0 := Row.frozen HR1.out 0
        have f1 := Row.frozen HR1.out 1
        have f2 := Row.frozen HR1.out 2
        have f3 := Row.frozen HR1.out 3
        have d0 := Row.cell HR1.out 0
        have d1 := Row.cell HR1.out 1
        have d2 := Row.cell HR1.out 2
        have d3 := Row.cell HR1.out 3
        dsimp only
        have HBz := Lib.hid (show Below W.heap.size W ((((W1.setCell ⟨W.heap.size, 0, none⟩ (.int .i64 2)).setCell ⟨W.heap.size, 1, none⟩ (.string ⟨#[42]⟩)).setCell ⟨W.heap.size, 2, none⟩ (.int .i64 0)).setCell ⟨W.heap.size, 3, none⟩ (.int .i64 0)) from (Below.setCell (p := ⟨W.heap.size, 3, none⟩) (Below.setCell (p := ⟨W.heap.size, 2, none⟩) (Below.setCell (p := ⟨W.heap.size, 1, none⟩) (Below.setCell (p := ⟨W.heap.size, 0, none⟩) HB1.out (Nat.le_refl _) (.int .i64 2)) (Nat.le_refl _) (.string ⟨#[42]⟩)) (Nat.le_refl _) (.int .i64 0)) (Nat.le_refl _) (.int .i64 0)))
        have hrz := (Row.set (Row.set (Row.set (Row.set HR1.out 0 (.int .i64 2)) 1 (.string ⟨#[42]⟩)) 2 (.int .i64 0)) 3 (.int .i64 0))
        have e0 := Row.cell hrz 0
        have e1 := Row.cell hrz 1
        have e2 := Row.cell hrz 2
        have e3 := Row.cell hrz 3
        clear hrz
        go_wp2
        exact bodyPost_ret (v := .tuple #[.agg #[.int .i64 2, .string ⟨#[42]⟩, .int .i64 0, .int .i64 0], .int .i64 0]) (by simp [results, Tryd.results24, go_sem, e0, e1, e2, e3]) rfl ⟨by rw [HN.out]; rfl, HBz.out⟩
    · go_wp2_with (fail)
      go_must (refine (HP.out [47] _).mono ?_)
      rintro e w5 ⟨rfl, hw⟩
      have hw := hw.symm
      subst hw
      cases hp : (([47] : List UInt8).isPrefixOf (c :: r))
      · have HJ2 : Hid (∀ j y, j < 9 → signs[j]? = some y → y.isPrefixOf (c :: r) = false) := Lib.hid fun j y hj hy => by
          by_cases hjk : j < 8
          · exact HJ.out j y hjk hy
          · obtain rfl : j = 8 := by omega
            obtain rfl : [47] = y := by injection hy
            exact hp
        have hpp : Lib.hasPrefix (⟨(c :: r).toArray⟩ : ByteArray).data.toList (⟨([47] : List UInt8).toArray⟩ : ByteArray).data.toList = false := hp
        rw [hpp]
        clear hpp hp
        dsimp only
        go_wp2
        go_roundw
        case rel => exact ⟨9, by omega, by first | rfl | go_num, HJ2, by first | rfl | trivial⟩
        case measure => simp [RowKit.intOf]
      · have HN : Hid (NxR (c :: r) = .tuple #[tkv 2 [47] 0 0, .int .i64 0]) := Lib.hid (by
          rw [HNX.out, show sgn (c :: r) = some [47] from sgn_at (k := 8) HJ.out rfl hp])
        have hpp : Lib.hasPrefix (⟨(c :: r).toArray⟩ : ByteArray).data.toList (⟨([47] : List UInt8).toArray⟩ : ByteArray).data.toList = true := hp
        rw [hpp]
        clear hpp hp
        have HR1 := HRr
        have HB1 := HB0
        have f0 := Row.frozen HR1.out 0
        have f1 := Row.frozen HR1.out 1
        have f2 := Row.frozen HR1.out 2
        have f3 := Row.frozen HR1.out 3
        have d0 := Row.cell HR1.out 0
        have d1 := Row.cell HR1.out 1
        have d2 := Row.cell HR1.out 2
        have d3 := Row.cell HR1.out 3
        dsimp only
        have HBz := Lib.hid (show Below W.heap.size W ((((W1.setCell ⟨W.heap.size, 0, none⟩ (.int .i64 2)).setCell ⟨W.heap.size, 1, none⟩ (.string ⟨#[47]⟩)).setCell ⟨W.heap.size, 2, none⟩ (.int .i64 0)).setCell ⟨W.heap.size, 3, none⟩ (.int .i64 0)) from (Below.setCell (p := ⟨W.heap.size, 3, none⟩) (Below.setCell (p := ⟨W.heap.size, 2, none⟩) (Below.setCell (p := ⟨W.heap.size, 1, none⟩) (Below.setCell (p := ⟨W.heap.size, 0, none⟩) HB1.out (Nat.le_refl _) (.int .i64 2)) (Nat.le_refl _) (.string ⟨#[47]⟩)) (Nat.le_refl _) (.int .i64 0)) (Nat.le_refl _) (.int .i64 0)))
        have hrz := (Row.set (Row.set (Row.set (Row.set HR1.out 0 (.int .i64 2)) 1 (.string ⟨#[47]⟩)) 2 (.int .i64 0)) 3 (.int .i64 0))
        have e0 := Row.cell hrz 0
        have e1 := Row.cell hrz 1
        have e2 := Row.cell hrz 2
        have e3 := Row.cell hrz 3
        clear hrz
        go_wp2
        exact bodyPost_ret (v := .tuple #[.agg #[.int .i64 2, .string ⟨#[47]⟩, .int .i64 0, .int .i64 0], .int .i64 0]) (by simp [results, Tryd.results24, go_sem, e0, e1, e2, e3]) rfl ⟨by rw [HN.out]; rfl, HBz.out⟩
    · go_wp2_with (fail)
      go_must (refine (HP.out [40] _).mono ?_)
      rintro e w5 ⟨rfl, hw⟩
      have hw := hw.symm
      subst hw
      cases hp : (([40] : List UInt8).isPrefixOf (c :: r))
      · have HJ2 : Hid (∀ j y, j < 10 → signs[j]? = some y → y.isPrefixOf (c :: r) = false) := Lib.hid fun j y hj hy => by
          by_cases hjk : j < 9
          · exact HJ.out j y hjk hy
          · obtain rfl : j = 9 := by omega
            obtain rfl : [40] = y := by injection hy
            exact hp
        have hpp : Lib.hasPrefix (⟨(c :: r).toArray⟩ : ByteArray).data.toList (⟨([40] : List UInt8).toArray⟩ : ByteArray).data.toList = false := hp
        rw [hpp]
        clear hpp hp
        dsimp only
        go_wp2
        go_roundw
        case rel => exact ⟨10, by omega, by first | rfl | go_num, HJ2, by first | rfl | trivial⟩
        case measure => simp [RowKit.intOf]
      · have HN : Hid (NxR (c :: r) = .tuple #[tkv 2 [40] 0 0, .int .i64 0]) := Lib.hid (by
          rw [HNX.out, show sgn (c :: r) = some [40] from sgn_at (k := 9) HJ.out rfl hp])
        have hpp : Lib.hasPrefix (⟨(c :: r).toArray⟩ : ByteArray).data.toList (⟨([40] : List UInt8).toArray⟩ : ByteArray).data.toList = true := hp
        rw [hpp]
        clear hpp hp
        have HR1 := HRr
        have HB1 := HB0
        have f0 := Row.frozen HR1.out 0
        have f1 := Row.frozen HR1.out 1
        have f2 := Row.frozen HR1.out 2
        have f3 := Row.frozen HR1.out 3
        have d0 := Row.cell HR1.out 0
        have d1 := Row.cell HR1.out 1
        have d2 := Row.cell HR1.out 2
        have d3 := Row.cell HR1.out 3
        dsimp only
        have HBz := Lib.hid (show Below W.heap.size W ((((W1.setCell ⟨W.heap.size, 0, none⟩ (.int .i64 2)).setCell ⟨W.heap.size, 1, none⟩ (.string ⟨#[40]⟩)).setCell ⟨W.heap.size, 2, none⟩ (.int .i64 0)).setCell ⟨W.heap.size, 3, none⟩ (.int .i64 0)) from (Below.setCell (p := ⟨W.heap.size, 3, none⟩) (Below.setCell (p := ⟨W.heap.size, 2, none⟩) (Below.setCell (p := ⟨W.heap.size, 1, none⟩) (Below.setCell (p := ⟨W.heap.size, 0, none⟩) HB1.out (Nat.le_refl _) (.int .i64 2)) (Nat.le_refl _) (.string ⟨#[40]⟩)) (Nat.le_refl _) (.int .i64 0)) (Nat.le_refl _) (.int .i64 0)))
        have hrz := (Row.set (Row.set (Row.set (Row.set HR1.out 0 (.int .i64 2)) 1 (.string ⟨#[40]⟩)) 2 (.int .i64 0)) 3 (.int .i64 0))
        have e0 := Row.cell hrz 0
        have e1 := Row.cell hrz 1
        have e2 := Row.cell hrz 2
        have e3 := Row.cell hrz 3
        clear hrz
        go_wp2
        exact bodyPost_ret (v := .tuple #[.agg #[.int .i64 2, .string ⟨#[40]⟩, .int .i64 0, .int .i64 0], .int .i64 0]) (by simp [results, Tryd.results24, go_sem, e0, e1, e2, e3]) rfl ⟨by rw [HN.out]; rfl, HBz.out⟩
    · go_wp2_with (fail)
      go_must (refine (HP.out [41] _).mono ?_)
      rintro e w5 ⟨rfl, hw⟩
      have hw := hw.symm
      subst hw
      cases hp : (([41] : List UInt8).isPrefixOf (c :: r))
      · have HJ2 : Hid (∀ j y, j < 11 → signs[j]? = some y → y.isPrefixOf (c :: r) = false) := Lib.hid fun j y hj hy => by
          by_cases hjk : j < 10
          · exact HJ.out j y hjk hy
          · obtain rfl : j = 10 := by omega
            obtain rfl : [41] = y := by injection hy
            exact hp
        have hpp : Lib.hasPrefix (⟨(c :: r).toArray⟩ : ByteArray).data.toList (⟨([41] : List UInt8).toArray⟩ : ByteArray).data.toList = false := hp
        rw [hpp]
        clear hpp hp
        dsimp only
        go_wp2
        go_roundw
        case rel => exact ⟨11, by omega, by first | rfl | go_num, HJ2, by first | rfl | trivial⟩
        case measure => simp [RowKit.intOf]
      · have HN : Hid (NxR (c :: r) = .tuple #[tkv 2 [41] 0 0, .int .i64 0]) := Lib.hid (by
          rw [HNX.out, show sgn (c :: r) = some [41] from sgn_at (k := 10) HJ.out rfl hp])
        have hpp : Lib.hasPrefix (⟨(c :: r).toArray⟩ : ByteArray).data.toList (⟨([41] : List UInt8).toArray⟩ : ByteArray).data.toList = true := hp
        rw [hpp]
        clear hpp hp
        have HR1 := HRr
        have HB1 := HB0
        have f0 := Row.frozen HR1.out 0
        have f1 := Row.frozen HR1.out 1
        have f2 := Row.frozen HR1.out 2
        have f3 := Row.frozen HR1.out 3
        have d0 := Row.cell HR1.out 0
        have d1 := Row.cell HR1.out 1
        have d2 := Row.cell HR1.out 2
        have d3 := Row.cell HR1.out 3
        dsimp only
        have HBz := Lib.hid (show Below W.heap.size W ((((W1.setCell ⟨W.heap.size, 0, none⟩ (.int .i64 2)).setCell ⟨W.heap.size, 1, none⟩ (.string ⟨#[41]⟩)).setCell ⟨W.heap.size, 2, none⟩ (.int .i64 0)).setCell ⟨W.heap.size, 3, none⟩ (.int .i64 0)) from (Below.setCell (p := ⟨W.heap.size, 3, none⟩) (Below.setCell (p := ⟨W.heap.size, 2, none⟩) (Below.setCell (p := ⟨W.heap.size, 1, none⟩) (Below.setCell (p := ⟨W.heap.size, 0, none⟩) HB1.out (Nat.le_refl _) (.int .i64 2)) (Nat.le_refl _) (.string ⟨#[41]⟩)) (Nat.le_refl _) (.int .i64 0)) (Nat.le_refl _) (.int .i64 0)))
        have hrz := (Row.set (Row.set (Row.set (Row.set HR1.out 0 (.int .i64 2)) 1 (.string ⟨#[41]⟩)) 2 (.int .i64 0)) 3 (.int .i64 0))
        have e0 := Row.cell hrz 0
        have e1 := Row.cell hrz 1
        have e2 := Row.cell hrz 2
        have e3 := Row.cell hrz 3
        clear hrz
        go_wp2
        exact bodyPost_ret (v := .tuple #[.agg #[.int .i64 2, .string ⟨#[41]⟩, .int .i64 0, .int .i64 0], .int .i64 0]) (by simp [results, Tryd.results24, go_sem, e0, e1, e2, e3]) rfl ⟨by rw [HN.out]; rfl, HBz.out⟩
    · have HN : Hid (NxR (c :: r) = .tuple #[tkv 0 [] 0 0, .int .i64 10]) := Lib.hid (by
        rw [HNX.out, show sgn (c :: r) = none from sgn_no HJ.out])
      have HR1 := HRr
      have HB1 := HB0
      have f0 := Row.frozen HR1.out 0
      have f1 := Row.frozen HR1.out 1
      have f2 := Row.frozen HR1.out 2
      have f3 := Row.frozen HR1.out 3
      have d0 := Row.cell HR1.out 0
      have d1 := Row.cell HR1.out 1
      have d2 := Row.cell HR1.out 2
      have d3 := Row.cell HR1.out 3
      have HBz := Lib.hid (show Below W.heap.size W ((((W1.setCell ⟨W.heap.size, 0, none⟩ (.int .i64 0)).setCell ⟨W.heap.size, 1, none⟩ (.string ⟨#[]⟩)).setCell ⟨W.heap.size, 2, none⟩ (.int .i64 0)).setCell ⟨W.heap.size, 3, none⟩ (.int .i64 0)) from (Below.setCell (p := ⟨W.heap.size, 3, none⟩) (Below.setCell (p := ⟨W.heap.size, 2, none⟩) (Below.setCell (p := ⟨W.heap.size, 1, none⟩) (Below.setCell (p := ⟨W.heap.size, 0, none⟩) HB1.out (Nat.le_refl _) (.int .i64 0)) (Nat.le_refl _) (.string ⟨#[]⟩)) (Nat.le_refl _) (.int .i64 0)) (Nat.le_refl _) (.int .i64 0)))
      have hrz := (Row.set (Row.set (Row.set (Row.set HR1.out 0 (.int .i64 0)) 1 (.string ⟨#[]⟩)) 2 (.int .i64 0)) 3 (.int .i64 0))
      have e0 := Row.cell hrz 0
      have e1 := Row.cell hrz 1
      have e2 := Row.cell hrz 2
      have e3 := Row.cell hrz 3
      clear hrz
      go_wp2
      exact bodyPost_ret (v := .tuple #[.agg #[.int .i64 0, .string ⟨#[]⟩, .int .i64 0, .int .i64 0], .int .i64 10]) (by simp [results, Tryd.results24, go_sem, e0, e1, e2, e3]) rfl ⟨by rw [HN.out]; rfl, HBz.out⟩
theorem next_any (hE : Ev w0 W) (hl : (c :: r).length ≤ 1000000000) :
    Calls Tryd.prog 24 #[.string ⟨(c :: r).toArray⟩] W fun e w' => e = .returned (NxR (c :: r)) ∧ Below W.heap.size W w' := by
  cases h1 : ltr c
  · cases h2 : dgt c
    · exact next_sgn hE hl h1 h2
    · exact next_dgt hE hl h2
  · exact next_ltr hl h1
end
end Go.Proofs.YtmineoilmmifiaaDoor.Lx
