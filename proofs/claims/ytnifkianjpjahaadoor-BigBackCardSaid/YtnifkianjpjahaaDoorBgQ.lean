/- Big integers: Int. -/
import Derived.Test.YtnifkianjpjahaaDoorBgO
namespace Go.Proofs.YtnifkianjpjahaaDoor.Bg
open Go.ChangeShapes Go.WideShapes Go.ChangeAt Go.RowKit Go.Proofs.YtnifkianjpjahaaDoor.Cell
set_option linter.unusedVariables false
set_option linter.unusedSimpArgs false

set_option maxRecDepth 100000 in
set_option maxHeartbeats 4000000 in
theorem mag_no {A : Option Addr} {n c : Nat} {l : List Int} (w : World) (hn : l.length = n) (hc : Ints w A l) (hd : Dg l) (hv : 18446744073709551616 ≤ val l) (hbig : n ≤ 1000) :
    Calls Tryd.prog 38 #[.slice A n c] w fun e w' => e = .returned (.tuple #[.int .u64 0, .bool false]) ∧ w' = w := by
  by_cases h4 : 4 < n
  · have h4I : (4 : Int) < (n : Int) := by omega
    clear hn hc hd hv
    go_enter Tryd.func38, Tryd.ntmps38
    go_wp2
    refine bodyPost_ret (v := .tuple #[.int .u64 0, .bool false]) ?_ rfl ⟨rfl, rfl⟩
    simp [results, Tryd.results38, go_sem]
  · have hn4 : n = 4 := by
      have h1 := val_lt hd
      by_cases h : n = 4
      · exact h
      · have := pw_le (show l.length ≤ 3 by omega)
        rw [pw_3] at this
        omega
    subst hn4
    obtain ⟨b, off, rfl, hcell⟩ := hc (by omega)
    obtain ⟨d, hx⟩ := at_ l 3 (by omega)
    have hcd := hcell 3 d hx
    have h15 : 15 < d := by
      by_cases h : 15 < d
      · exact h
      · have := mag_many hd (by omega) (fun d' h' => by
          rw [hx] at h'
          injection h' with h'
          omega)
        omega
    clear hn hc hd hv hcell hx h4
    go_enter Tryd.func38, Tryd.ntmps38
    go_wp2
    refine bodyPost_ret (v := .tuple #[.int .u64 0, .bool false]) ?_ rfl ⟨rfl, rfl⟩
    simp [results, Tryd.results38, go_sem]
instance decI64 (n : Int) : Decidable (I64 n) := inferInstanceAs (Decidable (_ ∧ _))
set_option maxRecDepth 100000 in
set_option maxHeartbeats 4000000 in
theorem int_a {x : Int} {va : Value} (w : World) (hx : IsBig w va x) (h : 18446744073709551616 ≤ (x.natAbs : Int)) :
    Calls Tryd.prog 22 #[va] w fun e w' => e = .returned (.tuple #[.int .i64 0, .bool false]) ∧ Below w.heap.size w w' := by
  obtain ⟨A, c, a, rfl, ha, na, h60⟩ := hx.ex
  obtain ⟨n, hn⟩ : ∃ n, a.length = n := ⟨_, rfl⟩
  rw [hn] at hx h60 ⊢
  have HX := Lib.hid hx
  have HAA := Lib.hid ha
  have HN := Lib.hid hn
  have HNA := Lib.hid na
  have hB0 : Below w.heap.size w (w.alloc (.cells #[.int .i64 (sg x), .slice A n c] 24)) := Gen.b_alloc (Below.refl _ _)
  have hr0 : Row (w.alloc (.cells #[.int .i64 (sg x), .slice A n c] 24)) w.heap.size 24 #[.int .i64 (sg x), .slice A n c] := Row.new _ _ _
  clear hx ha na hn
  go_enter Tryd.func22, Tryd.ntmps22
  go_wp2_with (fail)
  go_must (refine (right_val (HX.out.keep hB0)).mono ?_)
  rintro e w2 ⟨rfl, hb2⟩
  have HB2 := Lib.hid (Gen.over hb2 hB0)
  have r2 := hr0.keep hb2
  have c0 := r2.cell 0
  have c1 := r2.cell 1
  clear hb2 hB0 hr0
  go_wp2_with (fail)
  go_must (refine (mag_no _ HN.out (HAA.out.keep HB2.out) HNA.out.1 (by rw [HNA.out.2.2]; exact h) (by omega)).mono ?_)
  rintro e w3 ⟨rfl, rfl⟩
  go_wp2
  refine bodyPost_ret (v := .tuple #[.int .i64 0, .bool false]) ?_ rfl ⟨rfl, HB2.out⟩
  simp [results, Tryd.results22, go_sem]
set_option maxRecDepth 100000 in
set_option maxHeartbeats 4000000 in
theorem int_b {x : Int} {va : Value} (w : World) (hx : IsBig w va x) (h : x < -9223372036854775808) (h2 : (x.natAbs : Int) < 18446744073709551616) :
    Calls Tryd.prog 22 #[va] w fun e w' => e = .returned (.tuple #[.int .i64 0, .bool false]) ∧ Below w.heap.size w w' := by
  obtain ⟨A, c, a, rfl, ha, na, h60⟩ := hx.ex
  obtain ⟨n, hn⟩ : ∃ n, a.length = n := ⟨_, rfl⟩
  rw [hn] at hx h60 ⊢
  have HX := Lib.hid hx
  have HAA := Lib.hid ha
  have HN := Lib.hid hn
  have HNA := Lib.hid na
  have hB0 : Below w.heap.size w (w.alloc (.cells #[.int .i64 (sg x), .slice A n c] 24)) := Gen.b_alloc (Below.refl _ _)
  have hr0 : Row (w.alloc (.cells #[.int .i64 (sg x), .slice A n c] 24)) w.heap.size 24 #[.int .i64 (sg x), .slice A n c] := Row.new _ _ _
  have hs : sg x = -1 := sg_neg (by omega)
  rw [hs] at hr0 hB0 HX ⊢
  obtain ⟨u, hu⟩ : ∃ u, (x.natAbs : Int) = u := ⟨_, rfl⟩
  have HU := Lib.hid hu
  have hu1 : ¬ (u ≤ 9223372036854775808) := by omega
  clear hx ha na hn hs
  go_enter Tryd.func22, Tryd.ntmps22
  go_wp2_with (fail)
  go_must (refine (right_val (HX.out.keep hB0)).mono ?_)
  rintro e w2 ⟨rfl, hb2⟩
  have HB2 := Lib.hid (Gen.over hb2 hB0)
  have r2 := hr0.keep hb2
  have c0 := r2.cell 0
  have c1 := r2.cell 1
  clear hb2 hB0 hr0
  go_wp2_with (fail)
  go_must (refine (mag_yes _ HN.out (HAA.out.keep HB2.out) HNA.out.1 HNA.out.2.1 (by rw [HNA.out.2.2]; omega)).mono ?_)
  rintro e w3 ⟨rfl, rfl⟩
  rw [HNA.out.2.2]
  rw [HU.out]
  clear h h2 hu
  go_wp2
  refine bodyPost_ret (v := .tuple #[.int .i64 0, .bool false]) ?_ rfl ⟨rfl, HB2.out⟩
  simp [results, Tryd.results22, go_sem]
set_option maxRecDepth 100000 in
set_option maxHeartbeats 4000000 in
theorem int_c {x : Int} {va : Value} (w : World) (hx : IsBig w va x) (h : 9223372036854775807 < x) (h2 : (x.natAbs : Int) < 18446744073709551616) :
    Calls Tryd.prog 22 #[va] w fun e w' => e = .returned (.tuple #[.int .i64 0, .bool false]) ∧ Below w.heap.size w w' := by
  obtain ⟨A, c, a, rfl, ha, na, h60⟩ := hx.ex
  obtain ⟨n, hn⟩ : ∃ n, a.length = n := ⟨_, rfl⟩
  rw [hn] at hx h60 ⊢
  have HX := Lib.hid hx
  have HAA := Lib.hid ha
  have HN := Lib.hid hn
  have HNA := Lib.hid na
  have hB0 : Below w.heap.size w (w.alloc (.cells #[.int .i64 (sg x), .slice A n c] 24)) := Gen.b_alloc (Below.refl _ _)
  have hr0 : Row (w.alloc (.cells #[.int .i64 (sg x), .slice A n c] 24)) w.heap.size 24 #[.int .i64 (sg x), .slice A n c] := Row.new _ _ _
  have hs : sg x = 1 := sg_pos (by omega)
  rw [hs] at hr0 hB0 HX ⊢
  obtain ⟨u, hu⟩ : ∃ u, (x.natAbs : Int) = u := ⟨_, rfl⟩
  have HU := Lib.hid hu
  have hu1 : ¬ (u < 9223372036854775808) := by omega
  clear hx ha na hn hs
  go_enter Tryd.func22, Tryd.ntmps22
  go_wp2_with (fail)
  go_must (refine (right_val (HX.out.keep hB0)).mono ?_)
  rintro e w2 ⟨rfl, hb2⟩
  have HB2 := Lib.hid (Gen.over hb2 hB0)
  have r2 := hr0.keep hb2
  have c0 := r2.cell 0
  have c1 := r2.cell 1
  clear hb2 hB0 hr0
  go_wp2_with (fail)
  go_must (refine (mag_yes _ HN.out (HAA.out.keep HB2.out) HNA.out.1 HNA.out.2.1 (by rw [HNA.out.2.2]; omega)).mono ?_)
  rintro e w3 ⟨rfl, rfl⟩
  rw [HNA.out.2.2]
  rw [HU.out]
  clear h h2 hu
  go_wp2
  refine bodyPost_ret (v := .tuple #[.int .i64 0, .bool false]) ?_ rfl ⟨rfl, HB2.out⟩
  simp [results, Tryd.results22, go_sem]
set_option maxRecDepth 100000 in
set_option maxHeartbeats 4000000 in
theorem int_d {x : Int} {va : Value} (w : World) (hx : IsBig w va x) (h : I64 x) (h2 : x < 0) :
    Calls Tryd.prog 22 #[va] w fun e w' => e = .returned (.tuple #[.int .i64 x, .bool true]) ∧ Below w.heap.size w w' := by
  unfold I64 at h
  obtain ⟨A, c, a, rfl, ha, na, h60⟩ := hx.ex
  obtain ⟨n, hn⟩ : ∃ n, a.length = n := ⟨_, rfl⟩
  rw [hn] at hx h60 ⊢
  have HX := Lib.hid hx
  have HAA := Lib.hid ha
  have HN := Lib.hid hn
  have HNA := Lib.hid na
  have hB0 : Below w.heap.size w (w.alloc (.cells #[.int .i64 (sg x), .slice A n c] 24)) := Gen.b_alloc (Below.refl _ _)
  have hr0 : Row (w.alloc (.cells #[.int .i64 (sg x), .slice A n c] 24)) w.heap.size 24 #[.int .i64 (sg x), .slice A n c] := Row.new _ _ _
  have hs : sg x = -1 := sg_neg (by omega)
  rw [hs] at hr0 hB0 HX ⊢
  obtain ⟨u, hu⟩ : ∃ u, (x.natAbs : Int) = u := ⟨_, rfl⟩
  have HU := Lib.hid hu
  have hu1 : u ≤ 9223372036854775808 := by omega
  have hw1 : IntKind.u64.wrap (-u) = 18446744073709551616 - u := by rw [IntKind.wrap_u64]; omega
  have hw2 : IntKind.i64.wrap (18446744073709551616 - u) = x := by rw [IntKind.wrap_i64]; omega
  clear hx ha na hn hs
  go_enter Tryd.func22, Tryd.ntmps22
  go_wp2_with (fail)
  go_must (refine (right_val (HX.out.keep hB0)).mono ?_)
  rintro e w2 ⟨rfl, hb2⟩
  have HB2 := Lib.hid (Gen.over hb2 hB0)
  have r2 := hr0.keep hb2
  have c0 := r2.cell 0
  have c1 := r2.cell 1
  clear hb2 hB0 hr0
  go_wp2_with (fail)
  go_must (refine (mag_yes _ HN.out (HAA.out.keep HB2.out) HNA.out.1 HNA.out.2.1 (by rw [HNA.out.2.2]; omega)).mono ?_)
  rintro e w3 ⟨rfl, rfl⟩
  rw [HNA.out.2.2]
  rw [HU.out]
  clear h h2 hu
  go_wp2
  refine bodyPost_ret (v := .tuple #[.int .i64 x, .bool true]) ?_ rfl ⟨rfl, HB2.out⟩
  simp [results, Tryd.results22, go_sem]
set_option maxRecDepth 100000 in
set_option maxHeartbeats 4000000 in
theorem int_e {x : Int} {va : Value} (w : World) (hx : IsBig w va x) (h : I64 x) (h2 : 0 ≤ x) :
    Calls Tryd.prog 22 #[va] w fun e w' => e = .returned (.tuple #[.int .i64 x, .bool true]) ∧ Below w.heap.size w w' := by
  unfold I64 at h
  obtain ⟨A, c, a, rfl, ha, na, h60⟩ := hx.ex
  obtain ⟨n, hn⟩ : ∃ n, a.length = n := ⟨_, rfl⟩
  rw [hn] at hx h60 ⊢
  have HX := Lib.hid hx
  have HAA := Lib.hid ha
  have HN := Lib.hid hn
  have HNA := Lib.hid na
  have hB0 : Below w.heap.size w (w.alloc (.cells #[.int .i64 (sg x), .slice A n c] 24)) := Gen.b_alloc (Below.refl _ _)
  have hr0 : Row (w.alloc (.cells #[.int .i64 (sg x), .slice A n c] 24)) w.heap.size 24 #[.int .i64 (sg x), .slice A n c] := Row.new _ _ _
  have hs : 0 ≤ sg x := by have := sg_cases x; omega
  have HE : Hid ((x.natAbs : Int) = x) := Lib.hid (by omega)
  have hu1 : x < 9223372036854775808 := by omega
  have hw2 : IntKind.i64.wrap x = x := IntWalk.i64_in _ (by omega)
  have hsn : ¬ (sg x < 0) := by omega
  clear hx ha na hn
  go_enter Tryd.func22, Tryd.ntmps22
  go_wp2_with (fail)
  go_must (refine (right_val (HX.out.keep hB0)).mono ?_)
  rintro e w2 ⟨rfl, hb2⟩
  have HB2 := Lib.hid (Gen.over hb2 hB0)
  have r2 := hr0.keep hb2
  have c0 := r2.cell 0
  have c1 := r2.cell 1
  clear hb2 hB0 hr0
  go_wp2_with (fail)
  go_must (refine (mag_yes _ HN.out (HAA.out.keep HB2.out) HNA.out.1 HNA.out.2.1 (by rw [HNA.out.2.2]; omega)).mono ?_)
  rintro e w3 ⟨rfl, rfl⟩
  rw [HNA.out.2.2]
  rw [HE.out]
  clear h
  go_wp2
  refine bodyPost_ret (v := .tuple #[.int .i64 x, .bool true]) ?_ rfl ⟨rfl, HB2.out⟩
  simp [results, Tryd.results22, go_sem]
theorem int_val {x : Int} {va : Value} (w : World) (hx : IsBig w va x) :
    Calls Tryd.prog 22 #[va] w fun e w' => e = .returned (.tuple #[.int .i64 (if I64 x then x else 0), .bool (decide (I64 x))]) ∧ Below w.heap.size w w' := by
  by_cases h : I64 x
  · rw [if_pos h, decide_eq_true h]
    by_cases h2 : x < 0
    · exact int_d w hx h h2
    · exact int_e w hx h (by omega)
  · rw [if_neg h, decide_eq_false h]
    by_cases h2 : (x.natAbs : Int) < 18446744073709551616
    · unfold I64 at h
      by_cases h3 : x < 0
      · exact int_b w hx (by omega) h2
      · exact int_c w hx (by omega) h2
    · exact int_a w hx (by omega)
end Go.Proofs.YtnifkianjpjahaaDoor.Bg
