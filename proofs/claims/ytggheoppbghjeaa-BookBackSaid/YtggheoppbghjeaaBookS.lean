/- The example of the statements of book, 'small', returns true. -/
import Derived.Test.YtggheoppbghjeaaBookD
namespace Go.Proofs.Ytggheoppbghjeaa.Book
open Go.ChangeShapes Go.WideShapes Go.ChangeAt Go.RowKit Go.Proofs.Ytggheoppbghjeaa.Cell
set_option linter.unusedVariables false
set_option linter.unusedSimpArgs false

def uv : List Int := [0, 0, 5, 7, 2]
def av : List Int := [0, 0, 5, 4, 5]
section
variable {g g' : Nat} (w : World) (hc : Prs w (some ⟨g, 0, none⟩) fv)
theorem x_move {f t x E : Int} {L : List Int} {k : Nat} (hc : Prs w (some ⟨g, 0, none⟩) fv) (hc' : Ints w (some ⟨g', 0, none⟩) uv) (hE : mvE fv uv f t x = E) (hL : mvR fv uv f t x = L) (hk : L.length = k) :
    Calls Try.prog 10 #[.slice (some ⟨g, 0, none⟩) 5 5, .slice (some ⟨g', 0, none⟩) 5 5, .int .i64 f, .int .i64 t, .int .i64 x] w fun e w' => ∃ A c, e = .returned (.tuple #[.slice A k c, .int .i64 E]) ∧ Below w.heap.size w w' ∧ Ints w' A L := by
  have h := move_any (some ⟨g, 0, none⟩) 5 5 fv (some ⟨g', 0, none⟩) 5 5 uv f t x w rfl hc (by omega) rfl hc' (by omega)
  unfold MovePost at h
  rw [hE, hL, hk] at h
  exact h
theorem x_held {i x : Int} (hc : Prs w (some ⟨g, 0, none⟩) fv) (hc' : Ints w (some ⟨g', 0, none⟩) uv) (h : hO fv uv i = x) :
    Calls Try.prog 21 #[.slice (some ⟨g, 0, none⟩) 5 5, .slice (some ⟨g', 0, none⟩) 5 5, .int .i64 i] w fun e w' => e = .returned (.int .i64 x) ∧ Below w.heap.size w w' := held_is w rfl hc (by omega) rfl hc' (by omega) h
theorem x_level {i x : Int} (hc : Prs w (some ⟨g, 0, none⟩) fv) (h : lvO fv i = x) : Calls Try.prog 15 #[.slice (some ⟨g, 0, none⟩) 5 5, .int .i64 i] w fun e w' => e = .returned (.int .i64 x) ∧ Below w.heap.size w w' := by
  have hh := level_any (some ⟨g, 0, none⟩) 5 5 fv i w rfl hc (by omega)
  rw [h] at hh
  exact hh
theorem x_root {i x : Int} (hc : Prs w (some ⟨g, 0, none⟩) fv) (h : rtO fv i = x) : Calls Try.prog 17 #[.slice (some ⟨g, 0, none⟩) 5 5, .int .i64 i] w fun e w' => e = .returned (.int .i64 x) ∧ Below w.heap.size w w' := by
  have hh := root_any (some ⟨g, 0, none⟩) 5 5 fv i w rfl hc (by omega)
  rw [h] at hh
  exact hh
theorem x_ints {A : Option Addr} {c : Nat} (hc : Ints w A av) (hc' : Ints w (some ⟨g', 0, none⟩) av) : Calls Try.prog 12 #[.slice A 5 c, .slice (some ⟨g', 0, none⟩) 5 5] w fun e w' => e = .returned (.bool true) ∧ Below w.heap.size w w' := by
  have hh := ints_any A 5 c av (some ⟨g', 0, none⟩) 5 5 av w rfl hc (by omega) rfl hc' (by omega)
  rw [show iEq av av = true from decide_eq_true rfl] at hh
  exact hh
end
theorem u_new (w : World) : Ints (w.alloc (.cells #[.int .i64 0, .int .i64 0, .int .i64 5, .int .i64 7, .int .i64 2] 3)) (some ⟨w.heap.size, 0, none⟩) uv := (Row.new w 3 (ics uv)).ints
theorem a_new {w : World} {g : Nat} (h : g = w.heap.size) : Ints (w.alloc (.cells #[.int .i64 0, .int .i64 0, .int .i64 5, .int .i64 4, .int .i64 5] 3)) (some ⟨g, 0, none⟩) av := (Gen.rowAt w 3 (ics av) h).ints

set_option maxRecDepth 100000 in
set_option maxHeartbeats 1000000 in
theorem small_any (w : World) : Calls Try.prog 8 #[] w fun e w' => e = .returned (.bool true) ∧ Below w.heap.size w w' := by
  have q1 : mvE fv uv 3 4 3 = 0 ∧ mvR fv uv 3 4 3 = av := by decide +kernel
  have q2 : mvE fv uv 1 4 1 = 4 ∧ mvR fv uv 1 4 1 = [] := by decide +kernel
  have q3 : mvE fv uv 3 4 8 = 22 ∧ mvR fv uv 3 4 8 = [] := by decide +kernel
  have q4 : hO fv uv 0 = 12 ∧ hO fv uv 1 = 7 ∧ hO fv uv 2 = 5 ∧ hO fv uv 4 = 2 := by decide +kernel
  have q5 : lvO fv 3 = 2 ∧ rtO fv 3 = 0 ∧ rg fv = true ∧ lfO fv 2 = true := by decide +kernel
  have Q1 := Lib.hid q1
  have Q2 := Lib.hid q2
  have Q3 := Lib.hid q3
  have Q4 := Lib.hid q4
  have Q5 := Lib.hid q5
  clear q1 q2 q3 q4 q5
  have iu := u_new w
  have B0 : Below w.heap.size w (w.alloc (.cells #[.int .i64 0, .int .i64 0, .int .i64 5, .int .i64 7, .int .i64 2] 3)) := Gen.b_alloc (Below.refl _ _)
  go_enter Try.func8, Try.ntmps8
  go_wp2_with (fail)
  go_must (refine (five_any _).mono ?_)
  rintro e w1 ⟨rfl, hb1, s1⟩
  simp only [World.size_alloc] at s1
  have B1 := Gen.over hb1 B0
  have u1 := iu.keep hb1
  clear hb1 B0 iu
  go_wp2_with (fail)
  go_must (refine (x_move _ s1 u1 Q1.out.1 Q1.out.2 (k := 5) rfl).mono ?_)
  rintro e w2 ⟨A1, c1, rfl, hb2, ia⟩
  have B2 := Gen.over hb2 B1
  have u2 := u1.keep hb2
  clear hb2 B1 u1 s1
  go_wp2_with (fail)
  go_must (refine (five_any _).mono ?_)
  rintro e w3 ⟨rfl, hb3, s3⟩
  skip
  have B3 := Gen.over hb3 B2
  have u3 := u2.keep hb3
  replace ia := ia.keep hb3
  clear hb3 B2 u2
  go_wp2_with (fail)
  go_must (refine (x_move _ s3 u3 Q2.out.1 Q2.out.2 (k := 0) rfl).mono ?_)
  rintro e w4 ⟨A2, c2, rfl, hb4, _⟩
  have B4 := Gen.over hb4 B3
  have u4 := u3.keep hb4
  replace ia := ia.keep hb4
  clear hb4 B3 u3 s3
  go_wp2_with (fail)
  go_must (refine (five_any _).mono ?_)
  rintro e w5 ⟨rfl, hb5, s5⟩
  skip
  have B5 := Gen.over hb5 B4
  have u5 := u4.keep hb5
  replace ia := ia.keep hb5
  clear hb5 B4 u4
  go_wp2_with (fail)
  go_must (refine (x_move _ s5 u5 Q3.out.1 Q3.out.2 (k := 0) rfl).mono ?_)
  rintro e w6 ⟨A3, c3, rfl, hb6, _⟩
  have B6 := Gen.over hb6 B5
  have u6 := u5.keep hb6
  replace ia := ia.keep hb6
  clear hb6 B5 u5 s5
  go_wp2_with (fail)
  go_must (refine (five_any _).mono ?_)
  rintro e w7 ⟨rfl, hb7, s7⟩
  skip
  have B7 := Gen.over hb7 B6
  have u7 := u6.keep hb7
  replace ia := ia.keep hb7
  clear hb7 B6 u6
  go_wp2_with (fail)
  go_must (refine (x_held _ s7 u7 Q4.out.1).mono ?_)
  rintro e w8 ⟨rfl, hb8⟩
  have B8 := Gen.over hb8 B7
  have u8 := u7.keep hb8
  replace ia := ia.keep hb8
  clear hb8 B7 u7 s7
  go_wp2_with (fail)
  go_must (refine (five_any _).mono ?_)
  rintro e w9 ⟨rfl, hb9, s9⟩
  skip
  have B9 := Gen.over hb9 B8
  have u9 := u8.keep hb9
  replace ia := ia.keep hb9
  clear hb9 B8 u8
  go_wp2_with (fail)
  go_must (refine (x_held _ s9 u9 Q4.out.2.1).mono ?_)
  rintro e w10 ⟨rfl, hb10⟩
  have B10 := Gen.over hb10 B9
  have u10 := u9.keep hb10
  replace ia := ia.keep hb10
  clear hb10 B9 u9 s9
  go_wp2_with (fail)
  go_must (refine (five_any _).mono ?_)
  rintro e w11 ⟨rfl, hb11, s11⟩
  skip
  have B11 := Gen.over hb11 B10
  have u11 := u10.keep hb11
  replace ia := ia.keep hb11
  clear hb11 B10 u10
  go_wp2_with (fail)
  go_must (refine (x_held _ s11 u11 Q4.out.2.2.1).mono ?_)
  rintro e w12 ⟨rfl, hb12⟩
  have B12 := Gen.over hb12 B11
  have u12 := u11.keep hb12
  replace ia := ia.keep hb12
  clear hb12 B11 u11 s11
  go_wp2_with (fail)
  go_must (refine (five_any _).mono ?_)
  rintro e w13 ⟨rfl, hb13, s13⟩
  skip
  have B13 := Gen.over hb13 B12
  have u13 := u12.keep hb13
  replace ia := ia.keep hb13
  clear hb13 B12 u12
  go_wp2_with (fail)
  go_must (refine (x_held _ s13 u13 Q4.out.2.2.2).mono ?_)
  rintro e w14 ⟨rfl, hb14⟩
  have B14 := Gen.over hb14 B13
  have u14 := u13.keep hb14
  replace ia := ia.keep hb14
  clear hb14 B13 u13 s13
  go_wp2_with (fail)
  go_must (refine (five_any _).mono ?_)
  rintro e w15 ⟨rfl, hb15, s15⟩
  skip
  have B15 := Gen.over hb15 B14
  have u15 := u14.keep hb15
  replace ia := ia.keep hb15
  clear hb15 B14 u14
  go_wp2_with (fail)
  go_must (refine (x_level _ s15 Q5.out.1).mono ?_)
  rintro e w16 ⟨rfl, hb16⟩
  have B16 := Gen.over hb16 B15
  have u16 := u15.keep hb16
  replace ia := ia.keep hb16
  clear hb16 B15 u15 s15
  go_wp2_with (fail)
  go_must (refine (five_any _).mono ?_)
  rintro e w17 ⟨rfl, hb17, s17⟩
  skip
  have B17 := Gen.over hb17 B16
  have u17 := u16.keep hb17
  replace ia := ia.keep hb17
  clear hb17 B16 u16
  go_wp2_with (fail)
  go_must (refine (x_root _ s17 Q5.out.2.1).mono ?_)
  rintro e w18 ⟨rfl, hb18⟩
  have B18 := Gen.over hb18 B17
  have u18 := u17.keep hb18
  replace ia := ia.keep hb18
  clear hb18 B17 u17 s17
  go_wp2_with (fail)
  go_must (refine (x_ints _ (ia.keep (Gen.b_alloc (Below.refl _ _))) (a_new rfl)).mono ?_)
  rintro e w19 ⟨rfl, hb19⟩
  have B19 := Gen.over hb19 (Gen.b_alloc B18)
  clear hb19 B18 u18 ia
  go_wp2_with (fail)
  go_must (refine (five_any _).mono ?_)
  rintro e w20 ⟨rfl, hb20, s20⟩
  have B20 := Gen.over hb20 B19
  clear hb20 B19
  go_wp2_with (fail)
  go_must (refine (right_is (n := 5) _ rfl s20 (by omega) Q5.out.2.2.1).mono ?_)
  rintro e w21 ⟨rfl, hb21⟩
  have B21 := Gen.over hb21 B20
  clear hb21 B20 s20
  go_wp2_with (fail)
  go_must (refine (five_any _).mono ?_)
  rintro e w22 ⟨rfl, hb22, s22⟩
  have B22 := Gen.over hb22 B21
  clear hb22 B21
  go_wp2_with (fail)
  go_must (refine (bleaf_is (n := 5) _ rfl s22 (by omega) Q5.out.2.2.2).mono ?_)
  rintro e w23 ⟨rfl, hb23⟩
  have B23 := Gen.over hb23 B22
  clear hb23 B22 s22
  go_wp2
  go_ret
  exact ⟨rfl, B23⟩
end Go.Proofs.Ytggheoppbghjeaa.Book
