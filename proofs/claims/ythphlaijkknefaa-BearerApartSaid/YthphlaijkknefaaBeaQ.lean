/- Bearer pieces: the reference's wrong, for a piece that is there. -/
import Derived.Test.YthphlaijkknefaaBeaP
import Derived.Test.YthphlaijkknefaaBeaM
namespace Go.Proofs.Ythphlaijkknefaa.Bea
open Go.ChangeShapes Go.WideShapes Go.ChangeAt Go.RowKit Go.Proofs.Ythphlaijkknefaa.Cell
set_option linter.unusedVariables false
set_option linter.unusedSimpArgs false
variable {A : Option Addr} {n cap : Nat} {l : List Pc} {w : World} {kd q k wh d : Int}
set_option maxRecDepth 100000 in
set_option maxHeartbeats 4000000 in
theorem wrong_0_coupon_low (hn : l.length = n) (hc : Pcl w A l) (hsz : ∀ x ∈ l, x.pd.length ≤ 9223372036854775807) (hbig : n ≤ 9223372036854775807) {p : Nat} {x : Pc} (hv : rgtL l = true) (b0 : (kd == 0) = true) (hw : 0 ≤ wh ∧ wh < 20000) (hd : 0 ≤ d ∧ d ≤ 200000) (hx : l[p]? = some x) (hk : k < 0) :
    Calls Try.prog 22 #[.slice A n cap, .agg #[.int .i64 kd, .int .i64 p, .int .i64 k, .int .i64 wh, .int .i64 d]] w fun e w' => e = .returned (.int .i64 4) ∧ Below w.heap.size w w' := by
  have HV := Lib.hid hv
  have hlo := rgt_lo hv (x := x) (mem_of_at hx)
  clear hv
  have hB : Below w.heap.size w (w.alloc (.cells #[.int .i64 kd, .int .i64 p, .int .i64 k, .int .i64 wh, .int .i64 d] 27)) := Gen.b_alloc (Below.refl _ _)
  have hrz : Row (w.alloc (.cells #[.int .i64 kd, .int .i64 p, .int .i64 k, .int .i64 wh, .int .i64 d] 27)) w.heap.size 27 #[.int .i64 kd, .int .i64 p, .int .i64 k, .int .i64 wh, .int .i64 d] := Row.new _ _ _
  go_enter Try.func22, Try.ntmps22
  go_wp2_with (fail)
  go_must (refine (rRight_any _ n cap l _ hn (hc.keep hB) hsz hbig).mono ?_)
  rintro e w1 ⟨rfl, hb1⟩
  rw [HV.out]
  have r1 := hrz.keep hb1
  have g0 := r1.cell 0
  have g1 := r1.cell 1
  have g2 := r1.cell 2
  have g3 := r1.cell 3
  have g4 := r1.cell 4
  have hbw := Gen.over hb1 hB
  have hp := lt_of_at hx
  have q0 : (0 : Int) ≤ (p : Int) := by omega
  have q1 : (p : Int) < (n : Int) := by omega
  go_wp2_with (fail)
  go_must (refine (seat_any wh _).mono ?_)
  rintro e w2 ⟨rfl, rfl⟩
  rw [decide_eq_true hw]
  go_wp2_with (fail)
  go_must (refine (day_any d _).mono ?_)
  rintro e w2 ⟨rfl, rfl⟩
  rw [decide_eq_true hd]
  have hc1 := hc.keep hbw
  obtain ⟨b, off, hAA, _⟩ := hc (by omega)
  subst hAA
  obtain ⟨d0, d1, ⟨A2, q2, d2, hbo⟩, d3, d4⟩ := pcl_cells hc1 hx
  obtain ⟨⟨xi, xu, xp, xl, xs⟩, rfl⟩ : ∃ y : Pc, y = x := ⟨_, rfl⟩
  dsimp only at d0 d1 d2 d3 d4 hbo hlo 
  have r2 := r1.keep (Gen.b_alloc (x := .cells #[.int .i64 xi, .int .i64 xu, .slice A2 xp.length q2, .int .i64 xl, .int .i64 xs] 36) (Below.refl _ _))
  have m0 := r2.cell 0
  have m1 := r2.cell 1
  have m2 := r2.cell 2
  have m3 := r2.cell 3
  have m4 := r2.cell 4
  have HB := Lib.hid (Gen.b_alloc (x := .cells #[.int .i64 xi, .int .i64 xu, .slice A2 xp.length q2, .int .i64 xl, .int .i64 xs] 36) hbw)
  clear hn hc hsz hrz r1 r2 hc1 hx hbo
  go_wp2
  go_ret
  exact ⟨rfl, HB.out⟩
set_option maxRecDepth 100000 in
set_option maxHeartbeats 4000000 in
theorem wrong_0_coupon_high (hn : l.length = n) (hc : Pcl w A l) (hsz : ∀ x ∈ l, x.pd.length ≤ 9223372036854775807) (hbig : n ≤ 9223372036854775807) {p : Nat} {x : Pc} (hv : rgtL l = true) (b0 : (kd == 0) = true) (hw : 0 ≤ wh ∧ wh < 20000) (hd : 0 ≤ d ∧ d ≤ 200000) (hx : l[p]? = some x) {m : Nat} (hk : x.pd.length ≤ m) :
    Calls Try.prog 22 #[.slice A n cap, .agg #[.int .i64 kd, .int .i64 p, .int .i64 m, .int .i64 wh, .int .i64 d]] w fun e w' => e = .returned (.int .i64 4) ∧ Below w.heap.size w w' := by
  have HV := Lib.hid hv
  have hlo := rgt_lo hv (x := x) (mem_of_at hx)
  clear hv
  have hB : Below w.heap.size w (w.alloc (.cells #[.int .i64 kd, .int .i64 p, .int .i64 m, .int .i64 wh, .int .i64 d] 27)) := Gen.b_alloc (Below.refl _ _)
  have hrz : Row (w.alloc (.cells #[.int .i64 kd, .int .i64 p, .int .i64 m, .int .i64 wh, .int .i64 d] 27)) w.heap.size 27 #[.int .i64 kd, .int .i64 p, .int .i64 m, .int .i64 wh, .int .i64 d] := Row.new _ _ _
  go_enter Try.func22, Try.ntmps22
  go_wp2_with (fail)
  go_must (refine (rRight_any _ n cap l _ hn (hc.keep hB) hsz hbig).mono ?_)
  rintro e w1 ⟨rfl, hb1⟩
  rw [HV.out]
  have r1 := hrz.keep hb1
  have g0 := r1.cell 0
  have g1 := r1.cell 1
  have g2 := r1.cell 2
  have g3 := r1.cell 3
  have g4 := r1.cell 4
  have hbw := Gen.over hb1 hB
  have hp := lt_of_at hx
  have q0 : (0 : Int) ≤ (p : Int) := by omega
  have q1 : (p : Int) < (n : Int) := by omega
  go_wp2_with (fail)
  go_must (refine (seat_any wh _).mono ?_)
  rintro e w2 ⟨rfl, rfl⟩
  rw [decide_eq_true hw]
  go_wp2_with (fail)
  go_must (refine (day_any d _).mono ?_)
  rintro e w2 ⟨rfl, rfl⟩
  rw [decide_eq_true hd]
  have hc1 := hc.keep hbw
  obtain ⟨b, off, hAA, _⟩ := hc (by omega)
  subst hAA
  obtain ⟨d0, d1, ⟨A2, q2, d2, hbo⟩, d3, d4⟩ := pcl_cells hc1 hx
  obtain ⟨⟨xi, xu, xp, xl, xs⟩, rfl⟩ : ∃ y : Pc, y = x := ⟨_, rfl⟩
  dsimp only at d0 d1 d2 d3 d4 hbo hlo hk
  have r2 := r1.keep (Gen.b_alloc (x := .cells #[.int .i64 xi, .int .i64 xu, .slice A2 xp.length q2, .int .i64 xl, .int .i64 xs] 36) (Below.refl _ _))
  have m0 := r2.cell 0
  have m1 := r2.cell 1
  have m2 := r2.cell 2
  have m3 := r2.cell 3
  have m4 := r2.cell 4
  have mI : (0 : Int) ≤ (m : Int) := by omega
  have HB := Lib.hid (Gen.b_alloc (x := .cells #[.int .i64 xi, .int .i64 xu, .slice A2 xp.length q2, .int .i64 xl, .int .i64 xs] 36) hbw)
  clear hn hc hsz hrz r1 r2 hc1 hx hbo
  go_wp2
  go_ret
  exact ⟨rfl, HB.out⟩
set_option maxRecDepth 100000 in
set_option maxHeartbeats 4000000 in
theorem wrong_0_paid (hn : l.length = n) (hc : Pcl w A l) (hsz : ∀ x ∈ l, x.pd.length ≤ 9223372036854775807) (hbig : n ≤ 9223372036854775807) {p : Nat} {x : Pc} (hv : rgtL l = true) (b0 : (kd == 0) = true) (hw : 0 ≤ wh ∧ wh < 20000) (hd : 0 ≤ d ∧ d ≤ 200000) (hx : l[p]? = some x) {m : Nat} (hk : x.pd[m]? = some true)  :
    Calls Try.prog 22 #[.slice A n cap, .agg #[.int .i64 kd, .int .i64 p, .int .i64 m, .int .i64 wh, .int .i64 d]] w fun e w' => e = .returned (.int .i64 5) ∧ Below w.heap.size w w' := by
  have HV := Lib.hid hv
  have hlo := rgt_lo hv (x := x) (mem_of_at hx)
  clear hv
  have hB : Below w.heap.size w (w.alloc (.cells #[.int .i64 kd, .int .i64 p, .int .i64 m, .int .i64 wh, .int .i64 d] 27)) := Gen.b_alloc (Below.refl _ _)
  have hrz : Row (w.alloc (.cells #[.int .i64 kd, .int .i64 p, .int .i64 m, .int .i64 wh, .int .i64 d] 27)) w.heap.size 27 #[.int .i64 kd, .int .i64 p, .int .i64 m, .int .i64 wh, .int .i64 d] := Row.new _ _ _
  go_enter Try.func22, Try.ntmps22
  go_wp2_with (fail)
  go_must (refine (rRight_any _ n cap l _ hn (hc.keep hB) hsz hbig).mono ?_)
  rintro e w1 ⟨rfl, hb1⟩
  rw [HV.out]
  have r1 := hrz.keep hb1
  have g0 := r1.cell 0
  have g1 := r1.cell 1
  have g2 := r1.cell 2
  have g3 := r1.cell 3
  have g4 := r1.cell 4
  have hbw := Gen.over hb1 hB
  have hp := lt_of_at hx
  have q0 : (0 : Int) ≤ (p : Int) := by omega
  have q1 : (p : Int) < (n : Int) := by omega
  go_wp2_with (fail)
  go_must (refine (seat_any wh _).mono ?_)
  rintro e w2 ⟨rfl, rfl⟩
  rw [decide_eq_true hw]
  go_wp2_with (fail)
  go_must (refine (day_any d _).mono ?_)
  rintro e w2 ⟨rfl, rfl⟩
  rw [decide_eq_true hd]
  have hc1 := hc.keep hbw
  obtain ⟨b, off, hAA, _⟩ := hc (by omega)
  subst hAA
  obtain ⟨d0, d1, ⟨A2, q2, d2, hbo⟩, d3, d4⟩ := pcl_cells hc1 hx
  obtain ⟨⟨xi, xu, xp, xl, xs⟩, rfl⟩ : ∃ y : Pc, y = x := ⟨_, rfl⟩
  dsimp only at d0 d1 d2 d3 d4 hbo hlo hk 
  have r2 := r1.keep (Gen.b_alloc (x := .cells #[.int .i64 xi, .int .i64 xu, .slice A2 xp.length q2, .int .i64 xl, .int .i64 xs] 36) (Below.refl _ _))
  have m0 := r2.cell 0
  have m1 := r2.cell 1
  have m2 := r2.cell 2
  have m3 := r2.cell 3
  have m4 := r2.cell 4
  have hkl := lt_of_at hk
  obtain ⟨b6, o6, hA6, hb6⟩ := hbo (by omega)
  subst hA6
  have e6 := Gen.keep (Gen.b_alloc (x := .cells #[.int .i64 xi, .int .i64 xu, .slice (some ⟨b6, o6, none⟩) xp.length q2, .int .i64 xl, .int .i64 xs] 36) (Below.refl _ _)) (hb6 m _ hk)
  have mI : (0 : Int) ≤ (m : Int) := by omega
  have mJ : (m : Int) < (xp.length : Int) := by omega
  clear hb6
  have HB := Lib.hid (Gen.b_alloc (x := .cells #[.int .i64 xi, .int .i64 xu, .slice (some ⟨b6, o6, none⟩) xp.length q2, .int .i64 xl, .int .i64 xs] 36) hbw)
  clear hn hc hsz hrz r1 r2 hc1 hx hbo
  go_wp2
  go_ret
  exact ⟨rfl, HB.out⟩
set_option maxRecDepth 100000 in
set_option maxHeartbeats 4000000 in
theorem wrong_0_key (hn : l.length = n) (hc : Pcl w A l) (hsz : ∀ x ∈ l, x.pd.length ≤ 9223372036854775807) (hbig : n ≤ 9223372036854775807) {p : Nat} {x : Pc} (hv : rgtL l = true) (b0 : (kd == 0) = true) (hw : 0 ≤ wh ∧ wh < 20000) (hd : 0 ≤ d ∧ d ≤ 200000) (hx : l[p]? = some x) {m : Nat} (hk : x.pd[m]? = some false) (h0 : x.lo ≠ -1) (h1 : x.se ≠ wh) :
    Calls Try.prog 22 #[.slice A n cap, .agg #[.int .i64 kd, .int .i64 p, .int .i64 m, .int .i64 wh, .int .i64 d]] w fun e w' => e = .returned (.int .i64 18) ∧ Below w.heap.size w w' := by
  have HV := Lib.hid hv
  have hlo := rgt_lo hv (x := x) (mem_of_at hx)
  clear hv
  have hB : Below w.heap.size w (w.alloc (.cells #[.int .i64 kd, .int .i64 p, .int .i64 m, .int .i64 wh, .int .i64 d] 27)) := Gen.b_alloc (Below.refl _ _)
  have hrz : Row (w.alloc (.cells #[.int .i64 kd, .int .i64 p, .int .i64 m, .int .i64 wh, .int .i64 d] 27)) w.heap.size 27 #[.int .i64 kd, .int .i64 p, .int .i64 m, .int .i64 wh, .int .i64 d] := Row.new _ _ _
  go_enter Try.func22, Try.ntmps22
  go_wp2_with (fail)
  go_must (refine (rRight_any _ n cap l _ hn (hc.keep hB) hsz hbig).mono ?_)
  rintro e w1 ⟨rfl, hb1⟩
  rw [HV.out]
  have r1 := hrz.keep hb1
  have g0 := r1.cell 0
  have g1 := r1.cell 1
  have g2 := r1.cell 2
  have g3 := r1.cell 3
  have g4 := r1.cell 4
  have hbw := Gen.over hb1 hB
  have hp := lt_of_at hx
  have q0 : (0 : Int) ≤ (p : Int) := by omega
  have q1 : (p : Int) < (n : Int) := by omega
  go_wp2_with (fail)
  go_must (refine (seat_any wh _).mono ?_)
  rintro e w2 ⟨rfl, rfl⟩
  rw [decide_eq_true hw]
  go_wp2_with (fail)
  go_must (refine (day_any d _).mono ?_)
  rintro e w2 ⟨rfl, rfl⟩
  rw [decide_eq_true hd]
  have hc1 := hc.keep hbw
  obtain ⟨b, off, hAA, _⟩ := hc (by omega)
  subst hAA
  obtain ⟨d0, d1, ⟨A2, q2, d2, hbo⟩, d3, d4⟩ := pcl_cells hc1 hx
  obtain ⟨⟨xi, xu, xp, xl, xs⟩, rfl⟩ : ∃ y : Pc, y = x := ⟨_, rfl⟩
  dsimp only at d0 d1 d2 d3 d4 hbo hlo hk h0 h1
  have r2 := r1.keep (Gen.b_alloc (x := .cells #[.int .i64 xi, .int .i64 xu, .slice A2 xp.length q2, .int .i64 xl, .int .i64 xs] 36) (Below.refl _ _))
  have m0 := r2.cell 0
  have m1 := r2.cell 1
  have m2 := r2.cell 2
  have m3 := r2.cell 3
  have m4 := r2.cell 4
  have hkl := lt_of_at hk
  obtain ⟨b6, o6, hA6, hb6⟩ := hbo (by omega)
  subst hA6
  have e6 := Gen.keep (Gen.b_alloc (x := .cells #[.int .i64 xi, .int .i64 xu, .slice (some ⟨b6, o6, none⟩) xp.length q2, .int .i64 xl, .int .i64 xs] 36) (Below.refl _ _)) (hb6 m _ hk)
  have mI : (0 : Int) ≤ (m : Int) := by omega
  have mJ : (m : Int) < (xp.length : Int) := by omega
  clear hb6
  have n0 : (xl != -1) = true := by simpa using h0
  have n1 : (xs != wh) = true := by simpa using h1
  have HB := Lib.hid (Gen.b_alloc (x := .cells #[.int .i64 xi, .int .i64 xu, .slice (some ⟨b6, o6, none⟩) xp.length q2, .int .i64 xl, .int .i64 xs] 36) hbw)
  clear hn hc hsz hrz r1 r2 hc1 hx hbo
  go_wp2
  go_ret
  exact ⟨rfl, HB.out⟩
set_option maxRecDepth 100000 in
set_option maxHeartbeats 4000000 in
theorem wrong_0_early (hn : l.length = n) (hc : Pcl w A l) (hsz : ∀ x ∈ l, x.pd.length ≤ 9223372036854775807) (hbig : n ≤ 9223372036854775807) {p : Nat} {x : Pc} (hv : rgtL l = true) (b0 : (kd == 0) = true) (hw : 0 ≤ wh ∧ wh < 20000) (hd : 0 ≤ d ∧ d ≤ 200000) (hx : l[p]? = some x) {m : Nat} (hk : x.pd[m]? = some false) (h0 : x.lo ≠ -1) (h1 : x.se = wh) (h2 : d < x.lo + 365) :
    Calls Try.prog 22 #[.slice A n cap, .agg #[.int .i64 kd, .int .i64 p, .int .i64 m, .int .i64 wh, .int .i64 d]] w fun e w' => e = .returned (.int .i64 20) ∧ Below w.heap.size w w' := by
  have HV := Lib.hid hv
  have hlo := rgt_lo hv (x := x) (mem_of_at hx)
  clear hv
  have hB : Below w.heap.size w (w.alloc (.cells #[.int .i64 kd, .int .i64 p, .int .i64 m, .int .i64 wh, .int .i64 d] 27)) := Gen.b_alloc (Below.refl _ _)
  have hrz : Row (w.alloc (.cells #[.int .i64 kd, .int .i64 p, .int .i64 m, .int .i64 wh, .int .i64 d] 27)) w.heap.size 27 #[.int .i64 kd, .int .i64 p, .int .i64 m, .int .i64 wh, .int .i64 d] := Row.new _ _ _
  go_enter Try.func22, Try.ntmps22
  go_wp2_with (fail)
  go_must (refine (rRight_any _ n cap l _ hn (hc.keep hB) hsz hbig).mono ?_)
  rintro e w1 ⟨rfl, hb1⟩
  rw [HV.out]
  have r1 := hrz.keep hb1
  have g0 := r1.cell 0
  have g1 := r1.cell 1
  have g2 := r1.cell 2
  have g3 := r1.cell 3
  have g4 := r1.cell 4
  have hbw := Gen.over hb1 hB
  have hp := lt_of_at hx
  have q0 : (0 : Int) ≤ (p : Int) := by omega
  have q1 : (p : Int) < (n : Int) := by omega
  go_wp2_with (fail)
  go_must (refine (seat_any wh _).mono ?_)
  rintro e w2 ⟨rfl, rfl⟩
  rw [decide_eq_true hw]
  go_wp2_with (fail)
  go_must (refine (day_any d _).mono ?_)
  rintro e w2 ⟨rfl, rfl⟩
  rw [decide_eq_true hd]
  have hc1 := hc.keep hbw
  obtain ⟨b, off, hAA, _⟩ := hc (by omega)
  subst hAA
  obtain ⟨d0, d1, ⟨A2, q2, d2, hbo⟩, d3, d4⟩ := pcl_cells hc1 hx
  obtain ⟨⟨xi, xu, xp, xl, xs⟩, rfl⟩ : ∃ y : Pc, y = x := ⟨_, rfl⟩
  dsimp only at d0 d1 d2 d3 d4 hbo hlo hk h0 h1 h2
  have r2 := r1.keep (Gen.b_alloc (x := .cells #[.int .i64 xi, .int .i64 xu, .slice A2 xp.length q2, .int .i64 xl, .int .i64 xs] 36) (Below.refl _ _))
  have m0 := r2.cell 0
  have m1 := r2.cell 1
  have m2 := r2.cell 2
  have m3 := r2.cell 3
  have m4 := r2.cell 4
  have hkl := lt_of_at hk
  obtain ⟨b6, o6, hA6, hb6⟩ := hbo (by omega)
  subst hA6
  have e6 := Gen.keep (Gen.b_alloc (x := .cells #[.int .i64 xi, .int .i64 xu, .slice (some ⟨b6, o6, none⟩) xp.length q2, .int .i64 xl, .int .i64 xs] 36) (Below.refl _ _)) (hb6 m _ hk)
  have mI : (0 : Int) ≤ (m : Int) := by omega
  have mJ : (m : Int) < (xp.length : Int) := by omega
  clear hb6
  obtain rfl : xs = wh := h1
  have hlo2 := hlo h0
  have n0 : (xl != -1) = true := by simpa using h0
  have n1 : (xs != xs) = false := by simp
  have hww : IntKind.i64.wrap (d - xl) = d - xl := IntWalk.i64_in _ (by omega)
  have h3 : d - xl < 365 := by omega
  have HB := Lib.hid (Gen.b_alloc (x := .cells #[.int .i64 xi, .int .i64 xu, .slice (some ⟨b6, o6, none⟩) xp.length q2, .int .i64 xl, .int .i64 xs] 36) hbw)
  clear hn hc hsz hrz r1 r2 hc1 hx hbo
  go_wp2
  go_ret
  exact ⟨rfl, HB.out⟩
set_option maxRecDepth 100000 in
set_option maxHeartbeats 4000000 in
theorem wrong_0_fresh (hn : l.length = n) (hc : Pcl w A l) (hsz : ∀ x ∈ l, x.pd.length ≤ 9223372036854775807) (hbig : n ≤ 9223372036854775807) {p : Nat} {x : Pc} (hv : rgtL l = true) (b0 : (kd == 0) = true) (hw : 0 ≤ wh ∧ wh < 20000) (hd : 0 ≤ d ∧ d ≤ 200000) (hx : l[p]? = some x) {m : Nat} (hk : x.pd[m]? = some false) (h0 : x.lo = -1) :
    Calls Try.prog 22 #[.slice A n cap, .agg #[.int .i64 kd, .int .i64 p, .int .i64 m, .int .i64 wh, .int .i64 d]] w fun e w' => e = .returned (.int .i64 0) ∧ Below w.heap.size w w' := by
  have HV := Lib.hid hv
  have hlo := rgt_lo hv (x := x) (mem_of_at hx)
  clear hv
  have hB : Below w.heap.size w (w.alloc (.cells #[.int .i64 kd, .int .i64 p, .int .i64 m, .int .i64 wh, .int .i64 d] 27)) := Gen.b_alloc (Below.refl _ _)
  have hrz : Row (w.alloc (.cells #[.int .i64 kd, .int .i64 p, .int .i64 m, .int .i64 wh, .int .i64 d] 27)) w.heap.size 27 #[.int .i64 kd, .int .i64 p, .int .i64 m, .int .i64 wh, .int .i64 d] := Row.new _ _ _
  go_enter Try.func22, Try.ntmps22
  go_wp2_with (fail)
  go_must (refine (rRight_any _ n cap l _ hn (hc.keep hB) hsz hbig).mono ?_)
  rintro e w1 ⟨rfl, hb1⟩
  rw [HV.out]
  have r1 := hrz.keep hb1
  have g0 := r1.cell 0
  have g1 := r1.cell 1
  have g2 := r1.cell 2
  have g3 := r1.cell 3
  have g4 := r1.cell 4
  have hbw := Gen.over hb1 hB
  have hp := lt_of_at hx
  have q0 : (0 : Int) ≤ (p : Int) := by omega
  have q1 : (p : Int) < (n : Int) := by omega
  go_wp2_with (fail)
  go_must (refine (seat_any wh _).mono ?_)
  rintro e w2 ⟨rfl, rfl⟩
  rw [decide_eq_true hw]
  go_wp2_with (fail)
  go_must (refine (day_any d _).mono ?_)
  rintro e w2 ⟨rfl, rfl⟩
  rw [decide_eq_true hd]
  have hc1 := hc.keep hbw
  obtain ⟨b, off, hAA, _⟩ := hc (by omega)
  subst hAA
  obtain ⟨d0, d1, ⟨A2, q2, d2, hbo⟩, d3, d4⟩ := pcl_cells hc1 hx
  obtain ⟨⟨xi, xu, xp, xl, xs⟩, rfl⟩ : ∃ y : Pc, y = x := ⟨_, rfl⟩
  dsimp only at d0 d1 d2 d3 d4 hbo hlo hk h0
  have r2 := r1.keep (Gen.b_alloc (x := .cells #[.int .i64 xi, .int .i64 xu, .slice A2 xp.length q2, .int .i64 xl, .int .i64 xs] 36) (Below.refl _ _))
  have m0 := r2.cell 0
  have m1 := r2.cell 1
  have m2 := r2.cell 2
  have m3 := r2.cell 3
  have m4 := r2.cell 4
  have hkl := lt_of_at hk
  obtain ⟨b6, o6, hA6, hb6⟩ := hbo (by omega)
  subst hA6
  have e6 := Gen.keep (Gen.b_alloc (x := .cells #[.int .i64 xi, .int .i64 xu, .slice (some ⟨b6, o6, none⟩) xp.length q2, .int .i64 xl, .int .i64 xs] 36) (Below.refl _ _)) (hb6 m _ hk)
  have mI : (0 : Int) ≤ (m : Int) := by omega
  have mJ : (m : Int) < (xp.length : Int) := by omega
  clear hb6
  have n0 : (xl != -1) = false := by rw [h0]; rfl
  have n0e : (xl == -1) = true := by rw [h0]; rfl
  clear h0
  have HB := Lib.hid (Gen.b_alloc (x := .cells #[.int .i64 xi, .int .i64 xu, .slice (some ⟨b6, o6, none⟩) xp.length q2, .int .i64 xl, .int .i64 xs] 36) hbw)
  clear hn hc hsz hrz r1 r2 hc1 hx hbo
  go_wp2
  go_ret
  exact ⟨rfl, HB.out⟩
set_option maxRecDepth 100000 in
set_option maxHeartbeats 4000000 in
theorem wrong_0_late (hn : l.length = n) (hc : Pcl w A l) (hsz : ∀ x ∈ l, x.pd.length ≤ 9223372036854775807) (hbig : n ≤ 9223372036854775807) {p : Nat} {x : Pc} (hv : rgtL l = true) (b0 : (kd == 0) = true) (hw : 0 ≤ wh ∧ wh < 20000) (hd : 0 ≤ d ∧ d ≤ 200000) (hx : l[p]? = some x) {m : Nat} (hk : x.pd[m]? = some false) (h0 : x.lo ≠ -1) (h1 : x.se = wh) (h2 : x.lo + 365 ≤ d) :
    Calls Try.prog 22 #[.slice A n cap, .agg #[.int .i64 kd, .int .i64 p, .int .i64 m, .int .i64 wh, .int .i64 d]] w fun e w' => e = .returned (.int .i64 0) ∧ Below w.heap.size w w' := by
  have HV := Lib.hid hv
  have hlo := rgt_lo hv (x := x) (mem_of_at hx)
  clear hv
  have hB : Below w.heap.size w (w.alloc (.cells #[.int .i64 kd, .int .i64 p, .int .i64 m, .int .i64 wh, .int .i64 d] 27)) := Gen.b_alloc (Below.refl _ _)
  have hrz : Row (w.alloc (.cells #[.int .i64 kd, .int .i64 p, .int .i64 m, .int .i64 wh, .int .i64 d] 27)) w.heap.size 27 #[.int .i64 kd, .int .i64 p, .int .i64 m, .int .i64 wh, .int .i64 d] := Row.new _ _ _
  go_enter Try.func22, Try.ntmps22
  go_wp2_with (fail)
  go_must (refine (rRight_any _ n cap l _ hn (hc.keep hB) hsz hbig).mono ?_)
  rintro e w1 ⟨rfl, hb1⟩
  rw [HV.out]
  have r1 := hrz.keep hb1
  have g0 := r1.cell 0
  have g1 := r1.cell 1
  have g2 := r1.cell 2
  have g3 := r1.cell 3
  have g4 := r1.cell 4
  have hbw := Gen.over hb1 hB
  have hp := lt_of_at hx
  have q0 : (0 : Int) ≤ (p : Int) := by omega
  have q1 : (p : Int) < (n : Int) := by omega
  go_wp2_with (fail)
  go_must (refine (seat_any wh _).mono ?_)
  rintro e w2 ⟨rfl, rfl⟩
  rw [decide_eq_true hw]
  go_wp2_with (fail)
  go_must (refine (day_any d _).mono ?_)
  rintro e w2 ⟨rfl, rfl⟩
  rw [decide_eq_true hd]
  have hc1 := hc.keep hbw
  obtain ⟨b, off, hAA, _⟩ := hc (by omega)
  subst hAA
  obtain ⟨d0, d1, ⟨A2, q2, d2, hbo⟩, d3, d4⟩ := pcl_cells hc1 hx
  obtain ⟨⟨xi, xu, xp, xl, xs⟩, rfl⟩ : ∃ y : Pc, y = x := ⟨_, rfl⟩
  dsimp only at d0 d1 d2 d3 d4 hbo hlo hk h0 h1 h2
  have r2 := r1.keep (Gen.b_alloc (x := .cells #[.int .i64 xi, .int .i64 xu, .slice A2 xp.length q2, .int .i64 xl, .int .i64 xs] 36) (Below.refl _ _))
  have m0 := r2.cell 0
  have m1 := r2.cell 1
  have m2 := r2.cell 2
  have m3 := r2.cell 3
  have m4 := r2.cell 4
  have hkl := lt_of_at hk
  obtain ⟨b6, o6, hA6, hb6⟩ := hbo (by omega)
  subst hA6
  have e6 := Gen.keep (Gen.b_alloc (x := .cells #[.int .i64 xi, .int .i64 xu, .slice (some ⟨b6, o6, none⟩) xp.length q2, .int .i64 xl, .int .i64 xs] 36) (Below.refl _ _)) (hb6 m _ hk)
  have mI : (0 : Int) ≤ (m : Int) := by omega
  have mJ : (m : Int) < (xp.length : Int) := by omega
  clear hb6
  obtain rfl : xs = wh := h1
  have hlo2 := hlo h0
  have n0 : (xl != -1) = true := by simpa using h0
  have n1 : (xs != xs) = false := by simp
  have hww : IntKind.i64.wrap (d - xl) = d - xl := IntWalk.i64_in _ (by omega)
  have h3 : 365 ≤ d - xl := by omega
  have HB := Lib.hid (Gen.b_alloc (x := .cells #[.int .i64 xi, .int .i64 xu, .slice (some ⟨b6, o6, none⟩) xp.length q2, .int .i64 xl, .int .i64 xs] 36) hbw)
  clear hn hc hsz hrz r1 r2 hc1 hx hbo
  go_wp2
  go_ret
  exact ⟨rfl, HB.out⟩
set_option maxRecDepth 100000 in
set_option maxHeartbeats 4000000 in
theorem wrong_1_twice (hn : l.length = n) (hc : Pcl w A l) (hsz : ∀ x ∈ l, x.pd.length ≤ 9223372036854775807) (hbig : n ≤ 9223372036854775807) {p : Nat} {x : Pc} (hv : rgtL l = true) (b0 : (kd == 0) = false) (b1 : (kd == 1) = true) (b1n : (kd != 1) = false) (b2 : (kd == 2) = false) (hd : 0 ≤ d ∧ d ≤ 200000) (hx : l[p]? = some x) (h0 : x.lo ≠ -1) :
    Calls Try.prog 22 #[.slice A n cap, .agg #[.int .i64 kd, .int .i64 p, .int .i64 k, .int .i64 wh, .int .i64 d]] w fun e w' => e = .returned (.int .i64 5) ∧ Below w.heap.size w w' := by
  have HV := Lib.hid hv
  have hlo := rgt_lo hv (x := x) (mem_of_at hx)
  clear hv
  have hB : Below w.heap.size w (w.alloc (.cells #[.int .i64 kd, .int .i64 p, .int .i64 k, .int .i64 wh, .int .i64 d] 27)) := Gen.b_alloc (Below.refl _ _)
  have hrz : Row (w.alloc (.cells #[.int .i64 kd, .int .i64 p, .int .i64 k, .int .i64 wh, .int .i64 d] 27)) w.heap.size 27 #[.int .i64 kd, .int .i64 p, .int .i64 k, .int .i64 wh, .int .i64 d] := Row.new _ _ _
  go_enter Try.func22, Try.ntmps22
  go_wp2_with (fail)
  go_must (refine (rRight_any _ n cap l _ hn (hc.keep hB) hsz hbig).mono ?_)
  rintro e w1 ⟨rfl, hb1⟩
  rw [HV.out]
  have r1 := hrz.keep hb1
  have g0 := r1.cell 0
  have g1 := r1.cell 1
  have g2 := r1.cell 2
  have g3 := r1.cell 3
  have g4 := r1.cell 4
  have hbw := Gen.over hb1 hB
  have hp := lt_of_at hx
  have q0 : (0 : Int) ≤ (p : Int) := by omega
  have q1 : (p : Int) < (n : Int) := by omega
  go_wp2_with (fail)
  go_must (refine (day_any d _).mono ?_)
  rintro e w2 ⟨rfl, rfl⟩
  rw [decide_eq_true hd]
  have hc1 := hc.keep hbw
  obtain ⟨b, off, hAA, _⟩ := hc (by omega)
  subst hAA
  obtain ⟨d0, d1, ⟨A2, q2, d2, hbo⟩, d3, d4⟩ := pcl_cells hc1 hx
  obtain ⟨⟨xi, xu, xp, xl, xs⟩, rfl⟩ : ∃ y : Pc, y = x := ⟨_, rfl⟩
  dsimp only at d0 d1 d2 d3 d4 hbo hlo h0
  have r2 := r1.keep (Gen.b_alloc (x := .cells #[.int .i64 xi, .int .i64 xu, .slice A2 xp.length q2, .int .i64 xl, .int .i64 xs] 36) (Below.refl _ _))
  have m0 := r2.cell 0
  have m1 := r2.cell 1
  have m2 := r2.cell 2
  have m3 := r2.cell 3
  have m4 := r2.cell 4
  have n0 : (xl != -1) = true := by simpa using h0
  have HB := Lib.hid (Gen.b_alloc (x := .cells #[.int .i64 xi, .int .i64 xu, .slice A2 xp.length q2, .int .i64 xl, .int .i64 xs] 36) hbw)
  clear hn hc hsz hrz r1 r2 hc1 hx hbo
  go_wp2
  go_ret
  exact ⟨rfl, HB.out⟩
set_option maxRecDepth 100000 in
set_option maxHeartbeats 4000000 in
theorem wrong_1_ok (hn : l.length = n) (hc : Pcl w A l) (hsz : ∀ x ∈ l, x.pd.length ≤ 9223372036854775807) (hbig : n ≤ 9223372036854775807) {p : Nat} {x : Pc} (hv : rgtL l = true) (b0 : (kd == 0) = false) (b1 : (kd == 1) = true) (b1n : (kd != 1) = false) (b2 : (kd == 2) = false) (hd : 0 ≤ d ∧ d ≤ 200000) (hx : l[p]? = some x) (h0 : x.lo = -1) :
    Calls Try.prog 22 #[.slice A n cap, .agg #[.int .i64 kd, .int .i64 p, .int .i64 k, .int .i64 wh, .int .i64 d]] w fun e w' => e = .returned (.int .i64 0) ∧ Below w.heap.size w w' := by
  have HV := Lib.hid hv
  have hlo := rgt_lo hv (x := x) (mem_of_at hx)
  clear hv
  have hB : Below w.heap.size w (w.alloc (.cells #[.int .i64 kd, .int .i64 p, .int .i64 k, .int .i64 wh, .int .i64 d] 27)) := Gen.b_alloc (Below.refl _ _)
  have hrz : Row (w.alloc (.cells #[.int .i64 kd, .int .i64 p, .int .i64 k, .int .i64 wh, .int .i64 d] 27)) w.heap.size 27 #[.int .i64 kd, .int .i64 p, .int .i64 k, .int .i64 wh, .int .i64 d] := Row.new _ _ _
  go_enter Try.func22, Try.ntmps22
  go_wp2_with (fail)
  go_must (refine (rRight_any _ n cap l _ hn (hc.keep hB) hsz hbig).mono ?_)
  rintro e w1 ⟨rfl, hb1⟩
  rw [HV.out]
  have r1 := hrz.keep hb1
  have g0 := r1.cell 0
  have g1 := r1.cell 1
  have g2 := r1.cell 2
  have g3 := r1.cell 3
  have g4 := r1.cell 4
  have hbw := Gen.over hb1 hB
  have hp := lt_of_at hx
  have q0 : (0 : Int) ≤ (p : Int) := by omega
  have q1 : (p : Int) < (n : Int) := by omega
  go_wp2_with (fail)
  go_must (refine (day_any d _).mono ?_)
  rintro e w2 ⟨rfl, rfl⟩
  rw [decide_eq_true hd]
  have hc1 := hc.keep hbw
  obtain ⟨b, off, hAA, _⟩ := hc (by omega)
  subst hAA
  obtain ⟨d0, d1, ⟨A2, q2, d2, hbo⟩, d3, d4⟩ := pcl_cells hc1 hx
  obtain ⟨⟨xi, xu, xp, xl, xs⟩, rfl⟩ : ∃ y : Pc, y = x := ⟨_, rfl⟩
  dsimp only at d0 d1 d2 d3 d4 hbo hlo h0
  have r2 := r1.keep (Gen.b_alloc (x := .cells #[.int .i64 xi, .int .i64 xu, .slice A2 xp.length q2, .int .i64 xl, .int .i64 xs] 36) (Below.refl _ _))
  have m0 := r2.cell 0
  have m1 := r2.cell 1
  have m2 := r2.cell 2
  have m3 := r2.cell 3
  have m4 := r2.cell 4
  have n0 : (xl != -1) = false := by rw [h0]; rfl
  have n0e : (xl == -1) = true := by rw [h0]; rfl
  clear h0
  have HB := Lib.hid (Gen.b_alloc (x := .cells #[.int .i64 xi, .int .i64 xu, .slice A2 xp.length q2, .int .i64 xl, .int .i64 xs] 36) hbw)
  clear hn hc hsz hrz r1 r2 hc1 hx hbo
  go_wp2
  go_ret
  exact ⟨rfl, HB.out⟩
set_option maxRecDepth 100000 in
set_option maxHeartbeats 4000000 in
theorem wrong_2_state (hn : l.length = n) (hc : Pcl w A l) (hsz : ∀ x ∈ l, x.pd.length ≤ 9223372036854775807) (hbig : n ≤ 9223372036854775807) {p : Nat} {x : Pc} (hv : rgtL l = true) (b0 : (kd == 0) = false) (b1 : (kd == 1) = false) (b1n : (kd != 1) = true) (b2 : (kd == 2) = true) (hw : 0 ≤ wh ∧ wh < 20000) (hx : l[p]? = some x) (h0 : x.lo = -1) :
    Calls Try.prog 22 #[.slice A n cap, .agg #[.int .i64 kd, .int .i64 p, .int .i64 k, .int .i64 wh, .int .i64 d]] w fun e w' => e = .returned (.int .i64 7) ∧ Below w.heap.size w w' := by
  have HV := Lib.hid hv
  have hlo := rgt_lo hv (x := x) (mem_of_at hx)
  clear hv
  have hB : Below w.heap.size w (w.alloc (.cells #[.int .i64 kd, .int .i64 p, .int .i64 k, .int .i64 wh, .int .i64 d] 27)) := Gen.b_alloc (Below.refl _ _)
  have hrz : Row (w.alloc (.cells #[.int .i64 kd, .int .i64 p, .int .i64 k, .int .i64 wh, .int .i64 d] 27)) w.heap.size 27 #[.int .i64 kd, .int .i64 p, .int .i64 k, .int .i64 wh, .int .i64 d] := Row.new _ _ _
  go_enter Try.func22, Try.ntmps22
  go_wp2_with (fail)
  go_must (refine (rRight_any _ n cap l _ hn (hc.keep hB) hsz hbig).mono ?_)
  rintro e w1 ⟨rfl, hb1⟩
  rw [HV.out]
  have r1 := hrz.keep hb1
  have g0 := r1.cell 0
  have g1 := r1.cell 1
  have g2 := r1.cell 2
  have g3 := r1.cell 3
  have g4 := r1.cell 4
  have hbw := Gen.over hb1 hB
  have hp := lt_of_at hx
  have q0 : (0 : Int) ≤ (p : Int) := by omega
  have q1 : (p : Int) < (n : Int) := by omega
  go_wp2_with (fail)
  go_must (refine (seat_any wh _).mono ?_)
  rintro e w2 ⟨rfl, rfl⟩
  rw [decide_eq_true hw]
  have hc1 := hc.keep hbw
  obtain ⟨b, off, hAA, _⟩ := hc (by omega)
  subst hAA
  obtain ⟨d0, d1, ⟨A2, q2, d2, hbo⟩, d3, d4⟩ := pcl_cells hc1 hx
  obtain ⟨⟨xi, xu, xp, xl, xs⟩, rfl⟩ : ∃ y : Pc, y = x := ⟨_, rfl⟩
  dsimp only at d0 d1 d2 d3 d4 hbo hlo h0
  have r2 := r1.keep (Gen.b_alloc (x := .cells #[.int .i64 xi, .int .i64 xu, .slice A2 xp.length q2, .int .i64 xl, .int .i64 xs] 36) (Below.refl _ _))
  have m0 := r2.cell 0
  have m1 := r2.cell 1
  have m2 := r2.cell 2
  have m3 := r2.cell 3
  have m4 := r2.cell 4
  have n0 : (xl != -1) = false := by rw [h0]; rfl
  have n0e : (xl == -1) = true := by rw [h0]; rfl
  clear h0
  have HB := Lib.hid (Gen.b_alloc (x := .cells #[.int .i64 xi, .int .i64 xu, .slice A2 xp.length q2, .int .i64 xl, .int .i64 xs] 36) hbw)
  clear hn hc hsz hrz r1 r2 hc1 hx hbo
  go_wp2
  go_ret
  exact ⟨rfl, HB.out⟩
set_option maxRecDepth 100000 in
set_option maxHeartbeats 4000000 in
theorem wrong_2_twice (hn : l.length = n) (hc : Pcl w A l) (hsz : ∀ x ∈ l, x.pd.length ≤ 9223372036854775807) (hbig : n ≤ 9223372036854775807) {p : Nat} {x : Pc} (hv : rgtL l = true) (b0 : (kd == 0) = false) (b1 : (kd == 1) = false) (b1n : (kd != 1) = true) (b2 : (kd == 2) = true) (hw : 0 ≤ wh ∧ wh < 20000) (hx : l[p]? = some x) (h0 : x.lo ≠ -1) (h1 : x.se ≠ -1) :
    Calls Try.prog 22 #[.slice A n cap, .agg #[.int .i64 kd, .int .i64 p, .int .i64 k, .int .i64 wh, .int .i64 d]] w fun e w' => e = .returned (.int .i64 5) ∧ Below w.heap.size w w' := by
  have HV := Lib.hid hv
  have hlo := rgt_lo hv (x := x) (mem_of_at hx)
  clear hv
  have hB : Below w.heap.size w (w.alloc (.cells #[.int .i64 kd, .int .i64 p, .int .i64 k, .int .i64 wh, .int .i64 d] 27)) := Gen.b_alloc (Below.refl _ _)
  have hrz : Row (w.alloc (.cells #[.int .i64 kd, .int .i64 p, .int .i64 k, .int .i64 wh, .int .i64 d] 27)) w.heap.size 27 #[.int .i64 kd, .int .i64 p, .int .i64 k, .int .i64 wh, .int .i64 d] := Row.new _ _ _
  go_enter Try.func22, Try.ntmps22
  go_wp2_with (fail)
  go_must (refine (rRight_any _ n cap l _ hn (hc.keep hB) hsz hbig).mono ?_)
  rintro e w1 ⟨rfl, hb1⟩
  rw [HV.out]
  have r1 := hrz.keep hb1
  have g0 := r1.cell 0
  have g1 := r1.cell 1
  have g2 := r1.cell 2
  have g3 := r1.cell 3
  have g4 := r1.cell 4
  have hbw := Gen.over hb1 hB
  have hp := lt_of_at hx
  have q0 : (0 : Int) ≤ (p : Int) := by omega
  have q1 : (p : Int) < (n : Int) := by omega
  go_wp2_with (fail)
  go_must (refine (seat_any wh _).mono ?_)
  rintro e w2 ⟨rfl, rfl⟩
  rw [decide_eq_true hw]
  have hc1 := hc.keep hbw
  obtain ⟨b, off, hAA, _⟩ := hc (by omega)
  subst hAA
  obtain ⟨d0, d1, ⟨A2, q2, d2, hbo⟩, d3, d4⟩ := pcl_cells hc1 hx
  obtain ⟨⟨xi, xu, xp, xl, xs⟩, rfl⟩ : ∃ y : Pc, y = x := ⟨_, rfl⟩
  dsimp only at d0 d1 d2 d3 d4 hbo hlo h0 h1
  have r2 := r1.keep (Gen.b_alloc (x := .cells #[.int .i64 xi, .int .i64 xu, .slice A2 xp.length q2, .int .i64 xl, .int .i64 xs] 36) (Below.refl _ _))
  have m0 := r2.cell 0
  have m1 := r2.cell 1
  have m2 := r2.cell 2
  have m3 := r2.cell 3
  have m4 := r2.cell 4
  have n0 : (xl != -1) = true := by simpa using h0
  have n0e : (xl == -1) = false := by simpa using h0
  have n1 : (xs != -1) = true := by simpa using h1
  have HB := Lib.hid (Gen.b_alloc (x := .cells #[.int .i64 xi, .int .i64 xu, .slice A2 xp.length q2, .int .i64 xl, .int .i64 xs] 36) hbw)
  clear hn hc hsz hrz r1 r2 hc1 hx hbo
  go_wp2
  go_ret
  exact ⟨rfl, HB.out⟩
set_option maxRecDepth 100000 in
set_option maxHeartbeats 4000000 in
theorem wrong_2_ok (hn : l.length = n) (hc : Pcl w A l) (hsz : ∀ x ∈ l, x.pd.length ≤ 9223372036854775807) (hbig : n ≤ 9223372036854775807) {p : Nat} {x : Pc} (hv : rgtL l = true) (b0 : (kd == 0) = false) (b1 : (kd == 1) = false) (b1n : (kd != 1) = true) (b2 : (kd == 2) = true) (hw : 0 ≤ wh ∧ wh < 20000) (hx : l[p]? = some x) (h0 : x.lo ≠ -1) (h1 : x.se = -1) :
    Calls Try.prog 22 #[.slice A n cap, .agg #[.int .i64 kd, .int .i64 p, .int .i64 k, .int .i64 wh, .int .i64 d]] w fun e w' => e = .returned (.int .i64 0) ∧ Below w.heap.size w w' := by
  have HV := Lib.hid hv
  have hlo := rgt_lo hv (x := x) (mem_of_at hx)
  clear hv
  have hB : Below w.heap.size w (w.alloc (.cells #[.int .i64 kd, .int .i64 p, .int .i64 k, .int .i64 wh, .int .i64 d] 27)) := Gen.b_alloc (Below.refl _ _)
  have hrz : Row (w.alloc (.cells #[.int .i64 kd, .int .i64 p, .int .i64 k, .int .i64 wh, .int .i64 d] 27)) w.heap.size 27 #[.int .i64 kd, .int .i64 p, .int .i64 k, .int .i64 wh, .int .i64 d] := Row.new _ _ _
  go_enter Try.func22, Try.ntmps22
  go_wp2_with (fail)
  go_must (refine (rRight_any _ n cap l _ hn (hc.keep hB) hsz hbig).mono ?_)
  rintro e w1 ⟨rfl, hb1⟩
  rw [HV.out]
  have r1 := hrz.keep hb1
  have g0 := r1.cell 0
  have g1 := r1.cell 1
  have g2 := r1.cell 2
  have g3 := r1.cell 3
  have g4 := r1.cell 4
  have hbw := Gen.over hb1 hB
  have hp := lt_of_at hx
  have q0 : (0 : Int) ≤ (p : Int) := by omega
  have q1 : (p : Int) < (n : Int) := by omega
  go_wp2_with (fail)
  go_must (refine (seat_any wh _).mono ?_)
  rintro e w2 ⟨rfl, rfl⟩
  rw [decide_eq_true hw]
  have hc1 := hc.keep hbw
  obtain ⟨b, off, hAA, _⟩ := hc (by omega)
  subst hAA
  obtain ⟨d0, d1, ⟨A2, q2, d2, hbo⟩, d3, d4⟩ := pcl_cells hc1 hx
  obtain ⟨⟨xi, xu, xp, xl, xs⟩, rfl⟩ : ∃ y : Pc, y = x := ⟨_, rfl⟩
  dsimp only at d0 d1 d2 d3 d4 hbo hlo h0 h1
  have r2 := r1.keep (Gen.b_alloc (x := .cells #[.int .i64 xi, .int .i64 xu, .slice A2 xp.length q2, .int .i64 xl, .int .i64 xs] 36) (Below.refl _ _))
  have m0 := r2.cell 0
  have m1 := r2.cell 1
  have m2 := r2.cell 2
  have m3 := r2.cell 3
  have m4 := r2.cell 4
  have n0 : (xl != -1) = true := by simpa using h0
  have n0e : (xl == -1) = false := by simpa using h0
  have n1 : (xs != -1) = false := by rw [h1]; rfl
  clear h1
  have HB := Lib.hid (Gen.b_alloc (x := .cells #[.int .i64 xi, .int .i64 xu, .slice A2 xp.length q2, .int .i64 xl, .int .i64 xs] 36) hbw)
  clear hn hc hsz hrz r1 r2 hc1 hx hbo
  go_wp2
  go_ret
  exact ⟨rfl, HB.out⟩
set_option maxRecDepth 100000 in
set_option maxHeartbeats 4000000 in
theorem wrong_3_state (hn : l.length = n) (hc : Pcl w A l) (hsz : ∀ x ∈ l, x.pd.length ≤ 9223372036854775807) (hbig : n ≤ 9223372036854775807) {p : Nat} {x : Pc} (hv : rgtL l = true) (b0 : (kd == 0) = false) (b1 : (kd == 1) = false) (b1n : (kd != 1) = true) (b2 : (kd == 2) = false) (hx : l[p]? = some x) (h0 : x.lo = -1) :
    Calls Try.prog 22 #[.slice A n cap, .agg #[.int .i64 kd, .int .i64 p, .int .i64 k, .int .i64 wh, .int .i64 d]] w fun e w' => e = .returned (.int .i64 7) ∧ Below w.heap.size w w' := by
  have HV := Lib.hid hv
  have hlo := rgt_lo hv (x := x) (mem_of_at hx)
  clear hv
  have hB : Below w.heap.size w (w.alloc (.cells #[.int .i64 kd, .int .i64 p, .int .i64 k, .int .i64 wh, .int .i64 d] 27)) := Gen.b_alloc (Below.refl _ _)
  have hrz : Row (w.alloc (.cells #[.int .i64 kd, .int .i64 p, .int .i64 k, .int .i64 wh, .int .i64 d] 27)) w.heap.size 27 #[.int .i64 kd, .int .i64 p, .int .i64 k, .int .i64 wh, .int .i64 d] := Row.new _ _ _
  go_enter Try.func22, Try.ntmps22
  go_wp2_with (fail)
  go_must (refine (rRight_any _ n cap l _ hn (hc.keep hB) hsz hbig).mono ?_)
  rintro e w1 ⟨rfl, hb1⟩
  rw [HV.out]
  have r1 := hrz.keep hb1
  have g0 := r1.cell 0
  have g1 := r1.cell 1
  have g2 := r1.cell 2
  have g3 := r1.cell 3
  have g4 := r1.cell 4
  have hbw := Gen.over hb1 hB
  have hp := lt_of_at hx
  have q0 : (0 : Int) ≤ (p : Int) := by omega
  have q1 : (p : Int) < (n : Int) := by omega
  have hc1 := hc.keep hbw
  obtain ⟨b, off, hAA, _⟩ := hc (by omega)
  subst hAA
  obtain ⟨d0, d1, ⟨A2, q2, d2, hbo⟩, d3, d4⟩ := pcl_cells hc1 hx
  obtain ⟨⟨xi, xu, xp, xl, xs⟩, rfl⟩ : ∃ y : Pc, y = x := ⟨_, rfl⟩
  dsimp only at d0 d1 d2 d3 d4 hbo hlo h0
  have r2 := r1.keep (Gen.b_alloc (x := .cells #[.int .i64 xi, .int .i64 xu, .slice A2 xp.length q2, .int .i64 xl, .int .i64 xs] 36) (Below.refl _ _))
  have m0 := r2.cell 0
  have m1 := r2.cell 1
  have m2 := r2.cell 2
  have m3 := r2.cell 3
  have m4 := r2.cell 4
  have n0 : (xl != -1) = false := by rw [h0]; rfl
  have n0e : (xl == -1) = true := by rw [h0]; rfl
  clear h0
  have HB := Lib.hid (Gen.b_alloc (x := .cells #[.int .i64 xi, .int .i64 xu, .slice A2 xp.length q2, .int .i64 xl, .int .i64 xs] 36) hbw)
  clear hn hc hsz hrz r1 r2 hc1 hx hbo
  go_wp2
  go_ret
  exact ⟨rfl, HB.out⟩
set_option maxRecDepth 100000 in
set_option maxHeartbeats 4000000 in
theorem wrong_3_ok (hn : l.length = n) (hc : Pcl w A l) (hsz : ∀ x ∈ l, x.pd.length ≤ 9223372036854775807) (hbig : n ≤ 9223372036854775807) {p : Nat} {x : Pc} (hv : rgtL l = true) (b0 : (kd == 0) = false) (b1 : (kd == 1) = false) (b1n : (kd != 1) = true) (b2 : (kd == 2) = false) (hx : l[p]? = some x) (h0 : x.lo ≠ -1) :
    Calls Try.prog 22 #[.slice A n cap, .agg #[.int .i64 kd, .int .i64 p, .int .i64 k, .int .i64 wh, .int .i64 d]] w fun e w' => e = .returned (.int .i64 0) ∧ Below w.heap.size w w' := by
  have HV := Lib.hid hv
  have hlo := rgt_lo hv (x := x) (mem_of_at hx)
  clear hv
  have hB : Below w.heap.size w (w.alloc (.cells #[.int .i64 kd, .int .i64 p, .int .i64 k, .int .i64 wh, .int .i64 d] 27)) := Gen.b_alloc (Below.refl _ _)
  have hrz : Row (w.alloc (.cells #[.int .i64 kd, .int .i64 p, .int .i64 k, .int .i64 wh, .int .i64 d] 27)) w.heap.size 27 #[.int .i64 kd, .int .i64 p, .int .i64 k, .int .i64 wh, .int .i64 d] := Row.new _ _ _
  go_enter Try.func22, Try.ntmps22
  go_wp2_with (fail)
  go_must (refine (rRight_any _ n cap l _ hn (hc.keep hB) hsz hbig).mono ?_)
  rintro e w1 ⟨rfl, hb1⟩
  rw [HV.out]
  have r1 := hrz.keep hb1
  have g0 := r1.cell 0
  have g1 := r1.cell 1
  have g2 := r1.cell 2
  have g3 := r1.cell 3
  have g4 := r1.cell 4
  have hbw := Gen.over hb1 hB
  have hp := lt_of_at hx
  have q0 : (0 : Int) ≤ (p : Int) := by omega
  have q1 : (p : Int) < (n : Int) := by omega
  have hc1 := hc.keep hbw
  obtain ⟨b, off, hAA, _⟩ := hc (by omega)
  subst hAA
  obtain ⟨d0, d1, ⟨A2, q2, d2, hbo⟩, d3, d4⟩ := pcl_cells hc1 hx
  obtain ⟨⟨xi, xu, xp, xl, xs⟩, rfl⟩ : ∃ y : Pc, y = x := ⟨_, rfl⟩
  dsimp only at d0 d1 d2 d3 d4 hbo hlo h0
  have r2 := r1.keep (Gen.b_alloc (x := .cells #[.int .i64 xi, .int .i64 xu, .slice A2 xp.length q2, .int .i64 xl, .int .i64 xs] 36) (Below.refl _ _))
  have m0 := r2.cell 0
  have m1 := r2.cell 1
  have m2 := r2.cell 2
  have m3 := r2.cell 3
  have m4 := r2.cell 4
  have n0 : (xl != -1) = true := by simpa using h0
  have n0e : (xl == -1) = false := by simpa using h0
  have HB := Lib.hid (Gen.b_alloc (x := .cells #[.int .i64 xi, .int .i64 xu, .slice A2 xp.length q2, .int .i64 xl, .int .i64 xs] 36) hbw)
  clear hn hc hsz hrz r1 r2 hc1 hx hbo
  go_wp2
  go_ret
  exact ⟨rfl, HB.out⟩
end Go.Proofs.Ythphlaijkknefaa.Bea
