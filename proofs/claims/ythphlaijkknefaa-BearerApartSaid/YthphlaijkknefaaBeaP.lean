/- Bearer pieces: the reference's wrong. -/
import Derived.Test.YthphlaijkknefaaBeaN
namespace Go.Proofs.Ythphlaijkknefaa.Bea
open Go.ChangeShapes Go.WideShapes Go.ChangeAt Go.RowKit Go.Proofs.Ythphlaijkknefaa.Cell
set_option linter.unusedVariables false
set_option linter.unusedSimpArgs false
variable {A : Option Addr} {n cap : Nat} {l : List Pc} {w : World} {kd q k wh d : Int}
set_option maxRecDepth 100000 in
set_option maxHeartbeats 4000000 in
theorem wrong_list (hn : l.length = n) (hc : Pcl w A l) (hsz : ∀ x ∈ l, x.pd.length ≤ 9223372036854775807) (hbig : n ≤ 9223372036854775807) (hv : rgtL l = false) :
    Calls Try.prog 22 #[.slice A n cap, .agg #[.int .i64 kd, .int .i64 q, .int .i64 k, .int .i64 wh, .int .i64 d]] w fun e w' => e = .returned (.int .i64 1) ∧ Below w.heap.size w w' := by
  have HV := Lib.hid hv
  clear hv
  have hB : Below w.heap.size w (w.alloc (.cells #[.int .i64 kd, .int .i64 q, .int .i64 k, .int .i64 wh, .int .i64 d] 27)) := Gen.b_alloc (Below.refl _ _)
  have hrz : Row (w.alloc (.cells #[.int .i64 kd, .int .i64 q, .int .i64 k, .int .i64 wh, .int .i64 d] 27)) w.heap.size 27 #[.int .i64 kd, .int .i64 q, .int .i64 k, .int .i64 wh, .int .i64 d] := Row.new _ _ _
  go_enter Try.func22, Try.ntmps22
  go_wp2_with (fail)
  go_must (refine (rRight_any _ n cap l _ hn (hc.keep hB) hsz hbig).mono ?_)
  rintro e w1 ⟨rfl, hb1⟩
  rw [HV.out]
  have r1 := hrz.keep hb1
  have g0 := r1.cell 0
  have g1 := r1.cell 1
  have g2 := r1.cell 2
  have g3 := r1.cell 3
  have g4 := r1.cell 4
  have hbw := Gen.over hb1 hB
  have HB := Lib.hid (hbw)
  clear hn hc hsz hrz r1
  go_wp2
  go_ret
  exact ⟨rfl, HB.out⟩
set_option maxRecDepth 100000 in
set_option maxHeartbeats 4000000 in
theorem wrong_0_seat (hn : l.length = n) (hc : Pcl w A l) (hsz : ∀ x ∈ l, x.pd.length ≤ 9223372036854775807) (hbig : n ≤ 9223372036854775807) (hv : rgtL l = true) (b0 : (kd == 0) = true) (hw : ¬ (0 ≤ wh ∧ wh < 20000)) :
    Calls Try.prog 22 #[.slice A n cap, .agg #[.int .i64 kd, .int .i64 q, .int .i64 k, .int .i64 wh, .int .i64 d]] w fun e w' => e = .returned (.int .i64 1) ∧ Below w.heap.size w w' := by
  have HV := Lib.hid hv
  clear hv
  have hB : Below w.heap.size w (w.alloc (.cells #[.int .i64 kd, .int .i64 q, .int .i64 k, .int .i64 wh, .int .i64 d] 27)) := Gen.b_alloc (Below.refl _ _)
  have hrz : Row (w.alloc (.cells #[.int .i64 kd, .int .i64 q, .int .i64 k, .int .i64 wh, .int .i64 d] 27)) w.heap.size 27 #[.int .i64 kd, .int .i64 q, .int .i64 k, .int .i64 wh, .int .i64 d] := Row.new _ _ _
  go_enter Try.func22, Try.ntmps22
  go_wp2_with (fail)
  go_must (refine (rRight_any _ n cap l _ hn (hc.keep hB) hsz hbig).mono ?_)
  rintro e w1 ⟨rfl, hb1⟩
  rw [HV.out]
  have r1 := hrz.keep hb1
  have g0 := r1.cell 0
  have g1 := r1.cell 1
  have g2 := r1.cell 2
  have g3 := r1.cell 3
  have g4 := r1.cell 4
  have hbw := Gen.over hb1 hB
  go_wp2_with (fail)
  go_must (refine (seat_any wh _).mono ?_)
  rintro e w2 ⟨rfl, rfl⟩
  rw [decide_eq_false hw]
  have HB := Lib.hid (hbw)
  clear hn hc hsz hrz r1
  go_wp2
  go_ret
  exact ⟨rfl, HB.out⟩
set_option maxRecDepth 100000 in
set_option maxHeartbeats 4000000 in
theorem wrong_0_day (hn : l.length = n) (hc : Pcl w A l) (hsz : ∀ x ∈ l, x.pd.length ≤ 9223372036854775807) (hbig : n ≤ 9223372036854775807) (hv : rgtL l = true) (b0 : (kd == 0) = true) (hw : 0 ≤ wh ∧ wh < 20000) (hd : ¬ (0 ≤ d ∧ d ≤ 200000)) :
    Calls Try.prog 22 #[.slice A n cap, .agg #[.int .i64 kd, .int .i64 q, .int .i64 k, .int .i64 wh, .int .i64 d]] w fun e w' => e = .returned (.int .i64 1) ∧ Below w.heap.size w w' := by
  have HV := Lib.hid hv
  clear hv
  have hB : Below w.heap.size w (w.alloc (.cells #[.int .i64 kd, .int .i64 q, .int .i64 k, .int .i64 wh, .int .i64 d] 27)) := Gen.b_alloc (Below.refl _ _)
  have hrz : Row (w.alloc (.cells #[.int .i64 kd, .int .i64 q, .int .i64 k, .int .i64 wh, .int .i64 d] 27)) w.heap.size 27 #[.int .i64 kd, .int .i64 q, .int .i64 k, .int .i64 wh, .int .i64 d] := Row.new _ _ _
  go_enter Try.func22, Try.ntmps22
  go_wp2_with (fail)
  go_must (refine (rRight_any _ n cap l _ hn (hc.keep hB) hsz hbig).mono ?_)
  rintro e w1 ⟨rfl, hb1⟩
  rw [HV.out]
  have r1 := hrz.keep hb1
  have g0 := r1.cell 0
  have g1 := r1.cell 1
  have g2 := r1.cell 2
  have g3 := r1.cell 3
  have g4 := r1.cell 4
  have hbw := Gen.over hb1 hB
  go_wp2_with (fail)
  go_must (refine (seat_any wh _).mono ?_)
  rintro e w2 ⟨rfl, rfl⟩
  rw [decide_eq_true hw]
  go_wp2_with (fail)
  go_must (refine (day_any d _).mono ?_)
  rintro e w2 ⟨rfl, rfl⟩
  rw [decide_eq_false hd]
  have HB := Lib.hid (hbw)
  clear hn hc hsz hrz r1
  go_wp2
  go_ret
  exact ⟨rfl, HB.out⟩
set_option maxRecDepth 100000 in
set_option maxHeartbeats 4000000 in
theorem wrong_0_low (hn : l.length = n) (hc : Pcl w A l) (hsz : ∀ x ∈ l, x.pd.length ≤ 9223372036854775807) (hbig : n ≤ 9223372036854775807) (hv : rgtL l = true) (b0 : (kd == 0) = true) (hw : 0 ≤ wh ∧ wh < 20000) (hd : 0 ≤ d ∧ d ≤ 200000) (hq : q < 0) :
    Calls Try.prog 22 #[.slice A n cap, .agg #[.int .i64 kd, .int .i64 q, .int .i64 k, .int .i64 wh, .int .i64 d]] w fun e w' => e = .returned (.int .i64 4) ∧ Below w.heap.size w w' := by
  have HV := Lib.hid hv
  clear hv
  have hB : Below w.heap.size w (w.alloc (.cells #[.int .i64 kd, .int .i64 q, .int .i64 k, .int .i64 wh, .int .i64 d] 27)) := Gen.b_alloc (Below.refl _ _)
  have hrz : Row (w.alloc (.cells #[.int .i64 kd, .int .i64 q, .int .i64 k, .int .i64 wh, .int .i64 d] 27)) w.heap.size 27 #[.int .i64 kd, .int .i64 q, .int .i64 k, .int .i64 wh, .int .i64 d] := Row.new _ _ _
  go_enter Try.func22, Try.ntmps22
  go_wp2_with (fail)
  go_must (refine (rRight_any _ n cap l _ hn (hc.keep hB) hsz hbig).mono ?_)
  rintro e w1 ⟨rfl, hb1⟩
  rw [HV.out]
  have r1 := hrz.keep hb1
  have g0 := r1.cell 0
  have g1 := r1.cell 1
  have g2 := r1.cell 2
  have g3 := r1.cell 3
  have g4 := r1.cell 4
  have hbw := Gen.over hb1 hB
  go_wp2_with (fail)
  go_must (refine (seat_any wh _).mono ?_)
  rintro e w2 ⟨rfl, rfl⟩
  rw [decide_eq_true hw]
  go_wp2_with (fail)
  go_must (refine (day_any d _).mono ?_)
  rintro e w2 ⟨rfl, rfl⟩
  rw [decide_eq_true hd]
  have HB := Lib.hid (hbw)
  clear hn hc hsz hrz r1
  go_wp2
  go_ret
  exact ⟨rfl, HB.out⟩
set_option maxRecDepth 100000 in
set_option maxHeartbeats 4000000 in
theorem wrong_0_high (hn : l.length = n) (hc : Pcl w A l) (hsz : ∀ x ∈ l, x.pd.length ≤ 9223372036854775807) (hbig : n ≤ 9223372036854775807) (hv : rgtL l = true) (b0 : (kd == 0) = true) (hw : 0 ≤ wh ∧ wh < 20000) (hd : 0 ≤ d ∧ d ≤ 200000) {p : Nat} (hq : n ≤ p) :
    Calls Try.prog 22 #[.slice A n cap, .agg #[.int .i64 kd, .int .i64 p, .int .i64 k, .int .i64 wh, .int .i64 d]] w fun e w' => e = .returned (.int .i64 4) ∧ Below w.heap.size w w' := by
  have HV := Lib.hid hv
  clear hv
  have hB : Below w.heap.size w (w.alloc (.cells #[.int .i64 kd, .int .i64 p, .int .i64 k, .int .i64 wh, .int .i64 d] 27)) := Gen.b_alloc (Below.refl _ _)
  have hrz : Row (w.alloc (.cells #[.int .i64 kd, .int .i64 p, .int .i64 k, .int .i64 wh, .int .i64 d] 27)) w.heap.size 27 #[.int .i64 kd, .int .i64 p, .int .i64 k, .int .i64 wh, .int .i64 d] := Row.new _ _ _
  go_enter Try.func22, Try.ntmps22
  go_wp2_with (fail)
  go_must (refine (rRight_any _ n cap l _ hn (hc.keep hB) hsz hbig).mono ?_)
  rintro e w1 ⟨rfl, hb1⟩
  rw [HV.out]
  have r1 := hrz.keep hb1
  have g0 := r1.cell 0
  have g1 := r1.cell 1
  have g2 := r1.cell 2
  have g3 := r1.cell 3
  have g4 := r1.cell 4
  have hbw := Gen.over hb1 hB
  have q0 : (0 : Int) ≤ (p : Int) := by omega
  have qI : (n : Int) ≤ (p : Int) := by omega
  go_wp2_with (fail)
  go_must (refine (seat_any wh _).mono ?_)
  rintro e w2 ⟨rfl, rfl⟩
  rw [decide_eq_true hw]
  go_wp2_with (fail)
  go_must (refine (day_any d _).mono ?_)
  rintro e w2 ⟨rfl, rfl⟩
  rw [decide_eq_true hd]
  have HB := Lib.hid (hbw)
  clear hn hc hsz hrz r1
  go_wp2
  go_ret
  exact ⟨rfl, HB.out⟩
set_option maxRecDepth 100000 in
set_option maxHeartbeats 4000000 in
theorem wrong_1_day (hn : l.length = n) (hc : Pcl w A l) (hsz : ∀ x ∈ l, x.pd.length ≤ 9223372036854775807) (hbig : n ≤ 9223372036854775807) (hv : rgtL l = true) (b0 : (kd == 0) = false) (b1 : (kd == 1) = true) (b1n : (kd != 1) = false) (b2 : (kd == 2) = false) (hd : ¬ (0 ≤ d ∧ d ≤ 200000)) :
    Calls Try.prog 22 #[.slice A n cap, .agg #[.int .i64 kd, .int .i64 q, .int .i64 k, .int .i64 wh, .int .i64 d]] w fun e w' => e = .returned (.int .i64 1) ∧ Below w.heap.size w w' := by
  have HV := Lib.hid hv
  clear hv
  have hB : Below w.heap.size w (w.alloc (.cells #[.int .i64 kd, .int .i64 q, .int .i64 k, .int .i64 wh, .int .i64 d] 27)) := Gen.b_alloc (Below.refl _ _)
  have hrz : Row (w.alloc (.cells #[.int .i64 kd, .int .i64 q, .int .i64 k, .int .i64 wh, .int .i64 d] 27)) w.heap.size 27 #[.int .i64 kd, .int .i64 q, .int .i64 k, .int .i64 wh, .int .i64 d] := Row.new _ _ _
  go_enter Try.func22, Try.ntmps22
  go_wp2_with (fail)
  go_must (refine (rRight_any _ n cap l _ hn (hc.keep hB) hsz hbig).mono ?_)
  rintro e w1 ⟨rfl, hb1⟩
  rw [HV.out]
  have r1 := hrz.keep hb1
  have g0 := r1.cell 0
  have g1 := r1.cell 1
  have g2 := r1.cell 2
  have g3 := r1.cell 3
  have g4 := r1.cell 4
  have hbw := Gen.over hb1 hB
  go_wp2_with (fail)
  go_must (refine (day_any d _).mono ?_)
  rintro e w2 ⟨rfl, rfl⟩
  rw [decide_eq_false hd]
  have HB := Lib.hid (hbw)
  clear hn hc hsz hrz r1
  go_wp2
  go_ret
  exact ⟨rfl, HB.out⟩
set_option maxRecDepth 100000 in
set_option maxHeartbeats 4000000 in
theorem wrong_1_low (hn : l.length = n) (hc : Pcl w A l) (hsz : ∀ x ∈ l, x.pd.length ≤ 9223372036854775807) (hbig : n ≤ 9223372036854775807) (hv : rgtL l = true) (b0 : (kd == 0) = false) (b1 : (kd == 1) = true) (b1n : (kd != 1) = false) (b2 : (kd == 2) = false) (hd : 0 ≤ d ∧ d ≤ 200000) (hq : q < 0) :
    Calls Try.prog 22 #[.slice A n cap, .agg #[.int .i64 kd, .int .i64 q, .int .i64 k, .int .i64 wh, .int .i64 d]] w fun e w' => e = .returned (.int .i64 4) ∧ Below w.heap.size w w' := by
  have HV := Lib.hid hv
  clear hv
  have hB : Below w.heap.size w (w.alloc (.cells #[.int .i64 kd, .int .i64 q, .int .i64 k, .int .i64 wh, .int .i64 d] 27)) := Gen.b_alloc (Below.refl _ _)
  have hrz : Row (w.alloc (.cells #[.int .i64 kd, .int .i64 q, .int .i64 k, .int .i64 wh, .int .i64 d] 27)) w.heap.size 27 #[.int .i64 kd, .int .i64 q, .int .i64 k, .int .i64 wh, .int .i64 d] := Row.new _ _ _
  go_enter Try.func22, Try.ntmps22
  go_wp2_with (fail)
  go_must (refine (rRight_any _ n cap l _ hn (hc.keep hB) hsz hbig).mono ?_)
  rintro e w1 ⟨rfl, hb1⟩
  rw [HV.out]
  have r1 := hrz.keep hb1
  have g0 := r1.cell 0
  have g1 := r1.cell 1
  have g2 := r1.cell 2
  have g3 := r1.cell 3
  have g4 := r1.cell 4
  have hbw := Gen.over hb1 hB
  go_wp2_with (fail)
  go_must (refine (day_any d _).mono ?_)
  rintro e w2 ⟨rfl, rfl⟩
  rw [decide_eq_true hd]
  have HB := Lib.hid (hbw)
  clear hn hc hsz hrz r1
  go_wp2
  go_ret
  exact ⟨rfl, HB.out⟩
set_option maxRecDepth 100000 in
set_option maxHeartbeats 4000000 in
theorem wrong_1_high (hn : l.length = n) (hc : Pcl w A l) (hsz : ∀ x ∈ l, x.pd.length ≤ 9223372036854775807) (hbig : n ≤ 9223372036854775807) (hv : rgtL l = true) (b0 : (kd == 0) = false) (b1 : (kd == 1) = true) (b1n : (kd != 1) = false) (b2 : (kd == 2) = false) (hd : 0 ≤ d ∧ d ≤ 200000) {p : Nat} (hq : n ≤ p) :
    Calls Try.prog 22 #[.slice A n cap, .agg #[.int .i64 kd, .int .i64 p, .int .i64 k, .int .i64 wh, .int .i64 d]] w fun e w' => e = .returned (.int .i64 4) ∧ Below w.heap.size w w' := by
  have HV := Lib.hid hv
  clear hv
  have hB : Below w.heap.size w (w.alloc (.cells #[.int .i64 kd, .int .i64 p, .int .i64 k, .int .i64 wh, .int .i64 d] 27)) := Gen.b_alloc (Below.refl _ _)
  have hrz : Row (w.alloc (.cells #[.int .i64 kd, .int .i64 p, .int .i64 k, .int .i64 wh, .int .i64 d] 27)) w.heap.size 27 #[.int .i64 kd, .int .i64 p, .int .i64 k, .int .i64 wh, .int .i64 d] := Row.new _ _ _
  go_enter Try.func22, Try.ntmps22
  go_wp2_with (fail)
  go_must (refine (rRight_any _ n cap l _ hn (hc.keep hB) hsz hbig).mono ?_)
  rintro e w1 ⟨rfl, hb1⟩
  rw [HV.out]
  have r1 := hrz.keep hb1
  have g0 := r1.cell 0
  have g1 := r1.cell 1
  have g2 := r1.cell 2
  have g3 := r1.cell 3
  have g4 := r1.cell 4
  have hbw := Gen.over hb1 hB
  have q0 : (0 : Int) ≤ (p : Int) := by omega
  have qI : (n : Int) ≤ (p : Int) := by omega
  go_wp2_with (fail)
  go_must (refine (day_any d _).mono ?_)
  rintro e w2 ⟨rfl, rfl⟩
  rw [decide_eq_true hd]
  have HB := Lib.hid (hbw)
  clear hn hc hsz hrz r1
  go_wp2
  go_ret
  exact ⟨rfl, HB.out⟩
set_option maxRecDepth 100000 in
set_option maxHeartbeats 4000000 in
theorem wrong_2_seat (hn : l.length = n) (hc : Pcl w A l) (hsz : ∀ x ∈ l, x.pd.length ≤ 9223372036854775807) (hbig : n ≤ 9223372036854775807) (hv : rgtL l = true) (b0 : (kd == 0) = false) (b1 : (kd == 1) = false) (b1n : (kd != 1) = true) (b2 : (kd == 2) = true) (hw : ¬ (0 ≤ wh ∧ wh < 20000)) :
    Calls Try.prog 22 #[.slice A n cap, .agg #[.int .i64 kd, .int .i64 q, .int .i64 k, .int .i64 wh, .int .i64 d]] w fun e w' => e = .returned (.int .i64 1) ∧ Below w.heap.size w w' := by
  have HV := Lib.hid hv
  clear hv
  have hB : Below w.heap.size w (w.alloc (.cells #[.int .i64 kd, .int .i64 q, .int .i64 k, .int .i64 wh, .int .i64 d] 27)) := Gen.b_alloc (Below.refl _ _)
  have hrz : Row (w.alloc (.cells #[.int .i64 kd, .int .i64 q, .int .i64 k, .int .i64 wh, .int .i64 d] 27)) w.heap.size 27 #[.int .i64 kd, .int .i64 q, .int .i64 k, .int .i64 wh, .int .i64 d] := Row.new _ _ _
  go_enter Try.func22, Try.ntmps22
  go_wp2_with (fail)
  go_must (refine (rRight_any _ n cap l _ hn (hc.keep hB) hsz hbig).mono ?_)
  rintro e w1 ⟨rfl, hb1⟩
  rw [HV.out]
  have r1 := hrz.keep hb1
  have g0 := r1.cell 0
  have g1 := r1.cell 1
  have g2 := r1.cell 2
  have g3 := r1.cell 3
  have g4 := r1.cell 4
  have hbw := Gen.over hb1 hB
  go_wp2_with (fail)
  go_must (refine (seat_any wh _).mono ?_)
  rintro e w2 ⟨rfl, rfl⟩
  rw [decide_eq_false hw]
  have HB := Lib.hid (hbw)
  clear hn hc hsz hrz r1
  go_wp2
  go_ret
  exact ⟨rfl, HB.out⟩
set_option maxRecDepth 100000 in
set_option maxHeartbeats 4000000 in
theorem wrong_2_low (hn : l.length = n) (hc : Pcl w A l) (hsz : ∀ x ∈ l, x.pd.length ≤ 9223372036854775807) (hbig : n ≤ 9223372036854775807) (hv : rgtL l = true) (b0 : (kd == 0) = false) (b1 : (kd == 1) = false) (b1n : (kd != 1) = true) (b2 : (kd == 2) = true) (hw : 0 ≤ wh ∧ wh < 20000) (hq : q < 0) :
    Calls Try.prog 22 #[.slice A n cap, .agg #[.int .i64 kd, .int .i64 q, .int .i64 k, .int .i64 wh, .int .i64 d]] w fun e w' => e = .returned (.int .i64 4) ∧ Below w.heap.size w w' := by
  have HV := Lib.hid hv
  clear hv
  have hB : Below w.heap.size w (w.alloc (.cells #[.int .i64 kd, .int .i64 q, .int .i64 k, .int .i64 wh, .int .i64 d] 27)) := Gen.b_alloc (Below.refl _ _)
  have hrz : Row (w.alloc (.cells #[.int .i64 kd, .int .i64 q, .int .i64 k, .int .i64 wh, .int .i64 d] 27)) w.heap.size 27 #[.int .i64 kd, .int .i64 q, .int .i64 k, .int .i64 wh, .int .i64 d] := Row.new _ _ _
  go_enter Try.func22, Try.ntmps22
  go_wp2_with (fail)
  go_must (refine (rRight_any _ n cap l _ hn (hc.keep hB) hsz hbig).mono ?_)
  rintro e w1 ⟨rfl, hb1⟩
  rw [HV.out]
  have r1 := hrz.keep hb1
  have g0 := r1.cell 0
  have g1 := r1.cell 1
  have g2 := r1.cell 2
  have g3 := r1.cell 3
  have g4 := r1.cell 4
  have hbw := Gen.over hb1 hB
  go_wp2_with (fail)
  go_must (refine (seat_any wh _).mono ?_)
  rintro e w2 ⟨rfl, rfl⟩
  rw [decide_eq_true hw]
  have HB := Lib.hid (hbw)
  clear hn hc hsz hrz r1
  go_wp2
  go_ret
  exact ⟨rfl, HB.out⟩
set_option maxRecDepth 100000 in
set_option maxHeartbeats 4000000 in
theorem wrong_2_high (hn : l.length = n) (hc : Pcl w A l) (hsz : ∀ x ∈ l, x.pd.length ≤ 9223372036854775807) (hbig : n ≤ 9223372036854775807) (hv : rgtL l = true) (b0 : (kd == 0) = false) (b1 : (kd == 1) = false) (b1n : (kd != 1) = true) (b2 : (kd == 2) = true) (hw : 0 ≤ wh ∧ wh < 20000) {p : Nat} (hq : n ≤ p) :
    Calls Try.prog 22 #[.slice A n cap, .agg #[.int .i64 kd, .int .i64 p, .int .i64 k, .int .i64 wh, .int .i64 d]] w fun e w' => e = .returned (.int .i64 4) ∧ Below w.heap.size w w' := by
  have HV := Lib.hid hv
  clear hv
  have hB : Below w.heap.size w (w.alloc (.cells #[.int .i64 kd, .int .i64 p, .int .i64 k, .int .i64 wh, .int .i64 d] 27)) := Gen.b_alloc (Below.refl _ _)
  have hrz : Row (w.alloc (.cells #[.int .i64 kd, .int .i64 p, .int .i64 k, .int .i64 wh, .int .i64 d] 27)) w.heap.size 27 #[.int .i64 kd, .int .i64 p, .int .i64 k, .int .i64 wh, .int .i64 d] := Row.new _ _ _
  go_enter Try.func22, Try.ntmps22
  go_wp2_with (fail)
  go_must (refine (rRight_any _ n cap l _ hn (hc.keep hB) hsz hbig).mono ?_)
  rintro e w1 ⟨rfl, hb1⟩
  rw [HV.out]
  have r1 := hrz.keep hb1
  have g0 := r1.cell 0
  have g1 := r1.cell 1
  have g2 := r1.cell 2
  have g3 := r1.cell 3
  have g4 := r1.cell 4
  have hbw := Gen.over hb1 hB
  have q0 : (0 : Int) ≤ (p : Int) := by omega
  have qI : (n : Int) ≤ (p : Int) := by omega
  go_wp2_with (fail)
  go_must (refine (seat_any wh _).mono ?_)
  rintro e w2 ⟨rfl, rfl⟩
  rw [decide_eq_true hw]
  have HB := Lib.hid (hbw)
  clear hn hc hsz hrz r1
  go_wp2
  go_ret
  exact ⟨rfl, HB.out⟩
set_option maxRecDepth 100000 in
set_option maxHeartbeats 4000000 in
theorem wrong_3_low (hn : l.length = n) (hc : Pcl w A l) (hsz : ∀ x ∈ l, x.pd.length ≤ 9223372036854775807) (hbig : n ≤ 9223372036854775807) (hv : rgtL l = true) (b0 : (kd == 0) = false) (b1 : (kd == 1) = false) (b1n : (kd != 1) = true) (b2 : (kd == 2) = false) (hq : q < 0) :
    Calls Try.prog 22 #[.slice A n cap, .agg #[.int .i64 kd, .int .i64 q, .int .i64 k, .int .i64 wh, .int .i64 d]] w fun e w' => e = .returned (.int .i64 4) ∧ Below w.heap.size w w' := by
  have HV := Lib.hid hv
  clear hv
  have hB : Below w.heap.size w (w.alloc (.cells #[.int .i64 kd, .int .i64 q, .int .i64 k, .int .i64 wh, .int .i64 d] 27)) := Gen.b_alloc (Below.refl _ _)
  have hrz : Row (w.alloc (.cells #[.int .i64 kd, .int .i64 q, .int .i64 k, .int .i64 wh, .int .i64 d] 27)) w.heap.size 27 #[.int .i64 kd, .int .i64 q, .int .i64 k, .int .i64 wh, .int .i64 d] := Row.new _ _ _
  go_enter Try.func22, Try.ntmps22
  go_wp2_with (fail)
  go_must (refine (rRight_any _ n cap l _ hn (hc.keep hB) hsz hbig).mono ?_)
  rintro e w1 ⟨rfl, hb1⟩
  rw [HV.out]
  have r1 := hrz.keep hb1
  have g0 := r1.cell 0
  have g1 := r1.cell 1
  have g2 := r1.cell 2
  have g3 := r1.cell 3
  have g4 := r1.cell 4
  have hbw := Gen.over hb1 hB
  have HB := Lib.hid (hbw)
  clear hn hc hsz hrz r1
  go_wp2
  go_ret
  exact ⟨rfl, HB.out⟩
set_option maxRecDepth 100000 in
set_option maxHeartbeats 4000000 in
theorem wrong_3_high (hn : l.length = n) (hc : Pcl w A l) (hsz : ∀ x ∈ l, x.pd.length ≤ 9223372036854775807) (hbig : n ≤ 9223372036854775807) (hv : rgtL l = true) (b0 : (kd == 0) = false) (b1 : (kd == 1) = false) (b1n : (kd != 1) = true) (b2 : (kd == 2) = false) {p : Nat} (hq : n ≤ p) :
    Calls Try.prog 22 #[.slice A n cap, .agg #[.int .i64 kd, .int .i64 p, .int .i64 k, .int .i64 wh, .int .i64 d]] w fun e w' => e = .returned (.int .i64 4) ∧ Below w.heap.size w w' := by
  have HV := Lib.hid hv
  clear hv
  have hB : Below w.heap.size w (w.alloc (.cells #[.int .i64 kd, .int .i64 p, .int .i64 k, .int .i64 wh, .int .i64 d] 27)) := Gen.b_alloc (Below.refl _ _)
  have hrz : Row (w.alloc (.cells #[.int .i64 kd, .int .i64 p, .int .i64 k, .int .i64 wh, .int .i64 d] 27)) w.heap.size 27 #[.int .i64 kd, .int .i64 p, .int .i64 k, .int .i64 wh, .int .i64 d] := Row.new _ _ _
  go_enter Try.func22, Try.ntmps22
  go_wp2_with (fail)
  go_must (refine (rRight_any _ n cap l _ hn (hc.keep hB) hsz hbig).mono ?_)
  rintro e w1 ⟨rfl, hb1⟩
  rw [HV.out]
  have r1 := hrz.keep hb1
  have g0 := r1.cell 0
  have g1 := r1.cell 1
  have g2 := r1.cell 2
  have g3 := r1.cell 3
  have g4 := r1.cell 4
  have hbw := Gen.over hb1 hB
  have q0 : (0 : Int) ≤ (p : Int) := by omega
  have qI : (n : Int) ≤ (p : Int) := by omega
  have HB := Lib.hid (hbw)
  clear hn hc hsz hrz r1
  go_wp2
  go_ret
  exact ⟨rfl, HB.out⟩
end Go.Proofs.Ythphlaijkknefaa.Bea
