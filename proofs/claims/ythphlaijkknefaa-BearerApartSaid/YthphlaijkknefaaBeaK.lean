/- Bearer pieces: what is refused. -/
import Derived.Test.YthphlaijkknefaaBeaH
namespace Go.Proofs.Ythphlaijkknefaa.Bea
open Go.ChangeShapes Go.WideShapes Go.ChangeAt Go.RowKit Go.Proofs.Ythphlaijkknefaa.Cell
set_option linter.unusedVariables false
set_option linter.unusedSimpArgs false
set_option maxRecDepth 100000 in
set_option maxHeartbeats 4000000 in
theorem present_wrong {A : Option Addr} {n cap : Nat} {l : List Pc} {w : World} {q k wh d : Int} (hn : l.length = n) (hc : Pcl w A l) (hsz : ∀ x ∈ l, x.pd.length ≤ 9223372036854775807) (hbig : n ≤ 9223372036854775807) (hv : rgtL l = false) :
    Calls Try.prog 17 #[.slice A n cap, .int .i64 q, .int .i64 k, .int .i64 wh, .int .i64 d] w fun e w' => e = .returned (.tuple #[.slice none 0 0, .int .i64 0, .int .i64 1]) ∧ Below w.heap.size w w' := by
  have HV := Lib.hid hv
  clear hv
  go_enter Try.func17, Try.ntmps17
  go_wp2_with (fail)
  go_must (refine (Right_any _ n cap l w hn hc hsz hbig).mono ?_)
  rintro e w1 ⟨rfl, hb1⟩
  rw [HV.out]
  have HB := Lib.hid (hb1)
  clear hn hc hsz
  go_wp2
  exact bodyPost_ret (v := .tuple #[.slice none 0 0, .int .i64 0, .int .i64 1]) (by simp [results, Try.results17, go_sem]) rfl ⟨rfl, HB.out⟩
set_option maxRecDepth 100000 in
set_option maxHeartbeats 4000000 in
theorem present_isSeat {A : Option Addr} {n cap : Nat} {l : List Pc} {w : World} {q k wh d : Int} (hn : l.length = n) (hc : Pcl w A l) (hsz : ∀ x ∈ l, x.pd.length ≤ 9223372036854775807) (hbig : n ≤ 9223372036854775807) (hv : rgtL l = true) (hwh : ¬ (0 ≤ wh ∧ wh < 20000)) :
    Calls Try.prog 17 #[.slice A n cap, .int .i64 q, .int .i64 k, .int .i64 wh, .int .i64 d] w fun e w' => e = .returned (.tuple #[.slice none 0 0, .int .i64 0, .int .i64 1]) ∧ Below w.heap.size w w' := by
  have HV := Lib.hid hv
  clear hv
  go_enter Try.func17, Try.ntmps17
  go_wp2_with (fail)
  go_must (refine (Right_any _ n cap l w hn hc hsz hbig).mono ?_)
  rintro e w1 ⟨rfl, hb1⟩
  rw [HV.out]
  go_wp2_with (fail)
  go_must (refine (isSeat_any wh _).mono ?_)
  rintro e w2 ⟨rfl, rfl⟩
  rw [decide_eq_false hwh]
  have HB := Lib.hid (hb1)
  clear hn hc hsz
  go_wp2
  exact bodyPost_ret (v := .tuple #[.slice none 0 0, .int .i64 0, .int .i64 1]) (by simp [results, Try.results17, go_sem]) rfl ⟨rfl, HB.out⟩
set_option maxRecDepth 100000 in
set_option maxHeartbeats 4000000 in
theorem present_isDay {A : Option Addr} {n cap : Nat} {l : List Pc} {w : World} {q k wh d : Int} (hn : l.length = n) (hc : Pcl w A l) (hsz : ∀ x ∈ l, x.pd.length ≤ 9223372036854775807) (hbig : n ≤ 9223372036854775807) (hv : rgtL l = true) (hwh : 0 ≤ wh ∧ wh < 20000) (hd : ¬ (0 ≤ d ∧ d ≤ 200000)) :
    Calls Try.prog 17 #[.slice A n cap, .int .i64 q, .int .i64 k, .int .i64 wh, .int .i64 d] w fun e w' => e = .returned (.tuple #[.slice none 0 0, .int .i64 0, .int .i64 1]) ∧ Below w.heap.size w w' := by
  have HV := Lib.hid hv
  clear hv
  go_enter Try.func17, Try.ntmps17
  go_wp2_with (fail)
  go_must (refine (Right_any _ n cap l w hn hc hsz hbig).mono ?_)
  rintro e w1 ⟨rfl, hb1⟩
  rw [HV.out]
  go_wp2_with (fail)
  go_must (refine (isSeat_any wh _).mono ?_)
  rintro e w2 ⟨rfl, rfl⟩
  rw [decide_eq_true hwh]
  go_wp2_with (fail)
  go_must (refine (isDay_any d _).mono ?_)
  rintro e w2 ⟨rfl, rfl⟩
  rw [decide_eq_false hd]
  have HB := Lib.hid (hb1)
  clear hn hc hsz
  go_wp2
  exact bodyPost_ret (v := .tuple #[.slice none 0 0, .int .i64 0, .int .i64 1]) (by simp [results, Try.results17, go_sem]) rfl ⟨rfl, HB.out⟩
set_option maxRecDepth 100000 in
set_option maxHeartbeats 4000000 in
theorem present_none {A : Option Addr} {n cap : Nat} {l : List Pc} {w : World} {q k wh d : Int} (hn : l.length = n) (hc : Pcl w A l) (hsz : ∀ x ∈ l, x.pd.length ≤ 9223372036854775807) (hbig : n ≤ 9223372036854775807) (hv : rgtL l = true) (hwh : 0 ≤ wh ∧ wh < 20000) (hd : 0 ≤ d ∧ d ≤ 200000) (hq : ¬ (0 ≤ q ∧ q < n)) :
    Calls Try.prog 17 #[.slice A n cap, .int .i64 q, .int .i64 k, .int .i64 wh, .int .i64 d] w fun e w' => e = .returned (.tuple #[.slice none 0 0, .int .i64 0, .int .i64 4]) ∧ Below w.heap.size w w' := by
  have HV := Lib.hid hv
  clear hv
  go_enter Try.func17, Try.ntmps17
  go_wp2_with (fail)
  go_must (refine (Right_any _ n cap l w hn hc hsz hbig).mono ?_)
  rintro e w1 ⟨rfl, hb1⟩
  rw [HV.out]
  go_wp2_with (fail)
  go_must (refine (isSeat_any wh _).mono ?_)
  rintro e w2 ⟨rfl, rfl⟩
  rw [decide_eq_true hwh]
  go_wp2_with (fail)
  go_must (refine (isDay_any d _).mono ?_)
  rintro e w2 ⟨rfl, rfl⟩
  rw [decide_eq_true hd]
  go_wp2_with (fail)
  go_must (refine (find_any q _ n cap _ hbig).mono ?_)
  rintro e w3 ⟨rfl, rfl⟩
  rw [if_neg hq]
  have HB := Lib.hid (hb1)
  clear hn hc hsz
  go_wp2
  exact bodyPost_ret (v := .tuple #[.slice none 0 0, .int .i64 0, .int .i64 4]) (by simp [results, Try.results17, go_sem]) rfl ⟨rfl, HB.out⟩
set_option maxRecDepth 100000 in
set_option maxHeartbeats 4000000 in
theorem report_wrong {A : Option Addr} {n cap : Nat} {l : List Pc} {w : World} {q d : Int} (hn : l.length = n) (hc : Pcl w A l) (hsz : ∀ x ∈ l, x.pd.length ≤ 9223372036854775807) (hbig : n ≤ 9223372036854775807) (hv : rgtL l = false) :
    Calls Try.prog 16 #[.slice A n cap, .int .i64 q, .int .i64 d] w fun e w' => e = .returned (.tuple #[.slice none 0 0, .int .i64 1]) ∧ Below w.heap.size w w' := by
  have HV := Lib.hid hv
  clear hv
  go_enter Try.func16, Try.ntmps16
  go_wp2_with (fail)
  go_must (refine (Right_any _ n cap l w hn hc hsz hbig).mono ?_)
  rintro e w1 ⟨rfl, hb1⟩
  rw [HV.out]
  have HB := Lib.hid (hb1)
  clear hn hc hsz
  go_wp2
  exact bodyPost_ret (v := .tuple #[.slice none 0 0, .int .i64 1]) (by simp [results, Try.results16, go_sem]) rfl ⟨rfl, HB.out⟩
set_option maxRecDepth 100000 in
set_option maxHeartbeats 4000000 in
theorem report_isDay {A : Option Addr} {n cap : Nat} {l : List Pc} {w : World} {q d : Int} (hn : l.length = n) (hc : Pcl w A l) (hsz : ∀ x ∈ l, x.pd.length ≤ 9223372036854775807) (hbig : n ≤ 9223372036854775807) (hv : rgtL l = true) (hd : ¬ (0 ≤ d ∧ d ≤ 200000)) :
    Calls Try.prog 16 #[.slice A n cap, .int .i64 q, .int .i64 d] w fun e w' => e = .returned (.tuple #[.slice none 0 0, .int .i64 1]) ∧ Below w.heap.size w w' := by
  have HV := Lib.hid hv
  clear hv
  go_enter Try.func16, Try.ntmps16
  go_wp2_with (fail)
  go_must (refine (Right_any _ n cap l w hn hc hsz hbig).mono ?_)
  rintro e w1 ⟨rfl, hb1⟩
  rw [HV.out]
  go_wp2_with (fail)
  go_must (refine (isDay_any d _).mono ?_)
  rintro e w2 ⟨rfl, rfl⟩
  rw [decide_eq_false hd]
  have HB := Lib.hid (hb1)
  clear hn hc hsz
  go_wp2
  exact bodyPost_ret (v := .tuple #[.slice none 0 0, .int .i64 1]) (by simp [results, Try.results16, go_sem]) rfl ⟨rfl, HB.out⟩
set_option maxRecDepth 100000 in
set_option maxHeartbeats 4000000 in
theorem report_none {A : Option Addr} {n cap : Nat} {l : List Pc} {w : World} {q d : Int} (hn : l.length = n) (hc : Pcl w A l) (hsz : ∀ x ∈ l, x.pd.length ≤ 9223372036854775807) (hbig : n ≤ 9223372036854775807) (hv : rgtL l = true) (hd : 0 ≤ d ∧ d ≤ 200000) (hq : ¬ (0 ≤ q ∧ q < n)) :
    Calls Try.prog 16 #[.slice A n cap, .int .i64 q, .int .i64 d] w fun e w' => e = .returned (.tuple #[.slice none 0 0, .int .i64 4]) ∧ Below w.heap.size w w' := by
  have HV := Lib.hid hv
  clear hv
  go_enter Try.func16, Try.ntmps16
  go_wp2_with (fail)
  go_must (refine (Right_any _ n cap l w hn hc hsz hbig).mono ?_)
  rintro e w1 ⟨rfl, hb1⟩
  rw [HV.out]
  go_wp2_with (fail)
  go_must (refine (isDay_any d _).mono ?_)
  rintro e w2 ⟨rfl, rfl⟩
  rw [decide_eq_true hd]
  go_wp2_with (fail)
  go_must (refine (find_any q _ n cap _ hbig).mono ?_)
  rintro e w3 ⟨rfl, rfl⟩
  rw [if_neg hq]
  have HB := Lib.hid (hb1)
  clear hn hc hsz
  go_wp2
  exact bodyPost_ret (v := .tuple #[.slice none 0 0, .int .i64 4]) (by simp [results, Try.results16, go_sem]) rfl ⟨rfl, HB.out⟩
set_option maxRecDepth 100000 in
set_option maxHeartbeats 4000000 in
theorem secure_wrong {A : Option Addr} {n cap : Nat} {l : List Pc} {w : World} {q wh : Int} (hn : l.length = n) (hc : Pcl w A l) (hsz : ∀ x ∈ l, x.pd.length ≤ 9223372036854775807) (hbig : n ≤ 9223372036854775807) (hv : rgtL l = false) :
    Calls Try.prog 18 #[.slice A n cap, .int .i64 q, .int .i64 wh] w fun e w' => e = .returned (.tuple #[.slice none 0 0, .int .i64 1]) ∧ Below w.heap.size w w' := by
  have HV := Lib.hid hv
  clear hv
  go_enter Try.func18, Try.ntmps18
  go_wp2_with (fail)
  go_must (refine (Right_any _ n cap l w hn hc hsz hbig).mono ?_)
  rintro e w1 ⟨rfl, hb1⟩
  rw [HV.out]
  have HB := Lib.hid (hb1)
  clear hn hc hsz
  go_wp2
  exact bodyPost_ret (v := .tuple #[.slice none 0 0, .int .i64 1]) (by simp [results, Try.results18, go_sem]) rfl ⟨rfl, HB.out⟩
set_option maxRecDepth 100000 in
set_option maxHeartbeats 4000000 in
theorem secure_isSeat {A : Option Addr} {n cap : Nat} {l : List Pc} {w : World} {q wh : Int} (hn : l.length = n) (hc : Pcl w A l) (hsz : ∀ x ∈ l, x.pd.length ≤ 9223372036854775807) (hbig : n ≤ 9223372036854775807) (hv : rgtL l = true) (hwh : ¬ (0 ≤ wh ∧ wh < 20000)) :
    Calls Try.prog 18 #[.slice A n cap, .int .i64 q, .int .i64 wh] w fun e w' => e = .returned (.tuple #[.slice none 0 0, .int .i64 1]) ∧ Below w.heap.size w w' := by
  have HV := Lib.hid hv
  clear hv
  go_enter Try.func18, Try.ntmps18
  go_wp2_with (fail)
  go_must (refine (Right_any _ n cap l w hn hc hsz hbig).mono ?_)
  rintro e w1 ⟨rfl, hb1⟩
  rw [HV.out]
  go_wp2_with (fail)
  go_must (refine (isSeat_any wh _).mono ?_)
  rintro e w2 ⟨rfl, rfl⟩
  rw [decide_eq_false hwh]
  have HB := Lib.hid (hb1)
  clear hn hc hsz
  go_wp2
  exact bodyPost_ret (v := .tuple #[.slice none 0 0, .int .i64 1]) (by simp [results, Try.results18, go_sem]) rfl ⟨rfl, HB.out⟩
set_option maxRecDepth 100000 in
set_option maxHeartbeats 4000000 in
theorem secure_none {A : Option Addr} {n cap : Nat} {l : List Pc} {w : World} {q wh : Int} (hn : l.length = n) (hc : Pcl w A l) (hsz : ∀ x ∈ l, x.pd.length ≤ 9223372036854775807) (hbig : n ≤ 9223372036854775807) (hv : rgtL l = true) (hwh : 0 ≤ wh ∧ wh < 20000) (hq : ¬ (0 ≤ q ∧ q < n)) :
    Calls Try.prog 18 #[.slice A n cap, .int .i64 q, .int .i64 wh] w fun e w' => e = .returned (.tuple #[.slice none 0 0, .int .i64 4]) ∧ Below w.heap.size w w' := by
  have HV := Lib.hid hv
  clear hv
  go_enter Try.func18, Try.ntmps18
  go_wp2_with (fail)
  go_must (refine (Right_any _ n cap l w hn hc hsz hbig).mono ?_)
  rintro e w1 ⟨rfl, hb1⟩
  rw [HV.out]
  go_wp2_with (fail)
  go_must (refine (isSeat_any wh _).mono ?_)
  rintro e w2 ⟨rfl, rfl⟩
  rw [decide_eq_true hwh]
  go_wp2_with (fail)
  go_must (refine (find_any q _ n cap _ hbig).mono ?_)
  rintro e w3 ⟨rfl, rfl⟩
  rw [if_neg hq]
  have HB := Lib.hid (hb1)
  clear hn hc hsz
  go_wp2
  exact bodyPost_ret (v := .tuple #[.slice none 0 0, .int .i64 4]) (by simp [results, Try.results18, go_sem]) rfl ⟨rfl, HB.out⟩
set_option maxRecDepth 100000 in
set_option maxHeartbeats 4000000 in
theorem find_wrong {A : Option Addr} {n cap : Nat} {l : List Pc} {w : World} {q : Int} (hn : l.length = n) (hc : Pcl w A l) (hsz : ∀ x ∈ l, x.pd.length ≤ 9223372036854775807) (hbig : n ≤ 9223372036854775807) (hv : rgtL l = false) :
    Calls Try.prog 19 #[.slice A n cap, .int .i64 q] w fun e w' => e = .returned (.tuple #[.slice none 0 0, .int .i64 1]) ∧ Below w.heap.size w w' := by
  have HV := Lib.hid hv
  clear hv
  go_enter Try.func19, Try.ntmps19
  go_wp2_with (fail)
  go_must (refine (Right_any _ n cap l w hn hc hsz hbig).mono ?_)
  rintro e w1 ⟨rfl, hb1⟩
  rw [HV.out]
  have HB := Lib.hid (hb1)
  clear hn hc hsz
  go_wp2
  exact bodyPost_ret (v := .tuple #[.slice none 0 0, .int .i64 1]) (by simp [results, Try.results19, go_sem]) rfl ⟨rfl, HB.out⟩
set_option maxRecDepth 100000 in
set_option maxHeartbeats 4000000 in
theorem find_none {A : Option Addr} {n cap : Nat} {l : List Pc} {w : World} {q : Int} (hn : l.length = n) (hc : Pcl w A l) (hsz : ∀ x ∈ l, x.pd.length ≤ 9223372036854775807) (hbig : n ≤ 9223372036854775807) (hv : rgtL l = true) (hq : ¬ (0 ≤ q ∧ q < n)) :
    Calls Try.prog 19 #[.slice A n cap, .int .i64 q] w fun e w' => e = .returned (.tuple #[.slice none 0 0, .int .i64 4]) ∧ Below w.heap.size w w' := by
  have HV := Lib.hid hv
  clear hv
  go_enter Try.func19, Try.ntmps19
  go_wp2_with (fail)
  go_must (refine (Right_any _ n cap l w hn hc hsz hbig).mono ?_)
  rintro e w1 ⟨rfl, hb1⟩
  rw [HV.out]
  go_wp2_with (fail)
  go_must (refine (find_any q _ n cap _ hbig).mono ?_)
  rintro e w3 ⟨rfl, rfl⟩
  rw [if_neg hq]
  have HB := Lib.hid (hb1)
  clear hn hc hsz
  go_wp2
  exact bodyPost_ret (v := .tuple #[.slice none 0 0, .int .i64 4]) (by simp [results, Try.results19, go_sem]) rfl ⟨rfl, HB.out⟩
set_option maxRecDepth 100000 in
set_option maxHeartbeats 4000000 in
theorem report_twice {A : Option Addr} {n cap : Nat} {l : List Pc} {w : World} {p : Nat} {x : Pc} {d : Int} (hn : l.length = n) (hc : Pcl w A l) (hv : rgtL l = true) (hx : l[p]? = some x) (hd : 0 ≤ d ∧ d ≤ 200000) (h0 : x.lo ≠ -1) :
    Calls Try.prog 16 #[.slice A n cap, .int .i64 p, .int .i64 d] w fun e w' => e = .returned (.tuple #[.slice none 0 0, .int .i64 5]) ∧ Below w.heap.size w w' := by
  have hl := (rgtL_in hv).1
  have hp := lt_of_at hx
  have hbig : n ≤ 9223372036854775807 := by omega
  have hsz : ∀ y ∈ l, y.pd.length ≤ 9223372036854775807 := fun y hy => by have := rgt_size hv y hy; omega
  have p0 : (0 : Int) ≤ (p : Int) := by omega
  have p1 : (p : Int) < (n : Int) := by omega
  have HIF : Hid ((if (0 : Int) ≤ (p : Int) ∧ (p : Int) < (n : Int) then (0 : Int) else 4) = 0) := Lib.hid (if_pos ⟨p0, p1⟩)
  obtain ⟨b, off, rfl, _⟩ := hc (by omega)
  have HV := Lib.hid hv
  clear hv
  go_enter Try.func16, Try.ntmps16
  go_wp2_with (fail)
  go_must (refine (Right_any _ n cap l w hn hc hsz hbig).mono ?_)
  rintro e w1 ⟨rfl, hb1⟩
  rw [HV.out]
  go_wp2_with (fail)
  go_must (refine (isDay_any d _).mono ?_)
  rintro e w2 ⟨rfl, rfl⟩
  rw [decide_eq_true hd]
  have hc1 := hc.keep hb1
  obtain ⟨d0, d1, ⟨A2, q2, d2, hbo⟩, d3, d4⟩ := pcl_cells hc1 hx
  obtain ⟨⟨xi, xu, xp, xl, xs⟩, rfl⟩ : ∃ y : Pc, y = x := ⟨_, rfl⟩
  dsimp only at d0 d1 d2 d3 d4 hbo h0
  go_wp2_with (fail)
  go_must (refine (find_any p _ n cap _ hbig).mono ?_)
  rintro e w3 ⟨rfl, rfl⟩
  rw [HIF.out]
  have n0 : (xl != -1) = true := by simpa using h0
  have HB := Lib.hid (hb1)
  clear hn hc hsz hc1 hx hbo
  go_wp2
  exact bodyPost_ret (v := .tuple #[.slice none 0 0, .int .i64 5]) (by simp [results, Try.results16, go_sem]) rfl ⟨rfl, HB.out⟩
set_option maxRecDepth 100000 in
set_option maxHeartbeats 4000000 in
theorem secure_state {A : Option Addr} {n cap : Nat} {l : List Pc} {w : World} {p : Nat} {x : Pc} {wh : Int} (hn : l.length = n) (hc : Pcl w A l) (hv : rgtL l = true) (hx : l[p]? = some x) (hwh : 0 ≤ wh ∧ wh < 20000) (h0 : x.lo = -1) :
    Calls Try.prog 18 #[.slice A n cap, .int .i64 p, .int .i64 wh] w fun e w' => e = .returned (.tuple #[.slice none 0 0, .int .i64 7]) ∧ Below w.heap.size w w' := by
  have hl := (rgtL_in hv).1
  have hp := lt_of_at hx
  have hbig : n ≤ 9223372036854775807 := by omega
  have hsz : ∀ y ∈ l, y.pd.length ≤ 9223372036854775807 := fun y hy => by have := rgt_size hv y hy; omega
  have p0 : (0 : Int) ≤ (p : Int) := by omega
  have p1 : (p : Int) < (n : Int) := by omega
  have HIF : Hid ((if (0 : Int) ≤ (p : Int) ∧ (p : Int) < (n : Int) then (0 : Int) else 4) = 0) := Lib.hid (if_pos ⟨p0, p1⟩)
  obtain ⟨b, off, rfl, _⟩ := hc (by omega)
  have HV := Lib.hid hv
  clear hv
  go_enter Try.func18, Try.ntmps18
  go_wp2_with (fail)
  go_must (refine (Right_any _ n cap l w hn hc hsz hbig).mono ?_)
  rintro e w1 ⟨rfl, hb1⟩
  rw [HV.out]
  go_wp2_with (fail)
  go_must (refine (isSeat_any wh _).mono ?_)
  rintro e w2 ⟨rfl, rfl⟩
  rw [decide_eq_true hwh]
  have hc1 := hc.keep hb1
  obtain ⟨d0, d1, ⟨A2, q2, d2, hbo⟩, d3, d4⟩ := pcl_cells hc1 hx
  obtain ⟨⟨xi, xu, xp, xl, xs⟩, rfl⟩ : ∃ y : Pc, y = x := ⟨_, rfl⟩
  dsimp only at d0 d1 d2 d3 d4 hbo h0
  go_wp2_with (fail)
  go_must (refine (find_any p _ n cap _ hbig).mono ?_)
  rintro e w3 ⟨rfl, rfl⟩
  rw [HIF.out]
  subst h0
  have HB := Lib.hid (hb1)
  clear hn hc hsz hc1 hx hbo
  go_wp2
  exact bodyPost_ret (v := .tuple #[.slice none 0 0, .int .i64 7]) (by simp [results, Try.results18, go_sem]) rfl ⟨rfl, HB.out⟩
set_option maxRecDepth 100000 in
set_option maxHeartbeats 4000000 in
theorem secure_twice {A : Option Addr} {n cap : Nat} {l : List Pc} {w : World} {p : Nat} {x : Pc} {wh : Int} (hn : l.length = n) (hc : Pcl w A l) (hv : rgtL l = true) (hx : l[p]? = some x) (hwh : 0 ≤ wh ∧ wh < 20000) (h0 : x.lo ≠ -1) (h1 : x.se ≠ -1) :
    Calls Try.prog 18 #[.slice A n cap, .int .i64 p, .int .i64 wh] w fun e w' => e = .returned (.tuple #[.slice none 0 0, .int .i64 5]) ∧ Below w.heap.size w w' := by
  have hl := (rgtL_in hv).1
  have hp := lt_of_at hx
  have hbig : n ≤ 9223372036854775807 := by omega
  have hsz : ∀ y ∈ l, y.pd.length ≤ 9223372036854775807 := fun y hy => by have := rgt_size hv y hy; omega
  have p0 : (0 : Int) ≤ (p : Int) := by omega
  have p1 : (p : Int) < (n : Int) := by omega
  have HIF : Hid ((if (0 : Int) ≤ (p : Int) ∧ (p : Int) < (n : Int) then (0 : Int) else 4) = 0) := Lib.hid (if_pos ⟨p0, p1⟩)
  obtain ⟨b, off, rfl, _⟩ := hc (by omega)
  have HV := Lib.hid hv
  clear hv
  go_enter Try.func18, Try.ntmps18
  go_wp2_with (fail)
  go_must (refine (Right_any _ n cap l w hn hc hsz hbig).mono ?_)
  rintro e w1 ⟨rfl, hb1⟩
  rw [HV.out]
  go_wp2_with (fail)
  go_must (refine (isSeat_any wh _).mono ?_)
  rintro e w2 ⟨rfl, rfl⟩
  rw [decide_eq_true hwh]
  have hc1 := hc.keep hb1
  obtain ⟨d0, d1, ⟨A2, q2, d2, hbo⟩, d3, d4⟩ := pcl_cells hc1 hx
  obtain ⟨⟨xi, xu, xp, xl, xs⟩, rfl⟩ : ∃ y : Pc, y = x := ⟨_, rfl⟩
  dsimp only at d0 d1 d2 d3 d4 hbo h0 h1
  go_wp2_with (fail)
  go_must (refine (find_any p _ n cap _ hbig).mono ?_)
  rintro e w3 ⟨rfl, rfl⟩
  rw [HIF.out]
  have n0 : (xl == -1) = false := by simpa using h0
  have n1 : (xs != -1) = true := by simpa using h1
  have HB := Lib.hid (hb1)
  clear hn hc hsz hc1 hx hbo
  go_wp2
  exact bodyPost_ret (v := .tuple #[.slice none 0 0, .int .i64 5]) (by simp [results, Try.results18, go_sem]) rfl ⟨rfl, HB.out⟩
set_option maxRecDepth 100000 in
set_option maxHeartbeats 4000000 in
theorem find_state {A : Option Addr} {n cap : Nat} {l : List Pc} {w : World} {p : Nat} {x : Pc}  (hn : l.length = n) (hc : Pcl w A l) (hv : rgtL l = true) (hx : l[p]? = some x) (h0 : x.lo = -1) :
    Calls Try.prog 19 #[.slice A n cap, .int .i64 p] w fun e w' => e = .returned (.tuple #[.slice none 0 0, .int .i64 7]) ∧ Below w.heap.size w w' := by
  have hl := (rgtL_in hv).1
  have hp := lt_of_at hx
  have hbig : n ≤ 9223372036854775807 := by omega
  have hsz : ∀ y ∈ l, y.pd.length ≤ 9223372036854775807 := fun y hy => by have := rgt_size hv y hy; omega
  have p0 : (0 : Int) ≤ (p : Int) := by omega
  have p1 : (p : Int) < (n : Int) := by omega
  have HIF : Hid ((if (0 : Int) ≤ (p : Int) ∧ (p : Int) < (n : Int) then (0 : Int) else 4) = 0) := Lib.hid (if_pos ⟨p0, p1⟩)
  obtain ⟨b, off, rfl, _⟩ := hc (by omega)
  have HV := Lib.hid hv
  clear hv
  go_enter Try.func19, Try.ntmps19
  go_wp2_with (fail)
  go_must (refine (Right_any _ n cap l w hn hc hsz hbig).mono ?_)
  rintro e w1 ⟨rfl, hb1⟩
  rw [HV.out]
  have hc1 := hc.keep hb1
  obtain ⟨d0, d1, ⟨A2, q2, d2, hbo⟩, d3, d4⟩ := pcl_cells hc1 hx
  obtain ⟨⟨xi, xu, xp, xl, xs⟩, rfl⟩ : ∃ y : Pc, y = x := ⟨_, rfl⟩
  dsimp only at d0 d1 d2 d3 d4 hbo h0
  go_wp2_with (fail)
  go_must (refine (find_any p _ n cap _ hbig).mono ?_)
  rintro e w3 ⟨rfl, rfl⟩
  rw [HIF.out]
  subst h0
  have HB := Lib.hid (hb1)
  clear hn hc hsz hc1 hx hbo
  go_wp2
  exact bodyPost_ret (v := .tuple #[.slice none 0 0, .int .i64 7]) (by simp [results, Try.results19, go_sem]) rfl ⟨rfl, HB.out⟩
set_option maxRecDepth 100000 in
set_option maxHeartbeats 4000000 in
theorem present_coupon {A : Option Addr} {n cap : Nat} {l : List Pc} {w : World} {p : Nat} {x : Pc} {k wh d : Int} (hn : l.length = n) (hc : Pcl w A l) (hv : rgtL l = true) (hx : l[p]? = some x) (hwh : 0 ≤ wh ∧ wh < 20000) (hd : 0 ≤ d ∧ d ≤ 200000) (hk : ¬ (0 ≤ k ∧ k < (x.pd.length : Nat))) :
    Calls Try.prog 17 #[.slice A n cap, .int .i64 p, .int .i64 k, .int .i64 wh, .int .i64 d] w fun e w' => e = .returned (.tuple #[.slice none 0 0, .int .i64 0, .int .i64 4]) ∧ Below w.heap.size w w' := by
  have hl := (rgtL_in hv).1
  have hp := lt_of_at hx
  have hbig : n ≤ 9223372036854775807 := by omega
  have hsz : ∀ y ∈ l, y.pd.length ≤ 9223372036854775807 := fun y hy => by have := rgt_size hv y hy; omega
  have p0 : (0 : Int) ≤ (p : Int) := by omega
  have p1 : (p : Int) < (n : Int) := by omega
  have HIF : Hid ((if (0 : Int) ≤ (p : Int) ∧ (p : Int) < (n : Int) then (0 : Int) else 4) = 0) := Lib.hid (if_pos ⟨p0, p1⟩)
  obtain ⟨b, off, rfl, _⟩ := hc (by omega)
  have HV := Lib.hid hv
  clear hv
  go_enter Try.func17, Try.ntmps17
  go_wp2_with (fail)
  go_must (refine (Right_any _ n cap l w hn hc hsz hbig).mono ?_)
  rintro e w1 ⟨rfl, hb1⟩
  rw [HV.out]
  go_wp2_with (fail)
  go_must (refine (isSeat_any wh _).mono ?_)
  rintro e w2 ⟨rfl, rfl⟩
  rw [decide_eq_true hwh]
  go_wp2_with (fail)
  go_must (refine (isDay_any d _).mono ?_)
  rintro e w2 ⟨rfl, rfl⟩
  rw [decide_eq_true hd]
  have hc1 := hc.keep hb1
  obtain ⟨d0, d1, ⟨A2, q2, d2, hbo⟩, d3, d4⟩ := pcl_cells hc1 hx
  obtain ⟨⟨xi, xu, xp, xl, xs⟩, rfl⟩ : ∃ y : Pc, y = x := ⟨_, rfl⟩
  dsimp only at d0 d1 d2 d3 d4 hbo hk
  go_wp2_with (fail)
  go_must (refine (find_any p _ n cap _ hbig).mono ?_)
  rintro e w3 ⟨rfl, rfl⟩
  rw [HIF.out]
  by_cases k0 : k < 0
  case pos =>
    have HB := Lib.hid (Gen.b_alloc (x := .cells #[.int .i64 xi, .int .i64 xu, .slice A2 xp.length q2, .int .i64 xl, .int .i64 xs] 36) hb1)
    clear hn hc hsz hc1 hx hbo hk
    go_wp2
    exact bodyPost_ret (v := .tuple #[.slice none 0 0, .int .i64 0, .int .i64 4]) (by simp [results, Try.results17, go_sem]) rfl ⟨rfl, HB.out⟩
  obtain ⟨m, rfl⟩ : ∃ m : Nat, k = m := ⟨k.toNat, by omega⟩
  have k1 : xp.length ≤ m := by omega
  clear hk
  have HB := Lib.hid ((Gen.b_alloc (x := .cells #[.int .i64 xi, .int .i64 xu, .slice A2 xp.length q2, .int .i64 xl, .int .i64 xs] 36) hb1))
  clear hn hc hsz hc1 hx hbo
  go_wp2
  exact bodyPost_ret (v := .tuple #[.slice none 0 0, .int .i64 0, .int .i64 4]) (by simp [results, Try.results17, go_sem]) rfl ⟨rfl, HB.out⟩
end Go.Proofs.Ythphlaijkknefaa.Bea
