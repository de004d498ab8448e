/- Bearer pieces: Present. -/
import Derived.Test.YthphlaijkknefaaBeaG
import Derived.BigQuiet
namespace Go.Proofs.Ythphlaijkknefaa.Bea
open Go.ChangeShapes Go.WideShapes Go.ChangeAt Go.RowKit Go.Proofs.Ythphlaijkknefaa.Cell
set_option linter.unusedVariables false
set_option linter.unusedSimpArgs false

theorem rgt_lo {l : List Pc} (h : rgtL l = true) {x : Pc} (hx : x ∈ l) (h0 : x.lo ≠ -1) : 0 ≤ x.lo ∧ x.lo ≤ 200000 := by
  have := of_decide_eq_true ((rgtL_in h).2 x hx)
  rcases this.2.2.2 with ⟨a, _⟩ | ⟨a, _⟩
  · exact absurd a h0
  · exact a
set_option maxRecDepth 100000 in
set_option maxHeartbeats 8000000 in
theorem present_paid {A : Option Addr} {n cap : Nat} {l : List Pc} {w : World} {p k : Nat} {x : Pc} {wh d : Int} (hn : l.length = n) (hc : Pcl w A l) (hv : rgtL l = true) (hx : l[p]? = some x) (hwh : 0 ≤ wh ∧ wh < 20000) (hd : 0 ≤ d ∧ d ≤ 200000) (hk : x.pd[k]? = some true)  :
    Calls Try.prog 17 #[.slice A n cap, .int .i64 p, .int .i64 k, .int .i64 wh, .int .i64 d] w fun e w' => e = .returned (.tuple #[.slice none 0 0, .int .i64 0, .int .i64 5]) ∧ Below w.heap.size w w' := by
  have hl := (rgtL_in hv).1
  have hp := lt_of_at hx
  have hkl := lt_of_at hk
  have HS := Lib.hid (rgt_size hv)
  have HV := Lib.hid hv
  have HX := Lib.hid hx
  have hlo := rgt_lo hv (mem_of_at hx)
  have p0 : (0 : Int) ≤ (p : Int) := by omega
  have p1 : (p : Int) < (n : Int) := by omega
  have k0 : (0 : Int) ≤ (k : Int) := by omega
  have hsx := HS.out x (mem_of_at hx)
  have HIF : Hid ((if (0 : Int) ≤ (p : Int) ∧ (p : Int) < (n : Int) then (0 : Int) else 4) = 0) := Lib.hid (if_pos ⟨p0, p1⟩)
  have HSZ : Hid (∀ y ∈ l, y.pd.length ≤ 9223372036854775807) := Lib.hid fun y hy => by have := HS.out y hy; omega
  obtain ⟨b, off, rfl, _⟩ := hc (by omega)
  go_enter Try.func17, Try.ntmps17
  go_wp2_with (fail)
  go_must (refine (Right_any _ n cap l w hn hc HSZ.out (by omega)).mono ?_)
  rintro e w1 ⟨rfl, hb1⟩
  rw [HV.out]
  go_wp2_with (fail)
  go_must (refine (isSeat_any wh _).mono ?_)
  rintro e w2 ⟨rfl, rfl⟩
  rw [decide_eq_true hwh]
  go_wp2_with (fail)
  go_must (refine (isDay_any d _).mono ?_)
  rintro e w2 ⟨rfl, rfl⟩
  rw [decide_eq_true hd]
  have hc1 := hc.keep hb1
  obtain ⟨⟨xi, xu, xp, xl, xs⟩, rfl⟩ : ∃ y : Pc, y = x := ⟨_, rfl⟩
  obtain ⟨d0, d1, ⟨A6, c6, d2, hbo⟩, d3, d4⟩ := pcl_cells hc1 hx
  dsimp only at hk hkl hlo hsx d0 d1 d2 d3 d4 hbo 
  obtain ⟨b6, o6, rfl, hb6⟩ := hbo (by omega)
  have k1 : (k : Int) < (xp.length : Int) := by omega
  have e6 : (w1.alloc (.cells #[.int .i64 xi, .int .i64 xu, .slice (some ⟨b6, o6, none⟩) xp.length c6, .int .i64 xl, .int .i64 xs] 36)).cell? ⟨b6, o6 + k, none⟩ = some (.bool true) := Gen.keep (Gen.b_alloc (Below.refl _ _)) (hb6 k _ hk)
  clear hb6
  go_wp2_with (fail)
  go_must (refine (find_any p _ n cap _ (by omega)).mono ?_)
  rintro e w3 ⟨rfl, rfl⟩
  rw [HIF.out]
  have HB := Lib.hid (Gen.b_alloc (x := .cells #[.int .i64 xi, .int .i64 xu, .slice (some ⟨b6, o6, none⟩) xp.length c6, .int .i64 xl, .int .i64 xs] 36) hb1)
  go_wp2
  exact bodyPost_ret (v := .tuple #[.slice none 0 0, .int .i64 0, .int .i64 5]) (by simp [results, Try.results17, go_sem]) rfl ⟨rfl, HB.out⟩
set_option maxRecDepth 100000 in
set_option maxHeartbeats 8000000 in
theorem present_key {A : Option Addr} {n cap : Nat} {l : List Pc} {w : World} {p k : Nat} {x : Pc} {wh d : Int} (hn : l.length = n) (hc : Pcl w A l) (hv : rgtL l = true) (hx : l[p]? = some x) (hwh : 0 ≤ wh ∧ wh < 20000) (hd : 0 ≤ d ∧ d ≤ 200000) (hk : x.pd[k]? = some false) (h0 : x.lo ≠ -1) (h1 : x.se ≠ wh) :
    Calls Try.prog 17 #[.slice A n cap, .int .i64 p, .int .i64 k, .int .i64 wh, .int .i64 d] w fun e w' => e = .returned (.tuple #[.slice none 0 0, .int .i64 0, .int .i64 18]) ∧ Below w.heap.size w w' := by
  have hl := (rgtL_in hv).1
  have hp := lt_of_at hx
  have hkl := lt_of_at hk
  have HS := Lib.hid (rgt_size hv)
  have HV := Lib.hid hv
  have HX := Lib.hid hx
  have hlo := rgt_lo hv (mem_of_at hx)
  have p0 : (0 : Int) ≤ (p : Int) := by omega
  have p1 : (p : Int) < (n : Int) := by omega
  have k0 : (0 : Int) ≤ (k : Int) := by omega
  have hsx := HS.out x (mem_of_at hx)
  have HIF : Hid ((if (0 : Int) ≤ (p : Int) ∧ (p : Int) < (n : Int) then (0 : Int) else 4) = 0) := Lib.hid (if_pos ⟨p0, p1⟩)
  have HSZ : Hid (∀ y ∈ l, y.pd.length ≤ 9223372036854775807) := Lib.hid fun y hy => by have := HS.out y hy; omega
  obtain ⟨b, off, rfl, _⟩ := hc (by omega)
  go_enter Try.func17, Try.ntmps17
  go_wp2_with (fail)
  go_must (refine (Right_any _ n cap l w hn hc HSZ.out (by omega)).mono ?_)
  rintro e w1 ⟨rfl, hb1⟩
  rw [HV.out]
  go_wp2_with (fail)
  go_must (refine (isSeat_any wh _).mono ?_)
  rintro e w2 ⟨rfl, rfl⟩
  rw [decide_eq_true hwh]
  go_wp2_with (fail)
  go_must (refine (isDay_any d _).mono ?_)
  rintro e w2 ⟨rfl, rfl⟩
  rw [decide_eq_true hd]
  have hc1 := hc.keep hb1
  obtain ⟨⟨xi, xu, xp, xl, xs⟩, rfl⟩ : ∃ y : Pc, y = x := ⟨_, rfl⟩
  obtain ⟨d0, d1, ⟨A6, c6, d2, hbo⟩, d3, d4⟩ := pcl_cells hc1 hx
  dsimp only at hk hkl hlo hsx d0 d1 d2 d3 d4 hbo h0 h1
  obtain ⟨b6, o6, rfl, hb6⟩ := hbo (by omega)
  have k1 : (k : Int) < (xp.length : Int) := by omega
  have e6 : (w1.alloc (.cells #[.int .i64 xi, .int .i64 xu, .slice (some ⟨b6, o6, none⟩) xp.length c6, .int .i64 xl, .int .i64 xs] 36)).cell? ⟨b6, o6 + k, none⟩ = some (.bool false) := Gen.keep (Gen.b_alloc (Below.refl _ _)) (hb6 k _ hk)
  clear hb6
  go_wp2_with (fail)
  go_must (refine (find_any p _ n cap _ (by omega)).mono ?_)
  rintro e w3 ⟨rfl, rfl⟩
  rw [HIF.out]
  have n0 : (xl != -1) = true := by simpa using h0
  have n1 : (xs != wh) = true := by simpa using h1
  have HB := Lib.hid (Gen.b_alloc (x := .cells #[.int .i64 xi, .int .i64 xu, .slice (some ⟨b6, o6, none⟩) xp.length c6, .int .i64 xl, .int .i64 xs] 36) hb1)
  go_wp2
  exact bodyPost_ret (v := .tuple #[.slice none 0 0, .int .i64 0, .int .i64 18]) (by simp [results, Try.results17, go_sem]) rfl ⟨rfl, HB.out⟩
set_option maxRecDepth 100000 in
set_option maxHeartbeats 8000000 in
theorem present_early {A : Option Addr} {n cap : Nat} {l : List Pc} {w : World} {p k : Nat} {x : Pc} {wh d : Int} (hn : l.length = n) (hc : Pcl w A l) (hv : rgtL l = true) (hx : l[p]? = some x) (hwh : 0 ≤ wh ∧ wh < 20000) (hd : 0 ≤ d ∧ d ≤ 200000) (hk : x.pd[k]? = some false) (h0 : x.lo ≠ -1) (h1 : x.se = wh) (h2 : d < x.lo + 365) :
    Calls Try.prog 17 #[.slice A n cap, .int .i64 p, .int .i64 k, .int .i64 wh, .int .i64 d] w fun e w' => e = .returned (.tuple #[.slice none 0 0, .int .i64 0, .int .i64 20]) ∧ Below w.heap.size w w' := by
  have hl := (rgtL_in hv).1
  have hp := lt_of_at hx
  have hkl := lt_of_at hk
  have HS := Lib.hid (rgt_size hv)
  have HV := Lib.hid hv
  have HX := Lib.hid hx
  have hlo := rgt_lo hv (mem_of_at hx)
  have p0 : (0 : Int) ≤ (p : Int) := by omega
  have p1 : (p : Int) < (n : Int) := by omega
  have k0 : (0 : Int) ≤ (k : Int) := by omega
  have hsx := HS.out x (mem_of_at hx)
  have HIF : Hid ((if (0 : Int) ≤ (p : Int) ∧ (p : Int) < (n : Int) then (0 : Int) else 4) = 0) := Lib.hid (if_pos ⟨p0, p1⟩)
  have HSZ : Hid (∀ y ∈ l, y.pd.length ≤ 9223372036854775807) := Lib.hid fun y hy => by have := HS.out y hy; omega
  obtain ⟨b, off, rfl, _⟩ := hc (by omega)
  go_enter Try.func17, Try.ntmps17
  go_wp2_with (fail)
  go_must (refine (Right_any _ n cap l w hn hc HSZ.out (by omega)).mono ?_)
  rintro e w1 ⟨rfl, hb1⟩
  rw [HV.out]
  go_wp2_with (fail)
  go_must (refine (isSeat_any wh _).mono ?_)
  rintro e w2 ⟨rfl, rfl⟩
  rw [decide_eq_true hwh]
  go_wp2_with (fail)
  go_must (refine (isDay_any d _).mono ?_)
  rintro e w2 ⟨rfl, rfl⟩
  rw [decide_eq_true hd]
  have hc1 := hc.keep hb1
  obtain ⟨⟨xi, xu, xp, xl, xs⟩, rfl⟩ : ∃ y : Pc, y = x := ⟨_, rfl⟩
  obtain ⟨d0, d1, ⟨A6, c6, d2, hbo⟩, d3, d4⟩ := pcl_cells hc1 hx
  dsimp only at hk hkl hlo hsx d0 d1 d2 d3 d4 hbo h0 h1 h2
  obtain ⟨b6, o6, rfl, hb6⟩ := hbo (by omega)
  have k1 : (k : Int) < (xp.length : Int) := by omega
  have e6 : (w1.alloc (.cells #[.int .i64 xi, .int .i64 xu, .slice (some ⟨b6, o6, none⟩) xp.length c6, .int .i64 xl, .int .i64 xs] 36)).cell? ⟨b6, o6 + k, none⟩ = some (.bool false) := Gen.keep (Gen.b_alloc (Below.refl _ _)) (hb6 k _ hk)
  clear hb6
  go_wp2_with (fail)
  go_must (refine (find_any p _ n cap _ (by omega)).mono ?_)
  rintro e w3 ⟨rfl, rfl⟩
  rw [HIF.out]
  obtain rfl : xs = wh := h1
  have hlo2 := hlo h0
  have n0 : (xl != -1) = true := by simpa using h0
  have n1 : (xs != xs) = false := by simp
  have hw : IntKind.i64.wrap (xl + 365) = xl + 365 := IntWalk.i64_in _ (by omega)
  have HB := Lib.hid (Gen.b_alloc (x := .cells #[.int .i64 xi, .int .i64 xu, .slice (some ⟨b6, o6, none⟩) xp.length c6, .int .i64 xl, .int .i64 xs] 36) hb1)
  go_wp2
  exact bodyPost_ret (v := .tuple #[.slice none 0 0, .int .i64 0, .int .i64 20]) (by simp [results, Try.results17, go_sem]) rfl ⟨rfl, HB.out⟩
set_option maxRecDepth 100000 in
set_option maxHeartbeats 8000000 in
theorem present_fresh {A : Option Addr} {n cap : Nat} {l : List Pc} {w : World} {p k : Nat} {x : Pc} {wh d : Int} (hn : l.length = n) (hc : Pcl w A l) (hv : rgtL l = true) (hx : l[p]? = some x) (hwh : 0 ≤ wh ∧ wh < 20000) (hd : 0 ≤ d ∧ d ≤ 200000) (hk : x.pd[k]? = some false) (h0 : x.lo = -1) :
    Calls Try.prog 17 #[.slice A n cap, .int .i64 p, .int .i64 k, .int .i64 wh, .int .i64 d] w fun e w' => ∃ v, e = .returned (.tuple #[v, .int .i64 x.un, .int .i64 0]) ∧ Out w w' n v (l.set p { x with pd := x.pd.set k true }) := by
  have hl := (rgtL_in hv).1
  have hp := lt_of_at hx
  have hkl := lt_of_at hk
  have HS := Lib.hid (rgt_size hv)
  have HV := Lib.hid hv
  have HX := Lib.hid hx
  have hlo := rgt_lo hv (mem_of_at hx)
  have p0 : (0 : Int) ≤ (p : Int) := by omega
  have p1 : (p : Int) < (n : Int) := by omega
  have k0 : (0 : Int) ≤ (k : Int) := by omega
  have hsx := HS.out x (mem_of_at hx)
  have HIF : Hid ((if (0 : Int) ≤ (p : Int) ∧ (p : Int) < (n : Int) then (0 : Int) else 4) = 0) := Lib.hid (if_pos ⟨p0, p1⟩)
  have HSZ : Hid (∀ y ∈ l, y.pd.length ≤ 9223372036854775807) := Lib.hid fun y hy => by have := HS.out y hy; omega
  obtain ⟨b, off, rfl, _⟩ := hc (by omega)
  go_enter Try.func17, Try.ntmps17
  go_wp2_with (fail)
  go_must (refine (Right_any _ n cap l w hn hc HSZ.out (by omega)).mono ?_)
  rintro e w1 ⟨rfl, hb1⟩
  rw [HV.out]
  go_wp2_with (fail)
  go_must (refine (isSeat_any wh _).mono ?_)
  rintro e w2 ⟨rfl, rfl⟩
  rw [decide_eq_true hwh]
  go_wp2_with (fail)
  go_must (refine (isDay_any d _).mono ?_)
  rintro e w2 ⟨rfl, rfl⟩
  rw [decide_eq_true hd]
  have hc1 := hc.keep hb1
  obtain ⟨⟨xi, xu, xp, xl, xs⟩, rfl⟩ : ∃ y : Pc, y = x := ⟨_, rfl⟩
  obtain ⟨d0, d1, ⟨A6, c6, d2, hbo⟩, d3, d4⟩ := pcl_cells hc1 hx
  dsimp only at hk hkl hlo hsx d0 d1 d2 d3 d4 hbo h0
  obtain ⟨b6, o6, rfl, hb6⟩ := hbo (by omega)
  have k1 : (k : Int) < (xp.length : Int) := by omega
  have e6 : (w1.alloc (.cells #[.int .i64 xi, .int .i64 xu, .slice (some ⟨b6, o6, none⟩) xp.length c6, .int .i64 xl, .int .i64 xs] 36)).cell? ⟨b6, o6 + k, none⟩ = some (.bool false) := Gen.keep (Gen.b_alloc (Below.refl _ _)) (hb6 k _ hk)
  clear hb6
  go_wp2_with (fail)
  go_must (refine (find_any p _ n cap _ (by omega)).mono ?_)
  rintro e w3 ⟨rfl, rfl⟩
  rw [HIF.out]
  subst h0
  have hbA : Below w1.heap.size w1 (w1.alloc (.cells #[.int .i64 xi, .int .i64 xu, .slice (some ⟨b6, o6, none⟩) xp.length c6, .int .i64 (-1), .int .i64 xs] 36)) := Gen.b_alloc (Below.refl _ _)
  have hrz : Row (w1.alloc (.cells #[.int .i64 xi, .int .i64 xu, .slice (some ⟨b6, o6, none⟩) xp.length c6, .int .i64 (-1), .int .i64 xs] 36)) w1.heap.size 36 #[.int .i64 xi, .int .i64 xu, .slice (some ⟨b6, o6, none⟩) xp.length c6, .int .i64 (-1), .int .i64 xs] := Row.new _ _ _
  have hxl := lt_of_at hx
  go_wp2_with (fail)
  go_must (refine (copies_any _ n cap l _ hn (hc1.keep hbA) (by omega) (by omega) HS.out).mono ?_)
  rintro e w4 ⟨g, c, P, rfl, hC, hP⟩
  have hlen : P.length = n := by rw [← hn, ← hP, List.length_map]
  obtain ⟨u, hu⟩ := at_map hP HX.out
  obtain ⟨q0, q1, q2, q3, q4⟩ := hC.cells hu
  have hpd := hC.pd p _ (by omega) hu
  have hown : w4.ownsRow (w1.alloc (.cells #[.int .i64 xi, .int .i64 xu, .slice (some ⟨b6, o6, none⟩) xp.length c6, .int .i64 (-1), .int .i64 xs] 36)).heap.size 4 1 u xp.length (xp.map Value.bool) := by
    rcases hpd with ⟨t, _⟩ | ⟨_, t⟩
    · have t : xp = [] := t
      rw [t] at hkl; simp at hkl
    · exact t
  obtain ⟨q, cq, hq, _, _⟩ := hown.form (by omega)
  subst hq
  dsimp only at q2
  have e7 : w4.cell? ⟨q, k, none⟩ = some (.bool false) := by
    have := hown.cellAt k (by omega)
    rw [List.getElem?_map, hk] at this
    exact this
  have f7 : w4.frozen? ⟨q, k, none⟩ = false := own_frozen hown
  have hC2 := hC.pay hlen hu hkl
  have hpl := And.intro (hC2.pcl (by rw [List.length_set]; exact hlen)) (hC2.up (N := w.heap.size) (by rw [List.length_set]; exact hlen) (by have := hb1.size; have := hbA.size; omega))
  rw [List.map_set, hP] at hpl
  have hqb := hown.lt q rfl
  have hz := hbA.size
  have hz1 := hb1.size
  have HO := Lib.hid (show Out w (w4.setCell ⟨q, k, none⟩ (.bool true)) n (.slice (some ⟨g, 0, none⟩) n c) _ from ⟨⟨g, c, rfl, hpl.1⟩, by rw [List.length_set]; exact hn, (Gen.over hC.bl (Gen.over hbA hb1)).setCell (p := ⟨q, k, none⟩) (show w.heap.size ≤ q by omega) _, hpl.2⟩)
  have r4 := hrz.keep hC.bl
  have hne : (⟨w1.heap.size, 0, none⟩ : Addr).block ≠ q := by show w1.heap.size ≠ q; have : w1.heap.size + 1 = (w1.alloc (.cells #[.int .i64 xi, .int .i64 xu, .slice (some ⟨b6, o6, none⟩) xp.length c6, .int .i64 (-1), .int .i64 xs] 36)).heap.size := by simp
                                                              omega
  have r5 : Row (w4.setCell ⟨q, k, none⟩ (.bool true)) w1.heap.size 36 #[.int .i64 xi, .int .i64 xu, .slice (some ⟨b6, o6, none⟩) xp.length c6, .int .i64 (-1), .int .i64 xs] := (Below.heap_setCell w4 ⟨q, k, none⟩ _ w1.heap.size hne).trans r4
  have s1 : (w4.setCell ⟨q, k, none⟩ (.bool true)).cell? ⟨w1.heap.size, 1, none⟩ = some (.int .i64 xu) := r5.cell 1
  clear hC hP hpl hc hc1 hb1 hC2 hu hpd hown hrz r4 r5 hbA hz hz1 hk
  go_wp2
  go_quiet (fail)
  all_goals
    go_wp2
    exact bodyPost_ret (v := .tuple #[.slice (some ⟨g, 0, none⟩) n c, .int .i64 xu, .int .i64 0]) (by simp [results, Try.results17, go_sem]) rfl ⟨_, rfl, HO.out.keep (Gen.dN (Below.refl _ _) _)⟩
set_option maxRecDepth 100000 in
set_option maxHeartbeats 8000000 in
theorem present_late {A : Option Addr} {n cap : Nat} {l : List Pc} {w : World} {p k : Nat} {x : Pc} {wh d : Int} (hn : l.length = n) (hc : Pcl w A l) (hv : rgtL l = true) (hx : l[p]? = some x) (hwh : 0 ≤ wh ∧ wh < 20000) (hd : 0 ≤ d ∧ d ≤ 200000) (hk : x.pd[k]? = some false) (h0 : x.lo ≠ -1) (h1 : x.se = wh) (h2 : x.lo + 365 ≤ d) :
    Calls Try.prog 17 #[.slice A n cap, .int .i64 p, .int .i64 k, .int .i64 wh, .int .i64 d] w fun e w' => ∃ v, e = .returned (.tuple #[v, .int .i64 x.un, .int .i64 0]) ∧ Out w w' n v (l.set p { x with pd := x.pd.set k true }) := by
  have hl := (rgtL_in hv).1
  have hp := lt_of_at hx
  have hkl := lt_of_at hk
  have HS := Lib.hid (rgt_size hv)
  have HV := Lib.hid hv
  have HX := Lib.hid hx
  have hlo := rgt_lo hv (mem_of_at hx)
  have p0 : (0 : Int) ≤ (p : Int) := by omega
  have p1 : (p : Int) < (n : Int) := by omega
  have k0 : (0 : Int) ≤ (k : Int) := by omega
  have hsx := HS.out x (mem_of_at hx)
  have HIF : Hid ((if (0 : Int) ≤ (p : Int) ∧ (p : Int) < (n : Int) then (0 : Int) else 4) = 0) := Lib.hid (if_pos ⟨p0, p1⟩)
  have HSZ : Hid (∀ y ∈ l, y.pd.length ≤ 9223372036854775807) := Lib.hid fun y hy => by have := HS.out y hy; omega
  obtain ⟨b, off, rfl, _⟩ := hc (by omega)
  go_enter Try.func17, Try.ntmps17
  go_wp2_with (fail)
  go_must (refine (Right_any _ n cap l w hn hc HSZ.out (by omega)).mono ?_)
  rintro e w1 ⟨rfl, hb1⟩
  rw [HV.out]
  go_wp2_with (fail)
  go_must (refine (isSeat_any wh _).mono ?_)
  rintro e w2 ⟨rfl, rfl⟩
  rw [decide_eq_true hwh]
  go_wp2_with (fail)
  go_must (refine (isDay_any d _).mono ?_)
  rintro e w2 ⟨rfl, rfl⟩
  rw [decide_eq_true hd]
  have hc1 := hc.keep hb1
  obtain ⟨⟨xi, xu, xp, xl, xs⟩, rfl⟩ : ∃ y : Pc, y = x := ⟨_, rfl⟩
  obtain ⟨d0, d1, ⟨A6, c6, d2, hbo⟩, d3, d4⟩ := pcl_cells hc1 hx
  dsimp only at hk hkl hlo hsx d0 d1 d2 d3 d4 hbo h0 h1 h2
  obtain ⟨b6, o6, rfl, hb6⟩ := hbo (by omega)
  have k1 : (k : Int) < (xp.length : Int) := by omega
  have e6 : (w1.alloc (.cells #[.int .i64 xi, .int .i64 xu, .slice (some ⟨b6, o6, none⟩) xp.length c6, .int .i64 xl, .int .i64 xs] 36)).cell? ⟨b6, o6 + k, none⟩ = some (.bool false) := Gen.keep (Gen.b_alloc (Below.refl _ _)) (hb6 k _ hk)
  clear hb6
  go_wp2_with (fail)
  go_must (refine (find_any p _ n cap _ (by omega)).mono ?_)
  rintro e w3 ⟨rfl, rfl⟩
  rw [HIF.out]
  obtain rfl : xs = wh := h1
  have hlo2 := hlo h0
  have n0 : (xl != -1) = true := by simpa using h0
  have n1 : (xs != xs) = false := by simp
  have hw : IntKind.i64.wrap (xl + 365) = xl + 365 := IntWalk.i64_in _ (by omega)
  have hbA : Below w1.heap.size w1 (w1.alloc (.cells #[.int .i64 xi, .int .i64 xu, .slice (some ⟨b6, o6, none⟩) xp.length c6, .int .i64 xl, .int .i64 xs] 36)) := Gen.b_alloc (Below.refl _ _)
  have hrz : Row (w1.alloc (.cells #[.int .i64 xi, .int .i64 xu, .slice (some ⟨b6, o6, none⟩) xp.length c6, .int .i64 xl, .int .i64 xs] 36)) w1.heap.size 36 #[.int .i64 xi, .int .i64 xu, .slice (some ⟨b6, o6, none⟩) xp.length c6, .int .i64 xl, .int .i64 xs] := Row.new _ _ _
  have hxl := lt_of_at hx
  go_wp2_with (fail)
  go_must (refine (copies_any _ n cap l _ hn (hc1.keep hbA) (by omega) (by omega) HS.out).mono ?_)
  rintro e w4 ⟨g, c, P, rfl, hC, hP⟩
  have hlen : P.length = n := by rw [← hn, ← hP, List.length_map]
  obtain ⟨u, hu⟩ := at_map hP HX.out
  obtain ⟨q0, q1, q2, q3, q4⟩ := hC.cells hu
  have hpd := hC.pd p _ (by omega) hu
  have hown : w4.ownsRow (w1.alloc (.cells #[.int .i64 xi, .int .i64 xu, .slice (some ⟨b6, o6, none⟩) xp.length c6, .int .i64 xl, .int .i64 xs] 36)).heap.size 4 1 u xp.length (xp.map Value.bool) := by
    rcases hpd with ⟨t, _⟩ | ⟨_, t⟩
    · have t : xp = [] := t
      rw [t] at hkl; simp at hkl
    · exact t
  obtain ⟨q, cq, hq, _, _⟩ := hown.form (by omega)
  subst hq
  dsimp only at q2
  have e7 : w4.cell? ⟨q, k, none⟩ = some (.bool false) := by
    have := hown.cellAt k (by omega)
    rw [List.getElem?_map, hk] at this
    exact this
  have f7 : w4.frozen? ⟨q, k, none⟩ = false := own_frozen hown
  have hC2 := hC.pay hlen hu hkl
  have hpl := And.intro (hC2.pcl (by rw [List.length_set]; exact hlen)) (hC2.up (N := w.heap.size) (by rw [List.length_set]; exact hlen) (by have := hb1.size; have := hbA.size; omega))
  rw [List.map_set, hP] at hpl
  have hqb := hown.lt q rfl
  have hz := hbA.size
  have hz1 := hb1.size
  have HO := Lib.hid (show Out w (w4.setCell ⟨q, k, none⟩ (.bool true)) n (.slice (some ⟨g, 0, none⟩) n c) _ from ⟨⟨g, c, rfl, hpl.1⟩, by rw [List.length_set]; exact hn, (Gen.over hC.bl (Gen.over hbA hb1)).setCell (p := ⟨q, k, none⟩) (show w.heap.size ≤ q by omega) _, hpl.2⟩)
  have r4 := hrz.keep hC.bl
  have hne : (⟨w1.heap.size, 0, none⟩ : Addr).block ≠ q := by show w1.heap.size ≠ q; have : w1.heap.size + 1 = (w1.alloc (.cells #[.int .i64 xi, .int .i64 xu, .slice (some ⟨b6, o6, none⟩) xp.length c6, .int .i64 xl, .int .i64 xs] 36)).heap.size := by simp
                                                              omega
  have r5 : Row (w4.setCell ⟨q, k, none⟩ (.bool true)) w1.heap.size 36 #[.int .i64 xi, .int .i64 xu, .slice (some ⟨b6, o6, none⟩) xp.length c6, .int .i64 xl, .int .i64 xs] := (Below.heap_setCell w4 ⟨q, k, none⟩ _ w1.heap.size hne).trans r4
  have s1 : (w4.setCell ⟨q, k, none⟩ (.bool true)).cell? ⟨w1.heap.size, 1, none⟩ = some (.int .i64 xu) := r5.cell 1
  clear hC hP hpl hc hc1 hb1 hC2 hu hpd hown hrz r4 r5 hbA hz hz1 hk
  go_wp2
  go_quiet (fail)
  all_goals
    go_wp2
    exact bodyPost_ret (v := .tuple #[.slice (some ⟨g, 0, none⟩) n c, .int .i64 xu, .int .i64 0]) (by simp [results, Try.results17, go_sem]) rfl ⟨_, rfl, HO.out.keep (Gen.dN (Below.refl _ _) _)⟩
end Go.Proofs.Ythphlaijkknefaa.Bea
