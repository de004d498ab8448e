/- Bearer pieces: Report, Secure, Find. -/
import Derived.Test.YthphlaijkknefaaBeaF
namespace Go.Proofs.Ythphlaijkknefaa.Bea
open Go.ChangeShapes Go.WideShapes Go.ChangeAt Go.RowKit Go.Proofs.Ythphlaijkknefaa.Cell
set_option linter.unusedVariables false
set_option linter.unusedSimpArgs false

theorem rgt_size {l : List Pc} (h : rgtL l = true) : ∀ x ∈ l, x.pd.length ≤ 400 := fun x hx => by
  have := (rgtL_in h).2 x hx
  exact (of_decide_eq_true this).2.2.1
theorem at_map {P : List (Pc × Value)} {l : List Pc} (h : P.map (·.1) = l) {p : Nat} {x : Pc} (hx : l[p]? = some x) : ∃ u, P[p]? = some (x, u) := by
  rw [← h, List.getElem?_map] at hx
  cases hy : P[p]? with
  | none => rw [hy] at hx; cases hx
  | some y =>
    rw [hy] at hx
    have hx : y.1 = x := by injection hx
    obtain ⟨y1, y2⟩ := y
    subst hx
    exact ⟨y2, rfl⟩
theorem pcl_cells {w : World} {b off : Nat} {l : List Pc} (h : Pcl w (some ⟨b, off, none⟩) l) {p : Nat} {x : Pc} (hx : l[p]? = some x) : PcAt w b (off + p * 5) x := by
  obtain ⟨b', off', e, hc⟩ := h (by have := lt_of_at hx; omega)
  injection e with e
  injection e with e1 e2
  subst e1 e2
  exact hc p x hx
/-- a list that lies above a place, with its coupons -/
def Up (N : Nat) (W : World) (v : Value) (l : List Pc) : Prop := ∀ g n c, v = .slice (some ⟨g, 0, none⟩) n c → (N ≤ g ∧ n ≤ c) ∧ ∀ (j : Nat) x, l[j]? = some x → 0 < x.pd.length → ∃ b o c', W.cell? ⟨g, j * 5 + 2, none⟩ = some (.slice (some ⟨b, o, none⟩) x.pd.length c') ∧ N ≤ b
theorem Up.keep {N : Nat} {W W' : World} {v : Value} {l : List Pc} (h : Up N W v l) (hb : Below W.heap.size W W') : Up N W' v l := fun g n c e => by
  obtain ⟨h1, h2⟩ := h g n c e
  refine ⟨h1, fun j x hx h0 => ?_⟩
  obtain ⟨b, o, c', h3, h4⟩ := h2 j x hx h0
  exact ⟨b, o, c', Gen.keep hb h3, h4⟩
theorem Up.mono {N M : Nat} {W : World} {v : Value} {l : List Pc} (h : Up N W v l) (hm : M ≤ N) : Up M W v l := fun g n c e => by
  obtain ⟨h1, h2⟩ := h g n c e
  refine ⟨by omega, fun j x hx h0 => ?_⟩
  obtain ⟨b, o, c', h3, h4⟩ := h2 j x hx h0
  exact ⟨b, o, c', h3, by omega⟩
theorem own_cap {w : World} {B n c size : Nat} {e : TypeId} {A : Option Addr} {xs : List Value} (h : w.ownsRow B e size (.slice A n c) n xs) : n ≤ c := by
  rcases h.2 with ⟨h, h2⟩ | ⟨g, cap, cur, he, _, _, hn, _⟩
  · injection h with _ e2 e3; omega
  · injection he with _ e2 e3; omega
theorem Cpi.up {w0 W : World} {B g c n N : Nat} {P : List (Pc × Value)} (h : Cpi w0 B W g c n P) (hn : P.length = n) (hN : N ≤ B) : Up N W (.slice (some ⟨g, 0, none⟩) n c) (P.map (·.1)) := fun g' n' c'' e => by
  injection e with e1 e2 e3
  injection e1 with e1
  injection e1 with e1
  subst e1 e2 e3
  have hg := h.o.lt g rfl
  have hcap := own_cap h.o
  refine ⟨by omega, fun j x hx h0 => ?_⟩
  rw [List.getElem?_map] at hx
  cases hy : P[j]? with
  | none => rw [hy] at hx; cases hx
  | some y =>
    rw [hy] at hx
    have hx : y.1 = x := by injection hx
    subst hx
    obtain ⟨_, _, c2, _, _⟩ := h.cells hy
    have hj := lt_of_at hy
    rcases h.pd j y (by omega) hy with ⟨t, _⟩ | ⟨_, t⟩
    · rw [t] at h0; simp at h0
    · obtain ⟨q, cq, hq, _, _⟩ := t.form h0
      rw [hq] at c2 t
      have := t.lt q rfl
      exact ⟨q, 0, cq, c2, by omega⟩
/-- a result list: where it lies, and what it reads as -/
structure Out (w : World) (W : World) (n : Nat) (val : Value) (l : List Pc) : Prop where
  v : ∃ g c, val = .slice (some ⟨g, 0, none⟩) n c ∧ Pcl W (some ⟨g, 0, none⟩) l
  n : l.length = n
  bl : Below w.heap.size w W
  up : Up w.heap.size W val l
theorem Out.keep {w W W' : World} {n : Nat} {v : Value} {l : List Pc} (h : Out w W n v l) (hb : Below W.heap.size W W') : Out w W' n v l := by
  obtain ⟨g, c, e, hp⟩ := h.v
  exact ⟨⟨g, c, e, hp.keep hb⟩, h.n, Gen.over hb h.bl, h.up.keep hb⟩
set_option maxRecDepth 100000 in
set_option maxHeartbeats 4000000 in
theorem report_ok {A : Option Addr} {n cap : Nat} {l : List Pc} {w : World} {p : Nat} {x : Pc} {d : Int} (hn : l.length = n) (hc : Pcl w A l) (hv : rgtL l = true) (hx : l[p]? = some x) (hd : 0 ≤ d ∧ d ≤ 200000) (h0 : x.lo = -1) :
    Calls Try.prog 16 #[.slice A n cap, .int .i64 p, .int .i64 d] w fun e w' => ∃ v, e = .returned (.tuple #[v, .int .i64 0]) ∧ Out w w' n v (l.set p { x with lo := d }) := by
  have hl := (rgtL_in hv).1
  have hp := lt_of_at hx
  have HS := Lib.hid (rgt_size hv)
  have HV := Lib.hid hv
  have HX := Lib.hid hx
  have p0 : (0 : Int) ≤ (p : Int) := by omega
  have p1 : (p : Int) < (n : Int) := by omega
  have HIF : Hid ((if (0 : Int) ≤ (p : Int) ∧ (p : Int) < (n : Int) then (0 : Int) else 4) = 0) := Lib.hid (if_pos ⟨p0, p1⟩)
  have HSZ : Hid (∀ y ∈ l, y.pd.length ≤ 9223372036854775807) := Lib.hid fun y hy => by have := HS.out y hy; omega
  obtain ⟨b, off, rfl, _⟩ := hc (by omega)
  go_enter Try.func16, Try.ntmps16
  go_wp2_with (fail)
  go_must (refine (Right_any _ n cap l w hn hc HSZ.out (by omega)).mono ?_)
  rintro e w1 ⟨rfl, hb1⟩
  rw [HV.out]
  go_wp2_with (fail)
  go_must (refine (isDay_any d _).mono ?_)
  rintro e w2 ⟨rfl, rfl⟩
  rw [decide_eq_true hd]
  have hc1 := hc.keep hb1
  have dd := pcl_cells hc1 hx
  obtain ⟨⟨xi, xu, xp, xl, xs⟩, rfl⟩ : ∃ y : Pc, y = x := ⟨_, rfl⟩
  have d3 := dd.c3
  have d4 := dd.c4
  dsimp only at d3 d4 h0
  subst h0
  go_wp2_with (fail)
  go_must (refine (find_any p _ n cap _ (by omega)).mono ?_)
  rintro e w3 ⟨rfl, rfl⟩
  rw [HIF.out]
  go_wp2_with (fail)
  go_must (refine (copies_any _ n cap l _ hn hc1 (by omega) (by omega) HS.out).mono ?_)
  rintro e w4 ⟨g, c, P, rfl, hC, hP⟩
  have hlen : P.length = n := by rw [← hn, ← hP, List.length_map]
  obtain ⟨u, hu⟩ := at_map hP HX.out
  obtain ⟨q0, q1, q2, q3, q4⟩ := hC.cells hu
  dsimp only at q3 q4
  have f0 : w4.frozen? ⟨g, p * 5 + 3, none⟩ = false := own_frozen hC.o
  have hC2 := hC.put hlen hu (x' := ⟨xi, xu, xp, d, xs⟩) rfl (o := 3) (by omega) (v := .int .i64 d) rfl
  have hpl := And.intro (hC2.pcl (by rw [List.length_set]; exact hlen)) (hC2.up (N := w.heap.size) (by rw [List.length_set]; exact hlen) (by have := hb1.size; omega))
  rw [List.map_set, hP] at hpl
  have HO := Lib.hid (show Out w (w4.setCell ⟨g, p * 5 + 3, none⟩ (.int .i64 d)) n (.slice (some ⟨g, 0, none⟩) n c) _ from ⟨⟨g, c, rfl, hpl.1⟩, by rw [List.length_set]; exact hn, (Gen.over hC.bl hb1).setCell (p := ⟨g, p * 5 + 3, none⟩) (show w.heap.size ≤ g by have := (hC.o.lt g rfl).1; have := hb1.size; omega) _, hpl.2⟩)
  clear hC hP hpl hc hc1 hb1 dd
  go_wp2
  exact bodyPost_ret (v := .tuple #[.slice (some ⟨g, 0, none⟩) n c, .int .i64 0]) (by simp [results, Try.results16, go_sem]) rfl ⟨_, rfl, HO.out⟩
set_option maxRecDepth 100000 in
set_option maxHeartbeats 4000000 in
theorem secure_ok {A : Option Addr} {n cap : Nat} {l : List Pc} {w : World} {p : Nat} {x : Pc} {d : Int} (hn : l.length = n) (hc : Pcl w A l) (hv : rgtL l = true) (hx : l[p]? = some x) (hd : 0 ≤ d ∧ d < 20000) (h0 : x.lo ≠ -1) (h1 : x.se = -1) :
    Calls Try.prog 18 #[.slice A n cap, .int .i64 p, .int .i64 d] w fun e w' => ∃ v, e = .returned (.tuple #[v, .int .i64 0]) ∧ Out w w' n v (l.set p { x with se := d }) := by
  have hl := (rgtL_in hv).1
  have hp := lt_of_at hx
  have HS := Lib.hid (rgt_size hv)
  have HV := Lib.hid hv
  have HX := Lib.hid hx
  have p0 : (0 : Int) ≤ (p : Int) := by omega
  have p1 : (p : Int) < (n : Int) := by omega
  have HIF : Hid ((if (0 : Int) ≤ (p : Int) ∧ (p : Int) < (n : Int) then (0 : Int) else 4) = 0) := Lib.hid (if_pos ⟨p0, p1⟩)
  have HSZ : Hid (∀ y ∈ l, y.pd.length ≤ 9223372036854775807) := Lib.hid fun y hy => by have := HS.out y hy; omega
  obtain ⟨b, off, rfl, _⟩ := hc (by omega)
  go_enter Try.func18, Try.ntmps18
  go_wp2_with (fail)
  go_must (refine (Right_any _ n cap l w hn hc HSZ.out (by omega)).mono ?_)
  rintro e w1 ⟨rfl, hb1⟩
  rw [HV.out]
  go_wp2_with (fail)
  go_must (refine (isSeat_any d _).mono ?_)
  rintro e w2 ⟨rfl, rfl⟩
  rw [decide_eq_true hd]
  have hc1 := hc.keep hb1
  have dd := pcl_cells hc1 hx
  obtain ⟨⟨xi, xu, xp, xl, xs⟩, rfl⟩ : ∃ y : Pc, y = x := ⟨_, rfl⟩
  have d3 := dd.c3
  have d4 := dd.c4
  dsimp only at d3 d4 h0 h1
  subst h1
  go_wp2_with (fail)
  go_must (refine (find_any p _ n cap _ (by omega)).mono ?_)
  rintro e w3 ⟨rfl, rfl⟩
  rw [HIF.out]
  go_wp2_with (fail)
  go_must (refine (copies_any _ n cap l _ hn hc1 (by omega) (by omega) HS.out).mono ?_)
  rintro e w4 ⟨g, c, P, rfl, hC, hP⟩
  have hlen : P.length = n := by rw [← hn, ← hP, List.length_map]
  obtain ⟨u, hu⟩ := at_map hP HX.out
  obtain ⟨q0, q1, q2, q3, q4⟩ := hC.cells hu
  dsimp only at q3 q4
  have f0 : w4.frozen? ⟨g, p * 5 + 4, none⟩ = false := own_frozen hC.o
  have hC2 := hC.put hlen hu (x' := ⟨xi, xu, xp, xl, d⟩) rfl (o := 4) (by omega) (v := .int .i64 d) rfl
  have hpl := And.intro (hC2.pcl (by rw [List.length_set]; exact hlen)) (hC2.up (N := w.heap.size) (by rw [List.length_set]; exact hlen) (by have := hb1.size; omega))
  rw [List.map_set, hP] at hpl
  have HO := Lib.hid (show Out w (w4.setCell ⟨g, p * 5 + 4, none⟩ (.int .i64 d)) n (.slice (some ⟨g, 0, none⟩) n c) _ from ⟨⟨g, c, rfl, hpl.1⟩, by rw [List.length_set]; exact hn, (Gen.over hC.bl hb1).setCell (p := ⟨g, p * 5 + 4, none⟩) (show w.heap.size ≤ g by have := (hC.o.lt g rfl).1; have := hb1.size; omega) _, hpl.2⟩)
  clear hC hP hpl hc hc1 hb1 dd
  go_wp2
  exact bodyPost_ret (v := .tuple #[.slice (some ⟨g, 0, none⟩) n c, .int .i64 0]) (by simp [results, Try.results18, go_sem]) rfl ⟨_, rfl, HO.out⟩
set_option maxRecDepth 100000 in
set_option maxHeartbeats 4000000 in
theorem find_ok {A : Option Addr} {n cap : Nat} {l : List Pc} {w : World} {p : Nat} {x : Pc} (hn : l.length = n) (hc : Pcl w A l) (hv : rgtL l = true) (hx : l[p]? = some x) (h0 : x.lo ≠ -1) :
    Calls Try.prog 19 #[.slice A n cap, .int .i64 p] w fun e w' => ∃ v, e = .returned (.tuple #[v, .int .i64 0]) ∧ Out w w' n v (l.set p { x with lo := -1, se := -1 }) := by
  have hl := (rgtL_in hv).1
  have hp := lt_of_at hx
  have HS := Lib.hid (rgt_size hv)
  have HV := Lib.hid hv
  have HX := Lib.hid hx
  have p0 : (0 : Int) ≤ (p : Int) := by omega
  have p1 : (p : Int) < (n : Int) := by omega
  have HIF : Hid ((if (0 : Int) ≤ (p : Int) ∧ (p : Int) < (n : Int) then (0 : Int) else 4) = 0) := Lib.hid (if_pos ⟨p0, p1⟩)
  have HSZ : Hid (∀ y ∈ l, y.pd.length ≤ 9223372036854775807) := Lib.hid fun y hy => by have := HS.out y hy; omega
  obtain ⟨b, off, rfl, _⟩ := hc (by omega)
  go_enter Try.func19, Try.ntmps19
  go_wp2_with (fail)
  go_must (refine (Right_any _ n cap l w hn hc HSZ.out (by omega)).mono ?_)
  rintro e w1 ⟨rfl, hb1⟩
  rw [HV.out]
  have hc1 := hc.keep hb1
  have dd := pcl_cells hc1 hx
  obtain ⟨⟨xi, xu, xp, xl, xs⟩, rfl⟩ : ∃ y : Pc, y = x := ⟨_, rfl⟩
  have d3 := dd.c3
  have d4 := dd.c4
  dsimp only at d3 d4 h0
  go_wp2_with (fail)
  go_must (refine (find_any p _ n cap _ (by omega)).mono ?_)
  rintro e w3 ⟨rfl, rfl⟩
  rw [HIF.out]
  go_wp2_with (fail)
  go_must (refine (copies_any _ n cap l _ hn hc1 (by omega) (by omega) HS.out).mono ?_)
  rintro e w4 ⟨g, c, P, rfl, hC, hP⟩
  have hlen : P.length = n := by rw [← hn, ← hP, List.length_map]
  obtain ⟨u, hu⟩ := at_map hP HX.out
  obtain ⟨q0, q1, q2, q3, q4⟩ := hC.cells hu
  dsimp only at q3 q4
  have f0 : w4.frozen? ⟨g, p * 5 + 3, none⟩ = false := own_frozen hC.o
  have hC2 := hC.put hlen hu (x' := ⟨xi, xu, xp, -1, xs⟩) rfl (o := 3) (by omega) (v := .int .i64 (-1)) rfl
  have hu2 : (P.set p ((⟨xi, xu, xp, -1, xs⟩ : Pc), u))[p]? = some (⟨xi, xu, xp, -1, xs⟩, u) := List.getElem?_set_self (by omega)
  have hlen2 : (P.set p ((⟨xi, xu, xp, -1, xs⟩ : Pc), u)).length = n := by rw [List.length_set]; exact hlen
  have hC3 := hC2.put hlen2 hu2 (x' := ⟨xi, xu, xp, -1, -1⟩) rfl (o := 4) (by omega) (v := .int .i64 (-1)) rfl
  obtain ⟨_, _, _, _, r4⟩ := hC2.cells hu2
  have f1 : (w4.setCell ⟨g, p * 5 + 3, none⟩ (.int .i64 (-1))).frozen? ⟨g, p * 5 + 4, none⟩ = false := own_frozen hC2.o
  have hpl := And.intro (hC3.pcl (by rw [List.length_set]; exact hlen2)) (hC3.up (N := w.heap.size) (by rw [List.length_set]; exact hlen2) (by have := hb1.size; omega))
  rw [List.set_set, List.map_set, hP] at hpl
  have HO := Lib.hid (show Out w ((w4.setCell ⟨g, p * 5 + 3, none⟩ (.int .i64 (-1))).setCell ⟨g, p * 5 + 4, none⟩ (.int .i64 (-1))) n (.slice (some ⟨g, 0, none⟩) n c) _ from ⟨⟨g, c, rfl, hpl.1⟩, by rw [List.length_set]; exact hn, ((Gen.over hC.bl hb1).setCell (p := ⟨g, p * 5 + 3, none⟩) (show w.heap.size ≤ g by have := (hC.o.lt g rfl).1; have := hb1.size; omega) _).setCell (p := ⟨g, p * 5 + 4, none⟩) (show w.heap.size ≤ g by have := (hC.o.lt g rfl).1; have := hb1.size; omega) _, hpl.2⟩)
  clear hC2 hC3 hu2
  clear hC hP hpl hc hc1 hb1 dd
  go_wp2
  exact bodyPost_ret (v := .tuple #[.slice (some ⟨g, 0, none⟩) n c, .int .i64 0]) (by simp [results, Try.results19, go_sem]) rfl ⟨_, rfl, HO.out⟩
end Go.Proofs.Ythphlaijkknefaa.Bea
