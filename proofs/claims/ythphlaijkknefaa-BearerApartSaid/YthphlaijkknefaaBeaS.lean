/- Bearer pieces: the reference's Do. -/
import Derived.Test.YthphlaijkknefaaBeaR
import Derived.Test.YthphlaijkknefaaBeaO
import Derived.StillTailTactics
namespace Go.Proofs.Ythphlaijkknefaa.Bea
open Go.ChangeShapes Go.WideShapes Go.ChangeAt Go.RowKit Go.Proofs.Ythphlaijkknefaa.Cell
set_option linter.unusedVariables false
set_option linter.unusedSimpArgs false
variable {A : Option Addr} {n cap : Nat} {l : List Pc} {w : World}
set_option maxRecDepth 100000 in
set_option maxHeartbeats 4000000 in
theorem rdo_no (a : Ac) (hn : l.length = n) (hc : Pcl w A l) (hsz : ∀ x ∈ l, x.pd.length ≤ 9223372036854775807) (hbig : n ≤ 9223372036854775807) (hE : doE l a ≠ 0) :
    Calls Try.prog 10 #[.slice A n cap, .agg #[.int .i64 a.kd, .int .i64 a.pi, .int .i64 a.co, .int .i64 a.wh, .int .i64 a.dy]] w (DoP w n l a) := by
  obtain ⟨kd, q, k, wh, d⟩ := a
  dsimp only
  have hB : Below w.heap.size w (w.alloc (.cells #[.int .i64 kd, .int .i64 q, .int .i64 k, .int .i64 wh, .int .i64 d] 27)) := Gen.b_alloc (Below.refl _ _)
  obtain ⟨E, hE2⟩ : ∃ E, doE l ⟨kd, q, k, wh, d⟩ = E := ⟨_, rfl⟩
  rw [hE2] at hE
  have hE0 : (E != 0) = true := by simpa using hE
  have HE2 := Lib.hid hE2
  clear hE2
  go_enter Try.func10, Try.ntmps10
  go_wp2_with (fail)
  go_must (refine (wrong_any ⟨kd, q, k, wh, d⟩ hn (hc.keep hB) hsz hbig).mono ?_)
  rintro e w1 ⟨rfl, hb⟩
  have HX := Lib.hid (show DoP w n l ⟨kd, q, k, wh, d⟩ (.returned (.tuple #[.slice none 0 0, .int .i64 0, .int .i64 E])) w1 from .inl ⟨by rw [HE2.out]; exact hE, by rw [HE2.out], Gen.over hb hB⟩)
  rw [HE2.out]
  clear hn hc hsz hb hE
  go_wp2
  exact bodyPost_ret (v := .tuple #[.slice none 0 0, .int .i64 0, .int .i64 E]) (by simp [results, Try.results10, go_sem]) rfl HX.out
set_option maxRecDepth 100000 in
set_option maxHeartbeats 4000000 in
theorem rdo_0 {p k : Nat} {x : Pc} {wh d : Int} (hn : l.length = n) (hc : Pcl w A l) (hv : rgtL l = true) (hx : l[p]? = some x) (hk : x.pd[k]? = some false) (hE : doE l ⟨0, p, k, wh, d⟩ = 0) :
    Calls Try.prog 10 #[.slice A n cap, .agg #[.int .i64 0, .int .i64 (p : Int), .int .i64 (k : Int), .int .i64 wh, .int .i64 d]] w fun e w' => ∃ v, e = .returned (.tuple #[v, .int .i64 x.un, .int .i64 0]) ∧ Out w w' n v (l.set p { x with pd := x.pd.set k true }) := by
  have hl := (rgtL_in hv).1
  have hp := lt_of_at hx
  have HS := Lib.hid (rgt_size hv)
  have HX := Lib.hid hx
  have HE := Lib.hid hE
  have HN := Lib.hid hn
  have p0 : (0 : Int) ≤ (p : Int) := by omega
  have p1 : (p : Int) < (n : Int) := by omega
  have HSZ : Hid (∀ y ∈ l, y.pd.length ≤ 9223372036854775807) := Lib.hid fun y hy => by have := HS.out y hy; omega
  obtain ⟨b, off, rfl, _⟩ := hc (by omega)
  have hbl : b < w.heap.size := by
    obtain ⟨b', off', e, hcell⟩ := hc (by omega)
    injection e with e
    injection e with e1 e2
    subst e1 e2
    exact World.block_lt_of_cell? _ _ (hcell p x hx).c0
  have hB : Below w.heap.size w (w.alloc (.cells #[.int .i64 0, .int .i64 (p : Int), .int .i64 (k : Int), .int .i64 wh, .int .i64 d] 27)) := Gen.b_alloc (Below.refl _ _)
  have hra : Row (w.alloc (.cells #[.int .i64 0, .int .i64 (p : Int), .int .i64 (k : Int), .int .i64 wh, .int .i64 d] 27)) w.heap.size 27 #[.int .i64 0, .int .i64 (p : Int), .int .i64 (k : Int), .int .i64 wh, .int .i64 d] := Row.new _ _ _
  have hz : w.heap.size + 1 = (w.alloc (.cells #[.int .i64 0, .int .i64 (p : Int), .int .i64 (k : Int), .int .i64 wh, .int .i64 d] 27)).heap.size := by simp
  have HC1 := Lib.hid (hc.keep hB)
  have hn1 : n ≤ 1000 := by omega
  clear hE hc hn
  go_enter Try.func10, Try.ntmps10
  go_wp2_with (fail)
  go_must (refine (wrong_any ⟨0, p, k, wh, d⟩ HN.out HC1.out HSZ.out (by omega)).mono ?_)
  rintro e w1 ⟨rfl, hb1⟩
  rw [HE.out]
  have hra1 := hra.keep hb1
  have HC2 := Lib.hid (HC1.out.keep hb1)
  have hB1 := Gen.over hb1 hB
  have z1 := hb1.size
  clear hb1 hra hB
  go_wp2_with (fail)
  go_must (refine (rcopied_any _ n cap l w1 HN.out HC2.out (by omega) (by omega) HS.out).mono ?_)
  rintro e w4 ⟨g, c, P, rfl, hC, hP⟩
  have hra4 := hra1.keep hC.bl
  have a0 := hra4.cell 0
  have a1 := hra4.cell 1
  have a2 := hra4.cell 2
  have a3 := hra4.cell 3
  have a4 := hra4.cell 4
  have hlen : P.length = n := by rw [← HN.out, ← hP, List.length_map]
  obtain ⟨u, hu⟩ := at_map hP HX.out
  obtain ⟨q0, q1, q2, q3, q4⟩ := hC.cells hu
  have dd := pcl_cells (HC2.out.keep hC.bl) HX.out
  have d1 := dd.c1
  have hgb := (hC.o.lt g rfl).1
  have hzz : w.heap.size ≤ w1.heap.size := by omega
  obtain ⟨⟨xi, xu, xp, xl, xs⟩, rfl⟩ : ∃ y : Pc, y = x := ⟨_, rfl⟩
  have hkl := lt_of_at hk
  try dsimp only at hk hkl q0 q1 q2 q3 q4 d1
  have k0 : (0 : Int) ≤ (k : Int) := by omega
  have k1 : (k : Int) < (xp.length : Int) := by omega
  have k2 : xp.length ≤ 400 := HS.out _ (mem_of_at HX.out)
  have hpd := hC.pd p _ (by omega) hu
  have hown : w4.ownsRow w1.heap.size 4 1 u xp.length (xp.map Value.bool) := by
    rcases hpd with ⟨t, _⟩ | ⟨_, t⟩
    · have t : xp = [] := t
      rw [t] at hkl; simp at hkl
    · exact t
  obtain ⟨q, cq, hq, _, _⟩ := hown.form (by omega)
  subst hq
  try dsimp only at q2
  have e7 : w4.cell? ⟨q, k, none⟩ = some (.bool false) := by
    have := hown.cellAt k (by omega)
    rw [List.getElem?_map, hk] at this
    exact this
  have f7 : w4.frozen? ⟨q, k, none⟩ = false := own_frozen hown
  have hC2 := hC.pay hlen hu hkl
  have hpl := And.intro (hC2.pcl (by rw [List.length_set]; exact hlen)) (hC2.up (N := w.heap.size) (by rw [List.length_set]; exact hlen) hzz)
  rw [List.map_set, hP] at hpl
  have hqb := hown.lt q rfl
  have HO := Lib.hid (show Out w (w4.setCell ⟨q, k, none⟩ (.bool true)) n (.slice (some ⟨g, 0, none⟩) n c) _ from ⟨⟨g, c, rfl, hpl.1⟩, by rw [List.length_set]; exact HN.out, (Gen.over hC.bl hB1).setCell (p := ⟨q, k, none⟩) (show w.heap.size ≤ q by omega) _, hpl.2⟩)
  have s1 := (pcl_cells (HC2.out.keep hC2.bl) HX.out).c1
  have s2 : (w4.setCell ⟨q, k, none⟩ (.bool true)).cell? ⟨w.heap.size, 1, none⟩ = some (.int .i64 p) := (hra1.keep hC2.bl).cell 1
  have S12 := Lib.hid (And.intro s1 s2)
  clear s1 s2
  clear hC hP hpl hB1 hC2 hu hpd hown dd hra1 hra4 hk
  go_wp2
  go_still_tail 9, (by kernel_rfl)
  obtain ⟨s1, s2⟩ := S12.out
  try dsimp only at s1
  go_wp2
  clear e7 f7 a0 a1 a2 a3 a4 q0 q1 q2 q3 q4 d1
  go_quiet (fail)
  all_goals
    go_wp2
    exact bodyPost_ret (v := .tuple #[.slice (some ⟨g, 0, none⟩) n c, .int .i64 xu, .int .i64 0]) (by simp [results, Try.results10, go_sem]) rfl ⟨_, rfl, HO.out.keep (by first | exact Gen.dN (Below.refl _ _) _ | exact Gen.dN (Gen.dN (Below.refl _ _) 1) _)⟩
set_option maxRecDepth 100000 in
set_option maxHeartbeats 4000000 in
theorem rdo_1 {p : Nat} {x : Pc} {k wh d : Int} (hn : l.length = n) (hc : Pcl w A l) (hv : rgtL l = true) (hx : l[p]? = some x) (hE : doE l ⟨1, p, k, wh, d⟩ = 0) :
    Calls Try.prog 10 #[.slice A n cap, .agg #[.int .i64 1, .int .i64 (p : Int), .int .i64 k, .int .i64 wh, .int .i64 d]] w fun e w' => ∃ v, e = .returned (.tuple #[v, .int .i64 0, .int .i64 0]) ∧ Out w w' n v (l.set p { x with lo := d }) := by
  have hl := (rgtL_in hv).1
  have hp := lt_of_at hx
  have HS := Lib.hid (rgt_size hv)
  have HX := Lib.hid hx
  have HE := Lib.hid hE
  have HN := Lib.hid hn
  have p0 : (0 : Int) ≤ (p : Int) := by omega
  have p1 : (p : Int) < (n : Int) := by omega
  have HSZ : Hid (∀ y ∈ l, y.pd.length ≤ 9223372036854775807) := Lib.hid fun y hy => by have := HS.out y hy; omega
  obtain ⟨b, off, rfl, _⟩ := hc (by omega)
  have hbl : b < w.heap.size := by
    obtain ⟨b', off', e, hcell⟩ := hc (by omega)
    injection e with e
    injection e with e1 e2
    subst e1 e2
    exact World.block_lt_of_cell? _ _ (hcell p x hx).c0
  have hB : Below w.heap.size w (w.alloc (.cells #[.int .i64 1, .int .i64 (p : Int), .int .i64 k, .int .i64 wh, .int .i64 d] 27)) := Gen.b_alloc (Below.refl _ _)
  have hra : Row (w.alloc (.cells #[.int .i64 1, .int .i64 (p : Int), .int .i64 k, .int .i64 wh, .int .i64 d] 27)) w.heap.size 27 #[.int .i64 1, .int .i64 (p : Int), .int .i64 k, .int .i64 wh, .int .i64 d] := Row.new _ _ _
  have hz : w.heap.size + 1 = (w.alloc (.cells #[.int .i64 1, .int .i64 (p : Int), .int .i64 k, .int .i64 wh, .int .i64 d] 27)).heap.size := by simp
  have HC1 := Lib.hid (hc.keep hB)
  have hn1 : n ≤ 1000 := by omega
  clear hE hc hn
  go_enter Try.func10, Try.ntmps10
  go_wp2_with (fail)
  go_must (refine (wrong_any ⟨1, p, k, wh, d⟩ HN.out HC1.out HSZ.out (by omega)).mono ?_)
  rintro e w1 ⟨rfl, hb1⟩
  rw [HE.out]
  have hra1 := hra.keep hb1
  have HC2 := Lib.hid (HC1.out.keep hb1)
  have hB1 := Gen.over hb1 hB
  have z1 := hb1.size
  clear hb1 hra hB
  go_wp2_with (fail)
  go_must (refine (rcopied_any _ n cap l w1 HN.out HC2.out (by omega) (by omega) HS.out).mono ?_)
  rintro e w4 ⟨g, c, P, rfl, hC, hP⟩
  have hra4 := hra1.keep hC.bl
  have a0 := hra4.cell 0
  have a1 := hra4.cell 1
  have a2 := hra4.cell 2
  have a3 := hra4.cell 3
  have a4 := hra4.cell 4
  have hlen : P.length = n := by rw [← HN.out, ← hP, List.length_map]
  obtain ⟨u, hu⟩ := at_map hP HX.out
  obtain ⟨q0, q1, q2, q3, q4⟩ := hC.cells hu
  have dd := pcl_cells (HC2.out.keep hC.bl) HX.out
  have d1 := dd.c1
  have hgb := (hC.o.lt g rfl).1
  have hzz : w.heap.size ≤ w1.heap.size := by omega
  obtain ⟨⟨xi, xu, xp, xl, xs⟩, rfl⟩ : ∃ y : Pc, y = x := ⟨_, rfl⟩
  dsimp only at q0 q1 q2 q3 q4 d1
  have f0 : w4.frozen? ⟨g, p * 5 + 3, none⟩ = false := own_frozen hC.o
  have hC2 := hC.put hlen hu (x' := ⟨xi, xu, xp, d, xs⟩) rfl (o := 3) (by omega) (v := .int .i64 d) rfl
  have hpl := And.intro (hC2.pcl (by rw [List.length_set]; exact hlen)) (hC2.up (N := w.heap.size) (by rw [List.length_set]; exact hlen) hzz)
  rw [List.map_set, hP] at hpl
  have HO := Lib.hid (show Out w (w4.setCell ⟨g, p * 5 + 3, none⟩ (.int .i64 d)) n (.slice (some ⟨g, 0, none⟩) n c) _ from ⟨⟨g, c, rfl, hpl.1⟩, by rw [List.length_set]; exact HN.out, (Gen.over hC.bl hB1).setCell (p := ⟨g, p * 5 + 3, none⟩) (show w.heap.size ≤ g by omega) _, hpl.2⟩)
  clear hC hP hpl hB1 hC2 hu dd hra1 hra4 d1
  go_wp2
  exact bodyPost_ret (v := .tuple #[.slice (some ⟨g, 0, none⟩) n c, .int .i64 0, .int .i64 0]) (by simp [results, Try.results10, go_sem]) rfl ⟨_, rfl, HO.out⟩
set_option maxRecDepth 100000 in
set_option maxHeartbeats 4000000 in
theorem rdo_2 {p : Nat} {x : Pc} {k wh d : Int} (hn : l.length = n) (hc : Pcl w A l) (hv : rgtL l = true) (hx : l[p]? = some x) (hE : doE l ⟨2, p, k, wh, d⟩ = 0) :
    Calls Try.prog 10 #[.slice A n cap, .agg #[.int .i64 2, .int .i64 (p : Int), .int .i64 k, .int .i64 wh, .int .i64 d]] w fun e w' => ∃ v, e = .returned (.tuple #[v, .int .i64 0, .int .i64 0]) ∧ Out w w' n v (l.set p { x with se := wh }) := by
  have hl := (rgtL_in hv).1
  have hp := lt_of_at hx
  have HS := Lib.hid (rgt_size hv)
  have HX := Lib.hid hx
  have HE := Lib.hid hE
  have HN := Lib.hid hn
  have p0 : (0 : Int) ≤ (p : Int) := by omega
  have p1 : (p : Int) < (n : Int) := by omega
  have HSZ : Hid (∀ y ∈ l, y.pd.length ≤ 9223372036854775807) := Lib.hid fun y hy => by have := HS.out y hy; omega
  obtain ⟨b, off, rfl, _⟩ := hc (by omega)
  have hbl : b < w.heap.size := by
    obtain ⟨b', off', e, hcell⟩ := hc (by omega)
    injection e with e
    injection e with e1 e2
    subst e1 e2
    exact World.block_lt_of_cell? _ _ (hcell p x hx).c0
  have hB : Below w.heap.size w (w.alloc (.cells #[.int .i64 2, .int .i64 (p : Int), .int .i64 k, .int .i64 wh, .int .i64 d] 27)) := Gen.b_alloc (Below.refl _ _)
  have hra : Row (w.alloc (.cells #[.int .i64 2, .int .i64 (p : Int), .int .i64 k, .int .i64 wh, .int .i64 d] 27)) w.heap.size 27 #[.int .i64 2, .int .i64 (p : Int), .int .i64 k, .int .i64 wh, .int .i64 d] := Row.new _ _ _
  have hz : w.heap.size + 1 = (w.alloc (.cells #[.int .i64 2, .int .i64 (p : Int), .int .i64 k, .int .i64 wh, .int .i64 d] 27)).heap.size := by simp
  have HC1 := Lib.hid (hc.keep hB)
  have hn1 : n ≤ 1000 := by omega
  clear hE hc hn
  go_enter Try.func10, Try.ntmps10
  go_wp2_with (fail)
  go_must (refine (wrong_any ⟨2, p, k, wh, d⟩ HN.out HC1.out HSZ.out (by omega)).mono ?_)
  rintro e w1 ⟨rfl, hb1⟩
  rw [HE.out]
  have hra1 := hra.keep hb1
  have HC2 := Lib.hid (HC1.out.keep hb1)
  have hB1 := Gen.over hb1 hB
  have z1 := hb1.size
  clear hb1 hra hB
  go_wp2_with (fail)
  go_must (refine (rcopied_any _ n cap l w1 HN.out HC2.out (by omega) (by omega) HS.out).mono ?_)
  rintro e w4 ⟨g, c, P, rfl, hC, hP⟩
  have hra4 := hra1.keep hC.bl
  have a0 := hra4.cell 0
  have a1 := hra4.cell 1
  have a2 := hra4.cell 2
  have a3 := hra4.cell 3
  have a4 := hra4.cell 4
  have hlen : P.length = n := by rw [← HN.out, ← hP, List.length_map]
  obtain ⟨u, hu⟩ := at_map hP HX.out
  obtain ⟨q0, q1, q2, q3, q4⟩ := hC.cells hu
  have dd := pcl_cells (HC2.out.keep hC.bl) HX.out
  have d1 := dd.c1
  have hgb := (hC.o.lt g rfl).1
  have hzz : w.heap.size ≤ w1.heap.size := by omega
  obtain ⟨⟨xi, xu, xp, xl, xs⟩, rfl⟩ : ∃ y : Pc, y = x := ⟨_, rfl⟩
  dsimp only at q0 q1 q2 q3 q4 d1
  have f0 : w4.frozen? ⟨g, p * 5 + 4, none⟩ = false := own_frozen hC.o
  have hC2 := hC.put hlen hu (x' := ⟨xi, xu, xp, xl, wh⟩) rfl (o := 4) (by omega) (v := .int .i64 wh) rfl
  have hpl := And.intro (hC2.pcl (by rw [List.length_set]; exact hlen)) (hC2.up (N := w.heap.size) (by rw [List.length_set]; exact hlen) hzz)
  rw [List.map_set, hP] at hpl
  have HO := Lib.hid (show Out w (w4.setCell ⟨g, p * 5 + 4, none⟩ (.int .i64 wh)) n (.slice (some ⟨g, 0, none⟩) n c) _ from ⟨⟨g, c, rfl, hpl.1⟩, by rw [List.length_set]; exact HN.out, (Gen.over hC.bl hB1).setCell (p := ⟨g, p * 5 + 4, none⟩) (show w.heap.size ≤ g by omega) _, hpl.2⟩)
  clear hC hP hpl hB1 hC2 hu dd hra1 hra4 d1
  go_wp2
  exact bodyPost_ret (v := .tuple #[.slice (some ⟨g, 0, none⟩) n c, .int .i64 0, .int .i64 0]) (by simp [results, Try.results10, go_sem]) rfl ⟨_, rfl, HO.out⟩
set_option maxRecDepth 100000 in
set_option maxHeartbeats 4000000 in
theorem rdo_3 {p : Nat} {x : Pc} {k wh d : Int} (hn : l.length = n) (hc : Pcl w A l) (hv : rgtL l = true) (hx : l[p]? = some x) (hE : doE l ⟨3, p, k, wh, d⟩ = 0) :
    Calls Try.prog 10 #[.slice A n cap, .agg #[.int .i64 3, .int .i64 (p : Int), .int .i64 k, .int .i64 wh, .int .i64 d]] w fun e w' => ∃ v, e = .returned (.tuple #[v, .int .i64 0, .int .i64 0]) ∧ Out w w' n v (l.set p { x with lo := -1, se := -1 }) := by
  have hl := (rgtL_in hv).1
  have hp := lt_of_at hx
  have HS := Lib.hid (rgt_size hv)
  have HX := Lib.hid hx
  have HE := Lib.hid hE
  have HN := Lib.hid hn
  have p0 : (0 : Int) ≤ (p : Int) := by omega
  have p1 : (p : Int) < (n : Int) := by omega
  have HSZ : Hid (∀ y ∈ l, y.pd.length ≤ 9223372036854775807) := Lib.hid fun y hy => by have := HS.out y hy; omega
  obtain ⟨b, off, rfl, _⟩ := hc (by omega)
  have hbl : b < w.heap.size := by
    obtain ⟨b', off', e, hcell⟩ := hc (by omega)
    injection e with e
    injection e with e1 e2
    subst e1 e2
    exact World.block_lt_of_cell? _ _ (hcell p x hx).c0
  have hB : Below w.heap.size w (w.alloc (.cells #[.int .i64 3, .int .i64 (p : Int), .int .i64 k, .int .i64 wh, .int .i64 d] 27)) := Gen.b_alloc (Below.refl _ _)
  have hra : Row (w.alloc (.cells #[.int .i64 3, .int .i64 (p : Int), .int .i64 k, .int .i64 wh, .int .i64 d] 27)) w.heap.size 27 #[.int .i64 3, .int .i64 (p : Int), .int .i64 k, .int .i64 wh, .int .i64 d] := Row.new _ _ _
  have hz : w.heap.size + 1 = (w.alloc (.cells #[.int .i64 3, .int .i64 (p : Int), .int .i64 k, .int .i64 wh, .int .i64 d] 27)).heap.size := by simp
  have HC1 := Lib.hid (hc.keep hB)
  have hn1 : n ≤ 1000 := by omega
  clear hE hc hn
  go_enter Try.func10, Try.ntmps10
  go_wp2_with (fail)
  go_must (refine (wrong_any ⟨3, p, k, wh, d⟩ HN.out HC1.out HSZ.out (by omega)).mono ?_)
  rintro e w1 ⟨rfl, hb1⟩
  rw [HE.out]
  have hra1 := hra.keep hb1
  have HC2 := Lib.hid (HC1.out.keep hb1)
  have hB1 := Gen.over hb1 hB
  have z1 := hb1.size
  clear hb1 hra hB
  go_wp2_with (fail)
  go_must (refine (rcopied_any _ n cap l w1 HN.out HC2.out (by omega) (by omega) HS.out).mono ?_)
  rintro e w4 ⟨g, c, P, rfl, hC, hP⟩
  have hra4 := hra1.keep hC.bl
  have a0 := hra4.cell 0
  have a1 := hra4.cell 1
  have a2 := hra4.cell 2
  have a3 := hra4.cell 3
  have a4 := hra4.cell 4
  have hlen : P.length = n := by rw [← HN.out, ← hP, List.length_map]
  obtain ⟨u, hu⟩ := at_map hP HX.out
  obtain ⟨q0, q1, q2, q3, q4⟩ := hC.cells hu
  have dd := pcl_cells (HC2.out.keep hC.bl) HX.out
  have d1 := dd.c1
  have hgb := (hC.o.lt g rfl).1
  have hzz : w.heap.size ≤ w1.heap.size := by omega
  obtain ⟨⟨xi, xu, xp, xl, xs⟩, rfl⟩ : ∃ y : Pc, y = x := ⟨_, rfl⟩
  dsimp only at q0 q1 q2 q3 q4 d1
  have f0 : w4.frozen? ⟨g, p * 5 + 3, none⟩ = false := own_frozen hC.o
  have hC2 := hC.put hlen hu (x' := ⟨xi, xu, xp, -1, xs⟩) rfl (o := 3) (by omega) (v := .int .i64 (-1)) rfl
  have hu2 : (P.set p ((⟨xi, xu, xp, -1, xs⟩ : Pc), u))[p]? = some (⟨xi, xu, xp, -1, xs⟩, u) := List.getElem?_set_self (by omega)
  have hlen2 : (P.set p ((⟨xi, xu, xp, -1, xs⟩ : Pc), u)).length = n := by rw [List.length_set]; exact hlen
  have hC3 := hC2.put hlen2 hu2 (x' := ⟨xi, xu, xp, -1, -1⟩) rfl (o := 4) (by omega) (v := .int .i64 (-1)) rfl
  obtain ⟨_, _, _, _, r4⟩ := hC2.cells hu2
  have b1 := (hra1.keep hC2.bl).cell 1
  have f1 : (w4.setCell ⟨g, p * 5 + 3, none⟩ (.int .i64 (-1))).frozen? ⟨g, p * 5 + 4, none⟩ = false := own_frozen hC2.o
  have hpl := And.intro (hC3.pcl (by rw [List.length_set]; exact hlen2)) (hC3.up (N := w.heap.size) (by rw [List.length_set]; exact hlen2) hzz)
  rw [List.set_set, List.map_set, hP] at hpl
  have HO := Lib.hid (show Out w ((w4.setCell ⟨g, p * 5 + 3, none⟩ (.int .i64 (-1))).setCell ⟨g, p * 5 + 4, none⟩ (.int .i64 (-1))) n (.slice (some ⟨g, 0, none⟩) n c) _ from ⟨⟨g, c, rfl, hpl.1⟩, by rw [List.length_set]; exact HN.out, ((Gen.over hC.bl hB1).setCell (p := ⟨g, p * 5 + 3, none⟩) (show w.heap.size ≤ g by omega) _).setCell (p := ⟨g, p * 5 + 4, none⟩) (show w.heap.size ≤ g by omega) _, hpl.2⟩)
  clear hC3 hu2
  clear hC hP hpl hB1 hC2 hu dd hra1 hra4 d1
  go_wp2
  exact bodyPost_ret (v := .tuple #[.slice (some ⟨g, 0, none⟩) n c, .int .i64 0, .int .i64 0]) (by simp [results, Try.results10, go_sem]) rfl ⟨_, rfl, HO.out⟩
end Go.Proofs.Ythphlaijkknefaa.Bea
