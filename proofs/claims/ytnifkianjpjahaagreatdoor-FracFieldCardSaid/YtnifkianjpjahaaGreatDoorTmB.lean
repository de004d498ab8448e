/- Texts of one kind joined: the second part. -/
import Derived.Test.YtnifkianjpjahaaGreatDoorTmA
import Derived.Deep.RegionHeld3
import Derived.Deep.DeepCutAuto
/- Big integers: results are kept; fit. -/
namespace Go.Proofs.YtnifkianjpjahaaGreatDoor.Bg
open Go.ChangeShapes Go.WideShapes Go.ChangeAt Go.RowKit Go.Proofs.YtnifkianjpjahaaGreatDoor.Cell
set_option linter.unusedVariables false
set_option linter.unusedSimpArgs false
variable {N0 : Nat}

theorem Fit.of_len {z : Int} {l : List Int} (h : Nm l z.natAbs) (hl : l.length ≤ 60) : Fit z := (Fit.len h).1 hl
theorem IsBig.fit {w : World} {v : Value} {z : Int} (h : IsBig N0 w v z) : Fit z := by
  obtain ⟨A, c, l, _, _, h2, h3⟩ := h.ex
  exact Fit.of_len h2 h3
/-- digits do not lie where there are zeros alone -/
theorem ints_off0 {W W' : World} {A : Option Addr} {l : List Int} {z : Int} {g t : Nat} {cs : Array Value} (h : Cell.Ints W A l) (hl : Nm l z) (r : Row W g t cs) (h0 : ∀ (j : Nat) (x : Int), cs[j]? = some (Value.int .i64 x) → x = 0)
    (hk : ∀ b o : Nat, b ≠ g → W'.cell? ⟨b, o, none⟩ = W.cell? ⟨b, o, none⟩) : Cell.Ints W' A l := fun hp => by
  obtain ⟨b, off, e, hc⟩ := h hp
  have hb : b ≠ g := by
    rintro rfl
    obtain ⟨x, hx⟩ := at_ l (l.length - 1) (by omega)
    have h1 := hc _ x hx
    rw [r.cell] at h1
    have h2 := h0 _ x h1
    have h3 := hl.2.1
    unfold Tr at h3
    rw [List.getLast?_eq_getElem?, hx, h2] at h3
    exact h3 rfl
  exact ⟨b, off, e, fun j x hx => (hk b _ hb).trans (hc j x hx)⟩
theorem Ty.set {N : Nat} {w : World} {A : Option Addr} (h : Ty N w A) (p : Addr) (u : Value) : Ty N (w.setCell p u) A := fun b o s e => by
  rcases h b o s e with h1 | ⟨cs, fr, h1⟩
  · exact .inl h1
  · refine .inr ?_
    by_cases hb : b = p.block
    · subst hb
      exact ⟨_, _, by simp [World.setCell, Array.getElem?_modify, h1]; exact ⟨rfl, rfl⟩⟩
    · exact ⟨cs, fr, (Below.heap_setCell w p u b hb).trans h1⟩
theorem ints_off {W W' : World} {A : Option Addr} {l : List Int} {z : Int} {g t : Nat} {cs : Array Value} (h : Ints N0 W A l) (hl : Nm l z) (r : Row W g t cs) (h0 : ∀ (j : Nat) (x : Int), cs[j]? = some (Value.int .i64 x) → x = 0)
    (hty : ∀ B, Ty N0 W B → Ty N0 W' B) (hk : ∀ b o : Nat, b ≠ g → W'.cell? ⟨b, o, none⟩ = W.cell? ⟨b, o, none⟩) : Ints N0 W' A l := ⟨ints_off0 h.cells hl r h0 hk, fun hp => hty _ (h.ty hp)⟩
theorem IsBig.off {W W' : World} {v : Value} {z : Int} {g t : Nat} {cs : Array Value} (h : IsBig N0 W v z) (r : Row W g t cs) (h0 : ∀ (j : Nat) (x : Int), cs[j]? = some (Value.int .i64 x) → x = 0)
    (hty : ∀ B, Ty N0 W B → Ty N0 W' B) (hk : ∀ b o : Nat, b ≠ g → W'.cell? ⟨b, o, none⟩ = W.cell? ⟨b, o, none⟩) : IsBig N0 W' v z := by
  obtain ⟨A, c, l, e, h1, h2, h3⟩ := h.ex
  exact ⟨A, c, l, e, ints_off h1 h2 r h0 hty hk, h2, h3⟩
theorem zero2 : ∀ (j : Nat) (x : Int), (#[Value.int .i64 0, .slice none 0 0] : Array Value)[j]? = some (Value.int .i64 x) → x = 0
  | 0, x, h => by
    have : (0 : Int) = x := by simpa using h
    omega
  | 1, x, h => by simp at h
  | j + 2, x, h => by simp at h
/-- both cells of a result are written -/
theorem set2_keep (W : World) (g : Nat) (u v : Value) : ∀ b o : Nat, b ≠ g → ((W.setCell ⟨g, 0, none⟩ u).setCell ⟨g, 1, none⟩ v).cell? ⟨b, o, none⟩ = W.cell? ⟨b, o, none⟩ := fun b o hb => by
  rw [World.cell?_setCell_other _ _ _ _ (fun e => hb (by injection e with e1; exact e1.symm)), World.cell?_setCell_other _ _ _ _ (fun e => hb (by injection e with e1; exact e1.symm))]
/-- a result's cells -/
structure Res (w W : World) (g : Nat) : Prop where
  row : Row W g 24 #[.int .i64 0, .slice none 0 0]
  bl : Below w.heap.size w W
  lo : w.heap.size ≤ g
theorem Res.new {w W : World} (h : Below w.heap.size w W) : Res w (W.alloc (.cells #[.int .i64 0, .slice none 0 0] 24)) W.heap.size := ⟨Row.new _ _ _, Gen.b_alloc h, h.size⟩
theorem Res.keep {w W W' : World} {g : Nat} (h : Res w W g) (hb : Below W.heap.size W W') : Res w W' g := ⟨h.row.keep hb, Gen.over hb h.bl, h.lo⟩
theorem Res.c0 {w W : World} {g : Nat} (h : Res w W g) : W.cell? ⟨g, 0, none⟩ = some (.int .i64 0) := h.row.cell 0
theorem Res.c1 {w W : World} {g : Nat} (h : Res w W g) : W.cell? ⟨g, 1, none⟩ = some (.slice none 0 0) := h.row.cell 1
theorem Res.put {w W : World} {g : Nat} (h : Res w W g) (u v : Value) : Below w.heap.size w ((W.setCell ⟨g, 0, none⟩ u).setCell ⟨g, 1, none⟩ v) := (h.bl.setCell (p := ⟨g, 0, none⟩) h.lo u).setCell (p := ⟨g, 1, none⟩) h.lo v
theorem Res.big {w W : World} {g : Nat} {x : Value} {z : Int} (h : Res w W g) (hx : IsBig N0 W x z) (u v : Value) : IsBig N0 ((W.setCell ⟨g, 0, none⟩ u).setCell ⟨g, 1, none⟩ v) x z := hx.off h.row zero2 (fun _ ht => (ht.set _ _).set _ _) (set2_keep W g u v)
set_option maxRecDepth 100000 in
set_option maxHeartbeats 4000000 in
theorem fit_any {s z : Int} {A : Option Addr} {n c : Nat} {l : List Int} (w : World) (hn : l.length = n) (hc : Ints N0 w A l) (hl : Nm l z.natAbs) (hbig : n ≤ 1000) (hs : z ≠ 0 → s = sg z) :
    Calls Tryz.prog 72 #[.int .i64 s, .slice A n c] w fun e w' => ∃ v, e = .returned (.tuple #[v, .int .i64 (fe z)]) ∧ IsBig N0 w' v (fz z) ∧ Below w.heap.size w w' := by
  have HR0 := Lib.hid (Res.new (Below.refl w.heap.size w))
  by_cases h60 : n ≤ 60
  · have hf : Fit z := Fit.of_len hl (by omega)
    rw [fz_yes hf, fe_yes hf]
    have h60I : ¬ ((60 : Int) < (n : Int)) := by omega
    go_enter Tryz.func72, Tryz.ntmps72
    go_wp2_with (fail)
    go_must (refine (signed_any _ hn (hc.keep (Gen.b_alloc (Below.refl _ _))) hl h60 hs).mono ?_)
    rintro e w2 ⟨v, rfl, hv, hb2⟩
    obtain ⟨A3, c3, l3, rfl, _⟩ := hv.ex
    have HR := Lib.hid (HR0.out.keep hb2)
    have HV := Lib.hid hv
    have d0 := HR.out.c0
    have d1 := HR.out.c1
    have f0 := HR.out.row.frozen 0
    have f1 := HR.out.row.frozen 1
    have hg := HR.out.row.lt
    clear hn hc hl hs hf hb2 hv HR0
    go_wp2
    refine bodyPost_ret (v := .tuple #[bigV (sg z) A3 l3.length c3, .int .i64 0]) ?_ rfl ⟨_, rfl, HR.out.big HV.out _ _, HR.out.put _ _⟩
    simp [results, Tryz.results72, go_sem, *]
  · have hf : ¬ Fit z := fun h => h60 (by rw [← hn]; exact (Fit.len hl).2 h)
    rw [fz_no hf, fe_no hf]
    have h60I : (60 : Int) < (n : Int) := by omega
    clear hn hc hl hs hf
    go_enter Tryz.func72, Tryz.ntmps72
    go_wp2
    refine bodyPost_ret (v := .tuple #[zeroV, .int .i64 6]) ?_ rfl ⟨_, rfl, IsBig.zero _, by go_grown⟩
    simp [results, Tryz.results72, go_sem]
end Go.Proofs.YtnifkianjpjahaaGreatDoor.Bg
/- Big integers: sum. -/
namespace Go.Proofs.YtnifkianjpjahaaGreatDoor.Bg
open Go.ChangeShapes Go.WideShapes Go.ChangeAt Go.RowKit Go.Proofs.YtnifkianjpjahaaGreatDoor.Cell
set_option linter.unusedVariables false
set_option linter.unusedSimpArgs false
variable {N0 : Nat}

theorem sg_neg {z : Int} (h : z < 0) : sg z = -1 := if_pos h
theorem sg_pos {z : Int} (h : 0 < z) : sg z = 1 := (if_neg (by omega)).trans (if_pos h)
theorem sg_cases (z : Int) : (z < 0 ∧ sg z = -1) ∨ (z = 0 ∧ sg z = 0) ∨ (0 < z ∧ sg z = 1) := by
  rcases Int.lt_trichotomy z 0 with h | h | h
  · exact .inl ⟨h, sg_neg h⟩
  · subst h; exact .inr (.inl ⟨rfl, rfl⟩)
  · exact .inr (.inr ⟨h, sg_pos h⟩)
theorem Nm.to {l : List Int} {z z' : Int} (h : Nm l z) (e : z = z') : Nm l z' := e ▸ h
theorem Nm.le {l : List Int} {z : Int} (h : Nm l z) (hz : z < pw 60 + pw 60) : l.length ≤ 61 := (h.len 61).2 (by rw [pw_succ 60]; have := pw_pos 60; omega)
abbrev boxW (w : World) (x : Int) (A : Option Addr) (n c : Nat) : World := (w.alloc (.cells #[.int .i64 (sg x), .slice A n c] 24)).alloc (.cells #[.int .i64 0, .slice none 0 0] 24)
theorem boxW_bl (w : World) (x : Int) (A : Option Addr) (n c : Nat) : Below w.heap.size w (boxW w x A n c) := Gen.b_alloc (Gen.b_alloc (Below.refl _ _))
theorem boxW_res (w : World) (x : Int) (A : Option Addr) (n c : Nat) : Res w (boxW w x A n c) (w.heap.size + 1) := by
  have h := Res.new (w := w) (W := w.alloc (.cells #[.int .i64 (sg x), .slice A n c] 24)) (Gen.b_alloc (Below.refl _ _))
  rwa [World.size_alloc] at h
section
variable {x y : Int} {A A' : Option Addr} {n n' c c' : Nat} {a b : List Int}
set_option maxRecDepth 100000 in
set_option maxHeartbeats 4000000 in
theorem sum_c (w : World) (hn : a.length = n) (hn' : b.length = n') (ha : Ints N0 w A a) (hb : Ints N0 w A' b) (na : Nm a x.natAbs) (nb : Nm b y.natAbs) (h60 : n ≤ 60) (h60' : n' ≤ 60) (h0 : sg y ≠ 0) (hs : sg x = sg y) :
    Calls Tryz.prog 66 #[bigV (sg x) A n c, .int .i64 (sg y), .slice A' n' c'] w fun e w' => ∃ v, e = .returned (.tuple #[v, .int .i64 (fe (x + y))]) ∧ IsBig N0 w' v (fz (x + y)) ∧ Below w.heap.size w w' := by
  have HR0 := Lib.hid (boxW_res w x A n c)
  have HB0 := Lib.hid (boxW_bl w x A n c)
  have hx := sg_cases x
  have hy := sg_cases y
  have HN : Hid (∀ l, Nm l (val a + val b) → Nm l (x + y).natAbs) := Lib.hid fun l h => h.to (by rw [na.2.2, nb.2.2]; omega)
  have HS : Hid (x + y ≠ 0 → sg y = sg (x + y)) := Lib.hid fun _ => by have := sg_cases (x + y); omega
  have HL : Hid (∀ l, Nm l (val a + val b) → l.length ≤ 1000) := Lib.hid fun l h => by
    have h1 := (na.len 60).1 (by omega)
    have h2 := (nb.len 60).1 (by omega)
    have := Nm.le h (by rw [na.2.2, nb.2.2]; omega)
    omega
  have hs0 : (sg y == 0) = false := by simpa using h0
  have hs1 : (sg x == 0) = false := by rw [hs]; exact hs0
  have hs2 : (sg x == sg y) = true := by simpa using hs
  clear hx hy
  obtain ⟨s, hsx⟩ : ∃ s, sg x = s := ⟨_, rfl⟩
  obtain ⟨s', hsy⟩ : ∃ s, sg y = s := ⟨_, rfl⟩
  rw [hsy] at hs0 hs2 HS
  rw [hsx] at hs1 hs2
  unfold boxW at HR0 HB0
  rw [hsx] at HR0 HB0
  rw [hsx, hsy]
  clear h0 hs hsx hsy
  go_enter Tryz.func66, Tryz.ntmps66
  go_wp2_with (fail)
  go_must (refine (add_any _ hn hn' (ha.keep HB0.out) (hb.keep HB0.out) na.1 nb.1 na.2.1 nb.2.1 (by omega) (by omega)).mono ?_)
  rintro e w2 ⟨A2, c2, l2, rfl, hI2, hN2, hb2⟩
  have HR2 := Lib.hid (HR0.out.keep hb2)
  have HL2 := HL.out l2 hN2
  clear hb2 HR0
  go_wp2_with (fail)
  go_must (refine (fit_any _ rfl hI2 (HN.out _ hN2) HL2 HS.out).mono ?_)
  rintro e w3 ⟨v, rfl, hv, hb3⟩
  clear hI2 hN2 hn hn' ha hb na nb HB0
  obtain ⟨A3, c3, l3, rfl, _⟩ := hv.ex
  have HR := Lib.hid (HR2.out.keep hb3)
  have HV := Lib.hid hv
  have d0 := HR.out.c0
  have d1 := HR.out.c1
  have f0 := HR.out.row.frozen 0
  have f1 := HR.out.row.frozen 1
  have hg := HR.out.row.lt
  clear hb3 hv HR2
  go_wp2
  refine bodyPost_ret (v := .tuple #[bigV (sg (fz (x + y))) A3 l3.length c3, .int .i64 (fe (x + y))]) ?_ rfl ⟨_, rfl, HR.out.big HV.out _ _, HR.out.put _ _⟩
  simp [results, Tryz.results66, go_sem, *]
set_option maxRecDepth 100000 in
set_option maxHeartbeats 4000000 in
theorem sum_d (w : World) (hn : a.length = n) (hn' : b.length = n') (ha : Ints N0 w A a) (hb : Ints N0 w A' b) (na : Nm a x.natAbs) (nb : Nm b y.natAbs) (h60 : n ≤ 60) (h60' : n' ≤ 60) (h0 : sg y ≠ 0) (h1 : sg x ≠ 0) (hs : sg x ≠ sg y) (hlt : val a < val b) :
    Calls Tryz.prog 66 #[bigV (sg x) A n c, .int .i64 (sg y), .slice A' n' c'] w fun e w' => ∃ v, e = .returned (.tuple #[v, .int .i64 (fe (x + y))]) ∧ IsBig N0 w' v (fz (x + y)) ∧ Below w.heap.size w w' := by
  have HR0 := Lib.hid (boxW_res w x A n c)
  have HB0 := Lib.hid (boxW_bl w x A n c)
  have hx := sg_cases x
  have hy := sg_cases y
  have HN : Hid (∀ l, Nm l (val b - val a) → Nm l (x + y).natAbs) := Lib.hid fun l h => h.to (by rw [na.2.2, nb.2.2] at hlt ⊢; omega)
  have HS : Hid (x + y ≠ 0 → sg y = sg (x + y)) := Lib.hid fun _ => by have := sg_cases (x + y); rw [na.2.2, nb.2.2] at hlt; omega
  have HL : Hid (∀ l, Nm l (val b - val a) → l.length ≤ 1000) := Lib.hid fun l h => by
    have h1 := (na.len 60).1 (by omega)
    have h2 := (nb.len 60).1 (by omega)
    have := Nm.le h (by rw [na.2.2, nb.2.2]; omega)
    omega
  have hs0 : (sg y == 0) = false := by simpa using h0
  have hs1 : (sg x == 0) = false := by simpa using h1
  have hs2 : (sg x == sg y) = false := by simpa using hs
  have HC := Lib.hid (cmpI_lt hlt)
  have HLEN : Hid (n ≤ n') := Lib.hid (by
    by_cases h : n ≤ n'
    · exact h
    · have := val_len_lt nb.1 na.1 na.2.1 (by omega)
      omega)
  have HLE : Hid (val a ≤ val b) := Lib.hid (by omega)
  clear hx hy
  obtain ⟨s, hsx⟩ : ∃ s, sg x = s := ⟨_, rfl⟩
  obtain ⟨s', hsy⟩ : ∃ s, sg y = s := ⟨_, rfl⟩
  rw [hsy] at hs0 hs2 HS
  rw [hsx] at hs1 hs2
  unfold boxW at HR0 HB0
  rw [hsx] at HR0 HB0
  rw [hsx, hsy]
  clear h0 h1 hs hsx hsy hlt
  go_enter Tryz.func66, Tryz.ntmps66
  go_wp2_with (fail)
  go_must (refine (compare_any _ hn hn' (ha.keep HB0.out) (hb.keep HB0.out) na.1 nb.1 na.2.1 nb.2.1 (by omega) (by omega)).mono ?_)
  rintro e w1 ⟨rfl, q, rfl⟩
  rw [HC.out]
  go_wp2_with (fail)
  go_must (refine (sub_any _ hn' hn ((hb.keep HB0.out).keep (Gen.dN (Below.refl _ _) q)) ((ha.keep HB0.out).keep (Gen.dN (Below.refl _ _) q)) nb.1 na.1 HLEN.out HLE.out (by omega)).mono ?_)
  rintro e w2 ⟨A2, c2, l2, rfl, hI2, hN2, hb2⟩
  have HR2 := Lib.hid ((HR0.out.keep (Gen.dN (Below.refl _ _) q)).keep hb2)
  have HL2 := HL.out l2 hN2
  clear hb2 HR0
  go_wp2_with (fail)
  go_must (refine (fit_any _ rfl hI2 (HN.out _ hN2) HL2 HS.out).mono ?_)
  rintro e w3 ⟨v, rfl, hv, hb3⟩
  clear hI2 hN2 hn hn' ha hb na nb HB0
  obtain ⟨A3, c3, l3, rfl, _⟩ := hv.ex
  have HR := Lib.hid (HR2.out.keep hb3)
  have HV := Lib.hid hv
  have d0 := HR.out.c0
  have d1 := HR.out.c1
  have f0 := HR.out.row.frozen 0
  have f1 := HR.out.row.frozen 1
  have hg := HR.out.row.lt
  clear hb3 hv HR2
  go_wp2
  refine bodyPost_ret (v := .tuple #[bigV (sg (fz (x + y))) A3 l3.length c3, .int .i64 (fe (x + y))]) ?_ rfl ⟨_, rfl, HR.out.big HV.out _ _, HR.out.put _ _⟩
  simp [results, Tryz.results66, go_sem, *]
set_option maxRecDepth 100000 in
set_option maxHeartbeats 4000000 in
theorem sum_b (w : World) (hn : a.length = n) (hn' : b.length = n') (ha : Ints N0 w A a) (hb : Ints N0 w A' b) (na : Nm a x.natAbs) (nb : Nm b y.natAbs) (h60 : n ≤ 60) (h60' : n' ≤ 60) (h0 : sg y ≠ 0) (h1 : sg x = 0) :
    Calls Tryz.prog 66 #[bigV (sg x) A n c, .int .i64 (sg y), .slice A' n' c'] w fun e w' => ∃ v, e = .returned (.tuple #[v, .int .i64 (fe (x + y))]) ∧ IsBig N0 w' v (fz (x + y)) ∧ Below w.heap.size w w' := by
  have HR0 := Lib.hid (boxW_res w x A n c)
  have HB0 := Lib.hid (boxW_bl w x A n c)
  have hx := sg_cases x
  have hx0 : x = 0 := by omega
  have HNB : Hid (Nm b (x + y).natAbs) := Lib.hid (nb.to (by omega))
  have HS : Hid (x + y ≠ 0 → sg y = sg (x + y)) := Lib.hid fun _ => by rw [hx0, Int.zero_add]
  have hf : Fit (x + y) := by rw [hx0, Int.zero_add]; exact Fit.of_len nb (by omega)
  rw [fe_yes hf, fz_yes hf]
  have hs0 : (sg y == 0) = false := by simpa using h0
  have hs1 : (sg x == 0) = true := by simpa using h1
  clear hx hx0 hf
  obtain ⟨s, hsx⟩ : ∃ s, sg x = s := ⟨_, rfl⟩
  obtain ⟨s', hsy⟩ : ∃ s, sg y = s := ⟨_, rfl⟩
  rw [hsy] at hs0 HS
  rw [hsx] at hs1
  unfold boxW at HR0 HB0
  rw [hsx] at HR0 HB0
  rw [hsx, hsy]
  clear h0 h1 hsx hsy na nb ha hn
  go_enter Tryz.func66, Tryz.ntmps66
  go_wp2_with (fail)
  go_must (refine (clone_any _ hn' (hb.keep HB0.out) (by omega)).mono ?_)
  rintro e w2 ⟨A2, c2, rfl, hI2, hb2⟩
  have HR2 := Lib.hid (HR0.out.keep hb2)
  clear hb2 HR0
  go_wp2_with (fail)
  go_must (refine (signed_any _ hn' hI2 HNB.out (by omega) HS.out).mono ?_)
  rintro e w3 ⟨v, rfl, hv, hb3⟩
  clear hI2 hn' hb HB0
  obtain ⟨A3, c3, l3, rfl, _⟩ := hv.ex
  have HR := Lib.hid (HR2.out.keep hb3)
  have HV := Lib.hid hv
  have d0 := HR.out.c0
  have d1 := HR.out.c1
  have f0 := HR.out.row.frozen 0
  have f1 := HR.out.row.frozen 1
  have hg := HR.out.row.lt
  clear hb3 hv HR2
  go_wp2
  refine bodyPost_ret (v := .tuple #[bigV (sg (x + y)) A3 l3.length c3, .int .i64 0]) ?_ rfl ⟨_, rfl, HR.out.big HV.out _ _, HR.out.put _ _⟩
  simp [results, Tryz.results66, go_sem, *]
end
end Go.Proofs.YtnifkianjpjahaaGreatDoor.Bg
/- Big integers: sum, where the order of evaluation is open. -/
namespace Go.Proofs.YtnifkianjpjahaaGreatDoor.Bg
open Go.ChangeShapes Go.WideShapes Go.ChangeAt Go.RowKit Go.Proofs.YtnifkianjpjahaaGreatDoor.Cell
set_option linter.unusedVariables false
set_option linter.unusedSimpArgs false
variable {N0 : Nat}

section
variable {x y : Int} {A A' : Option Addr} {n n' c c' : Nat} {a b : List Int}
theorem put_cell {w W : World} {g : Nat} (h : Res w W g) (u v : Value) {b o : Nat} {x : Value} (hb : b ≠ g) (hc : W.cell? ⟨b, o, none⟩ = some x) : ((W.setCell ⟨g, 0, none⟩ u).setCell ⟨g, 1, none⟩ v).cell? ⟨b, o, none⟩ = some x :=
  (set2_keep W g u v b o hb).trans hc
theorem boxW_0 (w : World) (x : Int) (A : Option Addr) (n c : Nat) : (boxW w x A n c).cell? ⟨w.heap.size, 0, none⟩ = some (.int .i64 (sg x)) := ((Row.new w 24 #[.int .i64 (sg x), .slice A n c]).alloc _).cell 0
theorem boxW_1 (w : World) (x : Int) (A : Option Addr) (n c : Nat) : (boxW w x A n c).cell? ⟨w.heap.size, 1, none⟩ = some (.slice A n c) := ((Row.new w 24 #[.int .i64 (sg x), .slice A n c]).alloc _).cell 1
set_option maxRecDepth 100000 in
set_option maxHeartbeats 4000000 in
theorem sum_a (w : World) (hn : a.length = n) (hn' : b.length = n') (ha : Ints N0 w A a) (hb : Ints N0 w A' b) (na : Nm a x.natAbs) (nb : Nm b y.natAbs) (h60 : n ≤ 60) (h60' : n' ≤ 60) (h0 : sg y = 0) :
    Calls Tryz.prog 66 #[bigV (sg x) A n c, .int .i64 (sg y), .slice A' n' c'] w fun e w' => ∃ v, e = .returned (.tuple #[v, .int .i64 (fe (x + y))]) ∧ IsBig N0 w' v (fz (x + y)) ∧ Below w.heap.size w w' := by
  have HR0 := Lib.hid (boxW_res w x A n c)
  have HB0 := Lib.hid (boxW_bl w x A n c)
  have hy := sg_cases y
  have hy0 : y = 0 := by omega
  have HNA : Hid (Nm a (x + y).natAbs) := Lib.hid (na.to (by omega))
  have HS : Hid (x + y ≠ 0 → sg x = sg (x + y)) := Lib.hid fun _ => by rw [hy0, Int.add_zero]
  have hf : Fit (x + y) := by rw [hy0, Int.add_zero]; exact Fit.of_len na (by omega)
  rw [fe_yes hf, fz_yes hf]
  have hs0 : (sg y == 0) = true := by simpa using h0
  have C0 := Lib.hid (boxW_0 w x A n c)
  have C1 := Lib.hid (boxW_1 w x A n c)
  clear hy hy0 hf
  obtain ⟨s, hsx⟩ : ∃ s, sg x = s := ⟨_, rfl⟩
  obtain ⟨s', hsy⟩ : ∃ s, sg y = s := ⟨_, rfl⟩
  rw [hsy] at hs0
  rw [hsx] at HS
  unfold boxW at HR0 HB0 C0 C1
  rw [hsx] at HR0 HB0 C0 C1
  rw [hsx, hsy]
  clear h0 hsx hsy na nb hb hn'
  go_enter Tryz.func66, Tryz.ntmps66
  go_wp2_with (fail)
  go_region_held3 (fun W' : World => Below w.heap.size w W' ∧ W'.cell? ⟨w.heap.size, 0, none⟩ = some (.int .i64 s) ∧ W'.cell? ⟨w.heap.size, 1, none⟩ = some (.slice A n c))
    (first | exact ⟨HB0.out.drew, C0.out, C1.out⟩ | exact ⟨Gen.over (by assumption) (And.left (by assumption)), Gen.keep (by assumption) (And.left (And.right (by assumption))), Gen.keep (by assumption) (And.right (And.right (by assumption)))⟩ | exact ⟨Res.put (by assumption) _ _, put_cell (by assumption) _ _ (by omega) (And.left (And.right (by assumption))), put_cell (by assumption) _ _ (by omega) (And.right (And.right (by assumption)))⟩)
    (first
      | (go_at_call 87; refine (clone_any _ hn (ha.keep (And.left (by assumption))) (by omega)).mono ?_; rintro e' w' ⟨A2, c2, rfl, hI2, hb2⟩; have hR2 := (HR0.out.keep (Below.refl _ _).drew).keep hb2)
      | (go_at_call 78; refine (signed_any _ hn hI2 HNA.out (by omega) HS.out).mono ?_; rintro e' w' ⟨v, rfl, hv, hb3⟩; obtain ⟨A3, c3, l3, rfl, _⟩ := hv.ex; have hR3 := hR2.keep hb3; have d0 := hR3.c0; have d1 := hR3.c1; have f0 := hR3.row.frozen 0; have f1 := hR3.row.frozen 1; have hg := hR3.row.lt))
  all_goals
    go_wp2
    refine bodyPost_ret (v := .tuple #[bigV (sg (x + y)) A3 l3.length c3, .int .i64 0]) ?_ rfl ⟨_, rfl, hR3.big hv _ _, hR3.put _ _⟩
    simp [results, Tryz.results66, go_sem, *]
set_option maxRecDepth 100000 in
set_option maxHeartbeats 4000000 in
theorem sum_e (w : World) (hn : a.length = n) (hn' : b.length = n') (ha : Ints N0 w A a) (hb : Ints N0 w A' b) (na : Nm a x.natAbs) (nb : Nm b y.natAbs) (h60 : n ≤ 60) (h60' : n' ≤ 60) (h0 : sg y ≠ 0) (h1 : sg x ≠ 0) (hs : sg x ≠ sg y) (hlt : val b ≤ val a) :
    Calls Tryz.prog 66 #[bigV (sg x) A n c, .int .i64 (sg y), .slice A' n' c'] w fun e w' => ∃ v, e = .returned (.tuple #[v, .int .i64 (fe (x + y))]) ∧ IsBig N0 w' v (fz (x + y)) ∧ Below w.heap.size w w' := by
  have HR0 := Lib.hid (boxW_res w x A n c)
  have HB0 := Lib.hid (boxW_bl w x A n c)
  have hx := sg_cases x
  have hy := sg_cases y
  have HN : Hid (∀ l, Nm l (val a - val b) → Nm l (x + y).natAbs) := Lib.hid fun l h => h.to (by rw [na.2.2, nb.2.2] at hlt ⊢; omega)
  have HS : Hid (x + y ≠ 0 → sg x = sg (x + y)) := Lib.hid fun _ => by have := sg_cases (x + y); rw [na.2.2, nb.2.2] at hlt; omega
  have HL : Hid (∀ l, Nm l (val a - val b) → l.length ≤ 1000) := Lib.hid fun l h => by
    have h1 := (na.len 60).1 (by omega)
    have h2 := (nb.len 60).1 (by omega)
    have := Nm.le h (by rw [na.2.2, nb.2.2]; omega)
    omega
  have hs0 : (sg y == 0) = false := by simpa using h0
  have hs1 : (sg x == 0) = false := by simpa using h1
  have hs2 : (sg x == sg y) = false := by simpa using hs
  have C0 := Lib.hid (boxW_0 w x A n c)
  have C1 := Lib.hid (boxW_1 w x A n c)
  have HC : Hid (decide (cmpI (val a) (val b) < 0) = false) := Lib.hid (decide_eq_false (by
    unfold cmpI
    rw [if_neg (by omega)]
    split <;> omega))
  have HCP : Hid (∃ k, cmpI (val a) (val b) = k ∧ ¬ (k < 0)) := Lib.hid ⟨_, rfl, of_decide_eq_false HC.out⟩
  have HLEN : Hid (n' ≤ n) := Lib.hid (by
    by_cases h : n' ≤ n
    · exact h
    · have := val_len_lt na.1 nb.1 nb.2.1 (by omega)
      omega)
  have HLE := Lib.hid hlt
  clear hx hy HC
  obtain ⟨s, hsx⟩ : ∃ s, sg x = s := ⟨_, rfl⟩
  obtain ⟨s', hsy⟩ : ∃ s, sg y = s := ⟨_, rfl⟩
  rw [hsy] at hs0 hs2
  rw [hsx] at hs1 hs2 HS
  unfold boxW at HR0 HB0 C0 C1
  rw [hsx] at HR0 HB0 C0 C1
  rw [hsx, hsy]
  clear h0 h1 hs hsx hsy hlt
  go_enter Tryz.func66, Tryz.ntmps66
  go_wp2_with (fail)
  go_must (refine (compare_any _ hn hn' (ha.keep HB0.out) (hb.keep HB0.out) na.1 nb.1 na.2.1 nb.2.1 (by omega) (by omega)).mono ?_)
  rintro e w1 ⟨rfl, q, rfl⟩
  obtain ⟨k, hk, hk0⟩ := HCP.out
  rw [hk]
  clear hk HCP
  go_wp2_with (fail)
  go_region_held3 (fun W' : World => Below w.heap.size w W' ∧ W'.cell? ⟨w.heap.size, 0, none⟩ = some (.int .i64 s) ∧ W'.cell? ⟨w.heap.size, 1, none⟩ = some (.slice A n c))
    (first | exact ⟨(Gen.dN HB0.out _).drew, C0.out, C1.out⟩ | exact ⟨Gen.over (by assumption) (And.left (by assumption)), Gen.keep (by assumption) (And.left (And.right (by assumption))), Gen.keep (by assumption) (And.right (And.right (by assumption)))⟩ | exact ⟨Res.put (by assumption) _ _, put_cell (by assumption) _ _ (by omega) (And.left (And.right (by assumption))), put_cell (by assumption) _ _ (by omega) (And.right (And.right (by assumption)))⟩)
    (first
      | (go_at_call 77; refine (sub_any _ hn hn' (ha.keep (And.left (by assumption))) (hb.keep (And.left (by assumption))) na.1 nb.1 HLEN.out HLE.out (by omega)).mono ?_; rintro e' w' ⟨A2, c2, l2, rfl, hI2, hN2, hb2⟩; have hR2 := (HR0.out.keep (Gen.dN (Below.refl _ _) q).drew).keep hb2)
      | (go_at_call 72; refine (fit_any _ rfl hI2 (HN.out _ hN2) (HL.out _ hN2) HS.out).mono ?_; rintro e' w' ⟨v, rfl, hv, hb3⟩; obtain ⟨A3, c3, l3, rfl, _⟩ := hv.ex; have hR3 := hR2.keep hb3; have d0 := hR3.c0; have d1 := hR3.c1; have f0 := hR3.row.frozen 0; have f1 := hR3.row.frozen 1; have hg := hR3.row.lt))
  all_goals
    go_wp2
    refine bodyPost_ret (v := .tuple #[bigV (sg (fz (x + y))) A3 l3.length c3, .int .i64 (fe (x + y))]) ?_ rfl ⟨_, rfl, hR3.big hv _ _, hR3.put _ _⟩
    simp [results, Tryz.results66, go_sem, *]
theorem sum_any {va : Value} (w : World) (hx : IsBig N0 w va x) (hn' : b.length = n') (hb : Ints N0 w A' b) (nb : Nm b y.natAbs) (h60' : n' ≤ 60) :
    Calls Tryz.prog 66 #[va, .int .i64 (sg y), .slice A' n' c'] w fun e w' => ∃ v, e = .returned (.tuple #[v, .int .i64 (fe (x + y))]) ∧ IsBig N0 w' v (fz (x + y)) ∧ Below w.heap.size w w' := by
  obtain ⟨A, c, a, rfl, ha, na, h60⟩ := hx.ex
  by_cases h0 : sg y = 0
  · exact sum_a w rfl hn' ha hb na nb h60 h60' h0
  by_cases h1 : sg x = 0
  · exact sum_b w rfl hn' ha hb na nb h60 h60' h0 h1
  by_cases hs : sg x = sg y
  · exact sum_c w rfl hn' ha hb na nb h60 h60' h0 hs
  by_cases hlt : val a < val b
  · exact sum_d w rfl hn' ha hb na nb h60 h60' h0 h1 hs hlt
  · exact sum_e w rfl hn' ha hb na nb h60 h60' h0 h1 hs (by omega)
end
end Go.Proofs.YtnifkianjpjahaaGreatDoor.Bg
/- Big integers: Right, Add, Sub, Compare, Same by value. -/
namespace Go.Proofs.YtnifkianjpjahaaGreatDoor.Bg
open Go.ChangeShapes Go.WideShapes Go.ChangeAt Go.RowKit Go.Proofs.YtnifkianjpjahaaGreatDoor.Cell
set_option linter.unusedVariables false
set_option linter.unusedSimpArgs false
variable {N0 : Nat}

theorem right_val {w : World} {v : Value} {x : Int} (h : IsBig N0 w v x) : Calls Tryz.prog 26 #[v] w fun e w' => e = .returned (.bool true) ∧ Below w.heap.size w w' := by
  obtain ⟨A, c, l, rfl, h1, h2, h3⟩ := h.ex
  refine (right_any (sg x) A l.length c l w rfl h1 (by omega)).mono fun e w' h => ?_
  rwa [IsBig.right (A := A) (n := l.length) (c := c) (w := w) rfl h2 h3] at h
theorem big_inj {a b : List Int} {x y : Int} (ha : Nm a x.natAbs) (hb : Nm b y.natAbs) : (sg x = sg y ∧ a = b) ↔ x = y := by
  constructor
  · rintro ⟨h1, rfl⟩
    have h2 := ha.2.2
    have h3 := hb.2.2
    rw [sg_eq x, sg_eq y, h1]
    congr 1
    omega
  · rintro rfl
    exact ⟨rfl, ha.uniq hb⟩
abbrev box2 (w : World) (s : Int) (A : Option Addr) (n c : Nat) (s' : Int) (A' : Option Addr) (n' c' : Nat) : World := (w.alloc (.cells #[.int .i64 s, .slice A n c] 24)).alloc (.cells #[.int .i64 s', .slice A' n' c'] 24)
section
variable {w : World} {s s' : Int} {A A' : Option Addr} {n n' c c' : Nat}
theorem box2_bl : Below w.heap.size w (box2 w s A n c s' A' n' c') := Gen.b_alloc (Gen.b_alloc (Below.refl _ _))
theorem box2_r0 : Row (box2 w s A n c s' A' n' c') w.heap.size 24 #[.int .i64 s, .slice A n c] := (Row.new _ _ _).alloc _
theorem box2_r1 : Row (box2 w s A n c s' A' n' c') (w.heap.size + 1) 24 #[.int .i64 s', .slice A' n' c'] := by
  have h := Row.new (w.alloc (.cells #[.int .i64 s, .slice A n c] 24)) 24 #[.int .i64 s', .slice A' n' c']
  rwa [World.size_alloc] at h
theorem box3_res : Res w ((box2 w s A n c s' A' n' c').alloc (.cells #[.int .i64 0, .slice none 0 0] 24)) (w.heap.size + 1 + 1) := by
  have h := Res.new (w := w) (W := box2 w s A n c s' A' n' c') box2_bl
  rwa [World.size_alloc, World.size_alloc] at h
end
section
variable {x y : Int} {va vb : Value}
set_option maxRecDepth 100000 in
set_option maxHeartbeats 4000000 in
theorem add_val (w : World) (hx : IsBig N0 w va x) (hy : IsBig N0 w vb y) :
    Calls Tryz.prog 11 #[va, vb] w fun e w' => ∃ v, e = .returned (.tuple #[v, .int .i64 (fe (x + y))]) ∧ IsBig N0 w' v (fz (x + y)) ∧ Below w.heap.size w w' := by
  obtain ⟨A, c, a, rfl, ha, na, h60⟩ := hx.ex
  obtain ⟨A', c', b, rfl, hb, nb, h60'⟩ := hy.ex
  obtain ⟨n, hn⟩ : ∃ n, a.length = n := ⟨_, rfl⟩
  obtain ⟨n', hn'⟩ : ∃ n, b.length = n := ⟨_, rfl⟩
  rw [hn] at hx h60 ⊢
  rw [hn'] at hy h60' ⊢
  have HX := Lib.hid hx
  have HY := Lib.hid hy
  have HBB := Lib.hid hb
  have HNB := Lib.hid nb
  have HN' := Lib.hid hn'
  have HR0 := Lib.hid (box3_res (w := w) (s := sg x) (A := A) (n := n) (c := c) (s' := sg y) (A' := A') (n' := n') (c' := c'))
  have R0 := Lib.hid (Row.alloc (box2_r0 (w := w) (s := sg x) (A := A) (n := n) (c := c) (s' := sg y) (A' := A') (n' := n') (c' := c')) (.cells #[.int .i64 0, .slice none 0 0] 24))
  have R1 := Lib.hid (Row.alloc (box2_r1 (w := w) (s := sg x) (A := A) (n := n) (c := c) (s' := sg y) (A' := A') (n' := n') (c' := c')) (.cells #[.int .i64 0, .slice none 0 0] 24))
  unfold box2 at HR0 R0 R1
  clear hx hy ha hb na nb hn hn' h60
  go_enter Tryz.func11, Tryz.ntmps11
  go_wp2_with (fail)
  go_must (refine (right_val (HX.out.keep HR0.out.bl)).mono ?_)
  rintro e w2 ⟨rfl, hb2⟩
  have HR2 := Lib.hid (HR0.out.keep hb2)
  have r0 := R0.out.keep hb2
  have r1 := R1.out.keep hb2
  have c0 := r0.cell 0
  have c1 := r0.cell 1
  have c2 := r1.cell 0
  have c3 := r1.cell 1
  clear hb2 HR0 R0 R1
  go_wp2_with (fail)
  go_must (refine (right_val (HY.out.keep HR2.out.bl)).mono ?_)
  rintro e w3 ⟨rfl, hb3⟩
  have HR3 := Lib.hid (HR2.out.keep hb3)
  replace r0 := r0.keep hb3
  replace r1 := r1.keep hb3
  clear hb3 HR2 c0 c1 c2 c3
  have c0 := r0.cell 0
  have c1 := r0.cell 1
  have c2 := r1.cell 0
  have c3 := r1.cell 1
  go_wp2_with (fail)
  go_must (refine (sum_any (y := y) _ (HX.out.keep HR3.out.bl) HN'.out (HBB.out.keep HR3.out.bl) HNB.out h60').mono ?_)
  rintro e w4 ⟨v, rfl, hv, hb4⟩
  obtain ⟨A3, c3', l3, rfl, _⟩ := hv.ex
  have HR := Lib.hid (HR3.out.keep hb4)
  have HV := Lib.hid hv
  have d0 := HR.out.c0
  have d1 := HR.out.c1
  have f0 := HR.out.row.frozen 0
  have f1 := HR.out.row.frozen 1
  have hg := HR.out.row.lt
  clear hb4 hv HR3 c0 c1 c2 c3 r0 r1
  go_wp2
  refine bodyPost_ret (v := .tuple #[bigV (sg (fz (x + y))) A3 l3.length c3', .int .i64 (fe (x + y))]) ?_ rfl ⟨_, rfl, HR.out.big HV.out _ _, HR.out.put _ _⟩
  simp [results, Tryz.results11, go_sem, *]
theorem sg_negate (y : Int) : sg (-y) = -sg y := by
  have h1 := sg_cases y
  have h2 := sg_cases (-y)
  omega
theorem wrap_sg (y : Int) : IntKind.i64.wrap (-sg y) = sg (-y) := by
  rw [sg_negate]
  exact IntWalk.i64_in _ (by have := sg_in y; omega)
set_option maxRecDepth 100000 in
set_option maxHeartbeats 4000000 in
theorem sub_val (w : World) (hx : IsBig N0 w va x) (hy : IsBig N0 w vb y) :
    Calls Tryz.prog 13 #[va, vb] w fun e w' => ∃ v, e = .returned (.tuple #[v, .int .i64 (fe (x - y))]) ∧ IsBig N0 w' v (fz (x - y)) ∧ Below w.heap.size w w' := by
  obtain ⟨A, c, a, rfl, ha, na, h60⟩ := hx.ex
  obtain ⟨A', c', b, rfl, hb, nb, h60'⟩ := hy.ex
  obtain ⟨n, hn⟩ : ∃ n, a.length = n := ⟨_, rfl⟩
  obtain ⟨n', hn'⟩ : ∃ n, b.length = n := ⟨_, rfl⟩
  rw [hn] at hx h60 ⊢
  rw [hn'] at hy h60' ⊢
  have HX := Lib.hid hx
  have HY := Lib.hid hy
  have HBB := Lib.hid hb
  have HNB := Lib.hid nb
  have HN' := Lib.hid hn'
  have HR0 := Lib.hid (box3_res (w := w) (s := sg x) (A := A) (n := n) (c := c) (s' := sg y) (A' := A') (n' := n') (c' := c'))
  have R0 := Lib.hid (Row.alloc (box2_r0 (w := w) (s := sg x) (A := A) (n := n) (c := c) (s' := sg y) (A' := A') (n' := n') (c' := c')) (.cells #[.int .i64 0, .slice none 0 0] 24))
  have R1 := Lib.hid (Row.alloc (box2_r1 (w := w) (s := sg x) (A := A) (n := n) (c := c) (s' := sg y) (A' := A') (n' := n') (c' := c')) (.cells #[.int .i64 0, .slice none 0 0] 24))
  have hwn := wrap_sg y
  rw [Int.sub_eq_add_neg]
  unfold box2 at HR0 R0 R1
  clear hx hy ha hb na nb hn hn' h60
  go_enter Tryz.func13, Tryz.ntmps13
  go_wp2_with (fail)
  go_must (refine (right_val (HX.out.keep HR0.out.bl)).mono ?_)
  rintro e w2 ⟨rfl, hb2⟩
  have HR2 := Lib.hid (HR0.out.keep hb2)
  have r0 := R0.out.keep hb2
  have r1 := R1.out.keep hb2
  have c0 := r0.cell 0
  have c1 := r0.cell 1
  have c2 := r1.cell 0
  have c3 := r1.cell 1
  clear hb2 HR0 R0 R1
  go_wp2_with (fail)
  go_must (refine (right_val (HY.out.keep HR2.out.bl)).mono ?_)
  rintro e w3 ⟨rfl, hb3⟩
  have HR3 := Lib.hid (HR2.out.keep hb3)
  replace r0 := r0.keep hb3
  replace r1 := r1.keep hb3
  clear hb3 HR2 c0 c1 c2 c3
  have c0 := r0.cell 0
  have c1 := r0.cell 1
  have c2 := r1.cell 0
  have c3 := r1.cell 1
  go_wp2_with (fail)
  go_must (refine (sum_any (y := -y) _ (HX.out.keep HR3.out.bl) HN'.out (HBB.out.keep HR3.out.bl) (HNB.out.to (by omega)) h60').mono ?_)
  rintro e w4 ⟨v, rfl, hv, hb4⟩
  obtain ⟨A3, c3', l3, rfl, _⟩ := hv.ex
  have HR := Lib.hid (HR3.out.keep hb4)
  have HV := Lib.hid hv
  have d0 := HR.out.c0
  have d1 := HR.out.c1
  have f0 := HR.out.row.frozen 0
  have f1 := HR.out.row.frozen 1
  have hg := HR.out.row.lt
  clear hb4 hv HR3 c0 c1 c2 c3 r0 r1
  go_wp2
  refine bodyPost_ret (v := .tuple #[bigV (sg (fz (x + -y))) A3 l3.length c3', .int .i64 (fe (x + -y))]) ?_ rfl ⟨_, rfl, HR.out.big HV.out _ _, HR.out.put _ _⟩
  simp [results, Tryz.results13, go_sem, *]
end
end Go.Proofs.YtnifkianjpjahaaGreatDoor.Bg
/- Big integers: Compare, Same, Mul by value. -/
namespace Go.Proofs.YtnifkianjpjahaaGreatDoor.Bg
open Go.ChangeShapes Go.WideShapes Go.ChangeAt Go.RowKit Go.Proofs.YtnifkianjpjahaaGreatDoor.Cell
set_option linter.unusedVariables false
set_option linter.unusedSimpArgs false
variable {N0 : Nat}

section
variable {x y : Int} {va vb : Value}
structure Bl (w W : World) : Prop where
  b : Below w.heap.size w W
theorem Bl.keep {w W W' : World} (h : Bl w W) (hb : Below W.heap.size W W') : Bl w W' := ⟨Gen.over hb h.b⟩
set_option maxRecDepth 100000 in
set_option maxHeartbeats 4000000 in
theorem compare_val (w : World) (hx : IsBig N0 w va x) (hy : IsBig N0 w vb y) :
    Calls Tryz.prog 28 #[va, vb] w fun e w' => e = .returned (.int .i64 (cmpI x y)) ∧ Below w.heap.size w w' := by
  obtain ⟨A, c, a, rfl, ha, na, h60⟩ := hx.ex
  obtain ⟨A', c', b, rfl, hb, nb, h60'⟩ := hy.ex
  obtain ⟨n, hn⟩ : ∃ n, a.length = n := ⟨_, rfl⟩
  obtain ⟨n', hn'⟩ : ∃ n, b.length = n := ⟨_, rfl⟩
  rw [hn] at hx h60 ⊢
  rw [hn'] at hy h60' ⊢
  have HX := Lib.hid hx
  have HY := Lib.hid hy
  have HAA := Lib.hid ha
  have HNA := Lib.hid na
  have HN := Lib.hid hn
  have HBB := Lib.hid hb
  have HNB := Lib.hid nb
  have HN' := Lib.hid hn'
  have HR0 : Hid (Bl w (box2 w (sg x) A n c (sg y) A' n' c')) := Lib.hid ⟨box2_bl⟩
  have R0 := Lib.hid (box2_r0 (w := w) (s := sg x) (A := A) (n := n) (c := c) (s' := sg y) (A' := A') (n' := n') (c' := c'))
  have R1 := Lib.hid (box2_r1 (w := w) (s := sg x) (A := A) (n := n) (c := c) (s' := sg y) (A' := A') (n' := n') (c' := c'))
  unfold box2 at HR0 R0 R1
  clear hx hy ha hb na nb hn hn'
  have hsx := sg_cases x
  have hsy := sg_cases y
  by_cases h1 : sg x < sg y
  · have HC : Hid (cmpI x y = -1) := Lib.hid (cmpI_lt (by omega))
    clear hsx hsy
    go_enter Tryz.func28, Tryz.ntmps28
    go_wp2_with (fail)
    go_must (refine (right_val (HX.out.keep HR0.out.b)).mono ?_)
    rintro e w2 ⟨rfl, hb2⟩
    have HR2 := Lib.hid (HR0.out.keep hb2)
    have r0 := R0.out.keep hb2
    have r1 := R1.out.keep hb2
    have c0 := r0.cell 0
    have c1 := r0.cell 1
    have c2 := r1.cell 0
    have c3 := r1.cell 1
    clear hb2 HR0 R0 R1
    go_wp2_with (fail)
    go_must (refine (right_val (HY.out.keep HR2.out.b)).mono ?_)
    rintro e w3 ⟨rfl, hb3⟩
    have HR3 := Lib.hid (HR2.out.keep hb3)
    replace r0 := r0.keep hb3
    replace r1 := r1.keep hb3
    clear hb3 HR2 c0 c1 c2 c3
    have c0 := r0.cell 0
    have c1 := r0.cell 1
    have c2 := r1.cell 0
    have c3 := r1.cell 1
    go_wp2
    go_ret
    exact ⟨ret_int HC.out.symm, HR3.out.b⟩
  · by_cases h2 : sg y < sg x
    · have HC : Hid (cmpI x y = 1) := Lib.hid (cmpI_gt (by omega))
      clear hsx hsy
      go_enter Tryz.func28, Tryz.ntmps28
      go_wp2_with (fail)
      go_must (refine (right_val (HX.out.keep HR0.out.b)).mono ?_)
      rintro e w2 ⟨rfl, hb2⟩
      have HR2 := Lib.hid (HR0.out.keep hb2)
      have r0 := R0.out.keep hb2
      have r1 := R1.out.keep hb2
      have c0 := r0.cell 0
      have c1 := r0.cell 1
      have c2 := r1.cell 0
      have c3 := r1.cell 1
      clear hb2 HR0 R0 R1
      go_wp2_with (fail)
      go_must (refine (right_val (HY.out.keep HR2.out.b)).mono ?_)
      rintro e w3 ⟨rfl, hb3⟩
      have HR3 := Lib.hid (HR2.out.keep hb3)
      replace r0 := r0.keep hb3
      replace r1 := r1.keep hb3
      clear hb3 HR2 c0 c1 c2 c3
      have c0 := r0.cell 0
      have c1 := r0.cell 1
      have c2 := r1.cell 0
      have c3 := r1.cell 1
      go_wp2
      go_ret
      exact ⟨ret_int HC.out.symm, HR3.out.b⟩
    · have h3 : sg y = sg x := by omega
      have HC : Hid (sg x * cmpI (val a) (val b) = cmpI x y) := Lib.hid (by
        have e1 := HNA.out.2.2
        have e2 := HNB.out.2.2
        have h : sg x = -1 ∨ sg x = 0 ∨ sg x = 1 := by omega
        rw [e1, e2]
        unfold cmpI
        rcases h with h | h | h
        · rw [h]; split <;> split <;> (try split) <;> (try split) <;> omega
        · rw [h]; split <;> split <;> (try split) <;> (try split) <;> omega
        · rw [h]; split <;> split <;> (try split) <;> (try split) <;> omega)
      have HW : Hid (IntKind.i64.wrap (sg x * cmpI (val a) (val b)) = sg x * cmpI (val a) (val b)) := Lib.hid (IntWalk.i64_in _ (by
        rw [HC.out]
        unfold cmpI
        split <;> (try split) <;> omega))
      rw [h3] at HR0 R0 R1 HY h1 h2 ⊢
      clear hsx hsy h1 h2 h3
      have hlt : ¬ (sg x < sg x) := by omega
      obtain ⟨s, hs⟩ : ∃ s, sg x = s := ⟨_, rfl⟩
      rw [hs] at HR0 R0 R1 HY HX HC HW hlt ⊢
      obtain ⟨m, hm⟩ : ∃ m, cmpI (val a) (val b) = m := ⟨_, rfl⟩
      have HM := Lib.hid hm
      rw [hm] at HC HW
      have hw := HW.out
      have HCL : Hid (∀ W : World, Below w.heap.size w W → Calls Tryz.prog 85 #[.slice A n c, .slice A' n' c'] W fun e w' => e = .returned (.int .i64 m) ∧ ∃ q, w' = W.drewN q) := Lib.hid fun W hW => by
        have h := compare_any (c := c) (c' := c') W HN.out HN'.out (HAA.out.keep hW) (HBB.out.keep hW) HNA.out.1 HNB.out.1 HNA.out.2.1 HNB.out.2.1 (by omega) (by omega)
        rwa [HM.out] at h
      clear hs hm
      go_enter Tryz.func28, Tryz.ntmps28
      go_wp2_with (fail)
      go_must (refine (right_val (HX.out.keep HR0.out.b)).mono ?_)
      rintro e w2 ⟨rfl, hb2⟩
      have HR2 := Lib.hid (HR0.out.keep hb2)
      have r0 := R0.out.keep hb2
      have r1 := R1.out.keep hb2
      have c0 := r0.cell 0
      have c1 := r0.cell 1
      have c2 := r1.cell 0
      have c3 := r1.cell 1
      clear hb2 HR0 R0 R1
      go_wp2_with (fail)
      go_must (refine (right_val (HY.out.keep HR2.out.b)).mono ?_)
      rintro e w3 ⟨rfl, hb3⟩
      have HR3 := Lib.hid (HR2.out.keep hb3)
      replace r0 := r0.keep hb3
      replace r1 := r1.keep hb3
      clear hb3 HR2 c0 c1 c2 c3
      have c0 := r0.cell 0
      have c1 := r0.cell 1
      have c2 := r1.cell 0
      have c3 := r1.cell 1
      go_wp2
      go_quiet ((go_at_call 85; refine Calls.quiet_of (HCL.out _ (Gen.dN HR3.out.b _))))
      go_wp2
      go_ret
      exact ⟨ret_int HC.out, Gen.dN HR3.out.b _⟩
end
end Go.Proofs.YtnifkianjpjahaaGreatDoor.Bg
/- Big integers: Same of both, few. -/
namespace Go.Proofs.YtnifkianjpjahaaGreatDoor.Bg
open Go.ChangeShapes Go.WideShapes Go.ChangeAt Go.RowKit Go.Proofs.YtnifkianjpjahaaGreatDoor.Cell
set_option linter.unusedVariables false
set_option linter.unusedSimpArgs false
variable {N0 : Nat}

set_option maxRecDepth 100000 in
set_option maxHeartbeats 4000000 in
theorem same_raw {s s' : Int} {A A' : Option Addr} {n n' c c' : Nat} {a b : List Int} (w : World) (hn : a.length = n) (hn' : b.length = n') (ha : Ints N0 w A a) (hb : Ints N0 w A' b) (hbig : n ≤ 9223372036854775807) (hbig' : n' ≤ 9223372036854775807) :
    Calls Tryz.prog 30 #[bigV s A n c, bigV s' A' n' c'] w fun e w' => e = .returned (.bool (decide (s = s' ∧ a = b))) ∧ Below w.heap.size w w' := by
  have HB0 := Lib.hid (box2_bl (w := w) (s := s) (A := A) (n := n) (c := c) (s' := s') (A' := A') (n' := n') (c' := c'))
  unfold box2 at HB0
  by_cases hs : s = s'
  · have hsb : (s == s') = true := by simpa using hs
    have HV : Hid (decide (a = b) = decide (s = s' ∧ a = b)) := Lib.hid (decide_eq_decide.2 ⟨fun h => ⟨hs, h⟩, fun h => h.2⟩)
    clear hs
    go_enter Tryz.func30, Tryz.ntmps30
    go_wp2_with (fail)
    go_must (refine (equal_any _ hn hn' (ha.keep HB0.out) (hb.keep HB0.out) hbig hbig').mono ?_)
    rintro e w1 ⟨rfl, q, rfl⟩
    go_wp2
    go_ret
    exact ⟨ret_bool HV.out, Gen.dN HB0.out q⟩
  · have hsb : (s == s') = false := by simpa using hs
    have HV : Hid (decide (s = s' ∧ a = b) = false) := Lib.hid (decide_eq_false fun h => hs h.1)
    clear hs ha hb
    go_enter Tryz.func30, Tryz.ntmps30
    go_wp2
    go_ret
    exact ⟨ret_bool HV.out.symm, HB0.out⟩
theorem same_val {x y : Int} {va vb : Value} (w : World) (hx : IsBig N0 w va x) (hy : IsBig N0 w vb y) :
    Calls Tryz.prog 30 #[va, vb] w fun e w' => e = .returned (.bool (decide (x = y))) ∧ Below w.heap.size w w' := by
  obtain ⟨A, c, a, rfl, ha, na, h60⟩ := hx.ex
  obtain ⟨A', c', b, rfl, hb, nb, h60'⟩ := hy.ex
  rw [show decide (x = y) = decide (sg x = sg y ∧ a = b) from decide_eq_decide.2 (big_inj na nb).symm]
  exact same_raw w rfl rfl ha hb (by omega) (by omega)
set_option maxRecDepth 100000 in
set_option maxHeartbeats 4000000 in
theorem rsame_raw {s s' : Int} {A A' : Option Addr} {n n' c c' : Nat} {a b : List Int} (w : World) (hn : a.length = n) (hn' : b.length = n') (ha : Ints N0 w A a) (hb : Ints N0 w A' b) (hbig : n ≤ 9223372036854775807) (hbig' : n' ≤ 9223372036854775807) :
    Calls Tryz.prog 17 #[bigV s A n c, bigV s' A' n' c'] w fun e w' => e = .returned (.bool (decide (s = s' ∧ a = b))) ∧ Below w.heap.size w w' := by
  have HB0 := Lib.hid (box2_bl (w := w) (s := s) (A := A) (n := n) (c := c) (s' := s') (A' := A') (n' := n') (c' := c'))
  have R0 := Lib.hid (box2_r0 (w := w) (s := s) (A := A) (n := n) (c := c) (s' := s') (A' := A') (n' := n') (c' := c'))
  have R1 := Lib.hid (box2_r1 (w := w) (s := s) (A := A) (n := n) (c := c) (s' := s') (A' := A') (n' := n') (c' := c'))
  obtain ⟨wb, hwb⟩ : ∃ W, box2 w s A n c s' A' n' c' = W := ⟨_, rfl⟩
  rw [hwb] at HB0 R0 R1
  unfold box2 at hwb
  have HW := Lib.hid hwb
  clear hwb
  by_cases hs : s = s'
  case neg =>
    have hsb : (s != s') = true := by simpa using hs
    have HV : Hid (decide (s = s' ∧ a = b) = false) := Lib.hid (decide_eq_false fun h => hs h.1)
    clear hs ha hb
    go_enter Tryz.func17, Tryz.ntmps17
    go_wp2
    go_ret
    exact ⟨ret_bool HV.out.symm, by rw [HW.out]; exact HB0.out⟩
  have hsb : (s != s') = false := by simpa using hs
  by_cases hl : n = n'
  case neg =>
    have hlb : ((n : Int) != (n' : Int)) = true := by simp; omega
    have HV : Hid (decide (s = s' ∧ a = b) = false) := Lib.hid (decide_eq_false fun h => hl (by rw [← hn, ← hn', h.2]))
    clear hs ha hb hn hn'
    go_enter Tryz.func17, Tryz.ntmps17
    go_wp2
    go_ret
    exact ⟨ret_bool HV.out.symm, by rw [HW.out]; exact HB0.out⟩
  subst hl
  have HS := Lib.hid hs
  have HN := Lib.hid hn
  have HN' := Lib.hid hn'
  have hlb : ((n : Int) != (n : Int)) = false := by simp
  clear hn hn' hs
  go_enter Tryz.func17, Tryz.ntmps17
  go_wp2
  rw [HW.out]
  clear hlb hsb HW
  go_loopw [5] (fun v wr => ∃ k : Nat, k ≤ n ∧ v = .int .i64 k ∧ Hid (a.take k = b.take k) ∧ ∃ q, wr = wb.drewN q) (fun v _ => n - (intOf v).toNat)
  case atStart => exact ⟨0, Nat.zero_le _, rfl, Lib.hid (by rw [List.take_zero, List.take_zero]), 0, rfl⟩
  case round =>
    obtain ⟨k, hk, rfl, HE, q, rfl⟩ := hrel
    have k0 : (0 : Int) ≤ (k : Int) := by omega
    have p0 : wb.cell? ⟨w.heap.size, 1, none⟩ = some (.slice A n c) := R0.out.cell 1
    have p1 : wb.cell? ⟨w.heap.size + 1, 1, none⟩ = some (.slice A' n c') := R1.out.cell 1
    by_cases hlt : k < n
    · have hltI : (k : Int) < (n : Int) := by omega
      obtain ⟨b1, o1, rfl, hc1⟩ := (ha.keep HB0.out) (by rw [HN.out]; omega)
      obtain ⟨b2, o2, rfl, hc2⟩ := (hb.keep HB0.out) (by rw [HN'.out]; omega)
      obtain ⟨x, hx⟩ := at_ a k (by rw [HN.out]; omega)
      obtain ⟨y, hy⟩ := at_ b k (by rw [HN'.out]; omega)
      have c1 := hc1 k x hx
      have c2 := hc2 k y hy
      have HX := Lib.hid hx
      have HY := Lib.hid hy
      clear hx hy hc1 hc2 ha hb
      by_cases hxy : x = y
      · have hxb : (x != y) = false := by simp [hxy]
        have HE2 : Hid (a.take (k + 1) = b.take (k + 1)) := Lib.hid (by rw [take_snoc HX.out, take_snoc HY.out, HE.out, hxy])
        clear hxy
        go_wp2
        go_quiet (fail)
        go_wp2
        go_roundw
        case rel => exact ⟨k + 1, by omega, by go_num, HE2, _, rfl⟩
        case measure => simp [intOf]; omega
      · have hxb : (x != y) = true := by simp [hxy]
        have HV : Hid (decide (s = s' ∧ a = b) = false) := Lib.hid (decide_eq_false (fun e => hxy (by
          have h1 := HX.out
          rw [e.2, HY.out] at h1
          injection h1 with h1
          exact h1.symm)))
        clear hxy
        go_wp2
        go_quiet (fail)
        go_wp2
        go_ret
        exact ⟨ret_bool HV.out.symm, Gen.dN (Gen.dN HB0.out _) _⟩
    · obtain rfl : n = k := by omega
      have HV : Hid (decide (s = s' ∧ a = b) = true) := Lib.hid (decide_eq_true ⟨HS.out, by
        have h := HE.out
        rwa [List.take_of_length_le (by rw [HN.out]; exact Nat.le_refl _), List.take_of_length_le (by rw [HN'.out]; exact Nat.le_refl _)] at h⟩)
      go_wp2
      go_ret
      exact ⟨ret_bool HV.out.symm, Gen.dN HB0.out _⟩
theorem rsame_val {x y : Int} {va vb : Value} (w : World) (hx : IsBig N0 w va x) (hy : IsBig N0 w vb y) :
    Calls Tryz.prog 17 #[va, vb] w fun e w' => e = .returned (.bool (decide (x = y))) ∧ Below w.heap.size w w' := by
  obtain ⟨A, c, a, rfl, ha, na, h60⟩ := hx.ex
  obtain ⟨A', c', b, rfl, hb, nb, h60'⟩ := hy.ex
  rw [show decide (x = y) = decide (sg x = sg y ∧ a = b) from decide_eq_decide.2 (big_inj na nb).symm]
  exact rsame_raw w rfl rfl ha hb (by omega) (by omega)
set_option maxRecDepth 100000 in
set_option maxHeartbeats 4000000 in
theorem few_any (s : Int) (A : Option Addr) (n c : Nat) (m : Int) (w : World) (hbig : n ≤ 9223372036854775807) :
    Calls Tryz.prog 10 #[bigV s A n c, .int .i64 m] w fun e w' => e = .returned (.bool (decide ((n : Int) ≤ m))) ∧ Below w.heap.size w w' := by
  go_enter Tryz.func10, Tryz.ntmps10
  go_wp2
  go_ret
  exact ⟨rfl, by go_grown⟩
end Go.Proofs.YtnifkianjpjahaaGreatDoor.Bg
/- Big integers: Mul, Neg by value. -/
namespace Go.Proofs.YtnifkianjpjahaaGreatDoor.Bg
open Go.ChangeShapes Go.WideShapes Go.ChangeAt Go.RowKit Go.Proofs.YtnifkianjpjahaaGreatDoor.Cell
set_option linter.unusedVariables false
set_option linter.unusedSimpArgs false
variable {N0 : Nat}

section
variable {x y : Int} {va vb : Value}
theorem sg_mul (x y : Int) : sg (x * y) = sg x * sg y := by
  rcases sg_cases x with ⟨h, e⟩ | ⟨h, e⟩ | ⟨h, e⟩
  · rcases sg_cases y with ⟨h', e'⟩ | ⟨h', e'⟩ | ⟨h', e'⟩
    · rw [e, e', sg_pos (Int.mul_pos_of_neg_of_neg h h')]; rfl
    · subst h'; rw [Int.mul_zero, e, e']; rfl
    · rw [e, e', sg_neg (Int.mul_neg_of_neg_of_pos h h')]; rfl
  · subst h; rw [Int.zero_mul, e, Int.zero_mul]
  · rcases sg_cases y with ⟨h', e'⟩ | ⟨h', e'⟩ | ⟨h', e'⟩
    · rw [e, e', sg_neg (Int.mul_neg_of_pos_of_neg h h')]; rfl
    · subst h'; rw [Int.mul_zero, e, e']; rfl
    · rw [e, e', sg_pos (Int.mul_pos h h')]; rfl
theorem abs_mul' (x y : Int) : ((x * y).natAbs : Int) = (x.natAbs : Int) * (y.natAbs : Int) := by rw [Int.natAbs_mul]; rfl
/-- a product that is surely too long -/
theorem mul_long {a b : List Int} (na : Nm a x.natAbs) (nb : Nm b y.natAbs) (h : 62 ≤ a.length + b.length) (hx : x ≠ 0) (hy : y ≠ 0) : ¬ Fit (x * y) := fun hf => by
  have ha : a ≠ [] := fun e => hx (by have := na.nil.1 e; omega)
  have hb : b ≠ [] := fun e => hy (by have := nb.nil.1 e; omega)
  have h1 := val_ge na.1 na.2.1 ha
  have h2 := val_ge nb.1 nb.2.1 hb
  rw [na.2.2] at h1
  rw [nb.2.2] at h2
  have p1 := pw_pos (a.length - 1)
  have p2 := pw_pos (b.length - 1)
  have h3 : pw (a.length - 1) * pw (b.length - 1) ≤ (x.natAbs : Int) * (y.natAbs : Int) := Int.mul_le_mul h1 h2 (by omega) (by omega)
  rw [← pw_add, ← abs_mul'] at h3
  have h4 := pw_le (show 60 ≤ a.length - 1 + (b.length - 1) by omega)
  unfold Fit at hf
  omega
theorem mul_len {a b l : List Int} (na : Nm a x.natAbs) (nb : Nm b y.natAbs) (h : Nm l (val a * val b)) (ha : a.length ≤ 60) (hb : b.length ≤ 60) : l.length ≤ 120 := by
  refine (h.len 120).2 ?_
  have h1 := val_lt na.1
  have h2 := val_lt nb.1
  have h5 := pw_le ha
  have h6 := pw_le hb
  have h3 : val a * val b ≤ pw 60 * val b := Int.mul_le_mul_of_nonneg_right (by omega) (val_nonneg nb.1)
  have h4 : pw 60 * val b < pw 60 * pw 60 := Int.mul_lt_mul_of_pos_left (by omega) (by have := pw_pos 60; omega)
  have h7 : pw 60 * pw 60 = pw 120 := (pw_add 60 60).symm
  omega
set_option maxRecDepth 100000 in
set_option maxHeartbeats 4000000 in
theorem mul_no (w : World) (hx : IsBig N0 w va x) (hy : IsBig N0 w vb y) (hl : ∃ A c a A' c' b, va = bigV (sg x) A (List.length a) c ∧ vb = bigV (sg y) A' (List.length b) c' ∧ Nm a x.natAbs ∧ Nm b y.natAbs ∧ a.length ≤ 60 ∧ b.length ≤ 60 ∧ 62 ≤ a.length + b.length) (h0 : x ≠ 0) (h0' : y ≠ 0) :
    Calls Tryz.prog 15 #[va, vb] w fun e w' => ∃ v, e = .returned (.tuple #[v, .int .i64 (fe (x * y))]) ∧ IsBig N0 w' v (fz (x * y)) ∧ Below w.heap.size w w' := by
  obtain ⟨A, c, a, A', c', b, rfl, rfl, na, nb, h60, h60', hlen⟩ := hl
  have hf := mul_long na nb hlen h0 h0'
  rw [fz_no hf, fe_no hf]
  obtain ⟨n, hn⟩ : ∃ n, a.length = n := ⟨_, rfl⟩
  obtain ⟨n', hn'⟩ : ∃ n, b.length = n := ⟨_, rfl⟩
  rw [hn] at hx h60 hlen ⊢
  rw [hn'] at hy h60' hlen ⊢
  have HX := Lib.hid hx
  have HY := Lib.hid hy
  have hww : IntKind.i64.wrap (sg x * sg y) = sg x * sg y := IntWalk.i64_in _ (by rw [← sg_mul]; have := sg_in (x * y); omega)
  have hwn : (sg x * sg y != 0) = true := by
    rw [← sg_mul]
    have := sg_cases (x * y)
    have h : x * y ≠ 0 := Int.mul_ne_zero h0 h0'
    simp; omega
  have e1 : IntKind.i64.wrap ((n : Int) + (n' : Int)) = (n : Int) + (n' : Int) := IntWalk.i64_in _ (by omega)
  have e2 : IntKind.i64.wrap ((n : Int) + (n' : Int) - 1) = (n : Int) + (n' : Int) - 1 := IntWalk.i64_in _ (by omega)
  have e3 : (60 : Int) < (n : Int) + (n' : Int) - 1 := by omega
  have HR0 := Lib.hid (box3_res (w := w) (s := sg x) (A := A) (n := n) (c := c) (s' := sg y) (A' := A') (n' := n') (c' := c'))
  have R0 := Lib.hid (Row.alloc (box2_r0 (w := w) (s := sg x) (A := A) (n := n) (c := c) (s' := sg y) (A' := A') (n' := n') (c' := c')) (.cells #[.int .i64 0, .slice none 0 0] 24))
  have R1 := Lib.hid (Row.alloc (box2_r1 (w := w) (s := sg x) (A := A) (n := n) (c := c) (s' := sg y) (A' := A') (n' := n') (c' := c')) (.cells #[.int .i64 0, .slice none 0 0] 24))
  unfold box2 at HR0 R0 R1
  clear hx hy na nb hn hn' hf h0 h0'
  go_enter Tryz.func15, Tryz.ntmps15
  go_wp2_with (fail)
  go_must (refine (right_val (HX.out.keep HR0.out.bl)).mono ?_)
  rintro e w2 ⟨rfl, hb2⟩
  have HR2 := Lib.hid (HR0.out.keep hb2)
  have r0 := R0.out.keep hb2
  have r1 := R1.out.keep hb2
  have c0 := r0.cell 0
  have c1 := r0.cell 1
  have c2 := r1.cell 0
  have c3 := r1.cell 1
  clear hb2 HR0 R0 R1
  go_wp2_with (fail)
  go_must (refine (right_val (HY.out.keep HR2.out.bl)).mono ?_)
  rintro e w3 ⟨rfl, hb3⟩
  have HR3 := Lib.hid (HR2.out.keep hb3)
  replace r0 := r0.keep hb3
  replace r1 := r1.keep hb3
  clear hb3 HR2 c0 c1 c2 c3
  have c0 := r0.cell 0
  have c1 := r0.cell 1
  have c2 := r1.cell 0
  have c3 := r1.cell 1
  have d0 := HR3.out.c0
  have d1 := HR3.out.c1
  have f0 := HR3.out.row.frozen 0
  have f1 := HR3.out.row.frozen 1
  have hg := HR3.out.row.lt
  go_wp2
  refine bodyPost_ret (v := .tuple #[zeroV, .int .i64 6]) ?_ rfl ⟨_, rfl, IsBig.zero _, HR3.out.put _ _⟩
  simp [results, Tryz.results15, go_sem, *]
set_option maxRecDepth 100000 in
set_option maxHeartbeats 4000000 in
theorem mul_a (w : World) (hx : IsBig N0 w va x) (hy : IsBig N0 w vb y) (hl : ∀ A c n A' c' n', va = bigV (sg x) A n c → vb = bigV (sg y) A' n' c' → (n : Int) + (n' : Int) - 1 ≤ 60) :
    Calls Tryz.prog 15 #[va, vb] w fun e w' => ∃ v, e = .returned (.tuple #[v, .int .i64 (fe (x * y))]) ∧ IsBig N0 w' v (fz (x * y)) ∧ Below w.heap.size w w' := by
  obtain ⟨A, c, a, rfl, ha, na, h60⟩ := hx.ex
  obtain ⟨A', c', b, rfl, hb, nb, h60'⟩ := hy.ex
  obtain ⟨n, hn⟩ : ∃ n, a.length = n := ⟨_, rfl⟩
  obtain ⟨n', hn'⟩ : ∃ n, b.length = n := ⟨_, rfl⟩
  rw [hn] at hx h60 ⊢
  rw [hn'] at hy h60' ⊢
  have HX := Lib.hid hx
  have HY := Lib.hid hy
  have HAA := Lib.hid ha
  have HNA := Lib.hid na
  have HN := Lib.hid hn
  have HBB := Lib.hid hb
  have HNB := Lib.hid nb
  have HN' := Lib.hid hn'
  have HR0 := Lib.hid (box3_res (w := w) (s := sg x) (A := A) (n := n) (c := c) (s' := sg y) (A' := A') (n' := n') (c' := c'))
  have R0 := Lib.hid (Row.alloc (box2_r0 (w := w) (s := sg x) (A := A) (n := n) (c := c) (s' := sg y) (A' := A') (n' := n') (c' := c')) (.cells #[.int .i64 0, .slice none 0 0] 24))
  have R1 := Lib.hid (Row.alloc (box2_r1 (w := w) (s := sg x) (A := A) (n := n) (c := c) (s' := sg y) (A' := A') (n' := n') (c' := c')) (.cells #[.int .i64 0, .slice none 0 0] 24))
  unfold box2 at HR0 R0 R1
  have hlen := hl _ _ _ _ _ _ rfl rfl
  have HZ : Hid (∀ l, Nm l (val a * val b) → Nm l (x * y).natAbs) := Lib.hid fun l h => h.to (by rw [na.2.2, nb.2.2, abs_mul'])
  have HS : Hid (x * y ≠ 0 → sg x * sg y = sg (x * y)) := Lib.hid fun _ => (sg_mul x y).symm
  have HL : Hid (∀ l, Nm l (val a * val b) → l.length ≤ 1000) := Lib.hid fun l h => by have := mul_len na nb h (by omega) (by omega); omega
  have hww : IntKind.i64.wrap (sg x * sg y) = sg x * sg y := IntWalk.i64_in _ (by rw [← sg_mul]; have := sg_in (x * y); omega)
  have e1 : IntKind.i64.wrap ((n : Int) + (n' : Int)) = (n : Int) + (n' : Int) := IntWalk.i64_in _ (by omega)
  have e2 : IntKind.i64.wrap ((n : Int) + (n' : Int) - 1) = (n : Int) + (n' : Int) - 1 := IntWalk.i64_in _ (by omega)
  have e4 : ¬ ((60 : Int) < (n : Int) + (n' : Int) - 1) := by omega
  obtain ⟨s, hsx⟩ : ∃ s, sg x = s := ⟨_, rfl⟩
  obtain ⟨s', hsy⟩ : ∃ s, sg y = s := ⟨_, rfl⟩
  rw [hsx] at HR0 R0 R1 HX HS hww
  rw [hsy] at HR0 R0 R1 HY HS hww
  try rw [hsx, hsy] at hlen
  rw [hsx, hsy]
  obtain ⟨p, hp⟩ : ∃ p, s * s' = p := ⟨_, rfl⟩
  rw [hp] at HS hww
  try rw [hp] at hlen
  have HP := Lib.hid hp
  clear hx hy ha hb na nb hn hn' hl hsx hsy hlen
  go_enter Tryz.func15, Tryz.ntmps15
  go_wp2_with (fail)
  go_must (refine (right_val (HX.out.keep HR0.out.bl)).mono ?_)
  rintro e w2 ⟨rfl, hb2⟩
  have HR2 := Lib.hid (HR0.out.keep hb2)
  have r0 := R0.out.keep hb2
  have r1 := R1.out.keep hb2
  have c0 := r0.cell 0
  have c1 := r0.cell 1
  have c2 := r1.cell 0
  have c3 := r1.cell 1
  clear hb2 HR0 R0 R1
  go_wp2_with (fail)
  go_must (refine (right_val (HY.out.keep HR2.out.bl)).mono ?_)
  rintro e w3 ⟨rfl, hb3⟩
  have HR3 := Lib.hid (HR2.out.keep hb3)
  replace r0 := r0.keep hb3
  replace r1 := r1.keep hb3
  clear hb3 HR2 c0 c1 c2 c3
  have c0 := r0.cell 0
  have c1 := r0.cell 1
  have c2 := r1.cell 0
  have c3 := r1.cell 1
  have C0 := Lib.hid c0
  have C1 := Lib.hid c1
  have C2 := Lib.hid c2
  have C3 := Lib.hid c3
  go_wp2_with (fail)
  go_region_held3 (fun W' : World => Below w.heap.size w W' ∧ W'.cell? ⟨w.heap.size, 0, none⟩ = some (.int .i64 s) ∧ W'.cell? ⟨w.heap.size, 1, none⟩ = some (.slice A n c) ∧ W'.cell? ⟨w.heap.size + 1, 0, none⟩ = some (.int .i64 s') ∧ W'.cell? ⟨w.heap.size + 1, 1, none⟩ = some (.slice A' n' c'))
    (first | exact ⟨HR3.out.bl.drew, C0.out, C1.out, C2.out, C3.out⟩ | exact ⟨Gen.over (by assumption) (And.left (by assumption)), Gen.keep (by assumption) (And.left (And.right (by assumption))), Gen.keep (by assumption) (And.left (And.right (And.right (by assumption)))), Gen.keep (by assumption) (And.left (And.right (And.right (And.right (by assumption))))), Gen.keep (by assumption) (And.right (And.right (And.right (And.right (by assumption)))))⟩ | exact ⟨Res.put (by assumption) _ _, put_cell (by assumption) _ _ (by omega) (And.left (And.right (by assumption))), put_cell (by assumption) _ _ (by omega) (And.left (And.right (And.right (by assumption)))), put_cell (by assumption) _ _ (by omega) (And.left (And.right (And.right (And.right (by assumption))))), put_cell (by assumption) _ _ (by omega) (And.right (And.right (And.right (And.right (by assumption)))))⟩)
    (first
      | (go_at_call 73; refine (mul_any _ HN.out HN'.out (HAA.out.keep (And.left (by assumption))) (HBB.out.keep (And.left (by assumption))) HNA.out.1 HNB.out.1 h60 h60').mono ?_; rintro e' w' ⟨A2, c2', l2, rfl, hI2, hN2, hb2⟩; have hR2 := (HR3.out.keep (Below.refl _ _).drew).keep hb2)
      | (go_at_call 72; refine (fit_any _ rfl hI2 (HZ.out _ hN2) (HL.out _ hN2) HS.out).mono ?_; rintro e' w' ⟨v, rfl, hv, hb3⟩; obtain ⟨A3, c3, l3, rfl, _⟩ := hv.ex; have hR3 := hR2.keep hb3; have d0 := hR3.c0; have d1 := hR3.c1; have f0 := hR3.row.frozen 0; have f1 := hR3.row.frozen 1; have hg := hR3.row.lt))
  all_goals
    go_wp2
    refine bodyPost_ret (v := .tuple #[bigV (sg (fz (x * y))) A3 l3.length c3, .int .i64 (fe (x * y))]) ?_ rfl ⟨_, rfl, hR3.big hv _ _, hR3.put _ _⟩
    simp [results, Tryz.results15, go_sem, *]
set_option maxRecDepth 100000 in
set_option maxHeartbeats 4000000 in
theorem mul_b (w : World) (hx : IsBig N0 w va x) (hy : IsBig N0 w vb y) (hl : ∀ A c n A' c' n', va = bigV (sg x) A n c → vb = bigV (sg y) A' n' c' → (60 : Int) < (n : Int) + (n' : Int) - 1 ∧ sg x * sg y = 0) :
    Calls Tryz.prog 15 #[va, vb] w fun e w' => ∃ v, e = .returned (.tuple #[v, .int .i64 (fe (x * y))]) ∧ IsBig N0 w' v (fz (x * y)) ∧ Below w.heap.size w w' := by
  obtain ⟨A, c, a, rfl, ha, na, h60⟩ := hx.ex
  obtain ⟨A', c', b, rfl, hb, nb, h60'⟩ := hy.ex
  obtain ⟨n, hn⟩ : ∃ n, a.length = n := ⟨_, rfl⟩
  obtain ⟨n', hn'⟩ : ∃ n, b.length = n := ⟨_, rfl⟩
  rw [hn] at hx h60 ⊢
  rw [hn'] at hy h60' ⊢
  have HX := Lib.hid hx
  have HY := Lib.hid hy
  have HAA := Lib.hid ha
  have HNA := Lib.hid na
  have HN := Lib.hid hn
  have HBB := Lib.hid hb
  have HNB := Lib.hid nb
  have HN' := Lib.hid hn'
  have HR0 := Lib.hid (box3_res (w := w) (s := sg x) (A := A) (n := n) (c := c) (s' := sg y) (A' := A') (n' := n') (c' := c'))
  have R0 := Lib.hid (Row.alloc (box2_r0 (w := w) (s := sg x) (A := A) (n := n) (c := c) (s' := sg y) (A' := A') (n' := n') (c' := c')) (.cells #[.int .i64 0, .slice none 0 0] 24))
  have R1 := Lib.hid (Row.alloc (box2_r1 (w := w) (s := sg x) (A := A) (n := n) (c := c) (s' := sg y) (A' := A') (n' := n') (c' := c')) (.cells #[.int .i64 0, .slice none 0 0] 24))
  unfold box2 at HR0 R0 R1
  have hlen := hl _ _ _ _ _ _ rfl rfl
  have HZ : Hid (∀ l, Nm l (val a * val b) → Nm l (x * y).natAbs) := Lib.hid fun l h => h.to (by rw [na.2.2, nb.2.2, abs_mul'])
  have HS : Hid (x * y ≠ 0 → sg x * sg y = sg (x * y)) := Lib.hid fun _ => (sg_mul x y).symm
  have HL : Hid (∀ l, Nm l (val a * val b) → l.length ≤ 1000) := Lib.hid fun l h => by have := mul_len na nb h (by omega) (by omega); omega
  have hww : IntKind.i64.wrap (sg x * sg y) = sg x * sg y := IntWalk.i64_in _ (by rw [← sg_mul]; have := sg_in (x * y); omega)
  have e1 : IntKind.i64.wrap ((n : Int) + (n' : Int)) = (n : Int) + (n' : Int) := IntWalk.i64_in _ (by omega)
  have e2 : IntKind.i64.wrap ((n : Int) + (n' : Int) - 1) = (n : Int) + (n' : Int) - 1 := IntWalk.i64_in _ (by omega)
  have e4 : (60 : Int) < (n : Int) + (n' : Int) - 1 := by have := hlen.1; omega
  obtain ⟨s, hsx⟩ : ∃ s, sg x = s := ⟨_, rfl⟩
  obtain ⟨s', hsy⟩ : ∃ s, sg y = s := ⟨_, rfl⟩
  rw [hsx] at HR0 R0 R1 HX HS hww
  rw [hsy] at HR0 R0 R1 HY HS hww
  try rw [hsx, hsy] at hlen
  rw [hsx, hsy]
  obtain ⟨p, hp⟩ : ∃ p, s * s' = p := ⟨_, rfl⟩
  rw [hp] at HS hww
  try rw [hp] at hlen
  have HP := Lib.hid hp
  have e5 : (p != 0) = false := by simp [hlen.2]
  clear hx hy ha hb na nb hn hn' hl hsx hsy hlen
  go_enter Tryz.func15, Tryz.ntmps15
  go_wp2_with (fail)
  go_must (refine (right_val (HX.out.keep HR0.out.bl)).mono ?_)
  rintro e w2 ⟨rfl, hb2⟩
  have HR2 := Lib.hid (HR0.out.keep hb2)
  have r0 := R0.out.keep hb2
  have r1 := R1.out.keep hb2
  have c0 := r0.cell 0
  have c1 := r0.cell 1
  have c2 := r1.cell 0
  have c3 := r1.cell 1
  clear hb2 HR0 R0 R1
  go_wp2_with (fail)
  go_must (refine (right_val (HY.out.keep HR2.out.bl)).mono ?_)
  rintro e w3 ⟨rfl, hb3⟩
  have HR3 := Lib.hid (HR2.out.keep hb3)
  replace r0 := r0.keep hb3
  replace r1 := r1.keep hb3
  clear hb3 HR2 c0 c1 c2 c3
  have c0 := r0.cell 0
  have c1 := r0.cell 1
  have c2 := r1.cell 0
  have c3 := r1.cell 1
  have C0 := Lib.hid c0
  have C1 := Lib.hid c1
  have C2 := Lib.hid c2
  have C3 := Lib.hid c3
  go_wp2_with (fail)
  go_region_held3 (fun W' : World => Below w.heap.size w W' ∧ W'.cell? ⟨w.heap.size, 0, none⟩ = some (.int .i64 s) ∧ W'.cell? ⟨w.heap.size, 1, none⟩ = some (.slice A n c) ∧ W'.cell? ⟨w.heap.size + 1, 0, none⟩ = some (.int .i64 s') ∧ W'.cell? ⟨w.heap.size + 1, 1, none⟩ = some (.slice A' n' c'))
    (first | exact ⟨HR3.out.bl.drew, C0.out, C1.out, C2.out, C3.out⟩ | exact ⟨Gen.over (by assumption) (And.left (by assumption)), Gen.keep (by assumption) (And.left (And.right (by assumption))), Gen.keep (by assumption) (And.left (And.right (And.right (by assumption)))), Gen.keep (by assumption) (And.left (And.right (And.right (And.right (by assumption))))), Gen.keep (by assumption) (And.right (And.right (And.right (And.right (by assumption)))))⟩ | exact ⟨Res.put (by assumption) _ _, put_cell (by assumption) _ _ (by omega) (And.left (And.right (by assumption))), put_cell (by assumption) _ _ (by omega) (And.left (And.right (And.right (by assumption)))), put_cell (by assumption) _ _ (by omega) (And.left (And.right (And.right (And.right (by assumption))))), put_cell (by assumption) _ _ (by omega) (And.right (And.right (And.right (And.right (by assumption)))))⟩)
    (first
      | (go_at_call 73; refine (mul_any _ HN.out HN'.out (HAA.out.keep (And.left (by assumption))) (HBB.out.keep (And.left (by assumption))) HNA.out.1 HNB.out.1 h60 h60').mono ?_; rintro e' w' ⟨A2, c2', l2, rfl, hI2, hN2, hb2⟩; have hR2 := (HR3.out.keep (Below.refl _ _).drew).keep hb2)
      | (go_at_call 72; refine (fit_any _ rfl hI2 (HZ.out _ hN2) (HL.out _ hN2) HS.out).mono ?_; rintro e' w' ⟨v, rfl, hv, hb3⟩; obtain ⟨A3, c3, l3, rfl, _⟩ := hv.ex; have hR3 := hR2.keep hb3; have d0 := hR3.c0; have d1 := hR3.c1; have f0 := hR3.row.frozen 0; have f1 := hR3.row.frozen 1; have hg := hR3.row.lt))
  all_goals
    go_wp2
    refine bodyPost_ret (v := .tuple #[bigV (sg (fz (x * y))) A3 l3.length c3, .int .i64 (fe (x * y))]) ?_ rfl ⟨_, rfl, hR3.big hv _ _, hR3.put _ _⟩
    simp [results, Tryz.results15, go_sem, *]
theorem mul_val (w : World) (hx : IsBig N0 w va x) (hy : IsBig N0 w vb y) :
    Calls Tryz.prog 15 #[va, vb] w fun e w' => ∃ v, e = .returned (.tuple #[v, .int .i64 (fe (x * y))]) ∧ IsBig N0 w' v (fz (x * y)) ∧ Below w.heap.size w w' := by
  obtain ⟨A, c, a, rfl, ha, na, h60⟩ := hx.ex
  obtain ⟨A', c', b, rfl, hb, nb, h60'⟩ := hy.ex
  by_cases h : 62 ≤ a.length + b.length ∧ x ≠ 0 ∧ y ≠ 0
  · exact mul_no w hx hy ⟨A, c, a, A', c', b, rfl, rfl, na, nb, h60, h60', h.1⟩ h.2.1 h.2.2
  · by_cases hlt : a.length + b.length ≤ 61
    · refine mul_a w hx hy fun A1 c1 n1 A2 c2 n2 e1 e2 => ?_
      injection e1 with e1
      simp at e1
      injection e2 with e2
      simp at e2
      obtain ⟨_, f1, _⟩ := e1
      obtain ⟨_, f2, _⟩ := e2
      omega
    · refine mul_b w hx hy fun A1 c1 n1 A2 c2 n2 e1 e2 => ?_
      injection e1 with e1
      simp at e1
      injection e2 with e2
      simp at e2
      obtain ⟨_, f1, _⟩ := e1
      obtain ⟨_, f2, _⟩ := e2
      refine ⟨by omega, ?_⟩
      by_cases h3 : x = 0
      · rw [h3]; simp [sg]
      · by_cases h4 : y = 0
        · rw [h4]; simp [sg]
        · exact absurd ⟨by omega, h3, h4⟩ h
end
end Go.Proofs.YtnifkianjpjahaaGreatDoor.Bg
/- Big integers: Neg, and what ints are. -/
namespace Go.Proofs.YtnifkianjpjahaaGreatDoor.Bg
open Go.ChangeShapes Go.WideShapes Go.ChangeAt Go.RowKit Go.Proofs.YtnifkianjpjahaaGreatDoor.Cell
set_option linter.unusedVariables false
set_option linter.unusedSimpArgs false
variable {N0 : Nat}

set_option maxRecDepth 100000 in
set_option maxHeartbeats 4000000 in
theorem neg_val {x : Int} {va : Value} (w : World) (hx : IsBig N0 w va x) :
    Calls Tryz.prog 33 #[va] w fun e w' => ∃ v, e = .returned v ∧ IsBig N0 w' v (-x) ∧ Below w.heap.size w w' := by
  obtain ⟨A, c, a, rfl, ha, na, h60⟩ := hx.ex
  obtain ⟨n, hn⟩ : ∃ n, a.length = n := ⟨_, rfl⟩
  rw [hn] at hx h60 ⊢
  have HX := Lib.hid hx
  have HAA := Lib.hid ha
  have HN := Lib.hid hn
  have HNN : Hid (Nm a (-x).natAbs) := Lib.hid (na.to (by omega))
  have hwn := wrap_sg x
  have HR0 := Lib.hid (boxW_res w x A n c)
  have R0 : Hid (Row (boxW w x A n c) w.heap.size 24 #[.int .i64 (sg x), .slice A n c]) := Lib.hid ((Row.new _ _ _).alloc _)
  unfold boxW at HR0 R0
  clear hx ha na hn
  go_enter Tryz.func33, Tryz.ntmps33
  go_wp2_with (fail)
  go_must (refine (right_val (HX.out.keep HR0.out.bl)).mono ?_)
  rintro e w2 ⟨rfl, hb2⟩
  have HR2 := Lib.hid (HR0.out.keep hb2)
  have r0 := R0.out.keep hb2
  have c0 := r0.cell 0
  have c1 := r0.cell 1
  clear hb2 HR0 R0
  have C0 := Lib.hid c0
  have C1 := Lib.hid c1
  clear r0
  go_wp2_with (fail)
  go_region_held3 (fun W' : World => Below w.heap.size w W' ∧ W'.cell? ⟨w.heap.size, 0, none⟩ = some (.int .i64 (sg x)) ∧ W'.cell? ⟨w.heap.size, 1, none⟩ = some (.slice A n c))
    (first | exact ⟨HR2.out.bl.drew, C0.out, C1.out⟩ | exact ⟨Gen.over (by assumption) (And.left (by assumption)), Gen.keep (by assumption) (And.left (And.right (by assumption))), Gen.keep (by assumption) (And.right (And.right (by assumption)))⟩ | exact ⟨Res.put (by assumption) _ _, put_cell (by assumption) _ _ (by omega) (And.left (And.right (by assumption))), put_cell (by assumption) _ _ (by omega) (And.right (And.right (by assumption)))⟩)
    (first
      | (go_at_call 87; refine (clone_any _ HN.out (HAA.out.keep (And.left (by assumption))) (by omega)).mono ?_; rintro e' w' ⟨A2, c2, rfl, hI2, hb2⟩; have hR2 := (HR2.out.keep (Below.refl _ _).drew).keep hb2)
      | (go_at_call 78; refine (signed_any _ HN.out hI2 HNN.out h60 (fun _ => rfl)).mono ?_; rintro e' w' ⟨v, rfl, hv, hb3⟩; obtain ⟨A3, c3, l3, rfl, _⟩ := hv.ex; have hR3 := hR2.keep hb3; have d0 := hR3.c0; have d1 := hR3.c1; have f0 := hR3.row.frozen 0; have f1 := hR3.row.frozen 1; have hg := hR3.row.lt))
  all_goals
    go_wp2
    refine bodyPost_ret (v := bigV (sg (-x)) A3 l3.length c3) ?_ rfl ⟨_, rfl, hR3.big hv _ _, hR3.put _ _⟩
    simp [results, Tryz.results33, go_sem, *]
theorem and_mask_u (n : Int) (h : 0 ≤ n ∧ n ≤ 18446744073709551615) : bits .and .u64 n 1048575 = n % 1048576 :=
  bits_mask .u64 64 (by decide) (fun n h0 h1 => IntWalk.u64_in n (by omega)) 20 (by decide) n h.1 (by omega)
/-- an unsigned number, digit by digit -/
structure Um (u : Int) (out : List Int) (k : Nat) (r : Int) : Prop where
  dg : Dg out
  len : out.length = k
  rng : 0 ≤ r ∧ r ≤ 18446744073709551615
  eq : val out + pw k * r = u
  tr : r = 0 → Tr out
theorem Um.start {u : Int} (h : 0 ≤ u ∧ u ≤ 18446744073709551615) : Um u [] 0 u := ⟨Dg.nil, rfl, h, by rw [val_nil, pw_zero]; omega, fun _ => Tr.nil⟩
theorem Um.step {u r : Int} {out : List Int} {k : Nat} (h : Um u out k r) (hr : 0 < r) : Um u (out ++ [r % 1048576]) (k + 1) (r / 1048576) := by
  have h3 := h.rng
  refine ⟨h.dg.snoc (by omega), by rw [List.length_append, h.len]; rfl, by omega, ?_, fun e => Tr.snoc (by omega)⟩
  rw [val_snoc, h.len, pw_succ, ← h.eq]
  have h4 : 1048576 * (r / 1048576) + r % 1048576 = r := by omega
  obtain ⟨q, hq⟩ : ∃ q, r / 1048576 = q := ⟨_, rfl⟩
  obtain ⟨d, hd⟩ : ∃ d, r % 1048576 = d := ⟨_, rfl⟩
  rw [hq, hd] at h4
  rw [hq, hd, ← h4]
  grind
theorem Um.few {u r : Int} {out : List Int} {k : Nat} (h : Um u out k r) (hu : u ≤ 18446744073709551615) (hr : 0 < r) : k ≤ 3 := by
  have h1 := h.eq
  have h2 := val_nonneg h.dg
  by_cases hk : k ≤ 3
  · exact hk
  · have h3 := pw_le (show 4 ≤ k by omega)
    have h4 : pw k * 1 ≤ pw k * r := Int.mul_le_mul_of_nonneg_left (by omega) (by have := pw_pos k; omega)
    have h5 : pw 4 = 1208925819614629174706176 := by decide
    omega
theorem Um.done {u : Int} {out : List Int} {k : Nat} (h : Um u out k 0) : Nm out u := ⟨h.dg, h.tr rfl, by have := h.eq; omega⟩
set_option maxRecDepth 100000 in
set_option maxHeartbeats 8000000 in
theorem ofMag_any {s u z : Int} (w : World) (hu : 0 ≤ u ∧ u ≤ 18446744073709551615) (hz : (z.natAbs : Int) = u) (hs : z ≠ 0 → s = sg z) :
    Calls Tryz.prog 94 #[.int .i64 s, .int .u64 u] w fun e w' => ∃ v, e = .returned v ∧ IsBig N0 w' v z ∧ Below w.heap.size w w' := by
  obtain ⟨iI, hiI, hzI, hyI, hxI⟩ := info_parts infoI
  have HU := Lib.hid hu
  have HZ := Lib.hid hz
  have HS := Lib.hid hs
  have HM0 := Lib.hid (Um.start hu)
  have HR0 := Lib.hid (Res.new (Below.refl w.heap.size w))
  have HO0 : Hid ((w.alloc (.cells #[.int .i64 0, .slice none 0 0] 24)).ownsRow (w.heap.size + 1) 3 1 (.slice none 0 0) 0 (ints [])) := Lib.hid (World.ownsRow_nil _ _ _ _)
  clear hu hz hs
  go_enter Tryz.func94, Tryz.ntmps94
  go_wp2
  go_loopw [1, 5] (fun uv lv wr => ∃ (k : Nat) (A2 : Option Addr) (c2 : Nat) (out : List Int) (r : Int), uv = .int .u64 r ∧ lv = .slice A2 k c2 ∧ Hid (wr.ownsRow (w.heap.size + 1) 3 1 (.slice A2 k c2) k (ints out)) ∧ Hid (Um u out k r) ∧ Hid (Res w wr w.heap.size)) (fun uv _ _ => (intOf uv).toNat)
  case atStart => exact ⟨0, _, _, [], u, rfl, rfl, HO0, HM0, HR0⟩
  case round =>
    clear HO0 HM0 HR0
    obtain ⟨k, A2, c2, out, r, rfl, rfl, HO, HM, HR⟩ := hrel
    obtain ⟨r0, r1⟩ := HM.out.rng
    by_cases hr : 0 < r
    · have hk := HM.out.few HU.out.2 hr
      have hs := HM.out.step hr
      have hand := and_mask_u r ⟨r0, r1⟩
      obtain ⟨d, hd⟩ : ∃ d, r % 1048576 = d := ⟨_, rfl⟩
      obtain ⟨q, hq⟩ : ∃ q, r / 1048576 = q := ⟨_, rfl⟩
      have hwd : IntKind.i64.wrap d = d := IntWalk.i64_in _ (by omega)
      have hm : q.toNat < r.toNat := by omega
      rw [hd, hq] at hs
      rw [hd] at hand
      have HS2 := Lib.hid hs
      have N1 : Hid (k + 1 ≤ maxLen) := Lib.hid (by simp only [maxLen]; omega)
      have N2 : Hid ((k + 1) * 8 ≤ 140737488355328) := Lib.hid (by omega)
      have HM2 := Lib.hid hm
      have hg := HR.out.row.lt
      clear hs hd hm
      go_wp2_with (first
        | (at_builtin
           go_must (refine App.wpList_append_any _ rfl (.tmp 10) (.tmp 14) _ rfl (w.heap.size + 1) 3 iI _ 1 8 Tryz.underlying22 hiI hzI hyI hxI rfl (by omega) (.slice A2 k c2) k (ints out) rfl (Gen.own_keep HO.out (Gen.b_alloc (Below.refl _ _))) _ _ 1 1 (ints [d]) rfl (Gen.reads_blk (by simp) rfl) (by simp [ints, Value.oneCell']) N1.out N2.out (by simp; omega) ?_)
           intro v7 w7 ho7 hg7 ha7
           have HR7 : Hid (Res w w7 w.heap.size) := Lib.hid ⟨Gen.g_row HO.out hg7 (by omega) (HR.out.row.alloc _), Gen.g_below HO.out hg7 (Gen.b_alloc HR.out.bl) (by omega), Nat.le_refl _⟩
           obtain ⟨A7, c7, hv7, _⟩ := Gen.own_slice ho7
           subst hv7
           have HO7 := Lib.hid ho7
           clear hg7 ha7 ho7)
        | fail)
      go_roundw
      case rel => exact ⟨k + 1, A7, c7, out ++ [d], q, rfl, rfl, Lib.hid (by rw [ints, List.map_append]; exact HO7.out), HS2, HR7⟩
      case measure => have := HM2.out; simp [intOf]; omega
    · obtain rfl : r = 0 := by omega
      have HD := Lib.hid HM.out.done
      have HL := Lib.hid HM.out.len
      obtain ⟨A7, c7, hv7, hI7⟩ := ints_own (N0 := N0) HO.out HM.out.len
      injection hv7 with e1 _ e2
      subst e1 e2
      have HI7 := Lib.hid hI7
      clear hI7 hr
      have HNZ : Hid (Nm out z.natAbs) := Lib.hid (HD.out.to HZ.out.symm)
      have hk60 : k ≤ 60 := by
        rw [← HL.out]
        refine (HD.out.len 60).2 ?_
        have := HU.out.2
        have h5 := pw_le (show 4 ≤ 60 by omega)
        have h6 : pw 4 = 1208925819614629174706176 := by decide
        omega
      go_wp2_with (fail)
      go_must (refine (signed_any _ HL.out HI7.out HNZ.out hk60 HS.out).mono ?_)
      rintro e w4 ⟨v, rfl, hv, hb4⟩
      obtain ⟨A3, c3, l3, rfl, _⟩ := hv.ex
      have HR2 := Lib.hid (HR.out.keep hb4)
      have HV := Lib.hid hv
      have d0 := HR2.out.c0
      have d1 := HR2.out.c1
      have f0 := HR2.out.row.frozen 0
      have f1 := HR2.out.row.frozen 1
      have hg := HR2.out.row.lt
      clear hb4 hv HR
      go_wp2
      refine bodyPost_ret (v := bigV (sg z) A3 l3.length c3) ?_ rfl ⟨_, rfl, HR2.out.big HV.out _ _, HR2.out.put _ _⟩
      simp [results, Tryz.results94, go_sem, *]
end Go.Proofs.YtnifkianjpjahaaGreatDoor.Bg
/- Big integers: Of, magnitude, Int. -/
namespace Go.Proofs.YtnifkianjpjahaaGreatDoor.Bg
open Go.ChangeShapes Go.WideShapes Go.ChangeAt Go.RowKit Go.Proofs.YtnifkianjpjahaaGreatDoor.Cell
set_option linter.unusedVariables false
set_option linter.unusedSimpArgs false
variable {N0 : Nat}

def I64 (n : Int) : Prop := -9223372036854775808 ≤ n ∧ n ≤ 9223372036854775807
set_option maxRecDepth 100000 in
set_option maxHeartbeats 4000000 in
theorem of_val (n : Int) (w : World) (hn : I64 n) : Calls Tryz.prog 35 #[.int .i64 n] w fun e w' => ∃ v, e = .returned v ∧ IsBig N0 w' v n ∧ Below w.heap.size w w' := by
  have hn := hn
  unfold I64 at hn
  have HR0 := Lib.hid (Res.new (Below.refl w.heap.size w))
  by_cases h0 : n < 0
  · have h1 : IntKind.u64.wrap n = n + 18446744073709551616 := by rw [IntKind.wrap_u64]; omega
    have h2 : IntKind.u64.wrap (-(n + 18446744073709551616)) = -n := by rw [IntKind.wrap_u64]; omega
    have HS : Hid (n ≠ 0 → -1 = sg n) := Lib.hid fun _ => (sg_neg h0).symm
    go_enter Tryz.func35, Tryz.ntmps35
    go_wp2_with (fail)
    go_must (refine (ofMag_any (N0 := N0) (z := n) _ (by omega) (by omega) HS.out).mono ?_)
    rintro e w4 ⟨v, rfl, hv, hb4⟩
    obtain ⟨A3, c3, l3, rfl, _⟩ := hv.ex
    have HR2 := Lib.hid (HR0.out.keep hb4)
    have HV := Lib.hid hv
    have d0 := HR2.out.c0
    have d1 := HR2.out.c1
    have f0 := HR2.out.row.frozen 0
    have f1 := HR2.out.row.frozen 1
    have hg := HR2.out.row.lt
    clear hb4 hv HR0
    go_wp2
    refine bodyPost_ret (v := bigV (sg n) A3 l3.length c3) ?_ rfl ⟨_, rfl, HR2.out.big HV.out _ _, HR2.out.put _ _⟩
    simp [results, Tryz.results35, go_sem, *]
  · have h1 : IntKind.u64.wrap n = n := by rw [IntKind.wrap_u64]; omega
    have HS : Hid (n ≠ 0 → 1 = sg n) := Lib.hid fun _ => (sg_pos (by omega)).symm
    go_enter Tryz.func35, Tryz.ntmps35
    go_wp2_with (fail)
    go_must (refine (ofMag_any (N0 := N0) (z := n) _ (by omega) (by omega) HS.out).mono ?_)
    rintro e w4 ⟨v, rfl, hv, hb4⟩
    obtain ⟨A3, c3, l3, rfl, _⟩ := hv.ex
    have HR2 := Lib.hid (HR0.out.keep hb4)
    have HV := Lib.hid hv
    have d0 := HR2.out.c0
    have d1 := HR2.out.c1
    have f0 := HR2.out.row.frozen 0
    have f1 := HR2.out.row.frozen 1
    have hg := HR2.out.row.lt
    clear hb4 hv HR0
    go_wp2
    refine bodyPost_ret (v := bigV (sg n) A3 l3.length c3) ?_ rfl ⟨_, rfl, HR2.out.big HV.out _ _, HR2.out.put _ _⟩
    simp [results, Tryz.results35, go_sem, *]
theorem bits_or_comm (k : IntKind) (a b : Int) : bits .or k a b = bits .or k b a := by
  simp only [bits, BitVec.or_comm]
theorem or_u (i : Nat) {u x : Int} (hx0 : 0 ≤ x) (hx : x % 2 ^ i = 0) (hx1 : x < 2 ^ 64) (hu : 0 ≤ u ∧ u < 2 ^ i) (hu1 : u < 2 ^ 64) : bits .or .u64 u x = u + x := by
  rw [bits_or_comm, bits_join .u64 64 (by decide) (fun n h0 h1 => IntWalk.u64_in n (by omega)) i x u hx0 hx hx1 hu.1 hu.2 hu1]
  omega
theorem pw_1 : pw 1 = 1048576 := by decide
theorem pw_2 : pw 2 = 1099511627776 := by decide
theorem pw_3 : pw 3 = 1152921504606846976 := by decide
theorem pw_4 : pw 4 = 1208925819614629174706176 := by decide
/-- numbers of at most 64 bits -/
theorem mag_few {l : List Int} (hd : Dg l) (ht : Tr l) (h : val l < 18446744073709551616) : l.length ≤ 4 ∧ ∀ d, l[3]? = some d → d ≤ 15 := by
  constructor
  · have hn : Nm l (val l) := ⟨hd, ht, rfl⟩
    exact (hn.len 4).2 (by rw [pw_4]; omega)
  · intro d h3
    have h1 : val (l.take 4) = val (l.take 3) + pw 3 * d := val_take_succ h3
    have h2 := val_split l 4 (by have := lt_of_at h3; omega)
    have h4 := val_nonneg (hd.take 3)
    have h5 := val_nonneg (hd.drop 4)
    rw [pw_3] at h1
    rw [pw_4] at h2
    omega
theorem mag_many {l : List Int} (hd : Dg l) (h : l.length ≤ 4) (h3 : ∀ d, l[3]? = some d → d ≤ 15) : val l < 18446744073709551616 := by
  have h1 := val_lt hd
  by_cases h4 : l.length = 4
  · obtain ⟨d, hx⟩ := at_ l 3 (by omega)
    have h5 := val_take_succ hx
    rw [List.take_of_length_le (by omega), pw_3] at h5
    have h6 := val_lt (hd.take 3)
    rw [List.length_take, Nat.min_eq_left (by omega), pw_3] at h6
    have := h3 d hx
    omega
  · have := pw_le (show l.length ≤ 3 by omega)
    rw [pw_3] at this
    omega
set_option maxRecDepth 100000 in
set_option maxHeartbeats 8000000 in
theorem mag_yes {A : Option Addr} {n c : Nat} {l : List Int} (w : World) (hn : l.length = n) (hc : Ints N0 w A l) (hd : Dg l) (ht : Tr l) (hv : val l < 18446744073709551616) :
    Calls Tryz.prog 80 #[.slice A n c] w fun e w' => e = .returned (.tuple #[.int .u64 (val l), .bool true]) ∧ w' = w := by
  obtain ⟨h4, h3⟩ := mag_few hd ht hv
  have HN := Lib.hid hn
  have HD := Lib.hid hd
  have H3 := Lib.hid h3
  have hn4 : n ≤ 4 := by omega
  have h4I : ¬ ((4 : Int) < (n : Int)) := by omega
  have HP : Hid (n = 4 → ∃ b off d, A = some ⟨b, off, none⟩ ∧ w.cell? ⟨b, off + 3, none⟩ = some (.int .i64 d) ∧ d ≤ 15) := Lib.hid fun h => by
    obtain ⟨b, off, e, hcell⟩ := hc (by omega)
    obtain ⟨d, hx⟩ := at_ l 3 (by omega)
    exact ⟨b, off, d, e, hcell 3 d hx, h3 d hx⟩
  clear hn hd ht hv h4 h3
  by_cases h4 : n = 4
  · obtain ⟨b, off, d, rfl, hcd, hd15⟩ := HP.out h4
    · subst h4
      have h15 : ¬ ((15 : Int) < d) := by omega
      go_enter Tryz.func80, Tryz.ntmps80
      go_wp2
      clear h15 hcd
      go_loopw [4, 23] (fun uv iv wr => ∃ k : Nat, k ≤ 4 ∧ iv = .int .i64 k ∧ uv = .int .u64 (val (l.take k)) ∧ wr = w) (fun _ iv _ => 4 - (intOf iv).toNat)
      case atStart => exact ⟨0, Nat.zero_le _, rfl, by rw [List.take_zero]; rfl, rfl⟩
      case round =>
        obtain ⟨k, hk, rfl, rfl, rfl⟩ := hrel
        have k0 : (0 : Int) ≤ (k : Int) := by omega
        by_cases hlt : k < 4
        · have hltI : (k : Int) < 4 := by omega
          obtain ⟨bl, ol, hBe, hcell⟩ := hc (by rw [HN.out]; omega)
          obtain ⟨x, hx⟩ := at_ l k (by rw [HN.out]; exact hlt)
          have c0 := hcell k x hx
          have hxd := HD.out.at_ hx
          have hts := val_take_succ hx
          have hu0 := val_nonneg (HD.out.take k)
          have hu1 := val_lt (HD.out.take k)
          rw [List.length_take, Nat.min_eq_left (by have := lt_of_at hx; omega)] at hu1
          have hx3 := fun h : k = 3 => H3.out x (h ▸ hx)
          clear hcell hx
          injection hBe with hBe
          injection hBe with e1 e2
          subst e1 e2
          have hwx : IntKind.u64.wrap x = x := IntWalk.u64_in _ (by omega)
          have h20 : IntKind.i64.wrap (20 * (k : Int)) = 20 * (k : Int) := IntWalk.i64_in _ (by omega)
          have h20n : ¬ (20 * (k : Int) < 0) := by omega
          have hkk : k = 0 ∨ k = 1 ∨ k = 2 ∨ k = 3 := by omega
          obtain ⟨m, hm1, hm2⟩ : ∃ m : Int, IntKind.u64.wrap (x * 2 ^ (20 * k)) = m ∧ bits .or .u64 (val (l.take k)) m = val (l.take (k + 1)) := by
            refine ⟨_, rfl, ?_⟩
            rcases hkk with h | h | h | h
            · subst h
              rw [pw_zero] at hu1 hts
              have e : x * 2 ^ (20 * 0) = x := by simp
              rw [e, hwx, or_u 0 hxd.1 (by omega) (by omega) (by omega) (by omega), hts]
              omega
            · subst h
              rw [pw_1] at hu1 hts
              have e : x * 2 ^ (20 * 1) = x * 1048576 := congrArg (x * ·) (by decide : (2 : Int) ^ (20 * 1) = 1048576)
              rw [e, IntWalk.u64_in _ (by omega), or_u 20 (by omega) (by omega) (by omega) (by omega) (by omega), hts]
              omega
            · subst h
              rw [pw_2] at hu1 hts
              have e : x * 2 ^ (20 * 2) = x * 1099511627776 := congrArg (x * ·) (by decide : (2 : Int) ^ (20 * 2) = 1099511627776)
              rw [e, IntWalk.u64_in _ (by omega), or_u 40 (by omega) (by omega) (by omega) (by omega) (by omega), hts]
              omega
            · have := hx3 h
              subst h
              rw [pw_3] at hu1 hts
              have e : x * 2 ^ (20 * 3) = x * 1152921504606846976 := congrArg (x * ·) (by decide : (2 : Int) ^ (20 * 3) = 1152921504606846976)
              rw [e, IntWalk.u64_in _ (by omega), or_u 60 (by omega) (by omega) (by omega) (by omega) (by omega), hts]
              omega
          clear hxd hts hu0 hu1 hx3 hkk
          go_wp2
          go_roundw
          case rel => exact ⟨k + 1, by omega, by go_num, rfl, trivial⟩
          case measure => simp [intOf]; omega
        · obtain rfl : k = 4 := by omega
          have HF : Hid (val (l.take 4) = val l) := Lib.hid (by rw [List.take_of_length_le (by rw [HN.out]; exact Nat.le_refl _)])
          go_wp2
          refine bodyPost_ret (v := .tuple #[.int .u64 (val (l.take 4)), .bool true]) ?_ rfl ⟨by rw [HF.out], rfl⟩
          simp [results, Tryz.results80, go_sem]
  · · have hnb : ((n : Int) == 4) = false := by simp; omega
      go_enter Tryz.func80, Tryz.ntmps80
      go_wp2
      clear hnb h4
      go_loopw [4, 23] (fun uv iv wr => ∃ k : Nat, k ≤ n ∧ iv = .int .i64 k ∧ uv = .int .u64 (val (l.take k)) ∧ wr = w) (fun _ iv _ => n - (intOf iv).toNat)
      case atStart => exact ⟨0, Nat.zero_le _, rfl, by rw [List.take_zero]; rfl, rfl⟩
      case round =>
        obtain ⟨k, hk, rfl, rfl, rfl⟩ := hrel
        have k0 : (0 : Int) ≤ (k : Int) := by omega
        by_cases hlt : k < n
        · have hltI : (k : Int) < (n : Int) := by omega
          obtain ⟨bl, ol, hBe, hcell⟩ := hc (by rw [HN.out]; omega)
          obtain ⟨x, hx⟩ := at_ l k (by rw [HN.out]; exact hlt)
          have c0 := hcell k x hx
          have hxd := HD.out.at_ hx
          have hts := val_take_succ hx
          have hu0 := val_nonneg (HD.out.take k)
          have hu1 := val_lt (HD.out.take k)
          rw [List.length_take, Nat.min_eq_left (by have := lt_of_at hx; omega)] at hu1
          have hx3 := fun h : k = 3 => H3.out x (h ▸ hx)
          clear hcell hx
          subst hBe
          have hwx : IntKind.u64.wrap x = x := IntWalk.u64_in _ (by omega)
          have h20 : IntKind.i64.wrap (20 * (k : Int)) = 20 * (k : Int) := IntWalk.i64_in _ (by omega)
          have h20n : ¬ (20 * (k : Int) < 0) := by omega
          have hkk : k = 0 ∨ k = 1 ∨ k = 2 ∨ k = 3 := by omega
          obtain ⟨m, hm1, hm2⟩ : ∃ m : Int, IntKind.u64.wrap (x * 2 ^ (20 * k)) = m ∧ bits .or .u64 (val (l.take k)) m = val (l.take (k + 1)) := by
            refine ⟨_, rfl, ?_⟩
            rcases hkk with h | h | h | h
            · subst h
              rw [pw_zero] at hu1 hts
              have e : x * 2 ^ (20 * 0) = x := by simp
              rw [e, hwx, or_u 0 hxd.1 (by omega) (by omega) (by omega) (by omega), hts]
              omega
            · subst h
              rw [pw_1] at hu1 hts
              have e : x * 2 ^ (20 * 1) = x * 1048576 := congrArg (x * ·) (by decide : (2 : Int) ^ (20 * 1) = 1048576)
              rw [e, IntWalk.u64_in _ (by omega), or_u 20 (by omega) (by omega) (by omega) (by omega) (by omega), hts]
              omega
            · subst h
              rw [pw_2] at hu1 hts
              have e : x * 2 ^ (20 * 2) = x * 1099511627776 := congrArg (x * ·) (by decide : (2 : Int) ^ (20 * 2) = 1099511627776)
              rw [e, IntWalk.u64_in _ (by omega), or_u 40 (by omega) (by omega) (by omega) (by omega) (by omega), hts]
              omega
            · have := hx3 h
              subst h
              rw [pw_3] at hu1 hts
              have e : x * 2 ^ (20 * 3) = x * 1152921504606846976 := congrArg (x * ·) (by decide : (2 : Int) ^ (20 * 3) = 1152921504606846976)
              rw [e, IntWalk.u64_in _ (by omega), or_u 60 (by omega) (by omega) (by omega) (by omega) (by omega), hts]
              omega
          clear hxd hts hu0 hu1 hx3 hkk
          go_wp2
          go_roundw
          case rel => exact ⟨k + 1, by omega, by go_num, rfl, trivial⟩
          case measure => simp [intOf]; omega
        · obtain rfl : n = k := by omega
          have HF : Hid (val (l.take n) = val l) := Lib.hid (by rw [List.take_of_length_le (by rw [HN.out]; exact Nat.le_refl _)])
          go_wp2
          refine bodyPost_ret (v := .tuple #[.int .u64 (val (l.take n)), .bool true]) ?_ rfl ⟨by rw [HF.out], rfl⟩
          simp [results, Tryz.results80, go_sem]
end Go.Proofs.YtnifkianjpjahaaGreatDoor.Bg
/- Big integers: Int. -/
namespace Go.Proofs.YtnifkianjpjahaaGreatDoor.Bg
open Go.ChangeShapes Go.WideShapes Go.ChangeAt Go.RowKit Go.Proofs.YtnifkianjpjahaaGreatDoor.Cell
set_option linter.unusedVariables false
set_option linter.unusedSimpArgs false
variable {N0 : Nat}

set_option maxRecDepth 100000 in
set_option maxHeartbeats 4000000 in
theorem mag_no {A : Option Addr} {n c : Nat} {l : List Int} (w : World) (hn : l.length = n) (hc : Ints N0 w A l) (hd : Dg l) (hv : 18446744073709551616 ≤ val l) (hbig : n ≤ 1000) :
    Calls Tryz.prog 80 #[.slice A n c] w fun e w' => e = .returned (.tuple #[.int .u64 0, .bool false]) ∧ w' = w := by
  by_cases h4 : 4 < n
  · have h4I : (4 : Int) < (n : Int) := by omega
    clear hn hc hd hv
    go_enter Tryz.func80, Tryz.ntmps80
    go_wp2
    refine bodyPost_ret (v := .tuple #[.int .u64 0, .bool false]) ?_ rfl ⟨rfl, rfl⟩
    simp [results, Tryz.results80, go_sem]
  · have hn4 : n = 4 := by
      have h1 := val_lt hd
      by_cases h : n = 4
      · exact h
      · have := pw_le (show l.length ≤ 3 by omega)
        rw [pw_3] at this
        omega
    subst hn4
    obtain ⟨b, off, rfl, hcell⟩ := hc (by omega)
    obtain ⟨d, hx⟩ := at_ l 3 (by omega)
    have hcd := hcell 3 d hx
    have h15 : 15 < d := by
      by_cases h : 15 < d
      · exact h
      · have := mag_many hd (by omega) (fun d' h' => by
          rw [hx] at h'
          injection h' with h'
          omega)
        omega
    clear hn hc hd hv hcell hx h4
    go_enter Tryz.func80, Tryz.ntmps80
    go_wp2
    refine bodyPost_ret (v := .tuple #[.int .u64 0, .bool false]) ?_ rfl ⟨rfl, rfl⟩
    simp [results, Tryz.results80, go_sem]
instance decI64 (n : Int) : Decidable (I64 n) := inferInstanceAs (Decidable (_ ∧ _))
set_option maxRecDepth 100000 in
set_option maxHeartbeats 4000000 in
theorem int_a {x : Int} {va : Value} (w : World) (hx : IsBig N0 w va x) (h : 18446744073709551616 ≤ (x.natAbs : Int)) :
    Calls Tryz.prog 20 #[va] w fun e w' => e = .returned (.tuple #[.int .i64 0, .bool false]) ∧ Below w.heap.size w w' := by
  obtain ⟨A, c, a, rfl, ha, na, h60⟩ := hx.ex
  obtain ⟨n, hn⟩ : ∃ n, a.length = n := ⟨_, rfl⟩
  rw [hn] at hx h60 ⊢
  have HX := Lib.hid hx
  have HAA := Lib.hid ha
  have HN := Lib.hid hn
  have HNA := Lib.hid na
  have hB0 : Below w.heap.size w (w.alloc (.cells #[.int .i64 (sg x), .slice A n c] 24)) := Gen.b_alloc (Below.refl _ _)
  have hr0 : Row (w.alloc (.cells #[.int .i64 (sg x), .slice A n c] 24)) w.heap.size 24 #[.int .i64 (sg x), .slice A n c] := Row.new _ _ _
  clear hx ha na hn
  go_enter Tryz.func20, Tryz.ntmps20
  go_wp2_with (fail)
  go_must (refine (right_val (HX.out.keep hB0)).mono ?_)
  rintro e w2 ⟨rfl, hb2⟩
  have HB2 := Lib.hid (Gen.over hb2 hB0)
  have r2 := hr0.keep hb2
  have c0 := r2.cell 0
  have c1 := r2.cell 1
  clear hb2 hB0 hr0
  go_wp2_with (fail)
  go_must (refine (mag_no _ HN.out (HAA.out.keep HB2.out) HNA.out.1 (by rw [HNA.out.2.2]; exact h) (by omega)).mono ?_)
  rintro e w3 ⟨rfl, rfl⟩
  go_wp2
  refine bodyPost_ret (v := .tuple #[.int .i64 0, .bool false]) ?_ rfl ⟨rfl, HB2.out⟩
  simp [results, Tryz.results20, go_sem]
set_option maxRecDepth 100000 in
set_option maxHeartbeats 4000000 in
theorem int_b {x : Int} {va : Value} (w : World) (hx : IsBig N0 w va x) (h : x < -9223372036854775808) (h2 : (x.natAbs : Int) < 18446744073709551616) :
    Calls Tryz.prog 20 #[va] w fun e w' => e = .returned (.tuple #[.int .i64 0, .bool false]) ∧ Below w.heap.size w w' := by
  obtain ⟨A, c, a, rfl, ha, na, h60⟩ := hx.ex
  obtain ⟨n, hn⟩ : ∃ n, a.length = n := ⟨_, rfl⟩
  rw [hn] at hx h60 ⊢
  have HX := Lib.hid hx
  have HAA := Lib.hid ha
  have HN := Lib.hid hn
  have HNA := Lib.hid na
  have hB0 : Below w.heap.size w (w.alloc (.cells #[.int .i64 (sg x), .slice A n c] 24)) := Gen.b_alloc (Below.refl _ _)
  have hr0 : Row (w.alloc (.cells #[.int .i64 (sg x), .slice A n c] 24)) w.heap.size 24 #[.int .i64 (sg x), .slice A n c] := Row.new _ _ _
  have hs : sg x = -1 := sg_neg (by omega)
  rw [hs] at hr0 hB0 HX ⊢
  obtain ⟨u, hu⟩ : ∃ u, (x.natAbs : Int) = u := ⟨_, rfl⟩
  have HU := Lib.hid hu
  have hu1 : ¬ (u ≤ 9223372036854775808) := by omega
  clear hx ha na hn hs
  go_enter Tryz.func20, Tryz.ntmps20
  go_wp2_with (fail)
  go_must (refine (right_val (HX.out.keep hB0)).mono ?_)
  rintro e w2 ⟨rfl, hb2⟩
  have HB2 := Lib.hid (Gen.over hb2 hB0)
  have r2 := hr0.keep hb2
  have c0 := r2.cell 0
  have c1 := r2.cell 1
  clear hb2 hB0 hr0
  go_wp2_with (fail)
  go_must (refine (mag_yes _ HN.out (HAA.out.keep HB2.out) HNA.out.1 HNA.out.2.1 (by rw [HNA.out.2.2]; omega)).mono ?_)
  rintro e w3 ⟨rfl, rfl⟩
  rw [HNA.out.2.2]
  rw [HU.out]
  clear h h2 hu
  go_wp2
  refine bodyPost_ret (v := .tuple #[.int .i64 0, .bool false]) ?_ rfl ⟨rfl, HB2.out⟩
  simp [results, Tryz.results20, go_sem]
set_option maxRecDepth 100000 in
set_option maxHeartbeats 4000000 in
theorem int_c {x : Int} {va : Value} (w : World) (hx : IsBig N0 w va x) (h : 9223372036854775807 < x) (h2 : (x.natAbs : Int) < 18446744073709551616) :
    Calls Tryz.prog 20 #[va] w fun e w' => e = .returned (.tuple #[.int .i64 0, .bool false]) ∧ Below w.heap.size w w' := by
  obtain ⟨A, c, a, rfl, ha, na, h60⟩ := hx.ex
  obtain ⟨n, hn⟩ : ∃ n, a.length = n := ⟨_, rfl⟩
  rw [hn] at hx h60 ⊢
  have HX := Lib.hid hx
  have HAA := Lib.hid ha
  have HN := Lib.hid hn
  have HNA := Lib.hid na
  have hB0 : Below w.heap.size w (w.alloc (.cells #[.int .i64 (sg x), .slice A n c] 24)) := Gen.b_alloc (Below.refl _ _)
  have hr0 : Row (w.alloc (.cells #[.int .i64 (sg x), .slice A n c] 24)) w.heap.size 24 #[.int .i64 (sg x), .slice A n c] := Row.new _ _ _
  have hs : sg x = 1 := sg_pos (by omega)
  rw [hs] at hr0 hB0 HX ⊢
  obtain ⟨u, hu⟩ : ∃ u, (x.natAbs : Int) = u := ⟨_, rfl⟩
  have HU := Lib.hid hu
  have hu1 : ¬ (u < 9223372036854775808) := by omega
  clear hx ha na hn hs
  go_enter Tryz.func20, Tryz.ntmps20
  go_wp2_with (fail)
  go_must (refine (right_val (HX.out.keep hB0)).mono ?_)
  rintro e w2 ⟨rfl, hb2⟩
  have HB2 := Lib.hid (Gen.over hb2 hB0)
  have r2 := hr0.keep hb2
  have c0 := r2.cell 0
  have c1 := r2.cell 1
  clear hb2 hB0 hr0
  go_wp2_with (fail)
  go_must (refine (mag_yes _ HN.out (HAA.out.keep HB2.out) HNA.out.1 HNA.out.2.1 (by rw [HNA.out.2.2]; omega)).mono ?_)
  rintro e w3 ⟨rfl, rfl⟩
  rw [HNA.out.2.2]
  rw [HU.out]
  clear h h2 hu
  go_wp2
  refine bodyPost_ret (v := .tuple #[.int .i64 0, .bool false]) ?_ rfl ⟨rfl, HB2.out⟩
  simp [results, Tryz.results20, go_sem]
set_option maxRecDepth 100000 in
set_option maxHeartbeats 4000000 in
theorem int_d {x : Int} {va : Value} (w : World) (hx : IsBig N0 w va x) (h : I64 x) (h2 : x < 0) :
    Calls Tryz.prog 20 #[va] w fun e w' => e = .returned (.tuple #[.int .i64 x, .bool true]) ∧ Below w.heap.size w w' := by
  unfold I64 at h
  obtain ⟨A, c, a, rfl, ha, na, h60⟩ := hx.ex
  obtain ⟨n, hn⟩ : ∃ n, a.length = n := ⟨_, rfl⟩
  rw [hn] at hx h60 ⊢
  have HX := Lib.hid hx
  have HAA := Lib.hid ha
  have HN := Lib.hid hn
  have HNA := Lib.hid na
  have hB0 : Below w.heap.size w (w.alloc (.cells #[.int .i64 (sg x), .slice A n c] 24)) := Gen.b_alloc (Below.refl _ _)
  have hr0 : Row (w.alloc (.cells #[.int .i64 (sg x), .slice A n c] 24)) w.heap.size 24 #[.int .i64 (sg x), .slice A n c] := Row.new _ _ _
  have hs : sg x = -1 := sg_neg (by omega)
  rw [hs] at hr0 hB0 HX ⊢
  obtain ⟨u, hu⟩ : ∃ u, (x.natAbs : Int) = u := ⟨_, rfl⟩
  have HU := Lib.hid hu
  have hu1 : u ≤ 9223372036854775808 := by omega
  have hw1 : IntKind.u64.wrap (-u) = 18446744073709551616 - u := by rw [IntKind.wrap_u64]; omega
  have hw2 : IntKind.i64.wrap (18446744073709551616 - u) = x := by rw [IntKind.wrap_i64]; omega
  clear hx ha na hn hs
  go_enter Tryz.func20, Tryz.ntmps20
  go_wp2_with (fail)
  go_must (refine (right_val (HX.out.keep hB0)).mono ?_)
  rintro e w2 ⟨rfl, hb2⟩
  have HB2 := Lib.hid (Gen.over hb2 hB0)
  have r2 := hr0.keep hb2
  have c0 := r2.cell 0
  have c1 := r2.cell 1
  clear hb2 hB0 hr0
  go_wp2_with (fail)
  go_must (refine (mag_yes _ HN.out (HAA.out.keep HB2.out) HNA.out.1 HNA.out.2.1 (by rw [HNA.out.2.2]; omega)).mono ?_)
  rintro e w3 ⟨rfl, rfl⟩
  rw [HNA.out.2.2]
  rw [HU.out]
  clear h h2 hu
  go_wp2
  refine bodyPost_ret (v := .tuple #[.int .i64 x, .bool true]) ?_ rfl ⟨rfl, HB2.out⟩
  simp [results, Tryz.results20, go_sem]
set_option maxRecDepth 100000 in
set_option maxHeartbeats 4000000 in
theorem int_e {x : Int} {va : Value} (w : World) (hx : IsBig N0 w va x) (h : I64 x) (h2 : 0 ≤ x) :
    Calls Tryz.prog 20 #[va] w fun e w' => e = .returned (.tuple #[.int .i64 x, .bool true]) ∧ Below w.heap.size w w' := by
  unfold I64 at h
  obtain ⟨A, c, a, rfl, ha, na, h60⟩ := hx.ex
  obtain ⟨n, hn⟩ : ∃ n, a.length = n := ⟨_, rfl⟩
  rw [hn] at hx h60 ⊢
  have HX := Lib.hid hx
  have HAA := Lib.hid ha
  have HN := Lib.hid hn
  have HNA := Lib.hid na
  have hB0 : Below w.heap.size w (w.alloc (.cells #[.int .i64 (sg x), .slice A n c] 24)) := Gen.b_alloc (Below.refl _ _)
  have hr0 : Row (w.alloc (.cells #[.int .i64 (sg x), .slice A n c] 24)) w.heap.size 24 #[.int .i64 (sg x), .slice A n c] := Row.new _ _ _
  have hs : 0 ≤ sg x := by have := sg_cases x; omega
  have HE : Hid ((x.natAbs : Int) = x) := Lib.hid (by omega)
  have hu1 : x < 9223372036854775808 := by omega
  have hw2 : IntKind.i64.wrap x = x := IntWalk.i64_in _ (by omega)
  have hsn : ¬ (sg x < 0) := by omega
  clear hx ha na hn
  go_enter Tryz.func20, Tryz.ntmps20
  go_wp2_with (fail)
  go_must (refine (right_val (HX.out.keep hB0)).mono ?_)
  rintro e w2 ⟨rfl, hb2⟩
  have HB2 := Lib.hid (Gen.over hb2 hB0)
  have r2 := hr0.keep hb2
  have c0 := r2.cell 0
  have c1 := r2.cell 1
  clear hb2 hB0 hr0
  go_wp2_with (fail)
  go_must (refine (mag_yes _ HN.out (HAA.out.keep HB2.out) HNA.out.1 HNA.out.2.1 (by rw [HNA.out.2.2]; omega)).mono ?_)
  rintro e w3 ⟨rfl, rfl⟩
  rw [HNA.out.2.2]
  rw [HE.out]
  clear h
  go_wp2
  refine bodyPost_ret (v := .tuple #[.int .i64 x, .bool true]) ?_ rfl ⟨rfl, HB2.out⟩
  simp [results, Tryz.results20, go_sem]
theorem int_val {x : Int} {va : Value} (w : World) (hx : IsBig N0 w va x) :
    Calls Tryz.prog 20 #[va] w fun e w' => e = .returned (.tuple #[.int .i64 (if I64 x then x else 0), .bool (decide (I64 x))]) ∧ Below w.heap.size w w' := by
  by_cases h : I64 x
  · rw [if_pos h, decide_eq_true h]
    by_cases h2 : x < 0
    · exact int_d w hx h h2
    · exact int_e w hx h (by omega)
  · rw [if_neg h, decide_eq_false h]
    by_cases h2 : (x.natAbs : Int) < 18446744073709551616
    · unfold I64 at h
      by_cases h3 : x < 0
      · exact int_b w hx (by omega) h2
      · exact int_c w hx (by omega) h2
    · exact int_a w hx (by omega)
end Go.Proofs.YtnifkianjpjahaaGreatDoor.Bg
