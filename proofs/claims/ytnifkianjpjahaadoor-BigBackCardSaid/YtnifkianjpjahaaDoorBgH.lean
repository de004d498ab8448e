/- Big integers: sum. -/
import Derived.Test.YtnifkianjpjahaaDoorBgG
namespace Go.Proofs.YtnifkianjpjahaaDoor.Bg
open Go.ChangeShapes Go.WideShapes Go.ChangeAt Go.RowKit Go.Proofs.YtnifkianjpjahaaDoor.Cell
set_option linter.unusedVariables false
set_option linter.unusedSimpArgs false

theorem sg_neg {z : Int} (h : z < 0) : sg z = -1 := if_pos h
theorem sg_pos {z : Int} (h : 0 < z) : sg z = 1 := (if_neg (by omega)).trans (if_pos h)
theorem sg_cases (z : Int) : (z < 0 ∧ sg z = -1) ∨ (z = 0 ∧ sg z = 0) ∨ (0 < z ∧ sg z = 1) := by
  rcases Int.lt_trichotomy z 0 with h | h | h
  · exact .inl ⟨h, sg_neg h⟩
  · subst h; exact .inr (.inl ⟨rfl, rfl⟩)
  · exact .inr (.inr ⟨h, sg_pos h⟩)
theorem Nm.to {l : List Int} {z z' : Int} (h : Nm l z) (e : z = z') : Nm l z' := e ▸ h
theorem Nm.le {l : List Int} {z : Int} (h : Nm l z) (hz : z < pw 60 + pw 60) : l.length ≤ 61 := (h.len 61).2 (by rw [pw_succ 60]; have := pw_pos 60; omega)
abbrev boxW (w : World) (x : Int) (A : Option Addr) (n c : Nat) : World := (w.alloc (.cells #[.int .i64 (sg x), .slice A n c] 24)).alloc (.cells #[.int .i64 0, .slice none 0 0] 24)
theorem boxW_bl (w : World) (x : Int) (A : Option Addr) (n c : Nat) : Below w.heap.size w (boxW w x A n c) := Gen.b_alloc (Gen.b_alloc (Below.refl _ _))
theorem boxW_res (w : World) (x : Int) (A : Option Addr) (n c : Nat) : Res w (boxW w x A n c) (w.heap.size + 1) := by
  have h := Res.new (w := w) (W := w.alloc (.cells #[.int .i64 (sg x), .slice A n c] 24)) (Gen.b_alloc (Below.refl _ _))
  rwa [World.size_alloc] at h
section
variable {x y : Int} {A A' : Option Addr} {n n' c c' : Nat} {a b : List Int}
set_option maxRecDepth 100000 in
set_option maxHeartbeats 4000000 in
theorem sum_c (w : World) (hn : a.length = n) (hn' : b.length = n') (ha : Ints w A a) (hb : Ints w A' b) (na : Nm a x.natAbs) (nb : Nm b y.natAbs) (h60 : n ≤ 60) (h60' : n' ≤ 60) (h0 : sg y ≠ 0) (hs : sg x = sg y) :
    Calls Tryd.prog 26 #[bigV (sg x) A n c, .int .i64 (sg y), .slice A' n' c'] w fun e w' => ∃ v, e = .returned (.tuple #[v, .int .i64 (fe (x + y))]) ∧ IsBig w' v (fz (x + y)) ∧ Below w.heap.size w w' := by
  have HR0 := Lib.hid (boxW_res w x A n c)
  have HB0 := Lib.hid (boxW_bl w x A n c)
  have hx := sg_cases x
  have hy := sg_cases y
  have HN : Hid (∀ l, Nm l (val a + val b) → Nm l (x + y).natAbs) := Lib.hid fun l h => h.to (by rw [na.2.2, nb.2.2]; omega)
  have HS : Hid (x + y ≠ 0 → sg y = sg (x + y)) := Lib.hid fun _ => by have := sg_cases (x + y); omega
  have HL : Hid (∀ l, Nm l (val a + val b) → l.length ≤ 1000) := Lib.hid fun l h => by
    have h1 := (na.len 60).1 (by omega)
    have h2 := (nb.len 60).1 (by omega)
    have := Nm.le h (by rw [na.2.2, nb.2.2]; omega)
    omega
  have hs0 : (sg y == 0) = false := by simpa using h0
  have hs1 : (sg x == 0) = false := by rw [hs]; exact hs0
  have hs2 : (sg x == sg y) = true := by simpa using hs
  clear hx hy
  obtain ⟨s, hsx⟩ : ∃ s, sg x = s := ⟨_, rfl⟩
  obtain ⟨s', hsy⟩ : ∃ s, sg y = s := ⟨_, rfl⟩
  rw [hsy] at hs0 hs2 HS
  rw [hsx] at hs1 hs2
  unfold boxW at HR0 HB0
  rw [hsx] at HR0 HB0
  rw [hsx, hsy]
  clear h0 hs hsx hsy
  go_enter Tryd.func26, Tryd.ntmps26
  go_wp2_with (fail)
  go_must (refine (add_any _ hn hn' (ha.keep HB0.out) (hb.keep HB0.out) na.1 nb.1 na.2.1 nb.2.1 (by omega) (by omega)).mono ?_)
  rintro e w2 ⟨A2, c2, l2, rfl, hI2, hN2, hb2⟩
  have HR2 := Lib.hid (HR0.out.keep hb2)
  have HL2 := HL.out l2 hN2
  clear hb2 HR0
  go_wp2_with (fail)
  go_must (refine (fit_any _ rfl hI2 (HN.out _ hN2) HL2 HS.out).mono ?_)
  rintro e w3 ⟨v, rfl, hv, hb3⟩
  clear hI2 hN2 hn hn' ha hb na nb HB0
  obtain ⟨A3, c3, l3, rfl, _⟩ := hv.ex
  have HR := Lib.hid (HR2.out.keep hb3)
  have HV := Lib.hid hv
  have d0 := HR.out.c0
  have d1 := HR.out.c1
  have f0 := HR.out.row.frozen 0
  have f1 := HR.out.row.frozen 1
  have hg := HR.out.row.lt
  clear hb3 hv HR2
  go_wp2
  refine bodyPost_ret (v := .tuple #[bigV (sg (fz (x + y))) A3 l3.length c3, .int .i64 (fe (x + y))]) ?_ rfl ⟨_, rfl, HR.out.big HV.out _ _, HR.out.put _ _⟩
  simp [results, Tryd.results26, go_sem, *]
set_option maxRecDepth 100000 in
set_option maxHeartbeats 4000000 in
theorem sum_d (w : World) (hn : a.length = n) (hn' : b.length = n') (ha : Ints w A a) (hb : Ints w A' b) (na : Nm a x.natAbs) (nb : Nm b y.natAbs) (h60 : n ≤ 60) (h60' : n' ≤ 60) (h0 : sg y ≠ 0) (h1 : sg x ≠ 0) (hs : sg x ≠ sg y) (hlt : val a < val b) :
    Calls Tryd.prog 26 #[bigV (sg x) A n c, .int .i64 (sg y), .slice A' n' c'] w fun e w' => ∃ v, e = .returned (.tuple #[v, .int .i64 (fe (x + y))]) ∧ IsBig w' v (fz (x + y)) ∧ Below w.heap.size w w' := by
  have HR0 := Lib.hid (boxW_res w x A n c)
  have HB0 := Lib.hid (boxW_bl w x A n c)
  have hx := sg_cases x
  have hy := sg_cases y
  have HN : Hid (∀ l, Nm l (val b - val a) → Nm l (x + y).natAbs) := Lib.hid fun l h => h.to (by rw [na.2.2, nb.2.2] at hlt ⊢; omega)
  have HS : Hid (x + y ≠ 0 → sg y = sg (x + y)) := Lib.hid fun _ => by have := sg_cases (x + y); rw [na.2.2, nb.2.2] at hlt; omega
  have HL : Hid (∀ l, Nm l (val b - val a) → l.length ≤ 1000) := Lib.hid fun l h => by
    have h1 := (na.len 60).1 (by omega)
    have h2 := (nb.len 60).1 (by omega)
    have := Nm.le h (by rw [na.2.2, nb.2.2]; omega)
    omega
  have hs0 : (sg y == 0) = false := by simpa using h0
  have hs1 : (sg x == 0) = false := by simpa using h1
  have hs2 : (sg x == sg y) = false := by simpa using hs
  have HC := Lib.hid (cmpI_lt hlt)
  have HLEN : Hid (n ≤ n') := Lib.hid (by
    by_cases h : n ≤ n'
    · exact h
    · have := val_len_lt nb.1 na.1 na.2.1 (by omega)
      omega)
  have HLE : Hid (val a ≤ val b) := Lib.hid (by omega)
  clear hx hy
  obtain ⟨s, hsx⟩ : ∃ s, sg x = s := ⟨_, rfl⟩
  obtain ⟨s', hsy⟩ : ∃ s, sg y = s := ⟨_, rfl⟩
  rw [hsy] at hs0 hs2 HS
  rw [hsx] at hs1 hs2
  unfold boxW at HR0 HB0
  rw [hsx] at HR0 HB0
  rw [hsx, hsy]
  clear h0 h1 hs hsx hsy hlt
  go_enter Tryd.func26, Tryd.ntmps26
  go_wp2_with (fail)
  go_must (refine (compare_any _ hn hn' (ha.keep HB0.out) (hb.keep HB0.out) na.1 nb.1 na.2.1 nb.2.1 (by omega) (by omega)).mono ?_)
  rintro e w1 ⟨rfl, q, rfl⟩
  rw [HC.out]
  go_wp2_with (fail)
  go_must (refine (sub_any _ hn' hn ((hb.keep HB0.out).keep (Gen.dN (Below.refl _ _) q)) ((ha.keep HB0.out).keep (Gen.dN (Below.refl _ _) q)) nb.1 na.1 HLEN.out HLE.out (by omega)).mono ?_)
  rintro e w2 ⟨A2, c2, l2, rfl, hI2, hN2, hb2⟩
  have HR2 := Lib.hid ((HR0.out.keep (Gen.dN (Below.refl _ _) q)).keep hb2)
  have HL2 := HL.out l2 hN2
  clear hb2 HR0
  go_wp2_with (fail)
  go_must (refine (fit_any _ rfl hI2 (HN.out _ hN2) HL2 HS.out).mono ?_)
  rintro e w3 ⟨v, rfl, hv, hb3⟩
  clear hI2 hN2 hn hn' ha hb na nb HB0
  obtain ⟨A3, c3, l3, rfl, _⟩ := hv.ex
  have HR := Lib.hid (HR2.out.keep hb3)
  have HV := Lib.hid hv
  have d0 := HR.out.c0
  have d1 := HR.out.c1
  have f0 := HR.out.row.frozen 0
  have f1 := HR.out.row.frozen 1
  have hg := HR.out.row.lt
  clear hb3 hv HR2
  go_wp2
  refine bodyPost_ret (v := .tuple #[bigV (sg (fz (x + y))) A3 l3.length c3, .int .i64 (fe (x + y))]) ?_ rfl ⟨_, rfl, HR.out.big HV.out _ _, HR.out.put _ _⟩
  simp [results, Tryd.results26, go_sem, *]
set_option maxRecDepth 100000 in
set_option maxHeartbeats 4000000 in
theorem sum_b (w : World) (hn : a.length = n) (hn' : b.length = n') (ha : Ints w A a) (hb : Ints w A' b) (na : Nm a x.natAbs) (nb : Nm b y.natAbs) (h60 : n ≤ 60) (h60' : n' ≤ 60) (h0 : sg y ≠ 0) (h1 : sg x = 0) :
    Calls Tryd.prog 26 #[bigV (sg x) A n c, .int .i64 (sg y), .slice A' n' c'] w fun e w' => ∃ v, e = .returned (.tuple #[v, .int .i64 (fe (x + y))]) ∧ IsBig w' v (fz (x + y)) ∧ Below w.heap.size w w' := by
  have HR0 := Lib.hid (boxW_res w x A n c)
  have HB0 := Lib.hid (boxW_bl w x A n c)
  have hx := sg_cases x
  have hx0 : x = 0 := by omega
  have HNB : Hid (Nm b (x + y).natAbs) := Lib.hid (nb.to (by omega))
  have HS : Hid (x + y ≠ 0 → sg y = sg (x + y)) := Lib.hid fun _ => by rw [hx0, Int.zero_add]
  have hf : Fit (x + y) := by rw [hx0, Int.zero_add]; exact Fit.of_len nb (by omega)
  rw [fe_yes hf, fz_yes hf]
  have hs0 : (sg y == 0) = false := by simpa using h0
  have hs1 : (sg x == 0) = true := by simpa using h1
  clear hx hx0 hf
  obtain ⟨s, hsx⟩ : ∃ s, sg x = s := ⟨_, rfl⟩
  obtain ⟨s', hsy⟩ : ∃ s, sg y = s := ⟨_, rfl⟩
  rw [hsy] at hs0 HS
  rw [hsx] at hs1
  unfold boxW at HR0 HB0
  rw [hsx] at HR0 HB0
  rw [hsx, hsy]
  clear h0 h1 hsx hsy na nb ha hn
  go_enter Tryd.func26, Tryd.ntmps26
  go_wp2_with (fail)
  go_must (refine (clone_any _ hn' (hb.keep HB0.out) (by omega)).mono ?_)
  rintro e w2 ⟨A2, c2, rfl, hI2, hb2⟩
  have HR2 := Lib.hid (HR0.out.keep hb2)
  clear hb2 HR0
  go_wp2_with (fail)
  go_must (refine (signed_any _ hn' hI2 HNB.out (by omega) HS.out).mono ?_)
  rintro e w3 ⟨v, rfl, hv, hb3⟩
  clear hI2 hn' hb HB0
  obtain ⟨A3, c3, l3, rfl, _⟩ := hv.ex
  have HR := Lib.hid (HR2.out.keep hb3)
  have HV := Lib.hid hv
  have d0 := HR.out.c0
  have d1 := HR.out.c1
  have f0 := HR.out.row.frozen 0
  have f1 := HR.out.row.frozen 1
  have hg := HR.out.row.lt
  clear hb3 hv HR2
  go_wp2
  refine bodyPost_ret (v := .tuple #[bigV (sg (x + y)) A3 l3.length c3, .int .i64 0]) ?_ rfl ⟨_, rfl, HR.out.big HV.out _ _, HR.out.put _ _⟩
  simp [results, Tryd.results26, go_sem, *]
end
end Go.Proofs.YtnifkianjpjahaaDoor.Bg
