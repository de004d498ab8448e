/- Big integers: sum, where the order of evaluation is open. -/
import Derived.Test.YtnifkianjpjahaaDoorBgH
import Derived.Deep.DeepCutAuto
namespace Go.Proofs.YtnifkianjpjahaaDoor.Bg
open Go.ChangeShapes Go.WideShapes Go.ChangeAt Go.RowKit Go.Proofs.YtnifkianjpjahaaDoor.Cell
set_option linter.unusedVariables false
set_option linter.unusedSimpArgs false

section
variable {x y : Int} {A A' : Option Addr} {n n' c c' : Nat} {a b : List Int}
theorem put_cell {w W : World} {g : Nat} (h : Res w W g) (u v : Value) {b o : Nat} {x : Value} (hb : b ≠ g) (hc : W.cell? ⟨b, o, none⟩ = some x) : ((W.setCell ⟨g, 0, none⟩ u).setCell ⟨g, 1, none⟩ v).cell? ⟨b, o, none⟩ = some x :=
  (set2_keep W g u v b o hb).trans hc
theorem boxW_0 (w : World) (x : Int) (A : Option Addr) (n c : Nat) : (boxW w x A n c).cell? ⟨w.heap.size, 0, none⟩ = some (.int .i64 (sg x)) := ((Row.new w 24 #[.int .i64 (sg x), .slice A n c]).alloc _).cell 0
theorem boxW_1 (w : World) (x : Int) (A : Option Addr) (n c : Nat) : (boxW w x A n c).cell? ⟨w.heap.size, 1, none⟩ = some (.slice A n c) := ((Row.new w 24 #[.int .i64 (sg x), .slice A n c]).alloc _).cell 1
set_option maxRecDepth 100000 in
set_option maxHeartbeats 4000000 in
theorem sum_a (w : World) (hn : a.length = n) (hn' : b.length = n') (ha : Ints w A a) (hb : Ints w A' b) (na : Nm a x.natAbs) (nb : Nm b y.natAbs) (h60 : n ≤ 60) (h60' : n' ≤ 60) (h0 : sg y = 0) :
    Calls Tryd.prog 26 #[bigV (sg x) A n c, .int .i64 (sg y), .slice A' n' c'] w fun e w' => ∃ v, e = .returned (.tuple #[v, .int .i64 (fe (x + y))]) ∧ IsBig w' v (fz (x + y)) ∧ Below w.heap.size w w' := by
  have HR0 := Lib.hid (boxW_res w x A n c)
  have HB0 := Lib.hid (boxW_bl w x A n c)
  have hy := sg_cases y
  have hy0 : y = 0 := by omega
  have HNA : Hid (Nm a (x + y).natAbs) := Lib.hid (na.to (by omega))
  have HS : Hid (x + y ≠ 0 → sg x = sg (x + y)) := Lib.hid fun _ => by rw [hy0, Int.add_zero]
  have hf : Fit (x + y) := by rw [hy0, Int.add_zero]; exact Fit.of_len na (by omega)
  rw [fe_yes hf, fz_yes hf]
  have hs0 : (sg y == 0) = true := by simpa using h0
  have C0 := Lib.hid (boxW_0 w x A n c)
  have C1 := Lib.hid (boxW_1 w x A n c)
  clear hy hy0 hf
  obtain ⟨s, hsx⟩ : ∃ s, sg x = s := ⟨_, rfl⟩
  obtain ⟨s', hsy⟩ : ∃ s, sg y = s := ⟨_, rfl⟩
  rw [hsy] at hs0
  rw [hsx] at HS
  unfold boxW at HR0 HB0 C0 C1
  rw [hsx] at HR0 HB0 C0 C1
  rw [hsx, hsy]
  clear h0 hsx hsy na nb hb hn'
  go_enter Tryd.func26, Tryd.ntmps26
  go_wp2_with (fail)
  go_region_held3 (fun W' : World => Below w.heap.size w W' ∧ W'.cell? ⟨w.heap.size, 0, none⟩ = some (.int .i64 s) ∧ W'.cell? ⟨w.heap.size, 1, none⟩ = some (.slice A n c))
    (first | exact ⟨HB0.out.drew, C0.out, C1.out⟩ | exact ⟨Gen.over (by assumption) (And.left (by assumption)), Gen.keep (by assumption) (And.left (And.right (by assumption))), Gen.keep (by assumption) (And.right (And.right (by assumption)))⟩ | exact ⟨Res.put (by assumption) _ _, put_cell (by assumption) _ _ (by omega) (And.left (And.right (by assumption))), put_cell (by assumption) _ _ (by omega) (And.right (And.right (by assumption)))⟩)
    (first
      | (go_at_call 37; refine (clone_any _ hn (ha.keep (And.left (by assumption))) (by omega)).mono ?_; rintro e' w' ⟨A2, c2, rfl, hI2, hb2⟩; have hR2 := (HR0.out.keep (Below.refl _ _).drew).keep hb2)
      | (go_at_call 35; refine (signed_any _ hn hI2 HNA.out (by omega) HS.out).mono ?_; rintro e' w' ⟨v, rfl, hv, hb3⟩; obtain ⟨A3, c3, l3, rfl, _⟩ := hv.ex; have hR3 := hR2.keep hb3; have d0 := hR3.c0; have d1 := hR3.c1; have f0 := hR3.row.frozen 0; have f1 := hR3.row.frozen 1; have hg := hR3.row.lt))
  all_goals
    go_wp2
    refine bodyPost_ret (v := .tuple #[bigV (sg (x + y)) A3 l3.length c3, .int .i64 0]) ?_ rfl ⟨_, rfl, hR3.big hv _ _, hR3.put _ _⟩
    simp [results, Tryd.results26, go_sem, *]
set_option maxRecDepth 100000 in
set_option maxHeartbeats 4000000 in
theorem sum_e (w : World) (hn : a.length = n) (hn' : b.length = n') (ha : Ints w A a) (hb : Ints w A' b) (na : Nm a x.natAbs) (nb : Nm b y.natAbs) (h60 : n ≤ 60) (h60' : n' ≤ 60) (h0 : sg y ≠ 0) (h1 : sg x ≠ 0) (hs : sg x ≠ sg y) (hlt : val b ≤ val a) :
    Calls Tryd.prog 26 #[bigV (sg x) A n c, .int .i64 (sg y), .slice A' n' c'] w fun e w' => ∃ v, e = .returned (.tuple #[v, .int .i64 (fe (x + y))]) ∧ IsBig w' v (fz (x + y)) ∧ Below w.heap.size w w' := by
  have HR0 := Lib.hid (boxW_res w x A n c)
  have HB0 := Lib.hid (boxW_bl w x A n c)
  have hx := sg_cases x
  have hy := sg_cases y
  have HN : Hid (∀ l, Nm l (val a - val b) → Nm l (x + y).natAbs) := Lib.hid fun l h => h.to (by rw [na.2.2, nb.2.2] at hlt ⊢; omega)
  have HS : Hid (x + y ≠ 0 → sg x = sg (x + y)) := Lib.hid fun _ => by have := sg_cases (x + y); rw [na.2.2, nb.2.2] at hlt; omega
  have HL : Hid (∀ l, Nm l (val a - val b) → l.length ≤ 1000) := Lib.hid fun l h => by
    have h1 := (na.len 60).1 (by omega)
    have h2 := (nb.len 60).1 (by omega)
    have := Nm.le h (by rw [na.2.2, nb.2.2]; omega)
    omega
  have hs0 : (sg y == 0) = false := by simpa using h0
  have hs1 : (sg x == 0) = false := by simpa using h1
  have hs2 : (sg x == sg y) = false := by simpa using hs
  have C0 := Lib.hid (boxW_0 w x A n c)
  have C1 := Lib.hid (boxW_1 w x A n c)
  have HC : Hid (decide (cmpI (val a) (val b) < 0) = false) := Lib.hid (decide_eq_false (by
    unfold cmpI
    rw [if_neg (by omega)]
    split <;> omega))
  have HCP : Hid (∃ k, cmpI (val a) (val b) = k ∧ ¬ (k < 0)) := Lib.hid ⟨_, rfl, of_decide_eq_false HC.out⟩
  have HLEN : Hid (n' ≤ n) := Lib.hid (by
    by_cases h : n' ≤ n
    · exact h
    · have := val_len_lt na.1 nb.1 nb.2.1 (by omega)
      omega)
  have HLE := Lib.hid hlt
  clear hx hy HC
  obtain ⟨s, hsx⟩ : ∃ s, sg x = s := ⟨_, rfl⟩
  obtain ⟨s', hsy⟩ : ∃ s, sg y = s := ⟨_, rfl⟩
  rw [hsy] at hs0 hs2
  rw [hsx] at hs1 hs2 HS
  unfold boxW at HR0 HB0 C0 C1
  rw [hsx] at HR0 HB0 C0 C1
  rw [hsx, hsy]
  clear h0 h1 hs hsx hsy hlt
  go_enter Tryd.func26, Tryd.ntmps26
  go_wp2_with (fail)
  go_must (refine (compare_any _ hn hn' (ha.keep HB0.out) (hb.keep HB0.out) na.1 nb.1 na.2.1 nb.2.1 (by omega) (by omega)).mono ?_)
  rintro e w1 ⟨rfl, q, rfl⟩
  obtain ⟨k, hk, hk0⟩ := HCP.out
  rw [hk]
  clear hk HCP
  go_wp2_with (fail)
  go_region_held3 (fun W' : World => Below w.heap.size w W' ∧ W'.cell? ⟨w.heap.size, 0, none⟩ = some (.int .i64 s) ∧ W'.cell? ⟨w.heap.size, 1, none⟩ = some (.slice A n c))
    (first | exact ⟨(Gen.dN HB0.out _).drew, C0.out, C1.out⟩ | exact ⟨Gen.over (by assumption) (And.left (by assumption)), Gen.keep (by assumption) (And.left (And.right (by assumption))), Gen.keep (by assumption) (And.right (And.right (by assumption)))⟩ | exact ⟨Res.put (by assumption) _ _, put_cell (by assumption) _ _ (by omega) (And.left (And.right (by assumption))), put_cell (by assumption) _ _ (by omega) (And.right (And.right (by assumption)))⟩)
    (first
      | (go_at_call 34; refine (sub_any _ hn hn' (ha.keep (And.left (by assumption))) (hb.keep (And.left (by assumption))) na.1 nb.1 HLEN.out HLE.out (by omega)).mono ?_; rintro e' w' ⟨A2, c2, l2, rfl, hI2, hN2, hb2⟩; have hR2 := (HR0.out.keep (Gen.dN (Below.refl _ _) q).drew).keep hb2)
      | (go_at_call 27; refine (fit_any _ rfl hI2 (HN.out _ hN2) (HL.out _ hN2) HS.out).mono ?_; rintro e' w' ⟨v, rfl, hv, hb3⟩; obtain ⟨A3, c3, l3, rfl, _⟩ := hv.ex; have hR3 := hR2.keep hb3; have d0 := hR3.c0; have d1 := hR3.c1; have f0 := hR3.row.frozen 0; have f1 := hR3.row.frozen 1; have hg := hR3.row.lt))
  all_goals
    go_wp2
    refine bodyPost_ret (v := .tuple #[bigV (sg (fz (x + y))) A3 l3.length c3, .int .i64 (fe (x + y))]) ?_ rfl ⟨_, rfl, hR3.big hv _ _, hR3.put _ _⟩
    simp [results, Tryd.results26, go_sem, *]
theorem sum_any {va : Value} (w : World) (hx : IsBig w va x) (hn' : b.length = n') (hb : Ints w A' b) (nb : Nm b y.natAbs) (h60' : n' ≤ 60) :
    Calls Tryd.prog 26 #[va, .int .i64 (sg y), .slice A' n' c'] w fun e w' => ∃ v, e = .returned (.tuple #[v, .int .i64 (fe (x + y))]) ∧ IsBig w' v (fz (x + y)) ∧ Below w.heap.size w w' := by
  obtain ⟨A, c, a, rfl, ha, na, h60⟩ := hx.ex
  by_cases h0 : sg y = 0
  · exact sum_a w rfl hn' ha hb na nb h60 h60' h0
  by_cases h1 : sg x = 0
  · exact sum_b w rfl hn' ha hb na nb h60 h60' h0 h1
  by_cases hs : sg x = sg y
  · exact sum_c w rfl hn' ha hb na nb h60 h60' h0 hs
  by_cases hlt : val a < val b
  · exact sum_d w rfl hn' ha hb na nb h60 h60' h0 h1 hs hlt
  · exact sum_e w rfl hn' ha hb na nb h60 h60' h0 h1 hs (by omega)
end
end Go.Proofs.YtnifkianjpjahaaDoor.Bg
