/- Big integers: the opposite, above the memory that was there; greatest common divisors, plain; a region of two calls. -/
import Derived.Test.YtnifkianjpjahaaDoorLBgD
namespace Go.Proofs.YtnifkianjpjahaaDoor.Bg
open Go.ChangeShapes Go.WideShapes Go.ChangeAt Go.RowKit Go.Proofs.YtnifkianjpjahaaDoor.Cell
set_option linter.unusedVariables false
set_option linter.unusedSimpArgs false

theorem own_abv {w : World} {b n c : Nat} {e : TypeId} {m : Nat} {A : Option Addr} {xs : List Value} (h : w.ownsRow b e m (.slice A n c) n xs) : Abv b A := fun g o s ea => by
  subst ea
  rcases h.2 with h0 | ⟨g', cap, cur, h1, h2, _⟩
  · simp at h0
  · simp at h1
    omega
set_option maxRecDepth 100000 in
set_option maxHeartbeats 4000000 in
theorem clone_anyU {A : Option Addr} {n cap : Nat} {us : List Int} (w : World) (hm : us.length = n) (hc : Ints w A us) (hbig : n ≤ 1000000) :
    Calls Tryd.prog 37 #[.slice A n cap] w fun e w' => ∃ A2 c2, e = .returned (.slice A2 n c2) ∧ Ints w' A2 us ∧ Below w.heap.size w w' ∧ Abv w.heap.size A2 := by
  have HM := Lib.hid hm
  clear hm
  have hq := fun (W : World) => Lib.run_eql_slice_nil (P := Tryd.prog) W 22 3 A n cap 0 0 Tryd.underlying22
  cases A with
  | none =>
    obtain rfl : n = 0 := by
      by_cases h0 : 0 < n
      · obtain ⟨_, _, e, _⟩ := hc (by rw [HM.out]; exact h0)
        cases e
      · omega
    obtain rfl : us = [] := List.length_eq_zero_iff.1 HM.out
    go_enter Tryd.func37, Tryd.ntmps37
    go_wp2
    go_ret
    exact ⟨none, 0, rfl, fun h => by simp at h, Below.refl _ _, fun b o s e => by cases e⟩
  | some ad =>
    obtain ⟨i0, hi0, hz0, hz1, hz2⟩ := info_parts infoI
    have r1 := ints_reads HM.out hc
    have hown : (w.alloc (.cells #[] 3)).ownsRow w.heap.size 3 1 (.slice (some ⟨w.heap.size, 0, none⟩) 0 0) 0 [] :=
      ⟨rfl, .inr ⟨w.heap.size, 0, #[], rfl, Nat.le_refl _, heap_alloc_new w _, Nat.le_refl _, by simp [maxLen], rfl, rfl⟩⟩
    go_enter Tryd.func37, Tryd.ntmps37
    go_wp2_with (first
      | (at_builtin
         go_must (refine App.wpList_append_any _ rfl (.tmp 5) (.tmp 6) _ rfl w.heap.size 3 i0 _ 1 8 Tryd.underlying22 hi0 hz0 hz1 hz2 rfl (by omega) _ 0 [] rfl hown w.heap.size _ n cap (ints us) rfl (r1.alloc (Nat.le_refl _) _) (ints_one us) (by simp only [maxLen]; omega) (by omega) (by simp) ?_)
         intro v2 w2 hown2 hg2 hat2
         have hB2 := Gen.g_below hown hg2 (Gen.b_alloc (Below.refl _ _)) (Nat.le_refl _)
         rw [List.nil_append, Nat.zero_add] at hown2
         obtain ⟨A2, c2, rfl, hI2⟩ := ints_own hown2 HM.out
         have HAb := Lib.hid (own_abv hown2)
         have HI2 := Lib.hid hI2
         clear hg2 hat2 hown2 hI2)
      | fail)
    go_ret
    exact ⟨A2, c2, rfl, HI2.out, hB2, HAb.out⟩
set_option maxRecDepth 100000 in
set_option maxHeartbeats 4000000 in
theorem neg_valU {x : Int} {va : Value} (w : World) (hx : IsBig w va x) :
    Calls Tryd.prog 21 #[va] w fun e w' => ∃ v, e = .returned v ∧ IsBig w' v (-x) ∧ Below w.heap.size w w' ∧ Abo w.heap.size v := by
  obtain ⟨A, c, a, rfl, ha, na, h60⟩ := hx.ex
  obtain ⟨n, hn⟩ : ∃ n, a.length = n := ⟨_, rfl⟩
  rw [hn] at hx h60 ⊢
  have HX := Lib.hid hx
  have HAA := Lib.hid ha
  have HN := Lib.hid hn
  have HNN : Hid (Nm a (-x).natAbs) := Lib.hid (na.to (by omega))
  have hwn := wrap_sg x
  have HR0 := Lib.hid (boxW_res w x A n c)
  have R0 : Hid (Row (boxW w x A n c) w.heap.size 24 #[.int .i64 (sg x), .slice A n c]) := Lib.hid ((Row.new _ _ _).alloc _)
  unfold boxW at HR0 R0
  clear hx ha na hn
  go_enter Tryd.func21, Tryd.ntmps21
  go_wp2_with (fail)
  go_must (refine (right_val (HX.out.keep HR0.out.bl)).mono ?_)
  rintro e w2 ⟨rfl, hb2⟩
  have HR2 := Lib.hid (HR0.out.keep hb2)
  have r0 := R0.out.keep hb2
  have c0 := r0.cell 0
  have c1 := r0.cell 1
  clear hb2 HR0 R0
  have C0 := Lib.hid c0
  have C1 := Lib.hid c1
  clear r0
  go_wp2_with (fail)
  go_region_held3 (fun W' : World => Below w.heap.size w W' ∧ W'.cell? ⟨w.heap.size, 0, none⟩ = some (.int .i64 (sg x)) ∧ W'.cell? ⟨w.heap.size, 1, none⟩ = some (.slice A n c))
    (first | exact ⟨HR2.out.bl.drew, C0.out, C1.out⟩ | exact ⟨Gen.over (by assumption) (And.left (by assumption)), Gen.keep (by assumption) (And.left (And.right (by assumption))), Gen.keep (by assumption) (And.right (And.right (by assumption)))⟩ | exact ⟨Res.put (by assumption) _ _, put_cell (by assumption) _ _ (by omega) (And.left (And.right (by assumption))), put_cell (by assumption) _ _ (by omega) (And.right (And.right (by assumption)))⟩)
    (first
      | (go_at_call 37; refine (clone_anyU _ HN.out (HAA.out.keep (And.left (by assumption))) (by omega)).mono ?_; rintro e' w' ⟨A2, c2, rfl, hI2, hb2, hA2⟩; have hAb := hA2.le (Below.size (And.left (by assumption))); have hR2 := (HR2.out.keep (Below.refl _ _).drew).keep hb2)
      | (go_at_call 35; refine (signed_anyU _ HN.out hI2 HNN.out h60 (fun _ => rfl)).mono ?_; rintro e' w' ⟨v, rfl, hv, hb3, hF3⟩; have hAo := hF3.abo hAb; obtain ⟨A3, c3, l3, rfl, _⟩ := hv.ex; have hR3 := hR2.keep hb3; have d0 := hR3.c0; have d1 := hR3.c1; have f0 := hR3.row.frozen 0; have f1 := hR3.row.frozen 1; have hg := hR3.row.lt))
  all_goals
    go_wp2
    refine bodyPost_ret (v := bigV (sg (-x)) A3 l3.length c3) ?_ rfl ⟨_, rfl, hR3.big hv _ _, hR3.put _ _, hAo⟩
    simp [results, Tryd.results21, go_sem, *]
theorem Gcd_to {x y z t : Int} {va vb : Value} (w : World) (hx : IsBig w va x) (hy : IsBig w vb y) (hz : ((Int.gcd x y : Nat) : Int) = z) (ht : sg z = t) :
    Calls Tryd.prog 20 #[va, vb] w fun e w' => ∃ A n c, e = .returned (.tuple #[bigV t A n c, .int .i64 0]) ∧ IsBig w' (bigV t A n c) z ∧ Below w.heap.size w w' :=
  (Gcd_val w hx hy).mono fun e w' ⟨v, h1, h2, h3⟩ => by
    rw [hz] at h2
    obtain ⟨A, c, l, rfl, _⟩ := h2.ex
    subst ht
    exact ⟨A, l.length, c, h1, h2, h3⟩
theorem gcd_le {x y : Int} : ((Int.gcd x y : Nat) : Int) ≤ (x.natAbs : Int) + (y.natAbs : Int) := by
  by_cases h : 0 < x.natAbs
  · have : Int.gcd x y ≤ x.natAbs := Nat.le_of_dvd h (Nat.gcd_dvd_left _ _)
    omega
  · have : Int.gcd x y = y.natAbs := by show Nat.gcd x.natAbs y.natAbs = _; rw [show x.natAbs = 0 by omega, Nat.gcd_zero_left]
    omega
theorem gcd_sz {x y : Int} {k n : Nat} (hx : Sz k x) (hy : Sz k y) (hk : k < n) : Sz n ((Int.gcd x y : Nat) : Int) := by
  have h1 := @gcd_le x y
  have h2 := pw_le (show k + 1 ≤ n by omega)
  rw [pw_succ] at h2
  have h3 := pw_pos k
  unfold Sz at *
  omega
theorem gcd_negc (x y : Int) : Int.gcd (-y) x = Int.gcd x y := by
  show Nat.gcd (-y).natAbs x.natAbs = Nat.gcd x.natAbs y.natAbs
  rw [Int.natAbs_neg, Nat.gcd_comm]
theorem gcd_zero {x y : Int} : ((Int.gcd x y : Nat) : Int) = 0 ↔ x = 0 ∧ y = 0 := by
  constructor
  · intro h
    have h1 : Nat.gcd x.natAbs y.natAbs = 0 := by
      have : Int.gcd x y = 0 := by omega
      exact this
    have h2 := Nat.eq_zero_of_gcd_eq_zero_left h1
    have h3 := Nat.eq_zero_of_gcd_eq_zero_right h1
    omega
  · rintro ⟨rfl, rfl⟩
    rfl
theorem dr_dvd {x g : Int} (hg : 0 < g) (h : g ∣ x) : dr x g = 0 := by
  unfold dr
  rw [if_pos hg]
  exact Int.emod_eq_zero_of_dvd h
theorem gcd_dvd_a (x y : Int) : ((Int.gcd x y : Nat) : Int) ∣ x := Int.gcd_dvd_left ..
theorem gcd_dvd_b (x y : Int) : ((Int.gcd x y : Nat) : Int) ∣ y := Int.gcd_dvd_right ..
theorem gcd_dr (x y : Int) : Int.gcd x (dr y x) = Int.gcd x y := by
  have h := dq_dr y x
  rw [show dr y x = y - dq y x * x by omega, gcd_step, Int.gcd_comm]
theorem gcd_mul (x y z : Int) : ((Int.gcd (x * z) (y * z) : Nat) : Int) = ((Int.gcd x y : Nat) : Int) * (z.natAbs : Int) := by
  show ((Nat.gcd (x * z).natAbs (y * z).natAbs : Nat) : Int) = _
  rw [Int.natAbs_mul, Int.natAbs_mul, Nat.gcd_mul_right]
  rfl
/-- what holds behind a region that makes a variable of a call's result, of another call's value and a variable -/
def RJ2 (w : World) (t z u : Int) (L : List (Nat × Value × Int)) (vb va : Value) (tb tn ta tt tm t0 t1 tg te : Nat) (a a' : Act) (Y : World) : Prop :=
  ∃ g Ao no co A n c, a' = upd a [(tb, vb), (tn, bigV u Ao no co), (ta, va), (tt, .tuple #[bigV t A n c, .int .i64 0]), (tm, .tuple #[bigV t A n c, .int .i64 0]), (t0, bigV t A n c), (t1, .int .i64 0), (tg, .pointer (some ⟨g, 0, none⟩)), (te, .int .i64 0)] ∧
    Hid (Vs Y ((g, bigV t A n c, z) :: L)) ∧ Hid (Below w.heap.size w Y)
theorem RJ2.mk' {w : World} {t z u : Int} {L : List (Nat × Value × Int)} {vb va : Value} {tb tn ta tt tm t0 t1 tg te : Nat} {a a' : Act} {Y : World} (g : Nat) (Ao : Option Addr) (no co : Nat) (A : Option Addr) (n c : Nat)
    (ha : a' = upd a [(tb, vb), (tn, bigV u Ao no co), (ta, va), (tt, .tuple #[bigV t A n c, .int .i64 0]), (tm, .tuple #[bigV t A n c, .int .i64 0]), (t0, bigV t A n c), (t1, .int .i64 0), (tg, .pointer (some ⟨g, 0, none⟩)), (te, .int .i64 0)])
    (hV : Vs Y ((g, bigV t A n c, z) :: L)) (hB : Below w.heap.size w Y) : RJ2 w t z u L vb va tb tn ta tt tm t0 t1 tg te a a' Y := ⟨g, Ao, no, co, A, n, c, ha, Lib.hid hV, Lib.hid hB⟩
/-- what is spoken of in a region that reads two variables -/
theorem reg_put2 {W X : World} {g p q : Nat} {u v a b c d : Value} (h : Below W.heap.size W X ∧ X.cell? ⟨p, 0, none⟩ = some a ∧ X.cell? ⟨p, 1, none⟩ = some b ∧ X.cell? ⟨q, 0, none⟩ = some c ∧ X.cell? ⟨q, 1, none⟩ = some d) (hp : p < W.heap.size) (hq : q < W.heap.size) (hg : W.heap.size ≤ g) :
    Below W.heap.size W ((X.setCell ⟨g, 0, none⟩ u).setCell ⟨g, 1, none⟩ v) ∧ ((X.setCell ⟨g, 0, none⟩ u).setCell ⟨g, 1, none⟩ v).cell? ⟨p, 0, none⟩ = some a ∧ ((X.setCell ⟨g, 0, none⟩ u).setCell ⟨g, 1, none⟩ v).cell? ⟨p, 1, none⟩ = some b ∧
      ((X.setCell ⟨g, 0, none⟩ u).setCell ⟨g, 1, none⟩ v).cell? ⟨q, 0, none⟩ = some c ∧ ((X.setCell ⟨g, 0, none⟩ u).setCell ⟨g, 1, none⟩ v).cell? ⟨q, 1, none⟩ = some d :=
  ⟨below_set2 h.1 hg _ _, (set2_keep X g u v p 0 (by omega)).trans h.2.1, (set2_keep X g u v p 1 (by omega)).trans h.2.2.1, (set2_keep X g u v q 0 (by omega)).trans h.2.2.2.1, (set2_keep X g u v q 1 (by omega)).trans h.2.2.2.2⟩
end Go.Proofs.YtnifkianjpjahaaDoor.Bg
