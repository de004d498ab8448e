/- Big integers: div, whole; quotients that are rounded down. -/
import Derived.Test.YtnifkianjpjahaaDoorBgX
namespace Go.Proofs.YtnifkianjpjahaaDoor.Bg
open Go.ChangeShapes Go.WideShapes Go.ChangeAt Go.RowKit Go.Proofs.YtnifkianjpjahaaDoor.Cell
set_option linter.unusedVariables false
set_option linter.unusedSimpArgs false

section
variable {A A' : Option Addr} {n n' c c' : Nat} {a b : List Int}
set_option maxRecDepth 100000 in
set_option maxHeartbeats 8000000 in
theorem div_c (w : World) (hn : a.length = n) (hn' : b.length = 1) (ha : Ints w A a) (hb : Ints w A' b) (da : Dg a) (db : Dg b) (ta : Tr a) (tb : Tr b) (hbig : n ≤ 100) (hle : val b ≤ val a) (hb0 : 0 < val b) (hm : 18446744073709551616 ≤ val a) :
    Calls Tryd.prog 32 #[.slice A n c, .slice A' 1 c'] w (DivP w a b) := by
  obtain ⟨cm, hcm, hcm0⟩ : ∃ k, cmpI (val a) (val b) = k ∧ ¬ (k < 0) := ⟨_, rfl, by unfold cmpI; rw [if_neg (by omega)]; split <;> omega⟩
  have HC := Lib.hid hcm
  obtain ⟨bb, ob, rfl, hcell⟩ := hb (by omega)
  obtain ⟨d, hd⟩ := at_ b 0 (by omega)
  have c0 : w.cell? ⟨bb, ob, none⟩ = some (.int .i64 d) := hcell 0 d hd
  have hdd := db.at_ hd
  have hvb : val b = d := by
    have := val_take_succ hd
    rw [List.take_of_length_le (by omega), List.take_zero, val_nil, pw_zero] at this
    omega
  have HVB := Lib.hid hvb
  have hd1 : 1 ≤ d ∧ d < 1048576 := by omega
  have HB' := Lib.hid hb
  clear hcm hcell hd hvb hdd hb
  go_enter Tryd.func32, Tryd.ntmps32
  go_wp2_with (fail)
  go_must (refine (compare_any _ hn hn' ha HB'.out da db ta tb (by omega) (by omega)).mono ?_)
  rintro e w1 ⟨rfl, q, rfl⟩
  rw [HC.out]
  go_wp2_with (fail)
  go_must (refine (mag_no _ hn (ha.keep (Gen.dN (Below.refl _ _) q)) da hm (by omega)).mono ?_)
  rintro e w2 ⟨rfl, rfl⟩
  go_wp2_with (fail)
  go_must (refine (divDigit_any _ hn (ha.keep (Gen.dN (Below.refl _ _) q)) da hd1 (by omega)).mono ?_)
  rintro e w2 ⟨A1, c1, lq, A2, c2, lr, rfl, h1, h2, h3, h4, h5⟩
  have HP : Hid (DivP w a b (.returned (.tuple #[.slice A1 lq.length c1, .slice A2 lr.length c2])) w2) := Lib.hid ⟨A1, c1, lq, A2, c2, lr, rfl, h1, h2, by rw [HVB.out]; exact h3, by rw [HVB.out]; exact h4, Gen.over h5 (Gen.dN (Below.refl _ _) q)⟩
  clear h1 h2 h3 h4 h5 ha HB' c0
  go_wp2
  refine bodyPost_ret (v := .tuple #[.slice A1 lq.length c1, .slice A2 lr.length c2]) ?_ rfl HP.out
  simp [results, Tryd.results32, go_sem]
set_option maxRecDepth 100000 in
set_option maxHeartbeats 8000000 in
theorem div_d (w : World) (hn : a.length = n) (hn' : b.length = n') (ha : Ints w A a) (hb : Ints w A' b) (da : Dg a) (db : Dg b) (ta : Tr a) (tb : Tr b) (hbig : n ≤ 100) (h2 : 2 ≤ n') (hle : val b ≤ val a) (hm : 18446744073709551616 ≤ val a) :
    Calls Tryd.prog 32 #[.slice A n c, .slice A' n' c'] w (DivP w a b) := by
  obtain ⟨cm, hcm, hcm0⟩ : ∃ k, cmpI (val a) (val b) = k ∧ ¬ (k < 0) := ⟨_, rfl, by unfold cmpI; rw [if_neg (by omega)]; split <;> omega⟩
  have HC := Lib.hid hcm
  have hlen : n' ≤ n := by
    by_cases h : n' ≤ n
    · exact h
    · have := val_len_lt da db tb (by omega)
      omega
  have h1b : ((n' : Int) == 1) = false := by simp; omega
  clear hcm
  go_enter Tryd.func32, Tryd.ntmps32
  go_wp2_with (fail)
  go_must (refine (compare_any _ hn hn' ha hb da db ta tb (by omega) (by omega)).mono ?_)
  rintro e w1 ⟨rfl, q, rfl⟩
  rw [HC.out]
  go_wp2_with (fail)
  go_must (refine (mag_no _ hn (ha.keep (Gen.dN (Below.refl _ _) q)) da hm (by omega)).mono ?_)
  rintro e w2 ⟨rfl, rfl⟩
  go_wp2_with (fail)
  go_must (refine (divLong_any _ hn hn' (ha.keep (Gen.dN (Below.refl _ _) q)) (hb.keep (Gen.dN (Below.refl _ _) q)) da db tb h2 hlen hbig).mono ?_)
  rintro e w2 ⟨A1, c1, lq, A2, c2, lr, rfl, h1, h2, h3, h4, h5⟩
  have HP : Hid (DivP w a b (.returned (.tuple #[.slice A1 lq.length c1, .slice A2 lr.length c2])) w2) := Lib.hid ⟨A1, c1, lq, A2, c2, lr, rfl, h1, h2, h3, h4, Gen.over h5 (Gen.dN (Below.refl _ _) q)⟩
  clear h1 h2 h3 h4 h5 ha hb
  go_wp2
  refine bodyPost_ret (v := .tuple #[.slice A1 lq.length c1, .slice A2 lr.length c2]) ?_ rfl HP.out
  simp [results, Tryd.results32, go_sem]
theorem div_any (w : World) (hn : a.length = n) (hn' : b.length = n') (ha : Ints w A a) (hb : Ints w A' b) (da : Dg a) (db : Dg b) (ta : Tr a) (tb : Tr b) (hbig : n ≤ 100) (hbig' : n' ≤ 100) (hb0 : 0 < val b) :
    Calls Tryd.prog 32 #[.slice A n c, .slice A' n' c'] w (DivP w a b) := by
  by_cases hlt : val a < val b
  · exact div_a w hn hn' ha hb da db ta tb hbig hbig' hlt
  by_cases hm : val a < 18446744073709551616
  · exact div_b w hn hn' ha hb da db ta tb hbig hbig' (by omega) hb0 hm
  by_cases h1 : n' = 1
  · subst h1
    exact div_c w hn hn' ha hb da db ta tb hbig (by omega) hb0 (by omega)
  · have h0 : n' ≠ 0 := fun e => by
      have : b = [] := List.eq_nil_of_length_eq_zero (by omega)
      rw [this, val_nil] at hb0
      omega
    exact div_d w hn hn' ha hb da db ta tb hbig (by omega) (by omega) (by omega)
end
/-- the quotient, rounded down, and what remains -/
def dq (x y : Int) : Int := if 0 < y then x / y else (-x) / (-y)
def dr (x y : Int) : Int := if 0 < y then x % y else -((-x) % (-y))
theorem dq_dr (x y : Int) : dq x y * y + dr x y = x := by
  unfold dq dr
  split
  · have := Int.mul_ediv_add_emod x y
    rw [Int.mul_comm]
    exact this
  · have := Int.mul_ediv_add_emod (-x) (-y)
    have h : (-x) / (-y) * y = -((-y) * ((-x) / (-y))) := by rw [Int.neg_mul, Int.neg_neg, Int.mul_comm]
    omega
theorem dr_in {x y : Int} (hy : y ≠ 0) : (0 < y → 0 ≤ dr x y ∧ dr x y < y) ∧ (y < 0 → y < dr x y ∧ dr x y ≤ 0) := by
  unfold dr
  constructor
  · intro h
    rw [if_pos h]
    exact ⟨Int.emod_nonneg _ hy, Int.emod_lt_of_pos _ h⟩
  · intro h
    rw [if_neg (by omega)]
    have h1 := Int.emod_nonneg (-x) (show -y ≠ 0 by omega)
    have h2 := Int.emod_lt_of_pos (-x) (show 0 < -y by omega)
    omega
/-- by absolute values -/
theorem neg_div {X Y : Int} (hX : 0 ≤ X) (hY : 0 < Y) : (X % Y = 0 → (-X) / Y = -(X / Y) ∧ (-X) % Y = 0) ∧ (X % Y ≠ 0 → (-X) / Y = -(X / Y + 1) ∧ (-X) % Y = Y - X % Y) := by
  have h1 := Int.mul_ediv_add_emod X Y
  have h2 := Int.emod_nonneg X (show Y ≠ 0 by omega)
  have h3 := Int.emod_lt_of_pos X hY
  obtain ⟨q, hq⟩ : ∃ q, X / Y = q := ⟨_, rfl⟩
  obtain ⟨r, hr⟩ : ∃ r, X % Y = r := ⟨_, rfl⟩
  rw [hq, hr] at h1
  rw [hr] at h2 h3
  rw [hq, hr]
  constructor
  · intro h0
    have := (Int.ediv_emod_unique (a := -X) (b := Y) (r := 0) (q := -q) hY).2 ⟨by rw [Int.mul_neg]; omega, by omega, hY⟩
    exact this
  · intro h0
    have e : Y * (-(q + 1)) = -(Y * q) - Y := by rw [Int.mul_neg, Int.mul_add, Int.mul_one]; omega
    exact (Int.ediv_emod_unique (a := -X) (b := Y) (r := Y - r) (q := -(q + 1)) hY).2 ⟨by rw [e]; omega, by omega, by omega⟩
theorem dq_abs {x y : Int} (hy : y ≠ 0) :
    (sg x * sg y < 0 ∧ (x.natAbs : Int) % y.natAbs ≠ 0 → dq x y = -((x.natAbs : Int) / y.natAbs + 1) ∧ dr x y = sg y * (y.natAbs - (x.natAbs : Int) % y.natAbs)) ∧
    (¬ (sg x * sg y < 0 ∧ (x.natAbs : Int) % y.natAbs ≠ 0) → dq x y = (sg x * sg y) * ((x.natAbs : Int) / y.natAbs) ∧ dr x y = sg y * ((x.natAbs : Int) % y.natAbs)) := by
  rcases sg_cases y with ⟨h, e⟩ | ⟨h, _⟩ | ⟨h, e⟩
  · have ey : (y.natAbs : Int) = -y := by omega
    have h0 : ¬ (0 < y) := by omega
    unfold dq dr
    rw [if_neg h0, if_neg h0, e, ey]
    rcases sg_cases x with ⟨h', e'⟩ | ⟨h', e'⟩ | ⟨h', e'⟩
    · have ex : (x.natAbs : Int) = -x := by omega
      rw [e', ex]
      exact ⟨fun c => by omega, fun _ => by omega⟩
    · subst h'
      rw [e']
      exact ⟨fun c => by omega, fun _ => by simp⟩
    · have ex : (x.natAbs : Int) = x := by omega
      rw [e', ex]
      have hn := neg_div (X := x) (Y := -y) (by omega) (by omega)
      refine ⟨fun c => ?_, fun c => ?_⟩
      · have := hn.2 c.2
        omega
      · have := hn.1 (by omega)
        omega
  · exact absurd h hy
  · have ey : (y.natAbs : Int) = y := by omega
    unfold dq dr
    rw [if_pos h, if_pos h, e, ey]
    rcases sg_cases x with ⟨h', e'⟩ | ⟨h', e'⟩ | ⟨h', e'⟩
    · have ex : (x.natAbs : Int) = -x := by omega
      rw [e', ex]
      have hn := neg_div (X := -x) (Y := y) (by omega) h
      rw [Int.neg_neg] at hn
      refine ⟨fun c => ?_, fun c => ?_⟩
      · have := hn.2 c.2
        omega
      · have := hn.1 (by omega)
        omega
    · subst h'
      rw [e']
      exact ⟨fun c => by omega, fun _ => by simp⟩
    · have ex : (x.natAbs : Int) = x := by omega
      rw [e', ex]
      exact ⟨fun c => by omega, fun _ => by omega⟩
end Go.Proofs.YtnifkianjpjahaaDoor.Bg
