/- Texts of one kind joined: fractions, first part. -/
import Derived.Test.YtnifkianjpjahaaGreatDoorTmF
/- Fractions: values; whether a number is 1; whether a fraction is right. -/
namespace Go.Proofs.YtnifkianjpjahaaGreatDoor.Bg
open Go.ChangeShapes Go.WideShapes Go.ChangeAt Go.RowKit Go.Proofs.YtnifkianjpjahaaGreatDoor.Cell
set_option linter.unusedVariables false
set_option linter.unusedSimpArgs false
variable {N0 : Nat}

abbrev frV (s : Int) (A : Option Addr) (n c : Nat) (s' : Int) (A' : Option Addr) (n' c' : Nat) : Value := .agg #[.int .i64 s, .slice A n c, .int .i64 s', .slice A' n' c']
set_option maxRecDepth 100000 in
theorem one_yes {va : Value} (w : World) (hx : IsBig N0 w va 1) : Calls Tryz.prog 99 #[va] w fun e w' => e = .returned (.bool true) ∧ Below w.heap.size w w' := by
  obtain ⟨A, c, a, rfl, ha, na, h60⟩ := hx.ex
  have hs : sg 1 = 1 := rfl
  rw [hs]
  have hn1 : a.length ≤ 1 := (na.len 1).2 (by rw [pw_1]; decide)
  have hn0 : a ≠ [] := fun e => by
    have := na.2.2
    rw [e] at this
    simp [val] at this
  obtain ⟨x, rfl⟩ : ∃ x, a = [x] := by
    cases a with
    | nil => exact absurd rfl hn0
    | cons x t =>
      cases t with
      | nil => exact ⟨x, rfl⟩
      | cons y t => simp at hn1
  have hx1 : x = 1 := by
    have := na.2.2
    simp [val] at this
    omega
  subst hx1
  obtain ⟨b, off, rfl, hc⟩ := ha (by simp)
  have c0 := hc 0 1 rfl
  rw [Nat.add_zero] at c0
  have c1 : (w.alloc (.cells #[.int .i64 1, .slice (some ⟨b, off, none⟩) 1 c] 24)).cell? ⟨b, off, none⟩ = some (.int .i64 1) := Gen.al c0
  clear hx ha na h60 hn1 hn0 hc hs c0
  go_enter Tryz.func99, Tryz.ntmps99
  go_wp2
  go_ret
  exact ⟨rfl, by go_grown⟩
set_option maxRecDepth 100000 in
theorem one_no {va : Value} {z : Int} (w : World) (hx : IsBig N0 w va z) (hz : z ≠ 1) : Calls Tryz.prog 99 #[va] w fun e w' => e = .returned (.bool false) ∧ Below w.heap.size w w' := by
  obtain ⟨A, c, a, rfl, ha, na, h60⟩ := hx.ex
  obtain ⟨n, hn⟩ : ∃ n, a.length = n := ⟨_, rfl⟩
  rw [hn]
  by_cases h1 : sg z = 1
  · rw [h1]
    by_cases h2 : n = 1
    · obtain ⟨x, rfl⟩ : ∃ x, a = [x] := by
        cases a with
        | nil => simp at hn; omega
        | cons x t =>
          cases t with
          | nil => exact ⟨x, rfl⟩
          | cons y t => simp at hn; omega
      subst h2
      have hx1 : ((x : Int) == 1) = false := by
        have h3 := na.2.2
        simp [val] at h3
        have h4 := sg_cases z
        simp
        omega
      obtain ⟨b, off, rfl, hc⟩ := ha (by simp)
      have c0 := hc 0 x rfl
      rw [Nat.add_zero] at c0
      have c1 : (w.alloc (.cells #[.int .i64 1, .slice (some ⟨b, off, none⟩) 1 c] 24)).cell? ⟨b, off, none⟩ = some (.int .i64 x) := Gen.al c0
      clear hx ha na h60 hc c0 hn h1 hz
      go_enter Tryz.func99, Tryz.ntmps99
      go_wp2
      go_ret
      exact ⟨rfl, by go_grown⟩
    · have h3 : ((n : Int) == 1) = false := by simp; omega
      clear hx ha na h60 hn h1 hz h2
      go_enter Tryz.func99, Tryz.ntmps99
      go_wp2
      go_ret
      exact ⟨rfl, by go_grown⟩
  · have h3 : (sg z == 1) = false := by simp [h1]
    clear hx ha na h60 hn hz h1
    go_enter Tryz.func99, Tryz.ntmps99
    go_wp2
    go_ret
    exact ⟨rfl, by go_grown⟩
end Go.Proofs.YtnifkianjpjahaaGreatDoor.Bg
/- Fractions: whether a fraction is right. -/
namespace Go.Proofs.YtnifkianjpjahaaGreatDoor.Bg
open Go.ChangeShapes Go.WideShapes Go.ChangeAt Go.RowKit Go.Proofs.YtnifkianjpjahaaGreatDoor.Cell
set_option linter.unusedVariables false
set_option linter.unusedSimpArgs false
variable {N0 : Nat}

/-- p and q are the parts of a right fraction -/
def Rt (p q : Int) : Prop := 0 < q ∧ Int.gcd p q = 1
instance decRt (p q : Int) : Decidable (Rt p q) := inferInstanceAs (Decidable (_ ∧ _))
abbrev fC (s : Int) (A : Option Addr) (n c : Nat) (s' : Int) (A' : Option Addr) (n' c' : Nat) : Array Value := #[.int .i64 s, .slice A n c, .int .i64 s', .slice A' n' c']
section
variable {s s' : Int} {A A' : Option Addr} {n c n' c' : Nat} {p q : Int}
set_option maxRecDepth 100000 in
set_option maxHeartbeats 4000000 in
theorem fright_a (w : World) (hp : IsBig N0 w (bigV s A n c) p) (hq : IsBig N0 w (bigV s' A' n' c') q) (h : ¬ 0 < q) :
    Calls Tryz.prog 54 #[frV s A n c s' A' n' c'] w fun e w' => e = .returned (.bool false) ∧ Below w.heap.size w w' := by
  have hs : s' ≤ 0 := by
    have h1 := sg_cases q
    rw [← hq.sgn] at h1
    omega
  have HP := Lib.hid hp
  have HQ := Lib.hid hq
  have HB := Lib.hid (Gen.b_alloc (x := .cells (fC s A n c s' A' n' c') 43) (Below.refl w.heap.size w))
  have R0 := Lib.hid (Row.new w 43 (fC s A n c s' A' n' c'))
  clear hp hq h
  go_enter Tryz.func54, Tryz.ntmps54
  go_wp2_with (fail)
  go_must (refine (right_val (HP.out.keep HB.out)).mono ?_)
  rintro e w2 ⟨rfl, hb⟩
  replace R0 := Lib.hid (R0.out.keep hb)
  replace HB := Lib.hid (Gen.over hb HB.out)
  clear hb
  have c2 := R0.out.cell 2
  have c3 := R0.out.cell 3
  go_wp2_with (fail)
  go_must (refine (right_val (HQ.out.keep HB.out)).mono ?_)
  rintro e w3 ⟨rfl, hb⟩
  replace R0 := Lib.hid (R0.out.keep hb)
  replace HB := Lib.hid (Gen.over hb HB.out)
  clear hb c2 c3
  have c2 := R0.out.cell 2
  go_wp2
  go_ret
  exact ⟨rfl, HB.out⟩
set_option maxRecDepth 100000 in
set_option maxHeartbeats 4000000 in
theorem fright_b (w : World) (hp : IsBig N0 w (bigV s A n c) p) (hq : IsBig N0 w (bigV s' A' n' c') q) (h : 0 < q) :
    Calls Tryz.prog 54 #[frV s A n c s' A' n' c'] w fun e w' => e = .returned (.bool (decide (Int.gcd p q = 1))) ∧ Below w.heap.size w w' := by
  have hs : ¬ s' ≤ 0 := by
    rw [hq.sgn, sg_pos h]
    omega
  have HP := Lib.hid hp
  have HQ := Lib.hid hq
  have HB := Lib.hid (Gen.b_alloc (x := .cells (fC s A n c s' A' n' c') 43) (Below.refl w.heap.size w))
  have R0 := Lib.hid (Row.new w 43 (fC s A n c s' A' n' c'))
  clear hp hq h
  go_enter Tryz.func54, Tryz.ntmps54
  go_wp2_with (fail)
  go_must (refine (right_val (HP.out.keep HB.out)).mono ?_)
  rintro e w2 ⟨rfl, hb⟩
  replace R0 := Lib.hid (R0.out.keep hb)
  replace HB := Lib.hid (Gen.over hb HB.out)
  clear hb
  have c2 := R0.out.cell 2
  have c3 := R0.out.cell 3
  go_wp2_with (fail)
  go_must (refine (right_val (HQ.out.keep HB.out)).mono ?_)
  rintro e w3 ⟨rfl, hb⟩
  replace R0 := Lib.hid (R0.out.keep hb)
  replace HB := Lib.hid (Gen.over hb HB.out)
  clear hb c2 c3
  have c0 := R0.out.cell 0
  have c1 := R0.out.cell 1
  have c2 := R0.out.cell 2
  have c3 := R0.out.cell 3
  go_wp2_with (fail)
  go_must (refine (Gcd_val _ (HP.out.keep HB.out) (HQ.out.keep HB.out)).mono ?_)
  rintro e w4 ⟨v, rfl, hv, hb⟩
  replace HB := Lib.hid (Gen.over hb HB.out)
  obtain ⟨A3, c5, l3, rfl, _⟩ := hv.ex
  have HV := Lib.hid (hv.keep (Gen.b_alloc (x := .cells #[.int .i64 (sg ((Int.gcd p q : Nat) : Int)), .slice A3 l3.length c5] 24) (Below.refl _ _)))
  replace HB := Lib.hid (Gen.b_alloc (x := .cells #[.int .i64 (sg ((Int.gcd p q : Nat) : Int)), .slice A3 l3.length c5] 24) HB.out)
  clear hb hv c0 c1 c2 c3
  by_cases hg : Int.gcd p q = 1
  · have hg' : ((Int.gcd p q : Nat) : Int) = 1 := by omega
    rw [hg'] at HV HB ⊢
    have HGG := Lib.hid hg
    clear hg hg'
    go_wp2_with (fail)
    go_must (refine (one_yes _ HV.out).mono ?_)
    rintro e w5 ⟨rfl, hb⟩
    replace HB := Lib.hid (Gen.over hb HB.out)
    clear hb
    go_wp2
    go_ret
    exact ⟨ret_bool (decide_eq_true HGG.out).symm, HB.out⟩
  · have HG : Hid (((Int.gcd p q : Nat) : Int) ≠ 1) := Lib.hid (by omega)
    have HGG := Lib.hid hg
    clear hg
    go_wp2_with (fail)
    go_must (refine (one_no _ HV.out HG.out).mono ?_)
    rintro e w5 ⟨rfl, hb⟩
    replace HB := Lib.hid (Gen.over hb HB.out)
    clear hb
    go_wp2
    go_ret
    exact ⟨ret_bool (decide_eq_false HGG.out).symm, HB.out⟩
theorem fright_val (w : World) (hp : IsBig N0 w (bigV s A n c) p) (hq : IsBig N0 w (bigV s' A' n' c') q) :
    Calls Tryz.prog 54 #[frV s A n c s' A' n' c'] w fun e w' => e = .returned (.bool (decide (Rt p q))) ∧ Below w.heap.size w w' := by
  by_cases h : 0 < q
  · refine (fright_b w hp hq h).mono fun e w' ⟨h1, h2⟩ => ⟨?_, h2⟩
    rw [h1]
    congr 2
    exact decide_eq_decide.2 ⟨fun h3 => ⟨h, h3⟩, fun h3 => h3.2⟩
  · refine (fright_a w hp hq h).mono fun e w' ⟨h1, h2⟩ => ⟨?_, h2⟩
    rw [h1, decide_eq_false (fun h3 => h h3.1)]
end
end Go.Proofs.YtnifkianjpjahaaGreatDoor.Bg
/- Fractions: New. -/
namespace Go.Proofs.YtnifkianjpjahaaGreatDoor.Bg
open Go.ChangeShapes Go.WideShapes Go.ChangeAt Go.RowKit Go.Proofs.YtnifkianjpjahaaGreatDoor.Cell
set_option linter.unusedVariables false
set_option linter.unusedSimpArgs false
variable {N0 : Nat}

structure IsFr (N0 : Nat) (w : World) (v : Value) (p q : Int) : Prop where
  ex : ∃ s A n c s' A' n' c', v = frV s A n c s' A' n' c' ∧ IsBig N0 w (bigV s A n c) p ∧ IsBig N0 w (bigV s' A' n' c') q
theorem IsFr.keep {w w1 : World} {v : Value} {p q : Int} (h : IsFr N0 w v p q) (hb : Below w.heap.size w w1) : IsFr N0 w1 v p q := by
  obtain ⟨s, A, n, c, s', A', n', c', e, h1, h2⟩ := h.ex
  exact ⟨s, A, n, c, s', A', n', c', e, h1.keep hb, h2.keep hb⟩
/-- the greatest common divisor, with the denominator's sign -/
def gq (p q : Int) : Int := if q < 0 then -((Int.gcd p q : Nat) : Int) else ((Int.gcd p q : Nat) : Int)
def np (p q : Int) : Int := dq p (gq p q)
def nq (p q : Int) : Int := dq q (gq p q)
theorem frac_ne : (43 : TypeId) ≠ 3 := by decide
abbrev fz4 : Array Value := #[.int .i64 0, .slice none 0 0, .int .i64 0, .slice none 0 0]
abbrev set4 (W : World) (g : Nat) (a b c d : Value) : World := (((W.setCell ⟨g, 0, none⟩ a).setCell ⟨g, 1, none⟩ b).setCell ⟨g, 2, none⟩ c).setCell ⟨g, 3, none⟩ d
theorem IsBig.set4 {W : World} {v : Value} {z : Int} {g : Nat} {cs : Array Value} (h : IsBig N0 W v z) (r : Row W g 43 cs) (hg : N0 ≤ g) (a b c d : Value) : IsBig N0 (set4 W g a b c d) v z :=
  (((h.wr r frac_ne hg 0 a).wr (r.set 0 a) frac_ne hg 1 b).wr ((r.set 0 a).set 1 b) frac_ne hg 2 c).wr (((r.set 0 a).set 1 b).set 2 c) frac_ne hg 3 d
theorem below_set4 {w W : World} {g : Nat} (hb : Below w.heap.size w W) (hg : w.heap.size ≤ g) (a b c d : Value) : Below w.heap.size w (set4 W g a b c d) := Gen.b_set (Gen.b_set (Gen.b_set (Gen.b_set hb hg) hg) hg) hg
theorem gcd_zero' {x y : Int} : ((Int.gcd x y : Nat) : Int) = 0 ↔ x = 0 ∧ y = 0 := by
  constructor
  · intro h
    have h1 : Nat.gcd x.natAbs y.natAbs = 0 := by
      have : Int.gcd x y = 0 := by omega
      exact this
    have h2 := Nat.eq_zero_of_gcd_eq_zero_left h1
    have h3 := Nat.eq_zero_of_gcd_eq_zero_right h1
    omega
  · rintro ⟨rfl, rfl⟩
    rfl
theorem gcd_as {x y z : Int} {va vb : Value} (w : World) (hx : IsBig N0 w va x) (hy : IsBig N0 w vb y) (hz : ((Int.gcd x y : Nat) : Int) = z) :
    Calls Tryz.prog 24 #[va, vb] w fun e w' => ∃ A n c, e = .returned (.tuple #[bigV (sg z) A n c, .int .i64 0]) ∧ IsBig N0 w' (bigV (sg z) A n c) z ∧ Below w.heap.size w w' :=
  (Gcd_val w hx hy).mono fun e w' ⟨v, h1, h2, h3⟩ => by
    rw [hz] at h2
    obtain ⟨A, c, l, rfl, _⟩ := h2.ex
    exact ⟨A, l.length, c, h1, h2, h3⟩
theorem neg_as {x z : Int} {va : Value} (w : World) (hx : IsBig N0 w va x) (hz : -x = z) :
    Calls Tryz.prog 33 #[va] w fun e w' => ∃ A n c, e = .returned (bigV (sg z) A n c) ∧ IsBig N0 w' (bigV (sg z) A n c) z ∧ Below w.heap.size w w' :=
  (neg_val w hx).mono fun e w' ⟨v, h1, h2, h3⟩ => by
    rw [hz] at h2
    obtain ⟨A, c, l, rfl, _⟩ := h2.ex
    exact ⟨A, l.length, c, h1, h2, h3⟩
theorem div_as {x y : Int} {va vb : Value} (w : World) (hx : IsBig N0 w va x) (hy : IsBig N0 w vb y) (h0 : y ≠ 0) :
    Calls Tryz.prog 18 #[va, vb] w fun e w' => ∃ A n c A' n' c', e = .returned (.tuple #[bigV (sg (dq x y)) A n c, bigV (sg (dr x y)) A' n' c', .int .i64 0]) ∧ IsBig N0 w' (bigV (sg (dq x y)) A n c) (dq x y) ∧ IsBig N0 w' (bigV (sg (dr x y)) A' n' c') (dr x y) ∧ Below w.heap.size w w' :=
  (Div_val w hx hy h0).mono fun e w' ⟨v1, v2, h1, h2, h3, h4⟩ => by
    obtain ⟨A, c, l, rfl, _⟩ := h2.ex
    obtain ⟨A', c', l', rfl, _⟩ := h3.ex
    exact ⟨A, l.length, c, A', l'.length, c', h1, h2, h3, h4⟩
theorem gq_ne {p q : Int} (h : q ≠ 0) : gq p q ≠ 0 := by
  have h1 : ((Int.gcd p q : Nat) : Int) ≠ 0 := fun e => h (gcd_zero'.1 e).2
  unfold gq
  split <;> omega
section
variable {s s' : Int} {A A' : Option Addr} {n c n' c' : Nat} {p q : Int}
set_option maxRecDepth 100000 in
set_option maxHeartbeats 8000000 in
theorem New_zero (w : World) (hN : N0 ≤ w.heap.size) (hp : IsBig N0 w (bigV s A n c) p) (hq : IsBig N0 w (bigV s' A' n' c') q) (h0 : q = 0) :
    Calls Tryz.prog 52 #[bigV s A n c, bigV s' A' n' c'] w fun e w' => e = .returned (.tuple #[.agg fz4, .int .i64 15]) ∧ Below w.heap.size w w' := by
  have hs : s' = 0 := by rw [hq.sgn, h0]; rfl
  subst hs
  clear h0
  have HP0 := Lib.hid hp
  have HQ0 := Lib.hid hq
  have HB : Hid (Below w.heap.size w (((w.alloc (.cells #[.int .i64 s, .slice A n c] 24)).alloc (.cells #[.int .i64 0, .slice A' n' c'] 24)).alloc (.cells fz4 43))) := Lib.hid (Gen.b_alloc (Gen.b_alloc (Gen.b_alloc (Below.refl _ _))))
  have RP : Hid (Row (((w.alloc (.cells #[.int .i64 s, .slice A n c] 24)).alloc (.cells #[.int .i64 0, .slice A' n' c'] 24)).alloc (.cells fz4 43)) w.heap.size 24 #[.int .i64 s, .slice A n c]) := Lib.hid (((Row.new _ _ _).alloc _).alloc _)
  have RQ : Hid (Row (((w.alloc (.cells #[.int .i64 s, .slice A n c] 24)).alloc (.cells #[.int .i64 0, .slice A' n' c'] 24)).alloc (.cells fz4 43)) (w.heap.size + 1) 24 #[.int .i64 0, .slice A' n' c']) := Lib.hid (by
    have h := (Row.new (w.alloc (.cells #[.int .i64 s, .slice A n c] 24)) 24 #[.int .i64 0, .slice A' n' c']).alloc (.cells fz4 43)
    rwa [World.size_alloc] at h)
  have RR : Hid (Row (((w.alloc (.cells #[.int .i64 s, .slice A n c] 24)).alloc (.cells #[.int .i64 0, .slice A' n' c'] 24)).alloc (.cells fz4 43)) (w.heap.size + 1 + 1) 43 fz4) := Lib.hid (by
    have h := Row.new ((w.alloc (.cells #[.int .i64 s, .slice A n c] 24)).alloc (.cells #[.int .i64 0, .slice A' n' c'] 24)) 43 fz4
    rwa [World.size_alloc, World.size_alloc] at h)
  have HP := Lib.hid (HP0.out.keep HB.out)
  have HQ := Lib.hid (HQ0.out.keep HB.out)
  have HNN := Lib.hid hN
  clear hp hq hN HP0 HQ0
  go_enter Tryz.func52, Tryz.ntmps52
  go_wp2_with (fail)
  go_must (refine (right_val HP.out).mono ?_)
  rintro e W1 ⟨rfl, hb⟩
  replace RP := Lib.hid (RP.out.keep hb)
  replace RQ := Lib.hid (RQ.out.keep hb)
  replace RR := Lib.hid (RR.out.keep hb)
  replace HP := Lib.hid (HP.out.keep hb)
  replace HQ := Lib.hid (HQ.out.keep hb)
  replace HB := Lib.hid (Gen.over hb HB.out)
  clear hb 
  have RQc0 := RQ.out.cell 0
  have RQc1 := RQ.out.cell 1
  go_wp2_with (fail)
  go_must (refine (right_val HQ.out).mono ?_)
  rintro e W2 ⟨rfl, hb⟩
  replace RP := Lib.hid (RP.out.keep hb)
  replace RQ := Lib.hid (RQ.out.keep hb)
  replace RR := Lib.hid (RR.out.keep hb)
  replace HP := Lib.hid (HP.out.keep hb)
  replace HQ := Lib.hid (HQ.out.keep hb)
  replace HB := Lib.hid (Gen.over hb HB.out)
  clear hb RQc0 RQc1
  have RQc0 := RQ.out.cell 0
  have fr0 := RR.out.frozen 0
  have fr1 := RR.out.frozen 1
  have fr2 := RR.out.frozen 2
  have fr3 := RR.out.frozen 3
  have hlt := RR.out.lt
  have ec0 := RR.out.cell 0
  have ec1 := RR.out.cell 1
  have ec2 := RR.out.cell 2
  have ec3 := RR.out.cell 3
  go_wp2
  refine bodyPost_ret (v := .tuple #[.agg fz4, .int .i64 15]) ?_ rfl ⟨rfl, below_set4 HB.out (by omega) _ _ _ _⟩
  simp [results, Tryz.results52, go_sem, *]
set_option maxRecDepth 100000 in
set_option maxHeartbeats 8000000 in
theorem New_pos (w : World) (hN : N0 ≤ w.heap.size) (hp : IsBig N0 w (bigV s A n c) p) (hq : IsBig N0 w (bigV s' A' n' c') q) (h0 : 0 < q) :
    Calls Tryz.prog 52 #[bigV s A n c, bigV s' A' n' c'] w fun e w' => ∃ v, e = .returned (.tuple #[v, .int .i64 0]) ∧ IsFr N0 w' v (np p q) (nq p q) ∧ Below w.heap.size w w' := by
  have hs : s' = 1 := by rw [hq.sgn]; exact sg_pos h0
  subst hs
  have HGN := Lib.hid (gq_ne (p := p) (q := q) (by omega))
  have HGQ : Hid (gq p q = ((Int.gcd p q : Nat) : Int)) := Lib.hid (if_neg (by omega))
  clear h0
  have HP0 := Lib.hid hp
  have HQ0 := Lib.hid hq
  have HB : Hid (Below w.heap.size w (((w.alloc (.cells #[.int .i64 s, .slice A n c] 24)).alloc (.cells #[.int .i64 1, .slice A' n' c'] 24)).alloc (.cells fz4 43))) := Lib.hid (Gen.b_alloc (Gen.b_alloc (Gen.b_alloc (Below.refl _ _))))
  have RP : Hid (Row (((w.alloc (.cells #[.int .i64 s, .slice A n c] 24)).alloc (.cells #[.int .i64 1, .slice A' n' c'] 24)).alloc (.cells fz4 43)) w.heap.size 24 #[.int .i64 s, .slice A n c]) := Lib.hid (((Row.new _ _ _).alloc _).alloc _)
  have RQ : Hid (Row (((w.alloc (.cells #[.int .i64 s, .slice A n c] 24)).alloc (.cells #[.int .i64 1, .slice A' n' c'] 24)).alloc (.cells fz4 43)) (w.heap.size + 1) 24 #[.int .i64 1, .slice A' n' c']) := Lib.hid (by
    have h := (Row.new (w.alloc (.cells #[.int .i64 s, .slice A n c] 24)) 24 #[.int .i64 1, .slice A' n' c']).alloc (.cells fz4 43)
    rwa [World.size_alloc] at h)
  have RR : Hid (Row (((w.alloc (.cells #[.int .i64 s, .slice A n c] 24)).alloc (.cells #[.int .i64 1, .slice A' n' c'] 24)).alloc (.cells fz4 43)) (w.heap.size + 1 + 1) 43 fz4) := Lib.hid (by
    have h := Row.new ((w.alloc (.cells #[.int .i64 s, .slice A n c] 24)).alloc (.cells #[.int .i64 1, .slice A' n' c'] 24)) 43 fz4
    rwa [World.size_alloc, World.size_alloc] at h)
  have HP := Lib.hid (HP0.out.keep HB.out)
  have HQ := Lib.hid (HQ0.out.keep HB.out)
  have HNN := Lib.hid hN
  clear hp hq hN HP0 HQ0
  go_enter Tryz.func52, Tryz.ntmps52
  go_wp2_with (fail)
  go_must (refine (right_val HP.out).mono ?_)
  rintro e W1 ⟨rfl, hb⟩
  replace RP := Lib.hid (RP.out.keep hb)
  replace RQ := Lib.hid (RQ.out.keep hb)
  replace RR := Lib.hid (RR.out.keep hb)
  replace HP := Lib.hid (HP.out.keep hb)
  replace HQ := Lib.hid (HQ.out.keep hb)
  replace HB := Lib.hid (Gen.over hb HB.out)
  clear hb 
  have RQc0 := RQ.out.cell 0
  have RQc1 := RQ.out.cell 1
  go_wp2_with (fail)
  go_must (refine (right_val HQ.out).mono ?_)
  rintro e W2 ⟨rfl, hb⟩
  replace RP := Lib.hid (RP.out.keep hb)
  replace RQ := Lib.hid (RQ.out.keep hb)
  replace RR := Lib.hid (RR.out.keep hb)
  replace HP := Lib.hid (HP.out.keep hb)
  replace HQ := Lib.hid (HQ.out.keep hb)
  replace HB := Lib.hid (Gen.over hb HB.out)
  clear hb RQc0 RQc1
  have RPc0 := RP.out.cell 0
  have RPc1 := RP.out.cell 1
  have RQc0 := RQ.out.cell 0
  have RQc1 := RQ.out.cell 1
  go_wp2_with (fail)
  go_must (refine (gcd_as (z := (gq p q)) _ HP.out HQ.out (by have := HGQ.out; omega)).mono ?_)
  rintro e W3 ⟨A5, n5, c5, rfl, hv, hb⟩
  replace RP := Lib.hid (RP.out.keep hb)
  replace RQ := Lib.hid (RQ.out.keep hb)
  replace RR := Lib.hid (RR.out.keep hb)
  replace HP := Lib.hid (HP.out.keep hb)
  replace HQ := Lib.hid (HQ.out.keep hb)
  replace HB := Lib.hid (Gen.over hb HB.out)
  clear hb RPc0 RPc1 RQc0 RQc1
  have HG := Lib.hid hv
  clear hv
  have hz6 : w.heap.size + 3 ≤ W3.heap.size := by
    have h1 := RR.out.lt
    omega
  have RG := Lib.hid (Row.new W3 24 #[.int .i64 (sg (gq p q)), .slice A5 n5 c5])
  replace RP := Lib.hid (RP.out.alloc (.cells #[.int .i64 (sg (gq p q)), .slice A5 n5 c5] 24))
  replace RQ := Lib.hid (RQ.out.alloc (.cells #[.int .i64 (sg (gq p q)), .slice A5 n5 c5] 24))
  replace RR := Lib.hid (RR.out.alloc (.cells #[.int .i64 (sg (gq p q)), .slice A5 n5 c5] 24))
  replace HP := Lib.hid (HP.out.keep (Gen.b_alloc (x := (.cells #[.int .i64 (sg (gq p q)), .slice A5 n5 c5] 24)) (Below.refl _ _)))
  replace HQ := Lib.hid (HQ.out.keep (Gen.b_alloc (x := (.cells #[.int .i64 (sg (gq p q)), .slice A5 n5 c5] 24)) (Below.refl _ _)))
  replace HG := Lib.hid (HG.out.keep (Gen.b_alloc (x := (.cells #[.int .i64 (sg (gq p q)), .slice A5 n5 c5] 24)) (Below.refl _ _)))
  replace HB := Lib.hid (Gen.b_alloc (x := (.cells #[.int .i64 (sg (gq p q)), .slice A5 n5 c5] 24)) HB.out)
  have RPc0 := RP.out.cell 0
  have RPc1 := RP.out.cell 1
  have RGc0 := RG.out.cell 0
  have RGc1 := RG.out.cell 1
  have RQc0 := RQ.out.cell 0
  go_wp2_with (fail)
  go_must (refine (div_as _ HP.out HG.out HGN.out).mono ?_)
  rintro e W4 ⟨A7, n7, c7, B7, m7, d7, rfl, h1, h2, hb⟩
  replace RP := Lib.hid (RP.out.keep hb)
  replace RQ := Lib.hid (RQ.out.keep hb)
  replace RR := Lib.hid (RR.out.keep hb)
  replace RG := Lib.hid (RG.out.keep hb)
  replace HP := Lib.hid (HP.out.keep hb)
  replace HQ := Lib.hid (HQ.out.keep hb)
  replace HG := Lib.hid (HG.out.keep hb)
  replace HB := Lib.hid (Gen.over hb HB.out)
  clear hb h2 RPc0 RPc1 RGc0 RGc1 RQc0
  have HX := Lib.hid h1
  clear h1
  have fr0 := RP.out.frozen 0
  have fr1 := RP.out.frozen 1
  have hlt := RP.out.lt
  have ec0 := RP.out.cell 0
  have ec1 := RP.out.cell 1
  replace HP := Lib.hid (HP.out.set2 RP.out (Nat.le_trans HNN.out (Nat.le_refl _)) (.int .i64 (sg (dq p (gq p q)))) (.slice A7 n7 c7))
  replace HQ := Lib.hid (HQ.out.set2 RP.out (Nat.le_trans HNN.out (Nat.le_refl _)) (.int .i64 (sg (dq p (gq p q)))) (.slice A7 n7 c7))
  replace HG := Lib.hid (HG.out.set2 RP.out (Nat.le_trans HNN.out (Nat.le_refl _)) (.int .i64 (sg (dq p (gq p q)))) (.slice A7 n7 c7))
  replace HX := Lib.hid (HX.out.set2 RP.out (Nat.le_trans HNN.out (Nat.le_refl _)) (.int .i64 (sg (dq p (gq p q)))) (.slice A7 n7 c7))
  replace RQ := Lib.hid (roff2 (g := w.heap.size) RQ.out (by omega) (.int .i64 (sg (dq p (gq p q)))) (.slice A7 n7 c7))
  replace RR := Lib.hid (roff2 (g := w.heap.size) RR.out (by omega) (.int .i64 (sg (dq p (gq p q)))) (.slice A7 n7 c7))
  replace RG := Lib.hid (roff2 (g := w.heap.size) RG.out (by omega) (.int .i64 (sg (dq p (gq p q)))) (.slice A7 n7 c7))
  replace HB := Lib.hid (below_set2 (g := w.heap.size) HB.out (Nat.le_refl _) (.int .i64 (sg (dq p (gq p q)))) (.slice A7 n7 c7))
  replace RP := Lib.hid (rset2 RP.out (.int .i64 (sg (dq p (gq p q)))) (.slice A7 n7 c7))
  have RQc0 := RQ.out.cell 0
  have RQc1 := RQ.out.cell 1
  have RGc0 := RG.out.cell 0
  have RGc1 := RG.out.cell 1
  go_wp2_with (fail)
  go_must (refine (div_as _ HQ.out HG.out HGN.out).mono ?_)
  rintro e W5 ⟨A8, n8, c8, B8, m8, d8, rfl, h1, h2, hb⟩
  replace RP := Lib.hid (RP.out.keep hb)
  replace RQ := Lib.hid (RQ.out.keep hb)
  replace RR := Lib.hid (RR.out.keep hb)
  replace RG := Lib.hid (RG.out.keep hb)
  replace HP := Lib.hid (HP.out.keep hb)
  replace HQ := Lib.hid (HQ.out.keep hb)
  replace HG := Lib.hid (HG.out.keep hb)
  replace HX := Lib.hid (HX.out.keep hb)
  replace HB := Lib.hid (Gen.over hb HB.out)
  clear hb h2 RQc0 RQc1 RGc0 RGc1
  clear fr0 fr1 hlt ec0 ec1
  have HY := Lib.hid h1
  clear h1
  have fr0 := RQ.out.frozen 0
  have fr1 := RQ.out.frozen 1
  have hlt := RQ.out.lt
  have ec0 := RQ.out.cell 0
  have ec1 := RQ.out.cell 1
  replace HP := Lib.hid (HP.out.set2 RQ.out (Nat.le_trans HNN.out (by omega)) (.int .i64 (sg (dq q (gq p q)))) (.slice A8 n8 c8))
  replace HQ := Lib.hid (HQ.out.set2 RQ.out (Nat.le_trans HNN.out (by omega)) (.int .i64 (sg (dq q (gq p q)))) (.slice A8 n8 c8))
  replace HG := Lib.hid (HG.out.set2 RQ.out (Nat.le_trans HNN.out (by omega)) (.int .i64 (sg (dq q (gq p q)))) (.slice A8 n8 c8))
  replace HX := Lib.hid (HX.out.set2 RQ.out (Nat.le_trans HNN.out (by omega)) (.int .i64 (sg (dq q (gq p q)))) (.slice A8 n8 c8))
  replace HY := Lib.hid (HY.out.set2 RQ.out (Nat.le_trans HNN.out (by omega)) (.int .i64 (sg (dq q (gq p q)))) (.slice A8 n8 c8))
  replace RP := Lib.hid (roff2 (g := w.heap.size + 1) RP.out (by omega) (.int .i64 (sg (dq q (gq p q)))) (.slice A8 n8 c8))
  replace RR := Lib.hid (roff2 (g := w.heap.size + 1) RR.out (by omega) (.int .i64 (sg (dq q (gq p q)))) (.slice A8 n8 c8))
  replace RG := Lib.hid (roff2 (g := w.heap.size + 1) RG.out (by omega) (.int .i64 (sg (dq q (gq p q)))) (.slice A8 n8 c8))
  replace HB := Lib.hid (below_set2 (g := w.heap.size + 1) HB.out (by omega) (.int .i64 (sg (dq q (gq p q)))) (.slice A8 n8 c8))
  replace RQ := Lib.hid (rset2 RQ.out (.int .i64 (sg (dq q (gq p q)))) (.slice A8 n8 c8))
  have RPc0 := RP.out.cell 0
  have RPc1 := RP.out.cell 1
  have RQc0 := RQ.out.cell 0
  have RQc1 := RQ.out.cell 1
  have gr0 := RR.out.frozen 0
  have gc0 := RR.out.cell 0
  have gr1 := RR.out.frozen 1
  have gc1 := RR.out.cell 1
  have gr2 := RR.out.frozen 2
  have gc2 := RR.out.cell 2
  have gr3 := RR.out.frozen 3
  have gc3 := RR.out.cell 3
  have hlt2 := RR.out.lt
  go_wp2
  refine bodyPost_ret (v := .tuple #[frV (sg (dq p (gq p q))) A7 n7 c7 (sg (dq q (gq p q))) A8 n8 c8, .int .i64 0]) ?_ rfl ⟨_, rfl, ⟨_, _, _, _, _, _, _, _, rfl, HX.out.set4 RR.out (by have := HNN.out; omega) _ _ _ _, HY.out.set4 RR.out (by have := HNN.out; omega) _ _ _ _⟩, below_set4 HB.out (by omega) _ _ _ _⟩
  simp [results, Tryz.results52, go_sem, *]
set_option maxRecDepth 100000 in
set_option maxHeartbeats 8000000 in
theorem New_neg (w : World) (hN : N0 ≤ w.heap.size) (hp : IsBig N0 w (bigV s A n c) p) (hq : IsBig N0 w (bigV s' A' n' c') q) (h0 : q < 0) :
    Calls Tryz.prog 52 #[bigV s A n c, bigV s' A' n' c'] w fun e w' => ∃ v, e = .returned (.tuple #[v, .int .i64 0]) ∧ IsFr N0 w' v (np p q) (nq p q) ∧ Below w.heap.size w w' := by
  have hs : s' = -1 := by rw [hq.sgn]; exact sg_neg h0
  subst hs
  have HGN := Lib.hid (gq_ne (p := p) (q := q) (by omega))
  have HGQ : Hid (gq p q = -((Int.gcd p q : Nat) : Int)) := Lib.hid (if_pos h0)
  clear h0
  have HP0 := Lib.hid hp
  have HQ0 := Lib.hid hq
  have HB : Hid (Below w.heap.size w (((w.alloc (.cells #[.int .i64 s, .slice A n c] 24)).alloc (.cells #[.int .i64 (-1), .slice A' n' c'] 24)).alloc (.cells fz4 43))) := Lib.hid (Gen.b_alloc (Gen.b_alloc (Gen.b_alloc (Below.refl _ _))))
  have RP : Hid (Row (((w.alloc (.cells #[.int .i64 s, .slice A n c] 24)).alloc (.cells #[.int .i64 (-1), .slice A' n' c'] 24)).alloc (.cells fz4 43)) w.heap.size 24 #[.int .i64 s, .slice A n c]) := Lib.hid (((Row.new _ _ _).alloc _).alloc _)
  have RQ : Hid (Row (((w.alloc (.cells #[.int .i64 s, .slice A n c] 24)).alloc (.cells #[.int .i64 (-1), .slice A' n' c'] 24)).alloc (.cells fz4 43)) (w.heap.size + 1) 24 #[.int .i64 (-1), .slice A' n' c']) := Lib.hid (by
    have h := (Row.new (w.alloc (.cells #[.int .i64 s, .slice A n c] 24)) 24 #[.int .i64 (-1), .slice A' n' c']).alloc (.cells fz4 43)
    rwa [World.size_alloc] at h)
  have RR : Hid (Row (((w.alloc (.cells #[.int .i64 s, .slice A n c] 24)).alloc (.cells #[.int .i64 (-1), .slice A' n' c'] 24)).alloc (.cells fz4 43)) (w.heap.size + 1 + 1) 43 fz4) := Lib.hid (by
    have h := Row.new ((w.alloc (.cells #[.int .i64 s, .slice A n c] 24)).alloc (.cells #[.int .i64 (-1), .slice A' n' c'] 24)) 43 fz4
    rwa [World.size_alloc, World.size_alloc] at h)
  have HP := Lib.hid (HP0.out.keep HB.out)
  have HQ := Lib.hid (HQ0.out.keep HB.out)
  have HNN := Lib.hid hN
  clear hp hq hN HP0 HQ0
  go_enter Tryz.func52, Tryz.ntmps52
  go_wp2_with (fail)
  go_must (refine (right_val HP.out).mono ?_)
  rintro e W1 ⟨rfl, hb⟩
  replace RP := Lib.hid (RP.out.keep hb)
  replace RQ := Lib.hid (RQ.out.keep hb)
  replace RR := Lib.hid (RR.out.keep hb)
  replace HP := Lib.hid (HP.out.keep hb)
  replace HQ := Lib.hid (HQ.out.keep hb)
  replace HB := Lib.hid (Gen.over hb HB.out)
  clear hb 
  have RQc0 := RQ.out.cell 0
  have RQc1 := RQ.out.cell 1
  go_wp2_with (fail)
  go_must (refine (right_val HQ.out).mono ?_)
  rintro e W2 ⟨rfl, hb⟩
  replace RP := Lib.hid (RP.out.keep hb)
  replace RQ := Lib.hid (RQ.out.keep hb)
  replace RR := Lib.hid (RR.out.keep hb)
  replace HP := Lib.hid (HP.out.keep hb)
  replace HQ := Lib.hid (HQ.out.keep hb)
  replace HB := Lib.hid (Gen.over hb HB.out)
  clear hb RQc0 RQc1
  have RPc0 := RP.out.cell 0
  have RPc1 := RP.out.cell 1
  have RQc0 := RQ.out.cell 0
  have RQc1 := RQ.out.cell 1
  go_wp2_with (fail)
  go_must (refine (gcd_as (z := (-(gq p q))) _ HP.out HQ.out (by have := HGQ.out; omega)).mono ?_)
  rintro e W3 ⟨A5, n5, c5, rfl, hv, hb⟩
  replace RP := Lib.hid (RP.out.keep hb)
  replace RQ := Lib.hid (RQ.out.keep hb)
  replace RR := Lib.hid (RR.out.keep hb)
  replace HP := Lib.hid (HP.out.keep hb)
  replace HQ := Lib.hid (HQ.out.keep hb)
  replace HB := Lib.hid (Gen.over hb HB.out)
  clear hb RPc0 RPc1 RQc0 RQc1
  have HG := Lib.hid hv
  clear hv
  have hz6 : w.heap.size + 3 ≤ W3.heap.size := by
    have h1 := RR.out.lt
    omega
  have RG := Lib.hid (Row.new W3 24 #[.int .i64 (sg (-(gq p q))), .slice A5 n5 c5])
  replace RP := Lib.hid (RP.out.alloc (.cells #[.int .i64 (sg (-(gq p q))), .slice A5 n5 c5] 24))
  replace RQ := Lib.hid (RQ.out.alloc (.cells #[.int .i64 (sg (-(gq p q))), .slice A5 n5 c5] 24))
  replace RR := Lib.hid (RR.out.alloc (.cells #[.int .i64 (sg (-(gq p q))), .slice A5 n5 c5] 24))
  replace HP := Lib.hid (HP.out.keep (Gen.b_alloc (x := (.cells #[.int .i64 (sg (-(gq p q))), .slice A5 n5 c5] 24)) (Below.refl _ _)))
  replace HQ := Lib.hid (HQ.out.keep (Gen.b_alloc (x := (.cells #[.int .i64 (sg (-(gq p q))), .slice A5 n5 c5] 24)) (Below.refl _ _)))
  replace HG := Lib.hid (HG.out.keep (Gen.b_alloc (x := (.cells #[.int .i64 (sg (-(gq p q))), .slice A5 n5 c5] 24)) (Below.refl _ _)))
  replace HB := Lib.hid (Gen.b_alloc (x := (.cells #[.int .i64 (sg (-(gq p q))), .slice A5 n5 c5] 24)) HB.out)
  have RQc0 := RQ.out.cell 0
  have RGc0 := RG.out.cell 0
  have RGc1 := RG.out.cell 1
  go_wp2_with (fail)
  go_must (refine (neg_as (z := gq p q) _ HG.out (by omega)).mono ?_)
  rintro e W4 ⟨A6, n6, c6, rfl, hv, hb⟩
  replace RP := Lib.hid (RP.out.keep hb)
  replace RQ := Lib.hid (RQ.out.keep hb)
  replace RR := Lib.hid (RR.out.keep hb)
  replace RG := Lib.hid (RG.out.keep hb)
  replace HP := Lib.hid (HP.out.keep hb)
  replace HQ := Lib.hid (HQ.out.keep hb)
  replace HG := Lib.hid (HG.out.keep hb)
  replace HB := Lib.hid (Gen.over hb HB.out)
  clear hb RGc0 RGc1
  clear RQc0
  have HGn := Lib.hid hv
  clear hv
  have fr0 := RG.out.frozen 0
  have fr1 := RG.out.frozen 1
  have hlt := RG.out.lt
  have ec0 := RG.out.cell 0
  have ec1 := RG.out.cell 1
  replace HP := Lib.hid (HP.out.set2 RG.out (Nat.le_trans HNN.out (by omega)) (.int .i64 (sg (gq p q))) (.slice A6 n6 c6))
  replace HQ := Lib.hid (HQ.out.set2 RG.out (Nat.le_trans HNN.out (by omega)) (.int .i64 (sg (gq p q))) (.slice A6 n6 c6))
  replace HG := Lib.hid (HG.out.set2 RG.out (Nat.le_trans HNN.out (by omega)) (.int .i64 (sg (gq p q))) (.slice A6 n6 c6))
  replace HGn := Lib.hid (HGn.out.set2 RG.out (Nat.le_trans HNN.out (by omega)) (.int .i64 (sg (gq p q))) (.slice A6 n6 c6))
  replace RP := Lib.hid (roff2 (g := W3.heap.size) RP.out (by omega) (.int .i64 (sg (gq p q))) (.slice A6 n6 c6))
  replace RQ := Lib.hid (roff2 (g := W3.heap.size) RQ.out (by omega) (.int .i64 (sg (gq p q))) (.slice A6 n6 c6))
  replace RR := Lib.hid (roff2 (g := W3.heap.size) RR.out (by omega) (.int .i64 (sg (gq p q))) (.slice A6 n6 c6))
  replace HB := Lib.hid (below_set2 (g := W3.heap.size) HB.out (by omega) (.int .i64 (sg (gq p q))) (.slice A6 n6 c6))
  replace RG := Lib.hid (rset2 RG.out (.int .i64 (sg (gq p q))) (.slice A6 n6 c6))
  clear HG
  have RPc0 := RP.out.cell 0
  have RPc1 := RP.out.cell 1
  have RGc0 := RG.out.cell 0
  have RGc1 := RG.out.cell 1
  go_wp2_with (fail)
  go_must (refine (div_as _ HP.out HGn.out HGN.out).mono ?_)
  rintro e W5 ⟨A7, n7, c7, B7, m7, d7, rfl, h1, h2, hb⟩
  replace RP := Lib.hid (RP.out.keep hb)
  replace RQ := Lib.hid (RQ.out.keep hb)
  replace RR := Lib.hid (RR.out.keep hb)
  replace RG := Lib.hid (RG.out.keep hb)
  replace HP := Lib.hid (HP.out.keep hb)
  replace HQ := Lib.hid (HQ.out.keep hb)
  replace HGn := Lib.hid (HGn.out.keep hb)
  replace HB := Lib.hid (Gen.over hb HB.out)
  clear hb h2 RPc0 RPc1 RGc0 RGc1
  clear fr0 fr1 hlt ec0 ec1
  have HX := Lib.hid h1
  clear h1
  have fr0 := RP.out.frozen 0
  have fr1 := RP.out.frozen 1
  have hlt := RP.out.lt
  have ec0 := RP.out.cell 0
  have ec1 := RP.out.cell 1
  replace HP := Lib.hid (HP.out.set2 RP.out (Nat.le_trans HNN.out (Nat.le_refl _)) (.int .i64 (sg (dq p (gq p q)))) (.slice A7 n7 c7))
  replace HQ := Lib.hid (HQ.out.set2 RP.out (Nat.le_trans HNN.out (Nat.le_refl _)) (.int .i64 (sg (dq p (gq p q)))) (.slice A7 n7 c7))
  replace HGn := Lib.hid (HGn.out.set2 RP.out (Nat.le_trans HNN.out (Nat.le_refl _)) (.int .i64 (sg (dq p (gq p q)))) (.slice A7 n7 c7))
  replace HX := Lib.hid (HX.out.set2 RP.out (Nat.le_trans HNN.out (Nat.le_refl _)) (.int .i64 (sg (dq p (gq p q)))) (.slice A7 n7 c7))
  replace RQ := Lib.hid (roff2 (g := w.heap.size) RQ.out (by omega) (.int .i64 (sg (dq p (gq p q)))) (.slice A7 n7 c7))
  replace RR := Lib.hid (roff2 (g := w.heap.size) RR.out (by omega) (.int .i64 (sg (dq p (gq p q)))) (.slice A7 n7 c7))
  replace RG := Lib.hid (roff2 (g := w.heap.size) RG.out (by omega) (.int .i64 (sg (dq p (gq p q)))) (.slice A7 n7 c7))
  replace HB := Lib.hid (below_set2 (g := w.heap.size) HB.out (Nat.le_refl _) (.int .i64 (sg (dq p (gq p q)))) (.slice A7 n7 c7))
  replace RP := Lib.hid (rset2 RP.out (.int .i64 (sg (dq p (gq p q)))) (.slice A7 n7 c7))
  have RQc0 := RQ.out.cell 0
  have RQc1 := RQ.out.cell 1
  have RGc0 := RG.out.cell 0
  have RGc1 := RG.out.cell 1
  go_wp2_with (fail)
  go_must (refine (div_as _ HQ.out HGn.out HGN.out).mono ?_)
  rintro e W6 ⟨A8, n8, c8, B8, m8, d8, rfl, h1, h2, hb⟩
  replace RP := Lib.hid (RP.out.keep hb)
  replace RQ := Lib.hid (RQ.out.keep hb)
  replace RR := Lib.hid (RR.out.keep hb)
  replace RG := Lib.hid (RG.out.keep hb)
  replace HP := Lib.hid (HP.out.keep hb)
  replace HQ := Lib.hid (HQ.out.keep hb)
  replace HGn := Lib.hid (HGn.out.keep hb)
  replace HX := Lib.hid (HX.out.keep hb)
  replace HB := Lib.hid (Gen.over hb HB.out)
  clear hb h2 RQc0 RQc1 RGc0 RGc1
  clear fr0 fr1 hlt ec0 ec1
  have HY := Lib.hid h1
  clear h1
  have fr0 := RQ.out.frozen 0
  have fr1 := RQ.out.frozen 1
  have hlt := RQ.out.lt
  have ec0 := RQ.out.cell 0
  have ec1 := RQ.out.cell 1
  replace HP := Lib.hid (HP.out.set2 RQ.out (Nat.le_trans HNN.out (by omega)) (.int .i64 (sg (dq q (gq p q)))) (.slice A8 n8 c8))
  replace HQ := Lib.hid (HQ.out.set2 RQ.out (Nat.le_trans HNN.out (by omega)) (.int .i64 (sg (dq q (gq p q)))) (.slice A8 n8 c8))
  replace HGn := Lib.hid (HGn.out.set2 RQ.out (Nat.le_trans HNN.out (by omega)) (.int .i64 (sg (dq q (gq p q)))) (.slice A8 n8 c8))
  replace HX := Lib.hid (HX.out.set2 RQ.out (Nat.le_trans HNN.out (by omega)) (.int .i64 (sg (dq q (gq p q)))) (.slice A8 n8 c8))
  replace HY := Lib.hid (HY.out.set2 RQ.out (Nat.le_trans HNN.out (by omega)) (.int .i64 (sg (dq q (gq p q)))) (.slice A8 n8 c8))
  replace RP := Lib.hid (roff2 (g := w.heap.size + 1) RP.out (by omega) (.int .i64 (sg (dq q (gq p q)))) (.slice A8 n8 c8))
  replace RR := Lib.hid (roff2 (g := w.heap.size + 1) RR.out (by omega) (.int .i64 (sg (dq q (gq p q)))) (.slice A8 n8 c8))
  replace RG := Lib.hid (roff2 (g := w.heap.size + 1) RG.out (by omega) (.int .i64 (sg (dq q (gq p q)))) (.slice A8 n8 c8))
  replace HB := Lib.hid (below_set2 (g := w.heap.size + 1) HB.out (by omega) (.int .i64 (sg (dq q (gq p q)))) (.slice A8 n8 c8))
  replace RQ := Lib.hid (rset2 RQ.out (.int .i64 (sg (dq q (gq p q)))) (.slice A8 n8 c8))
  have RPc0 := RP.out.cell 0
  have RPc1 := RP.out.cell 1
  have RQc0 := RQ.out.cell 0
  have RQc1 := RQ.out.cell 1
  have gr0 := RR.out.frozen 0
  have gc0 := RR.out.cell 0
  have gr1 := RR.out.frozen 1
  have gc1 := RR.out.cell 1
  have gr2 := RR.out.frozen 2
  have gc2 := RR.out.cell 2
  have gr3 := RR.out.frozen 3
  have gc3 := RR.out.cell 3
  have hlt2 := RR.out.lt
  go_wp2
  refine bodyPost_ret (v := .tuple #[frV (sg (dq p (gq p q))) A7 n7 c7 (sg (dq q (gq p q))) A8 n8 c8, .int .i64 0]) ?_ rfl ⟨_, rfl, ⟨_, _, _, _, _, _, _, _, rfl, HX.out.set4 RR.out (by have := HNN.out; omega) _ _ _ _, HY.out.set4 RR.out (by have := HNN.out; omega) _ _ _ _⟩, below_set4 HB.out (by omega) _ _ _ _⟩
  simp [results, Tryz.results52, go_sem, *]
end
end Go.Proofs.YtnifkianjpjahaaGreatDoor.Bg
/- Fractions: Of; sums, differences, products, quotients that fit. -/
namespace Go.Proofs.YtnifkianjpjahaaGreatDoor.Bg
open Go.ChangeShapes Go.WideShapes Go.ChangeAt Go.RowKit Go.Proofs.YtnifkianjpjahaaGreatDoor.Cell
set_option linter.unusedVariables false
set_option linter.unusedSimpArgs false
variable {N0 : Nat}

theorem New_val {va vb : Value} {p q : Int} (w : World) (hN : N0 ≤ w.heap.size) (hp : IsBig N0 w va p) (hq : IsBig N0 w vb q) (h0 : q ≠ 0) :
    Calls Tryz.prog 52 #[va, vb] w fun e w' => ∃ s A n c s' A' n' c', e = .returned (.tuple #[frV s A n c s' A' n' c', .int .i64 0]) ∧ IsBig N0 w' (bigV s A n c) (np p q) ∧ IsBig N0 w' (bigV s' A' n' c') (nq p q) ∧ Below w.heap.size w w' := by
  obtain ⟨A, c, l, rfl, _⟩ := hp.ex
  obtain ⟨A', c', l', rfl, _⟩ := hq.ex
  by_cases h : q < 0
  · refine (New_neg w hN hp hq h).mono fun e w' ⟨v, h1, h2, h3⟩ => ?_
    obtain ⟨s, A, n, c, s', A', n', c', rfl, h4, h5⟩ := h2.ex
    exact ⟨s, A, n, c, s', A', n', c', h1, h4, h5, h3⟩
  · refine (New_pos w hN hp hq (by omega)).mono fun e w' ⟨v, h1, h2, h3⟩ => ?_
    obtain ⟨s, A, n, c, s', A', n', c', rfl, h4, h5⟩ := h2.ex
    exact ⟨s, A, n, c, s', A', n', c', h1, h4, h5, h3⟩
theorem New_none {va vb : Value} {p q : Int} (w : World) (hN : N0 ≤ w.heap.size) (hp : IsBig N0 w va p) (hq : IsBig N0 w vb q) (h0 : q = 0) :
    Calls Tryz.prog 52 #[va, vb] w fun e w' => e = .returned (.tuple #[.agg fz4, .int .i64 15]) ∧ Below w.heap.size w w' := by
  obtain ⟨A, c, l, rfl, _⟩ := hp.ex
  obtain ⟨A', c', l', rfl, _⟩ := hq.ex
  exact New_zero w hN hp hq h0
theorem fright_yes {s s' : Int} {A A' : Option Addr} {n c n' c' : Nat} {p q : Int} (w : World) (hp : IsBig N0 w (bigV s A n c) p) (hq : IsBig N0 w (bigV s' A' n' c') q) (h : Rt p q) :
    Calls Tryz.prog 54 #[frV s A n c s' A' n' c'] w fun e w' => e = .returned (.bool true) ∧ Below w.heap.size w w' :=
  (fright_val w hp hq).mono fun e w' ⟨h1, h2⟩ => ⟨by rw [h1, decide_eq_true h], h2⟩
theorem mul_as {x y : Int} {va vb : Value} (w : World) (hx : IsBig N0 w va x) (hy : IsBig N0 w vb y) (hf : Fit (x * y)) :
    Calls Tryz.prog 15 #[va, vb] w fun e w' => ∃ A n c, e = .returned (.tuple #[bigV (sg (x * y)) A n c, .int .i64 0]) ∧ IsBig N0 w' (bigV (sg (x * y)) A n c) (x * y) ∧ Below w.heap.size w w' :=
  mul_gen w hx hy (fz_yes hf) (fe_yes hf) rfl
theorem add_as {x y : Int} {va vb : Value} (w : World) (hx : IsBig N0 w va x) (hy : IsBig N0 w vb y) (hf : Fit (x + y)) :
    Calls Tryz.prog 11 #[va, vb] w fun e w' => ∃ A n c, e = .returned (.tuple #[bigV (sg (x + y)) A n c, .int .i64 0]) ∧ IsBig N0 w' (bigV (sg (x + y)) A n c) (x + y) ∧ Below w.heap.size w w' :=
  add_gen w hx hy (fz_yes hf) (fe_yes hf) rfl
theorem sub_as {x y : Int} {va vb : Value} (w : World) (hx : IsBig N0 w va x) (hy : IsBig N0 w vb y) (hf : Fit (x - y)) :
    Calls Tryz.prog 13 #[va, vb] w fun e w' => ∃ A n c, e = .returned (.tuple #[bigV (sg (x - y)) A n c, .int .i64 0]) ∧ IsBig N0 w' (bigV (sg (x - y)) A n c) (x - y) ∧ Below w.heap.size w w' :=
  (sub_val w hx hy).mono fun e w' ⟨v, h1, h2, h3⟩ => by
    rw [fz_yes hf] at h2
    rw [fe_yes hf] at h1
    obtain ⟨A, c, l, rfl, _⟩ := h2.ex
    exact ⟨A, l.length, c, h1, h2, h3⟩
theorem of_as (n : Int) (w : World) (hn : I64 n) : Calls Tryz.prog 35 #[.int .i64 n] w fun e w' => ∃ A m c, e = .returned (bigV (sg n) A m c) ∧ IsBig N0 w' (bigV (sg n) A m c) n ∧ Below w.heap.size w w' :=
  (of_val (N0 := N0) n w hn).mono fun e w' ⟨v, h1, h2, h3⟩ => by
    obtain ⟨A, c, l, rfl, _⟩ := h2.ex
    exact ⟨A, l.length, c, h1, h2, h3⟩
set_option maxRecDepth 100000 in
set_option maxHeartbeats 8000000 in
theorem fof_val (p q : Int) (w : World) (hN : N0 ≤ w.heap.size) (hp : I64 p) (hq : I64 q) (h0 : q ≠ 0) :
    Calls Tryz.prog 48 #[.int .i64 p, .int .i64 q] w fun e w' => ∃ s A n c s' A' n' c', e = .returned (.tuple #[frV s A n c s' A' n' c', .int .i64 0]) ∧ IsBig N0 w' (bigV s A n c) (np (p) (q)) ∧ IsBig N0 w' (bigV s' A' n' c') (nq (p) (q)) ∧ Below w.heap.size w w' := by
  have HP := Lib.hid hp
  have HQ := Lib.hid hq
  have H0 := Lib.hid h0
  have HNN := Lib.hid hN
  have HB : Hid (Below w.heap.size w (w.alloc (.cells fz4 43))) := Lib.hid (Gen.b_alloc (Below.refl _ _))
  have RR := Lib.hid (Row.new w 43 fz4)
  clear hp hq h0 hN
  go_enter Tryz.func48, Tryz.ntmps48
  go_wp2_with (fail)
  go_must (refine (of_as (N0 := N0) p _ HP.out).mono ?_)
  rintro e W1 ⟨A1, m1, c1, rfl, hx1, hb⟩
  replace RR := Lib.hid (RR.out.keep hb)
  replace HB := Lib.hid (Gen.over hb HB.out)
  clear hb 
  have Hx1 := Lib.hid hx1
  clear hx1
  go_wp2_with (fail)
  go_must (refine (of_as (N0 := N0) q _ HQ.out).mono ?_)
  rintro e W2 ⟨A2, m2, c2, rfl, hx2, hb⟩
  replace RR := Lib.hid (RR.out.keep hb)
  replace Hx1 := Lib.hid (Hx1.out.keep hb)
  replace HB := Lib.hid (Gen.over hb HB.out)
  clear hb 
  have Hx2 := Lib.hid hx2
  clear hx2
  go_wp2_with (fail)
  go_must (refine (New_val _ (Nat.le_trans HNN.out HB.out.size) Hx1.out Hx2.out H0.out).mono ?_)
  rintro e W3 ⟨sr, Ar, nr, cr, tr, Br, mr, dr, rfl, hN1, hN2, hb⟩
  replace RR := Lib.hid (RR.out.keep hb)
  replace Hx1 := Lib.hid (Hx1.out.keep hb)
  replace Hx2 := Lib.hid (Hx2.out.keep hb)
  replace HB := Lib.hid (Gen.over hb HB.out)
  clear hb 
  have HN1 := Lib.hid hN1
  clear hN1
  have HN2 := Lib.hid hN2
  clear hN2
  have gr0 := RR.out.frozen 0
  have gc0 := RR.out.cell 0
  have gr1 := RR.out.frozen 1
  have gc1 := RR.out.cell 1
  have gr2 := RR.out.frozen 2
  have gc2 := RR.out.cell 2
  have gr3 := RR.out.frozen 3
  have gc3 := RR.out.cell 3
  have hlt2 := RR.out.lt
  go_wp2
  refine bodyPost_ret (v := .tuple #[frV sr Ar nr cr tr Br mr dr, .int .i64 0]) ?_ rfl ⟨_, _, _, _, _, _, _, _, rfl, HN1.out.set4 RR.out (by have := HNN.out; omega) _ _ _ _, HN2.out.set4 RR.out (by have := HNN.out; omega) _ _ _ _, below_set4 HB.out (by omega) _ _ _ _⟩
  simp [results, Tryz.results48, go_sem, *]
section
variable {s s' t t' : Int} {A A' B B' : Option Addr} {n c n' c' m d m' d' : Nat} {p q x y : Int}
set_option maxRecDepth 100000 in
set_option maxHeartbeats 8000000 in
theorem comb_add (w : World) (hN : N0 ≤ w.heap.size) (hp : IsBig N0 w (bigV s A n c) p) (hq : IsBig N0 w (bigV s' A' n' c') q) (hx : IsBig N0 w (bigV t B m d) x) (hy : IsBig N0 w (bigV t' B' m' d') y) (r1 : Rt p q) (r2 : Rt x y)
    (f1 : Fit (p * y)) (f2 : Fit (x * q)) (f3 : Fit (p * y + x * q)) (f4 : Fit (q * y)) :
    Calls Tryz.prog 95 #[frV s A n c s' A' n' c', frV t B m d t' B' m' d', .func (Fn.func 11) #[] #[]] w fun e w' => ∃ s A n c s' A' n' c', e = .returned (.tuple #[frV s A n c s' A' n' c', .int .i64 0]) ∧ IsBig N0 w' (bigV s A n c) (np (p * y + x * q) (q * y)) ∧ IsBig N0 w' (bigV s' A' n' c') (nq (p * y + x * q) (q * y)) ∧ Below w.heap.size w w' := by
  have HP := Lib.hid hp
  have HQ := Lib.hid hq
  have HX := Lib.hid hx
  have HY := Lib.hid hy
  have HR1 := Lib.hid r1
  have HR2 := Lib.hid r2
  have HF1 := Lib.hid f1
  have HF2 := Lib.hid f2
  have HF3 := Lib.hid f3
  have HF4 := Lib.hid f4
  have HNN := Lib.hid hN
  have H0 : Hid (q * y ≠ 0) := Lib.hid (Int.mul_ne_zero (by have := r1.1; omega) (by have := r2.1; omega))
  have HB : Hid (Below w.heap.size w (((w.alloc (.cells (fC s A n c s' A' n' c') 43)).alloc (.cells (fC t B m d t' B' m' d') 43)).alloc (.cells fz4 43))) := Lib.hid (Gen.b_alloc (Gen.b_alloc (Gen.b_alloc (Below.refl _ _))))
  have RA : Hid (Row (((w.alloc (.cells (fC s A n c s' A' n' c') 43)).alloc (.cells (fC t B m d t' B' m' d') 43)).alloc (.cells fz4 43)) w.heap.size 43 (fC s A n c s' A' n' c')) := Lib.hid (((Row.new _ _ _).alloc _).alloc _)
  have RB : Hid (Row (((w.alloc (.cells (fC s A n c s' A' n' c') 43)).alloc (.cells (fC t B m d t' B' m' d') 43)).alloc (.cells fz4 43)) (w.heap.size + 1) 43 (fC t B m d t' B' m' d')) := Lib.hid (by
    have h := (Row.new (w.alloc (.cells (fC s A n c s' A' n' c') 43)) 43 (fC t B m d t' B' m' d')).alloc (.cells fz4 43)
    rwa [World.size_alloc] at h)
  have RR : Hid (Row (((w.alloc (.cells (fC s A n c s' A' n' c') 43)).alloc (.cells (fC t B m d t' B' m' d') 43)).alloc (.cells fz4 43)) (w.heap.size + 1 + 1) 43 fz4) := Lib.hid (by
    have h := Row.new ((w.alloc (.cells (fC s A n c s' A' n' c') 43)).alloc (.cells (fC t B m d t' B' m' d') 43)) 43 fz4
    rwa [World.size_alloc, World.size_alloc] at h)
  replace HP := Lib.hid (HP.out.keep HB.out)
  replace HQ := Lib.hid (HQ.out.keep HB.out)
  replace HX := Lib.hid (HX.out.keep HB.out)
  replace HY := Lib.hid (HY.out.keep HB.out)
  clear hp hq hx hy r1 r2 f1 f2 f3 f4 hN
  go_enter Tryz.func95, Tryz.ntmps95
  go_wp2_with (fail)
  go_must (refine (fright_yes _ HP.out HQ.out HR1.out).mono ?_)
  rintro e W1 ⟨rfl, hb⟩
  replace RA := Lib.hid (RA.out.keep hb)
  replace RB := Lib.hid (RB.out.keep hb)
  replace RR := Lib.hid (RR.out.keep hb)
  replace HP := Lib.hid (HP.out.keep hb)
  replace HQ := Lib.hid (HQ.out.keep hb)
  replace HX := Lib.hid (HX.out.keep hb)
  replace HY := Lib.hid (HY.out.keep hb)
  replace HB := Lib.hid (Gen.over hb HB.out)
  clear hb 
  have RBc0 := RB.out.cell 0
  have RBc1 := RB.out.cell 1
  have RBc2 := RB.out.cell 2
  have RBc3 := RB.out.cell 3
  go_wp2_with (fail)
  go_must (refine (fright_yes _ HX.out HY.out HR2.out).mono ?_)
  rintro e W2 ⟨rfl, hb⟩
  replace RA := Lib.hid (RA.out.keep hb)
  replace RB := Lib.hid (RB.out.keep hb)
  replace RR := Lib.hid (RR.out.keep hb)
  replace HP := Lib.hid (HP.out.keep hb)
  replace HQ := Lib.hid (HQ.out.keep hb)
  replace HX := Lib.hid (HX.out.keep hb)
  replace HY := Lib.hid (HY.out.keep hb)
  replace HB := Lib.hid (Gen.over hb HB.out)
  clear hb RBc0 RBc1 RBc2 RBc3
  have RAc0 := RA.out.cell 0
  have RAc1 := RA.out.cell 1
  have RBc2 := RB.out.cell 2
  have RBc3 := RB.out.cell 3
  go_wp2_with (fail)
  go_must (refine (mul_as _ HP.out HY.out HF1.out).mono ?_)
  rintro e W3 ⟨C1, k1, e1, rfl, hu1, hb⟩
  replace RA := Lib.hid (RA.out.keep hb)
  replace RB := Lib.hid (RB.out.keep hb)
  replace RR := Lib.hid (RR.out.keep hb)
  replace HP := Lib.hid (HP.out.keep hb)
  replace HQ := Lib.hid (HQ.out.keep hb)
  replace HX := Lib.hid (HX.out.keep hb)
  replace HY := Lib.hid (HY.out.keep hb)
  replace HB := Lib.hid (Gen.over hb HB.out)
  clear hb RAc0 RAc1 RBc2 RBc3
  have Hu1 := Lib.hid hu1
  clear hu1
  have Ru1 := Lib.hid (Row.new W3 24 #[.int .i64 (sg (p * y)), .slice C1 k1 e1])
  replace RA := Lib.hid (RA.out.alloc (.cells #[.int .i64 (sg (p * y)), .slice C1 k1 e1] 24))
  replace RB := Lib.hid (RB.out.alloc (.cells #[.int .i64 (sg (p * y)), .slice C1 k1 e1] 24))
  replace RR := Lib.hid (RR.out.alloc (.cells #[.int .i64 (sg (p * y)), .slice C1 k1 e1] 24))
  replace HP := Lib.hid (HP.out.keep (Gen.b_alloc (x := (.cells #[.int .i64 (sg (p * y)), .slice C1 k1 e1] 24)) (Below.refl _ _)))
  replace HQ := Lib.hid (HQ.out.keep (Gen.b_alloc (x := (.cells #[.int .i64 (sg (p * y)), .slice C1 k1 e1] 24)) (Below.refl _ _)))
  replace HX := Lib.hid (HX.out.keep (Gen.b_alloc (x := (.cells #[.int .i64 (sg (p * y)), .slice C1 k1 e1] 24)) (Below.refl _ _)))
  replace HY := Lib.hid (HY.out.keep (Gen.b_alloc (x := (.cells #[.int .i64 (sg (p * y)), .slice C1 k1 e1] 24)) (Below.refl _ _)))
  replace Hu1 := Lib.hid (Hu1.out.keep (Gen.b_alloc (x := (.cells #[.int .i64 (sg (p * y)), .slice C1 k1 e1] 24)) (Below.refl _ _)))
  replace HB := Lib.hid (Gen.b_alloc (x := (.cells #[.int .i64 (sg (p * y)), .slice C1 k1 e1] 24)) HB.out)
  have RBc0 := RB.out.cell 0
  have RBc1 := RB.out.cell 1
  have RAc2 := RA.out.cell 2
  have RAc3 := RA.out.cell 3
  go_wp2_with (fail)
  go_must (refine (mul_as _ HX.out HQ.out HF2.out).mono ?_)
  rintro e W4 ⟨C2, k2, e2, rfl, hu2, hb⟩
  replace RA := Lib.hid (RA.out.keep hb)
  replace RB := Lib.hid (RB.out.keep hb)
  replace RR := Lib.hid (RR.out.keep hb)
  replace Ru1 := Lib.hid (Ru1.out.keep hb)
  replace HP := Lib.hid (HP.out.keep hb)
  replace HQ := Lib.hid (HQ.out.keep hb)
  replace HX := Lib.hid (HX.out.keep hb)
  replace HY := Lib.hid (HY.out.keep hb)
  replace Hu1 := Lib.hid (Hu1.out.keep hb)
  replace HB := Lib.hid (Gen.over hb HB.out)
  clear hb RBc0 RBc1 RAc2 RAc3
  have Hu2 := Lib.hid hu2
  clear hu2
  have Ru2 := Lib.hid (Row.new W4 24 #[.int .i64 (sg (x * q)), .slice C2 k2 e2])
  replace RA := Lib.hid (RA.out.alloc (.cells #[.int .i64 (sg (x * q)), .slice C2 k2 e2] 24))
  replace RB := Lib.hid (RB.out.alloc (.cells #[.int .i64 (sg (x * q)), .slice C2 k2 e2] 24))
  replace RR := Lib.hid (RR.out.alloc (.cells #[.int .i64 (sg (x * q)), .slice C2 k2 e2] 24))
  replace Ru1 := Lib.hid (Ru1.out.alloc (.cells #[.int .i64 (sg (x * q)), .slice C2 k2 e2] 24))
  replace HP := Lib.hid (HP.out.keep (Gen.b_alloc (x := (.cells #[.int .i64 (sg (x * q)), .slice C2 k2 e2] 24)) (Below.refl _ _)))
  replace HQ := Lib.hid (HQ.out.keep (Gen.b_alloc (x := (.cells #[.int .i64 (sg (x * q)), .slice C2 k2 e2] 24)) (Below.refl _ _)))
  replace HX := Lib.hid (HX.out.keep (Gen.b_alloc (x := (.cells #[.int .i64 (sg (x * q)), .slice C2 k2 e2] 24)) (Below.refl _ _)))
  replace HY := Lib.hid (HY.out.keep (Gen.b_alloc (x := (.cells #[.int .i64 (sg (x * q)), .slice C2 k2 e2] 24)) (Below.refl _ _)))
  replace Hu1 := Lib.hid (Hu1.out.keep (Gen.b_alloc (x := (.cells #[.int .i64 (sg (x * q)), .slice C2 k2 e2] 24)) (Below.refl _ _)))
  replace Hu2 := Lib.hid (Hu2.out.keep (Gen.b_alloc (x := (.cells #[.int .i64 (sg (x * q)), .slice C2 k2 e2] 24)) (Below.refl _ _)))
  replace HB := Lib.hid (Gen.b_alloc (x := (.cells #[.int .i64 (sg (x * q)), .slice C2 k2 e2] 24)) HB.out)
  have Ru1c0 := Ru1.out.cell 0
  have Ru1c1 := Ru1.out.cell 1
  have Ru2c0 := Ru2.out.cell 0
  have Ru2c1 := Ru2.out.cell 1
  go_wp2_with (fail)
  go_must (refine (add_as _ Hu1.out Hu2.out HF3.out).mono ?_)
  rintro e W5 ⟨C3, k3, e3, rfl, hu3, hb⟩
  replace RA := Lib.hid (RA.out.keep hb)
  replace RB := Lib.hid (RB.out.keep hb)
  replace RR := Lib.hid (RR.out.keep hb)
  replace Ru1 := Lib.hid (Ru1.out.keep hb)
  replace Ru2 := Lib.hid (Ru2.out.keep hb)
  replace HP := Lib.hid (HP.out.keep hb)
  replace HQ := Lib.hid (HQ.out.keep hb)
  replace HX := Lib.hid (HX.out.keep hb)
  replace HY := Lib.hid (HY.out.keep hb)
  replace Hu1 := Lib.hid (Hu1.out.keep hb)
  replace Hu2 := Lib.hid (Hu2.out.keep hb)
  replace HB := Lib.hid (Gen.over hb HB.out)
  clear hb Ru1c0 Ru1c1 Ru2c0 Ru2c1
  have Hu3 := Lib.hid hu3
  clear hu3
  have Ru3 := Lib.hid (Row.new W5 24 #[.int .i64 (sg (p * y + x * q)), .slice C3 k3 e3])
  replace RA := Lib.hid (RA.out.alloc (.cells #[.int .i64 (sg (p * y + x * q)), .slice C3 k3 e3] 24))
  replace RB := Lib.hid (RB.out.alloc (.cells #[.int .i64 (sg (p * y + x * q)), .slice C3 k3 e3] 24))
  replace RR := Lib.hid (RR.out.alloc (.cells #[.int .i64 (sg (p * y + x * q)), .slice C3 k3 e3] 24))
  replace Ru1 := Lib.hid (Ru1.out.alloc (.cells #[.int .i64 (sg (p * y + x * q)), .slice C3 k3 e3] 24))
  replace Ru2 := Lib.hid (Ru2.out.alloc (.cells #[.int .i64 (sg (p * y + x * q)), .slice C3 k3 e3] 24))
  replace HP := Lib.hid (HP.out.keep (Gen.b_alloc (x := (.cells #[.int .i64 (sg (p * y + x * q)), .slice C3 k3 e3] 24)) (Below.refl _ _)))
  replace HQ := Lib.hid (HQ.out.keep (Gen.b_alloc (x := (.cells #[.int .i64 (sg (p * y + x * q)), .slice C3 k3 e3] 24)) (Below.refl _ _)))
  replace HX := Lib.hid (HX.out.keep (Gen.b_alloc (x := (.cells #[.int .i64 (sg (p * y + x * q)), .slice C3 k3 e3] 24)) (Below.refl _ _)))
  replace HY := Lib.hid (HY.out.keep (Gen.b_alloc (x := (.cells #[.int .i64 (sg (p * y + x * q)), .slice C3 k3 e3] 24)) (Below.refl _ _)))
  replace Hu1 := Lib.hid (Hu1.out.keep (Gen.b_alloc (x := (.cells #[.int .i64 (sg (p * y + x * q)), .slice C3 k3 e3] 24)) (Below.refl _ _)))
  replace Hu2 := Lib.hid (Hu2.out.keep (Gen.b_alloc (x := (.cells #[.int .i64 (sg (p * y + x * q)), .slice C3 k3 e3] 24)) (Below.refl _ _)))
  replace Hu3 := Lib.hid (Hu3.out.keep (Gen.b_alloc (x := (.cells #[.int .i64 (sg (p * y + x * q)), .slice C3 k3 e3] 24)) (Below.refl _ _)))
  replace HB := Lib.hid (Gen.b_alloc (x := (.cells #[.int .i64 (sg (p * y + x * q)), .slice C3 k3 e3] 24)) HB.out)
  have RAc2 := RA.out.cell 2
  have RAc3 := RA.out.cell 3
  have RBc2 := RB.out.cell 2
  have RBc3 := RB.out.cell 3
  go_wp2_with (fail)
  go_must (refine (mul_as _ HQ.out HY.out HF4.out).mono ?_)
  rintro e W6 ⟨C4, k4, e4, rfl, hu4, hb⟩
  replace RA := Lib.hid (RA.out.keep hb)
  replace RB := Lib.hid (RB.out.keep hb)
  replace RR := Lib.hid (RR.out.keep hb)
  replace Ru1 := Lib.hid (Ru1.out.keep hb)
  replace Ru2 := Lib.hid (Ru2.out.keep hb)
  replace Ru3 := Lib.hid (Ru3.out.keep hb)
  replace HP := Lib.hid (HP.out.keep hb)
  replace HQ := Lib.hid (HQ.out.keep hb)
  replace HX := Lib.hid (HX.out.keep hb)
  replace HY := Lib.hid (HY.out.keep hb)
  replace Hu1 := Lib.hid (Hu1.out.keep hb)
  replace Hu2 := Lib.hid (Hu2.out.keep hb)
  replace Hu3 := Lib.hid (Hu3.out.keep hb)
  replace HB := Lib.hid (Gen.over hb HB.out)
  clear hb RAc2 RAc3 RBc2 RBc3
  have Hu4 := Lib.hid hu4
  clear hu4
  have Ru4 := Lib.hid (Row.new W6 24 #[.int .i64 (sg (q * y)), .slice C4 k4 e4])
  replace RA := Lib.hid (RA.out.alloc (.cells #[.int .i64 (sg (q * y)), .slice C4 k4 e4] 24))
  replace RB := Lib.hid (RB.out.alloc (.cells #[.int .i64 (sg (q * y)), .slice C4 k4 e4] 24))
  replace RR := Lib.hid (RR.out.alloc (.cells #[.int .i64 (sg (q * y)), .slice C4 k4 e4] 24))
  replace Ru1 := Lib.hid (Ru1.out.alloc (.cells #[.int .i64 (sg (q * y)), .slice C4 k4 e4] 24))
  replace Ru2 := Lib.hid (Ru2.out.alloc (.cells #[.int .i64 (sg (q * y)), .slice C4 k4 e4] 24))
  replace Ru3 := Lib.hid (Ru3.out.alloc (.cells #[.int .i64 (sg (q * y)), .slice C4 k4 e4] 24))
  replace HP := Lib.hid (HP.out.keep (Gen.b_alloc (x := (.cells #[.int .i64 (sg (q * y)), .slice C4 k4 e4] 24)) (Below.refl _ _)))
  replace HQ := Lib.hid (HQ.out.keep (Gen.b_alloc (x := (.cells #[.int .i64 (sg (q * y)), .slice C4 k4 e4] 24)) (Below.refl _ _)))
  replace HX := Lib.hid (HX.out.keep (Gen.b_alloc (x := (.cells #[.int .i64 (sg (q * y)), .slice C4 k4 e4] 24)) (Below.refl _ _)))
  replace HY := Lib.hid (HY.out.keep (Gen.b_alloc (x := (.cells #[.int .i64 (sg (q * y)), .slice C4 k4 e4] 24)) (Below.refl _ _)))
  replace Hu1 := Lib.hid (Hu1.out.keep (Gen.b_alloc (x := (.cells #[.int .i64 (sg (q * y)), .slice C4 k4 e4] 24)) (Below.refl _ _)))
  replace Hu2 := Lib.hid (Hu2.out.keep (Gen.b_alloc (x := (.cells #[.int .i64 (sg (q * y)), .slice C4 k4 e4] 24)) (Below.refl _ _)))
  replace Hu3 := Lib.hid (Hu3.out.keep (Gen.b_alloc (x := (.cells #[.int .i64 (sg (q * y)), .slice C4 k4 e4] 24)) (Below.refl _ _)))
  replace Hu4 := Lib.hid (Hu4.out.keep (Gen.b_alloc (x := (.cells #[.int .i64 (sg (q * y)), .slice C4 k4 e4] 24)) (Below.refl _ _)))
  replace HB := Lib.hid (Gen.b_alloc (x := (.cells #[.int .i64 (sg (q * y)), .slice C4 k4 e4] 24)) HB.out)
  have Ru3c0 := Ru3.out.cell 0
  have Ru3c1 := Ru3.out.cell 1
  have Ru4c0 := Ru4.out.cell 0
  have Ru4c1 := Ru4.out.cell 1
  go_wp2_with (fail)
  go_must (refine (New_val _ (Nat.le_trans HNN.out HB.out.size) Hu3.out Hu4.out H0.out).mono ?_)
  rintro e W7 ⟨sr, Ar, nr, cr, tr, Br, mr, dr, rfl, hN1, hN2, hb⟩
  replace RA := Lib.hid (RA.out.keep hb)
  replace RB := Lib.hid (RB.out.keep hb)
  replace RR := Lib.hid (RR.out.keep hb)
  replace Ru1 := Lib.hid (Ru1.out.keep hb)
  replace Ru2 := Lib.hid (Ru2.out.keep hb)
  replace Ru3 := Lib.hid (Ru3.out.keep hb)
  replace Ru4 := Lib.hid (Ru4.out.keep hb)
  replace HP := Lib.hid (HP.out.keep hb)
  replace HQ := Lib.hid (HQ.out.keep hb)
  replace HX := Lib.hid (HX.out.keep hb)
  replace HY := Lib.hid (HY.out.keep hb)
  replace Hu1 := Lib.hid (Hu1.out.keep hb)
  replace Hu2 := Lib.hid (Hu2.out.keep hb)
  replace Hu3 := Lib.hid (Hu3.out.keep hb)
  replace Hu4 := Lib.hid (Hu4.out.keep hb)
  replace HB := Lib.hid (Gen.over hb HB.out)
  clear hb Ru3c0 Ru3c1 Ru4c0 Ru4c1
  have HN1 := Lib.hid hN1
  clear hN1
  have HN2 := Lib.hid hN2
  clear hN2
  have gr0 := RR.out.frozen 0
  have gc0 := RR.out.cell 0
  have gr1 := RR.out.frozen 1
  have gc1 := RR.out.cell 1
  have gr2 := RR.out.frozen 2
  have gc2 := RR.out.cell 2
  have gr3 := RR.out.frozen 3
  have gc3 := RR.out.cell 3
  have hlt2 := RR.out.lt
  go_wp2
  refine bodyPost_ret (v := .tuple #[frV sr Ar nr cr tr Br mr dr, .int .i64 0]) ?_ rfl ⟨_, _, _, _, _, _, _, _, rfl, HN1.out.set4 RR.out (by have := HNN.out; omega) _ _ _ _, HN2.out.set4 RR.out (by have := HNN.out; omega) _ _ _ _, below_set4 HB.out (by omega) _ _ _ _⟩
  simp [results, Tryz.results95, go_sem, *]
set_option maxRecDepth 100000 in
set_option maxHeartbeats 8000000 in
theorem comb_sub (w : World) (hN : N0 ≤ w.heap.size) (hp : IsBig N0 w (bigV s A n c) p) (hq : IsBig N0 w (bigV s' A' n' c') q) (hx : IsBig N0 w (bigV t B m d) x) (hy : IsBig N0 w (bigV t' B' m' d') y) (r1 : Rt p q) (r2 : Rt x y)
    (f1 : Fit (p * y)) (f2 : Fit (x * q)) (f3 : Fit (p * y - x * q)) (f4 : Fit (q * y)) :
    Calls Tryz.prog 95 #[frV s A n c s' A' n' c', frV t B m d t' B' m' d', .func (Fn.func 13) #[] #[]] w fun e w' => ∃ s A n c s' A' n' c', e = .returned (.tuple #[frV s A n c s' A' n' c', .int .i64 0]) ∧ IsBig N0 w' (bigV s A n c) (np (p * y - x * q) (q * y)) ∧ IsBig N0 w' (bigV s' A' n' c') (nq (p * y - x * q) (q * y)) ∧ Below w.heap.size w w' := by
  have HP := Lib.hid hp
  have HQ := Lib.hid hq
  have HX := Lib.hid hx
  have HY := Lib.hid hy
  have HR1 := Lib.hid r1
  have HR2 := Lib.hid r2
  have HF1 := Lib.hid f1
  have HF2 := Lib.hid f2
  have HF3 := Lib.hid f3
  have HF4 := Lib.hid f4
  have HNN := Lib.hid hN
  have H0 : Hid (q * y ≠ 0) := Lib.hid (Int.mul_ne_zero (by have := r1.1; omega) (by have := r2.1; omega))
  have HB : Hid (Below w.heap.size w (((w.alloc (.cells (fC s A n c s' A' n' c') 43)).alloc (.cells (fC t B m d t' B' m' d') 43)).alloc (.cells fz4 43))) := Lib.hid (Gen.b_alloc (Gen.b_alloc (Gen.b_alloc (Below.refl _ _))))
  have RA : Hid (Row (((w.alloc (.cells (fC s A n c s' A' n' c') 43)).alloc (.cells (fC t B m d t' B' m' d') 43)).alloc (.cells fz4 43)) w.heap.size 43 (fC s A n c s' A' n' c')) := Lib.hid (((Row.new _ _ _).alloc _).alloc _)
  have RB : Hid (Row (((w.alloc (.cells (fC s A n c s' A' n' c') 43)).alloc (.cells (fC t B m d t' B' m' d') 43)).alloc (.cells fz4 43)) (w.heap.size + 1) 43 (fC t B m d t' B' m' d')) := Lib.hid (by
    have h := (Row.new (w.alloc (.cells (fC s A n c s' A' n' c') 43)) 43 (fC t B m d t' B' m' d')).alloc (.cells fz4 43)
    rwa [World.size_alloc] at h)
  have RR : Hid (Row (((w.alloc (.cells (fC s A n c s' A' n' c') 43)).alloc (.cells (fC t B m d t' B' m' d') 43)).alloc (.cells fz4 43)) (w.heap.size + 1 + 1) 43 fz4) := Lib.hid (by
    have h := Row.new ((w.alloc (.cells (fC s A n c s' A' n' c') 43)).alloc (.cells (fC t B m d t' B' m' d') 43)) 43 fz4
    rwa [World.size_alloc, World.size_alloc] at h)
  replace HP := Lib.hid (HP.out.keep HB.out)
  replace HQ := Lib.hid (HQ.out.keep HB.out)
  replace HX := Lib.hid (HX.out.keep HB.out)
  replace HY := Lib.hid (HY.out.keep HB.out)
  clear hp hq hx hy r1 r2 f1 f2 f3 f4 hN
  go_enter Tryz.func95, Tryz.ntmps95
  go_wp2_with (fail)
  go_must (refine (fright_yes _ HP.out HQ.out HR1.out).mono ?_)
  rintro e W1 ⟨rfl, hb⟩
  replace RA := Lib.hid (RA.out.keep hb)
  replace RB := Lib.hid (RB.out.keep hb)
  replace RR := Lib.hid (RR.out.keep hb)
  replace HP := Lib.hid (HP.out.keep hb)
  replace HQ := Lib.hid (HQ.out.keep hb)
  replace HX := Lib.hid (HX.out.keep hb)
  replace HY := Lib.hid (HY.out.keep hb)
  replace HB := Lib.hid (Gen.over hb HB.out)
  clear hb 
  have RBc0 := RB.out.cell 0
  have RBc1 := RB.out.cell 1
  have RBc2 := RB.out.cell 2
  have RBc3 := RB.out.cell 3
  go_wp2_with (fail)
  go_must (refine (fright_yes _ HX.out HY.out HR2.out).mono ?_)
  rintro e W2 ⟨rfl, hb⟩
  replace RA := Lib.hid (RA.out.keep hb)
  replace RB := Lib.hid (RB.out.keep hb)
  replace RR := Lib.hid (RR.out.keep hb)
  replace HP := Lib.hid (HP.out.keep hb)
  replace HQ := Lib.hid (HQ.out.keep hb)
  replace HX := Lib.hid (HX.out.keep hb)
  replace HY := Lib.hid (HY.out.keep hb)
  replace HB := Lib.hid (Gen.over hb HB.out)
  clear hb RBc0 RBc1 RBc2 RBc3
  have RAc0 := RA.out.cell 0
  have RAc1 := RA.out.cell 1
  have RBc2 := RB.out.cell 2
  have RBc3 := RB.out.cell 3
  go_wp2_with (fail)
  go_must (refine (mul_as _ HP.out HY.out HF1.out).mono ?_)
  rintro e W3 ⟨C1, k1, e1, rfl, hu1, hb⟩
  replace RA := Lib.hid (RA.out.keep hb)
  replace RB := Lib.hid (RB.out.keep hb)
  replace RR := Lib.hid (RR.out.keep hb)
  replace HP := Lib.hid (HP.out.keep hb)
  replace HQ := Lib.hid (HQ.out.keep hb)
  replace HX := Lib.hid (HX.out.keep hb)
  replace HY := Lib.hid (HY.out.keep hb)
  replace HB := Lib.hid (Gen.over hb HB.out)
  clear hb RAc0 RAc1 RBc2 RBc3
  have Hu1 := Lib.hid hu1
  clear hu1
  have Ru1 := Lib.hid (Row.new W3 24 #[.int .i64 (sg (p * y)), .slice C1 k1 e1])
  replace RA := Lib.hid (RA.out.alloc (.cells #[.int .i64 (sg (p * y)), .slice C1 k1 e1] 24))
  replace RB := Lib.hid (RB.out.alloc (.cells #[.int .i64 (sg (p * y)), .slice C1 k1 e1] 24))
  replace RR := Lib.hid (RR.out.alloc (.cells #[.int .i64 (sg (p * y)), .slice C1 k1 e1] 24))
  replace HP := Lib.hid (HP.out.keep (Gen.b_alloc (x := (.cells #[.int .i64 (sg (p * y)), .slice C1 k1 e1] 24)) (Below.refl _ _)))
  replace HQ := Lib.hid (HQ.out.keep (Gen.b_alloc (x := (.cells #[.int .i64 (sg (p * y)), .slice C1 k1 e1] 24)) (Below.refl _ _)))
  replace HX := Lib.hid (HX.out.keep (Gen.b_alloc (x := (.cells #[.int .i64 (sg (p * y)), .slice C1 k1 e1] 24)) (Below.refl _ _)))
  replace HY := Lib.hid (HY.out.keep (Gen.b_alloc (x := (.cells #[.int .i64 (sg (p * y)), .slice C1 k1 e1] 24)) (Below.refl _ _)))
  replace Hu1 := Lib.hid (Hu1.out.keep (Gen.b_alloc (x := (.cells #[.int .i64 (sg (p * y)), .slice C1 k1 e1] 24)) (Below.refl _ _)))
  replace HB := Lib.hid (Gen.b_alloc (x := (.cells #[.int .i64 (sg (p * y)), .slice C1 k1 e1] 24)) HB.out)
  have RBc0 := RB.out.cell 0
  have RBc1 := RB.out.cell 1
  have RAc2 := RA.out.cell 2
  have RAc3 := RA.out.cell 3
  go_wp2_with (fail)
  go_must (refine (mul_as _ HX.out HQ.out HF2.out).mono ?_)
  rintro e W4 ⟨C2, k2, e2, rfl, hu2, hb⟩
  replace RA := Lib.hid (RA.out.keep hb)
  replace RB := Lib.hid (RB.out.keep hb)
  replace RR := Lib.hid (RR.out.keep hb)
  replace Ru1 := Lib.hid (Ru1.out.keep hb)
  replace HP := Lib.hid (HP.out.keep hb)
  replace HQ := Lib.hid (HQ.out.keep hb)
  replace HX := Lib.hid (HX.out.keep hb)
  replace HY := Lib.hid (HY.out.keep hb)
  replace Hu1 := Lib.hid (Hu1.out.keep hb)
  replace HB := Lib.hid (Gen.over hb HB.out)
  clear hb RBc0 RBc1 RAc2 RAc3
  have Hu2 := Lib.hid hu2
  clear hu2
  have Ru2 := Lib.hid (Row.new W4 24 #[.int .i64 (sg (x * q)), .slice C2 k2 e2])
  replace RA := Lib.hid (RA.out.alloc (.cells #[.int .i64 (sg (x * q)), .slice C2 k2 e2] 24))
  replace RB := Lib.hid (RB.out.alloc (.cells #[.int .i64 (sg (x * q)), .slice C2 k2 e2] 24))
  replace RR := Lib.hid (RR.out.alloc (.cells #[.int .i64 (sg (x * q)), .slice C2 k2 e2] 24))
  replace Ru1 := Lib.hid (Ru1.out.alloc (.cells #[.int .i64 (sg (x * q)), .slice C2 k2 e2] 24))
  replace HP := Lib.hid (HP.out.keep (Gen.b_alloc (x := (.cells #[.int .i64 (sg (x * q)), .slice C2 k2 e2] 24)) (Below.refl _ _)))
  replace HQ := Lib.hid (HQ.out.keep (Gen.b_alloc (x := (.cells #[.int .i64 (sg (x * q)), .slice C2 k2 e2] 24)) (Below.refl _ _)))
  replace HX := Lib.hid (HX.out.keep (Gen.b_alloc (x := (.cells #[.int .i64 (sg (x * q)), .slice C2 k2 e2] 24)) (Below.refl _ _)))
  replace HY := Lib.hid (HY.out.keep (Gen.b_alloc (x := (.cells #[.int .i64 (sg (x * q)), .slice C2 k2 e2] 24)) (Below.refl _ _)))
  replace Hu1 := Lib.hid (Hu1.out.keep (Gen.b_alloc (x := (.cells #[.int .i64 (sg (x * q)), .slice C2 k2 e2] 24)) (Below.refl _ _)))
  replace Hu2 := Lib.hid (Hu2.out.keep (Gen.b_alloc (x := (.cells #[.int .i64 (sg (x * q)), .slice C2 k2 e2] 24)) (Below.refl _ _)))
  replace HB := Lib.hid (Gen.b_alloc (x := (.cells #[.int .i64 (sg (x * q)), .slice C2 k2 e2] 24)) HB.out)
  have Ru1c0 := Ru1.out.cell 0
  have Ru1c1 := Ru1.out.cell 1
  have Ru2c0 := Ru2.out.cell 0
  have Ru2c1 := Ru2.out.cell 1
  go_wp2_with (fail)
  go_must (refine (sub_as _ Hu1.out Hu2.out HF3.out).mono ?_)
  rintro e W5 ⟨C3, k3, e3, rfl, hu3, hb⟩
  replace RA := Lib.hid (RA.out.keep hb)
  replace RB := Lib.hid (RB.out.keep hb)
  replace RR := Lib.hid (RR.out.keep hb)
  replace Ru1 := Lib.hid (Ru1.out.keep hb)
  replace Ru2 := Lib.hid (Ru2.out.keep hb)
  replace HP := Lib.hid (HP.out.keep hb)
  replace HQ := Lib.hid (HQ.out.keep hb)
  replace HX := Lib.hid (HX.out.keep hb)
  replace HY := Lib.hid (HY.out.keep hb)
  replace Hu1 := Lib.hid (Hu1.out.keep hb)
  replace Hu2 := Lib.hid (Hu2.out.keep hb)
  replace HB := Lib.hid (Gen.over hb HB.out)
  clear hb Ru1c0 Ru1c1 Ru2c0 Ru2c1
  have Hu3 := Lib.hid hu3
  clear hu3
  have Ru3 := Lib.hid (Row.new W5 24 #[.int .i64 (sg (p * y - x * q)), .slice C3 k3 e3])
  replace RA := Lib.hid (RA.out.alloc (.cells #[.int .i64 (sg (p * y - x * q)), .slice C3 k3 e3] 24))
  replace RB := Lib.hid (RB.out.alloc (.cells #[.int .i64 (sg (p * y - x * q)), .slice C3 k3 e3] 24))
  replace RR := Lib.hid (RR.out.alloc (.cells #[.int .i64 (sg (p * y - x * q)), .slice C3 k3 e3] 24))
  replace Ru1 := Lib.hid (Ru1.out.alloc (.cells #[.int .i64 (sg (p * y - x * q)), .slice C3 k3 e3] 24))
  replace Ru2 := Lib.hid (Ru2.out.alloc (.cells #[.int .i64 (sg (p * y - x * q)), .slice C3 k3 e3] 24))
  replace HP := Lib.hid (HP.out.keep (Gen.b_alloc (x := (.cells #[.int .i64 (sg (p * y - x * q)), .slice C3 k3 e3] 24)) (Below.refl _ _)))
  replace HQ := Lib.hid (HQ.out.keep (Gen.b_alloc (x := (.cells #[.int .i64 (sg (p * y - x * q)), .slice C3 k3 e3] 24)) (Below.refl _ _)))
  replace HX := Lib.hid (HX.out.keep (Gen.b_alloc (x := (.cells #[.int .i64 (sg (p * y - x * q)), .slice C3 k3 e3] 24)) (Below.refl _ _)))
  replace HY := Lib.hid (HY.out.keep (Gen.b_alloc (x := (.cells #[.int .i64 (sg (p * y - x * q)), .slice C3 k3 e3] 24)) (Below.refl _ _)))
  replace Hu1 := Lib.hid (Hu1.out.keep (Gen.b_alloc (x := (.cells #[.int .i64 (sg (p * y - x * q)), .slice C3 k3 e3] 24)) (Below.refl _ _)))
  replace Hu2 := Lib.hid (Hu2.out.keep (Gen.b_alloc (x := (.cells #[.int .i64 (sg (p * y - x * q)), .slice C3 k3 e3] 24)) (Below.refl _ _)))
  replace Hu3 := Lib.hid (Hu3.out.keep (Gen.b_alloc (x := (.cells #[.int .i64 (sg (p * y - x * q)), .slice C3 k3 e3] 24)) (Below.refl _ _)))
  replace HB := Lib.hid (Gen.b_alloc (x := (.cells #[.int .i64 (sg (p * y - x * q)), .slice C3 k3 e3] 24)) HB.out)
  have RAc2 := RA.out.cell 2
  have RAc3 := RA.out.cell 3
  have RBc2 := RB.out.cell 2
  have RBc3 := RB.out.cell 3
  go_wp2_with (fail)
  go_must (refine (mul_as _ HQ.out HY.out HF4.out).mono ?_)
  rintro e W6 ⟨C4, k4, e4, rfl, hu4, hb⟩
  replace RA := Lib.hid (RA.out.keep hb)
  replace RB := Lib.hid (RB.out.keep hb)
  replace RR := Lib.hid (RR.out.keep hb)
  replace Ru1 := Lib.hid (Ru1.out.keep hb)
  replace Ru2 := Lib.hid (Ru2.out.keep hb)
  replace Ru3 := Lib.hid (Ru3.out.keep hb)
  replace HP := Lib.hid (HP.out.keep hb)
  replace HQ := Lib.hid (HQ.out.keep hb)
  replace HX := Lib.hid (HX.out.keep hb)
  replace HY := Lib.hid (HY.out.keep hb)
  replace Hu1 := Lib.hid (Hu1.out.keep hb)
  replace Hu2 := Lib.hid (Hu2.out.keep hb)
  replace Hu3 := Lib.hid (Hu3.out.keep hb)
  replace HB := Lib.hid (Gen.over hb HB.out)
  clear hb RAc2 RAc3 RBc2 RBc3
  have Hu4 := Lib.hid hu4
  clear hu4
  have Ru4 := Lib.hid (Row.new W6 24 #[.int .i64 (sg (q * y)), .slice C4 k4 e4])
  replace RA := Lib.hid (RA.out.alloc (.cells #[.int .i64 (sg (q * y)), .slice C4 k4 e4] 24))
  replace RB := Lib.hid (RB.out.alloc (.cells #[.int .i64 (sg (q * y)), .slice C4 k4 e4] 24))
  replace RR := Lib.hid (RR.out.alloc (.cells #[.int .i64 (sg (q * y)), .slice C4 k4 e4] 24))
  replace Ru1 := Lib.hid (Ru1.out.alloc (.cells #[.int .i64 (sg (q * y)), .slice C4 k4 e4] 24))
  replace Ru2 := Lib.hid (Ru2.out.alloc (.cells #[.int .i64 (sg (q * y)), .slice C4 k4 e4] 24))
  replace Ru3 := Lib.hid (Ru3.out.alloc (.cells #[.int .i64 (sg (q * y)), .slice C4 k4 e4] 24))
  replace HP := Lib.hid (HP.out.keep (Gen.b_alloc (x := (.cells #[.int .i64 (sg (q * y)), .slice C4 k4 e4] 24)) (Below.refl _ _)))
  replace HQ := Lib.hid (HQ.out.keep (Gen.b_alloc (x := (.cells #[.int .i64 (sg (q * y)), .slice C4 k4 e4] 24)) (Below.refl _ _)))
  replace HX := Lib.hid (HX.out.keep (Gen.b_alloc (x := (.cells #[.int .i64 (sg (q * y)), .slice C4 k4 e4] 24)) (Below.refl _ _)))
  replace HY := Lib.hid (HY.out.keep (Gen.b_alloc (x := (.cells #[.int .i64 (sg (q * y)), .slice C4 k4 e4] 24)) (Below.refl _ _)))
  replace Hu1 := Lib.hid (Hu1.out.keep (Gen.b_alloc (x := (.cells #[.int .i64 (sg (q * y)), .slice C4 k4 e4] 24)) (Below.refl _ _)))
  replace Hu2 := Lib.hid (Hu2.out.keep (Gen.b_alloc (x := (.cells #[.int .i64 (sg (q * y)), .slice C4 k4 e4] 24)) (Below.refl _ _)))
  replace Hu3 := Lib.hid (Hu3.out.keep (Gen.b_alloc (x := (.cells #[.int .i64 (sg (q * y)), .slice C4 k4 e4] 24)) (Below.refl _ _)))
  replace Hu4 := Lib.hid (Hu4.out.keep (Gen.b_alloc (x := (.cells #[.int .i64 (sg (q * y)), .slice C4 k4 e4] 24)) (Below.refl _ _)))
  replace HB := Lib.hid (Gen.b_alloc (x := (.cells #[.int .i64 (sg (q * y)), .slice C4 k4 e4] 24)) HB.out)
  have Ru3c0 := Ru3.out.cell 0
  have Ru3c1 := Ru3.out.cell 1
  have Ru4c0 := Ru4.out.cell 0
  have Ru4c1 := Ru4.out.cell 1
  go_wp2_with (fail)
  go_must (refine (New_val _ (Nat.le_trans HNN.out HB.out.size) Hu3.out Hu4.out H0.out).mono ?_)
  rintro e W7 ⟨sr, Ar, nr, cr, tr, Br, mr, dr, rfl, hN1, hN2, hb⟩
  replace RA := Lib.hid (RA.out.keep hb)
  replace RB := Lib.hid (RB.out.keep hb)
  replace RR := Lib.hid (RR.out.keep hb)
  replace Ru1 := Lib.hid (Ru1.out.keep hb)
  replace Ru2 := Lib.hid (Ru2.out.keep hb)
  replace Ru3 := Lib.hid (Ru3.out.keep hb)
  replace Ru4 := Lib.hid (Ru4.out.keep hb)
  replace HP := Lib.hid (HP.out.keep hb)
  replace HQ := Lib.hid (HQ.out.keep hb)
  replace HX := Lib.hid (HX.out.keep hb)
  replace HY := Lib.hid (HY.out.keep hb)
  replace Hu1 := Lib.hid (Hu1.out.keep hb)
  replace Hu2 := Lib.hid (Hu2.out.keep hb)
  replace Hu3 := Lib.hid (Hu3.out.keep hb)
  replace Hu4 := Lib.hid (Hu4.out.keep hb)
  replace HB := Lib.hid (Gen.over hb HB.out)
  clear hb Ru3c0 Ru3c1 Ru4c0 Ru4c1
  have HN1 := Lib.hid hN1
  clear hN1
  have HN2 := Lib.hid hN2
  clear hN2
  have gr0 := RR.out.frozen 0
  have gc0 := RR.out.cell 0
  have gr1 := RR.out.frozen 1
  have gc1 := RR.out.cell 1
  have gr2 := RR.out.frozen 2
  have gc2 := RR.out.cell 2
  have gr3 := RR.out.frozen 3
  have gc3 := RR.out.cell 3
  have hlt2 := RR.out.lt
  go_wp2
  refine bodyPost_ret (v := .tuple #[frV sr Ar nr cr tr Br mr dr, .int .i64 0]) ?_ rfl ⟨_, _, _, _, _, _, _, _, rfl, HN1.out.set4 RR.out (by have := HNN.out; omega) _ _ _ _, HN2.out.set4 RR.out (by have := HNN.out; omega) _ _ _ _, below_set4 HB.out (by omega) _ _ _ _⟩
  simp [results, Tryz.results95, go_sem, *]
end
end Go.Proofs.YtnifkianjpjahaaGreatDoor.Bg
