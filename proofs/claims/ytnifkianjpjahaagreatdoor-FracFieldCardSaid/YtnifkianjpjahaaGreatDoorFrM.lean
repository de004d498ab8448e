/- Fractions in laws: what a walk keeps; sums, differences, products and quotients of what is in lowest terms. -/
import Derived.Test.YtnifkianjpjahaaGreatDoorFmC
namespace Go.Proofs.YtnifkianjpjahaaGreatDoor.Bg
open Go.ChangeShapes Go.WideShapes Go.ChangeAt Go.RowKit Go.Proofs.YtnifkianjpjahaaGreatDoor.Cell
set_option linter.unusedVariables false
set_option linter.unusedSimpArgs false
variable {N0 : Nat}

theorem new_eq {a b c d : Int} (hb : b ≠ 0) (hd : d ≠ 0) (h : a * d = c * b) : np a b = np c d ∧ nq a b = nq c d := by
  refine rt_eq (rt_new hb) (rt_new hd) ?_
  have h1 := np_mul (p := a) (q := b) hb
  have h2 := nq_mul (p := a) (q := b) hb
  have h3 := np_mul (p := c) (q := d) hd
  have h4 := nq_mul (p := c) (q := d) hd
  have g1 := gq_ne (p := a) (q := b) hb
  have g2 := gq_ne (p := c) (q := d) hd
  refine Int.eq_of_mul_eq_mul_right (Int.mul_ne_zero g1 g2) ?_
  rw [show np a b * nq c d * (gq a b * gq c d) = (np a b * gq a b) * (nq c d * gq c d) by grind, h1, h4, show np c d * nq a b * (gq a b * gq c d) = (np c d * gq c d) * (nq a b * gq a b) by grind, h3, h2, h]
/-- a fraction's parts in lowest terms: sizes -/
structure Fz (a b : Int) (k l : Nat) : Prop where
  pos : 0 < b
  p : Sz k (np a b)
  q : Sz l (nq a b)
section
variable {a b c d : Int} {k l k' l' K : Nat}
theorem Fz.ne (h : Fz a b k l) : b ≠ 0 := Int.ne_of_gt h.pos
theorem Fz.rt (h : Fz a b k l) : Rt (np a b) (nq a b) := rt_new h.ne
theorem add_new (hb : 0 < b) (hd : 0 < d) : np (np a b * nq c d + np c d * nq a b) (nq a b * nq c d) = np (a * d + c * b) (b * d) ∧ nq (np a b * nq c d + np c d * nq a b) (nq a b * nq c d) = nq (a * d + c * b) (b * d) := by
  have e1 := new_cross (p := a) (q := b) (by omega)
  have e2 := new_cross (p := c) (q := d) (by omega)
  have q1 := nq_pos (p := a) (q := b) (by omega)
  have q2 := nq_pos (p := c) (q := d) (by omega)
  refine new_eq (Int.ne_of_gt (Int.mul_pos q1 q2)) (Int.ne_of_gt (Int.mul_pos hb hd)) ?_
  rw [show (np a b * nq c d + np c d * nq a b) * (b * d) = (np a b * b) * (nq c d * d) + (np c d * d) * (nq a b * b) by grind, e1, e2]
  grind
theorem sub_new (hb : 0 < b) (hd : 0 < d) : np (np a b * nq c d - np c d * nq a b) (nq a b * nq c d) = np (a * d - c * b) (b * d) ∧ nq (np a b * nq c d - np c d * nq a b) (nq a b * nq c d) = nq (a * d - c * b) (b * d) := by
  have e1 := new_cross (p := a) (q := b) (by omega)
  have e2 := new_cross (p := c) (q := d) (by omega)
  have q1 := nq_pos (p := a) (q := b) (by omega)
  have q2 := nq_pos (p := c) (q := d) (by omega)
  refine new_eq (Int.ne_of_gt (Int.mul_pos q1 q2)) (Int.ne_of_gt (Int.mul_pos hb hd)) ?_
  rw [show (np a b * nq c d - np c d * nq a b) * (b * d) = (np a b * b) * (nq c d * d) - (np c d * d) * (nq a b * b) by grind, e1, e2]
  grind
theorem mul_new (hb : 0 < b) (hd : 0 < d) : np (np a b * np c d) (nq a b * nq c d) = np (a * c) (b * d) ∧ nq (np a b * np c d) (nq a b * nq c d) = nq (a * c) (b * d) := by
  have e1 := new_cross (p := a) (q := b) (by omega)
  have e2 := new_cross (p := c) (q := d) (by omega)
  have q1 := nq_pos (p := a) (q := b) (by omega)
  have q2 := nq_pos (p := c) (q := d) (by omega)
  refine new_eq (Int.ne_of_gt (Int.mul_pos q1 q2)) (Int.ne_of_gt (Int.mul_pos hb hd)) ?_
  rw [show (np a b * np c d) * (b * d) = (np a b * b) * (np c d * d) by grind, e1, e2]
  grind
theorem np_ne (hd : d ≠ 0) (hc : c ≠ 0) : np c d ≠ 0 := fun h => by
  have h1 := np_mul (p := c) (q := d) hd
  rw [h, Int.zero_mul] at h1
  exact hc h1.symm
theorem div_new (hb : 0 < b) (hd : 0 < d) (hc : c ≠ 0) : np (np a b * nq c d) (nq a b * np c d) = np (a * d) (b * c) ∧ nq (np a b * nq c d) (nq a b * np c d) = nq (a * d) (b * c) := by
  have e1 := new_cross (p := a) (q := b) (by omega)
  have e2 := new_cross (p := c) (q := d) (by omega)
  have q1 := nq_pos (p := a) (q := b) (by omega)
  refine new_eq (Int.mul_ne_zero (Int.ne_of_gt q1) (np_ne (by omega) hc)) (Int.mul_ne_zero (Int.ne_of_gt hb) hc) ?_
  rw [show (np a b * nq c d) * (b * c) = (np a b * b) * (c * nq c d) by grind, e1, ← e2]
  grind
theorem Fz.add (z1 : Fz a b k l) (z2 : Fz c d k' l') (h1 : k + l' ≤ K) (h2 : k' + l ≤ K) : Fz (a * d + c * b) (b * d) (K + 1) (l + l') := by
  have e := add_new (a := a) (c := c) z1.pos z2.pos
  have q0 := Int.ne_of_gt (Int.mul_pos z1.rt.1 z2.rt.1)
  refine ⟨Int.mul_pos z1.pos z2.pos, ?_, ?_⟩
  · rw [← e.1]
    exact np_sz q0 (Sz.add ((z1.p.mul z2.q).mono h1) ((z2.p.mul z1.q).mono h2) (Nat.lt_succ_self _))
  · rw [← e.2]
    exact nq_sz q0 (z1.q.mul z2.q)
theorem Fz.sub (z1 : Fz a b k l) (z2 : Fz c d k' l') (h1 : k + l' ≤ K) (h2 : k' + l ≤ K) : Fz (a * d - c * b) (b * d) (K + 1) (l + l') := by
  have e := sub_new (a := a) (c := c) z1.pos z2.pos
  have q0 := Int.ne_of_gt (Int.mul_pos z1.rt.1 z2.rt.1)
  refine ⟨Int.mul_pos z1.pos z2.pos, ?_, ?_⟩
  · rw [← e.1]
    exact np_sz q0 (Sz.sub ((z1.p.mul z2.q).mono h1) ((z2.p.mul z1.q).mono h2) (Nat.lt_succ_self _))
  · rw [← e.2]
    exact nq_sz q0 (z1.q.mul z2.q)
theorem Fz.mul (z1 : Fz a b k l) (z2 : Fz c d k' l') : Fz (a * c) (b * d) (k + k') (l + l') := by
  have e := mul_new (a := a) (c := c) z1.pos z2.pos
  have q0 := Int.ne_of_gt (Int.mul_pos z1.rt.1 z2.rt.1)
  refine ⟨Int.mul_pos z1.pos z2.pos, ?_, ?_⟩
  · rw [← e.1]
    exact np_sz q0 (z1.p.mul z2.p)
  · rw [← e.2]
    exact nq_sz q0 (z1.q.mul z2.q)
end
section
variable {s s' t t' : Int} {A A' B B' : Option Addr} {n n' m m' x x' y y' : Nat} {a b c d : Int} {k l k' l' K : Nat}
theorem fadd_z (w : World) (hN : N0 ≤ w.heap.size) (hp : IsBig N0 w (bigV s A n x) (np a b)) (hq : IsBig N0 w (bigV s' A' n' x') (nq a b)) (hu : IsBig N0 w (bigV t B m y) (np c d)) (hv : IsBig N0 w (bigV t' B' m' y') (nq c d)) (z1 : Fz a b k l) (z2 : Fz c d k' l') (h : k + l' ≤ K ∧ k' + l ≤ K ∧ K < 60 ∧ l + l' ≤ 60) :
    Calls Tryz.prog 39 #[frV s A n x s' A' n' x', frV t B m y t' B' m' y'] w fun e w' => ∃ s A n x s' A' n' x', e = .returned (.tuple #[frV s A n x s' A' n' x', .int .i64 0]) ∧ IsBig N0 w' (bigV s A n x) (np (a * d + c * b) (b * d)) ∧ IsBig N0 w' (bigV s' A' n' x') (nq (a * d + c * b) (b * d)) ∧ Below w.heap.size w w' := by
  have e := add_new (a := a) (c := c) z1.pos z2.pos
  rw [← e.1, ← e.2]
  exact fadd_ok w hN hp hq hu hv z1.rt z2.rt ((z1.p.mul z2.q).fit (by omega)) ((z2.p.mul z1.q).fit (by omega)) ((Sz.add ((z1.p.mul z2.q).mono h.1) ((z2.p.mul z1.q).mono h.2.1) (Nat.lt_succ_self _)).fit (by omega)) ((z1.q.mul z2.q).fit (by omega))
theorem fsub_z (w : World) (hN : N0 ≤ w.heap.size) (hp : IsBig N0 w (bigV s A n x) (np a b)) (hq : IsBig N0 w (bigV s' A' n' x') (nq a b)) (hu : IsBig N0 w (bigV t B m y) (np c d)) (hv : IsBig N0 w (bigV t' B' m' y') (nq c d)) (z1 : Fz a b k l) (z2 : Fz c d k' l') (h : k + l' ≤ K ∧ k' + l ≤ K ∧ K < 60 ∧ l + l' ≤ 60) :
    Calls Tryz.prog 41 #[frV s A n x s' A' n' x', frV t B m y t' B' m' y'] w fun e w' => ∃ s A n x s' A' n' x', e = .returned (.tuple #[frV s A n x s' A' n' x', .int .i64 0]) ∧ IsBig N0 w' (bigV s A n x) (np (a * d - c * b) (b * d)) ∧ IsBig N0 w' (bigV s' A' n' x') (nq (a * d - c * b) (b * d)) ∧ Below w.heap.size w w' := by
  have e := sub_new (a := a) (c := c) z1.pos z2.pos
  rw [← e.1, ← e.2]
  exact fsub_ok w hN hp hq hu hv z1.rt z2.rt ((z1.p.mul z2.q).fit (by omega)) ((z2.p.mul z1.q).fit (by omega)) ((Sz.sub ((z1.p.mul z2.q).mono h.1) ((z2.p.mul z1.q).mono h.2.1) (Nat.lt_succ_self _)).fit (by omega)) ((z1.q.mul z2.q).fit (by omega))
theorem fmul_z (w : World) (hN : N0 ≤ w.heap.size) (hp : IsBig N0 w (bigV s A n x) (np a b)) (hq : IsBig N0 w (bigV s' A' n' x') (nq a b)) (hu : IsBig N0 w (bigV t B m y) (np c d)) (hv : IsBig N0 w (bigV t' B' m' y') (nq c d)) (z1 : Fz a b k l) (z2 : Fz c d k' l') (h : k + k' ≤ 60 ∧ l + l' ≤ 60) :
    Calls Tryz.prog 44 #[frV s A n x s' A' n' x', frV t B m y t' B' m' y'] w fun e w' => ∃ s A n x s' A' n' x', e = .returned (.tuple #[frV s A n x s' A' n' x', .int .i64 0]) ∧ IsBig N0 w' (bigV s A n x) (np (a * c) (b * d)) ∧ IsBig N0 w' (bigV s' A' n' x') (nq (a * c) (b * d)) ∧ Below w.heap.size w w' := by
  have e := mul_new (a := a) (c := c) z1.pos z2.pos
  rw [← e.1, ← e.2]
  exact fmul_ok w hN hp hq hu hv z1.rt z2.rt ((z1.p.mul z2.p).fit (by omega)) ((z1.q.mul z2.q).fit (by omega))
theorem fdiv_z (w : World) (hN : N0 ≤ w.heap.size) (hp : IsBig N0 w (bigV s A n x) (np a b)) (hq : IsBig N0 w (bigV s' A' n' x') (nq a b)) (hu : IsBig N0 w (bigV t B m y) (np c d)) (hv : IsBig N0 w (bigV t' B' m' y') (nq c d)) (z1 : Fz a b k l) (z2 : Fz c d k' l') (h : k + l' ≤ 60 ∧ l + k' ≤ 60) (hc : c ≠ 0) :
    Calls Tryz.prog 46 #[frV s A n x s' A' n' x', frV t B m y t' B' m' y'] w fun e w' => ∃ s A n x s' A' n' x', e = .returned (.tuple #[frV s A n x s' A' n' x', .int .i64 0]) ∧ IsBig N0 w' (bigV s A n x) (np (a * d) (b * c)) ∧ IsBig N0 w' (bigV s' A' n' x') (nq (a * d) (b * c)) ∧ Below w.heap.size w w' := by
  have e := div_new (a := a) z1.pos z2.pos hc
  rw [← e.1, ← e.2]
  exact fdiv_ok w hN hp hq hu hv z1.rt z2.rt ((z1.p.mul z2.q).fit (by omega)) ((z1.q.mul z2.p).fit (by omega)) (np_ne z2.ne hc)
/-- the same fraction, told in two ways -/
theorem fsame_z (w : World) (hp : IsBig N0 w (bigV s A n x) (np a b)) (hq : IsBig N0 w (bigV s' A' n' x') (nq a b)) (hu : IsBig N0 w (bigV t B m y) (np c d)) (hv : IsBig N0 w (bigV t' B' m' y') (nq c d)) (hb : b ≠ 0) (hd : d ≠ 0) (h : a * d = c * b) :
    Calls Tryz.prog 43 #[frV s A n x s' A' n' x', frV t B m y t' B' m' y'] w fun e w' => e = .returned (.bool true) ∧ Below w.heap.size w w' := by
  have e := new_eq hb hd h
  rw [e.1] at hp
  rw [e.2] at hq
  exact fsame_yes w hp hq hu hv
theorem fcmp_z (w : World) (hN : N0 ≤ w.heap.size) (hp : IsBig N0 w (bigV s A n x) (np a b)) (hq : IsBig N0 w (bigV s' A' n' x') (nq a b)) (hu : IsBig N0 w (bigV t B m y) (np c d)) (hv : IsBig N0 w (bigV t' B' m' y') (nq c d)) (z1 : Fz a b k l) (z2 : Fz c d k' l') (h : k + l' ≤ 60 ∧ k' + l ≤ 60) {r : Int} (hr : cmpI (a * d) (c * b) = r) :
    Calls Tryz.prog 56 #[frV s A n x s' A' n' x', frV t B m y t' B' m' y'] w fun e w' => e = .returned (.int .i64 r) ∧ Below w.heap.size w w' := by
  refine fcmp_is w hN hp hq hu hv z1.rt z2.rt ((z1.p.mul z2.q).fit h.1) ((z2.p.mul z1.q).fit h.2) ?_
  rw [cmp_new z1.pos z2.pos, hr]
end
theorem fsame_as {s s' t t' : Int} {A A' B B' : Option Addr} {n c n' c' m d m' d' : Nat} {p q x y : Int} {b : Bool} (w : World) (hp : IsBig N0 w (bigV s A n c) p) (hq : IsBig N0 w (bigV s' A' n' c') q) (hx : IsBig N0 w (bigV t B m d) x) (hy : IsBig N0 w (bigV t' B' m' d') y) (h : decide (p = x ∧ q = y) = b) :
    Calls Tryz.prog 43 #[frV s A n c s' A' n' c', frV t B m d t' B' m' d'] w fun e w' => e = .returned (.bool b) ∧ Below w.heap.size w w' := by
  subst h
  exact fsame_val w hp hq hx hy
theorem new_as {va vb : Value} {p q x y : Int} (w : World) (hN : N0 ≤ w.heap.size) (hp : IsBig N0 w va p) (hq : IsBig N0 w vb q) (h0 : q ≠ 0) (hx : np p q = x) (hy : nq p q = y) :
    Calls Tryz.prog 52 #[va, vb] w fun e w' => ∃ s A n c s' A' n' c', e = .returned (.tuple #[frV s A n c s' A' n' c', .int .i64 0]) ∧ IsBig N0 w' (bigV s A n c) x ∧ IsBig N0 w' (bigV s' A' n' c') y ∧ Below w.heap.size w w' := by
  subst hx hy
  exact New_val w hN hp hq h0
theorem add_af {x y z : Int} {va vb : Value} (w : World) (hx : IsBig N0 w va x) (hy : IsBig N0 w vb y) (hz : x + y = z) (hf : Fit z) :
    Calls Tryz.prog 11 #[va, vb] w fun e w' => ∃ A n c, e = .returned (.tuple #[bigV (sg z) A n c, .int .i64 0]) ∧ IsBig N0 w' (bigV (sg z) A n c) z ∧ Below w.heap.size w w' := by
  subst hz
  exact add_as w hx hy hf
theorem mul_af {x y z : Int} {va vb : Value} (w : World) (hx : IsBig N0 w va x) (hy : IsBig N0 w vb y) (hz : x * y = z) (hf : Fit z) :
    Calls Tryz.prog 15 #[va, vb] w fun e w' => ∃ A n c, e = .returned (.tuple #[bigV (sg z) A n c, .int .i64 0]) ∧ IsBig N0 w' (bigV (sg z) A n c) z ∧ Below w.heap.size w w' := by
  subst hz
  exact mul_as w hx hy hf
theorem rt_one (n : Int) : Rt n 1 := ⟨by decide, by rw [Int.gcd_one]⟩
theorem new_one (n : Int) : np n 1 = n ∧ nq n 1 = 1 := new_same (rt_one n)
theorem dq_one (n : Int) : dq n 1 = n := by unfold dq; rw [if_pos (by decide), Int.ediv_one]
theorem ff_in {p q : Int} (h : 0 < q) : dq p q * q ≤ p ∧ p < (dq p q + 1) * q := by
  unfold dq
  rw [if_pos h]
  exact ⟨Int.ediv_mul_le p (Int.ne_of_gt h), Int.lt_ediv_add_one_mul_self p h⟩
theorem ff_neg {p q : Int} (h : 0 < q) : dq (-p) q = if dq p q * q = p then -(dq p q) else -(dq p q + 1) := by
  obtain ⟨h1, h2⟩ := ff_in (p := p) h
  obtain ⟨h3, h4⟩ := ff_in (p := -p) h
  generalize dq p q = f at *
  generalize dq (-p) q = g at *
  split
  · rename_i e
    have e1 : (g + f) * q ≤ 0 := by rw [Int.add_mul]; omega
    have e2 : 0 < (g + f + 1) * q := by
      have : (g + f + 1) * q = (g + 1) * q + f * q := by grind
      omega
    have e3 : g + f ≤ 0 := by
      refine Int.not_lt.1 fun hc => ?_
      have := Int.mul_pos hc h
      omega
    have e4 : 0 < g + f + 1 := Int.pos_of_mul_pos_left e2 h
    omega
  · rename_i e
    have e1 : (g + f) * q < 0 := by rw [Int.add_mul]; omega
    have e2 : 0 < (g + f + 2) * q := by
      have : (g + f + 2) * q = (g + 1) * q + (f + 1) * q := by grind
      omega
    have e3 : g + f < 0 := by
      refine Int.not_le.1 fun hc => ?_
      have := Int.mul_nonneg hc (show 0 ≤ q by omega)
      omega
    have e4 : 0 < g + f + 2 := Int.pos_of_mul_pos_left e2 h
    omega
theorem ff_sz {p q : Int} {k : Nat} (h : 0 < q) (hs : Sz k p) : Sz k (dq p q) := by
  obtain ⟨h1, h2⟩ := ff_in (p := p) h
  unfold Sz at *
  generalize dq p q = f at *
  refine ⟨?_, ?_⟩
  · refine Int.not_le.1 fun hc => ?_
    have e1 : (f + 1) * q ≤ (f + 1) * 1 := Int.mul_le_mul_of_nonpos_left (by omega) (by have := pw_pos k; omega)
    omega
  · refine Int.not_le.1 fun hc => ?_
    have e1 : f * 1 ≤ f * q := Int.mul_le_mul_of_nonneg_left (by omega) (by have := pw_pos k; omega)
    omega
/-- what a law's walk keeps: fractions and integers in variables, what the tables hold, what was there -/
structure Env (N0 : Nat) (w W : World) (F : List (Nat × Value × Int × Int)) (V : List (Nat × Value × Int)) : Prop where
  f : Fs N0 W F
  v : Vs N0 W V
  t0 : PowTab w
  m0 : MaxL w
  b : Below w.heap.size w W
  n : N0 ≤ w.heap.size
  nd : (F.map (·.1) ++ V.map (·.1)).Nodup
section
variable {w W X : World} {F : List (Nat × Value × Int × Int)} {V : List (Nat × Value × Int)}
theorem Env.keep (h : Env N0 w W F V) (hb : Below W.heap.size W X) : Env N0 w X F V := ⟨h.f.keep hb, h.v.keep hb, h.t0, h.m0, Gen.over hb h.b, h.n, h.nd⟩
theorem Env.t (h : Env N0 w W F V) : PowTab W := h.t0.keep h.b
theorem Env.m (h : Env N0 w W F V) : MaxL W := h.m0.keep h.b
theorem Env.size (h : Env N0 w W F V) : N0 ≤ W.heap.size := Nat.le_trans h.n h.b.size
theorem Env.lt (h : Env N0 w W F V) : ∀ x ∈ F.map (·.1) ++ V.map (·.1), x < W.heap.size := fun x hx => by
  rcases List.mem_append.1 hx with hx | hx
  · obtain ⟨y, hy, rfl⟩ := List.mem_map.1 hx
    exact (h.f y hy).1.lt
  · obtain ⟨y, hy, rfl⟩ := List.mem_map.1 hx
    exact (h.v y hy).1.lt
theorem Env.fresh (h : Env N0 w W F V) {g : Nat} (hg : W.heap.size ≤ g) : g ∉ F.map (·.1) ++ V.map (·.1) := fun hm => by
  have := h.lt g hm
  omega
theorem Env.ndF (h : Env N0 w W F V) {g : Nat} (hg : W.heap.size ≤ g) (v : Value) (p q : Int) : ((((g, v, p, q) :: F).map (·.1)) ++ V.map (·.1)).Nodup := by
  rw [List.map_cons, List.cons_append, List.nodup_cons]
  exact ⟨h.fresh hg, h.nd⟩
theorem Env.ndV (h : Env N0 w W F V) {g : Nat} (hg : W.heap.size ≤ g) (v : Value) (p : Int) : (F.map (·.1) ++ ((g, v, p) :: V).map (·.1)).Nodup := by
  rw [List.map_cons]
  refine (List.perm_middle.nodup_iff).2 ?_
  rw [List.nodup_cons]
  exact ⟨h.fresh hg, h.nd⟩
theorem Env.al (h : Env N0 w W F V) (x : Obj) : Env N0 w (W.alloc x) F V := h.keep (Gen.b_alloc (Below.refl _ _))
theorem Env.adF {s s' p q : Int} {A A' : Option Addr} {n c n' c' : Nat} (h : Env N0 w W F V) (h1 : IsBig N0 W (bigV s A n c) p) (h2 : IsBig N0 W (bigV s' A' n' c') q) :
    Env N0 w (W.alloc (.cells (fC s A n c s' A' n' c') 43)) ((W.heap.size, frV s A n c s' A' n' c', p, q) :: F) V :=
  have e := h.al (.cells (fC s A n c s' A' n' c') 43)
  ⟨h.f.ad h1 h2, e.v, e.t0, e.m0, e.b, e.n, h.ndF (Nat.le_refl _) _ _ _⟩
theorem Env.adV {s z : Int} {A : Option Addr} {n c : Nat} (h : Env N0 w W F V) (h1 : IsBig N0 W (bigV s A n c) z) :
    Env N0 w (W.alloc (.cells #[.int .i64 s, .slice A n c] 24)) F ((W.heap.size, bigV s A n c, z) :: V) :=
  have e := h.al (.cells #[.int .i64 s, .slice A n c] 24)
  ⟨e.f, h.v.ad h1, e.t0, e.m0, e.b, e.n, h.ndV (Nat.le_refl _) _ _⟩
/-- a new variable, made before what is put into it -/
theorem Env.rgF {s s' p q : Int} {A A' : Option Addr} {n c n' c' g : Nat} {x0 x1 x2 x3 : Value} (h : Env N0 w W F V) (hb : Below W.heap.size W X) (hg : W.heap.size ≤ g) (hr : Row X g 43 #[x0, x1, x2, x3]) (h1 : IsBig N0 X (bigV s A n c) p) (h2 : IsBig N0 X (bigV s' A' n' c') q) :
    Env N0 w (set4 X g (.int .i64 s) (.slice A n c) (.int .i64 s') (.slice A' n' c')) ((g, frV s A n c s' A' n' c', p, q) :: F) V := by
  have hN : N0 ≤ g := Nat.le_trans h.size hg
  have e := h.keep (below_set4 hb hg (.int .i64 s) (.slice A n c) (.int .i64 s') (.slice A' n' c'))
  refine ⟨fun y hy => ?_, e.v, e.t0, e.m0, e.b, e.n, h.ndF hg _ _ _⟩
  rcases List.mem_cons.1 hy with rfl | hy
  · exact ⟨rset4 hr _ _ _ _, .mk' (h1.set4 hr hN _ _ _ _) (h2.set4 hr hN _ _ _ _)⟩
  · exact e.f y hy
theorem Env.rgV {s z : Int} {A : Option Addr} {n c g : Nat} {x0 x1 : Value} (h : Env N0 w W F V) (hb : Below W.heap.size W X) (hg : W.heap.size ≤ g) (hr : Row X g 24 #[x0, x1]) (h1 : IsBig N0 X (bigV s A n c) z) :
    Env N0 w ((X.setCell ⟨g, 0, none⟩ (.int .i64 s)).setCell ⟨g, 1, none⟩ (.slice A n c)) F ((g, bigV s A n c, z) :: V) := by
  have hN : N0 ≤ g := Nat.le_trans h.size hg
  have e := h.keep (below_set2 hb hg (.int .i64 s) (.slice A n c))
  refine ⟨e.f, fun y hy => ?_, e.t0, e.m0, e.b, e.n, h.ndV hg _ _⟩
  rcases List.mem_cons.1 hy with rfl | hy
  · exact ⟨rset2 hr _ _, h1.set2 hr hN _ _⟩
  · exact e.v y hy
/-- a variable is written again -/
theorem Env.ptF {s s' p q p0 q0 : Int} {A A' : Option Addr} {n c n' c' g : Nat} {v0 : Value} {L1 L2 : List (Nat × Value × Int × Int)} {x0 x1 x2 x3 : Value} (h : Env N0 w W (L1 ++ (g, v0, p0, q0) :: L2) V) (hw : w.heap.size ≤ g) (hr : Row W g 43 #[x0, x1, x2, x3]) (h1 : IsBig N0 W (bigV s A n c) p) (h2 : IsBig N0 W (bigV s' A' n' c') q) :
    Env N0 w (set4 W g (.int .i64 s) (.slice A n c) (.int .i64 s') (.slice A' n' c')) ((g, frV s A n c s' A' n' c', p, q) :: (L1 ++ L2)) V := by
  have hN : N0 ≤ g := Nat.le_trans h.n hw
  have hp : (L1 ++ (g, v0, p0, q0) :: L2).map (·.1) ++ V.map (·.1) |>.Perm (g :: ((L1 ++ L2).map (·.1) ++ V.map (·.1))) :=
    (List.Perm.append_right _ ((List.perm_middle).map _))
  have hn := hp.nodup_iff.1 h.nd
  have hg := (List.nodup_cons.1 hn).1
  have hF : ∀ y ∈ L1 ++ L2, y.1 ≠ g := fun y hy e => hg (List.mem_append_left _ (by rw [← e]; exact List.mem_map_of_mem hy))
  have hV : ∀ y ∈ V, y.1 ≠ g := fun y hy e => hg (List.mem_append_right _ (by rw [← e]; exact List.mem_map_of_mem hy))
  refine ⟨fun y hy => ?_, fun y hy => ?_, h.t0, h.m0, below_set4 h.b hw _ _ _ _, h.n, hn⟩
  · rcases List.mem_cons.1 hy with rfl | hy
    · exact ⟨rset4 hr _ _ _ _, .mk' (h1.set4 hr hN _ _ _ _) (h2.set4 hr hN _ _ _ _)⟩
    · have hy' : y ∈ L1 ++ (g, v0, p0, q0) :: L2 := List.perm_middle.symm.subset (List.mem_cons_of_mem _ hy)
      have e := h.f y hy'
      obtain ⟨s0, A0, n0, c0, s1, A1, n1, c1, e0, e1, e2⟩ := e.2.ex
      exact ⟨roff4 e.1 (hF y hy) _ _ _ _, ⟨s0, A0, n0, c0, s1, A1, n1, c1, e0, e1.set4 hr hN _ _ _ _, e2.set4 hr hN _ _ _ _⟩⟩
  · have e := h.v y hy
    exact ⟨roff4 e.1 (hV y hy) _ _ _ _, e.2.set4 hr hN _ _ _ _⟩
theorem Env.ptV {s z z0 : Int} {A : Option Addr} {n c g : Nat} {v0 : Value} {L1 L2 : List (Nat × Value × Int)} {x0 x1 : Value} (h : Env N0 w W F (L1 ++ (g, v0, z0) :: L2)) (hw : w.heap.size ≤ g) (hr : Row W g 24 #[x0, x1]) (h1 : IsBig N0 W (bigV s A n c) z) :
    Env N0 w ((W.setCell ⟨g, 0, none⟩ (.int .i64 s)).setCell ⟨g, 1, none⟩ (.slice A n c)) F ((g, bigV s A n c, z) :: (L1 ++ L2)) := by
  have hN : N0 ≤ g := Nat.le_trans h.n hw
  have hp : (F.map (·.1) ++ (L1 ++ (g, v0, z0) :: L2).map (·.1)).Perm (F.map (·.1) ++ (g :: (L1 ++ L2).map (·.1))) :=
    (List.Perm.append_left _ ((List.perm_middle).map _))
  have hn := hp.nodup_iff.1 h.nd
  have hg := (List.nodup_cons.1 (List.perm_middle.nodup_iff.1 hn)).1
  have hF : ∀ y ∈ F, y.1 ≠ g := fun y hy e => hg (List.mem_append_left _ (by rw [← e]; exact List.mem_map_of_mem hy))
  have hV : ∀ y ∈ L1 ++ L2, y.1 ≠ g := fun y hy e => hg (List.mem_append_right _ (by rw [← e]; exact List.mem_map_of_mem hy))
  refine ⟨fun y hy => ?_, fun y hy => ?_, h.t0, h.m0, below_set2 h.b hw _ _, h.n, hn⟩
  · have e := h.f y hy
    obtain ⟨s0, A0, n0, c0, s1, A1, n1, c1, e0, e1, e2⟩ := e.2.ex
    exact ⟨roff2 e.1 (hF y hy) _ _, ⟨s0, A0, n0, c0, s1, A1, n1, c1, e0, e1.set2 hr hN _ _, e2.set2 hr hN _ _⟩⟩
  · rcases List.mem_cons.1 hy with rfl | hy
    · exact ⟨rset2 hr _ _, h1.set2 hr hN _ _⟩
    · have e := h.v y (List.perm_middle.symm.subset (List.mem_cons_of_mem _ hy))
      exact ⟨roff2 e.1 (hV y hy) _ _, e.2.set2 hr hN _ _⟩
theorem Env.fr {i g : Nat} {s s' p q : Int} {A A' : Option Addr} {n c n' c' : Nat} (h : Env N0 w W F V) (hm : F[i]? = some (g, frV s A n c s' A' n' c', p, q)) : Row W g 43 (fC s A n c s' A' n' c') := h.f.row (List.mem_of_getElem? hm)
theorem Env.fp {i g : Nat} {s s' p q : Int} {A A' : Option Addr} {n c n' c' : Nat} (h : Env N0 w W F V) (hm : F[i]? = some (g, frV s A n c s' A' n' c', p, q)) : IsBig N0 W (bigV s A n c) p := h.f.p (List.mem_of_getElem? hm)
theorem Env.fq {i g : Nat} {s s' p q : Int} {A A' : Option Addr} {n c n' c' : Nat} (h : Env N0 w W F V) (hm : F[i]? = some (g, frV s A n c s' A' n' c', p, q)) : IsBig N0 W (bigV s' A' n' c') q := h.f.q (List.mem_of_getElem? hm)
theorem Env.vr {i g : Nat} {s z : Int} {A : Option Addr} {n c : Nat} (h : Env N0 w W F V) (hm : V[i]? = some (g, bigV s A n c, z)) : Row W g 24 #[.int .i64 s, .slice A n c] := h.v.row (List.mem_of_getElem? hm)
theorem Env.vz {i g : Nat} {v : Value} {z : Int} (h : Env N0 w W F V) (hm : V[i]? = some (g, v, z)) : IsBig N0 W v z := (h.v _ (List.mem_of_getElem? hm)).2
theorem Env.sub {F' : List (Nat × Value × Int × Int)} {V' : List (Nat × Value × Int)} (h : Env N0 w W F V) (hF : F'.Sublist F) (hV : V'.Sublist V) : Env N0 w W F' V' :=
  ⟨fun y hy => h.f y (hF.subset hy), fun y hy => h.v y (hV.subset hy), h.t0, h.m0, h.b, h.n, h.nd.sublist (List.Sublist.append (hF.map _) (hV.map _))⟩
end
theorem keep_set2 {W X : World} {g p j : Nat} {u v x : Value} (h : X.cell? ⟨p, j, none⟩ = some x) (hp : p < W.heap.size) (hg : W.heap.size ≤ g) : ((X.setCell ⟨g, 0, none⟩ u).setCell ⟨g, 1, none⟩ v).cell? ⟨p, j, none⟩ = some x :=
  (set2_keep X g u v p j (by omega)).trans h
theorem keep_set4 {W X : World} {g p j : Nat} {u v u' v' x : Value} (h : X.cell? ⟨p, j, none⟩ = some x) (hp : p < W.heap.size) (hg : W.heap.size ≤ g) : (set4 X g u v u' v').cell? ⟨p, j, none⟩ = some x := by
  have n : ∀ k, (⟨g, k, none⟩ : Addr) ≠ ⟨p, j, none⟩ := fun k e => by injection e with e1; omega
  exact (World.cell?_setCell_other _ _ _ _ (n _)).trans ((World.cell?_setCell_other _ _ _ _ (n _)).trans ((World.cell?_setCell_other _ _ _ _ (n _)).trans ((World.cell?_setCell_other _ _ _ _ (n _)).trans h)))
abbrev ba1 (w : World) (p : Array Value) : World := w.alloc (.cells p 43)
theorem ba1_0 (w : World) (p : Array Value) : Row (ba1 w p) w.heap.size 43 p := Row.new w _ _
theorem ba1_b (w : World) (p : Array Value) : Below w.heap.size w (ba1 w p) := Gen.b_alloc (Below.refl _ _)
abbrev ba3 (w : World) (p q r : Array Value) : World := ((w.alloc (.cells p 43)).alloc (.cells q 43)).alloc (.cells r 43)
theorem ba3_0 (w : World) (p q r : Array Value) : Row (ba3 w p q r) w.heap.size 43 p := ((Row.new w _ _).alloc _).alloc _
theorem ba3_1 (w : World) (p q r : Array Value) : Row (ba3 w p q r) (w.heap.size + 1) 43 q := by
  have h := (Row.new (w.alloc (.cells p 43)) 43 q).alloc (.cells r 43)
  rwa [World.size_alloc] at h
theorem ba3_2 (w : World) (p q r : Array Value) : Row (ba3 w p q r) (w.heap.size + 1 + 1) 43 r := by
  have h := Row.new ((w.alloc (.cells p 43)).alloc (.cells q 43)) 43 r
  rwa [World.size_alloc, World.size_alloc] at h
theorem ba3_b (w : World) (p q r : Array Value) : Below w.heap.size w (ba3 w p q r) := Gen.b_alloc (Gen.b_alloc (Gen.b_alloc (Below.refl _ _)))
theorem Env.start {w W : World} {F : List (Nat × Value × Int × Int)} (hF : Fs N0 W F) (ht : PowTab w) (hm : MaxL w) (hb : Below w.heap.size w W) (hn : N0 ≤ w.heap.size) (hd : (F.map (·.1)).Nodup) : Env N0 w W F [] := ⟨hF, (Vs.nil W), ht, hm, hb, hn, (by simpa using hd)⟩
theorem Fs.co {W : World} {L : List (Nat × Value × Int × Int)} {g : Nat} {s s' p q : Int} {A A' : Option Addr} {n c n' c' : Nat} (h : Fs N0 W L) (hr : Row W g 43 (fC s A n c s' A' n' c')) (h1 : IsBig N0 W (bigV s A n c) p) (h2 : IsBig N0 W (bigV s' A' n' c') q) : Fs N0 W ((g, frV s A n c s' A' n' c', p, q) :: L) := fun x hx => by
  rcases List.mem_cons.1 hx with rfl | hx
  · exact ⟨hr, .mk' h1 h2⟩
  · exact h x hx
/-- the parts of an argument that is right, with sizes -/
theorem ArgF.getz {w : World} {s s' : Int} {A A' : Option Addr} {n n' c c' : Nat} {l l' : List Int} (k : Nat) (h : ArgF N0 w (frV s A n c s' A' n' c') n n' s s' l l') (hb : frB s s' l l' = true) (hk : (decide ((n : Int) ≤ (k : Int)) && decide ((n' : Int) ≤ (k : Int))) = true) : ∃ p q, IsBig N0 w (bigV s A n c) (np p q) ∧ IsBig N0 w (bigV s' A' n' c') (nq p q) ∧ Fz p q k k ∧ s = sg p ∧ Rt p q := by
  obtain ⟨p, q, h1, h2, h3, h4, h5, h6⟩ := h.get hb
  rw [Bool.and_eq_true, decide_eq_true_eq, decide_eq_true_eq] at hk
  have e := new_same h3
  refine ⟨p, q, ?_, ?_, ⟨h3.1, ?_, ?_⟩, h4, h3⟩
  · rw [e.1]; exact h1
  · rw [e.2]; exact h2
  · rw [e.1]; exact h5 k (by omega)
  · rw [e.2]; exact h6 k (by omega)
theorem ArgF.getp {w : World} {s s' : Int} {A A' : Option Addr} {n n' c c' : Nat} {l l' : List Int} (k : Nat) (h : ArgF N0 w (frV s A n c s' A' n' c') n n' s s' l l') (hb : frB s s' l l' = true) (hk : (decide ((n : Int) ≤ (k : Int)) && decide ((n' : Int) ≤ (k : Int))) = true) : ∃ p q, IsBig N0 w (bigV s A n c) p ∧ IsBig N0 w (bigV s' A' n' c') q ∧ (Sz k p ∧ Sz k q) ∧ s = sg p ∧ Rt p q := by
  obtain ⟨p, q, h1, h2, h3, h4, h5, h6⟩ := h.get hb
  rw [Bool.and_eq_true, decide_eq_true_eq, decide_eq_true_eq] at hk
  exact ⟨p, q, h1, h2, ⟨h5 k (by omega), h6 k (by omega)⟩, h4, h3⟩
end Go.Proofs.YtnifkianjpjahaaGreatDoor.Bg
