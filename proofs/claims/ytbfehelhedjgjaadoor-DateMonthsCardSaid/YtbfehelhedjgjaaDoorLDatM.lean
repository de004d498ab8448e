/- DateMonths returns true: every day, two numbers of months, and number of days; the table of powers of ten as the text lays it. -/
import Derived.Test.YtbfehelhedjgjaaDoorDatS
namespace Go.Proofs.YtbfehelhedjgjaaDoor.Dat
open Go.ChangeShapes Go.WideShapes Go.ChangeAt Go.RowKit Go.Proofs.YtbfehelhedjgjaaDoor.Cell
set_option linter.unusedVariables false
set_option linter.unusedSimpArgs false

/-- a day of a month, counted from year 0, or its last one -/
def addM (M d : Int) : Int × Int := if 1900 ≤ M / 12 ∧ M / 12 ≤ 2500 ∧ ms M + min d (ll M) - 1 ≤ 200000 then (ms M + min d (ll M) - 1, 0) else (0, 3)
theorem addR_M (y : Int) (m : Nat) (d n : Int) : addR y m d n = addM (12 * y + m - 1 + n) d := rfl
theorem addM_01 (M d : Int) {x e : Int} (h : addM M d = (x, e)) : (e = 0 ∧ 1900 ≤ M / 12 ∧ x = ms M + min d (ll M) - 1 ∧ x ≤ 200000) ∨ (x = 0 ∧ e = 3) := by
  unfold addM at h
  split at h
  · rename_i c
    obtain rfl : _ = x := by injection h
    obtain rfl : 0 = e := by injection h
    exact .inl ⟨rfl, c.1, rfl, c.2.2⟩
  · obtain rfl : 0 = x := by injection h
    obtain rfl : 3 = e := by injection h
    exact .inr ⟨rfl, rfl⟩
theorem ms_pos {M : Int} (h : 1900 ≤ M / 12) : 0 ≤ ms M := by
  have := ms_lt (M := 22799) (N := M) (by decide) (by omega)
  have e : ms 22799 + ll 22799 = 0 := by decide
  omega
theorem pt_M {M d x : Int} (h0 : 1900 ≤ M / 12) (hd : 1 ≤ d) (hx : x = ms M + min d (ll M) - 1) : Pt x (M / 12) ((M % 12).toNat + 1) (min d (ll M)) := by
  have := ll_in M
  rw [hx]
  exact pt_ms h0 (by omega) (by omega)
theorem amO_M {day y n : Int} {m : Nat} {d : Int} (hp : Pt day y m d) (h0 : 0 ≤ day) (h1 : day ≤ 200000) (n0 : -10000 ≤ n) (n1 : n ≤ 10000) : amO day n = addM (12 * y + m - 1 + n) d := by
  rw [amO_of hp h0 h1 n0 n1, addR_M]
/-- later days do not come before -/
theorem addM_le {day y : Int} {m : Nat} {d : Int} {day' y' : Int} {m' : Nat} {d' : Int} (hp : Pt day y m d) (hp' : Pt day' y' m' d') (h : day ≤ day') {n x x' : Int}
    (hx : addM (12 * y + m - 1 + n) d = (x, 0)) (hx' : addM (12 * y' + m' - 1 + n) d' = (x', 0)) : x ≤ x' := by
  obtain ⟨e1, l1⟩ := hp.ms
  obtain ⟨e2, l2⟩ := hp'.ms
  have d0 := hp.d0
  have d0' := hp'.d0
  obtain ⟨I, hI⟩ : ∃ I, 12 * y + (m : Int) - 1 = I := ⟨_, rfl⟩
  obtain ⟨J, hJ⟩ : ∃ I, 12 * y' + (m' : Int) - 1 = I := ⟨_, rfl⟩
  have I0 := pt_12 hp
  have J0 := pt_12 hp'
  rw [hI] at e1 l1 hx I0
  rw [hJ] at e2 l2 hx' J0
  obtain ⟨_, a, b, _⟩ | ⟨_, c⟩ := addM_01 _ _ hx
  · obtain ⟨_, a', b', _⟩ | ⟨_, c⟩ := addM_01 _ _ hx'
    · have hij : I ≤ J := by
        by_cases c : I ≤ J
        · exact c
        · have := ms_lt (M := J) (N := I) (by omega) (by omega)
          omega
      have k1 := ll_in (I + n)
      have k2 := ll_in (J + n)
      by_cases c : I = J
      · subst c
        omega
      · have := ms_lt (M := I + n) (N := J + n) (by omega) (by omega)
        omega
    · cases c
  · cases c
theorem amO_bad {day n x e : Int} (h : amO day n = (x, e)) (he : e ≠ 0) : 0 = x ∧ 3 = e := by
  by_cases hd : 0 ≤ day ∧ day ≤ 200000
  · by_cases hn : n < -10000 ∨ 10000 < n
    · rw [amO_far hn] at h
      exact ⟨by injection h, by injection h⟩
    · obtain ⟨y, m, d, hp⟩ := pt_ex day hd.1 hd.2
      rw [amO_M hp hd.1 hd.2 (by omega) (by omega)] at h
      obtain ⟨c, _⟩ | ⟨a, b⟩ := addM_01 _ _ h
      · exact absurd c he
      · exact ⟨a.symm, b.symm⟩
  · rw [amO_off (show dy day = false from decide_eq_false hd)] at h
    exact ⟨by injection h, by injection h⟩
theorem amO_in {day n x : Int} (h : amO day n = (x, 0)) : 0 ≤ day ∧ day ≤ 200000 := by
  by_cases hd : 0 ≤ day ∧ day ≤ 200000
  · exact hd
  · rw [amO_off (show dy day = false from decide_eq_false hd)] at h
    cases h
theorem tmod_in (n : Int) : -499 ≤ n.tmod 500 ∧ n.tmod 500 ≤ 499 := by
  have a := Int.tmod_lt_of_pos n (show (0 : Int) < 500 by decide)
  have b := Int.lt_tmod_of_pos n (show (0 : Int) < 500 by decide)
  omega
/-- what the law asks of the days -/
structure Mth (day r s lt x : Int) (y : Int) (m : Nat) (d p : Int) (q : Nat) (z : Int) : Prop where
  h0 : 0 ≤ day
  h1 : day ≤ 200000
  x0 : 0 ≤ x
  x1 : x ≤ 200000
  P : Pt day y m d
  Q : Pt x p q z
  E : 12 * p + (q : Int) = 12 * y + (m : Int) + r
  Z : z = min d (lst p q)
  L : ∀ nx, amO (day + lt) r = (nx, 0) → x ≤ nx
  A : d ≤ 28 → amO x s = amO day (r + s)
  B : d ≤ 28 → amO x (-r) = (day, 0)
theorem mth_of {day r s lt x : Int} (r0 : -499 ≤ r) (r1 : r ≤ 499) (s0 : -499 ≤ s) (s1 : s ≤ 499) (l0 : 0 ≤ lt) (h : amO day r = (x, 0)) : ∃ y m d p q z, Mth day r s lt x y m d p q z := by
  obtain ⟨h0, h1⟩ := amO_in h
  obtain ⟨y, m, d, hp⟩ := pt_ex day h0 h1
  have hm0 := hp.m0
  have hm1 := hp.m1
  have d0 := hp.d0
  obtain ⟨e1, e2⟩ := hp.ms
  have p12 := pt_12 hp
  have h' := h
  rw [amO_M hp h0 h1 (by omega) (by omega)] at h'
  obtain ⟨I, hI⟩ : ∃ I, 12 * y + (m : Int) - 1 = I := ⟨_, rfl⟩
  obtain ⟨_, a, b, x1⟩ | ⟨_, c⟩ := addM_01 _ _ h'
  · have hq := pt_M a hp.d0 b
    have kl := ll_in (12 * y + (m : Int) - 1 + r)
    have kz := ms_pos a
    have x0 : 0 ≤ x := by omega
    have q1 : (12 * ((12 * y + (m : Int) - 1 + r) / 12) + (((12 * y + (m : Int) - 1 + r) % 12).toNat + 1 : Nat)) = 12 * y + (m : Int) + r := by omega
    have hll : lst ((12 * y + (m : Int) - 1 + r) / 12) (((12 * y + (m : Int) - 1 + r) % 12).toNat + 1 : Nat) = ll (12 * y + (m : Int) - 1 + r) := by
      unfold ll
      rw [show ((((12 * y + (m : Int) - 1 + r) % 12).toNat + 1 : Nat) : Int) = (12 * y + (m : Int) - 1 + r) % 12 + 1 by omega]
    refine ⟨y, m, d, _, _, _, h0, h1, x0, x1, hp, hq, q1, by rw [hll], fun nx hn => ?_, fun hd => ?_, fun hd => ?_⟩
    · obtain ⟨g0, g1⟩ := amO_in hn
      obtain ⟨y', m', d', hp'⟩ := pt_ex (day + lt) g0 g1
      rw [amO_M hp' g0 g1 (by omega) (by omega)] at hn
      exact addM_le hp hp' (by omega) h' hn
    · have hmin : min d (ll (12 * y + (m : Int) - 1 + r)) = d := by omega
      rw [hmin] at hq
      rw [amO_M hq x0 x1 (by omega) (by omega), amO_M hp h0 h1 (by omega) (by omega)]
      congr 1
      omega
    · have hmin : min d (ll (12 * y + (m : Int) - 1 + r)) = d := by omega
      rw [hmin] at hq
      rw [amO_M hq x0 x1 (by omega) (by omega), show 12 * ((12 * y + (m : Int) - 1 + r) / 12) + (((12 * y + (m : Int) - 1 + r) % 12).toNat + 1 : Nat) - 1 + -r = 12 * y + (m : Int) - 1 by omega]
      have k := ll_in (12 * y + (m : Int) - 1)
      have hmin2 : min d (ll (12 * y + (m : Int) - 1)) = d := by omega
      have hy0 := hp.y0
      have hy1 := pt_hi h1 hp
      unfold addM
      rw [hmin2, if_pos ⟨by omega, by omega, by omega⟩, ← e1]
  · cases c

set_option maxRecDepth 100000 in
set_option maxHeartbeats 4000000 in
theorem dmonths_a (day n mo lt : Int) (w : World) (hT : PowTab w) (n0 : -32768 ≤ n) (n1 : n ≤ 32767) (h : amO day (n.tmod 500) = (0, 3)) :
    Calls Tryd.prog 5 #[.int .i64 day, .int .i16 n, .int .i16 mo, .int .u8 lt] w fun e w' => e = .returned (.bool true) ∧ Below w.heap.size w w' := by
  have HT := Lib.hid hT
  have H := Lib.hid h
  clear hT h
  go_enter Tryd.func5, Tryd.ntmps5
  go_wp2_with (fail)
  go_must (refine (small_any _ HT.out).mono ?_)
  rintro e w1 ⟨rfl, hb1⟩
  go_wp2_with (fail)
  go_must (refine (am_is _ H.out).mono ?_)
  rintro e w2 ⟨rfl, rfl⟩
  go_wp2
  go_ret
  exact ⟨rfl, hb1⟩

set_option maxRecDepth 100000 in
set_option maxHeartbeats 4000000 in
theorem dmonths_b (day n mo lt : Int) (y : Int) (m : Nat) (d p : Int) (q : Nat) (z x b i nx h : Int) (w : World) (hT : PowTab w) (n0 : -32768 ≤ n) (n1 : n ≤ 32767) (m0 : -32768 ≤ mo) (m1 : mo ≤ 32767) (l0 : 0 ≤ lt) (l1 : lt ≤ 255)
    (hA : amO day (n.tmod 500) = (x, 0)) (K : Mth day (n.tmod 500) (mo.tmod 500) lt x y m d p q z) (hN : amO (day + lt) (n.tmod 500) = (nx, h)) (hB : amO x (mo.tmod 500) = (b, i)) (hh : h = 0) (hd : 28 < d) (hdl : d ≤ lst p q) :
    Calls Tryd.prog 5 #[.int .i64 day, .int .i16 n, .int .i16 mo, .int .u8 lt] w fun e w' => e = .returned (.bool true) ∧ Below w.heap.size w w' := by
  have HT := Lib.hid hT
  have HA := Lib.hid hA
  have HN := Lib.hid hN
  have HB := Lib.hid hB
  have HK := Lib.hid K
  have h0 := K.h0
  have h1 := K.h1
  have y0 := K.P.y0
  have y1 := pt_hi h1 K.P
  have mm0 := K.P.m0
  have mm1 := K.P.m1
  have d0 := K.P.d0
  have dd1 : d ≤ 31 := by have := K.P.d1; have := lst_in y m (by omega) (by omega); omega
  have x0 := K.x0
  have x1 := K.x1
  have p0 := K.Q.y0
  have p1 := pt_hi x1 K.Q
  have q0 := K.Q.m0
  have q1 := K.Q.m1
  have hE := K.E
  obtain ⟨L, hL⟩ : ∃ L, lst p q = L := ⟨_, rfl⟩
  have L01 := lst_in p q (by omega) (by omega)
  rw [hL] at L01
  obtain ⟨L0, L1⟩ := L01
  have hZ := K.Z
  rw [hL] at hZ
  have HL := Lib.hid hL
  obtain ⟨r0, r1⟩ := tmod_in n
  obtain ⟨s0, s1⟩ := tmod_in mo
  have E1 : 12 * p + (q : Int) ≤ 12 * y + (m : Int) + n.tmod 500 := by omega
  have E2 : 12 * y + (m : Int) + n.tmod 500 ≤ 12 * p + (q : Int) := by omega
  subst hh
  have hxn : x ≤ nx := K.L nx hN
  obtain rfl : d = z := by rw [hL] at hdl; omega
  rw [hL] at hdl
  clear hT hA K hN hB hE hL hZ
  go_enter Tryd.func5, Tryd.ntmps5
  go_wp2_with (fail)
  go_must (refine (small_any _ HT.out).mono ?_)
  rintro e w1 ⟨rfl, hb1⟩
  go_wp2_with (fail)
  go_must (refine (am_is _ HA.out).mono ?_)
  rintro e w2 ⟨rfl, rfl⟩
  go_wp2_with (fail)
  go_must (refine (parts_is _ h0 h1 HK.out.P).mono ?_)
  rintro e w2 ⟨rfl, rfl⟩
  go_wp2_with (fail)
  go_must (refine (parts_is _ x0 x1 HK.out.Q).mono ?_)
  rintro e w2 ⟨rfl, rfl⟩
  go_wp2_with (fail)
  go_must (refine (last_is _ (by omega) (by omega) HL.out).mono ?_)
  rintro e w2 ⟨rfl, rfl⟩
  go_wp2_with (fail)
  go_must (refine (am_is _ HN.out).mono ?_)
  rintro e w2 ⟨rfl, rfl⟩
  go_wp2
  go_ret
  exact ⟨rfl, hb1⟩

set_option maxRecDepth 100000 in
set_option maxHeartbeats 4000000 in
theorem dmonths_c (day n mo lt : Int) (y : Int) (m : Nat) (d p : Int) (q : Nat) (z x b i nx h : Int) (w : World) (hT : PowTab w) (n0 : -32768 ≤ n) (n1 : n ≤ 32767) (m0 : -32768 ≤ mo) (m1 : mo ≤ 32767) (l0 : 0 ≤ lt) (l1 : lt ≤ 255)
    (hA : amO day (n.tmod 500) = (x, 0)) (K : Mth day (n.tmod 500) (mo.tmod 500) lt x y m d p q z) (hN : amO (day + lt) (n.tmod 500) = (nx, h)) (hB : amO x (mo.tmod 500) = (b, i)) (hh : h = 0) (hd : 28 < d) (hdl : lst p q < d) :
    Calls Tryd.prog 5 #[.int .i64 day, .int .i16 n, .int .i16 mo, .int .u8 lt] w fun e w' => e = .returned (.bool true) ∧ Below w.heap.size w w' := by
  have HT := Lib.hid hT
  have HA := Lib.hid hA
  have HN := Lib.hid hN
  have HB := Lib.hid hB
  have HK := Lib.hid K
  have h0 := K.h0
  have h1 := K.h1
  have y0 := K.P.y0
  have y1 := pt_hi h1 K.P
  have mm0 := K.P.m0
  have mm1 := K.P.m1
  have d0 := K.P.d0
  have dd1 : d ≤ 31 := by have := K.P.d1; have := lst_in y m (by omega) (by omega); omega
  have x0 := K.x0
  have x1 := K.x1
  have p0 := K.Q.y0
  have p1 := pt_hi x1 K.Q
  have q0 := K.Q.m0
  have q1 := K.Q.m1
  have hE := K.E
  obtain ⟨L, hL⟩ : ∃ L, lst p q = L := ⟨_, rfl⟩
  have L01 := lst_in p q (by omega) (by omega)
  rw [hL] at L01
  obtain ⟨L0, L1⟩ := L01
  have hZ := K.Z
  rw [hL] at hZ
  have HL := Lib.hid hL
  obtain ⟨r0, r1⟩ := tmod_in n
  obtain ⟨s0, s1⟩ := tmod_in mo
  have E1 : 12 * p + (q : Int) ≤ 12 * y + (m : Int) + n.tmod 500 := by omega
  have E2 : 12 * y + (m : Int) + n.tmod 500 ≤ 12 * p + (q : Int) := by omega
  subst hh
  have hxn : x ≤ nx := K.L nx hN
  obtain rfl : L = z := by rw [hL] at hdl; omega
  rw [hL] at hdl
  clear hT hA K hN hB hE hL hZ
  go_enter Tryd.func5, Tryd.ntmps5
  go_wp2_with (fail)
  go_must (refine (small_any _ HT.out).mono ?_)
  rintro e w1 ⟨rfl, hb1⟩
  go_wp2_with (fail)
  go_must (refine (am_is _ HA.out).mono ?_)
  rintro e w2 ⟨rfl, rfl⟩
  go_wp2_with (fail)
  go_must (refine (parts_is _ h0 h1 HK.out.P).mono ?_)
  rintro e w2 ⟨rfl, rfl⟩
  go_wp2_with (fail)
  go_must (refine (parts_is _ x0 x1 HK.out.Q).mono ?_)
  rintro e w2 ⟨rfl, rfl⟩
  go_wp2_with (fail)
  go_must (refine (last_is _ (by omega) (by omega) HL.out).mono ?_)
  rintro e w2 ⟨rfl, rfl⟩
  go_wp2_with (fail)
  go_must (refine (am_is _ HN.out).mono ?_)
  rintro e w2 ⟨rfl, rfl⟩
  go_wp2
  go_ret
  exact ⟨rfl, hb1⟩

set_option maxRecDepth 100000 in
set_option maxHeartbeats 4000000 in
theorem dmonths_d (day n mo lt : Int) (y : Int) (m : Nat) (d p : Int) (q : Nat) (z x b i nx h : Int) (w : World) (hT : PowTab w) (n0 : -32768 ≤ n) (n1 : n ≤ 32767) (m0 : -32768 ≤ mo) (m1 : mo ≤ 32767) (l0 : 0 ≤ lt) (l1 : lt ≤ 255)
    (hA : amO day (n.tmod 500) = (x, 0)) (K : Mth day (n.tmod 500) (mo.tmod 500) lt x y m d p q z) (hN : amO (day + lt) (n.tmod 500) = (nx, h)) (hB : amO x (mo.tmod 500) = (b, i)) (hh : h = 3) (hd : 28 < d) (hdl : d ≤ lst p q) :
    Calls Tryd.prog 5 #[.int .i64 day, .int .i16 n, .int .i16 mo, .int .u8 lt] w fun e w' => e = .returned (.bool true) ∧ Below w.heap.size w w' := by
  have HT := Lib.hid hT
  have HA := Lib.hid hA
  have HN := Lib.hid hN
  have HB := Lib.hid hB
  have HK := Lib.hid K
  have h0 := K.h0
  have h1 := K.h1
  have y0 := K.P.y0
  have y1 := pt_hi h1 K.P
  have mm0 := K.P.m0
  have mm1 := K.P.m1
  have d0 := K.P.d0
  have dd1 : d ≤ 31 := by have := K.P.d1; have := lst_in y m (by omega) (by omega); omega
  have x0 := K.x0
  have x1 := K.x1
  have p0 := K.Q.y0
  have p1 := pt_hi x1 K.Q
  have q0 := K.Q.m0
  have q1 := K.Q.m1
  have hE := K.E
  obtain ⟨L, hL⟩ : ∃ L, lst p q = L := ⟨_, rfl⟩
  have L01 := lst_in p q (by omega) (by omega)
  rw [hL] at L01
  obtain ⟨L0, L1⟩ := L01
  have hZ := K.Z
  rw [hL] at hZ
  have HL := Lib.hid hL
  obtain ⟨r0, r1⟩ := tmod_in n
  obtain ⟨s0, s1⟩ := tmod_in mo
  have E1 : 12 * p + (q : Int) ≤ 12 * y + (m : Int) + n.tmod 500 := by omega
  have E2 : 12 * y + (m : Int) + n.tmod 500 ≤ 12 * p + (q : Int) := by omega
  subst hh
  obtain rfl : d = z := by rw [hL] at hdl; omega
  rw [hL] at hdl
  clear hT hA K hN hB hE hL hZ
  go_enter Tryd.func5, Tryd.ntmps5
  go_wp2_with (fail)
  go_must (refine (small_any _ HT.out).mono ?_)
  rintro e w1 ⟨rfl, hb1⟩
  go_wp2_with (fail)
  go_must (refine (am_is _ HA.out).mono ?_)
  rintro e w2 ⟨rfl, rfl⟩
  go_wp2_with (fail)
  go_must (refine (parts_is _ h0 h1 HK.out.P).mono ?_)
  rintro e w2 ⟨rfl, rfl⟩
  go_wp2_with (fail)
  go_must (refine (parts_is _ x0 x1 HK.out.Q).mono ?_)
  rintro e w2 ⟨rfl, rfl⟩
  go_wp2_with (fail)
  go_must (refine (last_is _ (by omega) (by omega) HL.out).mono ?_)
  rintro e w2 ⟨rfl, rfl⟩
  go_wp2_with (fail)
  go_must (refine (am_is _ HN.out).mono ?_)
  rintro e w2 ⟨rfl, rfl⟩
  go_wp2
  go_ret
  exact ⟨rfl, hb1⟩

set_option maxRecDepth 100000 in
set_option maxHeartbeats 4000000 in
theorem dmonths_e (day n mo lt : Int) (y : Int) (m : Nat) (d p : Int) (q : Nat) (z x b i nx h : Int) (w : World) (hT : PowTab w) (n0 : -32768 ≤ n) (n1 : n ≤ 32767) (m0 : -32768 ≤ mo) (m1 : mo ≤ 32767) (l0 : 0 ≤ lt) (l1 : lt ≤ 255)
    (hA : amO day (n.tmod 500) = (x, 0)) (K : Mth day (n.tmod 500) (mo.tmod 500) lt x y m d p q z) (hN : amO (day + lt) (n.tmod 500) = (nx, h)) (hB : amO x (mo.tmod 500) = (b, i)) (hh : h = 3) (hd : 28 < d) (hdl : lst p q < d) :
    Calls Tryd.prog 5 #[.int .i64 day, .int .i16 n, .int .i16 mo, .int .u8 lt] w fun e w' => e = .returned (.bool true) ∧ Below w.heap.size w w' := by
  have HT := Lib.hid hT
  have HA := Lib.hid hA
  have HN := Lib.hid hN
  have HB := Lib.hid hB
  have HK := Lib.hid K
  have h0 := K.h0
  have h1 := K.h1
  have y0 := K.P.y0
  have y1 := pt_hi h1 K.P
  have mm0 := K.P.m0
  have mm1 := K.P.m1
  have d0 := K.P.d0
  have dd1 : d ≤ 31 := by have := K.P.d1; have := lst_in y m (by omega) (by omega); omega
  have x0 := K.x0
  have x1 := K.x1
  have p0 := K.Q.y0
  have p1 := pt_hi x1 K.Q
  have q0 := K.Q.m0
  have q1 := K.Q.m1
  have hE := K.E
  obtain ⟨L, hL⟩ : ∃ L, lst p q = L := ⟨_, rfl⟩
  have L01 := lst_in p q (by omega) (by omega)
  rw [hL] at L01
  obtain ⟨L0, L1⟩ := L01
  have hZ := K.Z
  rw [hL] at hZ
  have HL := Lib.hid hL
  obtain ⟨r0, r1⟩ := tmod_in n
  obtain ⟨s0, s1⟩ := tmod_in mo
  have E1 : 12 * p + (q : Int) ≤ 12 * y + (m : Int) + n.tmod 500 := by omega
  have E2 : 12 * y + (m : Int) + n.tmod 500 ≤ 12 * p + (q : Int) := by omega
  subst hh
  obtain rfl : L = z := by rw [hL] at hdl; omega
  rw [hL] at hdl
  clear hT hA K hN hB hE hL hZ
  go_enter Tryd.func5, Tryd.ntmps5
  go_wp2_with (fail)
  go_must (refine (small_any _ HT.out).mono ?_)
  rintro e w1 ⟨rfl, hb1⟩
  go_wp2_with (fail)
  go_must (refine (am_is _ HA.out).mono ?_)
  rintro e w2 ⟨rfl, rfl⟩
  go_wp2_with (fail)
  go_must (refine (parts_is _ h0 h1 HK.out.P).mono ?_)
  rintro e w2 ⟨rfl, rfl⟩
  go_wp2_with (fail)
  go_must (refine (parts_is _ x0 x1 HK.out.Q).mono ?_)
  rintro e w2 ⟨rfl, rfl⟩
  go_wp2_with (fail)
  go_must (refine (last_is _ (by omega) (by omega) HL.out).mono ?_)
  rintro e w2 ⟨rfl, rfl⟩
  go_wp2_with (fail)
  go_must (refine (am_is _ HN.out).mono ?_)
  rintro e w2 ⟨rfl, rfl⟩
  go_wp2
  go_ret
  exact ⟨rfl, hb1⟩

set_option maxRecDepth 100000 in
set_option maxHeartbeats 4000000 in
theorem dmonths_f (day n mo lt : Int) (y : Int) (m : Nat) (d p : Int) (q : Nat) (z x b i nx h : Int) (w : World) (hT : PowTab w) (n0 : -32768 ≤ n) (n1 : n ≤ 32767) (m0 : -32768 ≤ mo) (m1 : mo ≤ 32767) (l0 : 0 ≤ lt) (l1 : lt ≤ 255)
    (hA : amO day (n.tmod 500) = (x, 0)) (K : Mth day (n.tmod 500) (mo.tmod 500) lt x y m d p q z) (hN : amO (day + lt) (n.tmod 500) = (nx, h)) (hB : amO x (mo.tmod 500) = (b, i)) (hh : h = 0) (hd : d ≤ 28) (hdl : d ≤ lst p q) :
    Calls Tryd.prog 5 #[.int .i64 day, .int .i16 n, .int .i16 mo, .int .u8 lt] w fun e w' => e = .returned (.bool true) ∧ Below w.heap.size w w' := by
  have HT := Lib.hid hT
  have HA := Lib.hid hA
  have HN := Lib.hid hN
  have HB := Lib.hid hB
  have HK := Lib.hid K
  have h0 := K.h0
  have h1 := K.h1
  have y0 := K.P.y0
  have y1 := pt_hi h1 K.P
  have mm0 := K.P.m0
  have mm1 := K.P.m1
  have d0 := K.P.d0
  have dd1 : d ≤ 31 := by have := K.P.d1; have := lst_in y m (by omega) (by omega); omega
  have x0 := K.x0
  have x1 := K.x1
  have p0 := K.Q.y0
  have p1 := pt_hi x1 K.Q
  have q0 := K.Q.m0
  have q1 := K.Q.m1
  have hE := K.E
  obtain ⟨L, hL⟩ : ∃ L, lst p q = L := ⟨_, rfl⟩
  have L01 := lst_in p q (by omega) (by omega)
  rw [hL] at L01
  obtain ⟨L0, L1⟩ := L01
  have hZ := K.Z
  rw [hL] at hZ
  have HL := Lib.hid hL
  obtain ⟨r0, r1⟩ := tmod_in n
  obtain ⟨s0, s1⟩ := tmod_in mo
  have E1 : 12 * p + (q : Int) ≤ 12 * y + (m : Int) + n.tmod 500 := by omega
  have E2 : 12 * y + (m : Int) + n.tmod 500 ≤ 12 * p + (q : Int) := by omega
  subst hh
  have hxn : x ≤ nx := K.L nx hN
  obtain rfl : d = z := by rw [hL] at hdl; omega
  have HC := Lib.hid (show amO day (n.tmod 500 + mo.tmod 500) = (b, i) from by rw [← K.A hd]; exact hB)
  have HD := Lib.hid (K.B hd)
  rw [hL] at hdl
  clear hT hA K hN hB hE hL hZ
  go_enter Tryd.func5, Tryd.ntmps5
  go_wp2_with (fail)
  go_must (refine (small_any _ HT.out).mono ?_)
  rintro e w1 ⟨rfl, hb1⟩
  go_wp2_with (fail)
  go_must (refine (am_is _ HA.out).mono ?_)
  rintro e w2 ⟨rfl, rfl⟩
  go_wp2_with (fail)
  go_must (refine (parts_is _ h0 h1 HK.out.P).mono ?_)
  rintro e w2 ⟨rfl, rfl⟩
  go_wp2_with (fail)
  go_must (refine (parts_is _ x0 x1 HK.out.Q).mono ?_)
  rintro e w2 ⟨rfl, rfl⟩
  go_wp2_with (fail)
  go_must (refine (last_is _ (by omega) (by omega) HL.out).mono ?_)
  rintro e w2 ⟨rfl, rfl⟩
  go_wp2_with (fail)
  go_must (refine (am_is _ HN.out).mono ?_)
  rintro e w2 ⟨rfl, rfl⟩
  go_wp2_with (fail)
  go_must (refine (am_is _ HB.out).mono ?_)
  rintro e w2 ⟨rfl, rfl⟩
  go_wp2_with (fail)
  go_must (refine (am_is _ HC.out).mono ?_)
  rintro e w2 ⟨rfl, rfl⟩
  go_wp2_with (fail)
  go_must (refine (am_is _ HD.out).mono ?_)
  rintro e w2 ⟨rfl, rfl⟩
  go_wp2
  go_ret
  exact ⟨rfl, hb1⟩

set_option maxRecDepth 100000 in
set_option maxHeartbeats 4000000 in
theorem dmonths_g (day n mo lt : Int) (y : Int) (m : Nat) (d p : Int) (q : Nat) (z x b i nx h : Int) (w : World) (hT : PowTab w) (n0 : -32768 ≤ n) (n1 : n ≤ 32767) (m0 : -32768 ≤ mo) (m1 : mo ≤ 32767) (l0 : 0 ≤ lt) (l1 : lt ≤ 255)
    (hA : amO day (n.tmod 500) = (x, 0)) (K : Mth day (n.tmod 500) (mo.tmod 500) lt x y m d p q z) (hN : amO (day + lt) (n.tmod 500) = (nx, h)) (hB : amO x (mo.tmod 500) = (b, i)) (hh : h = 3) (hd : d ≤ 28) (hdl : d ≤ lst p q) :
    Calls Tryd.prog 5 #[.int .i64 day, .int .i16 n, .int .i16 mo, .int .u8 lt] w fun e w' => e = .returned (.bool true) ∧ Below w.heap.size w w' := by
  have HT := Lib.hid hT
  have HA := Lib.hid hA
  have HN := Lib.hid hN
  have HB := Lib.hid hB
  have HK := Lib.hid K
  have h0 := K.h0
  have h1 := K.h1
  have y0 := K.P.y0
  have y1 := pt_hi h1 K.P
  have mm0 := K.P.m0
  have mm1 := K.P.m1
  have d0 := K.P.d0
  have dd1 : d ≤ 31 := by have := K.P.d1; have := lst_in y m (by omega) (by omega); omega
  have x0 := K.x0
  have x1 := K.x1
  have p0 := K.Q.y0
  have p1 := pt_hi x1 K.Q
  have q0 := K.Q.m0
  have q1 := K.Q.m1
  have hE := K.E
  obtain ⟨L, hL⟩ : ∃ L, lst p q = L := ⟨_, rfl⟩
  have L01 := lst_in p q (by omega) (by omega)
  rw [hL] at L01
  obtain ⟨L0, L1⟩ := L01
  have hZ := K.Z
  rw [hL] at hZ
  have HL := Lib.hid hL
  obtain ⟨r0, r1⟩ := tmod_in n
  obtain ⟨s0, s1⟩ := tmod_in mo
  have E1 : 12 * p + (q : Int) ≤ 12 * y + (m : Int) + n.tmod 500 := by omega
  have E2 : 12 * y + (m : Int) + n.tmod 500 ≤ 12 * p + (q : Int) := by omega
  subst hh
  obtain rfl : d = z := by rw [hL] at hdl; omega
  have HC := Lib.hid (show amO day (n.tmod 500 + mo.tmod 500) = (b, i) from by rw [← K.A hd]; exact hB)
  have HD := Lib.hid (K.B hd)
  rw [hL] at hdl
  clear hT hA K hN hB hE hL hZ
  go_enter Tryd.func5, Tryd.ntmps5
  go_wp2_with (fail)
  go_must (refine (small_any _ HT.out).mono ?_)
  rintro e w1 ⟨rfl, hb1⟩
  go_wp2_with (fail)
  go_must (refine (am_is _ HA.out).mono ?_)
  rintro e w2 ⟨rfl, rfl⟩
  go_wp2_with (fail)
  go_must (refine (parts_is _ h0 h1 HK.out.P).mono ?_)
  rintro e w2 ⟨rfl, rfl⟩
  go_wp2_with (fail)
  go_must (refine (parts_is _ x0 x1 HK.out.Q).mono ?_)
  rintro e w2 ⟨rfl, rfl⟩
  go_wp2_with (fail)
  go_must (refine (last_is _ (by omega) (by omega) HL.out).mono ?_)
  rintro e w2 ⟨rfl, rfl⟩
  go_wp2_with (fail)
  go_must (refine (am_is _ HN.out).mono ?_)
  rintro e w2 ⟨rfl, rfl⟩
  go_wp2_with (fail)
  go_must (refine (am_is _ HB.out).mono ?_)
  rintro e w2 ⟨rfl, rfl⟩
  go_wp2_with (fail)
  go_must (refine (am_is _ HC.out).mono ?_)
  rintro e w2 ⟨rfl, rfl⟩
  go_wp2_with (fail)
  go_must (refine (am_is _ HD.out).mono ?_)
  rintro e w2 ⟨rfl, rfl⟩
  go_wp2
  go_ret
  exact ⟨rfl, hb1⟩
theorem dmonths_any (day n mo lt : Int) (w : World) (hT : PowTab w) (g1 : (Lit.int .i16 n).wf = true) (g2 : (Lit.int .i16 mo).wf = true) (g3 : (Lit.int .u8 lt).wf = true) :
    Calls Tryd.prog 5 #[.int .i64 day, .int .i16 n, .int .i16 mo, .int .u8 lt] w fun e w' => e = .returned (.bool true) ∧ Below w.heap.size w w' := by
  obtain ⟨n0, n1⟩ := bounds_i16 g1
  obtain ⟨m0, m1⟩ := bounds_i16 g2
  obtain ⟨l0, l1⟩ := bounds_u8 g3
  obtain ⟨x, e, hx⟩ : ∃ x e, amO day (n.tmod 500) = (x, e) := ⟨_, _, rfl⟩
  by_cases he : e = 0
  · subst he
    have t1 := tmod_in n
    have t2 := tmod_in mo
    obtain ⟨y, m, d, p, q, z, K⟩ := mth_of (s := mo.tmod 500) (lt := lt) t1.1 t1.2 t2.1 t2.2 l0 hx
    obtain ⟨nx, h, hn⟩ : ∃ x e, amO (day + lt) (n.tmod 500) = (x, e) := ⟨_, _, rfl⟩
    obtain ⟨b, i, hb⟩ : ∃ u v, amO x (mo.tmod 500) = (u, v) := ⟨_, _, rfl⟩
    have hh : h = 0 ∨ h = 3 := by
      by_cases c : h = 0
      · exact .inl c
      · exact .inr (amO_bad hn c).2.symm
    have q0 := K.Q.m0
    have q1 := K.Q.m1
    have L01 := lst_in p q (by omega) (by omega)
    by_cases hd : d ≤ 28
    · rcases hh with hh | hh
      · exact dmonths_f day n mo lt y m d p q z x b i nx h w hT n0 n1 m0 m1 l0 l1 hx K hn hb hh hd (by omega)
      · exact dmonths_g day n mo lt y m d p q z x b i nx h w hT n0 n1 m0 m1 l0 l1 hx K hn hb hh hd (by omega)
    · by_cases hl : d ≤ lst p q
      · rcases hh with hh | hh
        · exact dmonths_b day n mo lt y m d p q z x b i nx h w hT n0 n1 m0 m1 l0 l1 hx K hn hb hh (by omega) hl
        · exact dmonths_d day n mo lt y m d p q z x b i nx h w hT n0 n1 m0 m1 l0 l1 hx K hn hb hh (by omega) hl
      · rcases hh with hh | hh
        · exact dmonths_c day n mo lt y m d p q z x b i nx h w hT n0 n1 m0 m1 l0 l1 hx K hn hb hh (by omega) (by omega)
        · exact dmonths_e day n mo lt y m d p q z x b i nx h w hT n0 n1 m0 m1 l0 l1 hx K hn hb hh (by omega) (by omega)
  · obtain ⟨rfl, rfl⟩ := amO_bad hx he
    exact dmonths_a day n mo lt w hT n0 n1 hx
end Go.Proofs.YtbfehelhedjgjaaDoor.Dat
