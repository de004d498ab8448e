/- Facts: FactMore. -/
import Derived.Test.YtcnfonhcgcblgaaFcI
namespace Go.Proofs.Ytcnfonhcgcblgaa.Fc
open Go.Lib Go.ChangeShapes Go.WideShapes Go.ChangeAt Go.RowKit Go.Maps Go.Proofs.Ytcnfonhcgcblgaa.Cell Go.Proofs.Ytcnfonhcgcblgaa.Wd Go.Proofs.Ytcnfonhcgcblgaa.Rk
set_option linter.unusedVariables false
set_option linter.unusedSimpArgs false
theorem any_take' {α : Type} {p : α → Bool} {l : List α} {k : Nat} {x : α} (h : l[k]? = some x) : (l.take (k + 1)).any p = ((l.take k).any p || p x) := by
  rw [List.take_add_one, h, List.any_append]
  simp
theorem frsE_eq (i a b xi xp xv xd : Int) (nm xn : List UInt8) : frsE i nm a b ⟨xi, xn, xp, xv, xd⟩ = (decide (xi = i) && decide (xn = nm) && decide (a < xd) && decide (xd ≤ b)) := rfl
theorem put_field {W : World} {B g n cap : Nat} {l : List Fa} {k o : Nat} {x y : Fa} {u : Value} (h : W.ownsRow B 24 5 (.slice (some ⟨g, 0, none⟩) n cap) n (l.flatMap fcs)) (hx : l[k]? = some x) (ho : o < 5) (hy : fcs y = (fcs x).set o u) :
    (W.setCell ⟨g, k * 5 + o, none⟩ u).ownsRow B 24 5 (.slice (some ⟨g, 0, none⟩) n cap) n ((l.set k y).flatMap fcs) := by
  have := own_set h (j := k * 5 + o) u
  rwa [flat_set fcs5 ho hy l k hx] at this
theorem at_field {W : World} {B g n cap : Nat} {l : List Fa} {k o : Nat} {x : Fa} (h : W.ownsRow B 24 5 (.slice (some ⟨g, 0, none⟩) n cap) n (l.flatMap fcs)) (hn : l.length = n) (hx : l[k]? = some x) (ho : o < 5) :
    (∃ v, W.cell? ⟨g, k * 5 + o, none⟩ = some v) ∧ W.frozen? ⟨g, k * 5 + o, none⟩ = false := by
  obtain ⟨v, hv⟩ := at_ (fcs x) o (by rw [fcs5]; exact ho)
  have hr := Rs.at (rs_own fcs5 hn h) hx hv
  rw [Nat.zero_add] at hr
  exact ⟨⟨v, hr⟩, (own_row h).frozen _⟩
theorem put_all {W : World} {B g n cap : Nat} {l : List Fa} {k : Nat} {x : Fa} (h : W.ownsRow B 24 5 (.slice (some ⟨g, 0, none⟩) n cap) n (l.flatMap fcs)) (hn : l.length = n) (hx : l[k]? = some x) (i : Int) (nm : List UInt8) (p v d : Int) :
    ∃ W1 W2 W3 W4 W5 : World, W.setCell ⟨g, k * 5, none⟩ (.int .i64 i) = W1 ∧ W1.setCell ⟨g, k * 5 + 1, none⟩ (.string ⟨nm.toArray⟩) = W2 ∧ W2.setCell ⟨g, k * 5 + 2, none⟩ (.int .i64 p) = W3 ∧ W3.setCell ⟨g, k * 5 + 3, none⟩ (.int .i64 v) = W4 ∧ W4.setCell ⟨g, k * 5 + 4, none⟩ (.int .i64 d) = W5 ∧
      (∃ z, W.cell? ⟨g, k * 5, none⟩ = some z) ∧ W.frozen? ⟨g, k * 5, none⟩ = false ∧ (∃ z, W1.cell? ⟨g, k * 5 + 1, none⟩ = some z) ∧ W1.frozen? ⟨g, k * 5 + 1, none⟩ = false ∧ (∃ z, W2.cell? ⟨g, k * 5 + 2, none⟩ = some z) ∧ W2.frozen? ⟨g, k * 5 + 2, none⟩ = false ∧
      (∃ z, W3.cell? ⟨g, k * 5 + 3, none⟩ = some z) ∧ W3.frozen? ⟨g, k * 5 + 3, none⟩ = false ∧ (∃ z, W4.cell? ⟨g, k * 5 + 4, none⟩ = some z) ∧ W4.frozen? ⟨g, k * 5 + 4, none⟩ = false ∧ W5.ownsRow B 24 5 (.slice (some ⟨g, 0, none⟩) n cap) n ((l.set k ⟨i, nm, p, v, d⟩).flatMap fcs) := by
  obtain ⟨xi, xn, xp, xv, xd⟩ := x
  have hk := lt_of_at hx
  have g0 := at_field (o := 0) h hn hx (by omega)
  have h1 := put_field (o := 0) (y := ⟨i, xn, xp, xv, xd⟩) (u := .int .i64 i) h hx (by omega) rfl
  rw [Nat.add_zero] at g0 h1
  have q1 : (l.set k ⟨i, xn, xp, xv, xd⟩)[k]? = some ⟨i, xn, xp, xv, xd⟩ := List.getElem?_set_self hk
  have g1 := at_field (o := 1) h1 (by rw [List.length_set]; exact hn) q1 (by omega)
  have h2 := put_field (o := 1) (y := ⟨i, nm, xp, xv, xd⟩) (u := .string ⟨nm.toArray⟩) h1 q1 (by omega) rfl
  rw [List.set_set] at h2
  have q2 : (l.set k ⟨i, nm, xp, xv, xd⟩)[k]? = some ⟨i, nm, xp, xv, xd⟩ := List.getElem?_set_self hk
  have g2 := at_field (o := 2) h2 (by rw [List.length_set]; exact hn) q2 (by omega)
  have h3 := put_field (o := 2) (y := ⟨i, nm, p, xv, xd⟩) (u := .int .i64 p) h2 q2 (by omega) rfl
  rw [List.set_set] at h3
  have q3 : (l.set k ⟨i, nm, p, xv, xd⟩)[k]? = some ⟨i, nm, p, xv, xd⟩ := List.getElem?_set_self hk
  have g3 := at_field (o := 3) h3 (by rw [List.length_set]; exact hn) q3 (by omega)
  have h4 := put_field (o := 3) (y := ⟨i, nm, p, v, xd⟩) (u := .int .i64 v) h3 q3 (by omega) rfl
  rw [List.set_set] at h4
  have q4 : (l.set k ⟨i, nm, p, v, xd⟩)[k]? = some ⟨i, nm, p, v, xd⟩ := List.getElem?_set_self hk
  have g4 := at_field (o := 4) h4 (by rw [List.length_set]; exact hn) q4 (by omega)
  have h5 := put_field (o := 4) (y := ⟨i, nm, p, v, d⟩) (u := .int .i64 d) h4 q4 (by omega) rfl
  rw [List.set_set] at h5
  exact ⟨_, _, _, _, _, rfl, rfl, rfl, rfl, rfl, g0.1, g0.2, g1.1, g1.2, g2.1, g2.2, g3.1, g3.2, g4.1, g4.2, h5⟩
set_option maxRecDepth 100000 in
set_option maxHeartbeats 16000000 in
theorem more_any {w : World} {A : Option Addr} {n c : Nat} {l : List Fa} (hn : l.length = n) (hc : Rs fcs 5 w A l) (hbig : n ≤ 9223372036854775807) (hin : ∀ x ∈ l, x.nm.length ≤ 9223372036854775807) (i p a b : Int) (nm : List UInt8) (at' : Int) (ha0 : 0 ≤ at') (ha1 : at' ≤ 255) :
    Calls Try.prog 6 #[.slice A n c, .int .i64 i, .string ⟨nm.toArray⟩, .int .i64 p, .int .i64 a, .int .i64 b, .int .u8 at'] w fun e w' => e = .returned (.bool true) ∧ Below w.heap.size w w' := by
  have HC0 := Lib.hid hc
  have HN := Lib.hid hn
  have HIN := Lib.hid hin
  have HS := Lib.hid (small_any w)
  clear hc hn hin
  go_enter Try.func6, Try.ntmps6
  go_wp2_with (fail)
  go_must (refine (HS.out).mono ?_)
  rintro e w1 ⟨rfl, hb⟩
  have HB1 := Lib.hid hb
  have HC1 := Lib.hid (HC0.out.keep hb)
  clear hb HC0 HS
  have HFEW := Lib.hid (rFew_any (c := c) (m := 20) HN.out HC1.out hbig (by omega) HIN.out)
  go_wp2_with (fail)
  go_must (refine (HFEW.out).mono ?_)
  rintro e w2 ⟨rfl, rfl⟩
  clear HFEW
  cases hfew : fewF l 20 with
  | false =>
    clear hfew
    go_wp2
    go_ret
    exact ⟨rfl, HB1.out⟩
  | true =>
    obtain ⟨hl20, hnm⟩ := fewF_out hfew
    rw [HN.out] at hl20
    have HNM := Lib.hid (show ∀ x ∈ l, x.nm.length ≤ 1000000000 from fun x hx => Nat.le_trans (hnm x hx) (by decide))
    clear hfew hnm HIN hbig
    have HRT := Lib.hid (fRight_any (c := c) HN.out HC1.out (by omega) HNM.out)
    go_wp2_with (fail)
    go_must (refine (HRT.out).mono ?_)
    rintro e w2 ⟨rfl, hb⟩
    have HB2 := Lib.hid (Gen.over hb HB1.out)
    have HC2 := Lib.hid (HC1.out.keep hb)
    clear hb HB1 HC1 HRT
    cases hrg : rgF l with
    | false =>
      clear hrg
      go_wp2
      go_ret
      exact ⟨rfl, HB2.out⟩
    | true =>
      by_cases hfl : nm.length ≤ 40
      case neg =>
        have h1 : (40 : Int) < (nm.length : Int) := by omega
        go_wp2
        go_ret
        exact ⟨rfl, HB2.out⟩
      have h1 : ¬ (40 : Int) < (nm.length : Int) := by omega
      by_cases hab : a ≤ b
      case neg =>
        have h2 : b < a := by omega
        go_wp2
        go_ret
        exact ⟨rfl, HB2.out⟩
      have h2 : ¬ b < a := by omega
      have HVAL := Lib.hid (fun (W : World) (hb : Below w2.heap.size w2 W) (d : Int) => fValue_any (c := c) i p d (nm := nm) HN.out (HC2.out.keep hb) (by omega) HNM.out (by omega))
      have HAB := Lib.hid hab
      clear hab hrg
      go_wp2_with (fail)
      go_must (refine (HVAL.out _ (Below.refl _ _) a).mono ?_)
      rintro e w3 ⟨rfl, hb3⟩
      go_wp2_with (fail)
      go_must (refine (HVAL.out _ hb3 b).mono ?_)
      rintro e w4 ⟨rfl, hb4⟩
      have HB4 := Lib.hid (Gen.over hb4 hb3)
      clear hb3 hb4 h1 h2
      obtain ⟨o1, ho1⟩ : ∃ o1, valF l i nm p a = o1 := ⟨_, rfl⟩
      obtain ⟨o2, ho2⟩ : ∃ o2, valF l i nm p b = o2 := ⟨_, rfl⟩
      have HM1 := Lib.hid (more_1 (l := l) (i := i) (p := p) (n := nm) HAB.out)
      have HM2 := Lib.hid (more_2 (l := l) (i := i) (p := p) (n := nm) HAB.out)
      rw [ho1, ho2] at HM1 HM2
      rw [ho1, ho2]
      have HO2 := Lib.hid ho2
      clear ho1 ho2
      obtain ⟨s1, hs1⟩ : ∃ s1, o1.isSome = s1 := ⟨_, rfl⟩
      obtain ⟨s2, hs2⟩ : ∃ s2, o2.isSome = s2 := ⟨_, rfl⟩
      obtain ⟨v1, hv1⟩ : ∃ v1, vI o1 = v1 := ⟨_, rfl⟩
      obtain ⟨v2, hv2⟩ : ∃ v2, vI o2 = v2 := ⟨_, rfl⟩
      rw [hs1, hs2] at HM1
      rw [hs1, hs2, hv1, hv2]
      have HV2 := Lib.hid hv2
      have HS2 := Lib.hid hs2
      have HM2 : Hid (l.any (frsE i nm a b) = false → v1 = v2 ∧ s1 = s2) := Lib.hid (fun h => by have := HM2.out h; rw [← hv1, ← hv2, ← hs1, ← hs2, this]; exact ⟨rfl, rfl⟩)
      clear hs1 hs2 hv1 hv2
      go_wp2_with (fail)
      go_loopw [20, 21] (fun fv iv wr => ∃ (k : Nat) (z : Bool), k ≤ n ∧ iv = .int .i64 k ∧ fv = .bool z ∧ Hid ((l.take k).any (frsE i nm a b) = z) ∧ w4 = wr) (fun _ iv _ => n - (RowKit.intOf iv).toNat)
      case atStart => exact ⟨0, false, Nat.zero_le _, rfl, rfl, Lib.hid rfl, rfl⟩
      case round =>
        obtain ⟨k, z, hk, rfl, rfl, H1, rfl⟩ := hrel
        have k0 : (0 : Int) ≤ (k : Int) := by omega
        by_cases hlt : k < n
        · have hltI : (k : Int) < (n : Int) := by omega
          obtain ⟨⟨xi, xn, xp, xv, xd⟩, hx⟩ := at_ l k (by rw [HN.out]; exact hlt)
          have HT1 := Lib.hid (any_take' (p := frsE i nm a b) hx)
          obtain ⟨bb, off, rfl, hcell⟩ := (HC2.out.keep HB4.out) (by rw [HN.out]; omega)
          have c0 := hcell k _ hx 0 _ rfl
          have c1 := hcell k _ hx 1 _ rfl
          have c4 := hcell k _ hx 4 _ rfl
          dsimp only at c0 c1 c4
          rw [Nat.add_zero] at c0
          clear hcell hx hlt
          cases z with
          | true =>
            have HZ : Hid ((l.take (k + 1)).any (frsE i nm a b) = true) := Lib.hid (by rw [HT1.out, H1.out]; rfl)
            clear H1 HT1
            go_wp2
            go_roundw
            case rel => first | exact ⟨k + 1, true, by omega, by go_num, rfl, HZ, rfl⟩ | exact ⟨k + 1, true, by omega, by go_num, rfl, HZ, trivial⟩ | exact ⟨k + 1, true, by omega, by go_num, rfl, HZ⟩
            case measure => simp [RowKit.intOf]; omega
          | false =>
            by_cases q1 : xi = i
            case neg =>
              have e1 : (xi == i) = false := by simp [q1]
              have HZ : Hid ((l.take (k + 1)).any (frsE i nm a b) = false) := Lib.hid (by rw [HT1.out, H1.out, frsE_eq]; simp [q1])
              clear H1 HT1
              go_wp2
              go_roundw
              case rel => first | exact ⟨k + 1, false, by omega, by go_num, rfl, HZ, rfl⟩ | exact ⟨k + 1, false, by omega, by go_num, rfl, HZ, trivial⟩ | exact ⟨k + 1, false, by omega, by go_num, rfl, HZ⟩
              case measure => simp [RowKit.intOf]; omega
            have e1 : (xi == i) = true := by simp [q1]
            by_cases q2 : xn = nm
            case neg =>
              have e2 : (xn == nm) = false := by simp [q2]
              have HZ : Hid ((l.take (k + 1)).any (frsE i nm a b) = false) := Lib.hid (by rw [HT1.out, H1.out, frsE_eq]; simp [q2])
              clear H1 HT1
              go_wp2
              go_roundw
              case rel => first | exact ⟨k + 1, false, by omega, by go_num, rfl, HZ, rfl⟩ | exact ⟨k + 1, false, by omega, by go_num, rfl, HZ, trivial⟩ | exact ⟨k + 1, false, by omega, by go_num, rfl, HZ⟩
              case measure => simp [RowKit.intOf]; omega
            have e2 : (xn == nm) = true := by simp [q2]
            by_cases q3 : a < xd
            case neg =>
              have e3 : decide (a < xd) = false := decide_eq_false q3
              have HZ : Hid ((l.take (k + 1)).any (frsE i nm a b) = false) := Lib.hid (by rw [HT1.out, H1.out, frsE_eq]; simp [q3])
              clear H1 HT1
              go_wp2
              go_roundw
              case rel => first | exact ⟨k + 1, false, by omega, by go_num, rfl, HZ, rfl⟩ | exact ⟨k + 1, false, by omega, by go_num, rfl, HZ, trivial⟩ | exact ⟨k + 1, false, by omega, by go_num, rfl, HZ⟩
              case measure => simp [RowKit.intOf]; omega
            have e3 : decide (a < xd) = true := decide_eq_true q3
            by_cases q4 : xd ≤ b
            case neg =>
              have e4 : decide (xd ≤ b) = false := decide_eq_false q4
              have HZ : Hid ((l.take (k + 1)).any (frsE i nm a b) = false) := Lib.hid (by rw [HT1.out, H1.out, frsE_eq]; simp [q4])
              clear H1 HT1
              go_wp2
              go_roundw
              case rel => first | exact ⟨k + 1, false, by omega, by go_num, rfl, HZ, rfl⟩ | exact ⟨k + 1, false, by omega, by go_num, rfl, HZ, trivial⟩ | exact ⟨k + 1, false, by omega, by go_num, rfl, HZ⟩
              case measure => simp [RowKit.intOf]; omega
            have e4 : decide (xd ≤ b) = true := decide_eq_true q4
            have HZ : Hid ((l.take (k + 1)).any (frsE i nm a b) = true) := Lib.hid (by rw [HT1.out, H1.out, frsE_eq]; simp [q1, q2, q3, q4])
            clear H1 HT1
            go_wp2
            go_roundw
            case rel => first | exact ⟨k + 1, true, by omega, by go_num, rfl, HZ, rfl⟩ | exact ⟨k + 1, true, by omega, by go_num, rfl, HZ, trivial⟩ | exact ⟨k + 1, true, by omega, by go_num, rfl, HZ⟩
            case measure => simp [RowKit.intOf]; omega
        · obtain rfl : n = k := by omega
          have hz := H1.out
          rw [List.take_of_length_le (by rw [HN.out]; exact Nat.le_refl _)] at hz
          clear hlt H1
          have hs : (z = false → v1 = v2 ∧ s1 = s2) := fun h => HM2.out (hz.trans h)
          have hm := HM1.out
          clear hz HM1 HM2
          cases z
          · obtain ⟨rfl, rfl⟩ := hs rfl
            have e0 : (v1 != v1) = false := by simp
            clear hm hs
            cases s1
            all_goals
              by_cases hn2 : n < 2
              case pos =>
                have h1 : (n : Int) < 2 := by omega
                go_wp2
                go_ret
                exact ⟨rfl, Gen.over HB4.out HB2.out⟩
              have h1 : ¬ (n : Int) < 2 := by omega
              obtain ⟨m, hm1⟩ : ∃ m, n = m + 1 := ⟨n - 1, by omega⟩
              have hr0 : 0 ≤ at'.tmod (m : Int) ∧ at'.tmod (m : Int) < (m : Int) := ⟨Int.tmod_nonneg _ ha0, Int.tmod_lt_of_pos _ (by omega)⟩
              obtain ⟨r, hr⟩ : ∃ r, at'.tmod (m : Int) = r := ⟨_, rfl⟩
              rw [hr] at hr0
              obtain ⟨q, rfl⟩ : ∃ q : Nat, r = (q : Int) := ⟨r.toNat, by omega⟩
              have hq : q < m := by omega
              have hqI : (q : Int) < (n : Int) := by omega
              have hq1I : ((q + 1 : Nat) : Int) < (n : Int) := by omega
              have q0 : (0 : Int) ≤ (q : Int) := by omega
              have q10 : (0 : Int) ≤ ((q + 1 : Nat) : Int) := by omega
              have hwr : IntKind.i64.wrap (q : Int) = (q : Int) := IntWalk.i64_in _ (by omega)
              have hwq : IntKind.i64.wrap ((q : Int) + 1) = ((q + 1 : Nat) : Int) := by rw [IntWalk.i64_in _ (by omega)]; omega
              have hwa : IntKind.i64.wrap at' = at' := IntWalk.i64_in _ (by omega)
              have hwm : IntKind.i64.wrap ((n : Int) - 1) = (m : Int) := by rw [IntWalk.i64_in _ (by omega)]; omega
              have hz0 : ((m : Int) == 0) = false := by simp; omega
              have HMM := Lib.hid hm1
              obtain ⟨⟨xi, xn, xp, xv, xd⟩, hx⟩ := at_ l q (by rw [HN.out]; omega)
              obtain ⟨⟨yi, yn, yp, yv, yd⟩, hy⟩ := at_ l (q + 1) (by rw [HN.out]; omega)
              obtain ⟨bb, off, rfl, hcell⟩ := (HC2.out.keep HB4.out) (by rw [HN.out]; omega)
              have c0 := hcell q _ hx 0 _ rfl
              have d0 := hcell (q + 1) _ hy 0 _ rfl
              have c1 := hcell q _ hx 1 _ rfl
              have d1 := hcell (q + 1) _ hy 1 _ rfl
              have c2 := hcell q _ hx 2 _ rfl
              have d2 := hcell (q + 1) _ hy 2 _ rfl
              have c3 := hcell q _ hx 3 _ rfl
              have d3 := hcell (q + 1) _ hy 3 _ rfl
              have c4 := hcell q _ hx 4 _ rfl
              have d4 := hcell (q + 1) _ hy 4 _ rfl
              dsimp only at c0 c1 c2 c3 c4 d0 d1 d2 d3 d4
              rw [Nat.add_zero] at c0 d0
              have HX := Lib.hid hx
              have HY := Lib.hid hy
              have hb5 : Below w4.heap.size w4 (w4.alloc (fobj ⟨xi, xn, xp, xv, xd⟩)) := Gen.b_alloc (Below.refl _ _)
              have hb6 : Below w4.heap.size w4 ((w4.alloc (fobj ⟨xi, xn, xp, xv, xd⟩)).alloc (fobj ⟨yi, yn, yp, yv, yd⟩)) := Gen.b_alloc hb5
              have f0 := keep0 hb5 _ _ _ d0
              have f1 := keep0 hb5 _ _ _ d1
              have f2 := keep0 hb5 _ _ _ d2
              have f3 := keep0 hb5 _ _ _ d3
              have f4 := keep0 hb5 _ _ _ d4
              have HB6 := Lib.hid hb6
              clear hcell hx hy hb5 hb6 hm1
              by_cases qd : xd = yd
              case neg =>
                have e9 : (xd != yd) = true := by simp [qd]
                clear qd
                go_wp2
                go_ret
                exact ⟨rfl, Gen.over HB6.out (Gen.over HB4.out HB2.out)⟩
              have e9 : (xd != yd) = false := by simp [qd]
              have HQD := Lib.hid qd
              clear qd
              by_cases q1 : xi = yi
              case pos =>
                have e1 : (xi == yi) = true := by simp [q1]
                clear q1
                by_cases q2 : xn = yn
                case pos =>
                  have e2 : (xn == yn) = true := by simp [q2]
                  clear q2
                  by_cases q3 : xp = yp
                  case pos =>
                    have e3 : (xp == yp) = true := by simp [q3]
                    clear q3
                    go_wp2
                    go_ret
                    exact ⟨rfl, Gen.over HB6.out (Gen.over HB4.out HB2.out)⟩
                  have e3 : (xp == yp) = false := by simp [q3]
                  have HNE := Lib.hid (show ¬ ((⟨xi, xn, xp, xv, xd⟩ : Fa).is = (⟨yi, yn, yp, yv, yd⟩ : Fa).is ∧ (⟨xi, xn, xp, xv, xd⟩ : Fa).nm = (⟨yi, yn, yp, yv, yd⟩ : Fa).nm ∧ (⟨xi, xn, xp, xv, xd⟩ : Fa).pe = (⟨yi, yn, yp, yv, yd⟩ : Fa).pe) from fun h => q3 h.2.2)
                  clear q3
                  obtain ⟨W6, hW6⟩ : ∃ W6, ((w4.alloc (fobj ⟨xi, xn, xp, xv, xd⟩)).alloc (fobj ⟨yi, yn, yp, yv, yd⟩)) = W6 := ⟨_, rfl⟩
                  have HBW := Lib.hid HB6.out
                  rw [hW6] at HBW
                  have hbx : Row W6 w4.heap.size 24 (fcs ⟨xi, xn, xp, xv, xd⟩).toArray := by rw [← hW6]; exact (Row.new w4 24 _).alloc _
                  have hby : Row W6 (w4.heap.size + 1) 24 (fcs ⟨yi, yn, yp, yv, yd⟩).toArray := by rw [← hW6]; exact Gen.rowAt _ _ _ (by simp)
                  have HBX := Lib.hid hbx
                  have HBY := Lib.hid hby
                  have hrd := rs_reads fcs5 (by omega) HN.out ((HC2.out.keep HB4.out).keep (Gen.over (Gen.b_alloc (x := .cells #[] 24) (Below.refl _ _)) HBW.out))
                  obtain ⟨i0, hi0, hz0', hz1, hz2⟩ := info_parts' infoF
                  have hown := own_new W6 24 5
                  have N1 := Lib.hid (show 0 + n ≤ maxLen from by simp only [maxLen]; omega)
                  have N2 := Lib.hid (show (0 + n) * 48 ≤ 140737488355328 from by omega)
                  clear hbx hby HB6
                  have x0 := HBX.out.cell 0
                  have y0 := HBY.out.cell 0
                  have x1 := HBX.out.cell 1
                  have y1 := HBY.out.cell 1
                  have x2 := HBX.out.cell 2
                  have y2 := HBY.out.cell 2
                  have x3 := HBX.out.cell 3
                  have y3 := HBY.out.cell 3
                  have x4 := HBX.out.cell 4
                  have y4 := HBY.out.cell 4
                  simp [fcs] at x0 x1 x2 x3 x4 y0 y1 y2 y3 y4
                  go_upto_region 20 with (fail)
                  try rw [hW6]
                  clear hW6 c0 c1 c2 c3 c4 d0 d1 d2 d3 d4 f0 f1 f2 f3 f4 e1 x0 x1 x2 x3 x4 y0 y1 y2 y3 y4
                  go_wp2_with (first
                    | (at_builtin
                       go_must (refine App.wpList_append_any _ rfl (.tmp 174) (.tmp 175) _ rfl W6.heap.size 24 i0 _ 5 48 Try.underlying22 hi0 hz0' hz1 hz2 rfl (by omega) _ 0 [] rfl hown _ _ n c (l.flatMap fcs) rfl hrd (fcs_one l) N1.out N2.out (Gen.b_alloc (Below.refl _ _)).size ?_)
                       intro v7 w7 ho7 hg7 ha7
                       have HB7 := Lib.hid (Gen.g_below hown hg7 (Gen.b_alloc (Below.refl _ _)) (Nat.le_refl _))
                       rw [List.nil_append, Nat.zero_add] at ho7
                       obtain ⟨g7, cap7, rfl, hge, _⟩ := ho7.form (by omega)
                       obtain ⟨V1, V2, V3, V4, V5, ev1, ev2, ev3, ev4, ev5, ⟨zsv0, sv0⟩, tv0, ⟨zsv1, sv1⟩, tv1, ⟨zsv2, sv2⟩, tv2, ⟨zsv3, sv3⟩, tv3, ⟨zsv4, sv4⟩, tv4, hoV⟩ := put_all ho7 HN.out HX.out yi yn yp yv yd
                       obtain ⟨U1, U2, U3, U4, U5, eu1, eu2, eu3, eu4, eu5, ⟨zsu0, su0⟩, tu0, ⟨zsu1, su1⟩, tu1, ⟨zsu2, su2⟩, tu2, ⟨zsu3, su3⟩, tu3, ⟨zsu4, su4⟩, tu4, hoU⟩ := put_all hoV (by rw [List.length_set]; exact HN.out) (show (l.set q ⟨yi, yn, yp, yv, yd⟩)[q + 1]? = some ⟨yi, yn, yp, yv, yd⟩ by rw [List.getElem?_set_ne (by omega)]; exact HY.out) xi xn xp xv xd
                       rw [swp_set HX.out HY.out] at hoU
                       have hbV : Below W6.heap.size W6 V5 := by rw [← ev5, ← ev4, ← ev3, ← ev2, ← ev1]; exact Gen.b_set (Gen.b_set (Gen.b_set (Gen.b_set (Gen.b_set HB7.out hge) hge) hge) hge) hge
                       have HBU := Lib.hid (show Below W6.heap.size W6 U5 by rw [← eu5, ← eu4, ← eu3, ← eu2, ← eu1]; exact Gen.b_set (Gen.b_set (Gen.b_set (Gen.b_set (Gen.b_set hbV hge) hge) hge) hge) hge)
                       have HBX7 := Lib.hid (HBX.out.keep hbV)
                       have HBY7 := Lib.hid (HBY.out.keep HB7.out)
                       have HVS := Lib.hid (fValue_any (c := cap7) (n := n) i p b (nm := nm) (by rw [swp_len]; exact HN.out) (rs_own fcs5 (by rw [swp_len]; exact HN.out) hoU) (by omega) (fun x hx => HNM.out x (swp_mem hx)) (by omega))
                       have HVS := Lib.hid (show Calls Try.prog 16 #[.slice (some ⟨g7, 0, none⟩) n cap7, .int .i64 i, .string ⟨nm.toArray⟩, .int .i64 p, .int .i64 b] U5 fun e w' => e = .returned (.tuple #[.int .i64 (vI (valF l i nm p b)), .bool (valF l i nm p b).isSome]) ∧ Below U5.heap.size U5 w' by have h := HVS.out; rw [more_3 HX.out HY.out HQD.out HNE.out] at h; exact h)
                       have hq5 : q * 5 + 4 < n * 5 := by omega
                       have x0 := HBX7.out.cell 0
                       have x1 := HBX7.out.cell 1
                       have x2 := HBX7.out.cell 2
                       have x3 := HBX7.out.cell 3
                       have x4 := HBX7.out.cell 4
                       have y0 := HBY7.out.cell 0
                       have y1 := HBY7.out.cell 1
                       have y2 := HBY7.out.cell 2
                       have y3 := HBY7.out.cell 3
                       have y4 := HBY7.out.cell 4
                       simp [fcs] at x0 x1 x2 x3 x4 y0 y1 y2 y3 y4
                       clear hg7 ha7 ho7 hown hrd hoV hoU hbV hge)
                    | fail)
                  go_must (refine (HVS.out).mono ?_)
                  rintro e W9 ⟨rfl, hb9⟩
                  rw [HO2.out, HV2.out, HS2.out]
                  have HB9 := Lib.hid (Gen.over (Gen.over hb9 HBU.out) HBW.out)
                  clear hb9
                  go_wp2
                  go_ret
                  exact ⟨rfl, Gen.over HB9.out (Gen.over HB4.out HB2.out)⟩
                have e2 : (xn == yn) = false := by simp [q2]
                have HNE := Lib.hid (show ¬ ((⟨xi, xn, xp, xv, xd⟩ : Fa).is = (⟨yi, yn, yp, yv, yd⟩ : Fa).is ∧ (⟨xi, xn, xp, xv, xd⟩ : Fa).nm = (⟨yi, yn, yp, yv, yd⟩ : Fa).nm ∧ (⟨xi, xn, xp, xv, xd⟩ : Fa).pe = (⟨yi, yn, yp, yv, yd⟩ : Fa).pe) from fun h => q2 h.2.1)
                clear q2
                obtain ⟨W6, hW6⟩ : ∃ W6, ((w4.alloc (fobj ⟨xi, xn, xp, xv, xd⟩)).alloc (fobj ⟨yi, yn, yp, yv, yd⟩)) = W6 := ⟨_, rfl⟩
                have HBW := Lib.hid HB6.out
                rw [hW6] at HBW
                have hbx : Row W6 w4.heap.size 24 (fcs ⟨xi, xn, xp, xv, xd⟩).toArray := by rw [← hW6]; exact (Row.new w4 24 _).alloc _
                have hby : Row W6 (w4.heap.size + 1) 24 (fcs ⟨yi, yn, yp, yv, yd⟩).toArray := by rw [← hW6]; exact Gen.rowAt _ _ _ (by simp)
                have HBX := Lib.hid hbx
                have HBY := Lib.hid hby
                have hrd := rs_reads fcs5 (by omega) HN.out ((HC2.out.keep HB4.out).keep (Gen.over (Gen.b_alloc (x := .cells #[] 24) (Below.refl _ _)) HBW.out))
                obtain ⟨i0, hi0, hz0', hz1, hz2⟩ := info_parts' infoF
                have hown := own_new W6 24 5
                have N1 := Lib.hid (show 0 + n ≤ maxLen from by simp only [maxLen]; omega)
                have N2 := Lib.hid (show (0 + n) * 48 ≤ 140737488355328 from by omega)
                clear hbx hby HB6
                have x0 := HBX.out.cell 0
                have y0 := HBY.out.cell 0
                have x1 := HBX.out.cell 1
                have y1 := HBY.out.cell 1
                have x2 := HBX.out.cell 2
                have y2 := HBY.out.cell 2
                have x3 := HBX.out.cell 3
                have y3 := HBY.out.cell 3
                have x4 := HBX.out.cell 4
                have y4 := HBY.out.cell 4
                simp [fcs] at x0 x1 x2 x3 x4 y0 y1 y2 y3 y4
                go_upto_region 20 with (fail)
                try rw [hW6]
                clear hW6 c0 c1 c2 c3 c4 d0 d1 d2 d3 d4 f0 f1 f2 f3 f4 e1 x0 x1 x2 x3 x4 y0 y1 y2 y3 y4
                go_wp2_with (first
                  | (at_builtin
                     go_must (refine App.wpList_append_any _ rfl (.tmp 174) (.tmp 175) _ rfl W6.heap.size 24 i0 _ 5 48 Try.underlying22 hi0 hz0' hz1 hz2 rfl (by omega) _ 0 [] rfl hown _ _ n c (l.flatMap fcs) rfl hrd (fcs_one l) N1.out N2.out (Gen.b_alloc (Below.refl _ _)).size ?_)
                     intro v7 w7 ho7 hg7 ha7
                     have HB7 := Lib.hid (Gen.g_below hown hg7 (Gen.b_alloc (Below.refl _ _)) (Nat.le_refl _))
                     rw [List.nil_append, Nat.zero_add] at ho7
                     obtain ⟨g7, cap7, rfl, hge, _⟩ := ho7.form (by omega)
                     obtain ⟨V1, V2, V3, V4, V5, ev1, ev2, ev3, ev4, ev5, ⟨zsv0, sv0⟩, tv0, ⟨zsv1, sv1⟩, tv1, ⟨zsv2, sv2⟩, tv2, ⟨zsv3, sv3⟩, tv3, ⟨zsv4, sv4⟩, tv4, hoV⟩ := put_all ho7 HN.out HX.out yi yn yp yv yd
                     obtain ⟨U1, U2, U3, U4, U5, eu1, eu2, eu3, eu4, eu5, ⟨zsu0, su0⟩, tu0, ⟨zsu1, su1⟩, tu1, ⟨zsu2, su2⟩, tu2, ⟨zsu3, su3⟩, tu3, ⟨zsu4, su4⟩, tu4, hoU⟩ := put_all hoV (by rw [List.length_set]; exact HN.out) (show (l.set q ⟨yi, yn, yp, yv, yd⟩)[q + 1]? = some ⟨yi, yn, yp, yv, yd⟩ by rw [List.getElem?_set_ne (by omega)]; exact HY.out) xi xn xp xv xd
                     rw [swp_set HX.out HY.out] at hoU
                     have hbV : Below W6.heap.size W6 V5 := by rw [← ev5, ← ev4, ← ev3, ← ev2, ← ev1]; exact Gen.b_set (Gen.b_set (Gen.b_set (Gen.b_set (Gen.b_set HB7.out hge) hge) hge) hge) hge
                     have HBU := Lib.hid (show Below W6.heap.size W6 U5 by rw [← eu5, ← eu4, ← eu3, ← eu2, ← eu1]; exact Gen.b_set (Gen.b_set (Gen.b_set (Gen.b_set (Gen.b_set hbV hge) hge) hge) hge) hge)
                     have HBX7 := Lib.hid (HBX.out.keep hbV)
                     have HBY7 := Lib.hid (HBY.out.keep HB7.out)
                     have HVS := Lib.hid (fValue_any (c := cap7) (n := n) i p b (nm := nm) (by rw [swp_len]; exact HN.out) (rs_own fcs5 (by rw [swp_len]; exact HN.out) hoU) (by omega) (fun x hx => HNM.out x (swp_mem hx)) (by omega))
                     have HVS := Lib.hid (show Calls Try.prog 16 #[.slice (some ⟨g7, 0, none⟩) n cap7, .int .i64 i, .string ⟨nm.toArray⟩, .int .i64 p, .int .i64 b] U5 fun e w' => e = .returned (.tuple #[.int .i64 (vI (valF l i nm p b)), .bool (valF l i nm p b).isSome]) ∧ Below U5.heap.size U5 w' by have h := HVS.out; rw [more_3 HX.out HY.out HQD.out HNE.out] at h; exact h)
                     have hq5 : q * 5 + 4 < n * 5 := by omega
                     have x0 := HBX7.out.cell 0
                     have x1 := HBX7.out.cell 1
                     have x2 := HBX7.out.cell 2
                     have x3 := HBX7.out.cell 3
                     have x4 := HBX7.out.cell 4
                     have y0 := HBY7.out.cell 0
                     have y1 := HBY7.out.cell 1
                     have y2 := HBY7.out.cell 2
                     have y3 := HBY7.out.cell 3
                     have y4 := HBY7.out.cell 4
                     simp [fcs] at x0 x1 x2 x3 x4 y0 y1 y2 y3 y4
                     clear hg7 ha7 ho7 hown hrd hoV hoU hbV hge)
                  | fail)
                go_must (refine (HVS.out).mono ?_)
                rintro e W9 ⟨rfl, hb9⟩
                rw [HO2.out, HV2.out, HS2.out]
                have HB9 := Lib.hid (Gen.over (Gen.over hb9 HBU.out) HBW.out)
                clear hb9
                go_wp2
                go_ret
                exact ⟨rfl, Gen.over HB9.out (Gen.over HB4.out HB2.out)⟩
              have e1 : (xi == yi) = false := by simp [q1]
              have HNE := Lib.hid (show ¬ ((⟨xi, xn, xp, xv, xd⟩ : Fa).is = (⟨yi, yn, yp, yv, yd⟩ : Fa).is ∧ (⟨xi, xn, xp, xv, xd⟩ : Fa).nm = (⟨yi, yn, yp, yv, yd⟩ : Fa).nm ∧ (⟨xi, xn, xp, xv, xd⟩ : Fa).pe = (⟨yi, yn, yp, yv, yd⟩ : Fa).pe) from fun h => q1 h.1)
              clear q1
              obtain ⟨W6, hW6⟩ : ∃ W6, ((w4.alloc (fobj ⟨xi, xn, xp, xv, xd⟩)).alloc (fobj ⟨yi, yn, yp, yv, yd⟩)) = W6 := ⟨_, rfl⟩
              have HBW := Lib.hid HB6.out
              rw [hW6] at HBW
              have hbx : Row W6 w4.heap.size 24 (fcs ⟨xi, xn, xp, xv, xd⟩).toArray := by rw [← hW6]; exact (Row.new w4 24 _).alloc _
              have hby : Row W6 (w4.heap.size + 1) 24 (fcs ⟨yi, yn, yp, yv, yd⟩).toArray := by rw [← hW6]; exact Gen.rowAt _ _ _ (by simp)
              have HBX := Lib.hid hbx
              have HBY := Lib.hid hby
              have hrd := rs_reads fcs5 (by omega) HN.out ((HC2.out.keep HB4.out).keep (Gen.over (Gen.b_alloc (x := .cells #[] 24) (Below.refl _ _)) HBW.out))
              obtain ⟨i0, hi0, hz0', hz1, hz2⟩ := info_parts' infoF
              have hown := own_new W6 24 5
              have N1 := Lib.hid (show 0 + n ≤ maxLen from by simp only [maxLen]; omega)
              have N2 := Lib.hid (show (0 + n) * 48 ≤ 140737488355328 from by omega)
              clear hbx hby HB6
              have x0 := HBX.out.cell 0
              have y0 := HBY.out.cell 0
              have x1 := HBX.out.cell 1
              have y1 := HBY.out.cell 1
              have x2 := HBX.out.cell 2
              have y2 := HBY.out.cell 2
              have x3 := HBX.out.cell 3
              have y3 := HBY.out.cell 3
              have x4 := HBX.out.cell 4
              have y4 := HBY.out.cell 4
              simp [fcs] at x0 x1 x2 x3 x4 y0 y1 y2 y3 y4
              go_upto_region 20 with (fail)
              try rw [hW6]
              clear hW6 c0 c1 c2 c3 c4 d0 d1 d2 d3 d4 f0 f1 f2 f3 f4 e1 x0 x1 x2 x3 x4 y0 y1 y2 y3 y4
              go_wp2_with (first
                | (at_builtin
                   go_must (refine App.wpList_append_any _ rfl (.tmp 174) (.tmp 175) _ rfl W6.heap.size 24 i0 _ 5 48 Try.underlying22 hi0 hz0' hz1 hz2 rfl (by omega) _ 0 [] rfl hown _ _ n c (l.flatMap fcs) rfl hrd (fcs_one l) N1.out N2.out (Gen.b_alloc (Below.refl _ _)).size ?_)
                   intro v7 w7 ho7 hg7 ha7
                   have HB7 := Lib.hid (Gen.g_below hown hg7 (Gen.b_alloc (Below.refl _ _)) (Nat.le_refl _))
                   rw [List.nil_append, Nat.zero_add] at ho7
                   obtain ⟨g7, cap7, rfl, hge, _⟩ := ho7.form (by omega)
                   obtain ⟨V1, V2, V3, V4, V5, ev1, ev2, ev3, ev4, ev5, ⟨zsv0, sv0⟩, tv0, ⟨zsv1, sv1⟩, tv1, ⟨zsv2, sv2⟩, tv2, ⟨zsv3, sv3⟩, tv3, ⟨zsv4, sv4⟩, tv4, hoV⟩ := put_all ho7 HN.out HX.out yi yn yp yv yd
                   obtain ⟨U1, U2, U3, U4, U5, eu1, eu2, eu3, eu4, eu5, ⟨zsu0, su0⟩, tu0, ⟨zsu1, su1⟩, tu1, ⟨zsu2, su2⟩, tu2, ⟨zsu3, su3⟩, tu3, ⟨zsu4, su4⟩, tu4, hoU⟩ := put_all hoV (by rw [List.length_set]; exact HN.out) (show (l.set q ⟨yi, yn, yp, yv, yd⟩)[q + 1]? = some ⟨yi, yn, yp, yv, yd⟩ by rw [List.getElem?_set_ne (by omega)]; exact HY.out) xi xn xp xv xd
                   rw [swp_set HX.out HY.out] at hoU
                   have hbV : Below W6.heap.size W6 V5 := by rw [← ev5, ← ev4, ← ev3, ← ev2, ← ev1]; exact Gen.b_set (Gen.b_set (Gen.b_set (Gen.b_set (Gen.b_set HB7.out hge) hge) hge) hge) hge
                   have HBU := Lib.hid (show Below W6.heap.size W6 U5 by rw [← eu5, ← eu4, ← eu3, ← eu2, ← eu1]; exact Gen.b_set (Gen.b_set (Gen.b_set (Gen.b_set (Gen.b_set hbV hge) hge) hge) hge) hge)
                   have HBX7 := Lib.hid (HBX.out.keep hbV)
                   have HBY7 := Lib.hid (HBY.out.keep HB7.out)
                   have HVS := Lib.hid (fValue_any (c := cap7) (n := n) i p b (nm := nm) (by rw [swp_len]; exact HN.out) (rs_own fcs5 (by rw [swp_len]; exact HN.out) hoU) (by omega) (fun x hx => HNM.out x (swp_mem hx)) (by omega))
                   have HVS := Lib.hid (show Calls Try.prog 16 #[.slice (some ⟨g7, 0, none⟩) n cap7, .int .i64 i, .string ⟨nm.toArray⟩, .int .i64 p, .int .i64 b] U5 fun e w' => e = .returned (.tuple #[.int .i64 (vI (valF l i nm p b)), .bool (valF l i nm p b).isSome]) ∧ Below U5.heap.size U5 w' by have h := HVS.out; rw [more_3 HX.out HY.out HQD.out HNE.out] at h; exact h)
                   have hq5 : q * 5 + 4 < n * 5 := by omega
                   have x0 := HBX7.out.cell 0
                   have x1 := HBX7.out.cell 1
                   have x2 := HBX7.out.cell 2
                   have x3 := HBX7.out.cell 3
                   have x4 := HBX7.out.cell 4
                   have y0 := HBY7.out.cell 0
                   have y1 := HBY7.out.cell 1
                   have y2 := HBY7.out.cell 2
                   have y3 := HBY7.out.cell 3
                   have y4 := HBY7.out.cell 4
                   simp [fcs] at x0 x1 x2 x3 x4 y0 y1 y2 y3 y4
                   clear hg7 ha7 ho7 hown hrd hoV hoU hbV hge)
                | fail)
              go_must (refine (HVS.out).mono ?_)
              rintro e W9 ⟨rfl, hb9⟩
              rw [HO2.out, HV2.out, HS2.out]
              have HB9 := Lib.hid (Gen.over (Gen.over hb9 HBU.out) HBW.out)
              clear hb9
              go_wp2
              go_ret
              exact ⟨rfl, Gen.over HB9.out (Gen.over HB4.out HB2.out)⟩
          · clear hs
            cases s1 <;> cases s2
            case true.false => exact absurd (hm rfl) (by decide)
            all_goals
              clear hm
              by_cases hn2 : n < 2
              case pos =>
                have h1 : (n : Int) < 2 := by omega
                go_wp2
                go_ret
                exact ⟨rfl, Gen.over HB4.out HB2.out⟩
              have h1 : ¬ (n : Int) < 2 := by omega
              obtain ⟨m, hm1⟩ : ∃ m, n = m + 1 := ⟨n - 1, by omega⟩
              have hr0 : 0 ≤ at'.tmod (m : Int) ∧ at'.tmod (m : Int) < (m : Int) := ⟨Int.tmod_nonneg _ ha0, Int.tmod_lt_of_pos _ (by omega)⟩
              obtain ⟨r, hr⟩ : ∃ r, at'.tmod (m : Int) = r := ⟨_, rfl⟩
              rw [hr] at hr0
              obtain ⟨q, rfl⟩ : ∃ q : Nat, r = (q : Int) := ⟨r.toNat, by omega⟩
              have hq : q < m := by omega
              have hqI : (q : Int) < (n : Int) := by omega
              have hq1I : ((q + 1 : Nat) : Int) < (n : Int) := by omega
              have q0 : (0 : Int) ≤ (q : Int) := by omega
              have q10 : (0 : Int) ≤ ((q + 1 : Nat) : Int) := by omega
              have hwr : IntKind.i64.wrap (q : Int) = (q : Int) := IntWalk.i64_in _ (by omega)
              have hwq : IntKind.i64.wrap ((q : Int) + 1) = ((q + 1 : Nat) : Int) := by rw [IntWalk.i64_in _ (by omega)]; omega
              have hwa : IntKind.i64.wrap at' = at' := IntWalk.i64_in _ (by omega)
              have hwm : IntKind.i64.wrap ((n : Int) - 1) = (m : Int) := by rw [IntWalk.i64_in _ (by omega)]; omega
              have hz0 : ((m : Int) == 0) = false := by simp; omega
              have HMM := Lib.hid hm1
              obtain ⟨⟨xi, xn, xp, xv, xd⟩, hx⟩ := at_ l q (by rw [HN.out]; omega)
              obtain ⟨⟨yi, yn, yp, yv, yd⟩, hy⟩ := at_ l (q + 1) (by rw [HN.out]; omega)
              obtain ⟨bb, off, rfl, hcell⟩ := (HC2.out.keep HB4.out) (by rw [HN.out]; omega)
              have c0 := hcell q _ hx 0 _ rfl
              have d0 := hcell (q + 1) _ hy 0 _ rfl
              have c1 := hcell q _ hx 1 _ rfl
              have d1 := hcell (q + 1) _ hy 1 _ rfl
              have c2 := hcell q _ hx 2 _ rfl
              have d2 := hcell (q + 1) _ hy 2 _ rfl
              have c3 := hcell q _ hx 3 _ rfl
              have d3 := hcell (q + 1) _ hy 3 _ rfl
              have c4 := hcell q _ hx 4 _ rfl
              have d4 := hcell (q + 1) _ hy 4 _ rfl
              dsimp only at c0 c1 c2 c3 c4 d0 d1 d2 d3 d4
              rw [Nat.add_zero] at c0 d0
              have HX := Lib.hid hx
              have HY := Lib.hid hy
              have hb5 : Below w4.heap.size w4 (w4.alloc (fobj ⟨xi, xn, xp, xv, xd⟩)) := Gen.b_alloc (Below.refl _ _)
              have hb6 : Below w4.heap.size w4 ((w4.alloc (fobj ⟨xi, xn, xp, xv, xd⟩)).alloc (fobj ⟨yi, yn, yp, yv, yd⟩)) := Gen.b_alloc hb5
              have f0 := keep0 hb5 _ _ _ d0
              have f1 := keep0 hb5 _ _ _ d1
              have f2 := keep0 hb5 _ _ _ d2
              have f3 := keep0 hb5 _ _ _ d3
              have f4 := keep0 hb5 _ _ _ d4
              have HB6 := Lib.hid hb6
              clear hcell hx hy hb5 hb6 hm1
              by_cases qd : xd = yd
              case neg =>
                have e9 : (xd != yd) = true := by simp [qd]
                clear qd
                go_wp2
                go_ret
                exact ⟨rfl, Gen.over HB6.out (Gen.over HB4.out HB2.out)⟩
              have e9 : (xd != yd) = false := by simp [qd]
              have HQD := Lib.hid qd
              clear qd
              by_cases q1 : xi = yi
              case pos =>
                have e1 : (xi == yi) = true := by simp [q1]
                clear q1
                by_cases q2 : xn = yn
                case pos =>
                  have e2 : (xn == yn) = true := by simp [q2]
                  clear q2
                  by_cases q3 : xp = yp
                  case pos =>
                    have e3 : (xp == yp) = true := by simp [q3]
                    clear q3
                    go_wp2
                    go_ret
                    exact ⟨rfl, Gen.over HB6.out (Gen.over HB4.out HB2.out)⟩
                  have e3 : (xp == yp) = false := by simp [q3]
                  have HNE := Lib.hid (show ¬ ((⟨xi, xn, xp, xv, xd⟩ : Fa).is = (⟨yi, yn, yp, yv, yd⟩ : Fa).is ∧ (⟨xi, xn, xp, xv, xd⟩ : Fa).nm = (⟨yi, yn, yp, yv, yd⟩ : Fa).nm ∧ (⟨xi, xn, xp, xv, xd⟩ : Fa).pe = (⟨yi, yn, yp, yv, yd⟩ : Fa).pe) from fun h => q3 h.2.2)
                  clear q3
                  obtain ⟨W6, hW6⟩ : ∃ W6, ((w4.alloc (fobj ⟨xi, xn, xp, xv, xd⟩)).alloc (fobj ⟨yi, yn, yp, yv, yd⟩)) = W6 := ⟨_, rfl⟩
                  have HBW := Lib.hid HB6.out
                  rw [hW6] at HBW
                  have hbx : Row W6 w4.heap.size 24 (fcs ⟨xi, xn, xp, xv, xd⟩).toArray := by rw [← hW6]; exact (Row.new w4 24 _).alloc _
                  have hby : Row W6 (w4.heap.size + 1) 24 (fcs ⟨yi, yn, yp, yv, yd⟩).toArray := by rw [← hW6]; exact Gen.rowAt _ _ _ (by simp)
                  have HBX := Lib.hid hbx
                  have HBY := Lib.hid hby
                  have hrd := rs_reads fcs5 (by omega) HN.out ((HC2.out.keep HB4.out).keep (Gen.over (Gen.b_alloc (x := .cells #[] 24) (Below.refl _ _)) HBW.out))
                  obtain ⟨i0, hi0, hz0', hz1, hz2⟩ := info_parts' infoF
                  have hown := own_new W6 24 5
                  have N1 := Lib.hid (show 0 + n ≤ maxLen from by simp only [maxLen]; omega)
                  have N2 := Lib.hid (show (0 + n) * 48 ≤ 140737488355328 from by omega)
                  clear hbx hby HB6
                  have x0 := HBX.out.cell 0
                  have y0 := HBY.out.cell 0
                  have x1 := HBX.out.cell 1
                  have y1 := HBY.out.cell 1
                  have x2 := HBX.out.cell 2
                  have y2 := HBY.out.cell 2
                  have x3 := HBX.out.cell 3
                  have y3 := HBY.out.cell 3
                  have x4 := HBX.out.cell 4
                  have y4 := HBY.out.cell 4
                  simp [fcs] at x0 x1 x2 x3 x4 y0 y1 y2 y3 y4
                  go_upto_region 20 with (fail)
                  try rw [hW6]
                  clear hW6 c0 c1 c2 c3 c4 d0 d1 d2 d3 d4 f0 f1 f2 f3 f4 e1 x0 x1 x2 x3 x4 y0 y1 y2 y3 y4
                  go_wp2_with (first
                    | (at_builtin
                       go_must (refine App.wpList_append_any _ rfl (.tmp 174) (.tmp 175) _ rfl W6.heap.size 24 i0 _ 5 48 Try.underlying22 hi0 hz0' hz1 hz2 rfl (by omega) _ 0 [] rfl hown _ _ n c (l.flatMap fcs) rfl hrd (fcs_one l) N1.out N2.out (Gen.b_alloc (Below.refl _ _)).size ?_)
                       intro v7 w7 ho7 hg7 ha7
                       have HB7 := Lib.hid (Gen.g_below hown hg7 (Gen.b_alloc (Below.refl _ _)) (Nat.le_refl _))
                       rw [List.nil_append, Nat.zero_add] at ho7
                       obtain ⟨g7, cap7, rfl, hge, _⟩ := ho7.form (by omega)
                       obtain ⟨V1, V2, V3, V4, V5, ev1, ev2, ev3, ev4, ev5, ⟨zsv0, sv0⟩, tv0, ⟨zsv1, sv1⟩, tv1, ⟨zsv2, sv2⟩, tv2, ⟨zsv3, sv3⟩, tv3, ⟨zsv4, sv4⟩, tv4, hoV⟩ := put_all ho7 HN.out HX.out yi yn yp yv yd
                       obtain ⟨U1, U2, U3, U4, U5, eu1, eu2, eu3, eu4, eu5, ⟨zsu0, su0⟩, tu0, ⟨zsu1, su1⟩, tu1, ⟨zsu2, su2⟩, tu2, ⟨zsu3, su3⟩, tu3, ⟨zsu4, su4⟩, tu4, hoU⟩ := put_all hoV (by rw [List.length_set]; exact HN.out) (show (l.set q ⟨yi, yn, yp, yv, yd⟩)[q + 1]? = some ⟨yi, yn, yp, yv, yd⟩ by rw [List.getElem?_set_ne (by omega)]; exact HY.out) xi xn xp xv xd
                       rw [swp_set HX.out HY.out] at hoU
                       have hbV : Below W6.heap.size W6 V5 := by rw [← ev5, ← ev4, ← ev3, ← ev2, ← ev1]; exact Gen.b_set (Gen.b_set (Gen.b_set (Gen.b_set (Gen.b_set HB7.out hge) hge) hge) hge) hge
                       have HBU := Lib.hid (show Below W6.heap.size W6 U5 by rw [← eu5, ← eu4, ← eu3, ← eu2, ← eu1]; exact Gen.b_set (Gen.b_set (Gen.b_set (Gen.b_set (Gen.b_set hbV hge) hge) hge) hge) hge)
                       have HBX7 := Lib.hid (HBX.out.keep hbV)
                       have HBY7 := Lib.hid (HBY.out.keep HB7.out)
                       have HVS := Lib.hid (fValue_any (c := cap7) (n := n) i p b (nm := nm) (by rw [swp_len]; exact HN.out) (rs_own fcs5 (by rw [swp_len]; exact HN.out) hoU) (by omega) (fun x hx => HNM.out x (swp_mem hx)) (by omega))
                       have HVS := Lib.hid (show Calls Try.prog 16 #[.slice (some ⟨g7, 0, none⟩) n cap7, .int .i64 i, .string ⟨nm.toArray⟩, .int .i64 p, .int .i64 b] U5 fun e w' => e = .returned (.tuple #[.int .i64 (vI (valF l i nm p b)), .bool (valF l i nm p b).isSome]) ∧ Below U5.heap.size U5 w' by have h := HVS.out; rw [more_3 HX.out HY.out HQD.out HNE.out] at h; exact h)
                       have hq5 : q * 5 + 4 < n * 5 := by omega
                       have x0 := HBX7.out.cell 0
                       have x1 := HBX7.out.cell 1
                       have x2 := HBX7.out.cell 2
                       have x3 := HBX7.out.cell 3
                       have x4 := HBX7.out.cell 4
                       have y0 := HBY7.out.cell 0
                       have y1 := HBY7.out.cell 1
                       have y2 := HBY7.out.cell 2
                       have y3 := HBY7.out.cell 3
                       have y4 := HBY7.out.cell 4
                       simp [fcs] at x0 x1 x2 x3 x4 y0 y1 y2 y3 y4
                       clear hg7 ha7 ho7 hown hrd hoV hoU hbV hge)
                    | fail)
                  go_must (refine (HVS.out).mono ?_)
                  rintro e W9 ⟨rfl, hb9⟩
                  rw [HO2.out, HV2.out, HS2.out]
                  have HB9 := Lib.hid (Gen.over (Gen.over hb9 HBU.out) HBW.out)
                  clear hb9
                  go_wp2
                  go_ret
                  exact ⟨rfl, Gen.over HB9.out (Gen.over HB4.out HB2.out)⟩
                have e2 : (xn == yn) = false := by simp [q2]
                have HNE := Lib.hid (show ¬ ((⟨xi, xn, xp, xv, xd⟩ : Fa).is = (⟨yi, yn, yp, yv, yd⟩ : Fa).is ∧ (⟨xi, xn, xp, xv, xd⟩ : Fa).nm = (⟨yi, yn, yp, yv, yd⟩ : Fa).nm ∧ (⟨xi, xn, xp, xv, xd⟩ : Fa).pe = (⟨yi, yn, yp, yv, yd⟩ : Fa).pe) from fun h => q2 h.2.1)
                clear q2
                obtain ⟨W6, hW6⟩ : ∃ W6, ((w4.alloc (fobj ⟨xi, xn, xp, xv, xd⟩)).alloc (fobj ⟨yi, yn, yp, yv, yd⟩)) = W6 := ⟨_, rfl⟩
                have HBW := Lib.hid HB6.out
                rw [hW6] at HBW
                have hbx : Row W6 w4.heap.size 24 (fcs ⟨xi, xn, xp, xv, xd⟩).toArray := by rw [← hW6]; exact (Row.new w4 24 _).alloc _
                have hby : Row W6 (w4.heap.size + 1) 24 (fcs ⟨yi, yn, yp, yv, yd⟩).toArray := by rw [← hW6]; exact Gen.rowAt _ _ _ (by simp)
                have HBX := Lib.hid hbx
                have HBY := Lib.hid hby
                have hrd := rs_reads fcs5 (by omega) HN.out ((HC2.out.keep HB4.out).keep (Gen.over (Gen.b_alloc (x := .cells #[] 24) (Below.refl _ _)) HBW.out))
                obtain ⟨i0, hi0, hz0', hz1, hz2⟩ := info_parts' infoF
                have hown := own_new W6 24 5
                have N1 := Lib.hid (show 0 + n ≤ maxLen from by simp only [maxLen]; omega)
                have N2 := Lib.hid (show (0 + n) * 48 ≤ 140737488355328 from by omega)
                clear hbx hby HB6
                have x0 := HBX.out.cell 0
                have y0 := HBY.out.cell 0
                have x1 := HBX.out.cell 1
                have y1 := HBY.out.cell 1
                have x2 := HBX.out.cell 2
                have y2 := HBY.out.cell 2
                have x3 := HBX.out.cell 3
                have y3 := HBY.out.cell 3
                have x4 := HBX.out.cell 4
                have y4 := HBY.out.cell 4
                simp [fcs] at x0 x1 x2 x3 x4 y0 y1 y2 y3 y4
                go_upto_region 20 with (fail)
                try rw [hW6]
                clear hW6 c0 c1 c2 c3 c4 d0 d1 d2 d3 d4 f0 f1 f2 f3 f4 e1 x0 x1 x2 x3 x4 y0 y1 y2 y3 y4
                go_wp2_with (first
                  | (at_builtin
                     go_must (refine App.wpList_append_any _ rfl (.tmp 174) (.tmp 175) _ rfl W6.heap.size 24 i0 _ 5 48 Try.underlying22 hi0 hz0' hz1 hz2 rfl (by omega) _ 0 [] rfl hown _ _ n c (l.flatMap fcs) rfl hrd (fcs_one l) N1.out N2.out (Gen.b_alloc (Below.refl _ _)).size ?_)
                     intro v7 w7 ho7 hg7 ha7
                     have HB7 := Lib.hid (Gen.g_below hown hg7 (Gen.b_alloc (Below.refl _ _)) (Nat.le_refl _))
                     rw [List.nil_append, Nat.zero_add] at ho7
                     obtain ⟨g7, cap7, rfl, hge, _⟩ := ho7.form (by omega)
                     obtain ⟨V1, V2, V3, V4, V5, ev1, ev2, ev3, ev4, ev5, ⟨zsv0, sv0⟩, tv0, ⟨zsv1, sv1⟩, tv1, ⟨zsv2, sv2⟩, tv2, ⟨zsv3, sv3⟩, tv3, ⟨zsv4, sv4⟩, tv4, hoV⟩ := put_all ho7 HN.out HX.out yi yn yp yv yd
                     obtain ⟨U1, U2, U3, U4, U5, eu1, eu2, eu3, eu4, eu5, ⟨zsu0, su0⟩, tu0, ⟨zsu1, su1⟩, tu1, ⟨zsu2, su2⟩, tu2, ⟨zsu3, su3⟩, tu3, ⟨zsu4, su4⟩, tu4, hoU⟩ := put_all hoV (by rw [List.length_set]; exact HN.out) (show (l.set q ⟨yi, yn, yp, yv, yd⟩)[q + 1]? = some ⟨yi, yn, yp, yv, yd⟩ by rw [List.getElem?_set_ne (by omega)]; exact HY.out) xi xn xp xv xd
                     rw [swp_set HX.out HY.out] at hoU
                     have hbV : Below W6.heap.size W6 V5 := by rw [← ev5, ← ev4, ← ev3, ← ev2, ← ev1]; exact Gen.b_set (Gen.b_set (Gen.b_set (Gen.b_set (Gen.b_set HB7.out hge) hge) hge) hge) hge
                     have HBU := Lib.hid (show Below W6.heap.size W6 U5 by rw [← eu5, ← eu4, ← eu3, ← eu2, ← eu1]; exact Gen.b_set (Gen.b_set (Gen.b_set (Gen.b_set (Gen.b_set hbV hge) hge) hge) hge) hge)
                     have HBX7 := Lib.hid (HBX.out.keep hbV)
                     have HBY7 := Lib.hid (HBY.out.keep HB7.out)
                     have HVS := Lib.hid (fValue_any (c := cap7) (n := n) i p b (nm := nm) (by rw [swp_len]; exact HN.out) (rs_own fcs5 (by rw [swp_len]; exact HN.out) hoU) (by omega) (fun x hx => HNM.out x (swp_mem hx)) (by omega))
                     have HVS := Lib.hid (show Calls Try.prog 16 #[.slice (some ⟨g7, 0, none⟩) n cap7, .int .i64 i, .string ⟨nm.toArray⟩, .int .i64 p, .int .i64 b] U5 fun e w' => e = .returned (.tuple #[.int .i64 (vI (valF l i nm p b)), .bool (valF l i nm p b).isSome]) ∧ Below U5.heap.size U5 w' by have h := HVS.out; rw [more_3 HX.out HY.out HQD.out HNE.out] at h; exact h)
                     have hq5 : q * 5 + 4 < n * 5 := by omega
                     have x0 := HBX7.out.cell 0
                     have x1 := HBX7.out.cell 1
                     have x2 := HBX7.out.cell 2
                     have x3 := HBX7.out.cell 3
                     have x4 := HBX7.out.cell 4
                     have y0 := HBY7.out.cell 0
                     have y1 := HBY7.out.cell 1
                     have y2 := HBY7.out.cell 2
                     have y3 := HBY7.out.cell 3
                     have y4 := HBY7.out.cell 4
                     simp [fcs] at x0 x1 x2 x3 x4 y0 y1 y2 y3 y4
                     clear hg7 ha7 ho7 hown hrd hoV hoU hbV hge)
                  | fail)
                go_must (refine (HVS.out).mono ?_)
                rintro e W9 ⟨rfl, hb9⟩
                rw [HO2.out, HV2.out, HS2.out]
                have HB9 := Lib.hid (Gen.over (Gen.over hb9 HBU.out) HBW.out)
                clear hb9
                go_wp2
                go_ret
                exact ⟨rfl, Gen.over HB9.out (Gen.over HB4.out HB2.out)⟩
              have e1 : (xi == yi) = false := by simp [q1]
              have HNE := Lib.hid (show ¬ ((⟨xi, xn, xp, xv, xd⟩ : Fa).is = (⟨yi, yn, yp, yv, yd⟩ : Fa).is ∧ (⟨xi, xn, xp, xv, xd⟩ : Fa).nm = (⟨yi, yn, yp, yv, yd⟩ : Fa).nm ∧ (⟨xi, xn, xp, xv, xd⟩ : Fa).pe = (⟨yi, yn, yp, yv, yd⟩ : Fa).pe) from fun h => q1 h.1)
              clear q1
              obtain ⟨W6, hW6⟩ : ∃ W6, ((w4.alloc (fobj ⟨xi, xn, xp, xv, xd⟩)).alloc (fobj ⟨yi, yn, yp, yv, yd⟩)) = W6 := ⟨_, rfl⟩
              have HBW := Lib.hid HB6.out
              rw [hW6] at HBW
              have hbx : Row W6 w4.heap.size 24 (fcs ⟨xi, xn, xp, xv, xd⟩).toArray := by rw [← hW6]; exact (Row.new w4 24 _).alloc _
              have hby : Row W6 (w4.heap.size + 1) 24 (fcs ⟨yi, yn, yp, yv, yd⟩).toArray := by rw [← hW6]; exact Gen.rowAt _ _ _ (by simp)
              have HBX := Lib.hid hbx
              have HBY := Lib.hid hby
              have hrd := rs_reads fcs5 (by omega) HN.out ((HC2.out.keep HB4.out).keep (Gen.over (Gen.b_alloc (x := .cells #[] 24) (Below.refl _ _)) HBW.out))
              obtain ⟨i0, hi0, hz0', hz1, hz2⟩ := info_parts' infoF
              have hown := own_new W6 24 5
              have N1 := Lib.hid (show 0 + n ≤ maxLen from by simp only [maxLen]; omega)
              have N2 := Lib.hid (show (0 + n) * 48 ≤ 140737488355328 from by omega)
              clear hbx hby HB6
              have x0 := HBX.out.cell 0
              have y0 := HBY.out.cell 0
              have x1 := HBX.out.cell 1
              have y1 := HBY.out.cell 1
              have x2 := HBX.out.cell 2
              have y2 := HBY.out.cell 2
              have x3 := HBX.out.cell 3
              have y3 := HBY.out.cell 3
              have x4 := HBX.out.cell 4
              have y4 := HBY.out.cell 4
              simp [fcs] at x0 x1 x2 x3 x4 y0 y1 y2 y3 y4
              go_upto_region 20 with (fail)
              try rw [hW6]
              clear hW6 c0 c1 c2 c3 c4 d0 d1 d2 d3 d4 f0 f1 f2 f3 f4 e1 x0 x1 x2 x3 x4 y0 y1 y2 y3 y4
              go_wp2_with (first
                | (at_builtin
                   go_must (refine App.wpList_append_any _ rfl (.tmp 174) (.tmp 175) _ rfl W6.heap.size 24 i0 _ 5 48 Try.underlying22 hi0 hz0' hz1 hz2 rfl (by omega) _ 0 [] rfl hown _ _ n c (l.flatMap fcs) rfl hrd (fcs_one l) N1.out N2.out (Gen.b_alloc (Below.refl _ _)).size ?_)
                   intro v7 w7 ho7 hg7 ha7
                   have HB7 := Lib.hid (Gen.g_below hown hg7 (Gen.b_alloc (Below.refl _ _)) (Nat.le_refl _))
                   rw [List.nil_append, Nat.zero_add] at ho7
                   obtain ⟨g7, cap7, rfl, hge, _⟩ := ho7.form (by omega)
                   obtain ⟨V1, V2, V3, V4, V5, ev1, ev2, ev3, ev4, ev5, ⟨zsv0, sv0⟩, tv0, ⟨zsv1, sv1⟩, tv1, ⟨zsv2, sv2⟩, tv2, ⟨zsv3, sv3⟩, tv3, ⟨zsv4, sv4⟩, tv4, hoV⟩ := put_all ho7 HN.out HX.out yi yn yp yv yd
                   obtain ⟨U1, U2, U3, U4, U5, eu1, eu2, eu3, eu4, eu5, ⟨zsu0, su0⟩, tu0, ⟨zsu1, su1⟩, tu1, ⟨zsu2, su2⟩, tu2, ⟨zsu3, su3⟩, tu3, ⟨zsu4, su4⟩, tu4, hoU⟩ := put_all hoV (by rw [List.length_set]; exact HN.out) (show (l.set q ⟨yi, yn, yp, yv, yd⟩)[q + 1]? = some ⟨yi, yn, yp, yv, yd⟩ by rw [List.getElem?_set_ne (by omega)]; exact HY.out) xi xn xp xv xd
                   rw [swp_set HX.out HY.out] at hoU
                   have hbV : Below W6.heap.size W6 V5 := by rw [← ev5, ← ev4, ← ev3, ← ev2, ← ev1]; exact Gen.b_set (Gen.b_set (Gen.b_set (Gen.b_set (Gen.b_set HB7.out hge) hge) hge) hge) hge
                   have HBU := Lib.hid (show Below W6.heap.size W6 U5 by rw [← eu5, ← eu4, ← eu3, ← eu2, ← eu1]; exact Gen.b_set (Gen.b_set (Gen.b_set (Gen.b_set (Gen.b_set hbV hge) hge) hge) hge) hge)
                   have HBX7 := Lib.hid (HBX.out.keep hbV)
                   have HBY7 := Lib.hid (HBY.out.keep HB7.out)
                   have HVS := Lib.hid (fValue_any (c := cap7) (n := n) i p b (nm := nm) (by rw [swp_len]; exact HN.out) (rs_own fcs5 (by rw [swp_len]; exact HN.out) hoU) (by omega) (fun x hx => HNM.out x (swp_mem hx)) (by omega))
                   have HVS := Lib.hid (show Calls Try.prog 16 #[.slice (some ⟨g7, 0, none⟩) n cap7, .int .i64 i, .string ⟨nm.toArray⟩, .int .i64 p, .int .i64 b] U5 fun e w' => e = .returned (.tuple #[.int .i64 (vI (valF l i nm p b)), .bool (valF l i nm p b).isSome]) ∧ Below U5.heap.size U5 w' by have h := HVS.out; rw [more_3 HX.out HY.out HQD.out HNE.out] at h; exact h)
                   have hq5 : q * 5 + 4 < n * 5 := by omega
                   have x0 := HBX7.out.cell 0
                   have x1 := HBX7.out.cell 1
                   have x2 := HBX7.out.cell 2
                   have x3 := HBX7.out.cell 3
                   have x4 := HBX7.out.cell 4
                   have y0 := HBY7.out.cell 0
                   have y1 := HBY7.out.cell 1
                   have y2 := HBY7.out.cell 2
                   have y3 := HBY7.out.cell 3
                   have y4 := HBY7.out.cell 4
                   simp [fcs] at x0 x1 x2 x3 x4 y0 y1 y2 y3 y4
                   clear hg7 ha7 ho7 hown hrd hoV hoU hbV hge)
                | fail)
              go_must (refine (HVS.out).mono ?_)
              rintro e W9 ⟨rfl, hb9⟩
              rw [HO2.out, HV2.out, HS2.out]
              have HB9 := Lib.hid (Gen.over (Gen.over hb9 HBU.out) HBW.out)
              clear hb9
              go_wp2
              go_ret
              exact ⟨rfl, Gen.over HB9.out (Gen.over HB4.out HB2.out)⟩
end Go.Proofs.Ytcnfonhcgcblgaa.Fc
