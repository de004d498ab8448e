/- Fall: FallTwice. -/
import Derived.Test.YtdmbgdbmfenbfaaFaU
import Derived.BigQuiet
namespace Go.Proofs.Ytdmbgdbmfenbfaa.Fa
open Go.ChangeShapes Go.WideShapes Go.ChangeAt Go.RowKit Go.Proofs.Ytdmbgdbmfenbfaa.Cell
set_option linter.unusedVariables false
set_option linter.unusedSimpArgs false
set_option maxRecDepth 100000 in
set_option maxHeartbeats 16000000 in
theorem twice_any (d : Dl) (p : Pl) (m m2 : Int) (w : World) (h : Dm w d p) (hbig : d.st.length ≤ 9223372036854775807) :
    Calls Try.prog 6 #[dval d p, .int .i64 m, .int .i64 m2] w fun e' w' => e' = .returned (.bool true) ∧ Below w.heap.size w w' := by
  show Calls Try.prog 6 #[.agg #[.int .i64 d.c, .int .i64 d.r, .int .i64 d.t, .int .i64 d.e, .slice p.A1 d.tr.length p.c1, .slice p.A2 d.te.length p.c2, .slice p.A3 d.st.length p.c3], .int .i64 m, .int .i64 m2] w _
  have hB0 : Below w.heap.size w (w.alloc (.cells #[.int .i64 d.c, .int .i64 d.r, .int .i64 d.t, .int .i64 d.e, .slice p.A1 d.tr.length p.c1, .slice p.A2 d.te.length p.c2, .slice p.A3 d.st.length p.c3] 26)) := Gen.b_alloc (Below.refl _ _)
  have HD0 := Lib.hid (show Row (w.alloc (.cells #[.int .i64 d.c, .int .i64 d.r, .int .i64 d.t, .int .i64 d.e, .slice p.A1 d.tr.length p.c1, .slice p.A2 d.te.length p.c2, .slice p.A3 d.st.length p.c3] 26)) w.heap.size 26 #[.int .i64 d.c, .int .i64 d.r, .int .i64 d.t, .int .i64 d.e, .slice p.A1 d.tr.length p.c1, .slice p.A2 d.te.length p.c2, .slice p.A3 d.st.length p.c3] from Row.new _ _ _)
  have HM0 := Lib.hid (h.keep hB0)
  have HB0 := Lib.hid hB0
  obtain ⟨z, hz⟩ : ∃ z, d.st.length = z := ⟨_, rfl⟩
  rw [hz] at hbig
  have HZ := Lib.hid hz
  clear hB0 h hz
  go_enter Try.func6, Try.ntmps6
  go_wp2_with (fail)
  go_must (refine (small_any _).mono ?_)
  rintro e1 w1 ⟨rfl, hb⟩
  have HB1 := Lib.hid (Gen.over hb HB0.out)
  have HD1 := Lib.hid (HD0.out.keep hb)
  have HM1 := Lib.hid (HM0.out.keep hb)
  clear hb HB0 HD0 HM0
  go_wp2_with (fail)
  go_loopw [8] (fun iv wr => ∃ i : Nat, i ≤ z ∧ iv = .int .i64 i ∧ Hid (∀ s ∈ d.st.take i, pd s) ∧ Below w1.heap.size w1 wr) (fun iv _ => z - (intOf iv).toNat)
  case atStart => exact ⟨0, Nat.zero_le _, rfl, Lib.hid (fun s hs => by simp at hs), Below.refl _ _⟩
  case round =>
    obtain ⟨i, hi, rfl, HP, hW⟩ := hrel
    have ii0 : (0 : Int) ≤ (i : Int) := by omega
    have k6 : wr.cell? ⟨w.heap.size, 6, none⟩ = some (.slice p.A3 z p.c3) := by have := (HD1.out.keep hW).cell 6; rw [← HZ.out]; exact this
    have HB9 := Lib.hid (Gen.over hW HB1.out)
    by_cases hlt : i < z
    · have hltI : (i : Int) < (z : Int) := by omega
      obtain ⟨⟨sk, sn, sa⟩, hx⟩ := at_ d.st i (by rw [HZ.out]; exact hlt)
      obtain ⟨b, off, hA, hcell⟩ := (HM1.out.keep hW).t3 (by rw [HZ.out]; omega)
      rw [hA] at k6
      have d0 := hcell i _ hx 0 _ rfl
      rw [Nat.add_zero] at d0
      dsimp only at d0
      have HTK := Lib.hid (show pd ⟨sk, sn, sa⟩ → ∀ s ∈ d.st.take (i + 1), pd s from fun hp s hs => by
        rw [take_snoc hx] at hs
        rcases List.mem_append.1 hs with hs | hs
        · exact HP.out s hs
        · rw [List.mem_singleton.1 hs]; exact hp)
      have HW9 := Lib.hid hW
      clear hcell hx hW hA
      by_cases s0 : sk = 0
      · subst s0
        have HT2 := Lib.hid (HTK.out (.inl rfl))
        clear HTK
        go_wp2
        go_roundw
        case rel => exact ⟨i + 1, by omega, by go_num, HT2, HW9.out⟩
        case measure => simp [intOf]; omega
      · by_cases s1 : sk = 1
        · subst s1
          have HT2 := Lib.hid (HTK.out (.inr rfl))
          clear HTK s0
          go_wp2
          go_roundw
          case rel => exact ⟨i + 1, by omega, by go_num, HT2, HW9.out⟩
          case measure => simp [intOf]; omega
        · have b0 : (sk != 0) = true := by rw [bne_iff_ne]; exact s0
          have b1 : (sk != 1) = true := by rw [bne_iff_ne]; exact s1
          clear s0 s1
          go_wp2
          go_ret
          exact ⟨rfl, HB9.out⟩
    · obtain rfl : z = i := by omega
      have HPD : Hid (∀ s ∈ d.st, pd s) := Lib.hid (by have := HP.out; rw [List.take_of_length_le (by rw [HZ.out]; exact Nat.le_refl _)] at this; exact this)
      have HD2 := Lib.hid (HD1.out.keep hW)
      have HM2 := Lib.hid (HM1.out.keep hW)
      clear hW hlt hi HP HB1 HD1 HM1
      go_wp2_with (fail)
      clear k6
      go_must (refine (rmoney_any _ _).mono ?_)
      obtain ⟨w2, hw2⟩ : ∃ x, x = wr := ⟨_, rfl⟩
      subst hw2
      rintro e3 w3 ⟨rfl, rfl⟩
      by_cases hm : mon m
      · have HMO := Lib.hid hm
        rw [decide_eq_true hm]
        clear hm
        go_wp2_with (fail)
        go_must (refine (rmoney_any _ _).mono ?_)
        rintro e3 w3 ⟨rfl, rfl⟩
        by_cases hm2 : mon m2
        · have HMO2 := Lib.hid hm2
          rw [decide_eq_true hm2]
          clear hm2
          have k1 : w2.cell? ⟨w.heap.size, 1, none⟩ = some (.int .i64 d.r) := HD2.out.cell 1
          by_cases hr : d.r = 0
          · have HRR := Lib.hid hr
            have br : (d.r != 0) = false := by rw [hr]; rfl
            clear hr
            have k0 : w2.cell? ⟨w.heap.size, 0, none⟩ = some (.int .i64 d.c) := HD2.out.cell 0
            have k2 : w2.cell? ⟨w.heap.size, 2, none⟩ = some (.int .i64 d.t) := HD2.out.cell 2
            have k3 : w2.cell? ⟨w.heap.size, 3, none⟩ = some (.int .i64 d.e) := HD2.out.cell 3
            have k4 : w2.cell? ⟨w.heap.size, 4, none⟩ = some (.slice p.A1 d.tr.length p.c1) := HD2.out.cell 4
            have k5 : w2.cell? ⟨w.heap.size, 5, none⟩ = some (.slice p.A2 d.te.length p.c2) := HD2.out.cell 5
            have k6 : w2.cell? ⟨w.heap.size, 6, none⟩ = some (.slice p.A3 d.st.length p.c3) := HD2.out.cell 6
            go_wp2_with (fail)
            go_must (refine (run_fun d p m _ HM2.out).mono ?_)
            rintro e4 w4 ⟨a, xa, ka, A1, c1, A2, c2, A3, c3, At, ct, ha, hxa, hka, rfl, hMa, hIa, hb⟩
            have HEA := Lib.hid ha
            have HKA := Lib.hid hka
            clear br k0 k1 k2 k3 k4 k5 k6 ha hxa hka
            dsimp only
            have hx : Below w4.heap.size w4 (w4.alloc (.cells #[.int .i64 a.c, .int .i64 a.r, .int .i64 a.t, .int .i64 a.e, .slice A1 a.tr.length c1, .slice A2 a.te.length c2, .slice A3 a.st.length c3] 26)) := Gen.b_alloc (Below.refl _ _)
            have HB4 := Lib.hid (Gen.over hx (Gen.over hb HB9.out))
            have HD4 := Lib.hid ((HD2.out.keep hb).keep hx)
            have HM4 := Lib.hid ((HM2.out.keep hb).keep hx)
            have HA4 := Lib.hid (show Row (w4.alloc (.cells #[.int .i64 a.c, .int .i64 a.r, .int .i64 a.t, .int .i64 a.e, .slice A1 a.tr.length c1, .slice A2 a.te.length c2, .slice A3 a.st.length c3] 26)) w4.heap.size 26 #[.int .i64 a.c, .int .i64 a.r, .int .i64 a.t, .int .i64 a.e, .slice A1 a.tr.length c1, .slice A2 a.te.length c2, .slice A3 a.st.length c3] from Row.new _ _ _)
            have HN4 := Lib.hid (hMa.keep hx)
            clear hb hx hMa hIa HB9 HD2 HM2
            have a0 : (w4.alloc (.cells #[.int .i64 a.c, .int .i64 a.r, .int .i64 a.t, .int .i64 a.e, .slice A1 a.tr.length c1, .slice A2 a.te.length c2, .slice A3 a.st.length c3] 26)).cell? ⟨w4.heap.size, 0, none⟩ = some (.int .i64 a.c) := HA4.out.cell 0
            have a1 : (w4.alloc (.cells #[.int .i64 a.c, .int .i64 a.r, .int .i64 a.t, .int .i64 a.e, .slice A1 a.tr.length c1, .slice A2 a.te.length c2, .slice A3 a.st.length c3] 26)).cell? ⟨w4.heap.size, 1, none⟩ = some (.int .i64 a.r) := HA4.out.cell 1
            have a2 : (w4.alloc (.cells #[.int .i64 a.c, .int .i64 a.r, .int .i64 a.t, .int .i64 a.e, .slice A1 a.tr.length c1, .slice A2 a.te.length c2, .slice A3 a.st.length c3] 26)).cell? ⟨w4.heap.size, 2, none⟩ = some (.int .i64 a.t) := HA4.out.cell 2
            have a3 : (w4.alloc (.cells #[.int .i64 a.c, .int .i64 a.r, .int .i64 a.t, .int .i64 a.e, .slice A1 a.tr.length c1, .slice A2 a.te.length c2, .slice A3 a.st.length c3] 26)).cell? ⟨w4.heap.size, 3, none⟩ = some (.int .i64 a.e) := HA4.out.cell 3
            have a4 : (w4.alloc (.cells #[.int .i64 a.c, .int .i64 a.r, .int .i64 a.t, .int .i64 a.e, .slice A1 a.tr.length c1, .slice A2 a.te.length c2, .slice A3 a.st.length c3] 26)).cell? ⟨w4.heap.size, 4, none⟩ = some (.slice A1 a.tr.length c1) := HA4.out.cell 4
            have a5 : (w4.alloc (.cells #[.int .i64 a.c, .int .i64 a.r, .int .i64 a.t, .int .i64 a.e, .slice A1 a.tr.length c1, .slice A2 a.te.length c2, .slice A3 a.st.length c3] 26)).cell? ⟨w4.heap.size, 5, none⟩ = some (.slice A2 a.te.length c2) := HA4.out.cell 5
            have a6 : (w4.alloc (.cells #[.int .i64 a.c, .int .i64 a.r, .int .i64 a.t, .int .i64 a.e, .slice A1 a.tr.length c1, .slice A2 a.te.length c2, .slice A3 a.st.length c3] 26)).cell? ⟨w4.heap.size, 6, none⟩ = some (.slice A3 a.st.length c3) := HA4.out.cell 6
            go_wp2_with (fail)
            go_must (refine (run_fun a ⟨A1, c1, A2, c2, A3, c3⟩ m2 _ HN4.out).mono ?_)
            rintro e5 w5 ⟨b, xb, kb, B1, d1, B2, d2, B3, d3, Bt, dt, hbD, hxb, hkb, rfl, hMb, hIb, hb⟩
            have HEB := Lib.hid hbD
            have HKB := Lib.hid hkb
            clear a0 a1 a2 a3 a4 a5 a6 hbD hxb hkb
            dsimp only
            have hx : Below w5.heap.size w5 (w5.alloc (.cells #[.int .i64 b.c, .int .i64 b.r, .int .i64 b.t, .int .i64 b.e, .slice B1 b.tr.length d1, .slice B2 b.te.length d2, .slice B3 b.st.length d3] 26)) := Gen.b_alloc (Below.refl _ _)
            have HB5 := Lib.hid (Gen.over hx (Gen.over hb HB4.out))
            have HD5 := Lib.hid ((HD4.out.keep hb).keep hx)
            have HM5 := Lib.hid ((HM4.out.keep hb).keep hx)
            have HBR := Lib.hid (show Row (w5.alloc (.cells #[.int .i64 b.c, .int .i64 b.r, .int .i64 b.t, .int .i64 b.e, .slice B1 b.tr.length d1, .slice B2 b.te.length d2, .slice B3 b.st.length d3] 26)) w5.heap.size 26 #[.int .i64 b.c, .int .i64 b.r, .int .i64 b.t, .int .i64 b.e, .slice B1 b.tr.length d1, .slice B2 b.te.length d2, .slice B3 b.st.length d3] from Row.new _ _ _)
            have HN5 := Lib.hid (hMb.keep hx)
            clear hb hx hMb hIb HB4 HD4 HM4 HA4 HN4
            have k0 : (w5.alloc (.cells #[.int .i64 b.c, .int .i64 b.r, .int .i64 b.t, .int .i64 b.e, .slice B1 b.tr.length d1, .slice B2 b.te.length d2, .slice B3 b.st.length d3] 26)).cell? ⟨w.heap.size, 0, none⟩ = some (.int .i64 d.c) := HD5.out.cell 0
            have k1 : (w5.alloc (.cells #[.int .i64 b.c, .int .i64 b.r, .int .i64 b.t, .int .i64 b.e, .slice B1 b.tr.length d1, .slice B2 b.te.length d2, .slice B3 b.st.length d3] 26)).cell? ⟨w.heap.size, 1, none⟩ = some (.int .i64 d.r) := HD5.out.cell 1
            have k2 : (w5.alloc (.cells #[.int .i64 b.c, .int .i64 b.r, .int .i64 b.t, .int .i64 b.e, .slice B1 b.tr.length d1, .slice B2 b.te.length d2, .slice B3 b.st.length d3] 26)).cell? ⟨w.heap.size, 2, none⟩ = some (.int .i64 d.t) := HD5.out.cell 2
            have k3 : (w5.alloc (.cells #[.int .i64 b.c, .int .i64 b.r, .int .i64 b.t, .int .i64 b.e, .slice B1 b.tr.length d1, .slice B2 b.te.length d2, .slice B3 b.st.length d3] 26)).cell? ⟨w.heap.size, 3, none⟩ = some (.int .i64 d.e) := HD5.out.cell 3
            have k4 : (w5.alloc (.cells #[.int .i64 b.c, .int .i64 b.r, .int .i64 b.t, .int .i64 b.e, .slice B1 b.tr.length d1, .slice B2 b.te.length d2, .slice B3 b.st.length d3] 26)).cell? ⟨w.heap.size, 4, none⟩ = some (.slice p.A1 d.tr.length p.c1) := HD5.out.cell 4
            have k5 : (w5.alloc (.cells #[.int .i64 b.c, .int .i64 b.r, .int .i64 b.t, .int .i64 b.e, .slice B1 b.tr.length d1, .slice B2 b.te.length d2, .slice B3 b.st.length d3] 26)).cell? ⟨w.heap.size, 5, none⟩ = some (.slice p.A2 d.te.length p.c2) := HD5.out.cell 5
            have k6 : (w5.alloc (.cells #[.int .i64 b.c, .int .i64 b.r, .int .i64 b.t, .int .i64 b.e, .slice B1 b.tr.length d1, .slice B2 b.te.length d2, .slice B3 b.st.length d3] 26)).cell? ⟨w.heap.size, 6, none⟩ = some (.slice p.A3 d.st.length p.c3) := HD5.out.cell 6
            have bm1 := HMO.out.1
            have bm2 := HMO.out.2
            have bn1 := HMO2.out.1
            have bn2 := HMO2.out.2
            have y1 : IntKind.i64.wrap (m + m2) = m + m2 := IntWalk.i64_in _ (by omega)
            go_wp2_with (fail)
            go_must (refine (run_fun d p (m + m2) _ HM5.out).mono ?_)
            rintro e6 w6 ⟨g, xg, kg, G1, f1, G2, f2, G3, f3, Gt, ft, hgD, hxg, hkg, rfl, hMg, hIg, hb⟩
            have HEG := Lib.hid hgD
            have HKG := Lib.hid hkg
            clear k0 k1 k2 k3 k4 k5 k6 y1 hgD hxg hkg
            dsimp only
            have hx : Below w6.heap.size w6 (w6.alloc (.cells #[.int .i64 g.c, .int .i64 g.r, .int .i64 g.t, .int .i64 g.e, .slice G1 g.tr.length f1, .slice G2 g.te.length f2, .slice G3 g.st.length f3] 26)) := Gen.b_alloc (Below.refl _ _)
            have HB6 := Lib.hid (Gen.over hx (Gen.over hb HB5.out))
            have HD6 := Lib.hid ((HD5.out.keep hb).keep hx)
            have HBR6 := Lib.hid ((HBR.out.keep hb).keep hx)
            have HN6 := Lib.hid ((HN5.out.keep hb).keep hx)
            have HCR := Lib.hid (show Row (w6.alloc (.cells #[.int .i64 g.c, .int .i64 g.r, .int .i64 g.t, .int .i64 g.e, .slice G1 g.tr.length f1, .slice G2 g.te.length f2, .slice G3 g.st.length f3] 26)) w6.heap.size 26 #[.int .i64 g.c, .int .i64 g.r, .int .i64 g.t, .int .i64 g.e, .slice G1 g.tr.length f1, .slice G2 g.te.length f2, .slice G3 g.st.length f3] from Row.new _ _ _)
            have HG6 := Lib.hid (hMg.keep hx)
            clear hb hx hMg hIg HB5 HD5 HM5 HBR HN5
            obtain ⟨T1, T2⟩ := twice_all HPD.out HMO.out HMO2.out HRR.out
            rw [← HEA.out] at T1 T2
            rw [← HKA.out, ← HKB.out, ← HKG.out, ← HEB.out, ← HEG.out] at T1
            rw [← HKA.out, ← HKB.out, ← HKG.out] at T2
            have HRT := Lib.hid (rgb_iff.1 (runD_right (d := d) (m := m + m2)))
            rw [← HEG.out] at HRT
            by_cases hk0 : kg = 0
            · obtain ⟨q1, q2⟩ := T2 hk0
              obtain ⟨t1, t2, t3⟩ := T1 q1 q2 hk0
              have HBC := Lib.hid t1
              have v1 : (g.e == d.e) = true := by rw [t2, beq_self_eq_true]
              have v2 : (g.r == 0) = true := by rw [t3]; rfl
              obtain ⟨hq1, hq2, hq3⟩ : g.tr.length ≤ 40 ∧ g.te.length ≤ 40 ∧ g.st.length ≤ 40 := ⟨HRT.out.l1, HRT.out.l2, HRT.out.l3⟩
              clear T1 T2 t1 t2 t3 HEA HEB HEG HKA HKB HKG
              subst hk0 q1 q2
              obtain rfl := HBC.out
              have a0 : (w6.alloc (.cells #[.int .i64 b.c, .int .i64 b.r, .int .i64 b.t, .int .i64 b.e, .slice G1 b.tr.length f1, .slice G2 b.te.length f2, .slice G3 b.st.length f3] 26)).cell? ⟨w5.heap.size, 0, none⟩ = some (.int .i64 b.c) := HBR6.out.cell 0
              have a1 : (w6.alloc (.cells #[.int .i64 b.c, .int .i64 b.r, .int .i64 b.t, .int .i64 b.e, .slice G1 b.tr.length f1, .slice G2 b.te.length f2, .slice G3 b.st.length f3] 26)).cell? ⟨w5.heap.size, 1, none⟩ = some (.int .i64 b.r) := HBR6.out.cell 1
              have a2 : (w6.alloc (.cells #[.int .i64 b.c, .int .i64 b.r, .int .i64 b.t, .int .i64 b.e, .slice G1 b.tr.length f1, .slice G2 b.te.length f2, .slice G3 b.st.length f3] 26)).cell? ⟨w5.heap.size, 2, none⟩ = some (.int .i64 b.t) := HBR6.out.cell 2
              have a3 : (w6.alloc (.cells #[.int .i64 b.c, .int .i64 b.r, .int .i64 b.t, .int .i64 b.e, .slice G1 b.tr.length f1, .slice G2 b.te.length f2, .slice G3 b.st.length f3] 26)).cell? ⟨w5.heap.size, 3, none⟩ = some (.int .i64 b.e) := HBR6.out.cell 3
              have a4 : (w6.alloc (.cells #[.int .i64 b.c, .int .i64 b.r, .int .i64 b.t, .int .i64 b.e, .slice G1 b.tr.length f1, .slice G2 b.te.length f2, .slice G3 b.st.length f3] 26)).cell? ⟨w5.heap.size, 4, none⟩ = some (.slice B1 b.tr.length d1) := HBR6.out.cell 4
              have a5 : (w6.alloc (.cells #[.int .i64 b.c, .int .i64 b.r, .int .i64 b.t, .int .i64 b.e, .slice G1 b.tr.length f1, .slice G2 b.te.length f2, .slice G3 b.st.length f3] 26)).cell? ⟨w5.heap.size, 5, none⟩ = some (.slice B2 b.te.length d2) := HBR6.out.cell 5
              have a6 : (w6.alloc (.cells #[.int .i64 b.c, .int .i64 b.r, .int .i64 b.t, .int .i64 b.e, .slice G1 b.tr.length f1, .slice G2 b.te.length f2, .slice G3 b.st.length f3] 26)).cell? ⟨w5.heap.size, 6, none⟩ = some (.slice B3 b.st.length d3) := HBR6.out.cell 6
              have m0 : (w6.alloc (.cells #[.int .i64 b.c, .int .i64 b.r, .int .i64 b.t, .int .i64 b.e, .slice G1 b.tr.length f1, .slice G2 b.te.length f2, .slice G3 b.st.length f3] 26)).cell? ⟨w6.heap.size, 0, none⟩ = some (.int .i64 b.c) := HCR.out.cell 0
              have m1 : (w6.alloc (.cells #[.int .i64 b.c, .int .i64 b.r, .int .i64 b.t, .int .i64 b.e, .slice G1 b.tr.length f1, .slice G2 b.te.length f2, .slice G3 b.st.length f3] 26)).cell? ⟨w6.heap.size, 1, none⟩ = some (.int .i64 b.r) := HCR.out.cell 1
              have m2 : (w6.alloc (.cells #[.int .i64 b.c, .int .i64 b.r, .int .i64 b.t, .int .i64 b.e, .slice G1 b.tr.length f1, .slice G2 b.te.length f2, .slice G3 b.st.length f3] 26)).cell? ⟨w6.heap.size, 2, none⟩ = some (.int .i64 b.t) := HCR.out.cell 2
              have m3 : (w6.alloc (.cells #[.int .i64 b.c, .int .i64 b.r, .int .i64 b.t, .int .i64 b.e, .slice G1 b.tr.length f1, .slice G2 b.te.length f2, .slice G3 b.st.length f3] 26)).cell? ⟨w6.heap.size, 3, none⟩ = some (.int .i64 b.e) := HCR.out.cell 3
              have m4 : (w6.alloc (.cells #[.int .i64 b.c, .int .i64 b.r, .int .i64 b.t, .int .i64 b.e, .slice G1 b.tr.length f1, .slice G2 b.te.length f2, .slice G3 b.st.length f3] 26)).cell? ⟨w6.heap.size, 4, none⟩ = some (.slice G1 b.tr.length f1) := HCR.out.cell 4
              have m5 : (w6.alloc (.cells #[.int .i64 b.c, .int .i64 b.r, .int .i64 b.t, .int .i64 b.e, .slice G1 b.tr.length f1, .slice G2 b.te.length f2, .slice G3 b.st.length f3] 26)).cell? ⟨w6.heap.size, 5, none⟩ = some (.slice G2 b.te.length f2) := HCR.out.cell 5
              have m6 : (w6.alloc (.cells #[.int .i64 b.c, .int .i64 b.r, .int .i64 b.t, .int .i64 b.e, .slice G1 b.tr.length f1, .slice G2 b.te.length f2, .slice G3 b.st.length f3] 26)).cell? ⟨w6.heap.size, 6, none⟩ = some (.slice G3 b.st.length f3) := HCR.out.cell 6
              go_wp2_with (fail)
              go_must (refine (dsame_eq b _ _ _ _ _ _ _ _ _ _ _ _ _ HN6.out HG6.out (by omega) (by omega) (by omega)).mono ?_)
              rintro e7 w7 ⟨rfl, hb⟩
              have hgr := HCR.out.keep hb
              have hdr := HD6.out.keep hb
              have m3 : w7.cell? ⟨w6.heap.size, 3, none⟩ = some (.int .i64 b.e) := hgr.cell 3
              have m1 : w7.cell? ⟨w6.heap.size, 1, none⟩ = some (.int .i64 b.r) := hgr.cell 1
              have k3 : w7.cell? ⟨w.heap.size, 3, none⟩ = some (.int .i64 d.e) := hdr.cell 3
              have HB7 := Lib.hid (Gen.over hb HB6.out)
              clear hb hgr hdr a0 a1 a2 a3 a4 a5 a6 m0 m2 m4 m5 m6
              go_wp2
              go_ret
              exact ⟨rfl, HB7.out⟩
            · have v0 : (kg != 0) = true := by rw [bne_iff_ne]; exact hk0
              clear T1 T2 hk0
              by_cases q1 : ka = 0
              · have v1 : (ka != 0) = false := by rw [q1]; rfl
                clear q1
                by_cases q2 : kb = 0
                · have v2 : (kb != 0) = false := by rw [q2]; rfl
                  clear q2
                  go_wp2
                  go_ret
                  exact ⟨rfl, HB6.out⟩
                · have v2 : (kb != 0) = true := by rw [bne_iff_ne]; exact q2
                  clear q2
                  go_wp2
                  go_ret
                  exact ⟨rfl, HB6.out⟩
              · have v1 : (ka != 0) = true := by rw [bne_iff_ne]; exact q1
                clear q1
                go_wp2
                go_ret
                exact ⟨rfl, HB6.out⟩
          · have br : (d.r != 0) = true := by rw [bne_iff_ne]; exact hr
            clear hr
            go_wp2
            go_ret
            exact ⟨rfl, HB9.out⟩
        · rw [decide_eq_false hm2]
          clear hm2
          go_wp2
          go_ret
          exact ⟨rfl, HB9.out⟩
      · rw [decide_eq_false hm]
        clear hm
        go_wp2
        go_ret
        exact ⟨rfl, HB9.out⟩
end Go.Proofs.Ytdmbgdbmfenbfaa.Fa
