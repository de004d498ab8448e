/- Fall: FallTells. -/
import Derived.Test.YtdmbgdbmfenbfaaFaZ
import Derived.Test.YtdmbgdbmfenbfaaFaP2
import Derived.BigQuiet
import Derived.Deep.Cut
import Derived.Deep.RegionHeld3
namespace Go.Proofs.Ytdmbgdbmfenbfaa.Fa
open Go.ChangeShapes Go.WideShapes Go.ChangeAt Go.RowKit Go.Proofs.Ytdmbgdbmfenbfaa.Cell
set_option linter.unusedVariables false
set_option linter.unusedSimpArgs false
section
variable (d : Dl) (p : Pl) (w : World) (h : Dm w d p)
include h
theorem xright : Calls Try.prog 12 #[.agg #[.int .i64 d.c, .int .i64 d.r, .int .i64 d.t, .int .i64 d.e, .slice p.A1 d.tr.length p.c1, .slice p.A2 d.te.length p.c2, .slice p.A3 d.st.length p.c3]] w fun e w' => e = .returned (.bool (rgb d)) ∧ Below w.heap.size w w' := right_any d p w h
theorem xpassed (i : Int) (hc : d.tr.length ≤ p.c1) : Calls Try.prog 14 #[.agg #[.int .i64 d.c, .int .i64 d.r, .int .i64 d.t, .int .i64 d.e, .slice p.A1 d.tr.length p.c1, .slice p.A2 d.te.length p.c2, .slice p.A3 d.st.length p.c3], .int .i64 i] w fun e w' => e = .returned (.bool (pasb d i)) ∧ Below w.heap.size w w' := by
  obtain ⟨c, r, t, e, tr, te, st⟩ := d
  obtain ⟨A1, c1, A2, c2, A3, c3⟩ := p
  exact passd_lit c r t e tr te st A1 A2 A3 c1 c2 c3 _ _ _ i w rfl rfl rfl h hc
theorem xrright (b1 : d.tr.length ≤ 1000000) (b2 : d.te.length ≤ 1000000) (b3 : d.st.length ≤ 1000000) : Calls Try.prog 13 #[.agg #[.int .i64 d.c, .int .i64 d.r, .int .i64 d.t, .int .i64 d.e, .slice p.A1 d.tr.length p.c1, .slice p.A2 d.te.length p.c2, .slice p.A3 d.st.length p.c3]] w fun e w' => e = .returned (.bool (rgb d)) ∧ Below w.heap.size w w' := by
  obtain ⟨c, r, t, e, tr, te, st⟩ := d
  obtain ⟨A1, c1, A2, c2, A3, c3⟩ := p
  exact rright_lit c r t e tr te st A1 A2 A3 c1 c2 c3 _ _ _ w rfl rfl rfl h b1 b2 b3
theorem xrpassed (i : Int) (b1 : d.tr.length ≤ 1000000) (b2 : d.te.length ≤ 1000000) (b3 : d.st.length ≤ 1000000) : Calls Try.prog 15 #[.agg #[.int .i64 d.c, .int .i64 d.r, .int .i64 d.t, .int .i64 d.e, .slice p.A1 d.tr.length p.c1, .slice p.A2 d.te.length p.c2, .slice p.A3 d.st.length p.c3], .int .i64 i] w fun e w' => e = .returned (.bool (pasb d i)) ∧ Below w.heap.size w w' := by
  obtain ⟨c, r, t, e, tr, te, st⟩ := d
  obtain ⟨A1, c1, A2, c2, A3, c3⟩ := p
  exact rpassed_lit c r t e tr te st A1 A2 A3 c1 c2 c3 _ _ _ w i rfl rfl rfl h b1 b2 b3
theorem xrrun (m : Int) (b1 : d.tr.length ≤ 1000000) (b2 : d.te.length ≤ 1000000) (b3 : d.st.length ≤ 1000000) : Calls Try.prog 9 #[.agg #[.int .i64 d.c, .int .i64 d.r, .int .i64 d.t, .int .i64 d.e, .slice p.A1 d.tr.length p.c1, .slice p.A2 d.te.length p.c2, .slice p.A3 d.st.length p.c3], .int .i64 m] w (RunF w d m) := by
  obtain ⟨c, r, t, e, tr, te, st⟩ := d
  obtain ⟨A1, c1, A2, c2, A3, c3⟩ := p
  by_cases hg : rgb ⟨c, r, t, e, tr, te, st⟩ = true
  · by_cases hm : mon m
    · by_cases hs : m + t ≤ 1000000000000000
      · exact rrun_ok c r t e m tr te st A1 A2 A3 c1 c2 c3 _ _ _ w rfl rfl rfl h b1 b2 b3 hg hm hs
      · exact rrun_rng c r t e m tr te st A1 A2 A3 c1 c2 c3 _ _ _ w rfl rfl rfl h b1 b2 b3 hg hm (by omega)
    · exact rrun_mon c r t e m tr te st A1 A2 A3 c1 c2 c3 _ _ _ w rfl rfl rfl h b1 b2 b3 hg hm
  · exact rrun_arg c r t e m tr te st A1 A2 A3 c1 c2 c3 _ _ _ w rfl rfl rfl h b1 b2 b3 (by simpa using hg)
end
theorem runX_len {d : Dl} {m : Int} : (runX d m).length ≤ d.st.length := by
  unfold runX
  by_cases h : runE d m = 0
  · rw [if_pos h]
    unfold dwn
    rw [run_len]
    exact Nat.le_refl _
  · rw [if_neg h]
    exact Nat.zero_le _
set_option maxRecDepth 100000 in
set_option maxHeartbeats 16000000 in
theorem tells_any (d : Dl) (p : Pl) (m i : Int) (w : World) (h : Dm w d p) (hcap : d.tr.length ≤ p.c1) (l1 : d.tr.length ≤ 9223372036854775807) (l2 : d.te.length ≤ 9223372036854775807) (l3 : d.st.length ≤ 9223372036854775807) :
    Calls Try.prog 3 #[dval d p, .int .i64 m, .int .i64 i] w fun e' w' => e' = .returned (.bool true) ∧ Below w.heap.size w w' := by
  show Calls Try.prog 3 #[.agg #[.int .i64 d.c, .int .i64 d.r, .int .i64 d.t, .int .i64 d.e, .slice p.A1 d.tr.length p.c1, .slice p.A2 d.te.length p.c2, .slice p.A3 d.st.length p.c3], .int .i64 m, .int .i64 i] w _
  have hB0 : Below w.heap.size w (w.alloc (.cells #[.int .i64 d.c, .int .i64 d.r, .int .i64 d.t, .int .i64 d.e, .slice p.A1 d.tr.length p.c1, .slice p.A2 d.te.length p.c2, .slice p.A3 d.st.length p.c3] 26)) := Gen.b_alloc (Below.refl _ _)
  have HD0 := Lib.hid (show Row (w.alloc (.cells #[.int .i64 d.c, .int .i64 d.r, .int .i64 d.t, .int .i64 d.e, .slice p.A1 d.tr.length p.c1, .slice p.A2 d.te.length p.c2, .slice p.A3 d.st.length p.c3] 26)) w.heap.size 26 #[.int .i64 d.c, .int .i64 d.r, .int .i64 d.t, .int .i64 d.e, .slice p.A1 d.tr.length p.c1, .slice p.A2 d.te.length p.c2, .slice p.A3 d.st.length p.c3] from Row.new _ _ _)
  have HM0 := Lib.hid (h.keep hB0)
  have HB0 := Lib.hid hB0
  have HCAP := Lib.hid hcap
  clear hB0 h hcap
  go_enter Try.func3, Try.ntmps3
  go_wp2_with (fail)
  go_must (refine (small_any _).mono ?_)
  rintro e1 w1 ⟨rfl, hb⟩
  have HB1 := Lib.hid (Gen.over hb HB0.out)
  have HD1 := Lib.hid (HD0.out.keep hb)
  have HM1 := Lib.hid (HM0.out.keep hb)
  clear hb HB0 HD0 HM0
  have k0 : w1.cell? ⟨w.heap.size, 0, none⟩ = some (.int .i64 d.c) := HD1.out.cell 0
  have k1 : w1.cell? ⟨w.heap.size, 1, none⟩ = some (.int .i64 d.r) := HD1.out.cell 1
  have k2 : w1.cell? ⟨w.heap.size, 2, none⟩ = some (.int .i64 d.t) := HD1.out.cell 2
  have k3 : w1.cell? ⟨w.heap.size, 3, none⟩ = some (.int .i64 d.e) := HD1.out.cell 3
  have k4 : w1.cell? ⟨w.heap.size, 4, none⟩ = some (.slice p.A1 d.tr.length p.c1) := HD1.out.cell 4
  have k5 : w1.cell? ⟨w.heap.size, 5, none⟩ = some (.slice p.A2 d.te.length p.c2) := HD1.out.cell 5
  have k6 : w1.cell? ⟨w.heap.size, 6, none⟩ = some (.slice p.A3 d.st.length p.c3) := HD1.out.cell 6
  by_cases g1 : d.tr.length ≤ 60
  case neg =>
    have f1 : (60 : Int) < (d.tr.length : Int) := by omega
    go_wp2
    go_ret
    exact ⟨rfl, HB1.out⟩
  have f1 : ¬((60 : Int) < (d.tr.length : Int)) := by omega
  by_cases g2 : d.te.length ≤ 60
  case neg =>
    have f2 : (60 : Int) < (d.te.length : Int) := by omega
    go_wp2
    go_ret
    exact ⟨rfl, HB1.out⟩
  have f2 : ¬((60 : Int) < (d.te.length : Int)) := by omega
  by_cases g3 : d.st.length ≤ 60
  case neg =>
    have f3 : (60 : Int) < (d.st.length : Int) := by omega
    go_wp2
    go_ret
    exact ⟨rfl, HB1.out⟩
  have f3 : ¬((60 : Int) < (d.st.length : Int)) := by omega
  have G1 := Lib.hid (show d.tr.length ≤ 1000000 by omega)
  have G2 := Lib.hid (show d.te.length ≤ 1000000 by omega)
  have G3 := Lib.hid (show d.st.length ≤ 1000000 by omega)
  go_wp2_with (fail)
  clear f1 f2 f3 g1 g2 g3 k0 k1 k2 k3 k4 k5 k6
  go_must (refine (run_fun d p m _ HM1.out).mono ?_)
  rintro e4 w4 ⟨a, x, ka, A1, c1, A2, c2, A3, c3, At, ct, ha, hxa, hka, rfl, hMa, hIa, hb⟩
  have HEA := Lib.hid ha
  have HXA := Lib.hid hxa
  have HKA := Lib.hid hka
  clear ha hxa hka
  dsimp only
  have hx : Below w4.heap.size w4 (w4.alloc (.cells #[.int .i64 a.c, .int .i64 a.r, .int .i64 a.t, .int .i64 a.e, .slice A1 a.tr.length c1, .slice A2 a.te.length c2, .slice A3 a.st.length c3] 26)) := Gen.b_alloc (Below.refl _ _)
  have HB4 := Lib.hid (Gen.over hx (Gen.over hb HB1.out))
  have HD4 := Lib.hid ((HD1.out.keep hb).keep hx)
  have HM4 := Lib.hid ((HM1.out.keep hb).keep hx)
  have HA4 := Lib.hid (show Row (w4.alloc (.cells #[.int .i64 a.c, .int .i64 a.r, .int .i64 a.t, .int .i64 a.e, .slice A1 a.tr.length c1, .slice A2 a.te.length c2, .slice A3 a.st.length c3] 26)) w4.heap.size 26 #[.int .i64 a.c, .int .i64 a.r, .int .i64 a.t, .int .i64 a.e, .slice A1 a.tr.length c1, .slice A2 a.te.length c2, .slice A3 a.st.length c3] from Row.new _ _ _)
  have HN4 := Lib.hid (hMa.keep hx)
  have HI4 := Lib.hid (hIa.keep hx)
  clear hb hx hMa hIa HB1 HD1 HM1
  have k0 : (w4.alloc (.cells #[.int .i64 a.c, .int .i64 a.r, .int .i64 a.t, .int .i64 a.e, .slice A1 a.tr.length c1, .slice A2 a.te.length c2, .slice A3 a.st.length c3] 26)).cell? ⟨w.heap.size, 0, none⟩ = some (.int .i64 d.c) := HD4.out.cell 0
  have k1 : (w4.alloc (.cells #[.int .i64 a.c, .int .i64 a.r, .int .i64 a.t, .int .i64 a.e, .slice A1 a.tr.length c1, .slice A2 a.te.length c2, .slice A3 a.st.length c3] 26)).cell? ⟨w.heap.size, 1, none⟩ = some (.int .i64 d.r) := HD4.out.cell 1
  have k2 : (w4.alloc (.cells #[.int .i64 a.c, .int .i64 a.r, .int .i64 a.t, .int .i64 a.e, .slice A1 a.tr.length c1, .slice A2 a.te.length c2, .slice A3 a.st.length c3] 26)).cell? ⟨w.heap.size, 2, none⟩ = some (.int .i64 d.t) := HD4.out.cell 2
  have k3 : (w4.alloc (.cells #[.int .i64 a.c, .int .i64 a.r, .int .i64 a.t, .int .i64 a.e, .slice A1 a.tr.length c1, .slice A2 a.te.length c2, .slice A3 a.st.length c3] 26)).cell? ⟨w.heap.size, 3, none⟩ = some (.int .i64 d.e) := HD4.out.cell 3
  have k4 : (w4.alloc (.cells #[.int .i64 a.c, .int .i64 a.r, .int .i64 a.t, .int .i64 a.e, .slice A1 a.tr.length c1, .slice A2 a.te.length c2, .slice A3 a.st.length c3] 26)).cell? ⟨w.heap.size, 4, none⟩ = some (.slice p.A1 d.tr.length p.c1) := HD4.out.cell 4
  have k5 : (w4.alloc (.cells #[.int .i64 a.c, .int .i64 a.r, .int .i64 a.t, .int .i64 a.e, .slice A1 a.tr.length c1, .slice A2 a.te.length c2, .slice A3 a.st.length c3] 26)).cell? ⟨w.heap.size, 5, none⟩ = some (.slice p.A2 d.te.length p.c2) := HD4.out.cell 5
  have k6 : (w4.alloc (.cells #[.int .i64 a.c, .int .i64 a.r, .int .i64 a.t, .int .i64 a.e, .slice A1 a.tr.length c1, .slice A2 a.te.length c2, .slice A3 a.st.length c3] 26)).cell? ⟨w.heap.size, 6, none⟩ = some (.slice p.A3 d.st.length p.c3) := HD4.out.cell 6
  go_wp2_with (fail)
  go_must (refine (xrrun d p _ HM4.out m G1.out G2.out G3.out).mono ?_)
  rintro e5 w5 hR
  obtain ⟨b, y, kb, B1, d1, B2, d2, B3, d3, Bt, dt, hbD, hyb, hkb, rfl, hMb, hIb, hb⟩ := hR
  obtain rfl : b = a := hbD.trans HEA.out.symm
  obtain rfl : y = x := hyb.trans HXA.out.symm
  obtain rfl : kb = ka := hkb.trans HKA.out.symm
  clear hbD hyb hkb k0 k1 k2 k3 k4 k5 k6
  dsimp only
  have hx : Below w5.heap.size w5 (w5.alloc (.cells #[.int .i64 b.c, .int .i64 b.r, .int .i64 b.t, .int .i64 b.e, .slice B1 b.tr.length d1, .slice B2 b.te.length d2, .slice B3 b.st.length d3] 26)) := Gen.b_alloc (Below.refl _ _)
  have HB5 := Lib.hid (Gen.over hx (Gen.over hb HB4.out))
  have HD5 := Lib.hid ((HD4.out.keep hb).keep hx)
  have HM5 := Lib.hid ((HM4.out.keep hb).keep hx)
  have HA5 := Lib.hid ((HA4.out.keep hb).keep hx)
  have HN5 := Lib.hid ((HN4.out.keep hb).keep hx)
  have HI5 := Lib.hid ((HI4.out.keep hb).keep hx)
  have HBR := Lib.hid (show Row (w5.alloc (.cells #[.int .i64 b.c, .int .i64 b.r, .int .i64 b.t, .int .i64 b.e, .slice B1 b.tr.length d1, .slice B2 b.te.length d2, .slice B3 b.st.length d3] 26)) w5.heap.size 26 #[.int .i64 b.c, .int .i64 b.r, .int .i64 b.t, .int .i64 b.e, .slice B1 b.tr.length d1, .slice B2 b.te.length d2, .slice B3 b.st.length d3] from Row.new _ _ _)
  have HO5 := Lib.hid (hMb.keep hx)
  have HJ5 := Lib.hid (hIb.keep hx)
  clear hb hx hMb hIb HB4 HD4 HM4 HA4 HN4 HI4
  have HRT := Lib.hid (rgb_iff.1 (runD_right (d := d) (m := m)))
  rw [← HEA.out] at HRT
  have HXL := Lib.hid (runX_len (d := d) (m := m))
  rw [← HXA.out] at HXL
  clear HEA HXA HKA
  obtain ⟨rg, hrg⟩ : ∃ b, rgb d = b := ⟨_, rfl⟩
  obtain ⟨pg, hpg⟩ : ∃ b, pasb d i = b := ⟨_, rfl⟩
  have hrr : (rg == rg) = true := by simp
  have hpp : (pg == pg) = true := by simp
  obtain ⟨W6, hW6⟩ : ∃ W, W = (w5.alloc (.cells #[.int .i64 b.c, .int .i64 b.r, .int .i64 b.t, .int .i64 b.e, .slice B1 b.tr.length d1, .slice B2 b.te.length d2, .slice B3 b.st.length d3] 26)) := ⟨_, rfl⟩
  rw [← hW6] at HB5 HD5 HM5 HA5 HN5 HI5 HBR HO5 HJ5
  have HL1 := Lib.hid (show b.tr.length ≤ 1000000 ∧ b.te.length ≤ 1000000 ∧ b.st.length ≤ 1000000 ∧ y.length ≤ 1000000 from ⟨by have := HRT.out.l1; omega, by have := HRT.out.l2; omega, by have := HRT.out.l3; omega, by have := HXL.out; have := G3.out; omega⟩)
  have C1 : Hid (∀ W' : World, Below W6.heap.size W6 W' → Calls Try.prog 10 #[.agg #[.int .i64 b.c, .int .i64 b.r, .int .i64 b.t, .int .i64 b.e, .slice A1 b.tr.length c1, .slice A2 b.te.length c2, .slice A3 b.st.length c3], .agg #[.int .i64 b.c, .int .i64 b.r, .int .i64 b.t, .int .i64 b.e, .slice B1 b.tr.length d1, .slice B2 b.te.length d2, .slice B3 b.st.length d3]] W' fun e w' => e = .returned (.bool true) ∧ Below W'.heap.size W' w') := Lib.hid (fun W' hw => dsame_eq b _ _ _ _ _ _ _ _ _ _ _ _ W' (HN5.out.keep hw) (HO5.out.keep hw) HL1.out.1 HL1.out.2.1 HL1.out.2.2.1)
  have C2 : Hid (∀ W' : World, Below W6.heap.size W6 W' → Calls Try.prog 11 #[.slice At y.length ct, .slice Bt y.length dt] W' fun e w' => e = .returned (.bool true) ∧ Below W'.heap.size W' w') := Lib.hid (fun W' hw => ints_eq (n := y.length) (l := y) W' rfl (HI5.out.keep hw) (HJ5.out.keep hw) HL1.out.2.2.2)
  have C3 : Hid (∀ W' : World, Below W6.heap.size W6 W' → Calls Try.prog 12 #[.agg #[.int .i64 d.c, .int .i64 d.r, .int .i64 d.t, .int .i64 d.e, .slice p.A1 d.tr.length p.c1, .slice p.A2 d.te.length p.c2, .slice p.A3 d.st.length p.c3]] W' fun e w' => e = .returned (.bool rg) ∧ Below W'.heap.size W' w') := Lib.hid (fun W' hw => by rw [← hrg]; exact xright d p W' (HM5.out.keep hw))
  have C4 : Hid (∀ W' : World, Below W6.heap.size W6 W' → Calls Try.prog 13 #[.agg #[.int .i64 d.c, .int .i64 d.r, .int .i64 d.t, .int .i64 d.e, .slice p.A1 d.tr.length p.c1, .slice p.A2 d.te.length p.c2, .slice p.A3 d.st.length p.c3]] W' fun e w' => e = .returned (.bool rg) ∧ Below W'.heap.size W' w') := Lib.hid (fun W' hw => by rw [← hrg]; exact xrright d p W' (HM5.out.keep hw) G1.out G2.out G3.out)
  have C5 : Hid (∀ W' : World, Below W6.heap.size W6 W' → Calls Try.prog 14 #[.agg #[.int .i64 d.c, .int .i64 d.r, .int .i64 d.t, .int .i64 d.e, .slice p.A1 d.tr.length p.c1, .slice p.A2 d.te.length p.c2, .slice p.A3 d.st.length p.c3], .int .i64 i] W' fun e w' => e = .returned (.bool pg) ∧ Below W'.heap.size W' w') := Lib.hid (fun W' hw => by rw [← hpg]; exact xpassed d p W' (HM5.out.keep hw) i HCAP.out)
  have C6 : Hid (∀ W' : World, Below W6.heap.size W6 W' → Calls Try.prog 15 #[.agg #[.int .i64 d.c, .int .i64 d.r, .int .i64 d.t, .int .i64 d.e, .slice p.A1 d.tr.length p.c1, .slice p.A2 d.te.length p.c2, .slice p.A3 d.st.length p.c3], .int .i64 i] W' fun e w' => e = .returned (.bool pg) ∧ Below W'.heap.size W' w') := Lib.hid (fun W' hw => by rw [← hpg]; exact xrpassed d p W' (HM5.out.keep hw) i G1.out G2.out G3.out)
  have HSC : Hid (∀ W' : World, Below W6.heap.size W6 W' → Below W6.heap.size W6 W' ∧ W'.cell? ⟨w.heap.size, 0, none⟩ = some (.int .i64 d.c) ∧ W'.cell? ⟨w.heap.size, 1, none⟩ = some (.int .i64 d.r) ∧ W'.cell? ⟨w.heap.size, 2, none⟩ = some (.int .i64 d.t) ∧ W'.cell? ⟨w.heap.size, 3, none⟩ = some (.int .i64 d.e) ∧ W'.cell? ⟨w.heap.size, 4, none⟩ = some (.slice p.A1 d.tr.length p.c1) ∧ W'.cell? ⟨w.heap.size, 5, none⟩ = some (.slice p.A2 d.te.length p.c2) ∧ W'.cell? ⟨w.heap.size, 6, none⟩ = some (.slice p.A3 d.st.length p.c3) ∧ W'.cell? ⟨w4.heap.size, 0, none⟩ = some (.int .i64 b.c) ∧ W'.cell? ⟨w4.heap.size, 1, none⟩ = some (.int .i64 b.r) ∧ W'.cell? ⟨w4.heap.size, 2, none⟩ = some (.int .i64 b.t) ∧ W'.cell? ⟨w4.heap.size, 3, none⟩ = some (.int .i64 b.e) ∧ W'.cell? ⟨w4.heap.size, 4, none⟩ = some (.slice A1 b.tr.length c1) ∧ W'.cell? ⟨w4.heap.size, 5, none⟩ = some (.slice A2 b.te.length c2) ∧ W'.cell? ⟨w4.heap.size, 6, none⟩ = some (.slice A3 b.st.length c3) ∧ W'.cell? ⟨w5.heap.size, 0, none⟩ = some (.int .i64 b.c) ∧ W'.cell? ⟨w5.heap.size, 1, none⟩ = some (.int .i64 b.r) ∧ W'.cell? ⟨w5.heap.size, 2, none⟩ = some (.int .i64 b.t) ∧ W'.cell? ⟨w5.heap.size, 3, none⟩ = some (.int .i64 b.e) ∧ W'.cell? ⟨w5.heap.size, 4, none⟩ = some (.slice B1 b.tr.length d1) ∧ W'.cell? ⟨w5.heap.size, 5, none⟩ = some (.slice B2 b.te.length d2) ∧ W'.cell? ⟨w5.heap.size, 6, none⟩ = some (.slice B3 b.st.length d3)) := Lib.hid (fun W' hw => ⟨hw, (HD5.out.keep hw).cell 0, (HD5.out.keep hw).cell 1, (HD5.out.keep hw).cell 2, (HD5.out.keep hw).cell 3, (HD5.out.keep hw).cell 4, (HD5.out.keep hw).cell 5, (HD5.out.keep hw).cell 6, (HA5.out.keep hw).cell 0, (HA5.out.keep hw).cell 1, (HA5.out.keep hw).cell 2, (HA5.out.keep hw).cell 3, (HA5.out.keep hw).cell 4, (HA5.out.keep hw).cell 5, (HA5.out.keep hw).cell 6, (HBR.out.keep hw).cell 0, (HBR.out.keep hw).cell 1, (HBR.out.keep hw).cell 2, (HBR.out.keep hw).cell 3, (HBR.out.keep hw).cell 4, (HBR.out.keep hw).cell 5, (HBR.out.keep hw).cell 6⟩)
  clear hrg hpg HM5 HN5 HO5 HI5 HJ5 HD5 HA5 HBR HRT HXL HL1
  go_upto_region 6 with (fail)
  rw [← hW6]
  clear hW6
  go_region_held3 (fun W' : World => Below W6.heap.size W6 W' ∧ W'.cell? ⟨w.heap.size, 0, none⟩ = some (.int .i64 d.c) ∧ W'.cell? ⟨w.heap.size, 1, none⟩ = some (.int .i64 d.r) ∧ W'.cell? ⟨w.heap.size, 2, none⟩ = some (.int .i64 d.t) ∧ W'.cell? ⟨w.heap.size, 3, none⟩ = some (.int .i64 d.e) ∧ W'.cell? ⟨w.heap.size, 4, none⟩ = some (.slice p.A1 d.tr.length p.c1) ∧ W'.cell? ⟨w.heap.size, 5, none⟩ = some (.slice p.A2 d.te.length p.c2) ∧ W'.cell? ⟨w.heap.size, 6, none⟩ = some (.slice p.A3 d.st.length p.c3) ∧ W'.cell? ⟨w4.heap.size, 0, none⟩ = some (.int .i64 b.c) ∧ W'.cell? ⟨w4.heap.size, 1, none⟩ = some (.int .i64 b.r) ∧ W'.cell? ⟨w4.heap.size, 2, none⟩ = some (.int .i64 b.t) ∧ W'.cell? ⟨w4.heap.size, 3, none⟩ = some (.int .i64 b.e) ∧ W'.cell? ⟨w4.heap.size, 4, none⟩ = some (.slice A1 b.tr.length c1) ∧ W'.cell? ⟨w4.heap.size, 5, none⟩ = some (.slice A2 b.te.length c2) ∧ W'.cell? ⟨w4.heap.size, 6, none⟩ = some (.slice A3 b.st.length c3) ∧ W'.cell? ⟨w5.heap.size, 0, none⟩ = some (.int .i64 b.c) ∧ W'.cell? ⟨w5.heap.size, 1, none⟩ = some (.int .i64 b.r) ∧ W'.cell? ⟨w5.heap.size, 2, none⟩ = some (.int .i64 b.t) ∧ W'.cell? ⟨w5.heap.size, 3, none⟩ = some (.int .i64 b.e) ∧ W'.cell? ⟨w5.heap.size, 4, none⟩ = some (.slice B1 b.tr.length d1) ∧ W'.cell? ⟨w5.heap.size, 5, none⟩ = some (.slice B2 b.te.length d2) ∧ W'.cell? ⟨w5.heap.size, 6, none⟩ = some (.slice B3 b.st.length d3))
    (first | exact HSC.out _ (Below.refl _ _).drew | exact HSC.out _ (Gen.over hz6 (And.left (by assumption))) | exact HSC.out _ (Gen.over hz5 (And.left (by assumption))) | exact HSC.out _ (Gen.over hz4 (And.left (by assumption))) | exact HSC.out _ (Gen.over hz3 (And.left (by assumption))) | exact HSC.out _ (Gen.over hz2 (And.left (by assumption))) | exact HSC.out _ (Gen.over hz1 (And.left (by assumption))) | fail "keep")
    (first
      | (go_at_call 10; (with_reducible refine (C1.out _ (And.left (by assumption))).mono ?_); rintro e' z1 ⟨rfl, hz1⟩; have hz1' := Gen.over hz1 (And.left (by assumption)))
      | (go_at_call 11; (with_reducible refine (C2.out _ (And.left (by assumption))).mono ?_); rintro e' z2 ⟨rfl, hz2⟩; have hz2' := Gen.over hz2 (And.left (by assumption)))
      | (go_at_call 12; (with_reducible refine (C3.out _ (And.left (by assumption))).mono ?_); rintro e' z3 ⟨rfl, hz3⟩; have hz3' := Gen.over hz3 (And.left (by assumption)))
      | (go_at_call 13; (with_reducible refine (C4.out _ (And.left (by assumption))).mono ?_); rintro e' z4 ⟨rfl, hz4⟩; have hz4' := Gen.over hz4 (And.left (by assumption)))
      | (go_at_call 14; (with_reducible refine (C5.out _ (And.left (by assumption))).mono ?_); rintro e' z5 ⟨rfl, hz5⟩; have hz5' := Gen.over hz5 (And.left (by assumption)))
      | (go_at_call 15; (with_reducible refine (C6.out _ (And.left (by assumption))).mono ?_); rintro e' z6 ⟨rfl, hz6⟩; have hz6' := Gen.over hz6 (And.left (by assumption)))
      | fail "arm")
  all_goals
    go_wp2
    go_ret
    exact ⟨rfl, Gen.over (by first | exact hz6' | exact hz5') HB5.out⟩
end Go.Proofs.Ytdmbgdbmfenbfaa.Fa
