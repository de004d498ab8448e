/- PostTells returns true: every way, right or not, everything that happens; no condition. -/
import Derived.Test.YtefikmfogbdhpaaPoK
import Derived.Test.YtefikmfogbdhpaaLPoTt
namespace Go.Proofs.Ytefikmfogbdhpaa.Po
open Go.ChangeShapes Go.WideShapes Go.ChangeAt Go.RowKit Go.Proofs.Ytefikmfogbdhpaa.Cell
set_option linter.unusedVariables false
set_option linter.unusedSimpArgs false
section
variable {A0 B0 A3 : Option Addr} {n0 r0 m c0 d0' cap : Nat} {S0 : List En} {early : List Int} {ks : List Ac} {nxt : Int}
set_option maxRecDepth 100000 in
set_option maxHeartbeats 8000000 in
theorem tells_1 (w : World) (hn : n0 ≤ 9223372036854775807) (hl : r0 ≤ 9223372036854775807) (hm : m ≤ 9223372036854775807) (h1 : 30 < n0) :
    Calls Try.prog 3 #[.slice A0 n0 c0, .int .i64 nxt, .slice B0 r0 d0', .slice A3 m cap] w fun e w' => e = .returned (.bool true) ∧ Below w.heap.size w w' := by
  have g1 : (30 : Int) < (n0 : Int) := by omega
  go_enter Try.func3, Try.ntmps3
  go_wp2_with (fail)
  go_must (refine (small43 _).mono ?_)
  rintro e w1 ⟨rfl, hb1⟩
  go_wp2
  go_ret
  exact ⟨rfl, hb1⟩
set_option maxRecDepth 100000 in
set_option maxHeartbeats 8000000 in
theorem tells_2 (w : World) (hn : n0 ≤ 9223372036854775807) (hl : r0 ≤ 9223372036854775807) (hm : m ≤ 9223372036854775807) (h1 : n0 ≤ 30) (h2 : 30 < r0) :
    Calls Try.prog 3 #[.slice A0 n0 c0, .int .i64 nxt, .slice B0 r0 d0', .slice A3 m cap] w fun e w' => e = .returned (.bool true) ∧ Below w.heap.size w w' := by
  have g1 : ¬ (30 : Int) < (n0 : Int) := by omega
  have g2 : (30 : Int) < (r0 : Int) := by omega
  go_enter Try.func3, Try.ntmps3
  go_wp2_with (fail)
  go_must (refine (small43 _).mono ?_)
  rintro e w1 ⟨rfl, hb1⟩
  go_wp2
  go_ret
  exact ⟨rfl, hb1⟩
set_option maxRecDepth 100000 in
set_option maxHeartbeats 8000000 in
theorem tells_3 (w : World) (hn : n0 ≤ 9223372036854775807) (hl : r0 ≤ 9223372036854775807) (hm : m ≤ 9223372036854775807) (h1 : n0 ≤ 30) (h2 : r0 ≤ 30) (h3 : 40 < m) :
    Calls Try.prog 3 #[.slice A0 n0 c0, .int .i64 nxt, .slice B0 r0 d0', .slice A3 m cap] w fun e w' => e = .returned (.bool true) ∧ Below w.heap.size w w' := by
  have g1 : ¬ (30 : Int) < (n0 : Int) := by omega
  have g2 : ¬ (30 : Int) < (r0 : Int) := by omega
  have g3 : (40 : Int) < (m : Int) := by omega
  go_enter Try.func3, Try.ntmps3
  go_wp2_with (fail)
  go_must (refine (small43 _).mono ?_)
  rintro e w1 ⟨rfl, hb1⟩
  go_wp2
  go_ret
  exact ⟨rfl, hb1⟩
theorem open_all {W : World} (hS : S0.length = n0) (hE : Ens W A0 S0) (hm : early.length = r0) (hI : Ints W B0 early) (hn : n0 ≤ 10000) (hn2 : r0 ≤ 10000) (hr : rgW n0 nxt early = false) :
    Calls Try.prog 8 #[.slice A0 n0 c0, .int .i64 nxt, .slice B0 r0 d0'] W fun e w' => e = .returned (.tuple #[.pointer none, .bool false]) ∧ Below W.heap.size W w' := by
  by_cases hx : nxt < 0 ∨ (n0 : Int) < nxt
  · refine (open_no hn hx).mono ?_
    rintro e w' ⟨rfl, rfl⟩
    exact ⟨rfl, Below.refl _ _⟩
  · obtain ⟨q, rfl⟩ := Int.eq_ofNat_of_zero_le (show 0 ≤ nxt by omega)
    refine (ropen_is hS hE hm hI hn hn2 (by omega)).mono ?_
    rintro e w' (⟨_, rfl, hb⟩ | ⟨h, _⟩)
    · exact ⟨rfl, hb⟩
    · unfold rgW at hr
      rw [h, decide_eq_true hn, decide_eq_true (show 0 ≤ (q : Int) ∧ (q : Int) ≤ n0 by omega)] at hr
      cases hr
set_option maxRecDepth 100000 in
set_option maxHeartbeats 16000000 in
theorem tells_w (w : World) (hS : S0.length = n0) (hE : Ens w A0 S0) (hN : early.length = r0) (hI : Ints w B0 early) (h1 : n0 ≤ 30) (h2 : r0 ≤ 30) (h3 : m ≤ 40) (hr : rgW n0 nxt early = false) :
    Calls Try.prog 3 #[.slice A0 n0 c0, .int .i64 nxt, .slice B0 r0 d0', .slice A3 m cap] w fun e w' => e = .returned (.bool true) ∧ Below w.heap.size w w' := by
  have g1 : ¬ (30 : Int) < (n0 : Int) := by omega
  have g2 : ¬ (30 : Int) < (r0 : Int) := by omega
  have g3 : ¬ (40 : Int) < (m : Int) := by omega
  have HS := Lib.hid hS
  have HE := Lib.hid hE
  have HN := Lib.hid hN
  have HI := Lib.hid hI
  have HR := Lib.hid hr
  clear hS hE hN hI hr
  go_enter Try.func3, Try.ntmps3
  go_wp2_with (fail)
  go_must (refine (small43 _).mono ?_)
  rintro e w1 ⟨rfl, hb1⟩
  have HB1 := Lib.hid (Gen.b_alloc (x := .cells #[.slice A0 n0 c0, .int .i64 nxt, .slice B0 r0 d0'] 27) hb1)
  have HG1 := Lib.hid (Row.new w1 27 #[.slice A0 n0 c0, .int .i64 nxt, .slice B0 r0 d0'])
  clear hb1
  go_upto_region 5 with (fail)
  generalize w1.alloc (.cells #[.slice A0 n0 c0, .int .i64 nxt, .slice B0 r0 d0'] 27) = W2 at *
  go_wp2_with (fail)
  go_must (refine (open_all HS.out (HE.out.keep HB1.out) HN.out (HI.out.keep HB1.out) (by omega) (by omega) HR.out).mono ?_)
  rintro e w3 ⟨rfl, hb3⟩
  have HR3 := Lib.hid (HG1.out.keep hb3)
  have HB3 := Lib.hid (Gen.over hb3 HB1.out)
  clear hb3
  have x0 := HR3.out.cell 0
  have x1 := HR3.out.cell 1
  have x2 := HR3.out.cell 2
  go_upto_region 6 with (fail)
  go_wp2_with (fail)
  go_must (refine (right_any _ (by omega) (by omega) HN.out (HI.out.keep HB3.out)).mono ?_)
  rintro e w4 ⟨rfl, hb4⟩
  rw [HR.out]
  have HR4 := Lib.hid (HR3.out.keep hb4)
  have HB4 := Lib.hid (Gen.over hb4 HB3.out)
  clear hb4 x0 x1 x2
  have x0 := HR4.out.cell 0
  have x1 := HR4.out.cell 1
  have x2 := HR4.out.cell 2
  go_upto_region 9 with (fail)
  go_wp2_with (fail)
  go_must (refine (send_wrong _ HN.out (HI.out.keep HB4.out) (by omega) (by omega) HR.out).mono ?_)
  rintro e w5 ⟨rfl, hb5⟩
  have HR5 := Lib.hid ((HR4.out.keep hb5).alloc (.cells #[.slice none 0 0, .int .i64 0, .slice none 0 0] 27))
  have HB5 := Lib.hid (Gen.b_alloc (x := .cells #[.slice none 0 0, .int .i64 0, .slice none 0 0] 27) (Gen.over hb5 HB4.out))
  clear hb5 x0 x1 x2
  have x0 := HR5.out.cell 0
  have x1 := HR5.out.cell 1
  have x2 := HR5.out.cell 2
  go_upto_region 10 with (fail)
  generalize w5.alloc (.cells #[.slice none 0 0, .int .i64 0, .slice none 0 0] 27) = W6 at *
  go_wp2_with (fail)
  go_must (refine (arr_wrong _ HN.out (HI.out.keep HB5.out) (by omega) (by omega) HR.out).mono ?_)
  rintro e w7 ⟨rfl, hb7⟩
  have HR7 := Lib.hid ((HR5.out.keep hb7).alloc (.cells #[.slice none 0 0, .int .i64 0, .slice none 0 0] 27))
  have HB7 := Lib.hid (Gen.b_alloc (x := .cells #[.slice none 0 0, .int .i64 0, .slice none 0 0] 27) (Gen.over hb7 HB5.out))
  clear hb7 x0 x1 x2
  go_upto_region 11 with (fail)
  generalize w7.alloc (.cells #[.slice none 0 0, .int .i64 0, .slice none 0 0] 27) = W8 at *
  have HS3 := Lib.hid (show Below W8.heap.size W8 W8.drew ∧ W8.drew.cell? ⟨w1.heap.size, 0, none⟩ = some (.slice A0 n0 c0) ∧ W8.drew.cell? ⟨w1.heap.size, 1, none⟩ = some (.int .i64 nxt) ∧ W8.drew.cell? ⟨w1.heap.size, 2, none⟩ = some (.slice B0 r0 d0') from ⟨(Below.refl _ _).drew, HR7.out.cell 0, HR7.out.cell 1, HR7.out.cell 2⟩)
  go_cut [8] (fun cv wy => cv = .bool true ∧ Hid (Below W8.heap.size W8 wy))
  case first =>
    go_region_held3 (fun W' : World => Below W8.heap.size W8 W' ∧ W'.cell? ⟨w1.heap.size, 0, none⟩ = some (.slice A0 n0 c0) ∧ W'.cell? ⟨w1.heap.size, 1, none⟩ = some (.int .i64 nxt) ∧ W'.cell? ⟨w1.heap.size, 2, none⟩ = some (.slice B0 r0 d0'))
      (first | exact HS3.out | exact k3 (by assumption) (by assumption) | fail "keep")
      (first
        | (go_at_call 12; with_reducible refine (flight_wrong _ HN.out ((HI.out.keep HB7.out).keep (And.left (by assumption))) (by omega) (by omega) HR.out).mono ?_; rintro e' z2 ⟨rfl, hz2⟩)
        | (go_at_call 13; with_reducible refine (again_wrong _ HN.out ((HI.out.keep HB7.out).keep (And.left (by assumption))) (by omega) (by omega) HR.out).mono ?_; rintro e' z3 ⟨rfl, hz3⟩)
        | fail "arm")
    all_goals
      rename_i hKK
      go_wp2
      go_meet
      exact ⟨rfl, Lib.hid hKK.1⟩
  case rest =>
    obtain ⟨rfl, HB9⟩ := hcut
    have HBF := Lib.hid (Gen.over HB9.out HB7.out)
    go_wp2
    go_ret
    exact ⟨rfl, HBF.out⟩
set_option maxRecDepth 100000 in
set_option maxHeartbeats 16000000 in
theorem tells_r (w : World) {H0 : List Bool} (hS : S0.length = n0) (hE : Ens w A0 S0) (hc : n0 ≤ c0) (hN : early.length = r0) (hI : Ints w B0 early) (hM : ks.length = m) (ha : Acl w A3 ks) (h1 : n0 ≤ 30) (h2 : r0 ≤ 30) (h3 : m ≤ 40) (hH : H0.length = n0) (hx : nxt = nx H0) (he : early = ea H0) :
    Calls Try.prog 3 #[.slice A0 n0 c0, .int .i64 nxt, .slice B0 r0 d0', .slice A3 m cap] w fun e w' => e = .returned (.bool true) ∧ Below w.heap.size w w' := by
  have g1 : ¬ (30 : Int) < (n0 : Int) := by omega
  have g2 : ¬ (30 : Int) < (r0 : Int) := by omega
  have g3 : ¬ (40 : Int) < (m : Int) := by omega
  have h60I : (m : Int) ≤ 40 := by omega
  obtain ⟨q0, hq0⟩ : ∃ q0, nx H0 = q0 := ⟨_, rfl⟩
  rw [hq0] at hx
  subst hx
  have hqn0 : q0 ≤ n0 := by have := nx_le H0; omega
  have HW := Lib.hid (show Wq w A0 n0 c0 q0 B0 r0 d0' S0 H0 from ⟨hS, hq0, by rw [← he]; exact hN, hE, by rw [← he]; exact hI, hH, by omega, hc⟩)
  have HRT : Hid (rgE n0 (q0 : Int) early = true) := Lib.hid (by
    have h := rgW_ways (H := H0) (by omega)
    rw [hH, hq0, ← he] at h
    unfold rgW at h
    rw [Bool.and_eq_true, Bool.and_eq_true] at h
    exact h.2.2)
  have HFR : Hid (fr n0 (q0 : Int) early = H0) := Lib.hid (by
    have h := fr_is H0
    rw [hH, hq0, ← he] at h
    exact h)
  have HS := Lib.hid hS
  have HE := Lib.hid hE
  have HN := Lib.hid hN
  have HI := Lib.hid hI
  have HM := Lib.hid hM
  have HA := Lib.hid ha
  clear hS hE hN hI hM ha hH he hq0
  go_enter Try.func3, Try.ntmps3
  go_wp2_with (fail)
  go_must (refine (small43 _).mono ?_)
  rintro e w1 ⟨rfl, hb1⟩
  have HB1 := Lib.hid (Gen.b_alloc (x := .cells #[.slice A0 n0 c0, .int .i64 (q0 : Int), .slice B0 r0 d0'] 27) hb1)
  have HG1 := Lib.hid (Row.new w1 27 #[.slice A0 n0 c0, .int .i64 (q0 : Int), .slice B0 r0 d0'])
  have HWS := Lib.hid hb1.size
  clear hb1
  go_upto_region 5 with (fail)
  generalize w1.alloc (.cells #[.slice A0 n0 c0, .int .i64 (q0 : Int), .slice B0 r0 d0'] 27) = W2 at *
  go_wp2_with (fail)
  go_must (refine (ropen_is HS.out (HE.out.keep HB1.out) HN.out (HI.out.keep HB1.out) (by omega) (by omega) hqn0).mono ?_)
  rintro e w3 hor
  have hor2 := hor.resolve_left (fun c => by rw [HRT.out] at c; cases c.1)
  obtain ⟨_, gm, Am0, cm0, Ah0, ch0, rfl, hmw, hb3⟩ := hor2
  clear hor
  rw [HFR.out] at hmw
  obtain ⟨lo, hlo⟩ : ∃ lo, W2.heap.size = lo := ⟨_, rfl⟩
  have HLT := Lib.hid (show Lt w w3 w1.heap.size lo gm 0 A0 n0 c0 q0 B0 r0 d0' S0 H0 Am0 cm0 Ah0 ch0 from ⟨HW.out.keep (Gen.over hb3 HB1.out), HG1.out.keep hb3, by rw [← hlo]; exact hmw, fun h0 a e c => by
      have h5 := ens_lt (HE.out.keep HB1.out) (by rw [HS.out]; exact h0) a e
      have h6 := (hmw.rb c).1
      omega, fun h0 a e c => by
      have h5 := ints_lt (HI.out.keep HB1.out) (by rw [HN.out]; exact h0) a e
      have h6 := (hmw.rb c).1
      omega, Gen.over hb3 HB1.out, HWS.out, by have := HG1.out.lt; omega, by omega, by have := hb3.size; omega⟩)
  clear hmw hb3 hlo HG1 HB1 HW HRT HFR HWS HE HI HS HN
  have x0 := HLT.out.r.cell 0
  have x1 := HLT.out.r.cell 1
  have x2 := HLT.out.r.cell 2
  go_upto_region 6 with (fail)
  go_wp2_with (fail)
  go_must (refine (wq_right HLT.out.wq).mono ?_)
  rintro e w4 ⟨rfl, hb4⟩
  have HLO := Lib.hid (HLT.out.keep hb4)
  clear hb4 x0 x1 x2 HLT
  go_wp2
  go_loopw [18] (fun iv wr => ∃ (k : Nat) (A : Option Addr) (n c q : Nat) (A2 : Option Addr) (n2 c2 : Nat) (S : List En) (H : List Bool) (Am : Option Addr) (cm : Nat) (Ah : Option Addr) (ch : Nat), k ≤ m ∧ iv = .int .i64 k ∧ Hid (Lt w wr w1.heap.size lo gm k A n c q A2 n2 c2 S H Am cm Ah ch)) (fun iv _ => m - (intOf iv).toNat)
  case atStart => exact ⟨0, A0, n0, c0, q0, B0, r0, d0', S0, H0, Am0, cm0, Ah0, ch0, Nat.zero_le _, rfl, HLO⟩
  case round =>
    clear HLO
    obtain ⟨k, A, n, c, q, A2, n2, c2, S, H, Am, cm, Ah, ch, hk, rfl, HL⟩ := hrel
    have k0 : (0 : Int) ≤ (k : Int) := by omega
    have hnk := HL.out.nk
    by_cases hlt : k < m
    · have hltI : (k : Int) < (m : Int) := by omega
      obtain ⟨a, hak⟩ := at_ ks k (by rw [HM.out]; exact hlt)
      obtain ⟨b0, off0, hA0, hcell⟩ := (HA.out.keep HL.out.bl) (by rw [HM.out]; omega)
      subst hA0
      obtain ⟨a0, a1, a2, a3, a4, a5, a6⟩ := hcell k a hak
      clear hcell hak
      obtain ⟨kd, nu, ⟨x0, x1, x2, x3, x4⟩⟩ := a
      dsimp only at a0 a1 a2 a3 a4 a5 a6
      have HBL := Lib.hid (World.block_lt_of_cell? wr _ a0)
      have HG := Lib.hid HL.out.r.lt
      have HS0 : Hid (Below wr.heap.size wr wr ∧ wr.cell? ⟨w1.heap.size, 0, none⟩ = some (.slice A n c) ∧ wr.cell? ⟨w1.heap.size, 1, none⟩ = some (.int .i64 (q : Int)) ∧ wr.cell? ⟨w1.heap.size, 2, none⟩ = some (.slice A2 n2 c2) ∧ wr.cell? ⟨b0, off0 + k * 7 + 1, none⟩ = some (.int .i64 nu) ∧ wr.cell? ⟨b0, off0 + k * 7 + 2, none⟩ = some (.int .i64 x0) ∧ wr.cell? ⟨b0, off0 + k * 7 + 3, none⟩ = some (.int .i64 x1) ∧ wr.cell? ⟨b0, off0 + k * 7 + 4, none⟩ = some (.int .i64 x2) ∧ wr.cell? ⟨b0, off0 + k * 7 + 5, none⟩ = some (.int .i64 x3) ∧ wr.cell? ⟨b0, off0 + k * 7 + 6, none⟩ = some (.int .i64 x4)) := Lib.hid ⟨Below.refl _ _, HL.out.r.cell 0, HL.out.r.cell 1, HL.out.r.cell 2, a1, a2, a3, a4, a5, a6⟩
      have HSA := Lib.hid (show ∀ W' : World, Below wr.heap.size wr W' → Below wr.heap.size wr W' ∧ W'.cell? ⟨w1.heap.size, 0, none⟩ = some (.slice A n c) ∧ W'.cell? ⟨w1.heap.size, 1, none⟩ = some (.int .i64 (q : Int)) ∧ W'.cell? ⟨w1.heap.size, 2, none⟩ = some (.slice A2 n2 c2) ∧ W'.cell? ⟨b0, off0 + k * 7 + 1, none⟩ = some (.int .i64 nu) ∧ W'.cell? ⟨b0, off0 + k * 7 + 2, none⟩ = some (.int .i64 x0) ∧ W'.cell? ⟨b0, off0 + k * 7 + 3, none⟩ = some (.int .i64 x1) ∧ W'.cell? ⟨b0, off0 + k * 7 + 4, none⟩ = some (.int .i64 x2) ∧ W'.cell? ⟨b0, off0 + k * 7 + 5, none⟩ = some (.int .i64 x3) ∧ W'.cell? ⟨b0, off0 + k * 7 + 6, none⟩ = some (.int .i64 x4) from fun W' hb => kx HS0.out hb)
      by_cases hkd : kd = 0
      · have hkdT : (kd == 0) = true := by rw [hkd]; rfl
        have HKD := Lib.hid hkd
        clear hkd
        have hn60 : n < 10000 := by omega
        clear a1 a2 a3 a4 a5 a6
        go_upto_region 16 with (fail)
        clear a0
        go_cut [19, 20] (fun p ev wx => ∃ (g8 : Nat) (A' : Option Addr) (c' q' : Nat) (B' : Option Addr) (n' k' : Nat), p = .pointer (some ⟨g8, 0, none⟩) ∧ ev = .int .i64 0 ∧ Hid (wr.heap.size ≤ g8) ∧ Hid (Row wx g8 27 #[.slice A' (n + 1) c', .int .i64 (q' : Int), .slice B' n' k']) ∧ Hid (Wq wx A' (n + 1) c' q' B' n' k' (S ++ [⟨x0, x1, x2, x3, x4⟩]) (H ++ [false])) ∧ Hid (Below wr.heap.size wr wx) ∧ Hid (∀ a, A' = some a → wr.heap.size ≤ a.block) ∧ Hid (∀ a, B' = some a → wr.heap.size ≤ a.block))
        case first =>
          go_region_held3 (fun W' : World => Below wr.heap.size wr W' ∧ W'.cell? ⟨w1.heap.size, 0, none⟩ = some (.slice A n c) ∧ W'.cell? ⟨w1.heap.size, 1, none⟩ = some (.int .i64 (q : Int)) ∧ W'.cell? ⟨w1.heap.size, 2, none⟩ = some (.slice A2 n2 c2) ∧ W'.cell? ⟨b0, off0 + k * 7 + 1, none⟩ = some (.int .i64 nu) ∧ W'.cell? ⟨b0, off0 + k * 7 + 2, none⟩ = some (.int .i64 x0) ∧ W'.cell? ⟨b0, off0 + k * 7 + 3, none⟩ = some (.int .i64 x1) ∧ W'.cell? ⟨b0, off0 + k * 7 + 4, none⟩ = some (.int .i64 x2) ∧ W'.cell? ⟨b0, off0 + k * 7 + 5, none⟩ = some (.int .i64 x3) ∧ W'.cell? ⟨b0, off0 + k * 7 + 6, none⟩ = some (.int .i64 x4))
            (first | with_reducible exact hS1 | with_reducible exact kx_set (by assumption) (by first | exact Nat.le_refl _ | exact hS1.1.size) HG.out HBL.out | exact ⟨HS0.out.1.drew, HS0.out.2⟩ | exact kx (by assumption) (Gen.b_alloc (Below.refl _ _)) | fail "keep")
            (first
              | (go_at_call 10; (with_reducible refine (wq_send ⟨x0, x1, x2, x3, x4⟩ (HL.out.wq.keep (And.left (by assumption))) hn60).mono ?_); rintro e' w' ⟨A', c', q', B', n', k', rfl, hW, hb, hab1, hab2⟩; have hS1 := (show Below wr.heap.size wr w' ∧ w'.cell? ⟨w1.heap.size, 0, none⟩ = some (.slice A n c) ∧ w'.cell? ⟨w1.heap.size, 1, none⟩ = some (.int .i64 (q : Int)) ∧ w'.cell? ⟨w1.heap.size, 2, none⟩ = some (.slice A2 n2 c2) ∧ w'.cell? ⟨b0, off0 + k * 7 + 1, none⟩ = some (.int .i64 nu) ∧ w'.cell? ⟨b0, off0 + k * 7 + 2, none⟩ = some (.int .i64 x0) ∧ w'.cell? ⟨b0, off0 + k * 7 + 3, none⟩ = some (.int .i64 x1) ∧ w'.cell? ⟨b0, off0 + k * 7 + 4, none⟩ = some (.int .i64 x2) ∧ w'.cell? ⟨b0, off0 + k * 7 + 5, none⟩ = some (.int .i64 x3) ∧ w'.cell? ⟨b0, off0 + k * 7 + 6, none⟩ = some (.int .i64 x4) from kx (by assumption) hb); have hlo := Nat.le_trans (Below.size (And.left (by assumption))) hb.size; have hab1' : ∀ a, A' = some a → wr.heap.size ≤ a.block := (fun a h => Nat.le_trans (Below.size (And.left (by assumption))) (hab1 a h)); have hab2' : ∀ a, B' = some a → wr.heap.size ≤ a.block := (fun a h => Nat.le_trans (Below.size (And.left (by assumption))) (hab2 a h)); (first | have hRw := (show Row _ _ 27 #[.slice none 0 0, .int .i64 0, .slice none 0 0] from Row.new _ _ _).keep hb | have hRw := (show Row _ _ 27 #[.slice none 0 0, .int .i64 0, .slice none 0 0] from rowd _ _ _).keep hb | skip); (try have cz0 := hRw.cell 0); (try have cz1 := hRw.cell 1); (try have cz2 := hRw.cell 2); (try have fz0 := hRw.frozen 0); (try have fz1 := hRw.frozen 1); (try have fz2 := hRw.frozen 2); (try have hRl := hRw.lt))
              | fail "arm")
          all_goals
            go_wp2
            go_meet
            first
              | exact ⟨w'.heap.size, A', c', q', B', n', k', rfl, rfl, Lib.hid hlo, Lib.hid (Row.new _ _ _), Lib.hid (hW.keep (Gen.b_alloc (Below.refl _ _))), Lib.hid (Gen.b_alloc hS1.1), Lib.hid hab1', Lib.hid hab2'⟩
              | exact ⟨wr.heap.size, A', c', q', B', n', k', rfl, rfl, Lib.hid (Nat.le_refl _), Lib.hid (row_set3 hRw), Lib.hid (wq_set3 hW (fun a h => by have := hab1 a h; simp at this; omega) (fun a h => by have := hab2 a h; simp at this; omega)), Lib.hid (below_set3 hS1.1 (Nat.le_refl _)), Lib.hid hab1', Lib.hid hab2'⟩
        case rest =>
          obtain ⟨g8, A', c', q', B', n', k', rfl, rfl, HG8, HR8, HW8, HB8, HA8, HB8'⟩ := hcut
          obtain ⟨wx, rfl⟩ : ∃ wx, wx = wc := ⟨_, rfl⟩
          have hs1 := HSA.out _ HB8.out
          obtain ⟨_, _, _, _, _, a2, a3, a4, a5, a6⟩ := hs1
          go_upto_region 17 with (fail)
          go_wp2_with (fail)
          go_must (refine (msend_is ⟨x0, x1, x2, x3, x4⟩ (HL.out.mw.keep HB8.out) (Nat.le_trans HL.out.ls HB8.out.size) hn60).mono ?_)
          rintro e w9 ⟨rfl, Am', cm', Ah', ch', hm9, ho9, hr9⟩
          have HLN := Lib.hid (HL.out.put (N := n + 1) (by omega) HB8.out HW8.out HA8.out HB8'.out hm9 ho9 hr9)
          have HR9 := Lib.hid (ho9.row HR8.out (HL.out.nrb HG8.out))
          have HRG := Lib.hid (ho9.row (HL.out.r.keep HB8.out) HL.out.nrg)
          clear hm9 ho9 hr9 a2 a3 a4 a5 a6
          have e0 := HR9.out.cell 0
          have e1 := HR9.out.cell 1
          have e2 := HR9.out.cell 2
          have k0' := HRG.out.cell 0
          have k1 := HRG.out.cell 1
          have k2 := HRG.out.cell 2
          have f0 := HRG.out.frozen 0
          have f1 := HRG.out.frozen 1
          have f2 := HRG.out.frozen 2
          have fl := HRG.out.lt
          obtain ⟨wx, hwx⟩ : ∃ wx, (((w9.setCell ⟨w1.heap.size, 0, none⟩ (.slice A' (n + 1) c')).setCell ⟨w1.heap.size, 1, none⟩ (.int .i64 (q' : Int))).setCell ⟨w1.heap.size, 2, none⟩ (.slice B' n' k')) = wx := ⟨_, rfl⟩
          rw [hwx] at HLN
          have HWX := Lib.hid hwx
          clear hwx
          have HEX : ∃ (A : Option Addr) (n c q : Nat) (A2 : Option Addr) (n2 c2 : Nat) (S : List En) (H : List Bool) (Am : Option Addr) (cm : Nat) (Ah : Option Addr) (ch : Nat), Hid (Lt w wx w1.heap.size lo gm (k + 1) A n c q A2 n2 c2 S H Am cm Ah ch) := ⟨A', n + 1, c', q', B', n', k', _, _, Am', cm', Ah', ch', HLN⟩
          clear HLN
          go_upto_region 26 with (fail)
          clear e0 e1 e2 k0' k1 k2 f0 f1 f2 fl
          rw [HWX.out]
          clear HWX HL HW8 HR8 HR9 HRG
          obtain ⟨A, n, c, q, A2, n2, c2, S, H, Am, cm, Ah, ch, HL⟩ := HEX
          have hnk := HL.out.nk
          have hqn := HL.out.qn
          go_cut [200] (fun cv wy => cv = .bool false ∧ Hid (Below wx.heap.size wx wy))
          case first =>
            rename_i J' K' hJ hM
            refine tell_tail HL.out hlt h3 (fun a' w' h => hM _ _ (Met.intro (hJ _ _ ?_)))
            obtain ⟨⟨u157, u158, u159, u160, u161, u162, u163, u164, u165, u166, u167, u168, u169, u170, u171, u172, u173, u174, u175, u176, u177, u178, u179, u180, u181, u182, u183, u184, u185, u186, u187, u188, u189, u190, u191, u192, u193, u194, u195, u196, u197, u198, u199, rfl⟩, hb⟩ := h
            (repeat apply Exists.intro)
            exact ⟨⟨rfl, Lib.hid hb⟩, rfl⟩
          case rest =>
            obtain ⟨rfl, HB5⟩ := hcut
            have HLZ := Lib.hid (HL.out.keep HB5.out)
            go_wp2
            go_roundw
            case rel => exact ⟨k + 1, A, n, c, q, A2, n2, c2, S, H, Am, cm, Ah, ch, by omega, by go_num, HLZ⟩
            case measure => simp [intOf]; omega
      · have hkdF : (kd == 0) = false := by simpa using hkd
        clear hkd a1 a2 a3 a4 a5 a6
        have HNL := Lib.hid (show H.length = n from HL.out.wq.hl)
        go_upto_region 20 with (fail)
        clear a0
        have hn10 : n ≤ 10000 := by omega
        by_cases hok : ∃ p : Nat, nu = p ∧ H[p]? = some false
        · obtain ⟨p, rfl, hp⟩ := hok
          have HP := Lib.hid hp
          have hpn : p < n := by have := lt_of_at hp; rw [HNL.out] at this; exact this
          clear hp
          go_cut [21, 22, 23] (fun pv lv ev wx => ∃ (g8 : Nat) (A' : Option Addr) (c' q' : Nat) (B' : Option Addr) (n' k' : Nat) (D : Option Addr) (mm l : Nat), pv = .pointer (some ⟨g8, 0, none⟩) ∧ lv = .slice D mm l ∧ ev = .int .i64 0 ∧ Hid (wr.heap.size ≤ g8) ∧ Hid (Row wx g8 27 #[.slice A' n c', .int .i64 (q' : Int), .slice B' n' k']) ∧ Hid (Wq wx A' n c' q' B' n' k' S (H.set p true)) ∧ Hid (Below wr.heap.size wr wx) ∧ Hid (∀ a, A' = some a → wr.heap.size ≤ a.block) ∧ Hid (∀ a, B' = some a → wr.heap.size ≤ a.block) ∧ Hid ((dlv S H p).length = mm) ∧ Hid (Ens wx D (dlv S H p)) ∧ Hid (∀ a, D = some a → wr.heap.size ≤ a.block))
          case first =>
            go_region_held3 (fun W' : World => Below wr.heap.size wr W' ∧ W'.cell? ⟨w1.heap.size, 0, none⟩ = some (.slice A n c) ∧ W'.cell? ⟨w1.heap.size, 1, none⟩ = some (.int .i64 (q : Int)) ∧ W'.cell? ⟨w1.heap.size, 2, none⟩ = some (.slice A2 n2 c2) ∧ W'.cell? ⟨b0, off0 + k * 7 + 1, none⟩ = some (.int .i64 (p : Int)) ∧ W'.cell? ⟨b0, off0 + k * 7 + 2, none⟩ = some (.int .i64 x0) ∧ W'.cell? ⟨b0, off0 + k * 7 + 3, none⟩ = some (.int .i64 x1) ∧ W'.cell? ⟨b0, off0 + k * 7 + 4, none⟩ = some (.int .i64 x2) ∧ W'.cell? ⟨b0, off0 + k * 7 + 5, none⟩ = some (.int .i64 x3) ∧ W'.cell? ⟨b0, off0 + k * 7 + 6, none⟩ = some (.int .i64 x4))
              (first | with_reducible exact hS1 | with_reducible exact kx_set (by assumption) (by first | exact Nat.le_refl _ | exact hS1.1.size) HG.out HBL.out | exact ⟨HS0.out.1.drew, HS0.out.2⟩ | exact kx (by assumption) (Gen.b_alloc (Below.refl _ _)) | fail "keep")
              (first
                | (go_at_call 11; (with_reducible refine (wq_ok (HL.out.wq.keep (And.left (by assumption))) HP.out).mono ?_); rintro e' w' ⟨A', c', q', B', n', k', D, mm, l, rfl, hW, hmm, hED, hb, hab1, hab2, hab3⟩; have hS1 := (show Below wr.heap.size wr w' ∧ w'.cell? ⟨w1.heap.size, 0, none⟩ = some (.slice A n c) ∧ w'.cell? ⟨w1.heap.size, 1, none⟩ = some (.int .i64 (q : Int)) ∧ w'.cell? ⟨w1.heap.size, 2, none⟩ = some (.slice A2 n2 c2) ∧ w'.cell? ⟨b0, off0 + k * 7 + 1, none⟩ = some (.int .i64 (p : Int)) ∧ w'.cell? ⟨b0, off0 + k * 7 + 2, none⟩ = some (.int .i64 x0) ∧ w'.cell? ⟨b0, off0 + k * 7 + 3, none⟩ = some (.int .i64 x1) ∧ w'.cell? ⟨b0, off0 + k * 7 + 4, none⟩ = some (.int .i64 x2) ∧ w'.cell? ⟨b0, off0 + k * 7 + 5, none⟩ = some (.int .i64 x3) ∧ w'.cell? ⟨b0, off0 + k * 7 + 6, none⟩ = some (.int .i64 x4) from kx (by assumption) hb); have hlo := Nat.le_trans (Below.size (And.left (by assumption))) hb.size; have hab1' : ∀ a, A' = some a → wr.heap.size ≤ a.block := (fun a h => Nat.le_trans (Below.size (And.left (by assumption))) (hab1 a h)); have hab2' : ∀ a, B' = some a → wr.heap.size ≤ a.block := (fun a h => Nat.le_trans (Below.size (And.left (by assumption))) (hab2 a h)); have hab3' : ∀ a, D = some a → wr.heap.size ≤ a.block := (fun a h => Nat.le_trans (Below.size (And.left (by assumption))) (hab3 a h)); (first | have hRw := (show Row _ _ 27 #[.slice none 0 0, .int .i64 0, .slice none 0 0] from Row.new _ _ _).keep hb | have hRw := (show Row _ _ 27 #[.slice none 0 0, .int .i64 0, .slice none 0 0] from rowd _ _ _).keep hb | skip); (try have cz0 := hRw.cell 0); (try have cz1 := hRw.cell 1); (try have cz2 := hRw.cell 2); (try have fz0 := hRw.frozen 0); (try have fz1 := hRw.frozen 1); (try have fz2 := hRw.frozen 2); (try have hRl := hRw.lt))
                | fail "arm")
            all_goals
              go_wp2
              go_meet
              first
                | exact ⟨w'.heap.size, A', c', q', B', n', k', D, mm, l, rfl, rfl, rfl, Lib.hid hlo, Lib.hid (Row.new _ _ _), Lib.hid (hW.keep (Gen.b_alloc (Below.refl _ _))), Lib.hid (Gen.b_alloc hS1.1), Lib.hid hab1', Lib.hid hab2', Lib.hid hmm, Lib.hid (hED.keep (Gen.b_alloc (Below.refl _ _))), Lib.hid hab3'⟩
                | exact ⟨wr.heap.size, A', c', q', B', n', k', D, mm, l, rfl, rfl, rfl, Lib.hid (Nat.le_refl _), Lib.hid (row_set3 hRw), Lib.hid (wq_set3 hW (fun a h => by have := hab1 a h; simp at this; omega) (fun a h => by have := hab2 a h; simp at this; omega)), Lib.hid (below_set3 hS1.1 (Nat.le_refl _)), Lib.hid hab1', Lib.hid hab2', Lib.hid hmm, Lib.hid (ens_set3 hED (fun a h => by have := hab3 a h; simp at this; omega)), Lib.hid hab3'⟩
          case rest =>
            obtain ⟨g8, A', c', q', B', n', k', D, mm, l, rfl, rfl, rfl, HG8, HR8, HW8, HB8, HA8, HB8', HMM, HED, HAD⟩ := hcut
            obtain ⟨wx, rfl⟩ : ∃ wx, wx = wc := ⟨_, rfl⟩
            have a1 := (HSA.out _ HB8.out).2.2.2.2.1
            go_upto_region 21 with (fail)
            go_wp2_with (fail)
            go_must (refine (marr_ok (HL.out.mw.keep HB8.out) HP.out (Nat.le_trans HL.out.ls HB8.out.size) hn10).mono ?_)
            rintro e w9 ⟨D2, m2, l2, rfl, hm2, he2, hm9, ho9⟩
            obtain rfl : m2 = mm := by rw [← hm2, HMM.out]
            have HE2 := Lib.hid he2
            have HED9 := Lib.hid (show Ens w9 D (dlv S H p) from fun h0 => by
              obtain ⟨b, off, e, hc⟩ := HED.out h0
              have hnr := HL.out.nrb (HAD.out _ e)
              exact ⟨b, off, e, fun j x hx => by
                obtain ⟨y0, y1, y2, y3, y4⟩ := hc j x hx
                exact ⟨ho9.cell y0 hnr, ho9.cell y1 hnr, ho9.cell y2 hnr, ho9.cell y3 hnr, ho9.cell y4 hnr⟩⟩)
            have HML := Lib.hid (show m2 ≤ 1000000 from by
              rw [← hm2, (dlv_ends (S := S) (by rw [HL.out.wq.hl, HL.out.wq.hn]) HP.out).2.2]
              have := nx_le (H.set p true)
              rw [List.length_set, HL.out.wq.hl] at this
              omega)
            have HO9 := Lib.hid ho9
            have HM9 := Lib.hid hm9
            have HRG9 := Lib.hid (ho9.row (HL.out.r.keep HB8.out) HL.out.nrg)
            have HR89 := Lib.hid (ho9.row HR8.out (HL.out.nrb HG8.out))
            clear hm2 he2 hm9 ho9 a1
            go_upto_region 22 with (fail)
            go_wp2_with (fail)
            go_must (refine (same_eq (l := dlv S H p) _ HMM.out HED9.out HE2.out HML.out).mono ?_)
            rintro e w10 ⟨rfl, hb10⟩
            have HLN := Lib.hid (HL.out.put (N := n) (by omega) HB8.out HW8.out HA8.out HB8'.out (HM9.out.keep hb10) (HO9.out.more hb10) (fun b e => .inl e))
            have HR9 := Lib.hid (HR89.out.keep hb10)
            have HRG := Lib.hid (HRG9.out.keep hb10)
            clear hb10
            have e0 := HR9.out.cell 0
            have e1 := HR9.out.cell 1
            have e2 := HR9.out.cell 2
            have k0' := HRG.out.cell 0
            have k1 := HRG.out.cell 1
            have k2 := HRG.out.cell 2
            have f0 := HRG.out.frozen 0
            have f1 := HRG.out.frozen 1
            have f2 := HRG.out.frozen 2
            have fl := HRG.out.lt
            obtain ⟨wx, hwx⟩ : ∃ wx, (((w10.setCell ⟨w1.heap.size, 0, none⟩ (.slice A' n c')).setCell ⟨w1.heap.size, 1, none⟩ (.int .i64 (q' : Int))).setCell ⟨w1.heap.size, 2, none⟩ (.slice B' n' k')) = wx := ⟨_, rfl⟩
            rw [hwx] at HLN
            have HWX := Lib.hid hwx
            clear hwx
            have HEX : ∃ (A : Option Addr) (n c q : Nat) (A2 : Option Addr) (n2 c2 : Nat) (S : List En) (H : List Bool) (Am : Option Addr) (cm : Nat) (Ah : Option Addr) (ch : Nat), Hid (Lt w wx w1.heap.size lo gm (k + 1) A n c q A2 n2 c2 S H Am cm Ah ch) := ⟨A', n, c', q', B', n', k', S, H.set p true, Am, cm, Ah, ch, HLN⟩
            clear HLN
            go_upto_region 26 with (fail)
            clear e0 e1 e2 k0' k1 k2 f0 f1 f2 fl
            rw [HWX.out]
            clear HWX HL HW8 HR8 HR9 HRG
            obtain ⟨A, n, c, q, A2, n2, c2, S, H, Am, cm, Ah, ch, HL⟩ := HEX
            have hnk := HL.out.nk
            have hqn := HL.out.qn
            go_cut [200] (fun cv wy => cv = .bool false ∧ Hid (Below wx.heap.size wx wy))
            case first =>
              rename_i J' K' hJ hM
              refine tell_tail HL.out hlt h3 (fun a' w' h => hM _ _ (Met.intro (hJ _ _ ?_)))
              obtain ⟨⟨u157, u158, u159, u160, u161, u162, u163, u164, u165, u166, u167, u168, u169, u170, u171, u172, u173, u174, u175, u176, u177, u178, u179, u180, u181, u182, u183, u184, u185, u186, u187, u188, u189, u190, u191, u192, u193, u194, u195, u196, u197, u198, u199, rfl⟩, hb⟩ := h
              (repeat apply Exists.intro)
              exact ⟨⟨rfl, Lib.hid hb⟩, rfl⟩
            case rest =>
              obtain ⟨rfl, HB5⟩ := hcut
              have HLZ := Lib.hid (HL.out.keep HB5.out)
              go_wp2
              go_roundw
              case rel => exact ⟨k + 1, A, n, c, q, A2, n2, c2, S, H, Am, cm, Ah, ch, by omega, by go_num, HLZ⟩
              case measure => simp [intOf]; omega
        · have hbad : (nu < 0 ∨ (n : Int) ≤ nu) ∨ ∃ p : Nat, nu = p ∧ H[p]? = some true := by
            by_cases h1 : nu < 0
            · exact .inl (.inl h1)
            · by_cases h2 : (n : Int) ≤ nu
              · exact .inl (.inr h2)
              · obtain ⟨p, rfl⟩ := Int.eq_ofNat_of_zero_le (show 0 ≤ nu by omega)
                rcases get_of_nx (H := H) (j := p) (by rw [HNL.out]; omega) with h | h
                · exact .inr ⟨p, rfl, h⟩
                · exact absurd ⟨p, rfl, h⟩ hok
          clear hok
          rcases hbad with hbad | ⟨p, rfl, hp⟩
          · have HBAD := Lib.hid hbad
            clear hbad
            go_cut [22, 23] (fun lv ev wx => lv = .slice none 0 0 ∧ ev = .int .i64 4 ∧ Hid (Below wr.heap.size wr wx))
            case first =>
              go_region_held3 (fun W' : World => Below wr.heap.size wr W' ∧ W'.cell? ⟨w1.heap.size, 0, none⟩ = some (.slice A n c) ∧ W'.cell? ⟨w1.heap.size, 1, none⟩ = some (.int .i64 (q : Int)) ∧ W'.cell? ⟨w1.heap.size, 2, none⟩ = some (.slice A2 n2 c2) ∧ W'.cell? ⟨b0, off0 + k * 7 + 1, none⟩ = some (.int .i64 nu) ∧ W'.cell? ⟨b0, off0 + k * 7 + 2, none⟩ = some (.int .i64 x0) ∧ W'.cell? ⟨b0, off0 + k * 7 + 3, none⟩ = some (.int .i64 x1) ∧ W'.cell? ⟨b0, off0 + k * 7 + 4, none⟩ = some (.int .i64 x2) ∧ W'.cell? ⟨b0, off0 + k * 7 + 5, none⟩ = some (.int .i64 x3) ∧ W'.cell? ⟨b0, off0 + k * 7 + 6, none⟩ = some (.int .i64 x4))
                (first | with_reducible exact hS1 | with_reducible exact kx_set (by assumption) (by first | exact Nat.le_refl _ | exact hS1.1.size) HG.out HBL.out | exact ⟨HS0.out.1.drew, HS0.out.2⟩ | exact kx (by assumption) (Gen.b_alloc (Below.refl _ _)) | fail "keep")
                (first
                  | (go_at_call 11; (with_reducible refine (wq_none (HL.out.wq.keep (And.left (by assumption))) HBAD.out).mono ?_); rintro e' w' ⟨rfl, hb⟩; have hS1 := (show Below wr.heap.size wr w' ∧ w'.cell? ⟨w1.heap.size, 0, none⟩ = some (.slice A n c) ∧ w'.cell? ⟨w1.heap.size, 1, none⟩ = some (.int .i64 (q : Int)) ∧ w'.cell? ⟨w1.heap.size, 2, none⟩ = some (.slice A2 n2 c2) ∧ w'.cell? ⟨b0, off0 + k * 7 + 1, none⟩ = some (.int .i64 nu) ∧ w'.cell? ⟨b0, off0 + k * 7 + 2, none⟩ = some (.int .i64 x0) ∧ w'.cell? ⟨b0, off0 + k * 7 + 3, none⟩ = some (.int .i64 x1) ∧ w'.cell? ⟨b0, off0 + k * 7 + 4, none⟩ = some (.int .i64 x2) ∧ w'.cell? ⟨b0, off0 + k * 7 + 5, none⟩ = some (.int .i64 x3) ∧ w'.cell? ⟨b0, off0 + k * 7 + 6, none⟩ = some (.int .i64 x4) from kx (by assumption) hb); (first | have hRw := (show Row _ _ 27 #[.slice none 0 0, .int .i64 0, .slice none 0 0] from Row.new _ _ _).keep hb | have hRw := (show Row _ _ 27 #[.slice none 0 0, .int .i64 0, .slice none 0 0] from rowd _ _ _).keep hb | skip); (try have cz0 := hRw.cell 0); (try have cz1 := hRw.cell 1); (try have cz2 := hRw.cell 2); (try have fz0 := hRw.frozen 0); (try have fz1 := hRw.frozen 1); (try have fz2 := hRw.frozen 2); (try have hRl := hRw.lt))
                  | fail "arm")
              all_goals
                go_wp2
                go_meet
                first
                  | exact ⟨rfl, rfl, Lib.hid (Gen.b_alloc hS1.1)⟩
                  | exact ⟨rfl, rfl, Lib.hid (below_set3 hS1.1 (Nat.le_refl _))⟩
            case rest =>
              obtain ⟨rfl, rfl, HB8⟩ := hcut
              have HL8 := Lib.hid (HL.out.keep HB8.out)
              have a1 := (HSA.out _ HB8.out).2.2.2.2.1
              go_upto_region 21 with (fail)
              go_wp2_with (fail)
              go_must (refine (marr_none HL8.out.mw HBAD.out).mono ?_)
              rintro e w9 ⟨rfl, hw9⟩
              have hw9 := hw9.symm
              subst hw9
              clear a1
              go_upto_region 22 with (fail)
              go_wp2_with (fail)
              go_must (refine (same_eq (n := 0) (l := []) _ rfl ens_nil ens_nil (by decide)).mono ?_)
              rintro e w10 ⟨rfl, hb10⟩
              have HLX := Lib.hid (HL8.out.keep hb10).next
              clear hb10
              have HEX : ∃ (A : Option Addr) (n c q : Nat) (A2 : Option Addr) (n2 c2 : Nat) (S : List En) (H : List Bool) (Am : Option Addr) (cm : Nat) (Ah : Option Addr) (ch : Nat), Hid (Lt w w10 w1.heap.size lo gm (k + 1) A n c q A2 n2 c2 S H Am cm Ah ch) := ⟨A, n, c, q, A2, n2, c2, S, H, Am, cm, Ah, ch, HLX⟩
              go_upto_region 26 with (fail)
              obtain ⟨wx, rfl⟩ : ∃ wx, wx = w10 := ⟨_, rfl⟩
              obtain ⟨A, n, c, q, A2, n2, c2, S, H, Am, cm, Ah, ch, HL⟩ := HEX
              have hnk := HL.out.nk
              have hqn := HL.out.qn
              go_cut [200] (fun cv wy => cv = .bool false ∧ Hid (Below wx.heap.size wx wy))
              case first =>
                rename_i J' K' hJ hM
                refine tell_tail HL.out hlt h3 (fun a' w' h => hM _ _ (Met.intro (hJ _ _ ?_)))
                obtain ⟨⟨u157, u158, u159, u160, u161, u162, u163, u164, u165, u166, u167, u168, u169, u170, u171, u172, u173, u174, u175, u176, u177, u178, u179, u180, u181, u182, u183, u184, u185, u186, u187, u188, u189, u190, u191, u192, u193, u194, u195, u196, u197, u198, u199, rfl⟩, hb⟩ := h
                (repeat apply Exists.intro)
                exact ⟨⟨rfl, Lib.hid hb⟩, rfl⟩
              case rest =>
                obtain ⟨rfl, HB5⟩ := hcut
                have HLZ := Lib.hid (HL.out.keep HB5.out)
                go_wp2
                go_roundw
                case rel => exact ⟨k + 1, A, n, c, q, A2, n2, c2, S, H, Am, cm, Ah, ch, by omega, by go_num, HLZ⟩
                case measure => simp [intOf]; omega
          · have HP := Lib.hid hp
            clear hp
            go_cut [22, 23] (fun lv ev wx => lv = .slice none 0 0 ∧ ev = .int .i64 5 ∧ Hid (Below wr.heap.size wr wx))
            case first =>
              go_region_held3 (fun W' : World => Below wr.heap.size wr W' ∧ W'.cell? ⟨w1.heap.size, 0, none⟩ = some (.slice A n c) ∧ W'.cell? ⟨w1.heap.size, 1, none⟩ = some (.int .i64 (q : Int)) ∧ W'.cell? ⟨w1.heap.size, 2, none⟩ = some (.slice A2 n2 c2) ∧ W'.cell? ⟨b0, off0 + k * 7 + 1, none⟩ = some (.int .i64 (p : Int)) ∧ W'.cell? ⟨b0, off0 + k * 7 + 2, none⟩ = some (.int .i64 x0) ∧ W'.cell? ⟨b0, off0 + k * 7 + 3, none⟩ = some (.int .i64 x1) ∧ W'.cell? ⟨b0, off0 + k * 7 + 4, none⟩ = some (.int .i64 x2) ∧ W'.cell? ⟨b0, off0 + k * 7 + 5, none⟩ = some (.int .i64 x3) ∧ W'.cell? ⟨b0, off0 + k * 7 + 6, none⟩ = some (.int .i64 x4))
                (first | with_reducible exact hS1 | with_reducible exact kx_set (by assumption) (by first | exact Nat.le_refl _ | exact hS1.1.size) HG.out HBL.out | exact ⟨HS0.out.1.drew, HS0.out.2⟩ | exact kx (by assumption) (Gen.b_alloc (Below.refl _ _)) | fail "keep")
                (first
                  | (go_at_call 11; (with_reducible refine (wq_twice (HL.out.wq.keep (And.left (by assumption))) HP.out).mono ?_); rintro e' w' ⟨rfl, hb⟩; have hS1 := (show Below wr.heap.size wr w' ∧ w'.cell? ⟨w1.heap.size, 0, none⟩ = some (.slice A n c) ∧ w'.cell? ⟨w1.heap.size, 1, none⟩ = some (.int .i64 (q : Int)) ∧ w'.cell? ⟨w1.heap.size, 2, none⟩ = some (.slice A2 n2 c2) ∧ w'.cell? ⟨b0, off0 + k * 7 + 1, none⟩ = some (.int .i64 (p : Int)) ∧ w'.cell? ⟨b0, off0 + k * 7 + 2, none⟩ = some (.int .i64 x0) ∧ w'.cell? ⟨b0, off0 + k * 7 + 3, none⟩ = some (.int .i64 x1) ∧ w'.cell? ⟨b0, off0 + k * 7 + 4, none⟩ = some (.int .i64 x2) ∧ w'.cell? ⟨b0, off0 + k * 7 + 5, none⟩ = some (.int .i64 x3) ∧ w'.cell? ⟨b0, off0 + k * 7 + 6, none⟩ = some (.int .i64 x4) from kx (by assumption) hb); (first | have hRw := (show Row _ _ 27 #[.slice none 0 0, .int .i64 0, .slice none 0 0] from Row.new _ _ _).keep hb | have hRw := (show Row _ _ 27 #[.slice none 0 0, .int .i64 0, .slice none 0 0] from rowd _ _ _).keep hb | skip); (try have cz0 := hRw.cell 0); (try have cz1 := hRw.cell 1); (try have cz2 := hRw.cell 2); (try have fz0 := hRw.frozen 0); (try have fz1 := hRw.frozen 1); (try have fz2 := hRw.frozen 2); (try have hRl := hRw.lt))
                  | fail "arm")
              all_goals
                go_wp2
                go_meet
                first
                  | exact ⟨rfl, rfl, Lib.hid (Gen.b_alloc hS1.1)⟩
                  | exact ⟨rfl, rfl, Lib.hid (below_set3 hS1.1 (Nat.le_refl _))⟩
            case rest =>
              obtain ⟨rfl, rfl, HB8⟩ := hcut
              have HL8 := Lib.hid (HL.out.keep HB8.out)
              have a1 := (HSA.out _ HB8.out).2.2.2.2.1
              go_upto_region 21 with (fail)
              go_wp2_with (fail)
              go_must (refine (marr_twice HL8.out.mw HP.out).mono ?_)
              rintro e w9 ⟨rfl, hw9⟩
              have hw9 := hw9.symm
              subst hw9
              clear a1
              go_upto_region 22 with (fail)
              go_wp2_with (fail)
              go_must (refine (same_eq (n := 0) (l := []) _ rfl ens_nil ens_nil (by decide)).mono ?_)
              rintro e w10 ⟨rfl, hb10⟩
              have HLX := Lib.hid (HL8.out.keep hb10).next
              clear hb10
              have HEX : ∃ (A : Option Addr) (n c q : Nat) (A2 : Option Addr) (n2 c2 : Nat) (S : List En) (H : List Bool) (Am : Option Addr) (cm : Nat) (Ah : Option Addr) (ch : Nat), Hid (Lt w w10 w1.heap.size lo gm (k + 1) A n c q A2 n2 c2 S H Am cm Ah ch) := ⟨A, n, c, q, A2, n2, c2, S, H, Am, cm, Ah, ch, HLX⟩
              go_upto_region 26 with (fail)
              obtain ⟨wx, rfl⟩ : ∃ wx, wx = w10 := ⟨_, rfl⟩
              obtain ⟨A, n, c, q, A2, n2, c2, S, H, Am, cm, Ah, ch, HL⟩ := HEX
              have hnk := HL.out.nk
              have hqn := HL.out.qn
              go_cut [200] (fun cv wy => cv = .bool false ∧ Hid (Below wx.heap.size wx wy))
              case first =>
                rename_i J' K' hJ hM
                refine tell_tail HL.out hlt h3 (fun a' w' h => hM _ _ (Met.intro (hJ _ _ ?_)))
                obtain ⟨⟨u157, u158, u159, u160, u161, u162, u163, u164, u165, u166, u167, u168, u169, u170, u171, u172, u173, u174, u175, u176, u177, u178, u179, u180, u181, u182, u183, u184, u185, u186, u187, u188, u189, u190, u191, u192, u193, u194, u195, u196, u197, u198, u199, rfl⟩, hb⟩ := h
                (repeat apply Exists.intro)
                exact ⟨⟨rfl, Lib.hid hb⟩, rfl⟩
              case rest =>
                obtain ⟨rfl, HB5⟩ := hcut
                have HLZ := Lib.hid (HL.out.keep HB5.out)
                go_wp2
                go_roundw
                case rel => exact ⟨k + 1, A, n, c, q, A2, n2, c2, S, H, Am, cm, Ah, ch, by omega, by go_num, HLZ⟩
                case measure => simp [intOf]; omega
    · obtain rfl : k = m := by omega
      have HBF := Lib.hid HL.out.bl
      go_wp2
      go_ret
      exact ⟨rfl, HBF.out⟩
theorem tells_any (w : World) (hS : S0.length = n0) (hE : Ens w A0 S0) (hn : n0 ≤ 9223372036854775807) (hc : n0 ≤ c0) (hN : early.length = r0) (hI : Ints w B0 early) (hl : r0 ≤ 9223372036854775807) (hM : ks.length = m) (ha : Acl w A3 ks) (hm : m ≤ 9223372036854775807) :
    Calls Try.prog 3 #[.slice A0 n0 c0, .int .i64 nxt, .slice B0 r0 d0', .slice A3 m cap] w fun e w' => e = .returned (.bool true) ∧ Below w.heap.size w w' := by
  by_cases h1 : n0 ≤ 30
  · by_cases h2 : r0 ≤ 30
    · by_cases h3 : m ≤ 40
      · cases hr : rgW n0 nxt early
        · exact tells_w w hS hE hN hI h1 h2 h3 hr
        · obtain ⟨_, H0, e1, e2, e3⟩ := rgW_to hr
          exact tells_r w hS hE hc hN hI hM ha h1 h2 h3 e1 e2 e3
      · exact tells_3 w hn hl hm h1 h2 (by omega)
    · exact tells_2 w hn hl hm h1 (by omega)
  · exact tells_1 w hn hl hm (by omega)
end
end Go.Proofs.Ytefikmfogbdhpaa.Po
