/- Fall: Run as functions of the deal and the money; the reference's Same. -/
import Derived.Test.YtdmbgdbmfenbfaaFaO
import Derived.BigQuiet
namespace Go.Proofs.Ytdmbgdbmfenbfaa.Fa
open Go.ChangeShapes Go.WideShapes Go.ChangeAt Go.RowKit Go.Proofs.Ytdmbgdbmfenbfaa.Cell
set_option linter.unusedVariables false
set_option linter.unusedSimpArgs false

/-- the error of Run -/
def runE (d : Dl) (m : Int) : Int := if rgb d = true ∧ mon m then (if m + d.t ≤ 1000000000000000 ∧ (dwn d m).2.e ≤ 1000000000000000 then 0 else 3) else 1
def zD : Dl := ⟨0, 0, 0, 0, [], [], []⟩
def zP : Pl := ⟨none, 0, none, 0, none, 0⟩
/-- the deal that Run returns -/
def runD (d : Dl) (m : Int) : Dl := if runE d m = 0 then bot d (dwn d m).2 else zD
/-- what Run says the steps have taken -/
def runX (d : Dl) (m : Int) : List Int := if runE d m = 0 then (dwn d m).1 else []
theorem runE_0 {d : Dl} {m : Int} : runE d m = 0 ↔ rgb d = true ∧ mon m ∧ m + d.t ≤ 1000000000000000 ∧ (dwn d m).2.e ≤ 1000000000000000 := by
  unfold runE
  by_cases h : rgb d = true ∧ mon m
  · rw [if_pos h]
    by_cases h2 : m + d.t ≤ 1000000000000000 ∧ (dwn d m).2.e ≤ 1000000000000000
    · rw [if_pos h2]; exact ⟨fun _ => ⟨h.1, h.2, h2⟩, fun _ => rfl⟩
    · rw [if_neg h2]; exact ⟨fun c => by omega, fun c => absurd c.2.2 h2⟩
  · rw [if_neg h]; exact ⟨fun c => by omega, fun c => absurd ⟨c.1, c.2.1⟩ h⟩
theorem zdm (w : World) : Dm w zD zP := ⟨Rs.nil _ _, Rs.nil _ _, Rs.nil _ _⟩
theorem runD_right {d : Dl} {m : Int} : rgb (runD d m) = true := by
  unfold runD
  by_cases h : runE d m = 0
  · rw [if_pos h]
    obtain ⟨h1, h2, h3, h4⟩ := runE_0.1 h
    obtain ⟨_, _, _, a4, _⟩ := dwn_keeps (rgb_iff.1 h1) h2 h3
    exact rgb_iff.2 (a4.2 h4)
  · rw [if_neg h]; decide
theorem run_fun (d : Dl) (p : Pl) (m : Int) (w : World) (h : Dm w d p) : Calls Try.prog 8 #[.agg #[.int .i64 d.c, .int .i64 d.r, .int .i64 d.t, .int .i64 d.e, .slice p.A1 d.tr.length p.c1, .slice p.A2 d.te.length p.c2, .slice p.A3 d.st.length p.c3], .int .i64 m] w fun e w' => ∃ (a : Dl) (x : List Int) (k : Int) (A1 : Option Addr) (c1 : Nat) (A2 : Option Addr) (c2 : Nat) (A3 : Option Addr) (c3 : Nat) (At : Option Addr) (ct : Nat), a = runD d m ∧ x = runX d m ∧ k = runE d m ∧
    e = .returned (.tuple #[.agg #[.int .i64 a.c, .int .i64 a.r, .int .i64 a.t, .int .i64 a.e, .slice A1 a.tr.length c1, .slice A2 a.te.length c2, .slice A3 a.st.length c3], .slice At x.length ct, .int .i64 k]) ∧
    Dm w' a ⟨A1, c1, A2, c2, A3, c3⟩ ∧ Ints w' At x ∧ Below w.heap.size w w' := by
  have hz : ∀ k : Int, runE d m = k → k ≠ 0 → ∀ w' : World, Below w.heap.size w w' → ∃ (a : Dl) (x : List Int) (k : Int) (A1 : Option Addr) (c1 : Nat) (A2 : Option Addr) (c2 : Nat) (A3 : Option Addr) (c3 : Nat) (At : Option Addr) (ct : Nat), a = runD d m ∧ x = runX d m ∧ k = runE d m ∧
    Ending.returned (errv (runE d m)) = .returned (.tuple #[.agg #[.int .i64 a.c, .int .i64 a.r, .int .i64 a.t, .int .i64 a.e, .slice A1 a.tr.length c1, .slice A2 a.te.length c2, .slice A3 a.st.length c3], .slice At x.length ct, .int .i64 k]) ∧
    Dm w' a ⟨A1, c1, A2, c2, A3, c3⟩ ∧ Ints w' At x ∧ Below w.heap.size w w' := by
    intro k hk h0 w' hb
    exact ⟨zD, [], k, none, 0, none, 0, none, 0, none, 0, by unfold runD; rw [if_neg (by rw [hk]; exact h0)], by unfold runX; rw [if_neg (by rw [hk]; exact h0)], hk.symm, by rw [hk]; rfl, zdm _, fun h => by simp at h, hb⟩
  by_cases hok : rgb d = true ∧ mon m ∧ m + d.t ≤ 1000000000000000
  · refine (run_any d p m w h hok.1 hok.2.1 hok.2.2).mono ?_
    intro e w' hq
    unfold RunQ at hq
    by_cases he : (dwn d m).2.e ≤ 1000000000000000
    · rw [if_pos he] at hq
      obtain ⟨⟨B1, d1, B2, d2, B3, d3⟩, At, ct, rfl, o1, o2, o3, o4, hb⟩ := hq
      have h0 : runE d m = 0 := runE_0.2 ⟨hok.1, hok.2.1, hok.2.2, he⟩
      obtain ⟨_, _, a3, _, _⟩ := dwn_keeps (rgb_iff.1 hok.1) hok.2.1 hok.2.2
      refine ⟨bot d (dwn d m).2, (dwn d m).1, 0, B1, d1, B2, d2, B3, d3, At, ct, by unfold runD; rw [if_pos h0], by unfold runX; rw [if_pos h0], h0.symm, ?_, RunP.dm (p := ⟨B1, d1, B2, d2, B3, d3⟩) o1 o2 o3, ints_own o4, hb⟩
      rw [a3]
      rfl
    · rw [if_neg he] at hq
      obtain ⟨rfl, hb⟩ := hq
      have h3 : runE d m = 3 := by unfold runE; rw [if_pos ⟨hok.1, hok.2.1⟩, if_neg (fun c => he c.2)]
      have := hz 3 h3 (by omega) w' hb
      rw [h3] at this
      rw [h3]
      exact this
  · refine (run_err d p m w h hok).mono ?_
    rintro e w' ⟨rfl, hb⟩
    have hk : runE d m = if rgb d = true ∧ mon m then 3 else 1 := by
      unfold runE
      by_cases h1 : rgb d = true ∧ mon m
      · rw [if_pos h1, if_pos h1, if_neg (fun c => hok ⟨h1.1, h1.2, c.1⟩)]
      · rw [if_neg h1, if_neg h1]
    rw [← hk]
    exact hz _ rfl (by rw [hk]; split <;> omega) w' hb
set_option maxRecDepth 100000 in
set_option maxHeartbeats 8000000 in
theorem dsame_eq (a : Dl) (A1 A2 A3 B1 B2 B3 : Option Addr) (c1 c2 c3 d1 d2 d3 : Nat) (w : World) (h : Dm w a ⟨A1, c1, A2, c2, A3, c3⟩) (h' : Dm w a ⟨B1, d1, B2, d2, B3, d3⟩) (hl1 : a.tr.length ≤ 1000000) (hl2 : a.te.length ≤ 1000000) (hl3 : a.st.length ≤ 1000000) :
    Calls Try.prog 10 #[.agg #[.int .i64 a.c, .int .i64 a.r, .int .i64 a.t, .int .i64 a.e, .slice A1 a.tr.length c1, .slice A2 a.te.length c2, .slice A3 a.st.length c3], .agg #[.int .i64 a.c, .int .i64 a.r, .int .i64 a.t, .int .i64 a.e, .slice B1 a.tr.length d1, .slice B2 a.te.length d2, .slice B3 a.st.length d3]] w fun e w' => e = .returned (.bool true) ∧ Below w.heap.size w w' := by
  obtain ⟨c, r, t, e, tr, te, st⟩ := a
  dsimp only at hl1 hl2 hl3 h h' ⊢
  obtain ⟨q, hq⟩ : ∃ q, tr.length = q := ⟨_, rfl⟩
  obtain ⟨v, hv⟩ : ∃ q, te.length = q := ⟨_, rfl⟩
  obtain ⟨z, hz⟩ : ∃ q, st.length = q := ⟨_, rfl⟩
  rw [hq] at hl1 ⊢
  rw [hv] at hl2 ⊢
  rw [hz] at hl3 ⊢
  have HQ := Lib.hid hq
  have HV := Lib.hid hv
  have HZ := Lib.hid hz
  have hB : Below w.heap.size w ((w.alloc (.cells #[.int .i64 c, .int .i64 r, .int .i64 t, .int .i64 e, .slice A1 q c1, .slice A2 v c2, .slice A3 z c3] 26)).alloc (.cells #[.int .i64 c, .int .i64 r, .int .i64 t, .int .i64 e, .slice B1 q d1, .slice B2 v d2, .slice B3 z d3] 26)) := Gen.b_alloc (Gen.b_alloc (Below.refl _ _))
  have HM := Lib.hid (h.keep hB)
  have HN := Lib.hid (h'.keep hB)
  have HRA := Lib.hid (show Row ((w.alloc (.cells #[.int .i64 c, .int .i64 r, .int .i64 t, .int .i64 e, .slice A1 q c1, .slice A2 v c2, .slice A3 z c3] 26)).alloc (.cells #[.int .i64 c, .int .i64 r, .int .i64 t, .int .i64 e, .slice B1 q d1, .slice B2 v d2, .slice B3 z d3] 26)) w.heap.size 26 #[.int .i64 c, .int .i64 r, .int .i64 t, .int .i64 e, .slice A1 q c1, .slice A2 v c2, .slice A3 z c3] from (Row.new _ _ _).alloc _)
  have HRB := Lib.hid (show Row ((w.alloc (.cells #[.int .i64 c, .int .i64 r, .int .i64 t, .int .i64 e, .slice A1 q c1, .slice A2 v c2, .slice A3 z c3] 26)).alloc (.cells #[.int .i64 c, .int .i64 r, .int .i64 t, .int .i64 e, .slice B1 q d1, .slice B2 v d2, .slice B3 z d3] 26)) (w.heap.size + 1) 26 #[.int .i64 c, .int .i64 r, .int .i64 t, .int .i64 e, .slice B1 q d1, .slice B2 v d2, .slice B3 z d3] from Gen.rowAt _ _ _ (by simp))
  have HB := Lib.hid hB
  have x0 : (c != c) = false := by simp
  have x1 : (r != r) = false := by simp
  have x2 : (t != t) = false := by simp
  have x3 : (e != e) = false := by simp
  have x4 : ((q : Int) != (q : Int)) = false := by simp
  have x5 : ((v : Int) != (v : Int)) = false := by simp
  have x6 : ((z : Int) != (z : Int)) = false := by simp
  clear hq hv hz h h' hB
  go_enter Try.func10, Try.ntmps10
  go_wp2_with (fail)
  clear x0 x1 x2 x3 x4 x5 x6
  obtain ⟨W0, hW0⟩ : ∃ W, W = ((w.alloc (.cells #[.int .i64 c, .int .i64 r, .int .i64 t, .int .i64 e, .slice A1 q c1, .slice A2 v c2, .slice A3 z c3] 26)).alloc (.cells #[.int .i64 c, .int .i64 r, .int .i64 t, .int .i64 e, .slice B1 q d1, .slice B2 v d2, .slice B3 z d3] 26)) := ⟨_, rfl⟩
  rw [← hW0] at HM HN HRA HRB HB
  rw [← hW0]
  clear hW0
  go_loopw [5] (fun iv wr => ∃ k : Nat, k ≤ q ∧ iv = .int .i64 k ∧ Hid (Below W0.heap.size W0 wr)) (fun iv _ => q - (intOf iv).toNat)
  case atStart => exact ⟨0, Nat.zero_le _, rfl, Lib.hid (Below.refl _ _)⟩
  case round =>
    obtain ⟨k, hk, rfl, HW⟩ := hrel
    have k0 : (0 : Int) ≤ (k : Int) := by omega
    have ca : wr.cell? ⟨w.heap.size, 4, none⟩ = some (.slice A1 q c1) := (HRA.out.keep HW.out).cell 4
    have cb : wr.cell? ⟨w.heap.size + 1, 4, none⟩ = some (.slice B1 q d1) := (HRB.out.keep HW.out).cell 4
    by_cases hlt : k < q
    · have hltI : (k : Int) < (q : Int) := by omega
      obtain ⟨x, hx⟩ := at_ tr k (by rw [HQ.out]; exact hlt)
      obtain ⟨b, off, rfl, hc⟩ := (HM.out.keep HW.out).t1 (by dsimp only; rw [HQ.out]; omega)
      obtain ⟨b2, off2, rfl, hc2⟩ := (HN.out.keep HW.out).t1 (by dsimp only; rw [HQ.out]; omega)
      have m0 := hc k x hx 0 _ rfl
      have n0 := hc2 k x hx 0 _ rfl
      have m1 := hc k x hx 1 _ rfl
      have n1 := hc2 k x hx 1 _ rfl
      rw [Nat.add_zero] at m0 n0
      clear hc hc2 hx hlt
      obtain ⟨xb, xu⟩ := x
      dsimp only at m0 n0 m1 n1
      have hxb : (xb != xb) = false := by simp
      have hxu : (xu != xu) = false := by simp
      go_wp2
      go_quiet (fail)
      go_wp2
      go_roundw
      case rel => exact ⟨k + 1, by omega, by go_num, Lib.hid (Gen.dN HW.out _)⟩
      case measure => simp [intOf]; omega
    · obtain rfl : q = k := by omega
      have HM := Lib.hid (HM.out.keep HW.out)
      have HN := Lib.hid (HN.out.keep HW.out)
      have HRA := Lib.hid (HRA.out.keep HW.out)
      have HRB := Lib.hid (HRB.out.keep HW.out)
      have HB := Lib.hid (Gen.over HW.out HB.out)
      go_wp2_with (fail)
      clear ca cb hlt hk k0
      obtain ⟨W1, hw1⟩ : ∃ W, W = wr := ⟨_, rfl⟩
      rw [← hw1]
      rw [← hw1] at HM HN HRA HRB HB
      clear hw1 HW
      go_loopw [6] (fun iv wr => ∃ k : Nat, k ≤ v ∧ iv = .int .i64 k ∧ Hid (Below W1.heap.size W1 wr)) (fun iv _ => v - (intOf iv).toNat)
      case atStart => exact ⟨0, Nat.zero_le _, rfl, Lib.hid (Below.refl _ _)⟩
      case round =>
        obtain ⟨k, hk, rfl, HW⟩ := hrel
        have k0 : (0 : Int) ≤ (k : Int) := by omega
        have ca : wr.cell? ⟨w.heap.size, 5, none⟩ = some (.slice A2 v c2) := (HRA.out.keep HW.out).cell 5
        have cb : wr.cell? ⟨w.heap.size + 1, 5, none⟩ = some (.slice B2 v d2) := (HRB.out.keep HW.out).cell 5
        by_cases hlt : k < v
        · have hltI : (k : Int) < (v : Int) := by omega
          obtain ⟨x, hx⟩ := at_ te k (by rw [HV.out]; exact hlt)
          obtain ⟨b, off, rfl, hc⟩ := (HM.out.keep HW.out).t2 (by dsimp only; rw [HV.out]; omega)
          obtain ⟨b2, off2, rfl, hc2⟩ := (HN.out.keep HW.out).t2 (by dsimp only; rw [HV.out]; omega)
          have m0 := hc k x hx 0 _ rfl
          have n0 := hc2 k x hx 0 _ rfl
          have m1 := hc k x hx 1 _ rfl
          have n1 := hc2 k x hx 1 _ rfl
          rw [Nat.add_zero] at m0 n0
          clear hc hc2 hx hlt
          obtain ⟨xo, xm⟩ := x
          dsimp only at m0 n0 m1 n1
          have hxo : (xo != xo) = false := by simp
          have hxm : (xm != xm) = false := by simp
          go_wp2
          go_quiet (fail)
          go_wp2
          go_roundw
          case rel => exact ⟨k + 1, by omega, by go_num, Lib.hid (Gen.dN HW.out _)⟩
          case measure => simp [intOf]; omega
        · obtain rfl : v = k := by omega
          have HM := Lib.hid (HM.out.keep HW.out)
          have HN := Lib.hid (HN.out.keep HW.out)
          have HRA := Lib.hid (HRA.out.keep HW.out)
          have HRB := Lib.hid (HRB.out.keep HW.out)
          have HB := Lib.hid (Gen.over HW.out HB.out)
          go_wp2_with (fail)
          clear ca cb hlt hk k0
          obtain ⟨W2, hw2⟩ : ∃ W, W = wr := ⟨_, rfl⟩
          rw [← hw2]
          rw [← hw2] at HM HN HRA HRB HB
          clear hw2 HW
          go_loopw [7] (fun iv wr => ∃ k : Nat, k ≤ z ∧ iv = .int .i64 k ∧ Hid (Below W2.heap.size W2 wr)) (fun iv _ => z - (intOf iv).toNat)
          case atStart => exact ⟨0, Nat.zero_le _, rfl, Lib.hid (Below.refl _ _)⟩
          case round =>
            obtain ⟨k, hk, rfl, HW⟩ := hrel
            have k0 : (0 : Int) ≤ (k : Int) := by omega
            have ca : wr.cell? ⟨w.heap.size, 6, none⟩ = some (.slice A3 z c3) := (HRA.out.keep HW.out).cell 6
            have cb : wr.cell? ⟨w.heap.size + 1, 6, none⟩ = some (.slice B3 z d3) := (HRB.out.keep HW.out).cell 6
            by_cases hlt : k < z
            · have hltI : (k : Int) < (z : Int) := by omega
              obtain ⟨x, hx⟩ := at_ st k (by rw [HZ.out]; exact hlt)
              obtain ⟨b, off, rfl, hc⟩ := (HM.out.keep HW.out).t3 (by dsimp only; rw [HZ.out]; omega)
              obtain ⟨b2, off2, rfl, hc2⟩ := (HN.out.keep HW.out).t3 (by dsimp only; rw [HZ.out]; omega)
              have m0 := hc k x hx 0 _ rfl
              have n0 := hc2 k x hx 0 _ rfl
              have m1 := hc k x hx 1 _ rfl
              have n1 := hc2 k x hx 1 _ rfl
              have m2 := hc k x hx 2 _ rfl
              have n2 := hc2 k x hx 2 _ rfl
              rw [Nat.add_zero] at m0 n0
              clear hc hc2 hx hlt
              obtain ⟨xk, xn, xa⟩ := x
              dsimp only at m0 n0 m1 n1 m2 n2
              have hxk : (xk != xk) = false := by simp
              have hxn : (xn != xn) = false := by simp
              have hxa : (xa != xa) = false := by simp
              go_wp2
              go_quiet (fail)
              go_wp2
              go_roundw
              case rel => exact ⟨k + 1, by omega, by go_num, Lib.hid (Gen.dN HW.out _)⟩
              case measure => simp [intOf]; omega
            · obtain rfl : z = k := by omega
              have HB9 := Lib.hid (Gen.over HW.out HB.out)
              go_wp2
              go_ret
              exact ⟨rfl, HB9.out⟩
end Go.Proofs.Ytdmbgdbmfenbfaa.Fa
