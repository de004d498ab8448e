/- Fall: the reference's tested, Passed. -/
import Derived.Test.YtdmbgdbmfenbfaaFaT
import Derived.Test.YtdmbgdbmfenbfaaFaG
import Derived.BigQuiet
namespace Go.Proofs.Ytdmbgdbmfenbfaa.Fa
open Go.ChangeShapes Go.WideShapes Go.ChangeAt Go.RowKit Go.Proofs.Ytdmbgdbmfenbfaa.Cell
set_option linter.unusedVariables false
set_option linter.unusedSimpArgs false
theorem psd_quo {l : List Tr} {c m : Int} {o : Nat} (hm : 0 ≤ m * c) : (bals l o ≤ (m * c).tdiv 1000) ↔ psd l c ⟨(o : Int), m⟩ := by
  unfold psd
  dsimp only
  rw [Int.toNat_natCast, Int.tdiv_eq_ediv_of_nonneg hm, Int.le_ediv_iff_mul_le (by omega)]
section
variable (c r t e : Int) (tr : List Tr) (te : List Te) (st : List St) (A1 A2 A3 : Option Addr) (c1 c2 c3 q v z : Nat) (w : World)
set_option maxRecDepth 100000 in
set_option maxHeartbeats 8000000 in
theorem tested_lit (i : Nat) (x : Te) (hq : tr.length = q) (hv : te.length = v) (h1 : Rs tcs 2 w A1 tr) (h2 : Rs qcs 2 w A2 te) (hx : te[i]? = some x) (hok : ∀ x ∈ tr, trOk x) (hcm : mon c) (hxo : teOk q x) (bq : q ≤ 40) (bv : v ≤ 40) :
    Calls Try.prog 28 #[.agg #[.int .i64 c, .int .i64 r, .int .i64 t, .int .i64 e, .slice A1 q c1, .slice A2 v c2, .slice A3 z c3], .int .i64 (i : Int)] w fun e' w' => e' = .returned (.bool (decide (psd tr c x))) ∧ Below w.heap.size w w' := by
  obtain ⟨b2, off2, rfl, hc2⟩ := h2 (by have := lt_of_at hx; omega)
  obtain ⟨xo, xm⟩ := x
  have ho1 := hxo.1
  have ho2 := hxo.2.1
  have hm1 := hxo.2.2.1
  have hm2 := hxo.2.2.2
  dsimp only at ho1 ho2 hm1 hm2
  obtain ⟨o, rfl⟩ := Int.eq_ofNat_of_zero_le (show 0 ≤ xo by omega)
  obtain ⟨b, off, rfl, hc1⟩ := h1 (by omega)
  have hcc1 := hcm.1
  have hcc2 := hcm.2
  have hmc : 0 ≤ xm * c := Int.mul_nonneg hm1 hcc1
  have hmc2 : xm * c ≤ 2000000000000000000 := by
    have := Int.mul_le_mul hm2 hcc2 hcc1 (by omega)
    omega
  have HQO := Lib.hid (psd_quo (l := tr) (o := o) hmc)
  have hqu1 : 0 ≤ (xm * c).tdiv 1000 := Int.tdiv_nonneg hmc (by omega)
  have hqu2 : (xm * c).tdiv 1000 ≤ 2000000000000000000 := by
    rw [Int.tdiv_eq_ediv_of_nonneg hmc]
    have := Int.ediv_le_self 1000 hmc
    omega
  have hB : Below w.heap.size w (w.alloc (.cells #[.int .i64 c, .int .i64 r, .int .i64 t, .int .i64 e, .slice (some ⟨b, off, none⟩) q c1, .slice (some ⟨b2, off2, none⟩) v c2, .slice A3 z c3] 26)) := Gen.b_alloc (Below.refl _ _)
  have HR := Lib.hid (show Row (w.alloc (.cells #[.int .i64 c, .int .i64 r, .int .i64 t, .int .i64 e, .slice (some ⟨b, off, none⟩) q c1, .slice (some ⟨b2, off2, none⟩) v c2, .slice A3 z c3] 26)) w.heap.size 26 #[.int .i64 c, .int .i64 r, .int .i64 t, .int .i64 e, .slice (some ⟨b, off, none⟩) q c1, .slice (some ⟨b2, off2, none⟩) v c2, .slice A3 z c3] from Row.new _ _ _)
  have HB := Lib.hid hB
  have HQ := Lib.hid hq
  have hi1 : (i : Int) < (v : Int) := by have := lt_of_at hx; omega
  have hi0 : (0 : Int) ≤ (i : Int) := by omega
  have HC1 := Lib.hid hc1
  have HL := Lib.hid (bals_ok hok)
  have HT0 := Lib.hid (Gen.keep hB (show w.cell? ⟨b2, off2 + i * 2, none⟩ = some (.int .i64 (o : Int)) from by have := hc2 i _ hx 0 _ rfl; rw [Nat.add_zero] at this; exact this))
  have HT1 := Lib.hid (Gen.keep hB (show w.cell? ⟨b2, off2 + i * 2 + 1, none⟩ = some (.int .i64 xm) from hc2 i _ hx 1 _ rfl))
  have HC1 : Hid (∀ (j : Nat) y, tr[j]? = some y → ∀ (r1 : Nat) u, (tcs y)[r1]? = some u → (w.alloc (.cells #[.int .i64 c, .int .i64 r, .int .i64 t, .int .i64 e, .slice (some ⟨b, off, none⟩) q c1, .slice (some ⟨b2, off2, none⟩) v c2, .slice A3 z c3] 26)).cell? ⟨b, off + j * 2 + r1, none⟩ = some u) := Lib.hid (fun j y hy r1 u hv => Gen.keep hB (hc1 j y hy r1 u hv))
  clear hB hq hv h1 h2 hx hok hcm hxo hc1 hc2
  go_enter Try.func28, Try.ntmps28
  go_wp2_with (fail)
  obtain ⟨W1, hW1⟩ : ∃ W, W = (w.alloc (.cells #[.int .i64 c, .int .i64 r, .int .i64 t, .int .i64 e, .slice (some ⟨b, off, none⟩) q c1, .slice (some ⟨b2, off2, none⟩) v c2, .slice A3 z c3] 26)) := ⟨_, rfl⟩
  rw [← hW1] at HR HB HT0 HT1 HC1
  rw [← hW1]
  clear hW1
  have HBA := Lib.hid (Below.refl W1.heap.size W1)
  go_loopw [5, 6] (fun sv iv wr => ∃ k : Nat, k ≤ o ∧ iv = .int .i64 k ∧ sv = .int .i64 (bals tr k) ∧ Hid (Below W1.heap.size W1 wr)) (fun _ iv _ => o - (intOf iv).toNat)
  case atStart => exact ⟨0, Nat.zero_le _, rfl, by rw [bals_zero], Lib.hid (Below.refl _ _)⟩
  case round =>
    obtain ⟨k, hk, rfl, rfl, HW⟩ := hrel
    have kk0 : (0 : Int) ≤ (k : Int) := by omega
    obtain ⟨hs1, hs2⟩ := HL.out k
    have k4 : wr.cell? ⟨w.heap.size, 4, none⟩ = some (.slice (some ⟨b, off, none⟩) q c1) := (HR.out.keep HW.out).cell 4
    have k5 : wr.cell? ⟨w.heap.size, 5, none⟩ = some (.slice (some ⟨b2, off2, none⟩) v c2) := (HR.out.keep HW.out).cell 5
    have k0 : wr.cell? ⟨w.heap.size, 0, none⟩ = some (.int .i64 c) := (HR.out.keep HW.out).cell 0
    have m0 : wr.cell? ⟨b2, off2 + i * 2, none⟩ = some (.int .i64 (o : Int)) := Gen.keep HW.out HT0.out
    have m1 : wr.cell? ⟨b2, off2 + i * 2 + 1, none⟩ = some (.int .i64 xm) := Gen.keep HW.out HT1.out
    by_cases hlt : k < o
    · have hltI : (k : Int) < (o : Int) := by omega
      have hkq : (k : Int) < (q : Int) := by omega
      obtain ⟨⟨xb, xu⟩, hxx⟩ := at_ tr k (by rw [HQ.out]; omega)
      have n0 := Gen.keep HW.out (Gen.keep HBA.out (HC1.out k _ hxx 0 _ rfl))
      rw [Nat.add_zero] at n0
      have HS := Lib.hid (bals_next hxx)
      obtain ⟨hs3, hs4⟩ := HL.out (k + 1)
      rw [HS.out] at hs3 hs4
      obtain ⟨S, hS⟩ : ∃ S, bals tr k = S := ⟨_, rfl⟩
      rw [hS] at hs1 hs2 hs3 hs4 HS
      dsimp only at hs3 hs4 HS n0
      have HSE := Lib.hid hS
      clear hS hxx hlt
      simp only [HSE.out]
      go_wp2
      go_roundw
      case rel => exact ⟨k + 1, by omega, by go_num, by rw [HS.out], HW⟩
      case measure => simp [intOf]; omega
    · obtain rfl : o = k := by omega
      have HB9 := Lib.hid (Gen.over HW.out (Gen.over HBA.out HB.out))
      obtain ⟨S, hS⟩ : ∃ S, bals tr o = S := ⟨_, rfl⟩
      have hQ := HQO.out
      rw [hS] at hs1 hs2 hQ
      simp only [hS]
      have HF := Lib.hid (show decide (S ≤ (xm * c).tdiv 1000) = decide (psd tr c ⟨(o : Int), xm⟩) from decide_eq_decide.2 hQ)
      have hw2 : IntKind.i64.wrap (xm * c) = xm * c := IntWalk.i64_in _ (by omega)
      have hw3 : IntKind.i64.wrap ((xm * c).tdiv 1000) = (xm * c).tdiv 1000 := IntWalk.i64_in _ (by omega)
      have hmc9 := hqu1
      clear hS hQ hlt hk kk0
      go_wp2
      go_quiet (fail)
      go_wp2
      all_goals
        go_ret
        exact ⟨ret_bool HF.out, Gen.over (Gen.dN (Below.refl _ _) _) HB9.out⟩
end
end Go.Proofs.Ytdmbgdbmfenbfaa.Fa
