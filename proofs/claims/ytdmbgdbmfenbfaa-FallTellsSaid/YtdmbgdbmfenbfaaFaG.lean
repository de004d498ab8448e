/- Fall: passed. -/
import Derived.Test.YtdmbgdbmfenbfaaFaF
namespace Go.Proofs.Ytdmbgdbmfenbfaa.Fa
open Go.ChangeShapes Go.WideShapes Go.ChangeAt Go.RowKit Go.Proofs.Ytdmbgdbmfenbfaa.Cell
set_option linter.unusedVariables false
set_option linter.unusedSimpArgs false

theorem bals_zero (l : List Tr) : bals l 0 = 0 := rfl
theorem bals_next {l : List Tr} {k : Nat} {x : Tr} (h : l[k]? = some x) : bals l (k + 1) = bals l k + x.b := by
  unfold bals
  rw [take_snoc' h, List.map_append, List.sum_append]
  simp
theorem bals_ok {l : List Tr} (h : ∀ x ∈ l, trOk x) : ∀ k : Nat, 0 ≤ bals l k ∧ bals l k ≤ 1000000000000000 * k
  | 0 => by rw [bals_zero]; omega
  | k + 1 => by
    have ih := bals_ok h k
    by_cases hk : k < l.length
    · have hx := List.getElem?_eq_getElem hk
      obtain ⟨⟨h1, h2⟩, _⟩ := h _ (List.mem_of_getElem? hx)
      rw [bals_next hx]
      omega
    · have : bals l (k + 1) = bals l k := by unfold bals; rw [List.take_of_length_le (by omega), List.take_of_length_le (by omega)]
      rw [this]
      omega
set_option maxRecDepth 100000 in
set_option maxHeartbeats 8000000 in
theorem passed_any (w : World) {g n c1 : Nat} {A1 : Option Addr} {c o m : Int} {l : List Tr} (k0 : w.cell? ⟨g, 0, none⟩ = some (.int .i64 c)) (k4 : w.cell? ⟨g, 4, none⟩ = some (.slice A1 n c1)) (hn : l.length = n) (hcap : n ≤ c1) (h40 : n ≤ 40) (hr : Rs tcs 2 w A1 l) (hl : ∀ x ∈ l, trOk x) (hc : mon c) (ho1 : 1 ≤ o) (ho2 : o ≤ (n : Int)) (hm1 : 0 ≤ m) (hm2 : m ≤ 2000) :
    Calls Try.prog 36 #[.pointer (some ⟨g, 0, none⟩), .agg #[.int .i64 o, .int .i64 m]] w fun e w' => e = .returned (.bool (decide (psd l c ⟨o, m⟩))) ∧ Below w.heap.size w w' := by
  obtain ⟨q, rfl⟩ := Int.eq_ofNat_of_zero_le (show 0 ≤ o by omega)
  have hc1 := hc.1
  have hc2 := hc.2
  have hmc : 0 ≤ m * c := Int.mul_nonneg hm1 hc1
  have hmc2 : m * c ≤ 2000000000000000000 := by
    have := Int.mul_le_mul hm2 hc2 hc1 (by omega)
    omega
  obtain ⟨A, hA⟩ : ∃ a, A1 = some a := by
    obtain ⟨b, off, e, _⟩ := hr (by omega)
    exact ⟨_, e⟩
  have hB0 : Below w.heap.size w (w.alloc (.cells #[.int .i64 (q : Int), .int .i64 m] 50)) := Gen.b_alloc (Below.refl _ _)
  have j0 := keep0 hB0 _ _ _ k0
  have j4 := keep0 hB0 _ _ _ k4
  have HR := Lib.hid hr
  have HN := Lib.hid hn
  have HL := Lib.hid (bals_ok hl)
  obtain ⟨b, off, rfl, hcell⟩ := hr (by omega)
  have HC := Lib.hid hcell
  have HK := Lib.hid k0
  have q1 : q ≤ n := by omega
  have q2 : q ≤ c1 := by omega
  have q3 : (q : Int) ≤ (c1 : Int) := by omega
  have q4 : (0 : Int) ≤ (q : Int) := by omega
  clear hn hl hc hr k0 k4 hA hcell hB0
  go_enter Try.func36, Try.ntmps36
  go_wp2
  go_quiet (fail)
  go_wp2
  go_loopw [5, 16] (fun sv iv wr => ∃ k : Nat, k ≤ q ∧ iv = .int .i64 k ∧ sv = .int .i64 (bals l k) ∧ Row wr w.heap.size 50 #[.int .i64 (q : Int), .int .i64 m] ∧ Below w.heap.size w wr) (fun _ iv _ => q - (intOf iv).toNat)
  case atStart => exact ⟨0, Nat.zero_le _, rfl, by rw [bals_zero], (Row.new _ _ _).keep (Gen.dN (Below.refl _ _) _), Gen.over (Gen.dN (Below.refl _ _) _) (Gen.b_alloc (Below.refl _ _))⟩
  case round =>
    obtain ⟨k, hk, rfl, rfl, hrow, hB⟩ := hrel
    obtain ⟨hs1, hs2⟩ := HL.out k
    have hk2 : (k : Int) ≤ (q : Int) := by omega
    have hk3 : (q : Int) ≤ 40 := by omega
    by_cases hlt : k < q
    · obtain ⟨x, hx⟩ := at_ l k (by rw [HN.out]; omega)
      have hk4 : k < n := by omega
      have m0 := keep0 hB _ _ _ (HC.out k x hx 0 _ rfl)
      have m1 := keep0 hB _ _ _ (HC.out k x hx 1 _ rfl)
      rw [Nat.add_zero] at m0
      have HS := Lib.hid (bals_next hx)
      obtain ⟨hs3, hs4⟩ := HL.out (k + 1)
      rw [HS.out] at hs3 hs4
      obtain ⟨S, hS⟩ : ∃ S, bals l k = S := ⟨_, rfl⟩
      rw [hS] at hs1 hs2 hs3 hs4 HS
      obtain ⟨xb, xu⟩ := x
      dsimp only at hs3 hs4 HS m0 m1
      have HSE := Lib.hid hS
      have HX := Lib.hid hx
      have HRW := Lib.hid hrow
      clear hS hx hrow
      simp only [HSE.out]
      go_wp2
      go_roundw
      case rel => exact ⟨k + 1, by omega, by go_num, by rw [HS.out], HRW.out.alloc _, Gen.over (Gen.b_alloc (Below.refl _ _)) hB⟩
      case measure => simp [intOf]; omega
    · obtain rfl : k = q := by omega
      have e0 := keep0 hB _ _ _ HK.out
      have e1 : wr.cell? ⟨w.heap.size, 1, none⟩ = some (.int .i64 m) := hrow.cell 1
      have hpsd := Lib.hid (show psd l c ⟨(k : Int), m⟩ ↔ bals l k * 1000 ≤ m * c by unfold psd; dsimp only; rw [Int.toNat_natCast])
      obtain ⟨S, hS⟩ : ∃ S, bals l k = S := ⟨_, rfl⟩
      rw [hS] at hs1 hs2 hpsd
      simp only [hS]
      clear hS hrow j0 j4
      by_cases hS2 : S ≤ 2000000000000000
      · have HF := Lib.hid (show decide (S * 1000 ≤ m * c) = decide (psd l c ⟨(k : Int), m⟩) from decide_eq_decide.2 hpsd.out.symm)
        have hd : decide (S ≤ 2000000000000000) = true := decide_eq_true hS2
        have hw1 : IntKind.i64.wrap (S * 1000) = S * 1000 := IntWalk.i64_in _ (by omega)
        have hw2 : IntKind.i64.wrap (m * c) = m * c := IntWalk.i64_in _ (by omega)
        go_wp2
        go_quiet (fail)
        go_wp2
        all_goals
          go_ret
          first
            | exact ⟨ret_bool HF.out, Gen.over (Gen.dN (Below.refl _ _) _) hB⟩
            | trace_state
      · have HF := Lib.hid (show decide (psd l c ⟨(k : Int), m⟩) = false from decide_eq_false (fun h => by have := hpsd.out.1 h; omega))
        have hd : decide (S ≤ 2000000000000000) = false := decide_eq_false hS2
        go_wp2
        go_quiet (fail)
        go_wp2
        all_goals
          go_ret
          first
            | exact ⟨ret_bool HF.out.symm, Gen.over (Gen.dN (Below.refl _ _) _) hB⟩
            | trace_state
end Go.Proofs.Ytdmbgdbmfenbfaa.Fa
