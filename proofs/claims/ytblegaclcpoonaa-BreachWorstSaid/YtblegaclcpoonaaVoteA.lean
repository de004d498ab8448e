/- Package vote: the contracts of its leaves: 'valid', 'Reached', 'Missing', 'sum'. -/
import Derived.Test.YtblegaclcpoonaaRows
import Derived.WalkKit
import Derived.ProofKit
import Derived.OpenShut
import Derived.Outline
import Derived.Handy
import Derived.LoopTactic
import Derived.Lib.Hide
namespace Go.Proofs.Ytblegaclcpoonaa.Vote
open Go.ChangeShapes Go.WideShapes Go.ChangeAt Go.RowKit
set_option linter.unusedVariables false

theorem ret_bool {a b : Bool} (h : a = b) : Ending.returned (.bool a) = .returned (.bool b) := by rw [h]
theorem ret_int {k : IntKind} {a b : Int} (h : a = b) : Ending.returned (.int k a) = .returned (.int k b) := by rw [h]

theorem ret_ib {a a' : Int} {b b' : Bool} (h : a' = a ∧ b' = b) : Ending.returned (.tuple #[.int .i64 a, .bool b]) = .returned (.tuple #[.int .i64 a', .bool b']) := by rw [h.1, h.2]

def vld (m y a : Int) : Bool := decide (1 ≤ m ∧ m ≤ 1000 ∧ 1 ≤ a ∧ a ≤ 1000000000 ∧ 0 ≤ y ∧ y ≤ a)

set_option maxHeartbeats 400000 in
theorem valid_any (m y a : Int) (w : World) : Calls Try.prog 64 #[.int .i64 m, .int .i64 y, .int .i64 a] w fun e w' => e = .returned (.bool (vld m y a)) ∧ w = w' := by
  by_cases h : 1 ≤ m ∧ m ≤ 1000 ∧ 1 ≤ a ∧ a ≤ 1000000000 ∧ 0 ≤ y ∧ y ≤ a
  · rw [show vld m y a = true from decide_eq_true h]
    obtain ⟨h1, h2, h3, h4, h5, h6⟩ := h
    go_enter Try.func64, Try.ntmps64
    go_wp2
    go_ret
    exact ⟨rfl, rfl⟩
  · rw [show vld m y a = false from decide_eq_false h]
    have H := Lib.hid h
    clear h
    go_enter Try.func64, Try.ntmps64
    go_wp2
    all_goals
      go_ret
      exact ⟨ret_bool (by first | rfl | (have := H.out; simp; omega)), rfl⟩

/-- the majority is reached -/
def rch (m y a : Int) : Bool := vld m y a && decide (a * m ≤ y * 1000)
/-- what is missing -/
def mis (m y a : Int) : Int := if vld m y a = true then (if (a * m + 1000 - 1) / 1000 ≤ y then 0 else (a * m + 1000 - 1) / 1000 - y) else -1

theorem mul_bound {m a : Int} (h1 : 1 ≤ m) (h2 : m ≤ 1000) (h3 : 1 ≤ a) (h4 : a ≤ 1000000000) : 1 ≤ a * m ∧ a * m ≤ 1000000000000 := by
  constructor
  · have := Int.mul_le_mul h3 h1 (by omega) (by omega)
    simpa using this
  · have := Int.mul_le_mul h4 h2 (by omega) (by omega)
    simpa using this

set_option maxHeartbeats 400000 in
theorem reached_any (m y a : Int) (w : World) : Calls Try.prog 33 #[.int .i64 m, .int .i64 y, .int .i64 a] w fun e w' => e = .returned (.bool (rch m y a)) ∧ w = w' := by
  cases hv : vld m y a
  · rw [show rch m y a = false from by unfold rch; rw [hv]; rfl]
    go_enter Try.func33, Try.ntmps33
    go_wp2_with (go_at_call 64; refine (valid_any _ _ _ _).mono ?_; rintro e w' ⟨rfl, rfl⟩)
    go_ret
    exact ⟨rfl, rfl⟩
  · rw [show rch m y a = decide (a * m ≤ y * 1000) from by unfold rch; rw [hv]; rfl]
    obtain ⟨h1, h2, h3, h4, h5, h6⟩ := of_decide_eq_true hv
    obtain ⟨b1, b2⟩ := mul_bound h1 h2 h3 h4
    go_enter Try.func33, Try.ntmps33
    go_wp2_with (go_at_call 64; refine (valid_any _ _ _ _).mono ?_; rintro e w' ⟨rfl, rfl⟩)
    go_ret
    exact ⟨ret_bool (by first | rfl | simp), rfl⟩

set_option maxHeartbeats 400000 in
theorem missing_any (m y a : Int) (w : World) : Calls Try.prog 35 #[.int .i64 m, .int .i64 y, .int .i64 a] w fun e w' => e = .returned (.int .i64 (mis m y a)) ∧ w = w' := by
  cases hv : vld m y a
  · rw [show mis m y a = -1 from by unfold mis; rw [hv]; rfl]
    go_enter Try.func35, Try.ntmps35
    go_wp2_with (go_at_call 64; refine (valid_any _ _ _ _).mono ?_; rintro e w' ⟨rfl, rfl⟩)
    go_ret
    exact ⟨rfl, rfl⟩
  · obtain ⟨h1, h2, h3, h4, h5, h6⟩ := of_decide_eq_true hv
    obtain ⟨b1, b2⟩ := mul_bound h1 h2 h3 h4
    have hm : mis m y a = if (a * m + 1000 - 1) / 1000 ≤ y then 0 else (a * m + 1000 - 1) / 1000 - y := by unfold mis; rw [hv]; rfl
    have HM := Lib.hid hm
    clear hm
    go_enter Try.func35, Try.ntmps35
    go_wp2_with (go_at_call 64; refine (valid_any _ _ _ _).mono ?_; rintro e w' ⟨rfl, rfl⟩)
    · go_ret
      exact ⟨ret_int (by rw [HM.out, if_neg (by omega)]), rfl⟩
    · go_ret
      exact ⟨ret_int (by rw [HM.out, if_pos (by omega)]), rfl⟩

/-- a number of units that is right -/
def goodU (z : Int) : Bool := decide (0 ≤ z ∧ z ≤ 1000000000)
theorem goodU_in {z : Int} (h : goodU z = true) : 0 ≤ z ∧ z ≤ 1000000000 := of_decide_eq_true h
def total (zs : List Int) : Int := zs.foldl (· + ·) 0
theorem total_snoc (zs : List Int) (z : Int) : total (zs ++ [z]) = total zs + z := by simp [total]
theorem take_snoc {α : Type} {xs : List α} {k : Nat} {x : α} (h : xs[k]? = some x) : xs.take (k + 1) = xs.take k ++ [x] := by
  rw [List.take_add_one, h]; rfl
theorem at_ {α : Type} (xs : List α) (k : Nat) (h : k < xs.length) : ∃ x, xs[k]? = some x := ⟨xs[k], List.getElem?_eq_getElem h⟩
theorem mem_of_at {α : Type} {xs : List α} {k : Nat} {x : α} (h : xs[k]? = some x) : x ∈ xs := List.mem_of_getElem? h
theorem total_in (zs : List Int) : zs.all goodU = true → 0 ≤ total zs ∧ total zs ≤ zs.length * 1000000000 := by
  intro h
  have key : ∀ k, k ≤ zs.length → 0 ≤ total (zs.take k) ∧ total (zs.take k) ≤ k * 1000000000 := by
    intro k
    induction k with
    | zero => intro _; simp [total]
    | succ k ih =>
      intro hk
      obtain ⟨z, hz⟩ := at_ zs k (by omega)
      have b := goodU_in (List.all_eq_true.1 h z (mem_of_at hz))
      have i := ih (by omega)
      rw [take_snoc hz, total_snoc]
      omega
  have := key zs.length (Nat.le_refl _)
  rwa [List.take_length] at this
/-- all units are right -/
def allU (zs : List Int) : Bool := decide (zs.length ≤ 20000) && zs.all goodU
def sumV (zs : List Int) : Int := if allU zs = true then total zs else 0
def sumB (zs : List Int) : Bool := allU zs && decide (total zs ≤ 1000000000)

/-- the memory of a slice of ints -/
def Ints (w : World) (A : Option Addr) (zs : List Int) : Prop := 0 < zs.length → ∃ b off, A = some ⟨b, off, none⟩ ∧ ∀ j z, zs[j]? = some z → w.cell? ⟨b, off + j, none⟩ = some (.int .i64 z)

theorem not_all {zs : List Int} {k : Nat} {z : Int} (h : zs[k]? = some z) (hz : goodU z = false) : zs.all goodU = false := by
  rw [List.all_eq_false]
  exact ⟨z, mem_of_at h, by simp [hz]⟩
theorem bad_lo {z : Int} (h : z < 0) : goodU z = false := decide_eq_false (by omega)
theorem bad_hi {z : Int} (h : 1000000000 < z) : goodU z = false := decide_eq_false (by omega)
theorem sum_no {zs : List Int} (h : allU zs = false) : sumV zs = 0 ∧ sumB zs = false := by
  unfold sumV sumB
  simp [h]
theorem sum_yes {zs : List Int} (h : allU zs = true) : sumV zs = total zs ∧ sumB zs = decide (total zs ≤ 1000000000) := by
  unfold sumV sumB
  simp [h]

set_option maxHeartbeats 1000000 in
theorem sum_any (A : Option Addr) (n cap : Nat) (zs : List Int) (w : World) (hn : zs.length = n) (hc : Ints w A zs) (hbig : n ≤ 9223372036854775807) :
    Calls Try.prog 61 #[.slice A n cap] w fun e w' => e = .returned (.tuple #[.int .i64 (sumV zs), .bool (sumB zs)]) ∧ w = w' := by
  by_cases h0 : n ≤ 20000
  · have HN := Lib.hid hn
    clear hn
    go_enter Try.func61, Try.ntmps61
    go_wp2
    go_loop [4, 12] (fun s i => ∃ k : Nat, k ≤ n ∧ i = .int .i64 k ∧ (zs.take k).all goodU = true ∧ s = .int .i64 (total (zs.take k))) (fun _ i => n - (intOf i).toNat)
    case atStart => exact ⟨0, Nat.zero_le _, rfl, by simp, by simp [total]⟩
    case round =>
      obtain ⟨k, hk, rfl, ha, rfl⟩ := hrel
      have hb := total_in _ ha
      have hl : ((zs.take k).length : Int) ≤ 20000 := by
        have := List.length_take_le k zs
        omega
      have hb1 := hb.1
      have hb2 : total (zs.take k) ≤ 20000000000000 := by omega
      have HL := Lib.hid ha
      clear hb hl ha
      by_cases hlt : k < n
      · obtain ⟨b, off, rfl, hcell⟩ := hc (by rw [HN.out]; omega)
        obtain ⟨z, hz⟩ := at_ zs k (by rw [HN.out]; exact hlt)
        have hcz := hcell k z hz
        have HZ := Lib.hid hz
        clear hcell hc hz
        by_cases hlo : z < 0
        · have e1 := sum_no (zs := zs) (by unfold allU; rw [not_all HZ.out (bad_lo hlo), Bool.and_false])
          have E := Lib.hid e1
          clear e1
          go_wp2
          go_ret2
          exact ⟨ret_ib E.out, rfl⟩
        · by_cases hhi : 1000000000 < z
          · have e1 := sum_no (zs := zs) (by unfold allU; rw [not_all HZ.out (bad_hi hhi), Bool.and_false])
            have E := Lib.hid e1
            clear e1
            have hlo' : 0 ≤ z := by omega
            clear hlo
            go_wp2
            go_ret2
            exact ⟨ret_ib E.out, rfl⟩
          · have hlo' : 0 ≤ z := by omega
            have hhi' : z ≤ 1000000000 := by omega
            clear hlo hhi
            go_wp2
            go_round
            case rel => exact ⟨k + 1, by omega, by go_num, by rw [take_snoc HZ.out, List.all_append, HL.out]; simp [goodU]; omega, by rw [take_snoc HZ.out, total_snoc]⟩
            case measure => simp [intOf]; omega
      · obtain rfl : k = n := by omega
        have hall : allU zs = true := by
          have := HL.out
          rw [← HN.out, List.take_length] at this
          unfold allU
          rw [this, HN.out, decide_eq_true h0]
          rfl
        have ht : total (zs.take k) = total zs := by rw [← HN.out, List.take_length]
        have e1 := sum_yes hall
        rw [← ht] at e1
        have E := Lib.hid e1
        clear e1 ht hall
        go_wp2
        go_ret2
        exact ⟨ret_ib (by simpa using E.out), rfl⟩
  · have e1 := sum_no (zs := zs) (by unfold allU; rw [decide_eq_false (by omega)]; rfl)
    have E := Lib.hid e1
    have h1 : 20000 < n := by omega
    clear hn h0 e1
    go_enter Try.func61, Try.ntmps61
    go_wp2
    go_ret2
    exact ⟨ret_ib E.out, rfl⟩
end Go.Proofs.Ytblegaclcpoonaa.Vote
