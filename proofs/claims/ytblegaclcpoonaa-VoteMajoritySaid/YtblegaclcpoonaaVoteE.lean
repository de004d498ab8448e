/- Package vote: comparing bools, the example's votes. -/
import Derived.Test.YtblegaclcpoonaaVoteD
import Derived.RegionTactic
import Derived.Deep.QuietTactic
import Derived.BigQuiet
namespace Go.Proofs.Ytblegaclcpoonaa.Vote
open Go.ChangeShapes Go.WideShapes Go.ChangeAt Go.RowKit
set_option linter.unusedVariables false

/-- the memory of a slice of bools -/
def Boos (w : World) (A : Option Addr) (ys : List Bool) : Prop := 0 < ys.length → ∃ b off, A = some ⟨b, off, none⟩ ∧ ∀ j z, ys[j]? = some z → w.cell? ⟨b, off + j, none⟩ = some (.bool z)
theorem Boos.keep {w w1 : World} {A : Option Addr} {zs : List Bool} (h : Boos w A zs) (hb : Below w.heap.size w w1) : Boos w1 A zs := fun h0 => by
  obtain ⟨b, off, e, hc⟩ := h h0
  exact ⟨b, off, e, fun j z hz => Vote.keep hb _ _ _ (hc j z hz)⟩
theorem Row.boos {w : World} {g : Nat} {ys : List Bool} (h : Row w g 4 (bcs ys)) : Boos w (some ⟨g, 0, none⟩) ys := fun _ => ⟨g, 0, rfl, fun j z hz => by rw [Nat.zero_add]; exact (h.cell j).trans (bcs_at hz)⟩

def bEq (a b : List Bool) : Bool := decide (a = b)

set_option maxHeartbeats 2000000 in
theorem bools_any (A : Option Addr) (n cap : Nat) (xs : List Bool) (A' : Option Addr) (m cap' : Nat) (ys : List Bool) (w : World) (hn : xs.length = n) (hc : Boos w A xs) (hbig : n ≤ 9223372036854775807)
    (hm : ys.length = m) (hc' : Boos w A' ys) (hbig' : m ≤ 9223372036854775807) :
    Calls Try.prog 37 #[.slice A n cap, .slice A' m cap'] w fun e w' => e = .returned (.bool (bEq xs ys)) ∧ Below w.heap.size w w' := by
  have HN := Lib.hid hn
  have HM := Lib.hid hm
  clear hn hm
  by_cases hnm : n = m
  · subst hnm
    go_enter Try.func37, Try.ntmps37
    go_wp2
    go_loopw [5] (fun i wr => ∃ k : Nat, k ≤ n ∧ i = .int .i64 k ∧ xs.take k = ys.take k ∧ Below w.heap.size w wr) (fun i _ => n - (intOf i).toNat)
    case atStart => exact ⟨0, Nat.zero_le _, rfl, by simp, Below.refl _ _⟩
    case round =>
      obtain ⟨k, hk, rfl, he, hB⟩ := hrel
      have HE := Lib.hid he
      have hS : w.heap.size ≤ wr.heap.size := hB.size
      clear he
      by_cases hlt : k < n
      · obtain ⟨b, off, rfl, hcell⟩ := (hc.keep hB) (by rw [HN.out]; omega)
        obtain ⟨b', off', rfl, hcell'⟩ := (hc'.keep hB) (by rw [HM.out]; omega)
        obtain ⟨x, hx⟩ := at_ xs k (by rw [HN.out]; exact hlt)
        obtain ⟨y, hy⟩ := at_ ys k (by rw [HM.out]; exact hlt)
        have c0 := hcell k x hx
        have c1 := hcell' k y hy
        have HX := Lib.hid hx
        have HY := Lib.hid hy
        have k0 : (0 : Int) ≤ (k : Int) := by omega
        have k1 : (k : Int) < (n : Int) := by omega
        clear hcell hcell' hx hy hc hc'
        by_cases hxy : x = y
        · subst hxy
          cases x
          all_goals
            go_wp2
            go_region
            go_wp2
            go_roundw
            case rel => exact ⟨k + 1, by omega, by go_num, by rw [take_snoc HX.out, take_snoc HY.out, HE.out], by go_grown⟩
            case measure => simp [intOf]; omega
        · have HF := Lib.hid (show bEq xs ys = false from decide_eq_false (fun e => hxy (by
            have h1 := HX.out
            rw [e, HY.out] at h1
            exact (Option.some.inj h1).symm)))
          cases x <;> cases y
          case false.false => exact absurd rfl hxy
          case true.true => exact absurd rfl hxy
          all_goals
            clear hxy
            go_wp2
            go_region
            go_wp2
            go_ret
            exact ⟨ret_bool HF.out.symm, by go_grown⟩
      · obtain rfl : k = n := by omega
        have HF := Lib.hid (show bEq xs ys = true from decide_eq_true (by
          have h1 := HE.out
          have e1 : xs.take k = xs := by rw [← HN.out, List.take_length]
          have e2 : ys.take k = ys := by rw [← HM.out, List.take_length]
          rwa [e1, e2] at h1))
        go_wp2
        go_ret
        exact ⟨ret_bool HF.out.symm, by go_grown⟩
  · have HF := Lib.hid (show bEq xs ys = false from decide_eq_false (fun e => hnm (by rw [← HN.out, ← HM.out, e])))
    have hnb : ((n : Int) != (m : Int)) = true := by rw [bne_iff_ne]; omega
    go_enter Try.func37, Try.ntmps37
    go_wp2
    go_ret
    exact ⟨ret_bool HF.out.symm, by go_grown⟩

/-- the votes of the example -/
def smp : List V := [⟨0, 1, true⟩, ⟨2, 2, true⟩, ⟨2, 4, false⟩, ⟨1, 5, true⟩]
set_option maxHeartbeats 1000000 in
theorem sample_any (w : World) : Calls Try.prog 60 #[] w fun e w' => e = .returned (.slice (some ⟨w.heap.size, 0, none⟩) 4 4) ∧ Below w.heap.size w w' ∧ Votes w' (some ⟨w.heap.size, 0, none⟩) smp := by
  go_enter Try.func60, Try.ntmps60
  go_wp2
  go_ret
  refine ⟨rfl, by go_grown, fun _ => ⟨w.heap.size, 0, rfl, fun j v hv => ?_⟩⟩
  have hj : j < 4 := by
    have := (List.getElem?_eq_some_iff.1 hv).1
    simpa [smp] using this
  match j, hj, hv with
  | 0, _, hv => simp [smp] at hv; subst hv; simp [At3, go_sem]
  | 1, _, hv => simp [smp] at hv; subst hv; simp [At3, go_sem]
  | 2, _, hv => simp [smp] at hv; subst hv; simp [At3, go_sem]
  | 3, _, hv => simp [smp] at hv; subst hv; simp [At3, go_sem]
end Go.Proofs.Ytblegaclcpoonaa.Vote
