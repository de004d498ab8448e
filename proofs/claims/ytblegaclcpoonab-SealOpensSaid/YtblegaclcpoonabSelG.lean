/- Lists of entries that come as arguments; Few. -/
import Derived.Test.YtblegaclcpoonabSelF
namespace Go.Proofs.Ytblegaclcpoonab.Seal
open Go.ChangeShapes Go.WideShapes Go.ChangeAt Go.RowKit Go.Joins Go.Maps Go.WideMaps Go.Proofs.Ytblegaclcpoonab.Cell
set_option linter.unusedVariables false
set_option linter.unusedSimpArgs false

def Els (w : World) (A : Option Addr) (l : List En) : Prop := 0 < l.length → ∃ b off, A = some ⟨b, off, none⟩ ∧ ∀ j x, l[j]? = some x → w.cell? ⟨b, off + j * 2, none⟩ = some (.int .i64 x.1) ∧ w.cell? ⟨b, off + j * 2 + 1, none⟩ = some (.string x.2)
theorem Els.keep {w w1 : World} {A : Option Addr} {l : List En} (h : Els w A l) (hb : Below w.heap.size w w1) : Els w1 A l := fun h0 => by
  obtain ⟨b, off, e, hc⟩ := h h0
  exact ⟨b, off, e, fun j x hx => ⟨keep0 hb _ _ _ (hc j x hx).1, keep0 hb _ _ _ (hc j x hx).2⟩⟩
def few44 (l : List En) : Bool := decide (l.length ≤ 40) && l.all fun x => decide (x.2.size ≤ 500)
theorem few44_in {l : List En} (h : few44 l = true) : l.length ≤ 40 ∧ ∀ x ∈ l, x.2.size ≤ 500 := by
  unfold few44 at h
  rw [Bool.and_eq_true] at h
  refine ⟨of_decide_eq_true h.1, fun x hx => ?_⟩
  have := List.all_eq_true.1 h.2 x hx
  exact of_decide_eq_true this
theorem few44_no {l : List En} {x : En} (hx : x ∈ l) (h : 500 < x.2.size) : few44 l = false := by
  cases e : few44 l
  · rfl
  · have := (few44_in e).2 x hx
    omega
set_option maxRecDepth 100000 in
set_option maxHeartbeats 4000000 in
theorem few44_any (A : Option Addr) (n cap : Nat) (l : List En) (w : World) (hn : l.length = n) (hc : Els w A l) (hbig : n ≤ 9223372036854775807) :
    Calls Try.prog 10 #[.slice A n cap, .int .i64 40] w fun e w' => e = .returned (.bool (few44 l)) ∧ w = w' := by
  have HN := Lib.hid hn
  clear hn
  go_enter Try.func10, Try.ntmps10
  go_wp2_with (fail)
  go_loopw [5] (fun iv wr => ∃ k : Nat, k ≤ n ∧ k ≤ 41 ∧ iv = .int .i64 k ∧ Hid (∀ x ∈ l.take k, x.2.size ≤ 500) ∧ wr = w) (fun iv _ => n - (intOf iv).toNat)
  case atStart => exact ⟨0, Nat.zero_le _, by omega, rfl, Lib.hid (by simp), rfl⟩
  case round =>
    obtain ⟨k, hk, hk2, rfl, HA, rfl⟩ := hrel
    by_cases hlt : k < n
    · by_cases h40 : k ≤ 40
      · obtain ⟨b, off, rfl, hcell⟩ := hc (by rw [HN.out]; omega)
        obtain ⟨x, hx⟩ := at_ l k (by rw [HN.out]; exact hlt)
        obtain ⟨c0, c1⟩ := hcell k x hx
        have hltI : (k : Int) < (n : Int) := by omega
        have hk3 : (k : Int) ≤ 40 := by omega
        have k0 : (0 : Int) ≤ (k : Int) := by omega
        have HX := Lib.hid hx
        clear hcell hx
        obtain ⟨xk, xs⟩ := x
        dsimp only at c0 c1
        by_cases h5 : 500 < xs.size
        · have HF := Lib.hid (few44_no (mem_of_at HX.out) h5)
          have h5I : (500 : Int) < (xs.size : Int) := by omega
          go_wp2
          go_ret
          exact ⟨ret_bool HF.out.symm, rfl⟩
        · have h5I : ¬ (500 : Int) < (xs.size : Int) := by omega
          have HB := Lib.hid (show ∀ x ∈ l.take (k + 1), x.2.size ≤ 500 from fun y hy => by
            rw [take_snoc HX.out, List.mem_append] at hy
            rcases hy with hy | hy
            · exact HA.out y hy
            · rw [List.mem_singleton.1 hy]; show xs.size ≤ 500; omega)
          go_wp2
          go_roundw
          case rel => first | exact ⟨k + 1, by omega, by omega, by go_num, HB, trivial⟩ | exact ⟨k + 1, by omega, by omega, by go_num, HB, rfl⟩
          case measure => simp [intOf]; omega
      · have hltI : (k : Int) < (n : Int) := by omega
        have hk3 : ¬ (k : Int) ≤ 40 := by omega
        have hk4 : ¬ (n : Int) ≤ 40 := by omega
        have HF := Lib.hid (show few44 l = false from by unfold few44; rw [decide_eq_false (show ¬ l.length ≤ 40 by rw [HN.out]; omega)]; rfl)
        go_wp2
        go_ret
        exact ⟨ret_bool (by rw [HF.out]; try exact decide_eq_false (by omega)), rfl⟩
    · obtain rfl : n = k := by omega
      have HF := Lib.hid (show few44 l = decide (n ≤ 40) from by
        unfold few44
        rw [HN.out]
        have : (l.all fun x => decide (x.2.size ≤ 500)) = true := List.all_eq_true.2 fun x hx => decide_eq_true (HA.out x (by rw [List.take_of_length_le (by rw [HN.out]; exact Nat.le_refl _)]; exact hx))
        rw [this, Bool.and_true])
      go_wp2
      go_ret
      exact ⟨ret_bool (by rw [HF.out]; exact decide_eq_decide.2 (by omega)), rfl⟩
end Go.Proofs.Ytblegaclcpoonab.Seal
