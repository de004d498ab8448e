/- Package breach: the contracts of its functions. -/
import Derived.Test.YtblegaclcpoonaaRows
import Derived.WalkKit
import Derived.ProofKit
import Derived.OpenShut
import Derived.Outline
import Derived.Handy
import Derived.Lib.Hide
namespace Go.Proofs.Ytblegaclcpoonaa.Br
open Go.ChangeShapes Go.WideShapes Go.ChangeAt Go.RowKit
set_option linter.unusedVariables false

theorem keep {W w1 : World} (hb : Below W.heap.size W w1) (b o : Nat) (v : Value) (h : W.cell? ⟨b, o, none⟩ = some v) : w1.cell? ⟨b, o, none⟩ = some v :=
  (hb.cell (p := ⟨b, o, none⟩) (World.block_lt_of_cell? W ⟨b, o, none⟩ h)).trans h
theorem keepf {W w1 : World} (hb : Below W.heap.size W w1) (b : Nat) (h : b < W.heap.size) (hf : ∀ j, W.frozen? ⟨b, j, none⟩ = false) : ∀ j, w1.frozen? ⟨b, j, none⟩ = false :=
  fun j => (hb.frozen (p := ⟨b, j, none⟩) h).trans (hf j)
theorem over {a W w1 : World} (hb : Below W.heap.size W w1) (hW : Below a.heap.size a W) : Below a.heap.size a w1 := hW.trans (hb.mono hW.size)
theorem keep2 {W w1 : World} (hb : Below W.heap.size W w1) (b : Nat) (x y : Value) (h : W.cell? ⟨b, 0, none⟩ = some x ∧ W.cell? ⟨b, 1, none⟩ = some y) :
    w1.cell? ⟨b, 0, none⟩ = some x ∧ w1.cell? ⟨b, 1, none⟩ = some y := ⟨keep hb b 0 x h.1, keep hb b 1 y h.2⟩
theorem ret_bool {a b : Bool} (h : a = b) : Ending.returned (.bool a) = .returned (.bool b) := by rw [h]
theorem ret_int {k : IntKind} {a b : Int} (h : a = b) : Ending.returned (.int k a) = .returned (.int k b) := by rw [h]

/-- a breach as a value -/
abbrev bv (s d : Int) : Value := .agg #[.int .i64 s, .int .i64 d]
def okD (d : Int) : Bool := decide (0 ≤ d ∧ d ≤ 200000)
set_option maxHeartbeats 400000 in
theorem day_any (d : Int) (w : World) : Calls Try.prog 55 #[.int .i64 d] w fun e w' => e = .returned (.bool (okD d)) ∧ w = w' := by
  have HK := Lib.hid (show okD d = decide (0 ≤ d ∧ d ≤ 200000) from rfl)
  go_enter Try.func55, Try.ntmps55
  go_wp2
  all_goals
    go_ret
    exact ⟨ret_bool (by rw [HK.out]; simp; omega), rfl⟩

/-- a breach is right -/
def okB (s d : Int) : Bool := decide (0 ≤ s ∧ s < 4 ∧ 0 ≤ d ∧ d ≤ 200000 ∧ (s = 0 → d = 0))
theorem okB_in {s d : Int} (h : okB s d = true) : 0 ≤ s ∧ s < 4 ∧ 0 ≤ d ∧ d ≤ 200000 ∧ (s = 0 → d = 0) := of_decide_eq_true h
theorem okB_mk {s d : Int} (h : 0 ≤ s ∧ s < 4 ∧ 0 ≤ d ∧ d ≤ 200000 ∧ (s = 0 → d = 0)) : okB s d = true := decide_eq_true h

set_option maxHeartbeats 1000000 in
theorem right_any (s d : Int) (w : World) : Calls Try.prog 22 #[bv s d] w fun e w' => e = .returned (.bool (okB s d)) ∧ Below w.heap.size w w' := by
  by_cases h0 : 0 ≤ s
  case neg =>
    have HF := Lib.hid (show okB s d = false from decide_eq_false (by omega))
    go_enter Try.func22, Try.ntmps22
    go_wp2
    go_ret
    exact ⟨ret_bool HF.out.symm, by go_grown⟩
  by_cases h1 : s < 4
  case neg =>
    have HF := Lib.hid (show okB s d = false from decide_eq_false (by omega))
    have h1' : 4 ≤ s := by omega
    clear h1
    go_enter Try.func22, Try.ntmps22
    go_wp2
    go_ret
    exact ⟨ret_bool HF.out.symm, by go_grown⟩
  cases hd : okD d
  case false =>
    have HF := Lib.hid (show okB s d = false from decide_eq_false (fun h => by
      have : okD d = true := decide_eq_true ⟨h.2.2.1, h.2.2.2.1⟩
      rw [hd] at this
      exact Bool.noConfusion this))
    go_enter Try.func22, Try.ntmps22
    go_wp2_with (go_at_call 55; refine (day_any _ _).mono ?_; rintro e w' ⟨rfl, rfl⟩)
    go_ret
    exact ⟨ret_bool HF.out.symm, by go_grown⟩
  have hd2 := of_decide_eq_true hd
  by_cases hs : s = 0
  · subst hs
    by_cases hz : d = 0
    · subst hz
      have HF := Lib.hid (show okB 0 0 = true from by decide)
      clear hd2
      go_enter Try.func22, Try.ntmps22
      go_wp2_with (go_at_call 55; refine (day_any _ _).mono ?_; rintro e w' ⟨rfl, rfl⟩)
      go_ret
      exact ⟨ret_bool HF.out.symm, by go_grown⟩
    · have HF := Lib.hid (show okB 0 d = false from decide_eq_false (fun h => hz (h.2.2.2.2 rfl)))
      have hzb : (d == 0) = false := by rw [beq_eq_false_iff_ne]; exact hz
      clear hd2 hz
      go_enter Try.func22, Try.ntmps22
      go_wp2_with (go_at_call 55; refine (day_any _ _).mono ?_; rintro e w' ⟨rfl, rfl⟩)
      go_ret
      exact ⟨ret_bool HF.out.symm, by go_grown⟩
  · have HF := Lib.hid (show okB s d = true from okB_mk ⟨h0, h1, hd2.1, hd2.2, fun h => absurd h hs⟩)
    have hsb : (s != 0) = true := by rw [bne_iff_ne]; exact hs
    clear hd2 hs
    go_enter Try.func22, Try.ntmps22
    go_wp2_with (go_at_call 55; refine (day_any _ _).mono ?_; rintro e w' ⟨rfl, rfl⟩)
    go_ret
    exact ⟨ret_bool HF.out.symm, by go_grown⟩

/-- what 'ready' returns -/
def rdy (s d day : Int) : Int := if okB s d = true ∧ okD day = true then (if day < d then 20 else 0) else 1
theorem rdy_0 {s d day : Int} (h : rdy s d day = 0) : okB s d = true ∧ okD day = true ∧ d ≤ day := by
  unfold rdy at h
  split at h
  · rename_i hh
    split at h
    · simp at h
    · exact ⟨hh.1, hh.2, by omega⟩
  · simp at h
theorem rdy_mk {s d day : Int} (h1 : okB s d = true) (h2 : okD day = true) (h3 : d ≤ day) : rdy s d day = 0 := by
  unfold rdy
  rw [if_pos ⟨h1, h2⟩, if_neg (by omega)]

set_option maxHeartbeats 1000000 in
theorem ready_any (s d day : Int) (w : World) : Calls Try.prog 54 #[bv s d, .int .i64 day] w fun e w' => e = .returned (.int .i64 (rdy s d day)) ∧ Below w.heap.size w w' := by
  cases h1 : okB s d
  case false =>
    have HF := Lib.hid (show rdy s d day = 1 from by unfold rdy; rw [if_neg (by simp [h1])])
    go_enter Try.func54, Try.ntmps54
    go_wp2_with (fail)
    refine (right_any _ _ _).mono ?_
    rintro e w1 ⟨rfl, hb⟩
    have hB : Below w.heap.size w w1 := over hb (by go_grown)
    clear hb
    go_wp2
    go_ret
    exact ⟨ret_int HF.out.symm, hB⟩
  cases h2 : okD day
  case false =>
    have HF := Lib.hid (show rdy s d day = 1 from by unfold rdy; rw [if_neg (by simp [h2])])
    go_enter Try.func54, Try.ntmps54
    go_wp2_with (fail)
    refine (right_any _ _ _).mono ?_
    rintro e w1 ⟨rfl, hb⟩
    have hB : Below w.heap.size w w1 := over hb (by go_grown)
    clear hb
    go_wp2_with (go_at_call 55; refine (day_any _ _).mono ?_; rintro e w' ⟨rfl, rfl⟩)
    go_ret
    exact ⟨ret_int HF.out.symm, hB⟩
  by_cases h3 : day < d
  · have HF := Lib.hid (show rdy s d day = 20 from by unfold rdy; rw [if_pos ⟨h1, h2⟩, if_pos h3])
    go_enter Try.func54, Try.ntmps54
    go_wp2_with (fail)
    refine (right_any _ _ _).mono ?_
    rintro e w1 ⟨rfl, hb⟩
    have hB : Below w.heap.size w w1 := over hb (by go_grown)
    obtain ⟨k0, k1⟩ := keep2 hb w.heap.size (.int .i64 s) (.int .i64 d) (by simp [go_sem])
    clear hb
    go_wp2_with (go_at_call 55; refine (day_any _ _).mono ?_; rintro e w' ⟨rfl, rfl⟩)
    go_ret
    exact ⟨ret_int HF.out.symm, hB⟩
  · have HF := Lib.hid (show rdy s d day = 0 from by unfold rdy; rw [if_pos ⟨h1, h2⟩, if_neg h3])
    have h3' : d ≤ day := by omega
    clear h3
    go_enter Try.func54, Try.ntmps54
    go_wp2_with (fail)
    refine (right_any _ _ _).mono ?_
    rintro e w1 ⟨rfl, hb⟩
    have hB : Below w.heap.size w w1 := over hb (by go_grown)
    obtain ⟨k0, k1⟩ := keep2 hb w.heap.size (.int .i64 s) (.int .i64 d) (by simp [go_sem])
    clear hb
    go_wp2_with (go_at_call 55; refine (day_any _ _).mono ?_; rintro e w' ⟨rfl, rfl⟩)
    go_ret
    exact ⟨ret_int HF.out.symm, hB⟩

end Go.Proofs.Ytblegaclcpoonaa.Br
