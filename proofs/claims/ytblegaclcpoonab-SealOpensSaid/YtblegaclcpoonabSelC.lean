/- Rings of signatures: the contracts of Valid, isKey. -/
import Derived.Test.YtblegaclcpoonabSelB
namespace Go.Proofs.Ytblegaclcpoonab.Seal
open Go.ChangeShapes Go.WideShapes Go.ChangeAt Go.RowKit Go.Joins Go.Maps Go.WideMaps Go.Proofs.Ytblegaclcpoonab.Cell
set_option linter.unusedVariables false
set_option linter.unusedSimpArgs false

def isK (k : Int) : Bool := decide (0 ≤ k ∧ k < 200)
set_option maxRecDepth 100000 in
theorem isKey_any (k : Int) (w : World) : Calls Try.prog 33 #[.int .i64 k] w fun e w' => e = .returned (.bool (isK k)) ∧ w = w' := by
  by_cases h0 : 0 ≤ k
  · by_cases h1 : k < 200
    · have e : isK k = true := decide_eq_true ⟨h0, h1⟩
      rw [e]
      go_enter Try.func33, Try.ntmps33
      go_wp2
      go_ret
      exact ⟨rfl, rfl⟩
    · have e : isK k = false := decide_eq_false (by omega)
      rw [e]
      go_enter Try.func33, Try.ntmps33
      go_wp2
      go_ret
      exact ⟨rfl, rfl⟩
  · have e : isK k = false := decide_eq_false (by omega)
    rw [e]
    go_enter Try.func33, Try.ntmps33
    go_wp2
    go_ret
    exact ⟨rfl, rfl⟩
set_option maxRecDepth 100000 in
set_option maxHeartbeats 4000000 in
theorem valid_yes {W : World} {g gm : Nat} {eb : Option Nat} {L : List En} {k : Int} {s : ByteArray} (mk : Int) (h : Rg W g gm eb L) (hx : okE (k, s)) {i : Nat} (hi : L[i]? = some (k, s)) :
    Calls Try.prog 15 #[.pointer (some ⟨g, 0, none⟩), .agg #[.int .i64 k, .string s, .int .i64 mk]] W fun e w' => e = .returned (.bool ((i : Int) == mk)) ∧ Below W.heap.size W w' := by
  have h1 := h.keep (Gen.b_alloc (x := .cells #[.int .i64 k, .string s, .int .i64 mk] 31) (Below.refl _ _))
  obtain ⟨A, c, hr, _⟩ := h1.x
  have c1 := hr.cell 1
  have l0 := (h1.yes hx hi).1
  have l1 := fun (q : Nat) => ((h1.keep (Gen.dN (Below.refl _ _) q)).yes hx hi).1
  simp only [ev] at l0 l1
  clear h1 hr
  go_enter Try.func15, Try.ntmps15
  go_wp2
  go_quiet (fail)
  go_wp2
  go_ret
  exact ⟨rfl, Gen.dN (Gen.b_alloc (Below.refl _ _)) _⟩
set_option maxRecDepth 100000 in
set_option maxHeartbeats 4000000 in
theorem valid_no {W : World} {g gm : Nat} {eb : Option Nat} {L : List En} {k : Int} {s : ByteArray} (mk : Int) (h : Rg W g gm eb L) (hx : okE (k, s)) (hi : (k, s) ∉ L) :
    Calls Try.prog 15 #[.pointer (some ⟨g, 0, none⟩), .agg #[.int .i64 k, .string s, .int .i64 mk]] W fun e w' => e = .returned (.bool false) ∧ Below W.heap.size W w' := by
  have h1 := h.keep (Gen.b_alloc (x := .cells #[.int .i64 k, .string s, .int .i64 mk] 31) (Below.refl _ _))
  obtain ⟨A, c, hr, _⟩ := h1.x
  have c1 := hr.cell 1
  have l0 := h1.no hx hi
  have l1 := fun (q : Nat) => (h1.keep (Gen.dN (Below.refl _ _) q)).no hx hi
  simp only [ev] at l0 l1
  clear h1 hr
  go_enter Try.func15, Try.ntmps15
  go_wp2
  go_quiet (fail)
  go_wp2
  go_ret
  exact ⟨rfl, Gen.dN (Gen.b_alloc (Below.refl _ _)) _⟩
end Go.Proofs.Ytblegaclcpoonab.Seal
