/- Rings of signatures beside rows that grow; the reference's Same. -/
import Derived.Test.YtblegaclcpoonabSelG
namespace Go.Proofs.Ytblegaclcpoonab.Seal
open Go.ChangeShapes Go.WideShapes Go.ChangeAt Go.RowKit Go.Joins Go.Maps Go.WideMaps Go.Proofs.Ytblegaclcpoonab.Cell
set_option linter.unusedVariables false
set_option linter.unusedSimpArgs false

/-- a ring stays while another row grows -/
theorem Rg.grown {W W' : World} {g gm : Nat} {eb row : Option Nat} {L : List En} (h : Rg W g gm eb L) (hg : W.grownBy W' row) (h0 : some g ≠ row) (h1 : some gm ≠ row) (h2 : eb = none ∨ eb ≠ row) : Rg W' g gm eb L := by
  obtain ⟨A, c, hr, ho, he⟩ := h.x
  exact ⟨⟨A, c, (hg.block g hr.lt h0).trans hr, ho.kept hg (by rw [he]; exact h2), he⟩, h.m.kept hg h1, h.nd, h.ok, h.lt⟩
theorem els_own {w : World} {base n : Nat} {A : Option Addr} {c : Nat} {l : List En} (hn : l.length = n) (h : w.ownsRow base 24 2 (.slice A n c) n (l.flatMap ecs)) : Els w A l := fun h0 => by
  obtain ⟨g, cap, hv, _, hlt⟩ := h.form (by omega)
  obtain rfl : A = some ⟨g, 0, none⟩ := by injection hv
  refine ⟨g, 0, rfl, fun j x hx => ?_⟩
  have f : ∀ i, i < 2 → (l.flatMap ecs)[j * 2 + i]? = (ecs x)[i]? := fun i hi => Gen.flat_at (K := 2) (fun y => rfl) l j x hx i hi
  have hj := lt_of_at hx
  have c0 := h.cellAt (j * 2 + 0) (by have := ecs_len l; omega)
  have c1 := h.cellAt (j * 2 + 1) (by have := ecs_len l; omega)
  rw [f 0 (by omega)] at c0
  rw [f 1 (by omega)] at c1
  rw [Nat.zero_add]
  exact ⟨c0, c1⟩
set_option maxRecDepth 100000 in
set_option maxHeartbeats 4000000 in
theorem same44_is (A A' : Option Addr) (n cap cap' : Nat) (xs : List En) (w : World) (hn : xs.length = n) (hc : Els w A xs) (hc' : Els w A' xs) (hbig : n ≤ 1000000) :
    Calls Try.prog 14 #[.slice A n cap, .slice A' n cap'] w fun e w' => e = .returned (.bool true) ∧ Below w.heap.size w w' := by
  have HN := Lib.hid hn
  clear hn
  go_enter Try.func14, Try.ntmps14
  go_wp2
  go_loopw [5] (fun i wr => ∃ k : Nat, k ≤ n ∧ i = .int .i64 k ∧ ∃ nq, wr = w.drewN nq) (fun i _ => n - (intOf i).toNat)
  case atStart => exact ⟨0, Nat.zero_le _, rfl, 0, rfl⟩
  case round =>
    obtain ⟨k, hk, rfl, nq, rfl⟩ := hrel
    by_cases hlt : k < n
    · obtain ⟨b, off, rfl, hcell⟩ := hc (by rw [HN.out]; omega)
      obtain ⟨b', off', rfl, hcell'⟩ := hc' (by rw [HN.out]; omega)
      obtain ⟨x, hx⟩ := at_ xs k (by rw [HN.out]; exact hlt)
      obtain ⟨c0, c1⟩ := hcell k x hx
      obtain ⟨e0, e1⟩ := hcell' k x hx
      have k0 : (0 : Int) ≤ (k : Int) := by omega
      have k1 : (k : Int) < (n : Int) := by omega
      clear hcell hcell' hx hc hc'
      obtain ⟨xk, xs'⟩ := x
      dsimp only at c0 c1 e0 e1
      go_wp2
      go_quiet (fail)
      go_wp2
      go_roundw
      case rel => first | exact ⟨k + 1, by omega, by go_num, _, rfl⟩ | exact ⟨k + 1, by omega, by go_num⟩
      case measure => simp [intOf]; omega
    · obtain rfl : n = k := by omega
      go_wp2
      go_ret
      exact ⟨rfl, Gen.dN (Below.refl _ _) _⟩
end Go.Proofs.Ytblegaclcpoonab.Seal
