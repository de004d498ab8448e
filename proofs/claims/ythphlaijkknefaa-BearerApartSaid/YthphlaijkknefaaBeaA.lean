/- Bearer pieces in memory; when they are right. -/
import Derived.Test.YthphlaijkknefaaBase
import Derived.BigQuiet
import Derived.WalkSpells
namespace Go.Proofs.Ythphlaijkknefaa.Bea
open Go.ChangeShapes Go.WideShapes Go.ChangeAt Go.RowKit Go.Proofs.Ythphlaijkknefaa.Cell
set_option linter.unusedVariables false
set_option linter.unusedSimpArgs false

/-- a piece -/
structure Pc where
  is : Int
  un : Int
  pd : List Bool
  lo : Int
  se : Int
def Boos (w : World) (A : Option Addr) (l : List Bool) : Prop := 0 < l.length → ∃ b off, A = some ⟨b, off, none⟩ ∧ ∀ (j : Nat) x, l[j]? = some x → w.cell? ⟨b, off + j, none⟩ = some (.bool x)
theorem Boos.keep {w w1 : World} {A : Option Addr} {l : List Bool} (h : Boos w A l) (hb : Below w.heap.size w w1) : Boos w1 A l := fun h0 => by
  obtain ⟨b, off, e, hc⟩ := h h0
  exact ⟨b, off, e, fun j x hx => keep0 hb _ _ _ (hc j x hx)⟩
/-- the cells of a piece at an address -/
structure PcAt (w : World) (b o : Nat) (x : Pc) : Prop where
  c0 : w.cell? ⟨b, o, none⟩ = some (.int .i64 x.is)
  c1 : w.cell? ⟨b, o + 1, none⟩ = some (.int .i64 x.un)
  c2 : ∃ A c, w.cell? ⟨b, o + 2, none⟩ = some (.slice A x.pd.length c) ∧ Boos w A x.pd
  c3 : w.cell? ⟨b, o + 3, none⟩ = some (.int .i64 x.lo)
  c4 : w.cell? ⟨b, o + 4, none⟩ = some (.int .i64 x.se)
theorem PcAt.keep {w w1 : World} {b o : Nat} {x : Pc} (h : PcAt w b o x) (hb : Below w.heap.size w w1) : PcAt w1 b o x := by
  obtain ⟨A, c, h2, h3⟩ := h.c2
  exact ⟨keep0 hb _ _ _ h.c0, keep0 hb _ _ _ h.c1, ⟨A, c, keep0 hb _ _ _ h2, h3.keep hb⟩, keep0 hb _ _ _ h.c3, keep0 hb _ _ _ h.c4⟩
def Pcl (w : World) (A : Option Addr) (l : List Pc) : Prop := 0 < l.length → ∃ b off, A = some ⟨b, off, none⟩ ∧ ∀ (j : Nat) x, l[j]? = some x → PcAt w b (off + j * 5) x
theorem Pcl.keep {w w1 : World} {A : Option Addr} {l : List Pc} (h : Pcl w A l) (hb : Below w.heap.size w w1) : Pcl w1 A l := fun h0 => by
  obtain ⟨b, off, e, hc⟩ := h h0
  exact ⟨b, off, e, fun j x hx => (hc j x hx).keep hb⟩
/-- whether a piece is right -/
def rgt (is un : Int) (n : Nat) (lo se : Int) : Bool := decide ((0 ≤ is ∧ is < 400) ∧ (1 ≤ un ∧ un ≤ 1000000000) ∧ n ≤ 400 ∧ ((lo = -1 ∧ se = -1) ∨ ((0 ≤ lo ∧ lo ≤ 200000) ∧ (se = -1 ∨ (0 ≤ se ∧ se < 20000)))))
def rgtP (x : Pc) : Bool := rgt x.is x.un x.pd.length x.lo x.se
def rgtL (l : List Pc) : Bool := decide (l.length ≤ 1000) && l.all rgtP
theorem isDay_any (d : Int) (w : World) : Calls Try.prog 24 #[.int .i64 d] w fun e w' => e = .returned (.bool (decide (0 ≤ d ∧ d ≤ 200000))) ∧ w = w' := by
  by_cases h0 : 0 ≤ d
  · by_cases h1 : d ≤ 200000
    · rw [decide_eq_true ⟨h0, h1⟩]
      go_enter Try.func24, Try.ntmps24
      go_wp2
      go_ret
      exact ⟨rfl, rfl⟩
    · rw [decide_eq_false (by omega)]
      go_enter Try.func24, Try.ntmps24
      go_wp2
      go_ret
      exact ⟨rfl, rfl⟩
  · rw [decide_eq_false (by omega)]
    go_enter Try.func24, Try.ntmps24
    go_wp2
    go_ret
    exact ⟨rfl, rfl⟩
theorem isSeat_any (d : Int) (w : World) : Calls Try.prog 27 #[.int .i64 d] w fun e w' => e = .returned (.bool (decide (0 ≤ d ∧ d < 20000))) ∧ w = w' := by
  by_cases h0 : 0 ≤ d
  · by_cases h1 : d < 20000
    · rw [decide_eq_true ⟨h0, h1⟩]
      go_enter Try.func27, Try.ntmps27
      go_wp2
      go_ret
      exact ⟨rfl, rfl⟩
    · rw [decide_eq_false (by omega)]
      go_enter Try.func27, Try.ntmps27
      go_wp2
      go_ret
      exact ⟨rfl, rfl⟩
  · rw [decide_eq_false (by omega)]
    go_enter Try.func27, Try.ntmps27
    go_wp2
    go_ret
    exact ⟨rfl, rfl⟩
end Go.Proofs.Ythphlaijkknefaa.Bea
