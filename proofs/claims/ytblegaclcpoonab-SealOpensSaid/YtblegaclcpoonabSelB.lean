/- Rings of signatures: what is kept of one; the contract of Valid. -/
import Derived.Test.YtblegaclcpoonabSelA
import Derived.BigQuiet
namespace Go.Proofs.Ytblegaclcpoonab.Seal
open Go.ChangeShapes Go.WideShapes Go.ChangeAt Go.RowKit Go.Joins Go.Maps Go.WideMaps Go.Proofs.Ytblegaclcpoonab.Cell
set_option linter.unusedVariables false
set_option linter.unusedSimpArgs false

def ecs (x : En) : List Value := [.int .i64 x.1, .string x.2]
/-- a ring in memory: its block, its map's block, its entries in order -/
structure Rg (W : World) (g gm : Nat) (eb : Option Nat) (L : List En) : Prop where
  x : ∃ A c, Row W g 62 #[.slice A L.length c, .map (some gm)] ∧ W.ownsRow (g + 1) 24 2 (.slice A L.length c) L.length (L.flatMap ecs) ∧ (Value.slice A L.length c).ownBlock = eb
  m : W.ownsMap (H := Unit) Try.prog 24 (plainElem Try.prog 3) gm L.length (mD L)
  nd : L.Nodup
  ok : ∀ y ∈ L, okE y
  lt : gm < g
theorem map_keep {w w' : World} {b n : Nat} {D : DataW Unit} (h : w.ownsMap (H := Unit) Try.prog 24 (plainElem Try.prog 3) b n D) (hb : Below w.heap.size w w') : w'.ownsMap (H := Unit) Try.prog 24 (plainElem Try.prog 3) b n D := by
  obtain ⟨es, clock, h1, h2, h3, h4⟩ := h
  exact ⟨es, clock, (hb.block b (by have := (Array.getElem?_eq_some_iff.1 h1).1; exact this)).trans h1, h2, h3, h4⟩
theorem Rg.keep {W W' : World} {g gm : Nat} {eb : Option Nat} {L : List En} (h : Rg W g gm eb L) (hb : Below W.heap.size W W') : Rg W' g gm eb L := by
  obtain ⟨A, c, h1, h2, h3⟩ := h.x
  exact ⟨⟨A, c, h1.keep hb, Gen.own_keep h2 hb, h3⟩, map_keep h.m hb, h.nd, h.ok, h.lt⟩
theorem zeroI (W : World) : (zeroValue 3).run Try.prog W = .ok (.int .i64 0) W := by
  simp [go_sem]
set_option maxRecDepth 100000 in
theorem Rg.yes {W : World} {g gm : Nat} {eb : Option Nat} {L : List En} (h : Rg W g gm eb L) {x : En} (hx : okE x) {i : Nat} (hi : L[i]? = some x) :
    (Instr.lookup 60 (.map (some gm)) (ev x) true).run Try.prog W = .ok (.tuple #[.int .i64 (i : Int), .bool true]) W ∧
    (Instr.lookup 60 (.map (some gm)) (ev x) false).run Try.prog W = .ok (.int .i64 (i : Int)) W := by
  have w0 : (Lit.int .i64 0).wf = true := by decide
  obtain ⟨v, ps, hr, hv⟩ := h.m.look_ok keyedE Try.underlying60 (zeroI W) (plainElem_int Try.underlying3 w0) (keyE hx)
  obtain ⟨c, rfl, hc, _⟩ := plainElem_int_inv Try.underlying3 hv
  obtain ⟨c2, hr2, hc2, _⟩ := h.m.lookup_int keyedE Try.underlying60 Try.underlying3 (zeroI W) (keyE hx)
  rw [at_mD hx _ h.ok h.nd hi] at hc hc2
  rw [(has_mD hx h.ok).2 (List.mem_of_getElem? hi)] at hr
  have e1 : (i : Int) = c := by injection hc with hc; injection hc with hc; injection hc
  have e2 : (i : Int) = c2 := by injection hc2 with hc2; injection hc2
  rw [e1]
  exact ⟨hr, by rw [← e1, e2]; exact hr2⟩
set_option maxRecDepth 100000 in
theorem Rg.no {W : World} {g gm : Nat} {eb : Option Nat} {L : List En} (h : Rg W g gm eb L) {x : En} (hx : okE x) (hi : x ∉ L) :
    (Instr.lookup 60 (.map (some gm)) (ev x) true).run Try.prog W = .ok (.tuple #[.int .i64 0, .bool false]) W := by
  have w0 : (Lit.int .i64 0).wf = true := by decide
  obtain ⟨v, ps, hr, hv⟩ := h.m.look_ok keyedE Try.underlying60 (zeroI W) (plainElem_int Try.underlying3 w0) (keyE hx)
  obtain ⟨c, rfl, hc, _⟩ := plainElem_int_inv Try.underlying3 hv
  have : Maps.has (mD L) (kl x) = false := by
    cases e : Maps.has (mD L) (kl x)
    · rfl
    · exact absurd ((has_mD hx h.ok).1 e) hi
  rw [this] at hr
  rw [atKey_of_not_has this] at hc
  have e1 : (0 : Int) = c := by injection hc with hc; injection hc with hc; injection hc
  rw [e1]
  exact hr
end Go.Proofs.Ytblegaclcpoonab.Seal
