/- Rings of signatures: Sign, whatever the key. -/
import Derived.Test.YtblegaclcpoonabSelH
namespace Go.Proofs.Ytblegaclcpoonab.Seal
open Go.ChangeShapes Go.WideShapes Go.ChangeAt Go.RowKit Go.Joins Go.Maps Go.WideMaps Go.Proofs.Ytblegaclcpoonab.Cell
set_option linter.unusedVariables false

/-- a signature -/
structure Sg where
  k : Int
  s : ByteArray
  m : Int
def sg0 : Sg := ⟨0, ⟨#[]⟩, 0⟩
def scs (x : Sg) : List Value := [.int .i64 x.k, .string x.s, .int .i64 x.m]
/-- what Sign returns, and what it makes of the entries -/
def SgnR (L : List En) (x : En) (L' : List En) (m : Sg) : Prop :=
  (isK x.1 = false ∧ L' = L ∧ m = sg0) ∨ (isK x.1 = true ∧ ∃ p : Nat, L'[p]? = some x ∧ m = ⟨x.1, x.2, p⟩ ∧ ((x ∈ L ∧ L' = L) ∨ (x ∉ L ∧ L' = L ++ [x] ∧ p = L.length)))
set_option maxRecDepth 100000 in
theorem sign_any {W0 W : World} {g gm : Nat} {eb : Option Nat} {L : List En} {k : Int} {s : ByteArray} (h : Rg W g gm eb L) (hx : okE (k, s)) (hL : L.length ≤ 1000) (hB : Below W0.heap.size W0 W) (hgm : W0.heap.size ≤ gm) :
    Calls Try.prog 11 #[.pointer (some ⟨g, 0, none⟩), .int .i64 k, .string s] W fun e w' => ∃ m L' eb', e = .returned (.agg #[.int .i64 m.k, .string m.s, .int .i64 m.m]) ∧ SgnR L (k, s) L' m ∧ Rg w' g gm eb' L' ∧ (eb' = eb ∨ ∃ b, eb' = some b ∧ W.heap.size ≤ b) ∧ Below W0.heap.size W0 w' ∧ W.heap.size ≤ w'.heap.size ∧ ∀ q, q < W.heap.size → q ≠ g → q ≠ gm → eb ≠ some q → w'.heap[q]? = W.heap[q]? := by
  cases hk : isK k
  · refine (sign_bad g hk).mono ?_
    rintro e w1 ⟨rfl, hb⟩
    exact ⟨sg0, L, eb, rfl, .inl ⟨hk, rfl, rfl⟩, h.keep hb, .inl rfl, Gen.over hb hB, hb.size, fun q hq _ _ _ => hb.block q hq⟩
  · by_cases hm : (k, s) ∈ L
    · obtain ⟨i, hi⟩ := List.getElem?_of_mem hm
      refine (sign_old h hk hx hi).mono ?_
      rintro e w1 ⟨rfl, hb⟩
      exact ⟨⟨k, s, i⟩, L, eb, rfl, .inr ⟨hk, i, hi, rfl, .inl ⟨hm, rfl⟩⟩, h.keep hb, .inl rfl, Gen.over hb hB, hb.size, fun q hq _ _ _ => hb.block q hq⟩
    · refine (sign_new h hk hx hm hL hB hgm).mono ?_
      rintro e w1 ⟨rfl, eb', h1, h2, h3, h4, h5⟩
      exact ⟨⟨k, s, L.length⟩, L ++ [(k, s)], eb', rfl, .inr ⟨hk, L.length, by simp, rfl, .inr ⟨hm, rfl, rfl⟩⟩, h1, h2, h3, h4, h5⟩
theorem SgnR.len {L L' : List En} {x : En} {m : Sg} (h : SgnR L x L' m) : L.length ≤ L'.length ∧ L'.length ≤ L.length + 1 := by
  rcases h with ⟨_, rfl, _⟩ | ⟨_, p, _, _, ⟨_, rfl⟩ | ⟨_, rfl, _⟩⟩
  · exact ⟨Nat.le_refl _, Nat.le_succ _⟩
  · exact ⟨Nat.le_refl _, Nat.le_succ _⟩
  · simp
/-- what stood at a place stands there -/
theorem SgnR.at_ {L L' : List En} {x y : En} {m : Sg} {p : Nat} (h : SgnR L x L' m) (hp : L[p]? = some y) : L'[p]? = some y := by
  rcases h with ⟨_, rfl, _⟩ | ⟨_, _, _, _, ⟨_, rfl⟩ | ⟨_, rfl, _⟩⟩
  · exact hp
  · exact hp
  · rw [List.getElem?_append_left (List.getElem?_eq_some_iff.1 hp).1]; exact hp
end Go.Proofs.Ytblegaclcpoonab.Seal
