/- Bearer pieces: without one of them; plain facts. -/
import Derived.Test.YthphlaijkknefaaBeaZ
namespace Go.Proofs.Ythphlaijkknefaa.Bea
open Go.ChangeShapes Go.WideShapes Go.ChangeAt Go.RowKit Go.Proofs.Ythphlaijkknefaa.Cell
set_option linter.unusedVariables false
set_option linter.unusedSimpArgs false
/-- a list without one element -/
def drp {α : Type} (l : List α) (k : Nat) : List α := l.take k ++ l.drop (k + 1)
theorem drp_at {α : Type} (l : List α) (k j : Nat) (hk : k < l.length) : (drp l k)[j]? = if j < k then l[j]? else l[j + 1]? := by
  unfold drp
  by_cases h : j < k
  · rw [if_pos h, List.getElem?_append_left (by rw [List.length_take]; omega), List.getElem?_take_of_lt h]
  · rw [if_neg h, List.getElem?_append_right (by rw [List.length_take]; omega), List.getElem?_drop, List.length_take]
    congr 1
    omega
theorem drp_len {α : Type} (l : List α) (k : Nat) (hk : k < l.length) : (drp l k).length = l.length - 1 := by
  unfold drp
  rw [List.length_append, List.length_take, List.length_drop]
  omega
theorem drp_mem {α : Type} {l : List α} {k : Nat} {x : α} (h : x ∈ drp l k) : x ∈ l := by
  unfold drp at h
  rcases List.mem_append.1 h with h | h
  · exact List.mem_of_mem_take h
  · exact List.mem_of_mem_drop h
/-- where a piece is found without another one -/
def sft (k p : Nat) : Nat := if k < p then p - 1 else p
theorem drp_sft {α : Type} (l : List α) {k p : Nat} (hk : k < l.length) (h : k ≠ p) : (drp l k)[sft k p]? = l[p]? := by
  rw [drp_at l k _ hk]
  unfold sft
  split
  · rw [if_neg (by omega)]
    congr 1
    omega
  · rw [if_pos (by omega)]
theorem drp_set {α : Type} (l : List α) {k p : Nat} (x : α) (hk : k < l.length) (h : k ≠ p) : drp (l.set p x) k = (drp l k).set (sft k p) x := by
  apply List.ext_getElem?
  intro j
  rw [drp_at _ k j (by rw [List.length_set]; exact hk), List.getElem?_set, List.getElem?_set, List.getElem?_set, drp_at l k j hk, drp_len l k hk]
  unfold sft
  by_cases h1 : k < p
  · rw [if_pos h1]
    by_cases h2 : j < k
    · rw [if_pos h2, if_neg (by omega), if_neg (by omega), if_pos h2]
    · rw [if_neg h2, if_neg h2]
      by_cases h3 : p - 1 = j
      · rw [if_pos h3, if_pos (by omega)]
        split
        · rw [if_pos (by omega)]
        · rw [if_neg (by omega)]
      · rw [if_neg h3, if_neg (by omega)]
  · rw [if_neg h1]
    by_cases h2 : j < k
    · rw [if_pos h2, if_pos h2]
      by_cases h3 : p = j
      · rw [if_pos h3, if_pos h3]
        split
        · rw [if_pos (by omega)]
        · rw [if_neg (by omega)]
      · rw [if_neg h3, if_neg h3]
    · rw [if_neg h2, if_neg h2, if_neg (by omega), if_neg (by omega)]
theorem rgtL_drp {l : List Pc} {k : Nat} (hk : k < l.length) (h : rgtL l = true) : rgtL (drp l k) = true := by
  obtain ⟨h1, h2⟩ := rgtL_in h
  exact rgtL_yes (by rw [drp_len l k hk]; omega) fun y hy => h2 y (drp_mem hy)
theorem pieceAt_drp {l : List Pc} {k p : Nat} (hk : k < l.length) (h : k ≠ p) : pieceAt (drp l k) (sft k p) = pieceAt l p := by
  unfold pieceAt
  rw [if_neg (by omega), if_neg (by omega), Int.toNat_natCast, Int.toNat_natCast, drp_sft l hk h]
section
variable {l : List Pc} {k p : Nat} {kd co wh dy : Int}
theorem doE_drp (hk : k < l.length) (h : k ≠ p) (hv : rgtL l = true) : doE (drp l k) ⟨kd, sft k p, co, wh, dy⟩ = doE l ⟨kd, p, co, wh, dy⟩ := by
  unfold doE presE repoE secuE findE
  dsimp only
  rw [rgtL_drp hk hv, hv, pieceAt_drp hk h]
theorem doN_drp (hk : k < l.length) (h : k ≠ p) : doN (drp l k) ⟨kd, sft k p, co, wh, dy⟩ = doN l ⟨kd, p, co, wh, dy⟩ := by
  unfold doN unitsAt
  dsimp only
  rw [pieceAt_drp hk h]
theorem doL_drp (hk : k < l.length) (h : k ≠ p) : doL (drp l k) ⟨kd, sft k p, co, wh, dy⟩ = drp (doL l ⟨kd, p, co, wh, dy⟩) k := by
  unfold doL chg
  dsimp only
  rw [pieceAt_drp hk h]
  cases hq : pieceAt l (p : Int) with
  | none => rfl
  | some x =>
    dsimp only
    rw [Int.toNat_natCast, Int.toNat_natCast, drp_set l _ hk h]
    rfl
theorem doL_at (h : k ≠ p) : (doL l ⟨kd, p, co, wh, dy⟩)[k]? = l[k]? := by
  unfold doL chg
  dsimp only
  cases hq : pieceAt l (p : Int) with
  | none => rfl
  | some x =>
    dsimp only
    rw [Int.toNat_natCast, List.getElem?_set_ne (fun e => h e.symm)]
theorem doE_out {q : Int} (hv : rgtL l = true) (h : ¬ (0 ≤ q ∧ q < (l.length : Int))) : doE l ⟨kd, q, co, wh, dy⟩ ≠ 0 := by
  intro e
  obtain ⟨_, p', x', hp', hx', _⟩ := doE_ok e
  dsimp only at hp'
  have := lt_of_at hx'
  omega
end
end Go.Proofs.Ythphlaijkknefaa.Bea
