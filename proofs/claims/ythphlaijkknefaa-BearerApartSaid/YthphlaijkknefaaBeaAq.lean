/- Bearer pieces: lists without one piece, in memory. -/
import Derived.Test.YthphlaijkknefaaBeaAp
namespace Go.Proofs.Ythphlaijkknefaa.Bea
open Go.ChangeShapes Go.WideShapes Go.ChangeAt Go.RowKit Go.Proofs.Ythphlaijkknefaa.Cell
set_option linter.unusedVariables false
set_option linter.unusedSimpArgs false
theorem reads_pre {w : World} {B size n k : Nat} {A : Option Addr} {xs : List Value} (h : App.Reads w B size A n xs) (hk : k ≤ n) : App.Reads w B size A k (xs.take (k * size)) := by
  refine ⟨by rw [List.length_take, h.1]; exact Nat.min_eq_left (Nat.mul_le_mul_right _ hk), fun h0 => ?_⟩
  obtain ⟨ad, e, hb, hcell⟩ := h.2 (by omega)
  refine ⟨ad, e, hb, fun j u hu => hcell j u ?_⟩
  rw [List.getElem?_take] at hu
  split at hu
  · exact hu
  · cases hu
theorem blk0 (W : World) (t : TypeId) (k : Nat) : (W.alloc (.cells #[] t)).ownsRow W.heap.size t k (.slice (some ⟨W.heap.size, 0, none⟩) 0 0) 0 [] :=
  own_empty (Row.new _ _ _) (Nat.le_refl _)
theorem flat_cut (P : List (Pc × Value)) {k : Nat} (hk : k ≤ P.length) : (P.flatMap pcv).take (k * 5) = (P.take k).flatMap pcv ∧ (P.flatMap pcv).drop (k * 5) = (P.drop k).flatMap pcv := by
  have hl : ((P.take k).flatMap pcv).length = k * 5 := by
    rw [Gen.flat_length (K := 5) (fun _ => rfl), List.length_take, Nat.min_eq_left hk]
  have e : P.flatMap pcv = (P.take k).flatMap pcv ++ (P.drop k).flatMap pcv := by rw [← List.flatMap_append, List.take_append_drop]
  rw [e, ← hl]
  exact ⟨List.take_left, List.drop_left⟩
/-- pieces that lie in memory, as a row of values -/
theorem pcl_reads {w : World} {A : Option Addr} {l : List Pc} {n : Nat} (hn : l.length = n) (hc : Pcl w A l) :
    ∃ P : List (Pc × Value), P.map (·.1) = l ∧ App.Reads w w.heap.size 5 A n (P.flatMap pcv) ∧ ∀ y ∈ P, ∃ A c, y.2 = .slice A y.1.pd.length c ∧ Boos w A y.1.pd := by
  by_cases h0 : 0 < n
  · obtain ⟨b, off, rfl, hcell⟩ := hc (by omega)
    obtain ⟨P, hP, hcl, hr⟩ := pcl_list hcell
    have hl : P.length = n := by rw [← hn, ← hP, List.length_map]
    refine ⟨P, hP, ⟨by rw [Gen.flat_length (K := 5) (fun _ => rfl), hl], fun _ => ⟨_, rfl, ?_, hcl⟩⟩, fun y hy => ?_⟩
    · obtain ⟨x, hx⟩ := at_ l 0 (by omega)
      exact World.block_lt_of_cell? _ _ (hcell 0 x hx).c0
    · obtain ⟨j, hj⟩ := List.getElem?_of_mem hy
      exact hr j y hj
  · obtain rfl : l = [] := List.eq_nil_of_length_eq_zero (by omega)
    obtain rfl : n = 0 := by omega
    exact ⟨[], rfl, ⟨by simp, fun h => absurd h (by omega)⟩, fun y hy => by cases hy⟩
theorem pcl_own {W : World} {B n c : Nat} {A : Option Addr} {t : TypeId} {P : List (Pc × Value)} (h : W.ownsRow B t 5 (.slice A n c) n (P.flatMap pcv)) (hn : P.length = n)
    (hr : ∀ y ∈ P, ∃ A c, y.2 = .slice A y.1.pd.length c ∧ Boos W A y.1.pd) : Pcl W A (P.map (·.1)) := fun h0 => by
  rw [List.length_map] at h0
  obtain ⟨g, cap, hv, hb, hlt⟩ := h.form (by omega)
  obtain rfl : A = some ⟨g, 0, none⟩ := by injection hv
  refine ⟨g, 0, rfl, fun j x hx => ?_⟩
  rw [List.getElem?_map] at hx
  cases hy : P[j]? with
  | none => rw [hy] at hx; cases hx
  | some y =>
    rw [hy] at hx
    have hx : y.1 = x := by injection hx
    subst hx
    have hj := lt_of_at hy
    have f : ∀ i, i < 5 → (P.flatMap pcv)[j * 5 + i]? = (pcv y)[i]? := fun i hi => Gen.flat_at (K := 5) (fun y => rfl) P j y hy i hi
    have c0 := h.cellAt (j * 5 + 0) (by omega)
    have c1 := h.cellAt (j * 5 + 1) (by omega)
    have c2 := h.cellAt (j * 5 + 2) (by omega)
    have c3 := h.cellAt (j * 5 + 3) (by omega)
    have c4 := h.cellAt (j * 5 + 4) (by omega)
    rw [f 0 (by omega)] at c0
    rw [f 1 (by omega)] at c1
    rw [f 2 (by omega)] at c2
    rw [f 3 (by omega)] at c3
    rw [f 4 (by omega)] at c4
    obtain ⟨A2, c', e, hbo⟩ := hr y (List.mem_of_getElem? hy)
    have c2' : W.cell? ⟨g, j * 5 + 2, none⟩ = some y.2 := c2
    rw [e] at c2'
    rw [Nat.zero_add]
    exact ⟨c0, c1, ⟨A2, c', c2', hbo⟩, c3, c4⟩
theorem drp_map {P : List (Pc × Value)} {l : List Pc} (h : P.map (·.1) = l) (k : Nat) : (drp P k).map (·.1) = drp l k := by
  unfold drp
  rw [List.map_append, List.map_take, List.map_drop, h]
theorem step_append_w {ops : Array Oper} {o : Oper} {a : Act} {K : Act → World → Prop} {Q : Exit → Act → World → Prop} {E : Prop} (w : World) (hw : Region.wanted o (yielded ops a.tmps) = true) (s x : Operand) (t : TypeId)
    (ho : o.op = .call { callee := .builtin .append, args := #[s, x], argTypes := #[t, t] })
    (base : Nat) (e : TypeId) (i : TypeInfo) (z : Value) (size bytes : Nat) (ht : Try.prog.underlying t = some (.slice e)) (hi : Try.prog.info? e = some i) (hz : i.zero = some z)
    (hsize : i.size = size) (hby : i.bytes = bytes) (hzs : z.cells.size = size) (hsz : 0 < size)
    (v : Value) (n : Nat) (xs : List Value) (hs : a.eval s = v) (hown : w.ownsRow base e size v n xs)
    (B : Nat) (A : Option Addr) (m c : Nat) (news : List Value) (hx : a.eval x = .slice A m c) (hr : App.Reads w B size A m news) (h1 : ∀ u ∈ news, u.oneCell' = true)
    (h63 : n + m ≤ maxLen) (hbytes : (n + m) * bytes ≤ 140737488355328) (hbase : base ≤ w.heap.size)
    (h : ∀ v' w', w'.ownsRow base e size v' (n + m) (xs ++ news) → w.grownBy w' v.ownBlock → (v'.ownBlock = v.ownBlock ∨ v'.ownBlock = some w.heap.size) → K (a.put o.dst v') w') :
    if Region.wanted o (yielded ops a.tmps) = true then Oper.wp Try.prog o a w K Q else E := by
  rw [if_pos hw]
  exact App.wp_append_any w s x t ho base e i z size bytes ht hi hz hsize hby hzs hsz v n xs hs hown B A m c news hx hr h1 h63 hbytes hbase h
/-- what is left of a function's code behind its first n statements -/
def tailC : Nat → Code → Code
  | 0, c => c
  | n + 1, .seq _ b => tailC n b
  | _ + 1, c => c
def tailO (n : Nat) : Option Code → Code
  | some c => tailC n c
  | none => .skip
def headC : Code → Code
  | .seq a _ => a
  | c => c
def headO (n : Nat) (o : Option Code) : Code := headC (tailO n o)
def thenC : Code → Code
  | .cond _ a _ => a
  | c => c
end Go.Proofs.Ythphlaijkknefaa.Bea
