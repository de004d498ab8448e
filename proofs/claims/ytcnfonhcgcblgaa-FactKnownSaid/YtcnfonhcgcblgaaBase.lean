/- What speaks of no package: rows, slices of ints, of bools and of pairs of ints, appends, what is kept. -/
import Derived.Test.YtcnfonhcgcblgaaRows
import Derived.WalkKit
import Derived.ProofKit
import Derived.OpenShut
import Derived.Outline
import Derived.Handy
import Derived.LoopTactic
import Derived.Lib.Hide
import Derived.Below
import Derived.Laws.OwnMore
import Derived.Laws.MakeOwn
import Derived.Laws.Rows
import Derived.Deep.AppendLies
import Derived.Deep.Draws
import Derived.Maps.AppendAt
import Derived.RegionTactic
import Derived.OwnWalk
import Derived.Deep.DrawnRows
import Derived.Deep.DeepMust
import Derived.Deep.QuietTactic
import Derived.BigQuiet
import Derived.IntWalk
import Derived.Deep.RegionHeld3
namespace Go.Proofs.Ytcnfonhcgcblgaa.App
open Go.RowKit
set_option linter.unusedVariables false

theorem block_of_add (a : Addr) (n : Nat) : (a.add n).block = a.block := by unfold Addr.add; split <;> rfl
theorem add_of_add (a : Addr) (i j : Nat) : (a.add i).add j = a.add (i + j) := by
  unfold Addr.add
  by_cases hi : i = 0 <;> by_cases hj : j = 0 <;> simp [hi, hj, Nat.add_assoc]

def Reads (w : World) (B size : Nat) (A : Option Addr) (n : Nat) (xs : List Value) : Prop :=
  xs.length = n * size ∧ (0 < n → ∃ ad, A = some ad ∧ ad.block < B ∧ ∀ j u, xs[j]? = some u → w.cell? (ad.add j) = some u)

section
variable {w w' : World} {B B' size n : Nat} {A : Option Addr} {xs : List Value}
theorem Reads.none_ : Reads w B size A 0 [] := ⟨by simp, fun h => absurd h (by omega)⟩
theorem Reads.at_ {k : Nat} (h : Reads w B 1 A n xs) (hk : k < n) : ∃ ad u, A = some ad ∧ ad.block < B ∧ xs[k]? = some u ∧ w.cell? (ad.add k) = some u := by
  obtain ⟨ad, e, hb, hc⟩ := h.2 (by omega)
  have hl : k < xs.length := by have := h.1; omega
  exact ⟨ad, xs[k], e, hb, List.getElem?_eq_getElem hl, hc k _ (List.getElem?_eq_getElem hl)⟩
theorem Reads.keep (h : Reads w B size A n xs) (hk : ∀ p : Addr, p.block < B → w'.cell? p = w.cell? p) : Reads w' B size A n xs :=
  ⟨h.1, fun hn => by
    obtain ⟨ad, e, hb, hc⟩ := h.2 hn
    exact ⟨ad, e, hb, fun j u hu => (hk _ (by rw [block_of_add]; exact hb)).trans (hc j u hu)⟩⟩
theorem Reads.more (h : Reads w B size A n xs) (hB : B ≤ B') : Reads w B' size A n xs :=
  ⟨h.1, fun hn => by
    obtain ⟨ad, e, hb, hc⟩ := h.2 hn
    exact ⟨ad, e, by omega, hc⟩⟩
theorem Reads.below (h : Reads w B size A n xs) (hb : Below B w w') : Reads w' B size A n xs := h.keep fun _ hp => hb.cell hp
theorem Reads.drew (h : Reads w B size A n xs) : Reads w.drew B size A n xs := h
theorem Reads.drewN (h : Reads w B size A n xs) (k : Nat) : Reads (w.drewN k) B size A n xs := h
theorem Reads.alloc (h : Reads w B size A n xs) (hB : B ≤ w.heap.size) (o : Obj) : Reads (w.alloc o) B size A n xs := h.keep fun p hp => World.cell?_alloc_lt w o p (by omega)
theorem Reads.setCell (h : Reads w B size A n xs) {p : Addr} (hB : B ≤ p.block) (u : Value) : Reads (w.setCell p u) B size A n xs :=
  h.keep fun q hq => World.cell?_setCell_other w p q u (fun e => by subst e; omega)
theorem Reads.grown (h : Reads w B size A n xs) {row : Option Nat} (hg : w.grownBy w' row) (hB : B ≤ w.heap.size) (hr : ∀ g, row = some g → B ≤ g) : Reads w' B size A n xs :=
  h.keep fun p hp => World.cell?_of_block (hg.block p.block (by omega) (fun e => by have := hr _ e.symm; omega))
theorem Reads.cut (h : Reads w B size A n xs) {k cap : Nat} (hk : k ≤ n) (hc : n ≤ cap) :
    Reads w B size (if cap = k then A else A.map (·.add (k * size))) (n - k) (xs.drop (k * size)) := by
  refine ⟨by rw [List.length_drop, h.1, Nat.sub_mul], fun hn => ?_⟩
  obtain ⟨ad, rfl, hb, hcell⟩ := h.2 (by omega)
  rw [if_neg (by omega)]
  refine ⟨ad.add (k * size), rfl, by rw [block_of_add]; exact hb, fun j u hu => ?_⟩
  rw [add_of_add]
  exact hcell _ u (by rw [← hu, List.getElem?_drop])
theorem Reads.of_own {base : Nat} {e : TypeId} {c : Nat} (h : w.ownsRow base e size (.slice A n c) n xs) : Reads w w.heap.size size A n xs := by
  refine ⟨h.1, fun hn => ?_⟩
  obtain ⟨g, cap, hv, _, hlt⟩ := h.form hn
  have hA : A = some ⟨g, 0, none⟩ := by injection hv
  subst hA
  exact ⟨_, rfl, hlt, h.cells (g := g) rfl⟩
end

section
variable {P : Program} (w : World)

theorem run_append_of_nil (base : Nat) (t ty e : TypeId) (i : TypeInfo) (size : Nat) (ht : P.underlying t = some (.slice e)) (hi : P.info? e = some i)
    (v : Value) (n : Nat) (xs : List Value) (hown : w.ownsRow base e size v n xs) (c : Nat) : (Builtin.append_ #[t, t] ty #[v, .slice none 0 c]).run P w = .ok v w := by
  rcases hown.2 with ⟨rfl, rfl⟩ | ⟨g, cap, cur, rfl, _, _, hnc, _⟩
  · simp [Builtin.append_, run_underlying ht, sizeOf, typeInfo, hi, Builtin.lenOf, Builtin.firstCells]
  · simp [Builtin.append_, run_underlying ht, sizeOf, typeInfo, hi, Builtin.lenOf, Builtin.firstCells, hnc, storeCells]

theorem run_append_any (base : Nat) (t ty e : TypeId) (i : TypeInfo) (z : Value) (size bytes : Nat) (ht : P.underlying t = some (.slice e)) (hi : P.info? e = some i) (hz : i.zero = some z)
    (hsize : i.size = size) (hby : i.bytes = bytes) (hzs : z.cells.size = size) (hsz : 0 < size)
    (v : Value) (n : Nat) (xs : List Value) (hown : w.ownsRow base e size v n xs)
    (B : Nat) (A : Option Addr) (m c : Nat) (news : List Value) (hr : Reads w B size A m news) (h1 : ∀ u ∈ news, u.oneCell' = true)
    (h63 : n + m ≤ maxLen) (hbytes : (n + m) * bytes ≤ 140737488355328) (hbase : base ≤ w.heap.size) :
    ∃ v' w', (Builtin.append_ #[t, t] ty #[v, .slice A m c]).run P w = .ok v' w' ∧ w'.ownsRow base e size v' (n + m) (xs ++ news) ∧ w.grownBy w' v.ownBlock ∧
      (v'.ownBlock = v.ownBlock ∨ v'.ownBlock = some w.heap.size) := by
  rcases A with _ | ad
  · have hm : m = 0 := by
      rcases Nat.eq_zero_or_pos m with h0 | h0
      · exact h0
      · obtain ⟨ad, h, _⟩ := hr.2 h0
        cases h
    subst hm
    have hn : news = [] := List.eq_nil_of_length_eq_zero (by simpa using hr.1)
    subst hn
    exact ⟨v, w, run_append_of_nil w base t ty e i size ht hi v n xs hown c, by simpa using hown, World.grownBy.refl w _, .inl rfl⟩
  · have hcells : ∀ j u, news[j]? = some u → w.cell? (ad.add j) = some u := by
      intro j u hu
      rcases Nat.eq_zero_or_pos m with h0 | h0
      · subst h0
        have hn : news = [] := List.eq_nil_of_length_eq_zero (by simpa using hr.1)
        subst hn
        simp at hu
      · obtain ⟨ad', h, _, hc⟩ := hr.2 h0
        injection h with h
        subst h
        exact hc j u hu
    obtain ⟨v', w', hrun, h2, h3, _, h5⟩ := run_append_own_at (P := P) w base t ty e i z size bytes ht hi hz hsize hby hzs hsz v n xs hown ad m c news hr.1 hcells h1 h63 hbytes hbase
    exact ⟨v', w', hrun, h2, h3, h5⟩

theorem wp_append_any {o : Oper} {a : Act} {K : Act → World → Prop} {Q : Exit → Act → World → Prop} (s x : Operand) (t : TypeId)
    (ho : o.op = .call { callee := .builtin .append, args := #[s, x], argTypes := #[t, t] })
    (base : Nat) (e : TypeId) (i : TypeInfo) (z : Value) (size bytes : Nat) (ht : P.underlying t = some (.slice e)) (hi : P.info? e = some i) (hz : i.zero = some z)
    (hsize : i.size = size) (hby : i.bytes = bytes) (hzs : z.cells.size = size) (hsz : 0 < size)
    (v : Value) (n : Nat) (xs : List Value) (hs : a.eval s = v) (hown : w.ownsRow base e size v n xs)
    (B : Nat) (A : Option Addr) (m c : Nat) (news : List Value) (hx : a.eval x = .slice A m c) (hr : Reads w B size A m news) (h1 : ∀ u ∈ news, u.oneCell' = true)
    (h63 : n + m ≤ maxLen) (hbytes : (n + m) * bytes ≤ 140737488355328) (hbase : base ≤ w.heap.size)
    (h : ∀ v' w', w'.ownsRow base e size v' (n + m) (xs ++ news) → w.grownBy w' v.ownBlock → (v'.ownBlock = v.ownBlock ∨ v'.ownBlock = some w.heap.size) → K (a.put o.dst v') w') : o.wp P a w K Q := by
  obtain ⟨v', w', hrun, h2, h3, h4⟩ := run_append_any (P := P) w base t o.type e i z size bytes ht hi hz hsize hby hzs hsz v n xs hown B A m c news hr h1 h63 hbytes hbase
  unfold Oper.wp execOp
  simp only [ho, resolve, invoke, builtin, Sem.run_bind, Sem.run_pure, Result.andThen_ok, List.map_toArray, List.map_cons, List.map_nil, hs, hx, hrun]
  exact h v' w' h2 h3 h4

theorem wpList_append_any {ops : Array Oper} {rest : List Oper} {o : Oper} {a : Act} {Q : Exit → Act → World → Prop} (hgd : o.guard = none) (s x : Operand) (t : TypeId)
    (ho : o.op = .call { callee := .builtin .append, args := #[s, x], argTypes := #[t, t] })
    (base : Nat) (e : TypeId) (i : TypeInfo) (z : Value) (size bytes : Nat) (ht : P.underlying t = some (.slice e)) (hi : P.info? e = some i) (hz : i.zero = some z)
    (hsize : i.size = size) (hby : i.bytes = bytes) (hzs : z.cells.size = size) (hsz : 0 < size)
    (v : Value) (n : Nat) (xs : List Value) (hs : a.eval s = v) (hown : w.ownsRow base e size v n xs)
    (B : Nat) (A : Option Addr) (m c : Nat) (news : List Value) (hx : a.eval x = .slice A m c) (hr : Reads w B size A m news) (h1 : ∀ u ∈ news, u.oneCell' = true)
    (h63 : n + m ≤ maxLen) (hbytes : (n + m) * bytes ≤ 140737488355328) (hbase : base ≤ w.heap.size)
    (h : ∀ v' w', w'.ownsRow base e size v' (n + m) (xs ++ news) → w.grownBy w' v.ownBlock → (v'.ownBlock = v.ownBlock ∨ v'.ownBlock = some w.heap.size) → wpList P ops Q rest (a.put o.dst v') w') : wpList P ops Q (o :: rest) a w :=
  wpList_plain hgd fun _ hK => wp_append_any w s x t ho base e i z size bytes ht hi hz hsize hby hzs hsz v n xs hs hown B A m c news hx hr h1 h63 hbytes hbase fun v' w' h2 h3 h4 => hK _ _ (h v' w' h2 h3 h4)

theorem step_append_any {ops : Array Oper} {o : Oper} {a : Act} {K : Act → World → Prop} {Q : Exit → Act → World → Prop} {E : Prop} (hgd : o.guard = none) (s x : Operand) (t : TypeId)
    (ho : o.op = .call { callee := .builtin .append, args := #[s, x], argTypes := #[t, t] })
    (base : Nat) (e : TypeId) (i : TypeInfo) (z : Value) (size bytes : Nat) (ht : P.underlying t = some (.slice e)) (hi : P.info? e = some i) (hz : i.zero = some z)
    (hsize : i.size = size) (hby : i.bytes = bytes) (hzs : z.cells.size = size) (hsz : 0 < size)
    (v : Value) (n : Nat) (xs : List Value) (hs : a.eval s = v) (hown : w.ownsRow base e size v n xs)
    (B : Nat) (A : Option Addr) (m c : Nat) (news : List Value) (hx : a.eval x = .slice A m c) (hr : Reads w B size A m news) (h1 : ∀ u ∈ news, u.oneCell' = true)
    (h63 : n + m ≤ maxLen) (hbytes : (n + m) * bytes ≤ 140737488355328) (hbase : base ≤ w.heap.size)
    (h : ∀ v' w', w'.ownsRow base e size v' (n + m) (xs ++ news) → w.grownBy w' v.ownBlock → (v'.ownBlock = v.ownBlock ∨ v'.ownBlock = some w.heap.size) → K (a.put o.dst v') w') :
    if Region.wanted o (yielded ops a.tmps) = true then Oper.wp P o a w K Q else E := by
  have hw : Region.wanted o (yielded ops a.tmps) = true := by simp [Region.wanted, hgd]
  rw [if_pos hw]
  exact wp_append_any w s x t ho base e i z size bytes ht hi hz hsize hby hzs hsz v n xs hs hown B A m c news hx hr h1 h63 hbytes hbase h
end

end Go.Proofs.Ytcnfonhcgcblgaa.App

namespace Go.Proofs.Ytcnfonhcgcblgaa.Cell
open Go.RowKit
set_option linter.unusedVariables false
theorem ret_bool {a b : Bool} (h : a = b) : Ending.returned (.bool a) = .returned (.bool b) := by rw [h]
theorem ret_int {k : IntKind} {a b : Int} (h : a = b) : Ending.returned (.int k a) = .returned (.int k b) := by rw [h]
theorem take_snoc {α : Type} {xs : List α} {k : Nat} {x : α} (h : xs[k]? = some x) : xs.take (k + 1) = xs.take k ++ [x] := by
  rw [List.take_add_one, h]; rfl
theorem at_ {α : Type} (xs : List α) (k : Nat) (h : k < xs.length) : ∃ x, xs[k]? = some x := ⟨xs[k], List.getElem?_eq_getElem h⟩
theorem mem_of_at {α : Type} {xs : List α} {k : Nat} {x : α} (h : xs[k]? = some x) : x ∈ xs := List.mem_of_getElem? h
theorem lt_of_at {α : Type} {xs : List α} {k : Nat} {x : α} (h : xs[k]? = some x) : k < xs.length := (List.getElem?_eq_some_iff.1 h).1
theorem if_iff {A B : Prop} [Decidable A] [Decidable B] {α : Type} {x y : α} (h : A ↔ B) : (if A then x else y) = if B then x else y := by
  by_cases a : A
  · rw [if_pos a, if_pos (h.1 a)]
  · rw [if_neg a, if_neg (fun b => a (h.2 b))]
theorem keep0 {W w1 : World} (hb : Below W.heap.size W w1) (b o : Nat) (v : Value) (h : W.cell? ⟨b, o, none⟩ = some v) : w1.cell? ⟨b, o, none⟩ = some v :=
  (hb.cell (p := ⟨b, o, none⟩) (World.block_lt_of_cell? W ⟨b, o, none⟩ h)).trans h
/-- block g of the world is just these cells, none of them frozen -/
def Row (w : World) (g : Nat) (t : TypeId) (cs : Array Value) : Prop := w.heap[g]? = some (.cells cs t (0, 0))
theorem Row.lt {w : World} {g : Nat} {t : TypeId} {cs : Array Value} (h : Row w g t cs) : g < w.heap.size := by
  unfold Row at h
  obtain ⟨hl, _⟩ := Array.getElem?_eq_some_iff.1 h
  exact hl
theorem Row.cell {w : World} {g : Nat} {t : TypeId} {cs : Array Value} (h : Row w g t cs) (j : Nat) : w.cell? ⟨g, j, none⟩ = cs[j]? := cell_of_row w g j cs t (0, 0) h
theorem Row.frozen {w : World} {g : Nat} {t : TypeId} {cs : Array Value} (h : Row w g t cs) (j : Nat) : w.frozen? ⟨g, j, none⟩ = false := frozen_of_row w g j cs t h
theorem Row.new (w : World) (t : TypeId) (cs : Array Value) : Row (w.alloc (.cells cs t)) w.heap.size t cs := by
  exact heap_alloc_new w _
theorem Row.alloc {w : World} {g : Nat} {t : TypeId} {cs : Array Value} (h : Row w g t cs) (o : Obj) : Row (w.alloc o) g t cs := (Below.heap_alloc w o g h.lt).trans h
theorem Row.set {w : World} {g : Nat} {t : TypeId} {cs : Array Value} (h : Row w g t cs) (i : Nat) (u : Value) : Row (w.setCell ⟨g, i, none⟩ u) g t (cs.setIfInBounds i u) := by
  unfold Row at h ⊢
  simp [World.setCell, Array.getElem?_modify, h]
theorem Row.keep {w w1 : World} {g : Nat} {t : TypeId} {cs : Array Value} (h : Row w g t cs) (hb : Below w.heap.size w w1) : Row w1 g t cs := (hb.block g h.lt).trans h

/-- bools as cells -/
def bcs (bs : List Bool) : Array Value := (bs.map Value.bool).toArray
theorem bcs_at {bs : List Bool} {j : Nat} {b : Bool} (h : bs[j]? = some b) : (bcs bs)[j]? = some (.bool b) := by simp [bcs, h]
theorem bcs_set (bs : List Bool) (j : Nat) (b : Bool) : (bcs bs).setIfInBounds j (.bool b) = bcs (bs.set j b) := by simp [bcs, List.map_set]
theorem made_bools (N : Nat) : madeCells (Value.bool false).cells (N * 1) = bcs (List.replicate N false) := by
  apply Array.ext
  · simp [size_madeCells, bcs]
  · intro i h1 h2
    have hi : i < N := by simpa [size_madeCells] using h1
    simp [madeCells, bcs, Value.cells, Nat.mod_one]

/-- the memory of a slice of ints, of bools, of pairs -/
def Ints (w : World) (A : Option Addr) (zs : List Int) : Prop := 0 < zs.length → ∃ b off, A = some ⟨b, off, none⟩ ∧ ∀ j z, zs[j]? = some z → w.cell? ⟨b, off + j, none⟩ = some (.int .i64 z)
def At2 (w : World) (b o : Nat) (p : Int × Int) : Prop := w.cell? ⟨b, o, none⟩ = some (.int .i64 p.1) ∧ w.cell? ⟨b, o + 1, none⟩ = some (.int .i64 p.2)
def Prs (w : World) (A : Option Addr) (l : List (Int × Int)) : Prop := 0 < l.length → ∃ b off, A = some ⟨b, off, none⟩ ∧ ∀ j p, l[j]? = some p → At2 w b (off + j * 2) p
theorem At2.keep {w w1 : World} {b o : Nat} {p : Int × Int} (h : At2 w b o p) (hb : Below w.heap.size w w1) : At2 w1 b o p := ⟨keep0 hb _ _ _ h.1, keep0 hb _ _ _ h.2⟩
theorem Prs.keep {w w1 : World} {A : Option Addr} {l : List (Int × Int)} (h : Prs w A l) (hb : Below w.heap.size w w1) : Prs w1 A l := fun h0 => by
  obtain ⟨b, off, e, hc⟩ := h h0
  exact ⟨b, off, e, fun j v hv => (hc j v hv).keep hb⟩
theorem Ints.keep {w w1 : World} {A : Option Addr} {zs : List Int} (h : Ints w A zs) (hb : Below w.heap.size w w1) : Ints w1 A zs := fun h0 => by
  obtain ⟨b, off, e, hc⟩ := h h0
  exact ⟨b, off, e, fun j z hz => keep0 hb _ _ _ (hc j z hz)⟩
def ics (zs : List Int) : Array Value := (zs.map (Value.int .i64)).toArray
theorem ics_at {zs : List Int} {j : Nat} {z : Int} (h : zs[j]? = some z) : (ics zs)[j]? = some (.int .i64 z) := by simp [ics, h]
theorem ics_set (bs : List Int) (j : Nat) (b : Int) : (ics bs).setIfInBounds j (.int .i64 b) = ics (bs.set j b) := by simp [ics, List.map_set]
theorem Row.ints {w : World} {g t : Nat} {zs : List Int} (h : Row w g t (ics zs)) : Ints w (some ⟨g, 0, none⟩) zs := fun _ => ⟨g, 0, rfl, fun j z hz => by rw [Nat.zero_add]; exact (h.cell j).trans (ics_at hz)⟩
theorem Row.intAt {w : World} {g t : Nat} {zs : List Int} (h : Row w g t (ics zs)) {j : Nat} {z : Int} (hz : zs[j]? = some z) : w.cell? ⟨g, j, none⟩ = some (.int .i64 z) := (h.cell j).trans (ics_at hz)
theorem Row.booAt {w : World} {g t : Nat} {zs : List Bool} (h : Row w g t (bcs zs)) {j : Nat} {z : Bool} (hz : zs[j]? = some z) : w.cell? ⟨g, j, none⟩ = some (.bool z) := (h.cell j).trans (bcs_at hz)
theorem made_ints (N : Nat) : madeCells (Value.int .i64 0).cells (N * 1) = ics (List.replicate N 0) := by
  apply Array.ext
  · simp [size_madeCells, ics]
  · intro i h1 h2
    have hi : i < N := by simpa [size_madeCells] using h1
    simp [madeCells, ics, Value.cells, Nat.mod_one]
/-- what is counted -/
def total (zs : List Int) : Int := zs.foldl (· + ·) 0
theorem total_snoc (zs : List Int) (z : Int) : total (zs ++ [z]) = total zs + z := by simp [total]
def yesR : List Int → List Bool → Int
  | z :: zs, b :: bs => (if b = true then z else 0) + yesR zs bs
  | _, _ => 0
theorem yesR_snoc {xs : List Int} {ys : List Bool} (x : Int) (y : Bool) (h : xs.length = ys.length) : yesR (xs ++ [x]) (ys ++ [y]) = yesR xs ys + if y = true then x else 0 := by
  induction xs generalizing ys with
  | nil => cases ys with
    | nil => simp [yesR]
    | cons b bs => simp at h
  | cons z zs ih => cases ys with
    | nil => simp at h
    | cons b bs =>
      have := ih (ys := bs) (by simpa using h)
      simp only [List.cons_append, yesR, this]
      omega
end Go.Proofs.Ytcnfonhcgcblgaa.Cell
namespace Go.Proofs.Ytcnfonhcgcblgaa.Gen
open Go.RowKit Go.Proofs.Ytcnfonhcgcblgaa.Cell
set_option linter.unusedVariables false

theorem over {a W w1 : World} (hb : Below W.heap.size W w1) (hW : Below a.heap.size a W) : Below a.heap.size a w1 := hW.trans (hb.mono hW.size)
theorem keep {W w1 : World} {b o : Nat} {v : Value} (hb : Below W.heap.size W w1) (h : W.cell? ⟨b, o, none⟩ = some v) : w1.cell? ⟨b, o, none⟩ = some v :=
  (hb.cell (p := ⟨b, o, none⟩) (World.block_lt_of_cell? W ⟨b, o, none⟩ h)).trans h
theorem al {w : World} {o : Obj} {b j : Nat} {v : Value} (h : w.cell? ⟨b, j, none⟩ = some v) : (w.alloc o).cell? ⟨b, j, none⟩ = some v :=
  (World.cell?_alloc_lt w o ⟨b, j, none⟩ (World.block_lt_of_cell? w ⟨b, j, none⟩ h)).trans h
theorem dN {B : Nat} {w W : World} (h : Below B w W) (k : Nat) : Below B w (W.drewN k) := ⟨h.os, h.tape, h.output, h.size, h.block⟩
theorem b_alloc {a W : World} {x : Obj} (h : Below a.heap.size a W) : Below a.heap.size a (W.alloc x) := h.alloc h.size _
theorem b_set {a W : World} {p : Addr} {u : Value} (h : Below a.heap.size a W) (hp : a.heap.size ≤ p.block) : Below a.heap.size a (W.setCell p u) := h.setCell hp _
theorem own_keep {w w' : World} {base : Nat} {e : TypeId} {size : Nat} {v : Value} {n : Nat} {xs : List Value} (h : w.ownsRow base e size v n xs) (hb : Below w.heap.size w w') : w'.ownsRow base e size v n xs := by
  refine ⟨h.1, ?_⟩
  rcases h.2 with h0 | ⟨g, cap, cur, h1, h2, h3, h4⟩
  · exact .inl h0
  · refine .inr ⟨g, cap, cur, h1, h2, ?_, h4⟩
    rw [hb.block g (Array.getElem?_eq_some_iff.1 h3).1]
    exact h3
theorem own_slice {w : World} {base n size : Nat} {e : TypeId} {v : Value} {xs : List Value} (h : w.ownsRow base e size v n xs) : ∃ A c, v = .slice A n c ∧ App.Reads w w.heap.size size A n xs := by
  have h' := h
  rcases h'.2 with ⟨rfl, rfl⟩ | ⟨g, cap, cur, rfl, _⟩
  · exact ⟨none, 0, rfl, App.Reads.of_own h⟩
  · exact ⟨_, _, rfl, App.Reads.of_own h⟩
/-- behind an append onto a row of the call's own -/
theorem g_cell {a X W : World} {base size n p o : Nat} {e : TypeId} {v u : Value} {xs : List Value} (hown : a.ownsRow base e size v n xs) (hg : X.grownBy W v.ownBlock) (hp : a.heap.size ≤ p) (hc : X.cell? ⟨p, o, none⟩ = some u) :
    W.cell? ⟨p, o, none⟩ = some u :=
  hg.cell hc fun h => by
    have := (hown.lt p h.symm).2
    omega
theorem g_row {a X W : World} {base size n g : Nat} {e t : TypeId} {v : Value} {cs : Array Value} {xs : List Value} (hown : a.ownsRow base e size v n xs) (hg : X.grownBy W v.ownBlock) (hp : g < base) (hr : Row X g t cs) : Row W g t cs :=
  (hg.block g hr.lt fun h => by
    have := (hown.lt g h.symm).1
    omega).trans hr
theorem g_rowUp {a X W : World} {base size n g : Nat} {e t : TypeId} {v : Value} {cs : Array Value} {xs : List Value} (hown : a.ownsRow base e size v n xs) (hg : X.grownBy W v.ownBlock) (hp : a.heap.size ≤ g) (hr : Row X g t cs) : Row W g t cs :=
  (hg.block g hr.lt fun h => by
    have := (hown.lt g h.symm).2
    omega).trans hr
theorem g_below {w a X W : World} {base size n : Nat} {e : TypeId} {v : Value} {xs : List Value} (hown : a.ownsRow base e size v n xs) (hg : X.grownBy W v.ownBlock) (hb : Below w.heap.size w X) (h : w.heap.size ≤ base) : Below w.heap.size w W :=
  hb.grown hg hb.size fun k hk => Nat.le_trans h (hown.lt k hk).1
theorem rowAt (w : World) (t : TypeId) (cs : Array Value) {g : Nat} (h : g = w.heap.size) : Row (w.alloc (.cells cs t)) g t cs := by
  subst h
  exact Row.new _ _ _
theorem rowAtD (w : World) (t : TypeId) (cs : Array Value) {g : Nat} (h : g = w.heap.size) : Row (w.alloc (.cells cs t)).drew g t cs := rowAt w t cs h
theorem reads_blk {W : World} {g K : Nat} {t : TypeId} {cs : Array Value} (h : g = W.heap.size) (hK : cs.size = K) : App.Reads (W.alloc (.cells cs t)) (g + 1) K (some ⟨g, 0, none⟩) 1 cs.toList :=
  ⟨by simp [hK], fun _ => ⟨_, rfl, Nat.lt_succ_self _, fun j u hu => by
    have hr := rowAt W t cs h
    rw [Addr.add_lit, Nat.zero_add, hr.cell]
    simpa using hu⟩⟩
/-- elements of K cells, laid one behind the other -/
theorem flat_length {α : Type} {f : α → List Value} {K : Nat} (hf : ∀ x, (f x).length = K) (l : List α) : (l.flatMap f).length = l.length * K := by
  induction l with
  | nil => simp
  | cons x l ih => rw [List.flatMap_cons, List.length_append, hf, ih, List.length_cons, Nat.succ_mul]; omega
theorem flat_at {α : Type} {f : α → List Value} {K : Nat} (hf : ∀ x, (f x).length = K) : ∀ (l : List α) (j : Nat) (x : α), l[j]? = some x → ∀ i, i < K → (l.flatMap f)[j * K + i]? = (f x)[i]?
  | [], j, x, h, i, hi => by simp at h
  | y :: l, 0, x, h, i, hi => by
    simp at h
    subst h
    rw [List.flatMap_cons, List.getElem?_append_left (by rw [hf]; omega)]
    simp
  | y :: l, j + 1, x, h, i, hi => by
    rw [List.flatMap_cons, List.getElem?_append_right (by rw [hf, Nat.succ_mul]; omega), hf]
    have e : (j + 1) * K + i - K = j * K + i := by rw [Nat.succ_mul]; omega
    rw [e]
    exact flat_at hf l j x (by simpa using h) i hi
/-- a row whose elements are read, cell by cell -/
theorem reads_at {α : Type} {w : World} {B K n : Nat} {A : Option Addr} {f : α → List Value} {l : List α} (hf : ∀ x, (f x).length = K) (hK : 0 < K) (hn : l.length = n) (h : App.Reads w B K A n (l.flatMap f)) (h0 : 0 < l.length) :
    ∃ b off, A = some ⟨b, off, none⟩ ∧ ∀ j x, l[j]? = some x → ∀ i u, (f x)[i]? = some u → w.cell? ⟨b, off + (j * K + i), none⟩ = some u := by
  obtain ⟨ad, e, hb, hc⟩ := h.2 (by omega)
  have hx : l[0]? = some l[0] := List.getElem?_eq_getElem h0
  have hu : (f l[0])[0]? = some ((f l[0])[0]'(by rw [hf]; exact hK)) := List.getElem?_eq_getElem _
  have h1 := flat_at hf l 0 _ hx 0 hK
  rw [hu] at h1
  obtain ⟨b, off, spot⟩ := ad
  have hs : spot = none := by
    have := World.cell?_spot (hc _ _ h1)
    simpa [Addr.add] using this
  subst hs
  refine ⟨b, off, e, fun j x hj i u hi => ?_⟩
  have hiK : i < K := by
    have := (List.getElem?_eq_some_iff.1 hi).1
    rwa [hf] at this
  have := hc _ u ((flat_at hf l j x hj i hiK).trans hi)
  rwa [Addr.add_lit] at this
end Go.Proofs.Ytcnfonhcgcblgaa.Gen
