/- Post: slices.Insert. -/
import Derived.Test.YtefikmfogbdhpaaPoA
import Derived.Shelf.Spec.SlicesInsert
import Derived.Shelf.Spec.SlicesInsertGrow
namespace Go.Proofs.Ytefikmfogbdhpaa
open Go.Shelf
def Try.insInt_ren : Go.Shelf.Ren := ⟨fun | 21 => 24 | 27 => 29 | 28 => 30 | 35 => 32 | 39 => 33 | n => n, fun | 22 => 23 | 3 => 3 | 4 => 4 | 0 => 0 | n => n, fun | n => n⟩
theorem Try.insInt : Go.Proofs.Lays2.n21 Try.prog Try.insInt_ren := {
  mixed := by kernel_rfl
  f21 := Try.func24.trans (congrArg some (by kernel_rfl))
  f27 := Try.func29.trans (congrArg some (by kernel_rfl))
  f28 := Try.func30.trans (congrArg some (by kernel_rfl))
  f35 := Try.func32.trans (congrArg some (by kernel_rfl))
  f39 := Try.func33.trans (congrArg some (by kernel_rfl))
  t0 := Try.underlying0
  a0 := Try.isAgg0
  z0 := Try.sizeOf0
  v0 := Try.zeroValue0
  t3 := Try.underlying3
  a3 := Try.isAgg3
  z3 := Try.sizeOf3
  v3 := Try.zeroValue3
  t4 := Try.underlying4
  a4 := Try.isAgg4
  z4 := Try.sizeOf4
  v4 := Try.zeroValue4
  t22 := Try.underlying23
  a22 := Try.isAgg23
  z22 := Try.sizeOf23
  v22 := Try.zeroValue23
  i3 := by kernel_rfl }
end Go.Proofs.Ytefikmfogbdhpaa
namespace Go.Proofs.Ytefikmfogbdhpaa.Po
open Go.ChangeShapes Go.WideShapes Go.ChangeAt Go.RowKit Go.Proofs.Ytefikmfogbdhpaa.Cell
set_option linter.unusedVariables false
set_option linter.unusedSimpArgs false

theorem heap_setCells_ne (b : Nat) : ∀ (vs : List Value) (o : Nat) (w : World) (k : Nat), k ≠ b → (w.setCells b o vs).heap[k]? = w.heap[k]?
  | [], _, _, _, _ => rfl
  | v :: r, o, w, k, h => by
    rw [World.setCells, heap_setCells_ne b r (o + 1) _ k h]
    exact Below.heap_setCell w ⟨b, o, none⟩ v k h
theorem size_setCells (b : Nat) : ∀ (vs : List Value) (o : Nat) (w : World), (w.setCells b o vs).heap.size = w.heap.size
  | [], _, _ => rfl
  | v :: r, o, w => by rw [World.setCells, size_setCells b r]; simp
theorem grown_setCells {W W' : World} {g : Nat} (h : W.grownBy W' (some g)) : ∀ (vs : List Value) (o : Nat), W.grownBy (W'.setCells g o vs) (some g) := by
  intro vs
  induction vs generalizing W' with
  | nil => intro o; exact h
  | cons v r ih =>
    intro o
    rw [World.setCells]
    exact ih (W' := W'.setCell ⟨g, o, none⟩ v) ⟨h.os, h.tape, h.output, by simpa using h.size, fun k hk hne => by
      rw [Below.heap_setCell W' ⟨g, o, none⟩ v k (fun e => hne (by rw [e]))]
      exact h.block k hk hne⟩ (o + 1)
theorem grown_drew {W W' : World} {r : Option Nat} (h : W.grownBy W' r) : W.grownBy W'.drew r := ⟨h.os, h.tape, h.output, h.size, h.block⟩
theorem grown_alloc {W W' : World} {r : Option Nat} (h : W.grownBy W' r) (o : Obj) : W.grownBy (W'.alloc o) r := ⟨h.os, h.tape, h.output, by have := h.size; simp; omega, fun k hk hne => (Below.heap_alloc W' o k (Nat.lt_of_lt_of_le hk h.size)).trans (h.block k hk hne)⟩
theorem grown_none {W W' : World} (h : W.grownBy W' none) (r : Option Nat) : W.grownBy W' r := ⟨h.os, h.tape, h.output, h.size, fun k hk _ => h.block k hk (by simp)⟩
theorem grown_more {W W' : World} {g : Nat} (h : W.grownBy W' (some g)) (hg : W.heap.size ≤ g) (r : Option Nat) : W.grownBy W' r := ⟨h.os, h.tape, h.output, h.size, fun k hk _ => h.block k hk (fun e => by injection e with e; omega)⟩
theorem ints_at {l : List Int} {j : Nat} {v : Value} (h : (ints l)[j]? = some v) : ∃ z, l[j]? = some z ∧ v = .int .i64 z := by
  rw [ints, List.getElem?_map] at h
  cases hx : l[j]? with
  | none => rw [hx] at h; simp at h
  | some z => rw [hx] at h; simp at h; exact ⟨z, rfl, h.symm⟩
/-- the cells after an insertion -/
theorem ins_at {l : List Int} {i j : Nat} {x z : Int} (hi : i ≤ l.length) (h : (l.take i ++ x :: l.drop i)[j]? = some z) : (j < i ∧ l[j]? = some z) ∨ (j = i ∧ z = x) ∨ (i < j ∧ l[j - 1]? = some z) := by
  have hl : (l.take i).length = i := by rw [List.length_take]; omega
  rcases Nat.lt_trichotomy j i with c | c | c
  · rw [List.getElem?_append_left (by omega), List.getElem?_take_of_lt c] at h
    exact .inl ⟨c, h⟩
  · subst c
    rw [List.getElem?_append_right (by omega), hl, Nat.sub_self] at h
    simp at h
    exact .inr (.inl ⟨rfl, h.symm⟩)
  · rw [List.getElem?_append_right (by omega), hl] at h
    obtain ⟨q, rfl⟩ : ∃ q, j = i + 1 + q := ⟨j - i - 1, by omega⟩
    rw [show i + 1 + q - i = q + 1 by omega, List.getElem?_cons_succ, List.getElem?_drop] at h
    exact .inr (.inr ⟨by omega, by rw [show i + 1 + q - 1 = i + q by omega]; exact h⟩)
/-- the row that holds an insertion -/
theorem ints_ins {W : World} {g i n : Nat} {l : List Int} {x : Int} (hl : l.length = n) (hi : i ≤ n) (h1 : ∀ j z, j < i → l[j]? = some z → W.cell? ⟨g, j, none⟩ = some (.int .i64 z)) (h2 : W.cell? ⟨g, i, none⟩ = some (.int .i64 x))
    (h3 : ∀ j z, i ≤ j → l[j]? = some z → W.cell? ⟨g, j + 1, none⟩ = some (.int .i64 z)) : Ints W (some ⟨g, 0, none⟩) (l.take i ++ x :: l.drop i) := fun _ => ⟨g, 0, rfl, fun j z hz => by
  rw [Nat.zero_add]
  rcases ins_at (by omega) hz with ⟨a, b⟩ | ⟨a, b⟩ | ⟨a, b⟩
  · exact h1 j z a b
  · subst a b; exact h2
  · have := h3 (j - 1) z (by omega) b
    rwa [show j - 1 + 1 = j by omega] at this⟩
theorem row_shape {W : World} {g : Nat} {t : TypeId} {cs : Array Value} (h : Row W g t cs) : W.shape? g = some (t, cs.size) := by
  unfold Row at h
  simp [World.shape?, h]
theorem rowAt' (w : World) (t : TypeId) (cs : Array Value) {g : Nat} (h : g = w.heap.size) : Row (w.alloc (.cells cs t)) g t cs := Gen.rowAt w t cs h
set_option maxRecDepth 100000 in
set_option maxHeartbeats 4000000 in
theorem insert_any {W : World} {B n c i vb : Nat} {A : Option Addr} {l : List Int} {x : Int} (hl : l.length = n) (ho : W.ownsRow B 3 1 (.slice A n c) n (ints l)) (hi : i ≤ n) (hb : n ≤ 10000) (hv : Row W vb 3 #[.int .i64 x]) (hne : (Value.slice A n c).ownBlock ≠ some vb) :
    Calls Try.prog 24 #[.slice A n c, .int .i64 i, .slice (some ⟨vb, 0, none⟩) 1 1] W fun e w' => ∃ A' c', e = .returned (.slice A' (n + 1) c') ∧ Ints w' A' (l.take i ++ x :: l.drop i) ∧ W.grownBy w' (Value.slice A n c).ownBlock ∧ ∀ a, A' = some a → (Value.slice A n c).ownBlock = some a.block ∨ W.heap.size ≤ a.block := by
  have hvs : ∀ j v, [Value.int .i64 x][j]? = some v → W.cell? ⟨vb, 0 + j, none⟩ = some v := fun j v h => by
    match j, h with
    | 0, h => rw [hv.cell]; simpa using h
  have h1v : ∀ v ∈ [Value.int .i64 x], v.oneCell' = true := fun v h => by simp at h; subst h; rfl
  have hil : (ints l).length = n := by simp [ints, hl]
  have g0 : W.grownBy W none := ⟨rfl, rfl, rfl, Nat.le_refl _, fun _ _ _ => rfl⟩
  have hrow : ∀ t cs, Row (W.drew.alloc (.cells cs t)) W.heap.size t cs := fun t cs => rowAt' W.drew t cs rfl
  rcases ho.2 with ⟨hn, hn0⟩ | ⟨g, cap, cur, he, hB, hg, hnc, hcm, hcs, htk⟩
  · injection hn with e1 e2 e3
    subst e1 e3
    subst hn0
    obtain rfl : i = 0 := by omega
    obtain rfl : l = [] := List.length_eq_zero_iff.1 hl
    refine (Any2.slices_Insert_int_end_grow Try.insInt none 0 0 vb 0 1 1 [] [.int .i64 x] W (by omega) (by omega) (by omega) (by omega) rfl rfl (fun _ => rfl) (fun a h => by cases h) hvs h1v).mono ?_
    rintro e w' ⟨rfl, rfl⟩
    refine ⟨_, _, rfl, ?_, grown_alloc (grown_drew (grown_none g0 _)) _, fun a h => by injection h with h; subst h; exact .inr (Nat.le_refl _)⟩
    refine ints_ins (n := 0) rfl (Nat.le_refl _) (fun j z h => by omega) ?_ (fun j z _ h => by simp at h)
    rw [(hrow _ _).cell, Array.getElem?_append_left (by simp)]
    simp
  · injection he with e1 e2 e3
    subst e1 e3
    have hR : Row W g 3 cur := hg
    have hgv : vb ≠ g := fun e => hne (by rw [e]; rfl)
    have hcells : ∀ j v, (ints l)[j]? = some v → W.cell? ⟨g, 0 + j, none⟩ = some v := fun j v h => by
      have hj := lt_of_at h
      rw [Nat.zero_add, hR.cell]
      rw [← htk, List.getElem?_take_of_lt (by omega)] at h
      simpa using h
    have hold : ∀ j z, l[j]? = some z → W.cell? ⟨g, j, none⟩ = some (.int .i64 z) := fun j z h => by
      have := hcells j (.int .i64 z) (by simp [ints, h])
      rwa [Nat.zero_add] at this
    have hsome : ∀ j, j < c → (W.cell? ⟨g, 0 + j, none⟩).isSome = true := fun j h => by
      rw [Nat.zero_add, hR.cell, Array.getElem?_eq_getElem (by omega)]
      rfl
    by_cases hin : i = n
    · subst hin
      by_cases hroom : i + 1 ≤ c
      · refine (Any2.slices_Insert_int_end_room Try.insInt g 0 i c vb 0 1 1 [.int .i64 x] W (by omega) hroom (by unfold maxLen at hcm; omega) rfl (fun j hj => by have := hsome (i + j) (by omega); rwa [← Nat.add_assoc] at this) (fun j _ => hR.frozen _) hvs h1v).mono ?_
        rintro e w' ⟨rfl, rfl⟩
        refine ⟨_, _, rfl, ?_, grown_setCells (grown_none g0 _) _ _, fun a h => by injection h with h; subst h; exact .inl rfl⟩
        refine ints_ins hl (Nat.le_refl _) (fun j z hj hz => ?_) ?_ (fun j z hj hz => by have := lt_of_at hz; omega)
        · rw [World.cell?_setCells_out g _ _ _ _ (fun _ _ => .inl (by show j < 0 + i; omega))]
          exact hold j z hz
        · have := World.cell?_setCells_in g [Value.int .i64 x] (0 + i) W (fun j hj => by have := hsome (i + j) (by simp at hj; omega); rwa [← Nat.add_assoc] at this) 0 (by simp)
          simpa using this
      · refine (Any2.slices_Insert_int_end_grow Try.insInt (some ⟨g, 0, none⟩) i c vb 0 1 1 (ints l) [.int .i64 x] W (by omega) hnc (by omega) (by omega) hil rfl (fun h => by cases h) (fun a ha j v h => by injection ha with ha; subst ha; rw [Addr.add_lit]; exact hcells j v h) hvs h1v).mono ?_
        rintro e w' ⟨rfl, rfl⟩
        refine ⟨_, _, rfl, ?_, grown_alloc (grown_drew (grown_none g0 _)) _, fun a h => by injection h with h; subst h; exact .inr (Nat.le_refl _)⟩
        refine ints_ins hl (Nat.le_refl _) (fun j z hj hz => ?_) ?_ (fun j z hj hz => by have := lt_of_at hz; omega)
        · rw [(hrow _ _).cell]
          simp [ints, hl, hj, hz, Array.getElem?_append, List.getElem?_append, Nat.lt_succ_of_lt hj]
          exact (List.getElem?_eq_some_iff.1 hz).2
        · rw [(hrow _ _).cell]
          simp [ints, hl, Array.getElem?_append, List.getElem?_append]
    · have hlt : i < n := by omega
      have hdl : (ints l).drop i = ints (l.drop i) := by simp [ints]
      by_cases hroom : n + 1 ≤ c
      · refine (Any2.slices_Insert_int_shift Try.insInt g 0 n c i vb 0 1 1 (ints l) [.int .i64 x] W hlt (by omega) hroom (by unfold maxLen at hcm; omega) hgv hil rfl hcells (fun j hj => hsome j (by omega)) (fun j _ => hR.frozen _) hvs (ints_one l) h1v 3 3 _ _ (row_shape hv) (row_shape hR) (by rw [hcs]; omega) (hv.frozen _) (hv.frozen _)).mono ?_
        rintro e w' ⟨rfl, rfl⟩
        have hs1 : ∀ j, j < ((ints l).drop i).length → (W.drew.cell? ⟨g, 0 + (i + 1) + j, none⟩).isSome = true := fun j hj => by
          rw [List.length_drop, hil] at hj
          have := hsome (i + 1 + j) (by omega)
          rwa [← Nat.add_assoc] at this
        have hs2 : ∀ j, j < [Value.int .i64 x].length → ((W.drew.setCells g (0 + (i + 1)) ((ints l).drop i)).cell? ⟨g, 0 + i + j, none⟩).isSome = true := fun j hj => by
          simp at hj
          subst hj
          rw [World.cell?_setCells_out g _ _ _ _ (fun _ _ => .inl (by show 0 + i + 0 < 0 + (i + 1); omega))]
          exact hsome i (by omega)
        refine ⟨_, _, rfl, ?_, grown_setCells (grown_setCells (grown_drew (grown_none g0 _)) _ _) _ _, fun a h => by injection h with h; subst h; exact .inl rfl⟩
        refine ints_ins hl hi (fun j z hj hz => ?_) ?_ (fun j z hj hz => ?_)
        · rw [World.cell?_setCells_out g _ _ _ _ (fun _ _ => .inl (by show j < 0 + i; omega)), World.cell?_setCells_out g _ _ _ _ (fun _ _ => .inl (by show j < 0 + (i + 1); omega))]
          exact hold j z hz
        · have := World.cell?_setCells_in g [Value.int .i64 x] (0 + i) _ hs2 0 (by simp)
          simpa using this
        · rw [World.cell?_setCells_out g _ _ _ _ (fun _ _ => .inr (by show 0 + i + 1 ≤ j + 1; omega))]
          have hj2 := lt_of_at hz
          have := World.cell?_setCells_in g ((ints l).drop i) (0 + (i + 1)) W.drew hs1 (j - i) (by rw [List.length_drop, hil]; omega)
          rw [show 0 + (i + 1) + (j - i) = j + 1 by omega] at this
          rw [this]
          congr 1
          have hh : ((ints l).drop i)[j - i]? = some (.int .i64 z) := by rw [List.getElem?_drop, show i + (j - i) = j by omega]; simp [ints, hz]
          rw [List.getElem?_eq_getElem (by rw [List.length_drop, hil]; omega)] at hh
          injection hh
      · refine (Any2.slices_Insert_int_grow Try.insInt g 0 n c i vb 0 1 1 (ints l) [.int .i64 x] W hlt (by omega) hnc (by omega) (by omega) hil rfl hcells hvs (ints_one l) h1v).mono ?_
        rintro e w' ⟨rfl, rfl⟩
        obtain ⟨C, hC⟩ : ∃ C, ((ints l).take i).toArray ++ Builtin.zeroCells (Value.int .i64 0).cells (n + 1 - i) ++ Builtin.zeroCells (Value.int .i64 0).cells (grownCap W (n + 1) c 3 - (n + 1)) = C := ⟨_, rfl⟩
        have hCs : n + 1 ≤ C.size := by rw [← hC]; simp [Builtin.zeroCells, Value.cells, hil]; omega
        have hC1 : ∀ j z, j < i → l[j]? = some z → C[j]? = some (.int .i64 z) := fun j z hj hz => by
          rw [← hC, Array.append_assoc, Array.getElem?_append_left (by simp [hil]; omega)]
          simp [ints, hj, hz]
        have hr : Row (W.alloc (.cells C 3)) W.heap.size 3 C := rowAt' W 3 C rfl
        have hs1 : ∀ j, j < [Value.int .i64 x].length → ((W.alloc (.cells C 3)).drew.cell? ⟨W.heap.size, i + j, none⟩).isSome = true := fun j hj => by
          simp at hj
          subst hj
          have : (W.alloc (.cells C 3)).drew.cell? ⟨W.heap.size, i + 0, none⟩ = C[i + 0]? := hr.cell _
          rw [this, Array.getElem?_eq_getElem (by omega)]
          rfl
        have hs2 : ∀ j, j < ((ints l).drop i).length → (((W.alloc (.cells C 3)).drew.setCells W.heap.size i [.int .i64 x]).drew.cell? ⟨W.heap.size, i + 1 + j, none⟩).isSome = true := fun j hj => by
          rw [List.length_drop, hil] at hj
          have h0 : ((W.alloc (.cells C 3)).drew.setCells W.heap.size i [.int .i64 x]).drew.cell? ⟨W.heap.size, i + 1 + j, none⟩ = (W.alloc (.cells C 3)).drew.cell? ⟨W.heap.size, i + 1 + j, none⟩ := World.cell?_setCells_out W.heap.size _ _ _ _ (fun _ _ => .inr (by show i + 1 ≤ i + 1 + j; omega))
          have h1 : (W.alloc (.cells C 3)).drew.cell? ⟨W.heap.size, i + 1 + j, none⟩ = C[i + 1 + j]? := hr.cell _
          rw [h0, h1, Array.getElem?_eq_getElem (by omega)]
          rfl
        have hgr : W.grownBy (((W.alloc (.cells C 3)).drew.setCells W.heap.size i [.int .i64 x]).drew.setCells W.heap.size (i + 1) ((ints l).drop i)) (some W.heap.size) := grown_setCells (grown_drew (grown_setCells (grown_drew (grown_alloc (grown_none g0 _) _)) _ _)) _ _
        refine ⟨_, _, rfl, ?_, ?_, fun a h => by injection h with h; subst h; exact .inr (Nat.le_refl _)⟩
        · change Ints ((((W.alloc (.cells (((ints l).take i).toArray ++ Builtin.zeroCells (Value.int .i64 0).cells (n + 1 - i) ++ Builtin.zeroCells (Value.int .i64 0).cells (grownCap W (n + 1) c 3 - (n + 1))) 3)).drew.setCells W.heap.size i [.int .i64 x]).drew).setCells W.heap.size (i + 1) ((ints l).drop i)) _ _
          rw [hC]
          refine ints_ins hl hi (fun j z hj hz => ?_) ?_ (fun j z hj hz => ?_)
          · rw [World.cell?_setCells_out W.heap.size _ _ _ _ (fun _ _ => .inl (by show j < i + 1; omega))]
            have h0 : ((W.alloc (.cells C 3)).drew.setCells W.heap.size i [.int .i64 x]).drew.cell? ⟨W.heap.size, j, none⟩ = (W.alloc (.cells C 3)).drew.cell? ⟨W.heap.size, j, none⟩ := World.cell?_setCells_out W.heap.size _ _ _ _ (fun _ _ => .inl hj)
            rw [h0]
            exact (hr.cell j).trans (hC1 j z hj hz)
          · rw [World.cell?_setCells_out W.heap.size _ _ _ _ (fun _ _ => .inl (by show i < i + 1; omega))]
            have := World.cell?_setCells_in W.heap.size [Value.int .i64 x] i _ hs1 0 (by simp)
            exact this
          · have hj2 := lt_of_at hz
            have := World.cell?_setCells_in W.heap.size ((ints l).drop i) (i + 1) _ hs2 (j - i) (by rw [List.length_drop, hil]; omega)
            rw [show i + 1 + (j - i) = j + 1 by omega] at this
            rw [this]
            congr 1
            have hh : ((ints l).drop i)[j - i]? = some (.int .i64 z) := by rw [List.getElem?_drop, show i + (j - i) = j by omega]; simp [ints, hz]
            rw [List.getElem?_eq_getElem (by rw [List.length_drop, hil]; omega)] at hh
            injection hh
        · change W.grownBy ((((W.alloc (.cells (((ints l).take i).toArray ++ Builtin.zeroCells (Value.int .i64 0).cells (n + 1 - i) ++ Builtin.zeroCells (Value.int .i64 0).cells (grownCap W (n + 1) c 3 - (n + 1))) 3)).drew.setCells W.heap.size i [.int .i64 x]).drew).setCells W.heap.size (i + 1) ((ints l).drop i)) _
          rw [hC]
          exact grown_more hgr (Nat.le_refl _) _
end Go.Proofs.Ytefikmfogbdhpaa.Po
