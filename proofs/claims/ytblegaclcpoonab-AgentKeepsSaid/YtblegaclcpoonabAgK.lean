/- What agents have done, in plain words: three purses, and what came in, went out, came back, was earned and spent. -/
import Derived.Test.YtblegaclcpoonabGone
import Derived.Laws.Rows
namespace Go.Proofs.Ytblegaclcpoonab.Agent
open Go.ChangeShapes Go.WideShapes Go.ChangeAt Go.RowKit
set_option linter.unusedVariables false

structure Pu where
  t : Int
  o : Int
  g : Bool
def pcs (x : Pu) : List Value := [.int .i64 x.t, .int .i64 x.o, .bool x.g]
def sT : List Pu → Int
  | [] => 0
  | x :: l => x.t + sT l
def sO : List Pu → Int
  | [] => 0
  | x :: l => x.o + sO l
theorem sT_set {l : List Pu} {i : Nat} {x : Pu} (y : Pu) (h : l[i]? = some x) : sT (l.set i y) + x.t = sT l + y.t := by
  induction l generalizing i with
  | nil => simp at h
  | cons z l ih =>
    cases i with
    | zero => simp at h; subst h; simp only [List.set_cons_zero, sT]; omega
    | succ i => simp at h; have := ih h; simp only [List.set_cons_succ, sT]; omega
theorem sO_set {l : List Pu} {i : Nat} {x : Pu} (y : Pu) (h : l[i]? = some x) : sO (l.set i y) + x.o = sO l + y.o := by
  induction l generalizing i with
  | nil => simp at h
  | cons z l ih =>
    cases i with
    | zero => simp at h; subst h; simp only [List.set_cons_zero, sO]; omega
    | succ i => simp at h; have := ih h; simp only [List.set_cons_succ, sO]; omega
theorem sT_in {l : List Pu} (h : ∀ x ∈ l, 0 ≤ x.t ∧ x.t ≤ 1000000000000000) : 0 ≤ sT l ∧ sT l ≤ l.length * 1000000000000000 := by
  induction l with
  | nil => simp [sT]
  | cons z l ih =>
    have a := ih fun x hx => h x (by simp [hx])
    have b := h z (by simp)
    simp only [sT, List.length_cons]
    have : ((l.length + 1 : Nat) : Int) * 1000000000000000 = l.length * 1000000000000000 + 1000000000000000 := by rw [Int.natCast_add, Int.add_mul]; simp
    omega
theorem sO_in {l : List Pu} (h : ∀ x ∈ l, 0 ≤ x.o ∧ x.o ≤ 1000000000000000) : 0 ≤ sO l ∧ sO l ≤ l.length * 1000000000000000 := by
  induction l with
  | nil => simp [sO]
  | cons z l ih =>
    have a := ih fun x hx => h x (by simp [hx])
    have b := h z (by simp)
    simp only [sO, List.length_cons]
    have : ((l.length + 1 : Nat) : Int) * 1000000000000000 = l.length * 1000000000000000 + 1000000000000000 := by rw [Int.natCast_add, Int.add_mul]; simp
    omega
theorem set_self {l : List Pu} {i : Nat} {x : Pu} (h : l[i]? = some x) : l.set i x = l := by
  induction l generalizing i with
  | nil => simp at h
  | cons z l ih =>
    cases i with
    | zero => simp at h; subst h; rfl
    | succ i => simp at h; rw [List.set_cons_succ, ih h]
theorem ch_yes {t o : Int} {g : Bool} {n s c : Int} (h : chE t o g n s c = 0) : chV t o g n s c = s + c ∧ 0 ≤ s + c ∧ s + c ≤ 1000000000000000 ∧ 1 ≤ n ∧ n ≤ 1000000000000000 ∧ g = false ∧ okB t o = true := by
  unfold chE at h
  split at h
  · next hr =>
    obtain ⟨a1, a2, a3, a4, a5, a6, a7⟩ := rdy_0 hr
    unfold addE at h
    split at h
    · cases h
    · split at h
      · cases h
      · unfold chV
        rw [if_pos hr]
        unfold addV
        rw [if_neg (by omega), if_neg (by omega)]
        exact ⟨rfl, by omega, by omega, a5, a6, a7, okB_mk ⟨a1, a2, a3, a4⟩⟩
  · next hr => exact absurd h hr
theorem ch_no {t o : Int} {g : Bool} {n s c : Int} (h : chE t o g n s c ≠ 0) : chV t o g n s c = s := by
  unfold chE at h
  unfold chV
  split
  · next hr =>
    rw [if_pos hr] at h
    unfold addE at h
    unfold addV
    split
    · rfl
    · next h1 =>
      rw [if_neg h1] at h
      split
      · rfl
      · next h2 => rw [if_neg h2] at h; exact absurd rfl h
  · rfl
/-- what holds after so many operations -/
structure IV (k : Nat) (L : List Pu) (a b c d e : Int) : Prop where
  len : L.length = 3
  ok : ∀ x ∈ L, okB x.t x.o = true ∧ (x.g = true → x.t = 0)
  s1 : a = b + c + sT L
  s2 : d = e + sO L
  nb : 0 ≤ b
  nc : 0 ≤ c
  ne : 0 ≤ e
  ka : a ≤ k * 1000000000000000
  kd : d ≤ k * 1000000000000000
section
variable {k : Nat} {L : List Pu} {a b c d e : Int} {i : Nat} {x : Pu}
theorem IV.tin (h : IV k L a b c d e) : 0 ≤ sT L ∧ sT L ≤ 3000000000000000 := by
  have := sT_in fun x hx => (show 0 ≤ x.t ∧ x.t ≤ 1000000000000000 from by have := okB_in (h.ok x hx).1; omega)
  rw [h.len] at this
  omega
theorem IV.oin (h : IV k L a b c d e) : 0 ≤ sO L ∧ sO L ≤ 3000000000000000 := by
  have := sO_in fun x hx => (show 0 ≤ x.o ∧ x.o ≤ 1000000000000000 from by have := okB_in (h.ok x hx).1; omega)
  rw [h.len] at this
  omega
theorem IV.mono (h : IV k L a b c d e) : IV (k + 1) L a b c d e :=
  ⟨h.len, h.ok, h.s1, h.s2, h.nb, h.nc, h.ne, by have := h.ka; rw [Int.natCast_add, Int.add_mul]; simp; omega, by have := h.kd; rw [Int.natCast_add, Int.add_mul]; simp; omega⟩
theorem set_ok (h : ∀ x ∈ L, okB x.t x.o = true ∧ (x.g = true → x.t = 0)) {y : Pu} (hy : okB y.t y.o = true ∧ (y.g = true → y.t = 0)) : ∀ x ∈ L.set i y, okB x.t x.o = true ∧ (x.g = true → x.t = 0) := fun z hz => by
  rcases List.mem_or_eq_of_mem_set hz with hz | rfl
  · exact h z hz
  · exact hy
/-- one purse and the sums change -/
theorem IV.upd (h : IV k L a b c d e) (hx : L[i]? = some x) {y : Pu} {a' b' c' d' e' : Int} (hy : okB y.t y.o = true ∧ (y.g = true → y.t = 0)) (h1 : a' - a = (b' - b) + (c' - c) + (y.t - x.t)) (h2 : d' - d = (e' - e) + (y.o - x.o))
    (hb : b ≤ b') (hc : c ≤ c') (he : e ≤ e') (ha : a' ≤ a + 1000000000000000) (hd : d' ≤ d + 1000000000000000) : IV (k + 1) (L.set i y) a' b' c' d' e' := by
  have t1 := sT_set y hx
  have t2 := sO_set y hx
  have q1 := h.s1
  have q2 := h.s2
  have q3 := h.nb
  have q4 := h.nc
  have q5 := h.ne
  have q6 := h.ka
  have q7 := h.kd
  refine ⟨by rw [List.length_set]; exact h.len, set_ok h.ok hy, by omega, by omega, by omega, by omega, by omega, ?_, ?_⟩ <;> (rw [Int.natCast_add, Int.add_mul]; simp; omega)
theorem IV.at_ (h : IV k L a b c d e) (hx : L[i]? = some x) : 0 ≤ x.t ∧ x.t ≤ 1000000000000000 ∧ 0 ≤ x.o ∧ x.o ≤ 1000000000000000 ∧ okB x.t x.o = true ∧ (x.g = true → x.t = 0) := by
  obtain ⟨h1, h2⟩ := h.ok x (List.mem_of_getElem? hx)
  have := okB_in h1
  exact ⟨by omega, by omega, by omega, by omega, h1, h2⟩
theorem IV.in_ (h : IV k L a b c d e) (hk : k ≤ 60) : (0 ≤ a ∧ a ≤ 60000000000000000) ∧ (0 ≤ b ∧ b ≤ 60000000000000000) ∧ (0 ≤ c ∧ c ≤ 60000000000000000) ∧ (0 ≤ d ∧ d ≤ 60000000000000000) ∧ (0 ≤ e ∧ e ≤ 60000000000000000) := by
  have t := h.tin
  have o := h.oin
  have q1 := h.s1
  have q2 := h.s2
  have q3 := h.nb
  have q4 := h.nc
  have q5 := h.ne
  have q6 := h.ka
  have q7 := h.kd
  have : (k : Int) * 1000000000000000 ≤ 60 * 1000000000000000 := Int.mul_le_mul_of_nonneg_right (by omega) (by decide)
  omega
/-- an operation on what an amount changes: one purse's trust -/
theorem IV.take (h : IV k L a b c d e) (hx : L[i]? = some x) {n : Int} (hE : chE x.t x.o x.g n x.t n = 0) : IV (k + 1) (L.set i ⟨chV x.t x.o x.g n x.t n, x.o, x.g⟩) (a + n) b c d e ∧ 1 ≤ n ∧ n ≤ 1000000000000000 := by
  obtain ⟨h1, h2, h3, h4, h5, h6, h7⟩ := ch_yes hE
  obtain ⟨y1, y2, y3, y4, y5, y6⟩ := h.at_ hx
  exact ⟨h.upd hx ⟨okB_mk (by dsimp only; omega), fun c => by dsimp only at c; rw [h6] at c; cases c⟩ (by dsimp only; omega) (by dsimp only; omega) (by omega) (by omega) (by omega) (by omega) (by omega), h4, h5⟩
theorem IV.pay (h : IV k L a b c d e) (hx : L[i]? = some x) {n : Int} (hE : chE x.t x.o x.g n x.t (-n) = 0) : IV (k + 1) (L.set i ⟨chV x.t x.o x.g n x.t (-n), x.o, x.g⟩) a (b + n) c d e ∧ 1 ≤ n ∧ n ≤ 1000000000000000 := by
  obtain ⟨h1, h2, h3, h4, h5, h6, h7⟩ := ch_yes hE
  obtain ⟨y1, y2, y3, y4, y5, y6⟩ := h.at_ hx
  exact ⟨h.upd hx ⟨okB_mk (by dsimp only; omega), fun c => by dsimp only at c; rw [h6] at c; cases c⟩ (by dsimp only; omega) (by dsimp only; omega) (by omega) (by omega) (by omega) (by omega) (by omega), h4, h5⟩
theorem IV.earn (h : IV k L a b c d e) (hx : L[i]? = some x) {n : Int} (hE : chE x.t x.o x.g n x.o n = 0) : IV (k + 1) (L.set i ⟨x.t, chV x.t x.o x.g n x.o n, x.g⟩) a b c (d + n) e ∧ 1 ≤ n ∧ n ≤ 1000000000000000 := by
  obtain ⟨h1, h2, h3, h4, h5, h6, h7⟩ := ch_yes hE
  obtain ⟨y1, y2, y3, y4, y5, y6⟩ := h.at_ hx
  exact ⟨h.upd hx ⟨okB_mk (by dsimp only; omega), y6⟩ (by dsimp only; omega) (by dsimp only; omega) (by omega) (by omega) (by omega) (by omega) (by omega), h4, h5⟩
theorem IV.spend (h : IV k L a b c d e) (hx : L[i]? = some x) {n : Int} (hE : chE x.t x.o x.g n x.o (-n) = 0) : IV (k + 1) (L.set i ⟨x.t, chV x.t x.o x.g n x.o (-n), x.g⟩) a b c d (e + n) ∧ 1 ≤ n ∧ n ≤ 1000000000000000 := by
  obtain ⟨h1, h2, h3, h4, h5, h6, h7⟩ := ch_yes hE
  obtain ⟨y1, y2, y3, y4, y5, y6⟩ := h.at_ hx
  exact ⟨h.upd hx ⟨okB_mk (by dsimp only; omega), y6⟩ (by dsimp only; omega) (by dsimp only; omega) (by omega) (by omega) (by omega) (by omega) (by omega), h4, h5⟩
theorem IV.brk (h : IV k L a b c d e) (hx : L[i]? = some x) : IV (k + 1) (L.set i ⟨brT x.t x.o x.g, x.o, brG x.t x.o x.g⟩) a b (c + brN x.t x.o x.g) d e ∧ 0 ≤ brN x.t x.o x.g ∧ brN x.t x.o x.g ≤ 1000000000000000 := by
  obtain ⟨y1, y2, y3, y4, y5, y6⟩ := h.at_ hx
  unfold brT brG brN
  by_cases hE : brE x.t x.o x.g = 0
  · rw [if_pos hE, if_pos hE, if_pos hE]
    exact ⟨h.upd hx ⟨okB_mk (by dsimp only; omega), fun _ => rfl⟩ (by dsimp only; omega) (by dsimp only; omega) (by omega) (by omega) (by omega) (by omega) (by omega), y1, y2⟩
  · rw [if_neg hE, if_neg hE, if_neg hE]
    exact ⟨h.upd hx ⟨y5, y6⟩ (by dsimp only; omega) (by dsimp only; omega) (by omega) (by omega) (by omega) (by omega) (by omega), by omega, by omega⟩
theorem ps_no {t o : Int} {g : Bool} {t' o' : Int} {g' : Bool} {n : Int} (h : psE t o g t' o' g' n ≠ 0) : psV t o g t' o' g' n = t ∧ psW t o g t' o' g' n = t' := by
  unfold psV psW
  rw [if_neg h, if_neg h]
  exact ⟨rfl, rfl⟩
theorem ps_yes {t o : Int} {g : Bool} {t' o' : Int} {g' : Bool} {n : Int} (h : psE t o g t' o' g' n = 0) : psV t o g t' o' g' n = t - n ∧ psW t o g t' o' g' n = t' + n ∧ 0 ≤ t - n ∧ t' + n ≤ 1000000000000000 ∧ 1 ≤ n ∧ n ≤ 1000000000000000 ∧ g = false ∧ g' = false := by
  have h0 := h
  unfold psE at h0
  split at h0
  · next h1 =>
    obtain ⟨a1, a2, a3, a4, a5, a6, a7⟩ := ch_yes h1
    obtain ⟨b1, b2, b3, b4, b5, b6, b7⟩ := ch_yes h0
    unfold psV psW
    rw [if_pos h, if_pos h]
    exact ⟨by omega, by omega, by omega, by omega, a4, a5, a6, b6⟩
  · next h1 => exact absurd h0 h1
theorem IV.pass (h : IV k L a b c d e) {j : Nat} {y : Pu} (hij : i ≠ j) (hx : L[i]? = some x) (hy : L[j]? = some y) (n : Int) :
    IV (k + 1) ((L.set j ⟨psW x.t x.o x.g y.t y.o y.g n, y.o, y.g⟩).set i ⟨psV x.t x.o x.g y.t y.o y.g n, x.o, x.g⟩) a b c d e := by
  obtain ⟨x1, x2, x3, x4, x5, x6⟩ := h.at_ hx
  obtain ⟨y1, y2, y3, y4, y5, y6⟩ := h.at_ hy
  have hx' : ∀ z, (L.set j z)[i]? = some x := fun z => by rw [List.getElem?_set_ne (Ne.symm hij)]; exact hx
  have q1 := h.s1
  have q2 := h.s2
  have q6 := h.ka
  have q7 := h.kd
  by_cases hE : psE x.t x.o x.g y.t y.o y.g n = 0
  · obtain ⟨a1, a2, a3, a4, a5, a6, a7, a8⟩ := ps_yes hE
    rw [a1, a2]
    have t1 := sT_set ⟨y.t + n, y.o, y.g⟩ hy
    have t2 := sO_set ⟨y.t + n, y.o, y.g⟩ hy
    have t3 := sT_set ⟨x.t - n, x.o, x.g⟩ (hx' ⟨y.t + n, y.o, y.g⟩)
    have t4 := sO_set ⟨x.t - n, x.o, x.g⟩ (hx' ⟨y.t + n, y.o, y.g⟩)
    dsimp only at t1 t2 t3 t4
    refine ⟨by rw [List.length_set, List.length_set]; exact h.len, set_ok (set_ok h.ok ⟨okB_mk (by dsimp only; omega), fun c => by dsimp only at c; rw [a8] at c; cases c⟩) ⟨okB_mk (by dsimp only; omega), fun c => by dsimp only at c; rw [a7] at c; cases c⟩, by omega, by omega, h.nb, h.nc, h.ne, ?_, ?_⟩ <;> (rw [Int.natCast_add, Int.add_mul]; simp; omega)
  · obtain ⟨a1, a2⟩ := ps_no hE
    rw [a1, a2]
    have e1 : L.set j ⟨y.t, y.o, y.g⟩ = L := set_self hy
    have e2 : L.set i ⟨x.t, x.o, x.g⟩ = L := set_self hx
    rw [e1, e2]
    exact h.mono
theorem IV.same (h : IV k L a b c d e) (hx : L[i]? = some x) : IV (k + 1) (L.set i x) a b c d e := by
  obtain ⟨y1, y2, y3, y4, y5, y6⟩ := h.at_ hx
  exact h.upd hx ⟨y5, y6⟩ (by omega) (by omega) (by omega) (by omega) (by omega) (by omega) (by omega)
end
theorem pcs_len (l : List Pu) : (l.flatMap pcs).length = l.length * 3 := by
  induction l with
  | nil => rfl
  | cons x l ih => rw [List.flatMap_cons, List.length_append, ih, List.length_cons]; simp [pcs]; omega
theorem pcs_at {l : List Pu} {i : Nat} {x : Pu} (h : l[i]? = some x) {j : Nat} (hj : j < 3) : (l.flatMap pcs)[i * 3 + j]? = (pcs x)[j]? := by
  induction l generalizing i with
  | nil => simp at h
  | cons z l ih =>
    cases i with
    | zero => simp at h; subst h; rw [List.flatMap_cons, Nat.zero_mul, Nat.zero_add, List.getElem?_append_left (by simp [pcs]; omega)]
    | succ i =>
      simp at h
      rw [List.flatMap_cons, List.getElem?_append_right (by simp [pcs]; omega), ← ih h]
      congr 1
      simp [pcs]; omega
theorem pcs_set {l : List Pu} {i : Nat} {x : Pu} (y : Pu) (h : l[i]? = some x) : (((l.flatMap pcs).set (i * 3) (.int .i64 y.t)).set (i * 3 + 1) (.int .i64 y.o)).set (i * 3 + 2) (.bool y.g) = (l.set i y).flatMap pcs := by
  induction l generalizing i with
  | nil => simp at h
  | cons z l ih =>
    cases i with
    | zero => simp at h; subst h; simp [pcs]
    | succ i =>
      simp at h
      rw [List.set_cons_succ, List.flatMap_cons, List.flatMap_cons, ← ih h, List.set_append_right _ _ (by simp [pcs]; omega), List.set_append_right _ _ (by simp [pcs]; omega), List.set_append_right _ _ (by simp [pcs]; omega)]
      congr 2
      · congr 1
        · congr 1
          simp [pcs]; omega
        · simp [pcs]; omega
      · simp [pcs]; omega
end Go.Proofs.Ytblegaclcpoonab.Agent
