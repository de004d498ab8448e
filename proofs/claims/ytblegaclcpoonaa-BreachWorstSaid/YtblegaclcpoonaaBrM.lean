/- Worst, in plain words: it is the greatest of the list and of 'nothing wrong', in one order. And breaches as cells. -/
import Derived.Test.YtblegaclcpoonaaApp
namespace Go.Proofs.Ytblegaclcpoonaa.Br
open Go.RowKit
set_option linter.unusedVariables false

def le (a b : Int × Int) : Prop := a.1 < b.1 ∨ (a.1 = b.1 ∧ b.2 ≤ a.2)
theorem le_refl (a : Int × Int) : le a a := .inr ⟨rfl, Int.le_refl _⟩
theorem le_trans {a b c : Int × Int} (h : le a b) (k : le b c) : le a c := by unfold le at *; omega
theorem le_anti {a b : Int × Int} (h : le a b) (k : le b a) : a = b := by
  unfold le at *
  exact Prod.ext (by omega) (by omega)
theorem le_max (m x : Int × Int) : le m (maxB m x) ∧ le x (maxB m x) := by
  unfold maxB
  by_cases h : 0 < cmpB x.1 x.2 m.1 m.2
  · rw [if_pos h]
    unfold cmpB at h
    unfold le
    split at h <;> omega
  · rw [if_neg h]
    unfold cmpB at h
    unfold le
    split at h <;> omega
theorem max_or (m x : Int × Int) : maxB m x = m ∨ maxB m x = x := by
  unfold maxB
  split
  · exact .inr rfl
  · exact .inl rfl
theorem fold_is (l : List (Int × Int)) (m : Int × Int) : (l.foldl maxB m = m ∨ l.foldl maxB m ∈ l) ∧ le m (l.foldl maxB m) ∧ ∀ y ∈ l, le y (l.foldl maxB m) := by
  induction l generalizing m with
  | nil => exact ⟨.inl rfl, le_refl m, fun y hy => absurd hy (by simp)⟩
  | cons x l ih =>
    rw [List.foldl_cons]
    obtain ⟨h1, h2, h3⟩ := ih (maxB m x)
    obtain ⟨k1, k2⟩ := le_max m x
    refine ⟨?_, le_trans k1 h2, fun y hy => ?_⟩
    · rcases h1 with h1 | h1
      · rw [h1]
        rcases max_or m x with e | e
        · exact .inl e
        · exact .inr (by rw [e]; simp)
      · exact .inr (List.mem_cons_of_mem _ h1)
    · rcases List.mem_cons.1 hy with rfl | hy
      · exact le_trans k2 h2
      · exact h3 y hy

/-- m is the greatest of the list and of nothing wrong -/
def IsW (l : List (Int × Int)) (m : Int × Int) : Prop := (m = (0, 0) ∨ m ∈ l) ∧ le (0, 0) m ∧ ∀ y ∈ l, le y m
theorem zero_le {y : Int × Int} (h : okP y = true) : le (0, 0) y := by
  have := okB_in h
  unfold le
  omega
theorem IsW.uniq {l : List (Int × Int)} {m m' : Int × Int} (h : IsW l m) (h' : IsW l m') : m = m' := by
  apply le_anti
  · rcases h.1 with e | e
    · rw [e]; exact h'.2.1
    · exact h'.2.2 _ e
  · rcases h'.1 with e | e
    · rw [e]; exact h.2.1
    · exact h.2.2 _ e
theorem wrs_is {l : List (Int × Int)} (h : l.all okP = true) : IsW l (wrs l) := by
  cases l with
  | nil => exact ⟨.inl rfl, le_refl _, fun y hy => absurd hy (by simp)⟩
  | cons x l =>
    have e : wrs (x :: l) = l.foldl maxB x := by
      unfold wrs
      rw [if_neg (by rw [h]; simp)]
      rfl
    rw [e]
    obtain ⟨h1, h2, h3⟩ := fold_is l x
    have hx := List.all_eq_true.1 h x (by simp)
    refine ⟨.inr ?_, le_trans (zero_le hx) h2, fun y hy => ?_⟩
    · rcases h1 with e | e
      · rw [e]; simp
      · exact List.mem_cons_of_mem _ e
    · rcases List.mem_cons.1 hy with rfl | hy
      · exact h2
      · exact h3 y hy
theorem ok_of_is {l : List (Int × Int)} {m : Int × Int} (hl : l.all okP = true) (h : IsW l m) : okP m = true := by
  rcases h.1 with e | e
  · rw [e]; rfl
  · exact List.all_eq_true.1 hl _ e
theorem wrs_both {l more : List (Int × Int)} (h : (more ++ l).all okP = true) : wrs (more ++ l) = wrs [wrs l, wrs more] := by
  have h2 := h
  rw [List.all_append, Bool.and_eq_true] at h2
  have i1 := wrs_is h2.2
  have i2 := wrs_is h2.1
  have o1 := ok_of_is h2.2 i1
  have o2 := ok_of_is h2.1 i2
  have i3 := wrs_is (l := [wrs l, wrs more]) (by simp [o1, o2])
  refine (wrs_is h).uniq ⟨?_, i3.2.1, fun y hy => ?_⟩
  · rcases i3.1 with e | e
    · exact .inl e
    · rcases List.mem_cons.1 e with e | e
      · rw [e]
        rcases i1.1 with f | f
        · exact .inl f
        · exact .inr (List.mem_append_right _ f)
      · rw [List.mem_singleton.1 e]
        rcases i2.1 with f | f
        · exact .inl f
        · exact .inr (List.mem_append_left _ f)
  · rcases List.mem_append.1 hy with hy | hy
    · exact le_trans (i2.2.2 y hy) (i3.2.2 _ (by simp))
    · exact le_trans (i1.2.2 y hy) (i3.2.2 _ (by simp))

/-- breaches as cells -/
def bls (l : List (Int × Int)) : List Value := l.flatMap fun p => [.int .i64 p.1, .int .i64 p.2]
theorem bls_length (l : List (Int × Int)) : (bls l).length = l.length * 2 := by
  induction l with
  | nil => rfl
  | cons p l ih => simp only [bls, List.flatMap_cons, List.length_append, List.length_cons, List.length_nil] at *; omega
theorem bls_append (a b : List (Int × Int)) : bls (a ++ b) = bls a ++ bls b := by simp [bls]
theorem bls_at {l : List (Int × Int)} {j : Nat} {p : Int × Int} (h : l[j]? = some p) : (bls l)[j * 2]? = some (.int .i64 p.1) ∧ (bls l)[j * 2 + 1]? = some (.int .i64 p.2) := by
  induction l generalizing j with
  | nil => simp at h
  | cons q l ih =>
    cases j with
    | zero => simp at h; subst h; simp [bls]
    | succ j =>
      have := ih (j := j) (by simpa using h)
      have e1 : (j + 1) * 2 = j * 2 + 1 + 1 := by omega
      rw [e1]
      simpa [bls] using this
theorem bls_cells {l : List (Int × Int)} {b off : Nat} {w : World} (hc : ∀ j p, l[j]? = some p → At2 w b (off + j * 2) p) :
    ∀ j u, (bls l)[j]? = some u → w.cell? ⟨b, off + j, none⟩ = some u := by
  intro j u hu
  have hj : j < (bls l).length := (List.getElem?_eq_some_iff.1 hu).1
  rw [bls_length] at hj
  obtain ⟨p, hp⟩ := at_ l (j / 2) (by omega)
  obtain ⟨h1, h2⟩ := bls_at hp
  obtain ⟨c1, c2⟩ := hc _ p hp
  rcases Nat.mod_two_eq_zero_or_one j with hm | hm
  · have e : j / 2 * 2 = j := by omega
    rw [e] at h1 c1
    rw [hu] at h1
    rw [c1, ← Option.some.inj h1]
  · have e : j / 2 * 2 + 1 = j := by omega
    rw [e] at h2
    rw [Nat.add_assoc, e] at c2
    rw [hu] at h2
    rw [c2, ← Option.some.inj h2]
theorem Brs.reads {w : World} {A : Option Addr} {l : List (Int × Int)} (h : Brs w A l) : App.Reads w w.heap.size 2 A l.length (bls l) :=
  ⟨bls_length l, fun h0 => by
    obtain ⟨b, off, e, hc⟩ := h h0
    obtain ⟨p, hp⟩ := at_ l 0 h0
    have hb : b < w.heap.size := World.block_lt_of_cell? w ⟨b, off + 0 * 2, none⟩ (hc 0 p hp).1
    exact ⟨⟨b, off, none⟩, e, hb, fun j u hu => by rw [Addr.add_lit]; exact bls_cells hc j u hu⟩⟩
theorem brs_of_reads {w : World} {B : Nat} {A : Option Addr} {l : List (Int × Int)} {n : Nat} (hn : l.length = n) (h : App.Reads w B 2 A n (bls l)) : Brs w A l := fun h0 => by
  obtain ⟨ad, e, hb, hc⟩ := h.2 (by omega)
  obtain ⟨p, hp⟩ := at_ l 0 h0
  obtain ⟨b, off, spot⟩ := ad
  have hs : spot = none := by simpa [Addr.add] using World.cell?_spot (hc 0 _ (bls_at hp).1)
  subst hs
  refine ⟨b, off, e, fun j q hq => ?_⟩
  obtain ⟨h1, h2⟩ := bls_at hq
  have c1 := hc _ _ h1
  have c2 := hc _ _ h2
  rw [Addr.add_lit] at c1 c2
  exact ⟨c1, by rw [Nat.add_assoc]; exact c2⟩
theorem bls_one (l : List (Int × Int)) : ∀ u ∈ bls l, u.oneCell' = true := by
  intro u hu
  simp only [bls, List.mem_flatMap, List.mem_cons, List.not_mem_nil, or_false] at hu
  obtain ⟨p, _, rfl | rfl⟩ := hu <;> rfl
end Go.Proofs.Ytblegaclcpoonaa.Br
