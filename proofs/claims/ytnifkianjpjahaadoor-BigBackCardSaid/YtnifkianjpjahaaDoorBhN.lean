/- Big integers: sizes, and what fits. -/
import Derived.Test.YtnifkianjpjahaaDoorBhM
namespace Go.Proofs.YtnifkianjpjahaaDoor.Bg
open Go.ChangeShapes Go.WideShapes Go.ChangeAt Go.RowKit Go.Proofs.YtnifkianjpjahaaDoor.Cell
set_option linter.unusedVariables false
set_option linter.unusedSimpArgs false

/-- less than the base to the power k, without its sign -/
def Sz (k : Nat) (z : Int) : Prop := -(pw k) < z ∧ z < pw k
theorem Sz.abs {k : Nat} {z : Int} : Sz k z ↔ (z.natAbs : Int) < pw k := by unfold Sz; omega
theorem Sz.mono {j k : Nat} {z : Int} (h : Sz j z) (hjk : j ≤ k) : Sz k z := by
  have := pw_le hjk
  unfold Sz at *
  omega
theorem Sz.neg {k : Nat} {z : Int} (h : Sz k z) : Sz k (-z) := by
  unfold Sz at *
  omega
theorem Sz.add {j n : Nat} {x y : Int} (h : Sz j x) (h' : Sz j y) (hj : j < n) : Sz n (x + y) := by
  have h1 := pw_le (show j + 1 ≤ n by omega)
  have h2 := pw_pos j
  rw [pw_succ] at h1
  unfold Sz at *
  omega
theorem Sz.sub {j n : Nat} {x y : Int} (h : Sz j x) (h' : Sz j y) (hj : j < n) : Sz n (x - y) := by
  have := h.add h'.neg hj
  rwa [← Int.sub_eq_add_neg] at this
theorem Sz.mul {j k : Nat} {x y : Int} (h : Sz j x) (h' : Sz k y) : Sz (j + k) (x * y) := by
  rw [Sz.abs] at *
  rw [pw_add, abs_mul' x y]
  have p := pw_pos j
  have q := pw_pos k
  have m := Int.mul_le_mul (show (x.natAbs : Int) ≤ pw j - 1 by omega) (show (y.natAbs : Int) ≤ pw k - 1 by omega) (by omega) (by omega)
  rw [Int.sub_mul, Int.mul_sub, Int.mul_one, Int.one_mul] at m
  omega
theorem Sz.fit {k : Nat} {z : Int} (h : Sz k z) (hk : k ≤ 60 := by decide) : Fit z := h.mono hk
theorem IsBig.sz {W : World} {s : Int} {A : Option Addr} {n c k : Nat} {z : Int} (h : IsBig W (bigV s A n c) z) (hn : n ≤ k) : Sz k z := by
  obtain ⟨A', c', l, e, _, h2, _⟩ := h.ex
  simp only [bigV, Value.agg.injEq, Array.mk.injEq, List.cons.injEq, Value.slice.injEq] at e
  rw [Sz.abs, ← h2.len k]
  omega
theorem IsBig.few {W : World} {s : Int} {A : Option Addr} {n c k : Nat} {z : Int} (h : IsBig W (bigV s A n c) z) (hs : Sz k z) : n ≤ k := by
  obtain ⟨A', c', l, e, _, h2, _⟩ := h.ex
  simp only [bigV, Value.agg.injEq, Array.mk.injEq, List.cons.injEq, Value.slice.injEq] at e
  have := (h2.len k).2 (Sz.abs.1 hs)
  omega
theorem IsBig.sgn {W : World} {s : Int} {A : Option Addr} {n c : Nat} {z : Int} (h : IsBig W (bigV s A n c) z) : s = sg z := by
  obtain ⟨A', c', l, e, _⟩ := h.ex
  simp only [bigV, Value.agg.injEq, Array.mk.injEq, List.cons.injEq, Value.int.injEq] at e
  exact e.1.2
theorem add_fit {x y : Int} {va vb : Value} (w : World) (hx : IsBig w va x) (hy : IsBig w vb y) (hf : Fit (x + y)) :
    Calls Tryd.prog 12 #[va, vb] w fun e w' => ∃ v, e = .returned (.tuple #[v, .int .i64 0]) ∧ IsBig w' v (x + y) ∧ Below w.heap.size w w' :=
  (add_val w hx hy).mono fun e w' ⟨v, h1, h2, h3⟩ => ⟨v, by rw [h1, fe_yes hf], by rw [fz_yes hf] at h2; exact h2, h3⟩
theorem sub_fit {x y : Int} {va vb : Value} (w : World) (hx : IsBig w va x) (hy : IsBig w vb y) (hf : Fit (x - y)) :
    Calls Tryd.prog 15 #[va, vb] w fun e w' => ∃ v, e = .returned (.tuple #[v, .int .i64 0]) ∧ IsBig w' v (x - y) ∧ Below w.heap.size w w' :=
  (sub_val w hx hy).mono fun e w' ⟨v, h1, h2, h3⟩ => ⟨v, by rw [h1, fe_yes hf], by rw [fz_yes hf] at h2; exact h2, h3⟩
/-- whether a big integer is right: the one answer or the other -/
theorem rgt_yes {s : Int} {A : Option Addr} {l : List Int} {n c : Nat} (w : World) (hn : l.length = n) (hc : Ints w A l) (h : rgtB s l = true) (hbig : n ≤ 9223372036854775807) :
    Calls Tryd.prog 11 #[bigV s A n c] w fun e w' => e = .returned (.bool true) ∧ Below w.heap.size w w' :=
  (right_any s A n c l w hn hc hbig).mono fun e w' ⟨h1, h2⟩ => ⟨by rw [h1, h], h2⟩
theorem rgt_no {s : Int} {A : Option Addr} {l : List Int} {n c : Nat} (w : World) (hn : l.length = n) (hc : Ints w A l) (h : rgtB s l = false) (hbig : n ≤ 9223372036854775807) :
    Calls Tryd.prog 11 #[bigV s A n c] w fun e w' => e = .returned (.bool false) ∧ Below w.heap.size w w' :=
  (right_any s A n c l w hn hc hbig).mono fun e w' ⟨h1, h2⟩ => ⟨by rw [h1, h], h2⟩
theorem few_yes {s : Int} {A : Option Addr} {n c : Nat} {m : Int} (w : World) (hbig : n ≤ 9223372036854775807) (h : (n : Int) ≤ m) :
    Calls Tryd.prog 10 #[bigV s A n c, .int .i64 m] w fun e w' => e = .returned (.bool true) ∧ Below w.heap.size w w' :=
  (few_any s A n c m w hbig).mono fun e w' ⟨h1, h2⟩ => ⟨by rw [h1, decide_eq_true h], h2⟩
theorem few_no {s : Int} {A : Option Addr} {n c : Nat} {m : Int} (w : World) (hbig : n ≤ 9223372036854775807) (h : ¬ (n : Int) ≤ m) :
    Calls Tryd.prog 10 #[bigV s A n c, .int .i64 m] w fun e w' => e = .returned (.bool false) ∧ Below w.heap.size w w' :=
  (few_any s A n c m w hbig).mono fun e w' ⟨h1, h2⟩ => ⟨by rw [h1, decide_eq_false h], h2⟩
theorem same_to {x y : Int} {va vb : Value} (w : World) (hx : IsBig w va x) (hy : IsBig w vb y) (h : x = y) :
    Calls Tryd.prog 18 #[va, vb] w fun e w' => e = .returned (.bool true) ∧ Below w.heap.size w w' := by
  subst h
  exact same_yes w hx hy
theorem rsame_to {x y : Int} {va vb : Value} (w : World) (hx : IsBig w va x) (hy : IsBig w vb y) (h : x = y) :
    Calls Tryd.prog 13 #[va, vb] w fun e w' => e = .returned (.bool true) ∧ Below w.heap.size w w' := by
  subst h
  exact rsame_yes w hx hy
theorem cmp_to {x y k : Int} {va vb : Value} (w : World) (hx : IsBig w va x) (hy : IsBig w vb y) (h : cmpI x y = k) :
    Calls Tryd.prog 17 #[va, vb] w fun e w' => e = .returned (.int .i64 k) ∧ Below w.heap.size w w' := by
  subst h
  exact compare_val w hx hy
/-- an argument, not yet known to be right -/
structure Arg (w : World) (v : Value) (n : Nat) (s : Int) (l : List Int) : Prop where
  ex : ∃ A c, v = bigV s A n c ∧ l.length = n ∧ Ints w A l ∧ n ≤ 9223372036854775807
theorem Arg.keep {w w1 : World} {v : Value} {n : Nat} {s : Int} {l : List Int} (h : Arg w v n s l) (hb : Below w.heap.size w w1) : Arg w1 v n s l := by
  obtain ⟨A, c, e, h1, h2, h3⟩ := h.ex
  exact ⟨A, c, e, h1, h2.keep hb, h3⟩
theorem Arg.few {w : World} {v : Value} {n : Nat} {s m : Int} {l : List Int} (W : World) (h : Arg w v n s l) (b : Bool) (hb : decide ((n : Int) ≤ m) = b) :
    Calls Tryd.prog 10 #[v, .int .i64 m] W fun e w' => e = .returned (.bool b) ∧ Below W.heap.size W w' := by
  obtain ⟨A, c, rfl, h1, h2, h3⟩ := h.ex
  rw [← hb]
  exact few_any s A n c m W h3
theorem Arg.right {w : World} {v : Value} {n : Nat} {s : Int} {l : List Int} (h : Arg w v n s l) (b : Bool) (hb : rgtB s l = b) :
    Calls Tryd.prog 11 #[v] w fun e w' => e = .returned (.bool b) ∧ Below w.heap.size w w' := by
  obtain ⟨A, c, rfl, h1, h2, h3⟩ := h.ex
  rw [← hb]
  exact right_any s A n c l w h1 h2 h3
theorem Arg.big {w : World} {v : Value} {n : Nat} {s : Int} {l : List Int} (h : Arg w v n s l) (hb : rgtB s l = true) : ∃ z, IsBig w v z ∧ s = sg z ∧ ∀ k, n ≤ k → Sz k z := by
  obtain ⟨A, c, rfl, h1, h2, h3⟩ := h.ex
  obtain ⟨z, hz⟩ := right_big (c := c) h1 hb h2
  exact ⟨z, hz, hz.sgn, fun k hk => hz.sz hk⟩
end Go.Proofs.YtnifkianjpjahaaDoor.Bg
