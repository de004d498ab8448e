/- Trades, and leaves of seats, in plain words. -/
import Derived.Test.YtpekedhcnijgcaaBookM
namespace Go.Proofs.Ytpekedhcnijgcaa.Book
open Go.ChangeShapes Go.WideShapes Go.ChangeAt Go.RowKit Go.Proofs.Ytpekedhcnijgcaa.Cell
set_option linter.unusedVariables false

/-- a trade: kind, from, to, units, made, due, done, back -/
structure Tr where
  k : Int
  f : Int
  t : Int
  u : Int
  m : Int
  d : Int
  o : Int
  b : Int
def tcs (x : Tr) : List Value := [.int .i64 x.k, .int .i64 x.f, .int .i64 x.t, .int .i64 x.u, .int .i64 x.m, .int .i64 x.d, .int .i64 x.o, .int .i64 x.b]
structure At8 (w : World) (b o : Nat) (x : Tr) : Prop where
  c0 : w.cell? ⟨b, o, none⟩ = some (.int .i64 x.k)
  c1 : w.cell? ⟨b, o + 1, none⟩ = some (.int .i64 x.f)
  c2 : w.cell? ⟨b, o + 2, none⟩ = some (.int .i64 x.t)
  c3 : w.cell? ⟨b, o + 3, none⟩ = some (.int .i64 x.u)
  c4 : w.cell? ⟨b, o + 4, none⟩ = some (.int .i64 x.m)
  c5 : w.cell? ⟨b, o + 5, none⟩ = some (.int .i64 x.d)
  c6 : w.cell? ⟨b, o + 6, none⟩ = some (.int .i64 x.o)
  c7 : w.cell? ⟨b, o + 7, none⟩ = some (.int .i64 x.b)
theorem At8.keep {w w1 : World} {b o : Nat} {x : Tr} (h : At8 w b o x) (hb : Below w.heap.size w w1) : At8 w1 b o x :=
  ⟨keep0 hb _ _ _ h.c0, keep0 hb _ _ _ h.c1, keep0 hb _ _ _ h.c2, keep0 hb _ _ _ h.c3, keep0 hb _ _ _ h.c4, keep0 hb _ _ _ h.c5, keep0 hb _ _ _ h.c6, keep0 hb _ _ _ h.c7⟩
def Trs (w : World) (A : Option Addr) (l : List Tr) : Prop := 0 < l.length → ∃ b off, A = some ⟨b, off, none⟩ ∧ ∀ j x, l[j]? = some x → At8 w b (off + j * 8) x
theorem Trs.keep {w w1 : World} {A : Option Addr} {l : List Tr} (h : Trs w A l) (hb : Below w.heap.size w w1) : Trs w1 A l := fun h0 => by
  obtain ⟨b, off, e, hc⟩ := h h0
  exact ⟨b, off, e, fun j v hv => (hc j v hv).keep hb⟩
theorem Trs.nil {w : World} {A : Option Addr} : Trs w A [] := fun h => absurd h (by simp)
/-- the memory of a slice of bools -/
def Boos (w : World) (A : Option Addr) (bs : List Bool) : Prop := 0 < bs.length → ∃ b off, A = some ⟨b, off, none⟩ ∧ ∀ j z, bs[j]? = some z → w.cell? ⟨b, off + j, none⟩ = some (.bool z)
theorem Boos.keep {w w1 : World} {A : Option Addr} {bs : List Bool} (h : Boos w A bs) (hb : Below w.heap.size w w1) : Boos w1 A bs := fun h0 => by
  obtain ⟨b, off, e, hc⟩ := h h0
  exact ⟨b, off, e, fun j z hz => keep0 hb _ _ _ (hc j z hz)⟩
theorem Boos.row {w : World} {g t : Nat} {bs : List Bool} (h : Row w g t (bcs bs)) : Boos w (some ⟨g, 0, none⟩) bs := fun _ => ⟨g, 0, rfl, fun j z hz => by rw [Nat.zero_add]; exact h.booAt hz⟩

def dyB (x : Int) : Bool := decide (0 ≤ x ∧ x ≤ 200000)
/-- whether a seat is a leaf, out of the list of all -/
def lfB (bs : List Bool) (i : Int) : Bool := decide (0 ≤ i ∧ i < bs.length) && bs.getD i.toNat false
/-- a trade that is right but for its seats -/
def okD (x : Tr) : Bool := decide (x.f ≠ x.t ∧ 1 ≤ x.u ∧ x.u ≤ 1000000000 ∧ (0 ≤ x.m ∧ x.m ≤ 200000) ∧ (0 ≤ x.d ∧ x.d ≤ 200000) ∧ x.m ≤ x.d ∧ (x.o = -1 ∨ ((0 ≤ x.o ∧ x.o ≤ 200000) ∧ x.d ≤ x.o)) ∧
  ((x.k = 0 ∧ x.b = 0) ∨ (x.k = 1 ∧ (0 ≤ x.b ∧ x.b ≤ 200000) ∧ x.d < x.b)))
def okB (bs : List Bool) (x : Tr) : Bool := lfB bs x.f && lfB bs x.t && okD x
def okT (ss : List (Int × Int)) (x : Tr) : Bool := lf ss x.f && lf ss x.t && okD x
/-- the leaves, as far as the first k seats tell -/
def lvs (ss : List (Int × Int)) (n k : Nat) : List Bool := (List.range n).map fun (i : Nat) => !anyP (ss.take k) (i : Int)
theorem lvs_length (ss : List (Int × Int)) (n k : Nat) : (lvs ss n k).length = n := by simp [lvs]
theorem lvs_0 (ss : List (Int × Int)) (n : Nat) : lvs ss n 0 = List.replicate n true := by
  unfold lvs
  apply List.ext_getElem
  · simp
  · intro i h1 h2
    simp [anyP]
theorem lvs_at (ss : List (Int × Int)) {n i : Nat} (k : Nat) (h : i < n) : (lvs ss n k)[i]? = some (!anyP (ss.take k) (i : Int)) := by
  unfold lvs
  rw [List.getElem?_map, List.getElem?_range h]
  rfl
theorem lvs_pos {ss : List (Int × Int)} {n k q : Nat} {s : Int × Int} (hs : ss[k]? = some s) (h : s.1 = (q : Int)) (hq : q < n) : (lvs ss n k).set q false = lvs ss n (k + 1) := by
  apply List.ext_getElem?
  intro i
  by_cases hi : i < n
  · rw [lvs_at ss _ hi, take_snoc hs, any_snoc, h]
    by_cases e : q = i
    · subst e
      rw [List.getElem?_set_self (by rw [lvs_length]; exact hq)]; simp
    · rw [List.getElem?_set_ne e, lvs_at ss _ hi]
      have : ((q : Int) == (i : Int)) = false := by rw [beq_eq_false_iff_ne]; omega
      rw [this, Bool.or_false]
  · rw [List.getElem?_eq_none (by rw [List.length_set, lvs_length]; omega), List.getElem?_eq_none (by rw [lvs_length]; omega)]
theorem lvs_neg {ss : List (Int × Int)} {n k : Nat} {s : Int × Int} (hs : ss[k]? = some s) (h : s.1 < 0) : lvs ss n (k + 1) = lvs ss n k := by
  unfold lvs
  apply List.map_congr_left
  intro i _
  rw [take_snoc hs, any_snoc]
  have : (s.1 == (i : Int)) = false := by rw [beq_eq_false_iff_ne]; omega
  rw [this, Bool.or_false]
theorem lfB_lvs {ss : List (Int × Int)} (i : Int) : lfB (lvs ss ss.length ss.length) i = lf ss i := by
  unfold lfB lf
  rw [lvs_length]
  by_cases h : 0 ≤ i ∧ i < ss.length
  · rw [decide_eq_true h, Bool.true_and, Bool.true_and]
    obtain ⟨c, rfl⟩ := Int.eq_ofNat_of_zero_le h.1
    rw [Int.toNat_natCast, List.getD_eq_getElem?_getD]
    unfold lvs
    rw [List.getElem?_map, List.getElem?_range (by omega)]
    simp [anyP]
  · rw [decide_eq_false h]; rfl
theorem okB_lvs {ss : List (Int × Int)} (x : Tr) : okB (lvs ss ss.length ss.length) x = okT ss x := by
  unfold okB okT
  rw [lfB_lvs, lfB_lvs]
/-- trades that are right for seats -/
def rtT (ss : List (Int × Int)) (l : List Tr) : Bool := rg ss && decide (l.length ≤ 10000) && l.all (okT ss)
theorem okT_in {ss : List (Int × Int)} {x : Tr} (h : okT ss x = true) : lf ss x.f = true ∧ lf ss x.t = true ∧ okD x = true := by
  unfold okT at h
  simp only [Bool.and_eq_true] at h
  exact ⟨h.1.1, h.1.2, h.2⟩
theorem rtT_in {ss : List (Int × Int)} {l : List Tr} (h : rtT ss l = true) : rg ss = true ∧ l.length ≤ 10000 ∧ ∀ x ∈ l, okT ss x = true := by
  unfold rtT at h
  simp only [Bool.and_eq_true, decide_eq_true_eq] at h
  exact ⟨h.1.1, h.1.2, fun x hx => List.all_eq_true.1 h.2 x hx⟩
end Go.Proofs.Ytpekedhcnijgcaa.Book
