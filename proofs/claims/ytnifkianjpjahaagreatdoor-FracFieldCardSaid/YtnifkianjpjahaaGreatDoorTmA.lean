/- Texts of one kind joined: big integers over typed memory, first part. -/
import Derived.Test.YtnifkianjpjahaaGreatDoorBase
import Derived.Laws.BitsLemmas
import Derived.BigQuiet
import Derived.WalkSpells
import Derived.Deep.QuietTactic
import Derived.Lib.SliceRun
/- Integers as lists of digits of 20 bits, the lowest one first: plain facts. -/
namespace Go.Proofs.YtnifkianjpjahaaGreatDoor.Bg
open Go.RowKit Go.Proofs.YtnifkianjpjahaaGreatDoor.Cell
set_option linter.unusedVariables false
set_option linter.unusedSimpArgs false

/-- what digits say -/
def val : List Int → Int
  | [] => 0
  | d :: t => d + 1048576 * val t
/-- each is a digit -/
def Dg (l : List Int) : Prop := ∀ d ∈ l, 0 ≤ d ∧ d < 1048576
/-- the last one is not 0 -/
def Tr (l : List Int) : Prop := l.getLast? ≠ some 0
/-- so many digits -/
def pw (n : Nat) : Int := 1048576 ^ n
theorem pw_zero : pw 0 = 1 := rfl
theorem pw_succ (n : Nat) : pw (n + 1) = pw n * 1048576 := Int.pow_succ _ _
theorem pw_pos (n : Nat) : 1 ≤ pw n := by
  induction n with
  | zero => rw [pw_zero]; omega
  | succ n ih => rw [pw_succ]; omega
theorem pw_add (m n : Nat) : pw (m + n) = pw m * pw n := Int.pow_add _ _ _
theorem pw_le {m n : Nat} (h : m ≤ n) : pw m ≤ pw n := by
  obtain ⟨k, rfl⟩ : ∃ k, n = m + k := ⟨n - m, by omega⟩
  clear h
  induction k with
  | zero => exact Int.le_refl _
  | succ k ih =>
    have := pw_pos (m + k)
    rw [← Nat.add_assoc, pw_succ]
    omega
theorem last_snoc {l : List Int} (h : l ≠ []) : ∃ t d, l = t ++ [d] := ⟨l.dropLast, l.getLast h, (List.dropLast_concat_getLast h).symm⟩
theorem pw_lt {m n : Nat} (h : m < n) : pw m < pw n := by
  have h1 := pw_le (show m + 1 ≤ n by omega)
  have h2 := pw_pos m
  rw [pw_succ] at h1
  omega
theorem val_nil : val [] = 0 := rfl
theorem val_cons (d : Int) (t : List Int) : val (d :: t) = d + 1048576 * val t := rfl
theorem Dg.tail {d : Int} {t : List Int} (h : Dg (d :: t)) : Dg t := fun x hx => h x (List.mem_cons_of_mem _ hx)
theorem Dg.head {d : Int} {t : List Int} (h : Dg (d :: t)) : 0 ≤ d ∧ d < 1048576 := h d (List.mem_cons_self ..)
theorem Dg.nil : Dg [] := fun x hx => by simp at hx
theorem Dg.snoc {l : List Int} {d : Int} (h : Dg l) (hd : 0 ≤ d ∧ d < 1048576) : Dg (l ++ [d]) := fun x hx => by
  rcases List.mem_append.1 hx with hx | hx
  · exact h x hx
  · obtain rfl := List.mem_singleton.1 hx
    exact hd
theorem Dg.take {l : List Int} (h : Dg l) (k : Nat) : Dg (l.take k) := fun x hx => h x (List.mem_of_mem_take hx)
theorem Dg.drop {l : List Int} (h : Dg l) (k : Nat) : Dg (l.drop k) := fun x hx => h x (List.mem_of_mem_drop hx)
theorem Dg.at_ {l : List Int} (h : Dg l) {k : Nat} {d : Int} (hd : l[k]? = some d) : 0 ≤ d ∧ d < 1048576 := h d (mem_of_at hd)
theorem Dg.append {a b : List Int} (ha : Dg a) (hb : Dg b) : Dg (a ++ b) := fun x hx => by
  rcases List.mem_append.1 hx with hx | hx
  · exact ha x hx
  · exact hb x hx
theorem val_nonneg {l : List Int} (h : Dg l) : 0 ≤ val l := by
  induction l with
  | nil => rw [val_nil]; omega
  | cons d t ih =>
    have := ih h.tail
    have := h.head
    rw [val_cons]
    omega
theorem val_lt {l : List Int} (h : Dg l) : val l < pw l.length := by
  induction l with
  | nil => rw [val_nil, List.length_nil, pw_zero]; omega
  | cons d t ih =>
    have := ih h.tail
    have := h.head
    rw [val_cons, List.length_cons, pw_succ]
    omega
theorem val_append (a b : List Int) : val (a ++ b) = val a + pw a.length * val b := by
  induction a with
  | nil => rw [List.nil_append, val_nil, List.length_nil, pw_zero]; omega
  | cons d t ih =>
    rw [List.cons_append, val_cons, val_cons, ih, List.length_cons, pw_succ, Int.mul_add, Int.add_assoc]
    congr 1
    rw [Int.mul_comm (pw t.length) 1048576, Int.mul_assoc]
theorem val_snoc (a : List Int) (d : Int) : val (a ++ [d]) = val a + pw a.length * d := by
  rw [val_append, val_cons, val_nil]
  simp
theorem val_take_succ {l : List Int} {k : Nat} {d : Int} (h : l[k]? = some d) : val (l.take (k + 1)) = val (l.take k) + pw k * d := by
  have hl := lt_of_at h
  rw [take_snoc h, val_snoc, List.length_take, Nat.min_eq_left (by omega)]
theorem val_set {l : List Int} {k : Nat} {d x : Int} (h : l[k]? = some d) : val (l.set k x) = val l + pw k * (x - d) := by
  induction l generalizing k with
  | nil => simp at h
  | cons y t ih =>
    cases k with
    | zero =>
      have : y = d := by simpa using h
      subst this
      rw [List.set_cons_zero, val_cons, val_cons, pw_zero]
      omega
    | succ k =>
      rw [List.set_cons_succ, val_cons, val_cons, ih (by simpa using h), pw_succ, Int.mul_add, Int.mul_comm (pw k) 1048576, Int.mul_assoc]
      omega
theorem val_split (l : List Int) (k : Nat) (hk : k ≤ l.length) : val l = val (l.take k) + pw k * val (l.drop k) := by
  have := val_append (l.take k) (l.drop k)
  rw [List.take_append_drop, List.length_take, Nat.min_eq_left hk] at this
  exact this
theorem Tr.nil : Tr [] := by simp [Tr]
theorem Tr.snoc {l : List Int} {d : Int} (h : d ≠ 0) : Tr (l ++ [d]) := by simp [Tr, h]
/-- digits that are trimmed say much -/
theorem val_ge {l : List Int} (h : Dg l) (ht : Tr l) (h0 : l ≠ []) : pw (l.length - 1) ≤ val l := by
  obtain ⟨t, d, rfl⟩ : ∃ t d, l = t ++ [d] := last_snoc h0
  have h1 : Dg t := fun x hx => h x (List.mem_append.2 (.inl hx))
  have h2 := h d (by simp)
  have h3 : d ≠ 0 := by simpa [Tr] using ht
  rw [val_snoc, List.length_append, List.length_singleton, Nat.add_sub_cancel]
  have h4 := val_nonneg h1
  have h5 := pw_pos t.length
  have h6 : pw t.length * 1 ≤ pw t.length * d := Int.mul_le_mul_of_nonneg_left (by omega) (by omega)
  omega
theorem tr_of_ge {l : List Int} (h : Dg l) (hv : pw (l.length - 1) ≤ val l) : Tr l := by
  intro e
  by_cases h0 : l = []
  · subst h0; simp at e
  obtain ⟨t, d, rfl⟩ : ∃ t d, l = t ++ [d] := last_snoc h0
  have : d = 0 := by simpa using e
  subst this
  have h1 : Dg t := fun x hx => h x (List.mem_append.2 (.inl hx))
  rw [val_snoc, List.length_append, List.length_singleton, Nat.add_sub_cancel] at hv
  have := val_lt h1
  simp at hv
  omega
theorem val_zero {l : List Int} (h : Dg l) (ht : Tr l) : val l = 0 ↔ l = [] := by
  constructor
  · intro h0
    by_cases e : l = []
    · exact e
    · have := val_ge h ht e
      have := pw_pos (l.length - 1)
      omega
  · rintro rfl; rfl
theorem dg_inj : ∀ {a b : List Int}, Dg a → Dg b → a.length = b.length → val a = val b → a = b
  | [], [], _, _, _, _ => rfl
  | [], _ :: _, _, _, h, _ => by simp at h
  | _ :: _, [], _, _, h, _ => by simp at h
  | x :: s, y :: t, ha, hb, hl, hv => by
    rw [val_cons, val_cons] at hv
    have h1 := ha.head
    have h2 := hb.head
    have e1 : x = y := by omega
    subst e1
    have e2 : val s = val t := by omega
    rw [dg_inj ha.tail hb.tail (by simpa using hl) e2]
theorem dg_uniq {a b : List Int} (ha : Dg a) (hb : Dg b) (ta : Tr a) (tb : Tr b) (h : val a = val b) : a = b := by
  refine dg_inj ha hb ?_ h
  by_cases ea : a = []
  · subst ea
    rw [((val_zero hb tb).1 (by rw [← h]; rfl))]
  by_cases eb : b = []
  · subst eb
    rw [((val_zero ha ta).1 (by rw [h]; rfl))]
  have l1 : 0 < a.length := List.length_pos_iff.2 ea
  have l2 : 0 < b.length := List.length_pos_iff.2 eb
  have a1 := val_ge ha ta ea
  have a2 := val_lt ha
  have b1 := val_ge hb tb eb
  have b2 := val_lt hb
  rcases Nat.lt_trichotomy a.length b.length with c | c | c
  · have := pw_le (show a.length ≤ b.length - 1 by omega)
    omega
  · exact c
  · have := pw_le (show b.length ≤ a.length - 1 by omega)
    omega
/-- fewer digits, a lesser number -/
theorem val_len_lt {a b : List Int} (ha : Dg a) (hb : Dg b) (tb : Tr b) (h : a.length < b.length) : val a < val b := by
  have h1 := val_lt ha
  have h2 := val_ge hb tb (by intro e; subst e; simp at h)
  have := pw_le (show a.length ≤ b.length - 1 by omega)
  omega
/-- the digits of a number -/
def Nm (l : List Int) (z : Int) : Prop := Dg l ∧ Tr l ∧ val l = z
theorem Nm.uniq {a b : List Int} {z : Int} (ha : Nm a z) (hb : Nm b z) : a = b := dg_uniq ha.1 hb.1 ha.2.1 hb.2.1 (ha.2.2.trans hb.2.2.symm)
theorem Nm.zero : Nm [] 0 := ⟨Dg.nil, Tr.nil, rfl⟩
theorem Nm.nonneg {l : List Int} {z : Int} (h : Nm l z) : 0 ≤ z := by rw [← h.2.2]; exact val_nonneg h.1
theorem Nm.nil {l : List Int} {z : Int} (h : Nm l z) : l = [] ↔ z = 0 := by rw [← h.2.2]; exact (val_zero h.1 h.2.1).symm
/-- how many digits a number has -/
theorem Nm.len {l : List Int} {z : Int} (h : Nm l z) (n : Nat) : l.length ≤ n ↔ z < pw n := by
  constructor
  · intro hl
    have := val_lt h.1
    have := pw_le hl
    rw [← h.2.2]
    omega
  · intro hz
    by_cases e : l = []
    · subst e; simp
    have h1 := val_ge h.1 h.2.1 e
    rw [h.2.2] at h1
    by_cases hc : l.length ≤ n
    · exact hc
    · have := pw_le (show n ≤ l.length - 1 by omega)
      omega
/-- trimming: what remains of zeros at the end -/
theorem val_take_zero {l : List Int} {k : Nat} (h : l[k]? = some 0) (hk : l.length = k + 1) : val (l.take k) = val l := by
  have := val_take_succ h
  rw [List.take_of_length_le (by omega)] at this
  omega
theorem tr_take {l : List Int} {k : Nat} {d : Int} (h : l[k]? = some d) (hd : d ≠ 0) : Tr (l.take (k + 1)) := by
  rw [take_snoc h]
  exact Tr.snoc hd
theorem dgt_pow (k : Nat) : (pw k).natAbs = 1048576 ^ k := by
  unfold pw
  rw [Int.natAbs_pow]
  rfl
/-- digits exist -/
theorem Nm.ex (z : Nat) : ∃ l, Nm l z := by
  induction z using Nat.strongRecOn with
  | _ z ih =>
    by_cases h0 : z = 0
    · subst h0; exact ⟨[], Nm.zero⟩
    · obtain ⟨t, ht⟩ := ih (z / 1048576) (by omega)
      refine ⟨((z % 1048576 : Nat) : Int) :: t, fun d hd => ?_, ?_, ?_⟩
      · rcases List.mem_cons.1 hd with rfl | hd
        · omega
        · exact ht.1 d hd
      · by_cases e : t = []
        · subst e
          have := ht.nil.1 rfl
          simp [Tr]
          omega
        · unfold Tr
          rw [List.getLast?_cons]
          have := ht.2.1
          unfold Tr at this
          cases hq : t.getLast? with
          | none => simp at hq; exact absurd hq e
          | some q =>
            rw [hq] at this
            simpa using this
      · rw [val_cons, ht.2.2]
        omega
/-- bits of numbers -/
theorem and_mask (n : Int) (h : -9223372036854775808 ≤ n ∧ n ≤ 9223372036854775807) : bits .and .i64 n 1048575 = n % 1048576 := by
  have e : (1048575 : Int) = ((1048575 : Nat) : Int) := rfl
  obtain ⟨m, hm⟩ : ∃ m : Nat, (BitVec.ofInt 64 n).toNat = m := ⟨_, rfl⟩
  have hm2 : (m : Int) = n % 18446744073709551616 := by
    rw [← hm, BitVec.toNat_ofInt]
    omega
  have h3 : m &&& 1048575 = m % 1048576 := Nat.and_two_pow_sub_one_eq_mod m 20
  have h4 : bits .and .i64 n 1048575 = IntKind.i64.wrap ((m &&& 1048575 : Nat) : Int) := by
    rw [e]
    simp only [bits, IntKind.bits, BitVec.ofInt_natCast]
    congr 2
    exact (BitVec.toNat_and (BitVec.ofInt 64 n) (1048575#64)).trans (by rw [hm]; rfl)
  rw [h4, h3, IntWalk.i64_in _ (by omega)]
  omega
theorem or_join (x y : Int) (hx : 0 ≤ x ∧ x < 8796093022208) (hy : 0 ≤ y ∧ y < 1048576) : bits .or .i64 (x * 1048576) y = x * 1048576 + y :=
  bits_join .i64 63 (by decide) (fun n h0 h1 => IntWalk.i64_in n (by omega)) 20 (x * 1048576) y (by omega) (by omega) (by omega) hy.1 hy.2 (by omega)
end Go.Proofs.YtnifkianjpjahaaGreatDoor.Bg
/- Big integers: when they are right; trimming; comparing. -/
namespace Go.Proofs.YtnifkianjpjahaaGreatDoor.Bg
open Go.ChangeShapes Go.WideShapes Go.ChangeAt Go.RowKit Go.Proofs.YtnifkianjpjahaaGreatDoor.Cell
set_option linter.unusedVariables false
set_option linter.unusedSimpArgs false
/-- memory of ints, or memory older than N -/
def Ty (N : Nat) (w : World) (A : Option Addr) : Prop := ∀ b o s, A = some ⟨b, o, s⟩ → b < N ∨ ∃ cs fr, w.heap[b]? = some (.cells cs 3 fr)
theorem Ty.none (N : Nat) (w : World) : Ty N w none := fun b o s e => by cases e
theorem Ty.keep {N : Nat} {w w1 : World} {A : Option Addr} (h : Ty N w A) (ha : ∀ b o s, A = some ⟨b, o, s⟩ → b < w.heap.size) (hb : Below w.heap.size w w1) : Ty N w1 A := fun b o s e => by
  rcases h b o s e with h1 | ⟨cs, fr, h1⟩
  · exact .inl h1
  · exact .inr ⟨cs, fr, (hb.block b (ha b o s e)).trans h1⟩
/-- ints in memory, in such memory -/
structure Ints (N : Nat) (w : World) (A : Option Addr) (zs : List Int) : Prop where
  cells : Cell.Ints w A zs
  ty : 0 < zs.length → Ty N w A
instance {N : Nat} {w : World} {A : Option Addr} {zs : List Int} : CoeFun (Ints N w A zs) (fun _ => 0 < zs.length → ∃ b off, A = some ⟨b, off, none⟩ ∧ ∀ j z, zs[j]? = some z → w.cell? ⟨b, off + j, none⟩ = some (.int .i64 z)) := ⟨fun h => h.cells⟩
theorem Ints.nil (N : Nat) (w : World) (A : Option Addr) : Ints N w A [] := ⟨fun h => by simp at h, fun h => by simp at h⟩
theorem cells_lt {w : World} {A : Option Addr} {zs : List Int} (h : Cell.Ints w A zs) (h0 : 0 < zs.length) : ∀ b o s, A = some ⟨b, o, s⟩ → b < w.heap.size := fun b o s e => by
  obtain ⟨b', off, e', hc⟩ := h h0
  rw [e] at e'
  cases e'
  obtain ⟨z, hz⟩ := Cell.at_ zs 0 h0
  exact World.block_lt_of_cell? w ⟨b, o + 0, none⟩ (hc 0 z hz)
theorem Ints.keep {N : Nat} {w w1 : World} {A : Option Addr} {zs : List Int} (h : Ints N w A zs) (hb : Below w.heap.size w w1) : Ints N w1 A zs :=
  ⟨h.cells.keep hb, fun h0 => (h.ty h0).keep (cells_lt h.cells h0) hb⟩
theorem Ints.old {N : Nat} {w : World} {A : Option Addr} {zs : List Int} (h : Cell.Ints w A zs) (hN : w.heap.size ≤ N) : Ints N w A zs :=
  ⟨h, fun h0 b o s e => .inl (Nat.lt_of_lt_of_le (cells_lt h h0 b o s e) hN)⟩
theorem _root_.Go.Proofs.YtnifkianjpjahaaGreatDoor.Cell.Row.ints' {N0 : Nat} {w : World} {g : Nat} {zs : List Int} (h : Row w g 3 (ics zs)) : Ints N0 w (some ⟨g, 0, none⟩) zs :=
  ⟨Row.ints h, fun _ b o s e => by cases e; exact .inr ⟨_, _, h⟩⟩
variable {N0 : Nat}

def lenOf : Value → Nat
  | .slice _ n _ => n
  | _ => 0
instance decTr (l : List Int) : Decidable (Tr l) := inferInstanceAs (Decidable (l.getLast? ≠ some 0))
/-- whether sign and digits fit -/
def isDg (d : Int) : Bool := decide (0 ≤ d ∧ d ≤ 1048575)
def rgtB (s : Int) (l : List Int) : Bool := decide ((-1 ≤ s ∧ s ≤ 1) ∧ l.length ≤ 60 ∧ (l.length = 0 ↔ s = 0)) && (l.all isDg && decide (l.getLast? ≠ some 0))
theorem rgtB_in {s : Int} {l : List Int} (h : rgtB s l = true) : (-1 ≤ s ∧ s ≤ 1) ∧ l.length ≤ 60 ∧ (l.length = 0 ↔ s = 0) ∧ Dg l ∧ Tr l := by
  unfold rgtB at h
  rw [Bool.and_eq_true, Bool.and_eq_true] at h
  obtain ⟨h1, h2, h3⟩ := h
  obtain ⟨a, b, c⟩ := of_decide_eq_true h1
  exact ⟨a, b, c, fun d hd => by have := of_decide_eq_true (List.all_eq_true.1 h2 d hd); omega, of_decide_eq_true h3⟩
theorem rgtB_yes {s : Int} {l : List Int} (h1 : -1 ≤ s ∧ s ≤ 1) (h2 : l.length ≤ 60) (h3 : l.length = 0 ↔ s = 0) (h4 : Dg l) (h5 : Tr l) : rgtB s l = true := by
  unfold rgtB
  rw [Bool.and_eq_true, Bool.and_eq_true]
  exact ⟨decide_eq_true ⟨h1, h2, h3⟩, List.all_eq_true.2 fun d hd => decide_eq_true (by have := h4 d hd; omega), decide_eq_true (show l.getLast? ≠ some 0 from h5)⟩
theorem rgtB_hd {s : Int} {l : List Int} (h : ¬ ((-1 ≤ s ∧ s ≤ 1) ∧ l.length ≤ 60 ∧ (l.length = 0 ↔ s = 0))) : rgtB s l = false := by
  unfold rgtB
  rw [decide_eq_false h, Bool.false_and]
theorem rgtB_dg {s d : Int} {l : List Int} (h : d ∈ l) (hd : isDg d = false) : rgtB s l = false := by
  have : l.all isDg = false := by rw [List.all_eq_false]; exact ⟨d, h, by rw [hd]; simp⟩
  unfold rgtB
  rw [this, Bool.false_and, Bool.and_false]
set_option maxRecDepth 100000 in
set_option maxHeartbeats 4000000 in
theorem right_head (s : Int) (A : Option Addr) (n c : Nat) (w : World) (hbig : n ≤ 9223372036854775807) (h : ¬ ((-1 ≤ s ∧ s ≤ 1) ∧ n ≤ 60 ∧ (n = 0 ↔ s = 0))) :
    Calls Tryz.prog 26 #[.agg #[.int .i64 s, .slice A n c]] w fun e w' => e = .returned (.bool false) ∧ Below w.heap.size w w' := by
  have hB : Below w.heap.size w (w.alloc (.cells #[.int .i64 s, .slice A n c] 24)) := Gen.b_alloc (Below.refl _ _)
  by_cases h1 : s < -1
  · clear h
    go_enter Tryz.func26, Tryz.ntmps26
    go_wp2
    go_ret
    exact ⟨rfl, hB⟩
  · by_cases h2 : 1 < s
    · clear h
      go_enter Tryz.func26, Tryz.ntmps26
      go_wp2
      go_ret
      exact ⟨rfl, hB⟩
    · by_cases h3 : 60 < n
      · clear h
        have h3I : (60 : Int) < (n : Int) := by omega
        go_enter Tryz.func26, Tryz.ntmps26
        go_wp2
        go_ret
        exact ⟨rfl, hB⟩
      · have h3I : ¬ ((60 : Int) < (n : Int)) := by omega
        by_cases h4 : n = 0
        · have h4b : ((n : Int) == 0) = true := by simp [h4]
          have h5b : (s == 0) = false := by simp; omega
          clear h h4
          go_enter Tryz.func26, Tryz.ntmps26
          go_wp2
          go_ret
          exact ⟨rfl, hB⟩
        · have h4b : ((n : Int) == 0) = false := by simp; omega
          have h5b : (s == 0) = true := by simp; omega
          clear h h4
          go_enter Tryz.func26, Tryz.ntmps26
          go_wp2
          go_ret
          exact ⟨rfl, hB⟩
set_option maxRecDepth 100000 in
set_option maxHeartbeats 4000000 in
theorem right_any (s : Int) (A : Option Addr) (n c : Nat) (l : List Int) (w : World) (hn : l.length = n) (hc : Ints N0 w A l) (hbig : n ≤ 9223372036854775807) :
    Calls Tryz.prog 26 #[.agg #[.int .i64 s, .slice A n c]] w fun e w' => e = .returned (.bool (rgtB s l)) ∧ Below w.heap.size w w' := by
  by_cases hh : (-1 ≤ s ∧ s ≤ 1) ∧ n ≤ 60 ∧ (n = 0 ↔ s = 0)
  case neg =>
    rw [rgtB_hd (by rw [hn]; exact hh)]
    exact right_head s A n c w hbig hh
  have HH := Lib.hid hh
  have HN := Lib.hid hn
  have HB0 : Hid (Below w.heap.size w (w.alloc (.cells #[.int .i64 s, .slice A n c] 24))) := Lib.hid (Gen.b_alloc (Below.refl _ _))
  have HR0 : Hid (Row (w.alloc (.cells #[.int .i64 s, .slice A n c] 24)) w.heap.size 24 #[.int .i64 s, .slice A n c]) := Lib.hid (Row.new _ _ _)
  have h1 : ¬ (s < -1) := by omega
  have h2 : ¬ (1 < s) := by omega
  have h3I : ¬ ((60 : Int) < (n : Int)) := by omega
  obtain ⟨z, hz1, hz2⟩ : ∃ z, ((n : Int) == 0) = z ∧ (s == 0) = z := by
    by_cases h4 : n = 0
    · exact ⟨true, by simp [h4], by simp; omega⟩
    · exact ⟨false, by simp; omega, by simp; omega⟩
  have hzz : (z != z) = false := by simp
  have HZ : Hid (z = true ↔ n = 0) := Lib.hid (by rw [← hz1]; simp)
  clear hh hn
  go_enter Tryz.func26, Tryz.ntmps26
  go_wp2
  go_loopw [32] (fun iv wr => ∃ k : Nat, k ≤ n ∧ iv = .int .i64 k ∧ Hid (∀ y ∈ l.take k, isDg y = true) ∧ wr = w.alloc (.cells #[.int .i64 s, .slice A n c] 24)) (fun iv _ => n - (intOf iv).toNat)
  case atStart => exact ⟨0, Nat.zero_le _, rfl, Lib.hid (by simp), rfl⟩
  case round =>
    obtain ⟨k, hk, rfl, HA, rfl⟩ := hrel
    have k0 : (0 : Int) ≤ (k : Int) := by omega
    by_cases hlt : k < n
    · have hltI : (k : Int) < (n : Int) := by omega
      obtain ⟨b, off, rfl, hcell⟩ := (hc.keep HB0.out) (by rw [HN.out]; omega)
      obtain ⟨x, hx⟩ := at_ l k (by rw [HN.out]; exact hlt)
      have c0 := hcell k x hx
      have HX := Lib.hid hx
      clear hcell hx
      by_cases hd0 : x < 0
      · have HF := Lib.hid (rgtB_dg (s := s) (mem_of_at HX.out) (decide_eq_false (by omega)))
        go_wp2
        go_ret
        exact ⟨ret_bool HF.out.symm, HB0.out⟩
      · by_cases hd1 : 1048575 < x
        · have HF := Lib.hid (rgtB_dg (s := s) (mem_of_at HX.out) (decide_eq_false (by omega)))
          go_wp2
          go_ret
          exact ⟨ret_bool HF.out.symm, HB0.out⟩
        · have HF : Hid (∀ y ∈ l.take (k + 1), isDg y = true) := Lib.hid (fun y hy => by
            rw [take_snoc HX.out, List.mem_append] at hy
            rcases hy with hy | hy
            · exact HA.out y hy
            · rw [List.mem_singleton.1 hy]; exact decide_eq_true (by omega))
          go_wp2
          go_roundw
          case rel => exact ⟨k + 1, by omega, by go_num, HF, trivial⟩
          case measure => simp [intOf]; omega
    · obtain rfl : k = n := by omega
      have HD : Hid (Dg l) := Lib.hid fun y hy => by
        have := of_decide_eq_true (HA.out y (by rw [List.take_of_length_le (by rw [HN.out]; exact Nat.le_refl _)]; exact hy))
        omega
      cases z
      · have hk0 : 0 < k := by
          have := HZ.out
          by_cases h : k = 0
          · exact absurd (this.2 h) (by simp)
          · omega
        obtain ⟨p, rfl⟩ : ∃ p, k = p + 1 := ⟨k - 1, by omega⟩
        obtain ⟨b, off, rfl, hcell⟩ := (hc.keep HB0.out) (by rw [HN.out]; omega)
        obtain ⟨x, hx⟩ := at_ l p (by rw [HN.out]; omega)
        have c0 := hcell p x hx
        have e1 : ((p + 1 : Nat) : Int) - 1 = (p : Int) := by omega
        have e2 : (p : Int) < (p : Int) + 1 := by omega
        have e3 : (p : Int) < ((p + 1 : Nat) : Int) := by omega
        have e4 : IntKind.i64.wrap (p : Int) = p := IntWalk.i64_in _ (by omega)
        have p0 : (0 : Int) ≤ (p : Int) := by omega
        have HL : Hid (l.getLast? = some x) := Lib.hid (by rw [List.getLast?_eq_getElem?, HN.out]; exact hx)
        clear hcell hx HA
        by_cases hx0 : x = 0
        · have HF : Hid (rgtB s l = false) := Lib.hid (by
            unfold rgtB
            rw [HL.out, hx0, decide_eq_false (p := some (0 : Int) ≠ some 0) (fun h => h rfl), Bool.and_false, Bool.and_false])
          have hxb : (x != 0) = false := by simp [hx0]
          go_wp2
          go_ret
          exact ⟨ret_bool HF.out.symm, HB0.out⟩
        · have HF : Hid (rgtB s l = true) := Lib.hid (rgtB_yes HH.out.1 (by rw [HN.out]; exact HH.out.2.1) (by rw [HN.out]; exact HH.out.2.2) HD.out (by unfold Tr; rw [HL.out]; simpa using hx0))
          have hxb : (x != 0) = true := by simp [hx0]
          go_wp2
          go_ret
          exact ⟨ret_bool HF.out.symm, HB0.out⟩
      · have hk0 : k = 0 := HZ.out.1 rfl
        have HF : Hid (rgtB s l = true) := Lib.hid (by
          have hl : l = [] := List.eq_nil_of_length_eq_zero (by rw [HN.out]; exact hk0)
          exact rgtB_yes HH.out.1 (by rw [HN.out]; exact HH.out.2.1) (by rw [HN.out]; exact HH.out.2.2) HD.out (by rw [hl]; exact Tr.nil))
        clear hk0 HA
        go_wp2
        go_ret
        exact ⟨ret_bool HF.out.symm, HB0.out⟩
set_option maxRecDepth 100000 in
set_option maxHeartbeats 4000000 in
/-- zeros at the end are left out -/
theorem trim_any (A : Option Addr) (n c : Nat) (l : List Int) (w : World) (hn : l.length = n) (hc : Ints N0 w A l) (hnc : n ≤ c) (hbig : n ≤ 9223372036854775807) :
    Calls Tryz.prog 88 #[.slice A n c] w fun e w' => ∃ k, k ≤ n ∧ e = .returned (.slice A k c) ∧ Tr (l.take k) ∧ val (l.take k) = val l ∧ w' = w := by
  have HN := Lib.hid hn
  have HV : Hid (val (l.take n) = val l) := Lib.hid (by rw [List.take_of_length_le (by omega)])
  clear hn
  go_enter Tryz.func88, Tryz.ntmps88
  go_wp2
  go_loopw [0] (fun v wr => ∃ k : Nat, k ≤ n ∧ v = .slice A k c ∧ Hid (val (l.take k) = val l) ∧ wr = w) (fun v _ => lenOf v)
  case atStart => exact ⟨n, Nat.le_refl _, rfl, HV, rfl⟩
  case round =>
    clear HV
    obtain ⟨k, hk, rfl, HK, rfl⟩ := hrel
    cases k with
    | zero =>
      go_wp2
      go_ret
      exact ⟨0, Nat.zero_le _, rfl, by rw [List.take_zero]; exact Tr.nil, HK.out, rfl⟩
    | succ p =>
      obtain ⟨b, off, rfl, hcell⟩ := hc (by rw [HN.out]; omega)
      obtain ⟨x, hx⟩ := at_ l p (by rw [HN.out]; omega)
      have c0 := hcell p x hx
      have e0 : (0 : Int) < ((p + 1 : Nat) : Int) := by omega
      have e1 : ((p + 1 : Nat) : Int) - 1 = (p : Int) := by omega
      have e2 : (p : Int) < (p : Int) + 1 := by omega
      have e3 : (p : Int) < ((p + 1 : Nat) : Int) := by omega
      have e4 : IntKind.i64.wrap (p : Int) = p := IntWalk.i64_in _ (by omega)
      have e5 : (p : Int) ≤ (c : Int) := by omega
      have p0 : (0 : Int) ≤ (p : Int) := by omega
      have HX := Lib.hid hx
      clear hx hcell
      by_cases hx0 : x = 0
      · have HK2 : Hid (val (l.take p) = val l) := Lib.hid (by
          have := val_take_succ HX.out
          rw [HK.out, hx0] at this
          omega)
        have hxb : (x == 0) = true := by simp [hx0]
        go_wp2
        go_roundw
        case rel => exact ⟨p, by omega, rfl, HK2, trivial⟩
        case measure => simp [lenOf]
      · have hxb : (x == 0) = false := by simp [hx0]
        have HT := Lib.hid (tr_take HX.out hx0)
        go_wp2
        go_ret
        exact ⟨p + 1, hk, rfl, HT.out, HK.out, rfl⟩
def cmpI (x y : Int) : Int := if x < y then -1 else if y < x then 1 else 0
set_option maxRecDepth 100000 in
set_option maxHeartbeats 4000000 in
theorem isNaN_any (x : Int) (w : World) : Calls Tryz.prog 125 #[.int .i64 x] w fun e w' => e = .returned (.bool false) ∧ w' = w := by
  have hx : (x != x) = false := by simp
  go_enter Tryz.func125, Tryz.ntmps125
  go_wp2
  go_ret
  exact ⟨rfl, rfl⟩
set_option maxRecDepth 100000 in
set_option maxHeartbeats 4000000 in
theorem cmp_any (x y : Int) (w : World) : Calls Tryz.prog 109 #[.int .i64 x, .int .i64 y] w fun e w' => e = .returned (.int .i64 (cmpI x y)) ∧ w' = w := by
  by_cases h1 : x < y
  · rw [show cmpI x y = -1 from if_pos h1]
    go_enter Tryz.func109, Tryz.ntmps109
    go_wp2_with (fail)
    go_must (refine (isNaN_any x _).mono ?_)
    rintro e w1 ⟨rfl, rfl⟩
    go_wp2_with (fail)
    go_must (refine (isNaN_any y _).mono ?_)
    rintro e w1 ⟨rfl, rfl⟩
    go_wp2
    go_ret
    exact ⟨rfl, rfl⟩
  · by_cases h2 : y < x
    · rw [show cmpI x y = 1 from (if_neg h1).trans (if_pos h2)]
      go_enter Tryz.func109, Tryz.ntmps109
      go_wp2_with (fail)
      go_must (refine (isNaN_any x _).mono ?_)
      rintro e w1 ⟨rfl, rfl⟩
      go_wp2_with (fail)
      go_must (refine (isNaN_any y _).mono ?_)
      rintro e w1 ⟨rfl, rfl⟩
      go_wp2
      go_ret
      exact ⟨rfl, rfl⟩
    · rw [show cmpI x y = 0 from (if_neg h1).trans (if_neg h2)]
      go_enter Tryz.func109, Tryz.ntmps109
      go_wp2_with (fail)
      go_must (refine (isNaN_any x _).mono ?_)
      rintro e w1 ⟨rfl, rfl⟩
      go_wp2_with (fail)
      go_must (refine (isNaN_any y _).mono ?_)
      rintro e w1 ⟨rfl, rfl⟩
      go_wp2
      go_ret
      exact ⟨rfl, rfl⟩
end Go.Proofs.YtnifkianjpjahaaGreatDoor.Bg
/- Big integers: comparing digits. -/
namespace Go.Proofs.YtnifkianjpjahaaGreatDoor.Bg
open Go.ChangeShapes Go.WideShapes Go.ChangeAt Go.RowKit Go.Proofs.YtnifkianjpjahaaGreatDoor.Cell
set_option linter.unusedVariables false
set_option linter.unusedSimpArgs false
variable {N0 : Nat}

theorem drop_at {l : List Int} {k : Nat} {d : Int} (h : l[k]? = some d) : l.drop k = d :: l.drop (k + 1) := by
  have hl := lt_of_at h
  rw [List.drop_eq_getElem_cons hl]
  congr 1
  have := List.getElem?_eq_getElem hl
  rw [h] at this
  exact (Option.some.inj this).symm
theorem cmp_at {a b : List Int} (ha : Dg a) (hb : Dg b) {k : Nat} {x y : Int} (hx : a[k]? = some x) (hy : b[k]? = some y) (he : a.drop (k + 1) = b.drop (k + 1)) (h : x < y) : val a < val b := by
  have h1 := lt_of_at hx
  have h2 := lt_of_at hy
  rw [val_split a k (by omega), val_split b k (by omega), drop_at hx, drop_at hy, val_cons, val_cons, he]
  have a1 := val_lt (ha.take k)
  have b1 := val_nonneg (hb.take k)
  rw [List.length_take, Nat.min_eq_left (by omega)] at a1
  have e1 : pw k * (x + 1048576 * val (b.drop (k + 1))) = pw k * x + pw k * (1048576 * val (b.drop (k + 1))) := Int.mul_add _ _ _
  have e2 : pw k * (y + 1048576 * val (b.drop (k + 1))) = pw k * y + pw k * (1048576 * val (b.drop (k + 1))) := Int.mul_add _ _ _
  have e3 : pw k * (x + 1) ≤ pw k * y := Int.mul_le_mul_of_nonneg_left (by omega) (by have := pw_pos k; omega)
  rw [Int.mul_add, Int.mul_one] at e3
  omega
theorem cmpI_lt {x y : Int} (h : x < y) : cmpI x y = -1 := if_pos h
theorem cmpI_gt {x y : Int} (h : y < x) : cmpI x y = 1 := (if_neg (by omega)).trans (if_pos h)
theorem cmpI_eq {x y : Int} (h : x = y) : cmpI x y = 0 := (if_neg (by omega)).trans (if_neg (by omega))
def km (k : Nat) : Int := (k : Int) - 1
theorem km_zero : km 0 = -1 := rfl
theorem km_succ (p : Nat) : km (p + 1) = p := by unfold km; omega
theorem wrap_km (k : Nat) (h : k ≤ 9223372036854775807) : IntKind.i64.wrap (km k) = km k := IntWalk.i64_in _ (by unfold km; omega)
set_option maxRecDepth 100000 in
set_option maxHeartbeats 4000000 in
theorem compare_any {A A' : Option Addr} {n n' c c' : Nat} {a b : List Int} (w : World) (hn : a.length = n) (hn' : b.length = n') (ha : Ints N0 w A a) (hb : Ints N0 w A' b) (da : Dg a) (db : Dg b) (ta : Tr a) (tb : Tr b) (hbig : n ≤ 9223372036854775807) (hbig' : n' ≤ 9223372036854775807) :
    Calls Tryz.prog 85 #[.slice A n c, .slice A' n' c'] w fun e w' => e = .returned (.int .i64 (cmpI (val a) (val b))) ∧ ∃ q, w' = w.drewN q := by
  by_cases hl : n = n'
  case neg =>
    have hlb : ((n : Int) != (n' : Int)) = true := by simp; omega
    have HV : Hid (cmpI (n : Int) (n' : Int) = cmpI (val a) (val b)) := Lib.hid (by
      by_cases h : n < n'
      · rw [cmpI_lt (by omega), cmpI_lt (val_len_lt da db tb (by omega))]
      · rw [cmpI_gt (by omega), cmpI_gt (val_len_lt db da ta (by omega))])
    clear hn hn' ha hb
    go_enter Tryz.func85, Tryz.ntmps85
    go_wp2_with (fail)
    go_must (refine (cmp_any (n : Int) (n' : Int) _).mono ?_)
    rintro e w1 ⟨rfl, rfl⟩
    go_wp2
    go_ret
    exact ⟨ret_int HV.out, 0, rfl⟩
  subst hl
  have HN := Lib.hid hn
  have HN' := Lib.hid hn'
  have HD : Hid (a.drop n = b.drop n) := Lib.hid (by rw [List.drop_of_length_le (by omega), List.drop_of_length_le (by omega)])
  have hlb : ((n : Int) != (n : Int)) = false := by simp
  have hkm := wrap_km n hbig
  have hkd : (n : Int) - 1 = km n := rfl
  clear hn hn'
  go_enter Tryz.func85, Tryz.ntmps85
  go_wp2
  clear hkm hkd hlb
  go_loopw [5] (fun v wr => ∃ k : Nat, k ≤ n ∧ v = .int .i64 (km k) ∧ Hid (a.drop k = b.drop k) ∧ ∃ q, wr = w.drewN q) (fun v _ => (intOf v + 1).toNat)
  case atStart => exact ⟨n, Nat.le_refl _, rfl, HD, 0, rfl⟩
  case round =>
    clear HD
    obtain ⟨k, hk, rfl, HE, q, rfl⟩ := hrel
    cases k with
    | zero =>
      rw [km_zero]
      have HV : Hid (cmpI (val a) (val b) = 0) := Lib.hid (cmpI_eq (by have := HE.out; rw [List.drop_zero, List.drop_zero] at this; rw [this]))
      go_wp2
      go_ret
      exact ⟨ret_int HV.out.symm, q, rfl⟩
    | succ p =>
      rw [km_succ]
      obtain ⟨b1, o1, rfl, hc1⟩ := ha (by rw [HN.out]; omega)
      obtain ⟨b2, o2, rfl, hc2⟩ := hb (by rw [HN'.out]; omega)
      obtain ⟨x, hx⟩ := at_ a p (by rw [HN.out]; omega)
      obtain ⟨y, hy⟩ := at_ b p (by rw [HN'.out]; omega)
      have c1 := hc1 p x hx
      have c2 := hc2 p y hy
      have e2 : (p : Int) < (n : Int) := by omega
      have p0 : (0 : Int) ≤ (p : Int) := by omega
      have hw : IntKind.i64.wrap ((p : Int) - 1) = (p : Int) - 1 := IntWalk.i64_in _ (by omega)
      have HX := Lib.hid hx
      have HY := Lib.hid hy
      clear hx hy hc1 hc2 ha hb
      by_cases hxy : x = y
      · have hxb : (x != y) = false := by simp [hxy]
        have HE2 : Hid (a.drop p = b.drop p) := Lib.hid (by rw [drop_at HX.out, drop_at HY.out, HE.out, hxy])
        clear hxy
        go_wp2
        go_quiet (fail)
        go_wp2
        go_roundw
        case rel => exact ⟨p, by omega, rfl, HE2, _, rfl⟩
        case measure => simp [intOf, km]
      · have hxb : (x != y) = true := by simp [hxy]
        have HV : Hid (cmpI x y = cmpI (val a) (val b)) := Lib.hid (by
          by_cases h : x < y
          · rw [cmpI_lt h, cmpI_lt (cmp_at da db HX.out HY.out HE.out h)]
          · rw [cmpI_gt (by omega), cmpI_gt (cmp_at db da HY.out HX.out HE.out.symm (by omega))])
        clear hxy
        go_wp2
        go_quiet (fail)
        generalize hw2 : (w.drewN q).drewN nq = w2
        replace c1 : w2.cell? ⟨b1, o1 + p, none⟩ = some (.int .i64 x) := by rw [← hw2]; exact c1
        replace c2 : w2.cell? ⟨b2, o2 + p, none⟩ = some (.int .i64 y) := by rw [← hw2]; exact c2
        have HW := Lib.hid hw2
        clear hw2
        go_wp2
        go_quiet ((go_at_call 109; refine Calls.quiet_of_same (cmp_any x y _)))
        go_wp2
        go_ret
        exact ⟨ret_int HV.out, _, by rw [← HW.out, World.drewN_drewN, World.drewN_drewN]⟩
end Go.Proofs.YtnifkianjpjahaaGreatDoor.Bg
/- Big integers: sums of digits. -/
namespace Go.Proofs.YtnifkianjpjahaaGreatDoor.Bg
open Go.ChangeShapes Go.WideShapes Go.ChangeAt Go.RowKit Go.Proofs.YtnifkianjpjahaaGreatDoor.Cell
set_option linter.unusedVariables false
set_option linter.unusedSimpArgs false
variable {N0 : Nat}

def ints (l : List Int) : List Value := l.map (Value.int .i64)
theorem infoI : (Tryz.prog.info? 3).map (fun i => (i.zero, i.size, i.bytes)) = some (some (.int .i64 0), 1, 8) := by kernel_rfl
theorem info_parts {o : Option TypeInfo} {z : Value} {a b : Nat} (h : o.map (fun i => (i.zero, i.size, i.bytes)) = some (some z, a, b)) : ∃ i, o = some i ∧ i.zero = some z ∧ i.size = a ∧ i.bytes = b := by
  cases o with
  | none => cases h
  | some i =>
    simp only [Option.map_some, Option.some.injEq, Prod.mk.injEq] at h
    exact ⟨i, rfl, h.1, h.2.1, h.2.2⟩
theorem ints_own0 {W : World} {B n : Nat} {v : Value} {l : List Int} (h : W.ownsRow B 3 1 v n (ints l)) (hn : l.length = n) : ∃ A c, v = .slice A n c ∧ Cell.Ints W A l := by
  obtain ⟨A, c, rfl, hr⟩ := Gen.own_slice h
  refine ⟨A, c, rfl, fun h0 => ?_⟩
  obtain ⟨g, cap, hv, hb, hlt⟩ := h.form (by omega)
  injection hv with e
  subst e
  refine ⟨g, 0, rfl, fun j z hz => ?_⟩
  have hj := lt_of_at hz
  have c0 := h.cellAt j (by rw [Nat.mul_one]; omega)
  rw [Nat.zero_add]
  rw [show (ints l)[j]? = some (.int .i64 z) by simp [ints, hz]] at c0
  exact c0
theorem own_ty {N : Nat} {W : World} {B n m k : Nat} {A : Option Addr} {c : Nat} {xs : List Value} (h : W.ownsRow B 3 m (.slice A k c) n xs) : Ty N W A := fun b o s e => by
  subst e
  rcases h.2 with h0 | ⟨g', cap, cur, h1, h2, h3, _⟩
  · simp at h0
  · injection h1 with e1 _ _
    injection e1 with e1
    cases e1
    exact .inr ⟨_, _, h3⟩
theorem ints_own {W : World} {B n : Nat} {v : Value} {l : List Int} (h : W.ownsRow B 3 1 v n (ints l)) (hn : l.length = n) : ∃ A c, v = .slice A n c ∧ Ints N0 W A l := by
  obtain ⟨A, c, rfl, hi⟩ := ints_own0 h hn
  exact ⟨A, c, rfl, hi, fun _ => own_ty h⟩
/-- a sum, digit by digit -/
structure Sm (a b out : List Int) (k : Nat) (cy : Int) : Prop where
  dg : Dg out
  len : out.length = k
  rng : 0 ≤ cy ∧ cy ≤ 1
  eq : val out + pw k * cy = val (a.take k) + val (b.take k)
theorem Sm.start (a b : List Int) : Sm a b [] 0 0 := ⟨Dg.nil, rfl, by omega, by rw [List.take_zero, List.take_zero, val_nil]; omega⟩
theorem Sm.step {a b out : List Int} {k : Nat} {cy x y : Int} (h : Sm a b out k cy) (da : Dg a) (db : Dg b) (hx : a[k]? = some x) (hy : b[k]? = some y) : Sm a b (out ++ [(x + cy + y) % 1048576]) (k + 1) ((x + cy + y) / 1048576) := by
  have h1 := da.at_ hx
  have h2 := db.at_ hy
  have h3 := h.rng
  refine ⟨h.dg.snoc (by omega), by rw [List.length_append, h.len]; rfl, by omega, ?_⟩
  rw [val_snoc, h.len, val_take_succ hx, val_take_succ hy, pw_succ]
  have e := h.eq
  have h4 : 1048576 * ((x + cy + y) / 1048576) + (x + cy + y) % 1048576 = x + cy + y := by omega
  obtain ⟨q, hq⟩ : ∃ q, (x + cy + y) / 1048576 = q := ⟨_, rfl⟩
  obtain ⟨r, hr⟩ : ∃ r, (x + cy + y) % 1048576 = r := ⟨_, rfl⟩
  rw [hq, hr] at h4
  rw [hq, hr]
  have e1 : pw k * r + pw k * 1048576 * q = pw k * (x + cy + y) := by rw [← h4]; grind
  have e2 : pw k * (x + cy + y) = pw k * x + pw k * cy + pw k * y := by grind
  omega
theorem Sm.step1 {a b out : List Int} {k : Nat} {cy x : Int} (h : Sm a b out k cy) (da : Dg a) (hx : a[k]? = some x) (hb : b.length ≤ k) : Sm a b (out ++ [(x + cy) % 1048576]) (k + 1) ((x + cy) / 1048576) := by
  have h1 := da.at_ hx
  have h3 := h.rng
  refine ⟨h.dg.snoc (by omega), by rw [List.length_append, h.len]; rfl, by omega, ?_⟩
  rw [val_snoc, h.len, val_take_succ hx, pw_succ, List.take_of_length_le (show b.length ≤ k + 1 by omega)]
  have e := h.eq
  rw [List.take_of_length_le hb] at e
  have h4 : 1048576 * ((x + cy) / 1048576) + (x + cy) % 1048576 = x + cy := by omega
  obtain ⟨q, hq⟩ : ∃ q, (x + cy) / 1048576 = q := ⟨_, rfl⟩
  obtain ⟨r, hr⟩ : ∃ r, (x + cy) % 1048576 = r := ⟨_, rfl⟩
  rw [hq, hr] at h4
  rw [hq, hr]
  have e1 : pw k * r + pw k * 1048576 * q = pw k * (x + cy) := by rw [← h4]; grind
  have e2 : pw k * (x + cy) = pw k * x + pw k * cy := by grind
  omega
theorem Sm.done0 {a b out : List Int} (h : Sm a b out a.length 0) (da : Dg a) (db : Dg b) (ta : Tr a) (hl : b.length ≤ a.length) : Nm out (val a + val b) := by
  have e := h.eq
  rw [List.take_length, List.take_of_length_le hl] at e
  have e' : val out = val a + val b := by omega
  refine ⟨h.dg, ?_, e'⟩
  by_cases ha : a = []
  · have : out = [] := List.eq_nil_of_length_eq_zero (by rw [h.len, ha]; rfl)
    rw [this]; exact Tr.nil
  · refine tr_of_ge h.dg ?_
    rw [h.len, e']
    have := val_ge da ta ha
    have := val_nonneg db
    omega
theorem Sm.done1 {a b out : List Int} {cy : Int} (h : Sm a b out a.length cy) (hc : 0 < cy) (da : Dg a) (db : Dg b) (hl : b.length ≤ a.length) : Nm (out ++ [cy]) (val a + val b) := by
  have e := h.eq
  have h3 := h.rng
  rw [List.take_length, List.take_of_length_le hl] at e
  exact ⟨h.dg.snoc (by omega), Tr.snoc (by omega), by rw [val_snoc, h.len]; exact e⟩
set_option maxRecDepth 100000 in
set_option maxHeartbeats 8000000 in
theorem add_ge {A A' : Option Addr} {n n' c c' : Nat} {a b : List Int} (w : World) (hn : a.length = n) (hn' : b.length = n') (ha : Ints N0 w A a) (hb : Ints N0 w A' b) (da : Dg a) (db : Dg b) (ta : Tr a) (hl : n' ≤ n) (hbig : n ≤ 1000) :
    Calls Tryz.prog 76 #[.slice A n c, .slice A' n' c'] w fun e w' => ∃ A2 c2 l, e = .returned (.slice A2 l.length c2) ∧ Ints N0 w' A2 l ∧ Nm l (val a + val b) ∧ Below w.heap.size w w' := by
  have HN := Lib.hid hn
  have HN' := Lib.hid hn'
  have HDA := Lib.hid da
  have HDB := Lib.hid db
  have HTA := Lib.hid ta
  have HLL : Hid (b.length ≤ a.length) := Lib.hid (by omega)
  obtain ⟨iI, hiI, hzI, hyI, hxI⟩ := info_parts infoI
  obtain ⟨wm, hmk, hown, hg⟩ := run_make_own (P := Tryz.prog) w w.heap.size 22 3 iI (.int .i64 0) 1 Tryz.underlying22 hiI hzI hyI .i64 .i64 (n + 1) (by rw [hxI]; omega) (by simp only [maxLen]; omega) (Nat.le_refl _)
  rw [show ((n + 1 : Nat) : Int) = (n : Int) + 1 from by omega] at hmk
  have hc1 : IntKind.i64.wrap ((n : Int) + 1) = (n : Int) + 1 := IntWalk.i64_in _ (by omega)
  have HB0 : Hid (Below w.heap.size w wm) := Lib.hid ((Below.refl _ _).grown hg (Nat.le_refl _) (fun k hk => by cases hk))
  have HO0 : Hid (wm.ownsRow w.heap.size 3 1 (.slice (some ⟨w.heap.size, 0, none⟩) 0 (n + 1)) 0 (ints [])) := Lib.hid hown
  have hlI : ¬ ((n : Int) < (n' : Int)) := by omega
  clear hn hn' hown hg da db ta
  go_enter Tryz.func76, Tryz.ntmps76
  go_wp2
  clear hmk hc1
  go_loopw [5, 6, 23] (fun lv cv iv wr => ∃ (k : Nat) (A2 : Option Addr) (c2 : Nat) (out : List Int) (cy : Int), k ≤ n ∧ iv = .int .i64 k ∧ cv = .int .i64 cy ∧ lv = .slice A2 k c2 ∧ Hid (wr.ownsRow w.heap.size 3 1 (.slice A2 k c2) k (ints out)) ∧ Hid (Sm a b out k cy) ∧ Hid (Below w.heap.size w wr)) (fun _ _ iv _ => n - (intOf iv).toNat)
  case atStart => exact ⟨0, _, _, [], 0, Nat.zero_le _, rfl, rfl, rfl, HO0, Lib.hid (Sm.start a b), HB0⟩
  case round =>
    clear HO0 HB0
    obtain ⟨k, A2, c2, out, cy, hk, rfl, rfl, rfl, HO, HS, HB⟩ := hrel
    have k0 : (0 : Int) ≤ (k : Int) := by omega
    obtain ⟨y0, y1⟩ := HS.out.rng
    have N1 : Hid (k + 1 ≤ maxLen) := Lib.hid (by simp only [maxLen]; omega)
    have N2 : Hid ((k + 1) * 8 ≤ 140737488355328) := Lib.hid (by omega)
    by_cases hlt : k < n
    · have hltI : (k : Int) < (n : Int) := by omega
      obtain ⟨bl, ol, rfl, hcell⟩ := (ha.keep HB.out) (by rw [HN.out]; omega)
      obtain ⟨x, hx⟩ := at_ a k (by rw [HN.out]; exact hlt)
      have c0 := hcell k x hx
      obtain ⟨x0, x1⟩ := HDA.out.at_ hx
      have HX := Lib.hid hx
      clear hcell hx
      have w1 : IntKind.i64.wrap (x + cy) = x + cy := IntWalk.i64_in _ (by omega)
      by_cases hlb : k < n'
      · have hlbI : (k : Int) < (n' : Int) := by omega
        obtain ⟨bm, om, rfl, hcell⟩ := (hb.keep HB.out) (by rw [HN'.out]; omega)
        obtain ⟨y, hy⟩ := at_ b k (by rw [HN'.out]; exact hlb)
        have c1 := hcell k y hy
        obtain ⟨z0, z1⟩ := HDB.out.at_ hy
        have w2 : IntKind.i64.wrap (x + cy + y) = x + cy + y := IntWalk.i64_in _ (by omega)
        have hs := HS.out.step HDA.out HDB.out HX.out hy
        have hand := and_mask (x + cy + y) (by omega)
        obtain ⟨d, hd⟩ : ∃ d, (x + cy + y) % 1048576 = d := ⟨_, rfl⟩
        obtain ⟨q, hq⟩ : ∃ q, (x + cy + y) / 1048576 = q := ⟨_, rfl⟩
        rw [hd, hq] at hs
        rw [hd] at hand
        have HS2 := Lib.hid hs
        clear hcell hy hs hd
        go_wp2_with (first
          | (at_builtin
             go_must (refine App.wpList_append_any _ rfl (.tmp 41) (.tmp 44) _ rfl w.heap.size 3 iI _ 1 8 Tryz.underlying22 hiI hzI hyI hxI rfl (by omega) (.slice A2 k c2) k (ints out) rfl (Gen.own_keep HO.out (Gen.b_alloc (Below.refl _ _))) _ _ 1 1 (ints [d]) rfl (Gen.reads_blk (by simp) rfl) (by simp [ints, Value.oneCell']) N1.out N2.out (Nat.le_trans HB.out.size (Gen.b_alloc (Below.refl _ _)).size) ?_)
             intro v7 w7 ho7 hg7 ha7
             have HB7 := Lib.hid (Gen.g_below HO.out hg7 (Gen.b_alloc HB.out) (Nat.le_refl _))
             obtain ⟨A7, c7, hv7, _⟩ := Gen.own_slice ho7
             subst hv7
             have HO7 := Lib.hid ho7
             clear hg7 ha7 ho7)
          | fail)
        go_roundw
        case rel => exact ⟨k + 1, A7, c7, out ++ [d], q, by omega, by go_num, rfl, rfl, Lib.hid (by rw [ints, List.map_append]; exact HO7.out), HS2, HB7⟩
        case measure => simp [intOf]; omega
      · have hlbI : ¬ ((k : Int) < (n' : Int)) := by omega
        have hs := HS.out.step1 HDA.out HX.out (show b.length ≤ k by rw [HN'.out]; omega)
        have hand := and_mask (x + cy) (by omega)
        obtain ⟨d, hd⟩ : ∃ d, (x + cy) % 1048576 = d := ⟨_, rfl⟩
        obtain ⟨q, hq⟩ : ∃ q, (x + cy) / 1048576 = q := ⟨_, rfl⟩
        rw [hd, hq] at hs
        rw [hd] at hand
        have HS2 := Lib.hid hs
        clear hs hd
        go_wp2_with (first
          | (at_builtin
             go_must (refine App.wpList_append_any _ rfl (.tmp 41) (.tmp 44) _ rfl w.heap.size 3 iI _ 1 8 Tryz.underlying22 hiI hzI hyI hxI rfl (by omega) (.slice A2 k c2) k (ints out) rfl (Gen.own_keep HO.out (Gen.b_alloc (Below.refl _ _))) _ _ 1 1 (ints [d]) rfl (Gen.reads_blk (by simp) rfl) (by simp [ints, Value.oneCell']) N1.out N2.out (Nat.le_trans HB.out.size (Gen.b_alloc (Below.refl _ _)).size) ?_)
             intro v7 w7 ho7 hg7 ha7
             have HB7 := Lib.hid (Gen.g_below HO.out hg7 (Gen.b_alloc HB.out) (Nat.le_refl _))
             obtain ⟨A7, c7, hv7, _⟩ := Gen.own_slice ho7
             subst hv7
             have HO7 := Lib.hid ho7
             clear hg7 ha7 ho7)
          | fail)
        go_roundw
        case rel => exact ⟨k + 1, A7, c7, out ++ [d], q, by omega, by go_num, rfl, rfl, Lib.hid (by rw [ints, List.map_append]; exact HO7.out), HS2, HB7⟩
        case measure => simp [intOf]; omega
    · obtain rfl : n = k := by omega
      by_cases hcy : 0 < cy
      · have HM : Hid (Nm (out ++ [cy]) (val a + val b)) := Lib.hid (by
          have h := HS.out
          rw [← HN.out] at h
          exact h.done1 hcy HDA.out HDB.out HLL.out)
        have HL := HS.out.len
        go_wp2_with (first
          | (at_builtin
             go_must (refine App.wpList_append_any _ rfl (.tmp 51) (.tmp 53) _ rfl w.heap.size 3 iI _ 1 8 Tryz.underlying22 hiI hzI hyI hxI rfl (by omega) (.slice A2 n c2) n (ints out) rfl (Gen.own_keep HO.out (Gen.b_alloc (Below.refl _ _))) _ _ 1 1 (ints [cy]) rfl (Gen.reads_blk (by simp) rfl) (by simp [ints, Value.oneCell']) N1.out N2.out (Nat.le_trans HB.out.size (Gen.b_alloc (Below.refl _ _)).size) ?_)
             intro v7 w7 ho7 hg7 ha7
             have HB7 := Lib.hid (Gen.g_below HO.out hg7 (Gen.b_alloc HB.out) (Nat.le_refl _))
             obtain ⟨A7, c7, hv7, hI7⟩ := ints_own (N0 := N0) (l := out ++ [cy]) (by rw [ints, List.map_append]; exact ho7) (by rw [List.length_append, HS.out.len]; rfl)
             subst hv7
             have HI7 := Lib.hid hI7
             clear hg7 ha7 ho7 hI7)
          | fail)
        go_ret
        exact ⟨A7, c7, out ++ [cy], by rw [List.length_append, HL]; rfl, HI7.out, HM.out, HB7.out⟩
      · have hc0 : cy = 0 := by omega
        have HM : Hid (Nm out (val a + val b)) := Lib.hid (by
          have h := HS.out
          rw [← HN.out, hc0] at h
          exact h.done0 HDA.out HDB.out HTA.out HLL.out)
        obtain ⟨A7, c7, hv7, hI7⟩ := ints_own (N0 := N0) HO.out HS.out.len
        injection hv7 with e1 _ e2
        subst e1 e2
        have HI7 := Lib.hid hI7
        have HL := Lib.hid HS.out.len
        clear hI7
        go_wp2
        go_ret
        exact ⟨A2, c2, out, by rw [HL.out]; rfl, HI7.out, HM.out, HB.out⟩
set_option maxRecDepth 100000 in
set_option maxHeartbeats 8000000 in
theorem add_lt {A A' : Option Addr} {n n' c c' : Nat} {a b : List Int} (w : World) (hn : a.length = n) (hn' : b.length = n') (ha : Ints N0 w A a) (hb : Ints N0 w A' b) (da : Dg a) (db : Dg b) (ta : Tr a) (hl : n' < n) (hbig : n ≤ 1000) :
    Calls Tryz.prog 76 #[.slice A' n' c', .slice A n c] w fun e w' => ∃ A2 c2 l, e = .returned (.slice A2 l.length c2) ∧ Ints N0 w' A2 l ∧ Nm l (val a + val b) ∧ Below w.heap.size w w' := by
  have HN := Lib.hid hn
  have HN' := Lib.hid hn'
  have HDA := Lib.hid da
  have HDB := Lib.hid db
  have HTA := Lib.hid ta
  have HLL : Hid (b.length ≤ a.length) := Lib.hid (by omega)
  obtain ⟨iI, hiI, hzI, hyI, hxI⟩ := info_parts infoI
  obtain ⟨wm, hmk, hown, hg⟩ := run_make_own (P := Tryz.prog) w w.heap.size 22 3 iI (.int .i64 0) 1 Tryz.underlying22 hiI hzI hyI .i64 .i64 (n + 1) (by rw [hxI]; omega) (by simp only [maxLen]; omega) (Nat.le_refl _)
  rw [show ((n + 1 : Nat) : Int) = (n : Int) + 1 from by omega] at hmk
  have hc1 : IntKind.i64.wrap ((n : Int) + 1) = (n : Int) + 1 := IntWalk.i64_in _ (by omega)
  have HB0 : Hid (Below w.heap.size w wm) := Lib.hid ((Below.refl _ _).grown hg (Nat.le_refl _) (fun k hk => by cases hk))
  have HO0 : Hid (wm.ownsRow w.heap.size 3 1 (.slice (some ⟨w.heap.size, 0, none⟩) 0 (n + 1)) 0 (ints [])) := Lib.hid hown
  have hlI : (n' : Int) < (n : Int) := by omega
  clear hn hn' hown hg da db ta
  go_enter Tryz.func76, Tryz.ntmps76
  go_wp2
  clear hmk hc1
  go_loopw [5, 6, 23] (fun lv cv iv wr => ∃ (k : Nat) (A2 : Option Addr) (c2 : Nat) (out : List Int) (cy : Int), k ≤ n ∧ iv = .int .i64 k ∧ cv = .int .i64 cy ∧ lv = .slice A2 k c2 ∧ Hid (wr.ownsRow w.heap.size 3 1 (.slice A2 k c2) k (ints out)) ∧ Hid (Sm a b out k cy) ∧ Hid (Below w.heap.size w wr)) (fun _ _ iv _ => n - (intOf iv).toNat)
  case atStart => exact ⟨0, _, _, [], 0, Nat.zero_le _, rfl, rfl, rfl, HO0, Lib.hid (Sm.start a b), HB0⟩
  case round =>
    clear HO0 HB0
    obtain ⟨k, A2, c2, out, cy, hk, rfl, rfl, rfl, HO, HS, HB⟩ := hrel
    have k0 : (0 : Int) ≤ (k : Int) := by omega
    obtain ⟨y0, y1⟩ := HS.out.rng
    have N1 : Hid (k + 1 ≤ maxLen) := Lib.hid (by simp only [maxLen]; omega)
    have N2 : Hid ((k + 1) * 8 ≤ 140737488355328) := Lib.hid (by omega)
    by_cases hlt : k < n
    · have hltI : (k : Int) < (n : Int) := by omega
      obtain ⟨bl, ol, rfl, hcell⟩ := (ha.keep HB.out) (by rw [HN.out]; omega)
      obtain ⟨x, hx⟩ := at_ a k (by rw [HN.out]; exact hlt)
      have c0 := hcell k x hx
      obtain ⟨x0, x1⟩ := HDA.out.at_ hx
      have HX := Lib.hid hx
      clear hcell hx
      have w1 : IntKind.i64.wrap (x + cy) = x + cy := IntWalk.i64_in _ (by omega)
      by_cases hlb : k < n'
      · have hlbI : (k : Int) < (n' : Int) := by omega
        obtain ⟨bm, om, rfl, hcell⟩ := (hb.keep HB.out) (by rw [HN'.out]; omega)
        obtain ⟨y, hy⟩ := at_ b k (by rw [HN'.out]; exact hlb)
        have c1 := hcell k y hy
        obtain ⟨z0, z1⟩ := HDB.out.at_ hy
        have w2 : IntKind.i64.wrap (x + cy + y) = x + cy + y := IntWalk.i64_in _ (by omega)
        have hs := HS.out.step HDA.out HDB.out HX.out hy
        have hand := and_mask (x + cy + y) (by omega)
        obtain ⟨d, hd⟩ : ∃ d, (x + cy + y) % 1048576 = d := ⟨_, rfl⟩
        obtain ⟨q, hq⟩ : ∃ q, (x + cy + y) / 1048576 = q := ⟨_, rfl⟩
        rw [hd, hq] at hs
        rw [hd] at hand
        have HS2 := Lib.hid hs
        clear hcell hy hs hd
        go_wp2_with (first
          | (at_builtin
             go_must (refine App.wpList_append_any _ rfl (.tmp 41) (.tmp 44) _ rfl w.heap.size 3 iI _ 1 8 Tryz.underlying22 hiI hzI hyI hxI rfl (by omega) (.slice A2 k c2) k (ints out) rfl (Gen.own_keep HO.out (Gen.b_alloc (Below.refl _ _))) _ _ 1 1 (ints [d]) rfl (Gen.reads_blk (by simp) rfl) (by simp [ints, Value.oneCell']) N1.out N2.out (Nat.le_trans HB.out.size (Gen.b_alloc (Below.refl _ _)).size) ?_)
             intro v7 w7 ho7 hg7 ha7
             have HB7 := Lib.hid (Gen.g_below HO.out hg7 (Gen.b_alloc HB.out) (Nat.le_refl _))
             obtain ⟨A7, c7, hv7, _⟩ := Gen.own_slice ho7
             subst hv7
             have HO7 := Lib.hid ho7
             clear hg7 ha7 ho7)
          | fail)
        go_roundw
        case rel => exact ⟨k + 1, A7, c7, out ++ [d], q, by omega, by go_num, rfl, rfl, Lib.hid (by rw [ints, List.map_append]; exact HO7.out), HS2, HB7⟩
        case measure => simp [intOf]; omega
      · have hlbI : ¬ ((k : Int) < (n' : Int)) := by omega
        have hs := HS.out.step1 HDA.out HX.out (show b.length ≤ k by rw [HN'.out]; omega)
        have hand := and_mask (x + cy) (by omega)
        obtain ⟨d, hd⟩ : ∃ d, (x + cy) % 1048576 = d := ⟨_, rfl⟩
        obtain ⟨q, hq⟩ : ∃ q, (x + cy) / 1048576 = q := ⟨_, rfl⟩
        rw [hd, hq] at hs
        rw [hd] at hand
        have HS2 := Lib.hid hs
        clear hs hd
        go_wp2_with (first
          | (at_builtin
             go_must (refine App.wpList_append_any _ rfl (.tmp 41) (.tmp 44) _ rfl w.heap.size 3 iI _ 1 8 Tryz.underlying22 hiI hzI hyI hxI rfl (by omega) (.slice A2 k c2) k (ints out) rfl (Gen.own_keep HO.out (Gen.b_alloc (Below.refl _ _))) _ _ 1 1 (ints [d]) rfl (Gen.reads_blk (by simp) rfl) (by simp [ints, Value.oneCell']) N1.out N2.out (Nat.le_trans HB.out.size (Gen.b_alloc (Below.refl _ _)).size) ?_)
             intro v7 w7 ho7 hg7 ha7
             have HB7 := Lib.hid (Gen.g_below HO.out hg7 (Gen.b_alloc HB.out) (Nat.le_refl _))
             obtain ⟨A7, c7, hv7, _⟩ := Gen.own_slice ho7
             subst hv7
             have HO7 := Lib.hid ho7
             clear hg7 ha7 ho7)
          | fail)
        go_roundw
        case rel => exact ⟨k + 1, A7, c7, out ++ [d], q, by omega, by go_num, rfl, rfl, Lib.hid (by rw [ints, List.map_append]; exact HO7.out), HS2, HB7⟩
        case measure => simp [intOf]; omega
    · obtain rfl : n = k := by omega
      by_cases hcy : 0 < cy
      · have HM : Hid (Nm (out ++ [cy]) (val a + val b)) := Lib.hid (by
          have h := HS.out
          rw [← HN.out] at h
          exact h.done1 hcy HDA.out HDB.out HLL.out)
        have HL := HS.out.len
        go_wp2_with (first
          | (at_builtin
             go_must (refine App.wpList_append_any _ rfl (.tmp 51) (.tmp 53) _ rfl w.heap.size 3 iI _ 1 8 Tryz.underlying22 hiI hzI hyI hxI rfl (by omega) (.slice A2 n c2) n (ints out) rfl (Gen.own_keep HO.out (Gen.b_alloc (Below.refl _ _))) _ _ 1 1 (ints [cy]) rfl (Gen.reads_blk (by simp) rfl) (by simp [ints, Value.oneCell']) N1.out N2.out (Nat.le_trans HB.out.size (Gen.b_alloc (Below.refl _ _)).size) ?_)
             intro v7 w7 ho7 hg7 ha7
             have HB7 := Lib.hid (Gen.g_below HO.out hg7 (Gen.b_alloc HB.out) (Nat.le_refl _))
             obtain ⟨A7, c7, hv7, hI7⟩ := ints_own (N0 := N0) (l := out ++ [cy]) (by rw [ints, List.map_append]; exact ho7) (by rw [List.length_append, HS.out.len]; rfl)
             subst hv7
             have HI7 := Lib.hid hI7
             clear hg7 ha7 ho7 hI7)
          | fail)
        go_ret
        exact ⟨A7, c7, out ++ [cy], by rw [List.length_append, HL]; rfl, HI7.out, HM.out, HB7.out⟩
      · have hc0 : cy = 0 := by omega
        have HM : Hid (Nm out (val a + val b)) := Lib.hid (by
          have h := HS.out
          rw [← HN.out, hc0] at h
          exact h.done0 HDA.out HDB.out HTA.out HLL.out)
        obtain ⟨A7, c7, hv7, hI7⟩ := ints_own (N0 := N0) HO.out HS.out.len
        injection hv7 with e1 _ e2
        subst e1 e2
        have HI7 := Lib.hid hI7
        have HL := Lib.hid HS.out.len
        clear hI7
        go_wp2
        go_ret
        exact ⟨A2, c2, out, by rw [HL.out]; rfl, HI7.out, HM.out, HB.out⟩
theorem add_any {A A' : Option Addr} {n n' c c' : Nat} {a b : List Int} (w : World) (hn : a.length = n) (hn' : b.length = n') (ha : Ints N0 w A a) (hb : Ints N0 w A' b) (da : Dg a) (db : Dg b) (ta : Tr a) (tb : Tr b) (hbig : n ≤ 1000) (hbig' : n' ≤ 1000) :
    Calls Tryz.prog 76 #[.slice A n c, .slice A' n' c'] w fun e w' => ∃ A2 c2 l, e = .returned (.slice A2 l.length c2) ∧ Ints N0 w' A2 l ∧ Nm l (val a + val b) ∧ Below w.heap.size w w' := by
  by_cases h : n' ≤ n
  · exact add_ge w hn hn' ha hb da db ta h hbig
  · rw [Int.add_comm]
    exact add_lt w hn' hn hb ha db da tb (by omega) hbig'
end Go.Proofs.YtnifkianjpjahaaGreatDoor.Bg
/- Big integers: differences of digits. -/
namespace Go.Proofs.YtnifkianjpjahaaGreatDoor.Bg
open Go.ChangeShapes Go.WideShapes Go.ChangeAt Go.RowKit Go.Proofs.YtnifkianjpjahaaGreatDoor.Cell
set_option linter.unusedVariables false
set_option linter.unusedSimpArgs false
variable {N0 : Nat}

theorem ints_take0 {w : World} {A : Option Addr} {l : List Int} (h : Cell.Ints w A l) (k : Nat) : Cell.Ints w A (l.take k) := fun h0 => by
  rw [List.length_take] at h0
  obtain ⟨b, off, e, hc⟩ := h (by omega)
  exact ⟨b, off, e, fun j z hz => hc j z (by
    have := lt_of_at hz
    rw [List.length_take] at this
    rwa [List.getElem?_take_of_lt (by omega)] at hz)⟩
theorem ints_take {w : World} {A : Option Addr} {l : List Int} (h : Ints N0 w A l) (k : Nat) : Ints N0 w A (l.take k) := ⟨ints_take0 h.cells k, fun h0 => h.ty (by rw [List.length_take] at h0; omega)⟩
theorem set_fill {out : List Int} {n k : Nat} {d : Int} (h : out.length = k) (hk : k < n) : (out ++ List.replicate (n - k) 0).set k d = (out ++ [d]) ++ List.replicate (n - (k + 1)) 0 := by
  rw [List.set_append_right _ _ (by omega), h, Nat.sub_self, show n - k = (n - (k + 1)) + 1 by omega, List.replicate_succ, List.set_cons_zero, List.append_assoc]
  rfl
theorem at_fill {out : List Int} {n k : Nat} (h : out.length = k) (hk : k < n) : (out ++ List.replicate (n - k) (0 : Int))[k]? = some 0 := by
  rw [List.getElem?_append_right (by omega), h, Nat.sub_self, List.getElem?_replicate, if_pos (by omega)]
theorem and_one {q : Int} (h : q = 0 ∨ q = -1) : bits .and .i64 q 1 = -q := by
  rcases h with rfl | rfl <;> decide
/-- a difference, digit by digit -/
structure Sb (a b out : List Int) (k : Nat) (br : Int) : Prop where
  dg : Dg out
  len : out.length = k
  rng : 0 ≤ br ∧ br ≤ 1
  eq : val out + val (b.take k) = val (a.take k) + pw k * br
theorem Sb.start (a b : List Int) : Sb a b [] 0 0 := ⟨Dg.nil, rfl, by omega, by rw [List.take_zero, List.take_zero, val_nil]; omega⟩
theorem Sb.step {a b out : List Int} {k : Nat} {br x y : Int} (h : Sb a b out k br) (da : Dg a) (db : Dg b) (hx : a[k]? = some x) (hy : b[k]? = some y) : Sb a b (out ++ [(x - br - y) % 1048576]) (k + 1) (-((x - br - y) / 1048576)) := by
  have h1 := da.at_ hx
  have h2 := db.at_ hy
  have h3 := h.rng
  refine ⟨h.dg.snoc (by omega), by rw [List.length_append, h.len]; rfl, by omega, ?_⟩
  rw [val_snoc, h.len, val_take_succ hx, val_take_succ hy, pw_succ]
  have e := h.eq
  have h4 : 1048576 * ((x - br - y) / 1048576) + (x - br - y) % 1048576 = x - br - y := by omega
  obtain ⟨q, hq⟩ : ∃ q, (x - br - y) / 1048576 = q := ⟨_, rfl⟩
  obtain ⟨r, hr⟩ : ∃ r, (x - br - y) % 1048576 = r := ⟨_, rfl⟩
  rw [hq, hr] at h4
  rw [hq, hr]
  have e1 : pw k * r - pw k * 1048576 * -q = pw k * (x - br - y) := by rw [← h4]; grind
  have e2 : pw k * (x - br - y) = pw k * x - pw k * br - pw k * y := by grind
  omega
theorem Sb.step1 {a b out : List Int} {k : Nat} {br x : Int} (h : Sb a b out k br) (da : Dg a) (hx : a[k]? = some x) (hb : b.length ≤ k) : Sb a b (out ++ [(x - br) % 1048576]) (k + 1) (-((x - br) / 1048576)) := by
  have h1 := da.at_ hx
  have h3 := h.rng
  refine ⟨h.dg.snoc (by omega), by rw [List.length_append, h.len]; rfl, by omega, ?_⟩
  rw [val_snoc, h.len, val_take_succ hx, pw_succ, List.take_of_length_le (show b.length ≤ k + 1 by omega)]
  have e := h.eq
  rw [List.take_of_length_le hb] at e
  have h4 : 1048576 * ((x - br) / 1048576) + (x - br) % 1048576 = x - br := by omega
  obtain ⟨q, hq⟩ : ∃ q, (x - br) / 1048576 = q := ⟨_, rfl⟩
  obtain ⟨r, hr⟩ : ∃ r, (x - br) % 1048576 = r := ⟨_, rfl⟩
  rw [hq, hr] at h4
  rw [hq, hr]
  have e1 : pw k * r - pw k * 1048576 * -q = pw k * (x - br) := by rw [← h4]; grind
  have e2 : pw k * (x - br) = pw k * x - pw k * br := by grind
  omega
theorem Sb.done {a b out : List Int} {br : Int} (h : Sb a b out a.length br) (hl : b.length ≤ a.length) (hv : val b ≤ val a) : val out = val a - val b := by
  have e := h.eq
  have h3 := h.rng
  rw [List.take_length, List.take_of_length_le hl] at e
  have h1 := val_lt h.dg
  rw [h.len] at h1
  by_cases hb : br = 0
  · subst hb
    omega
  · have : br = 1 := by omega
    subst this
    omega
set_option maxRecDepth 100000 in
set_option maxHeartbeats 8000000 in
theorem sub_any {A A' : Option Addr} {n n' c c' : Nat} {a b : List Int} (w : World) (hn : a.length = n) (hn' : b.length = n') (ha : Ints N0 w A a) (hb : Ints N0 w A' b) (da : Dg a) (db : Dg b) (hl : n' ≤ n) (hv : val b ≤ val a) (hbig : n ≤ 1000) :
    Calls Tryz.prog 77 #[.slice A n c, .slice A' n' c'] w fun e w' => ∃ A2 c2 l, e = .returned (.slice A2 l.length c2) ∧ Ints N0 w' A2 l ∧ Nm l (val a - val b) ∧ Below w.heap.size w w' := by
  have HN := Lib.hid hn
  have HN' := Lib.hid hn'
  have HDA := Lib.hid da
  have HDB := Lib.hid db
  have HV := Lib.hid hv
  have HLL : Hid (b.length ≤ a.length) := Lib.hid (by omega)
  obtain ⟨iI, hiI, hzI, hyI, hxI⟩ := info_parts infoI
  have hmk : ∀ W : World, (Instr.makeSlice 22 (.int .i64 n) (.int .i64 n)).run Tryz.prog W = .ok (.slice (some ⟨W.heap.size, 0, none⟩) n n) (W.alloc (.cells (ics (List.replicate n 0)) 3)) := fun W => by
    have hr := run_make (P := Tryz.prog) W 22 3 iI (.int .i64 0) Tryz.underlying22 hiI hzI .i64 .i64 n n (by omega) (Int.le_refl _) (by rw [hxI]; omega) (by omega)
    rw [hyI, Int.toNat_natCast, made_ints] at hr
    exact hr
  clear hn hn' da db hv hiI hzI hyI hxI
  go_enter Tryz.func77, Tryz.ntmps77
  go_wp2
  clear hmk
  go_loopw [6, 15] (fun bv iv wr => ∃ (k : Nat) (out : List Int) (br : Int), k ≤ n ∧ iv = .int .i64 k ∧ bv = .int .i64 br ∧ Hid (Row wr w.heap.size 3 (ics (out ++ List.replicate (n - k) 0))) ∧ Hid (Sb a b out k br) ∧ Hid (Below w.heap.size w wr)) (fun _ iv _ => n - (intOf iv).toNat)
  case atStart => exact ⟨0, [], 0, Nat.zero_le _, rfl, rfl, Lib.hid (Row.new _ _ _), Lib.hid (Sb.start a b), Lib.hid (Gen.b_alloc (Below.refl _ _))⟩
  case round =>
    obtain ⟨k, out, br, hk, rfl, rfl, HR, HS, HB⟩ := hrel
    have k0 : (0 : Int) ≤ (k : Int) := by omega
    obtain ⟨y0, y1⟩ := HS.out.rng
    by_cases hlt : k < n
    · have hltI : (k : Int) < (n : Int) := by omega
      obtain ⟨bl, ol, rfl, hcell⟩ := (ha.keep HB.out) (by rw [HN.out]; omega)
      obtain ⟨x, hx⟩ := at_ a k (by rw [HN.out]; exact hlt)
      have c0 := hcell k x hx
      obtain ⟨x0, x1⟩ := HDA.out.at_ hx
      have HX := Lib.hid hx
      have hg := HR.out.lt
      have l1 : wr.cell? ⟨w.heap.size, k, none⟩ = some (.int .i64 0) := HR.out.intAt (at_fill HS.out.len hlt)
      have hf := HR.out.frozen k
      clear hcell hx
      have w1 : IntKind.i64.wrap (x - br) = x - br := IntWalk.i64_in _ (by omega)
      by_cases hlb : k < n'
      · have hlbI : (k : Int) < (n' : Int) := by omega
        obtain ⟨bm, om, rfl, hcell⟩ := (hb.keep HB.out) (by rw [HN'.out]; omega)
        obtain ⟨y, hy⟩ := at_ b k (by rw [HN'.out]; exact hlb)
        have c1 := hcell k y hy
        obtain ⟨z0, z1⟩ := HDB.out.at_ hy
        have w2 : IntKind.i64.wrap (x - br - y) = x - br - y := IntWalk.i64_in _ (by omega)
        have hs := HS.out.step HDA.out HDB.out HX.out hy
        have hand := and_mask (x - br - y) (by omega)
        have hone := and_one (q := (x - br - y) / 1048576) (by omega)
        obtain ⟨d, hd⟩ : ∃ d, (x - br - y) % 1048576 = d := ⟨_, rfl⟩
        obtain ⟨q, hq⟩ : ∃ q, (x - br - y) / 1048576 = q := ⟨_, rfl⟩
        rw [hd, hq] at hs
        rw [hd] at hand
        rw [hq] at hone
        have HS2 := Lib.hid hs
        have HR2 : Hid (Row (wr.setCell ⟨w.heap.size, k, none⟩ (.int .i64 d)) w.heap.size 3 (ics ((out ++ [d]) ++ List.replicate (n - (k + 1)) 0))) := Lib.hid (by
          rw [← set_fill HS.out.len hlt, ← ics_set]
          exact HR.out.set _ _)
        have HB2 : Hid (Below w.heap.size w (wr.setCell ⟨w.heap.size, k, none⟩ (.int .i64 d))) := Lib.hid (Gen.b_set HB.out (Nat.le_refl _))
        clear hcell hy hs hd
        go_wp2
        go_roundw
        case rel => exact ⟨k + 1, out ++ [d], -q, by omega, by go_num, rfl, HR2, HS2, HB2⟩
        case measure => simp [intOf]; omega
      · have hlbI : ¬ ((k : Int) < (n' : Int)) := by omega
        have hs := HS.out.step1 HDA.out HX.out (show b.length ≤ k by rw [HN'.out]; omega)
        have hand := and_mask (x - br) (by omega)
        have hone := and_one (q := (x - br) / 1048576) (by omega)
        obtain ⟨d, hd⟩ : ∃ d, (x - br) % 1048576 = d := ⟨_, rfl⟩
        obtain ⟨q, hq⟩ : ∃ q, (x - br) / 1048576 = q := ⟨_, rfl⟩
        rw [hd, hq] at hs
        rw [hd] at hand
        rw [hq] at hone
        have HS2 := Lib.hid hs
        have HR2 : Hid (Row (wr.setCell ⟨w.heap.size, k, none⟩ (.int .i64 d)) w.heap.size 3 (ics ((out ++ [d]) ++ List.replicate (n - (k + 1)) 0))) := Lib.hid (by
          rw [← set_fill HS.out.len hlt, ← ics_set]
          exact HR.out.set _ _)
        have HB2 : Hid (Below w.heap.size w (wr.setCell ⟨w.heap.size, k, none⟩ (.int .i64 d))) := Lib.hid (Gen.b_set HB.out (Nat.le_refl _))
        clear hs hd
        go_wp2
        go_roundw
        case rel => exact ⟨k + 1, out ++ [d], -q, by omega, by go_num, rfl, HR2, HS2, HB2⟩
        case measure => simp [intOf]; omega
    · obtain rfl : n = k := by omega
      have HE : Hid (val out = val a - val b) := Lib.hid (by
        have h := HS.out
        rw [← HN.out] at h
        exact h.done HLL.out HV.out)
      have HI : Hid (Ints N0 wr (some ⟨w.heap.size, 0, none⟩) out) := Lib.hid (by
        have h := HR.out
        rw [Nat.sub_self, List.replicate_zero, List.append_nil] at h
        exact (h.ints' (N0 := N0)))
      go_wp2_with (fail)
      go_must (refine (trim_any _ n n out _ HS.out.len HI.out (Nat.le_refl _) (by omega)).mono ?_)
      rintro e w2 ⟨k, hkn, rfl, hT, hV, rfl⟩
      have HT := Lib.hid hT
      have HVV := Lib.hid hV
      clear hT hV
      go_wp2
      go_ret
      exact ⟨_, n, out.take k, by rw [List.length_take, HS.out.len, Nat.min_eq_left hkn]; rfl, ints_take HI.out k, ⟨HS.out.dg.take k, HT.out, HVV.out.trans HE.out⟩, HB.out⟩
end Go.Proofs.YtnifkianjpjahaaGreatDoor.Bg
/- Big integers: products of digits. -/
namespace Go.Proofs.YtnifkianjpjahaaGreatDoor.Bg
open Go.ChangeShapes Go.WideShapes Go.ChangeAt Go.RowKit Go.Proofs.YtnifkianjpjahaaGreatDoor.Cell
set_option linter.unusedVariables false
set_option linter.unusedSimpArgs false
variable {N0 : Nat}

/-- a product, as far as it is added up -/
structure Ml (a b L : List Int) (i : Nat) (x : Int) (j : Nat) : Prop where
  len : L.length = a.length + b.length
  eq : val L = val (a.take i) * val b + pw i * (x * val (b.take j))
  lo : ∀ (k : Nat) z, L[k]? = some z → 0 ≤ z ∧ z ≤ ((i : Int) + 1) * 1099511627776 ∧ (i + j ≤ k → z ≤ (i : Int) * 1099511627776)
theorem val_zeros (n : Nat) : val (List.replicate n 0) = 0 := by
  induction n with
  | zero => rfl
  | succ n ih => rw [List.replicate_succ, val_cons, ih]; omega
theorem Ml.start (a b : List Int) (x : Int) : Ml a b (List.replicate (a.length + b.length) 0) 0 x 0 :=
  ⟨List.length_replicate, by rw [val_zeros, List.take_zero, List.take_zero, val_nil]; simp, fun k z hz => by
    have := List.eq_of_mem_replicate (mem_of_at hz)
    omega⟩
theorem Ml.other {a b L : List Int} {i : Nat} {x y : Int} (h : Ml a b L i x 0) : Ml a b L i y 0 :=
  ⟨h.len, by rw [h.eq, List.take_zero, val_nil]; simp, h.lo⟩
theorem Ml.next {a b L : List Int} {i : Nat} {x y : Int} (h : Ml a b L i x b.length) (hx : a[i]? = some x) : Ml a b L (i + 1) y 0 := by
  refine ⟨h.len, ?_, fun k z hz => ?_⟩
  · rw [h.eq, val_take_succ hx, List.take_length, List.take_zero, val_nil]
    grind
  · have := h.lo k z hz
    omega
theorem mul_small {x y : Int} (hx : 0 ≤ x ∧ x < 1048576) (hy : 0 ≤ y ∧ y < 1048576) : 0 ≤ x * y ∧ x * y ≤ 1099511627776 := by
  refine ⟨Int.mul_nonneg hx.1 hy.1, ?_⟩
  have h1 : x * y ≤ 1048576 * y := Int.mul_le_mul_of_nonneg_right (by omega) hy.1
  omega
theorem Ml.step {a b L : List Int} {i j : Nat} {x y z : Int} (h : Ml a b L i x j) (hx : 0 ≤ x ∧ x < 1048576) (hy : 0 ≤ y ∧ y < 1048576) (hb : b[j]? = some y) (hz : L[i + j]? = some z) : Ml a b (L.set (i + j) (z + x * y)) i x (j + 1) := by
  have hxy := mul_small hx hy
  refine ⟨by rw [List.length_set]; exact h.len, ?_, fun k u hu => ?_⟩
  · rw [val_set hz, h.eq, val_take_succ hb, pw_add]
    grind
  · by_cases e : i + j = k
    · subst e
      rw [List.getElem?_set_self (lt_of_at hz)] at hu
      have := h.lo _ z hz
      have hu : z + x * y = u := by injection hu
      omega
    · rw [List.getElem?_set_ne e] at hu
      have := h.lo _ u hu
      omega
theorem Ml.done {a b L : List Int} {x : Int} (h : Ml a b L a.length x 0) : val L = val a * val b := by
  rw [h.eq, List.take_length, List.take_zero, val_nil]
  simp
/-- carries, digit by digit -/
structure Cy (L out : List Int) (k : Nat) (cy : Int) : Prop where
  dg : Dg out
  len : out.length = k
  rng : 0 ≤ cy ∧ cy ≤ 134217728
  eq : val out + pw k * (cy + val (L.drop k)) = val L
theorem Cy.start (L : List Int) : Cy L [] 0 0 := ⟨Dg.nil, rfl, by omega, by rw [List.drop_zero, val_nil, pw_zero]; omega⟩
theorem Cy.step {L out : List Int} {k : Nat} {cy z : Int} (h : Cy L out k cy) (hz : L[k]? = some z) (hb : 0 ≤ z ∧ z ≤ 67070209294336) : Cy L (out ++ [(z + cy) % 1048576]) (k + 1) ((z + cy) / 1048576) := by
  have h3 := h.rng
  refine ⟨h.dg.snoc (by omega), by rw [List.length_append, h.len]; rfl, by omega, ?_⟩
  have e := h.eq
  rw [drop_at hz, val_cons] at e
  rw [val_snoc, h.len, pw_succ]
  have h4 : 1048576 * ((z + cy) / 1048576) + (z + cy) % 1048576 = z + cy := by omega
  obtain ⟨q, hq⟩ : ∃ q, (z + cy) / 1048576 = q := ⟨_, rfl⟩
  obtain ⟨r, hr⟩ : ∃ r, (z + cy) % 1048576 = r := ⟨_, rfl⟩
  rw [hq, hr] at h4
  rw [hq, hr, ← e]
  have h5 : cy = 1048576 * q + r - z := by omega
  rw [h5]
  grind
theorem set_mid {out L : List Int} {k : Nat} {d z : Int} (h : out.length = k) (hz : L[k]? = some z) : (out ++ L.drop k).set k d = (out ++ [d]) ++ L.drop (k + 1) := by
  rw [List.set_append_right _ _ (by omega), h, Nat.sub_self, drop_at hz, List.set_cons_zero, List.append_assoc]
  rfl
theorem at_mid {out L : List Int} {k : Nat} {z : Int} (h : out.length = k) (hz : L[k]? = some z) : (out ++ L.drop k)[k]? = some z := by
  rw [List.getElem?_append_right (by omega), h, Nat.sub_self, drop_at hz]
  rfl
theorem Cy.done {L out : List Int} {cy v : Int} {n : Nat} (h : Cy L out n cy) (hn : L.length = n) (hv : val L = v) (h1 : v < pw n) : val out = v := by
  have e := h.eq
  have h3 := h.rng
  rw [List.drop_of_length_le (by omega), val_nil, hv] at e
  have h2 := val_nonneg h.dg
  by_cases hc : cy = 0
  · subst hc
    omega
  · have h4 : pw n * 1 ≤ pw n * (cy + 0) := Int.mul_le_mul_of_nonneg_left (by omega) (by have := pw_pos n; omega)
    omega
set_option maxRecDepth 100000 in
set_option maxHeartbeats 8000000 in
theorem mul_pos {A A' : Option Addr} {n n' c c' : Nat} {a b : List Int} (w : World) (hn : a.length = n) (hn' : b.length = n') (ha : Ints N0 w A a) (hb : Ints N0 w A' b) (da : Dg a) (db : Dg b) (hbig : n ≤ 60) (hbig' : n' ≤ 60) (h0 : 0 < n) (h0' : 0 < n') :
    Calls Tryz.prog 73 #[.slice A n c, .slice A' n' c'] w fun e w' => ∃ A2 c2 l, e = .returned (.slice A2 l.length c2) ∧ Ints N0 w' A2 l ∧ Nm l (val a * val b) ∧ Below w.heap.size w w' := by
  have HN := Lib.hid hn
  have HN' := Lib.hid hn'
  have HDA := Lib.hid da
  have HDB := Lib.hid db
  have HVV : Hid (val a * val b < pw (n + n')) := Lib.hid (by
    rw [pw_add]
    have h1 := val_lt da
    have h2 := val_lt db
    rw [hn] at h1
    rw [hn'] at h2
    have h3 : val a * val b ≤ pw n * val b := Int.mul_le_mul_of_nonneg_right (by omega) (val_nonneg db)
    have h4 : pw n * val b < pw n * pw n' := Int.mul_lt_mul_of_pos_left h2 (by have := pw_pos n; omega)
    omega)
  obtain ⟨iI, hiI, hzI, hyI, hxI⟩ := info_parts infoI
  obtain ⟨N, hN⟩ : ∃ N, N = n + n' := ⟨_, rfl⟩
  have hNI : (n : Int) + (n' : Int) = (N : Int) := by omega
  have hmk : ∀ W : World, (Instr.makeSlice 22 (.int .i64 N) (.int .i64 N)).run Tryz.prog W = .ok (.slice (some ⟨W.heap.size, 0, none⟩) N N) (W.alloc (.cells (ics (List.replicate N 0)) 3)) := fun W => by
    have hr := run_make (P := Tryz.prog) W 22 3 iI (.int .i64 0) Tryz.underlying22 hiI hzI .i64 .i64 N N (by omega) (Int.le_refl _) (by rw [hxI]; omega) (by omega)
    rw [hyI, Int.toNat_natCast, made_ints] at hr
    exact hr
  have hwN : IntKind.i64.wrap (N : Int) = N := IntWalk.i64_in _ (by omega)
  have hz1 : ((n : Int) == 0) = false := by simp; omega
  have hz2 : ((n' : Int) == 0) = false := by simp; omega
  have HR0 : Hid (Ml a b (List.replicate N 0) 0 0 0) := Lib.hid (by rw [hN, ← hn, ← hn']; exact Ml.start a b 0)
  have HNN := Lib.hid hN
  clear hn hn' da db hiI hzI hyI hxI hN
  go_enter Tryz.func73, Tryz.ntmps73
  go_wp2
  clear hmk hz1 hz2
  go_loopw [30] (fun iv wr => ∃ (i : Nat) (L : List Int), i ≤ n ∧ iv = .int .i64 i ∧ Hid (Row wr w.heap.size 3 (ics L)) ∧ Hid (Ml a b L i 0 0) ∧ Hid (Below w.heap.size w wr)) (fun iv _ => n - (intOf iv).toNat)
  case atStart => exact ⟨0, _, Nat.zero_le _, rfl, Lib.hid (Row.new _ _ _), HR0, Lib.hid (Gen.b_alloc (Below.refl _ _))⟩
  case round =>
    clear HR0
    obtain ⟨i, L, hi, rfl, HR, HM, HB⟩ := hrel
    have i0 : (0 : Int) ≤ (i : Int) := by omega
    by_cases hlt : i < n
    · have hltI : (i : Int) < (n : Int) := by omega
      obtain ⟨bl, ol, rfl, hcell⟩ := (ha.keep HB.out) (by rw [HN.out]; omega)
      obtain ⟨x, hx⟩ := at_ a i (by rw [HN.out]; exact hlt)
      have c0 := hcell i x hx
      have HX := Lib.hid hx
      have HXX := Lib.hid (HDA.out.at_ hx)
      have hNi : (N = i) = False := by simp; have := HNN.out; omega
      have hs1 : IntKind.i64.wrap ((i : Int) + (n' : Int)) = (i : Int) + (n' : Int) := IntWalk.i64_in _ (by omega)
      have hs2 : (i : Int) ≤ (i : Int) + (n' : Int) := by omega
      have hs3 : (i : Int) + (n' : Int) ≤ (N : Int) := by have := HNN.out; omega
      have hs4 : ((i : Int) + (n' : Int)).toNat = i + n' := by omega
      have hs5 : (i : Int) + (n' : Int) - (i : Int) = (n' : Int) := by omega
      have HM0 : Hid (Ml a b L i x 0) := Lib.hid HM.out.other
      clear hcell hx HM
      obtain ⟨wo, rfl⟩ : ∃ wo : World, wo = wr := ⟨_, rfl⟩
      go_wp2
      go_loopw [44] (fun jv wr => ∃ (j : Nat) (L : List Int), j ≤ n' ∧ jv = .int .i64 j ∧ Hid (Row wr w.heap.size 3 (ics L)) ∧ Hid (Ml a b L i x j) ∧ Hid (Below w.heap.size w wr)) (fun jv _ => n' - (intOf jv).toNat)
      case atStart => exact ⟨0, L, Nat.zero_le _, rfl, HR, HM0, HB⟩
      case round =>
        clear HM0 HR HB
        obtain ⟨j, L, hj, rfl, HR, HM, HB⟩ := hrel
        have j0 : (0 : Int) ≤ (j : Int) := by omega
        by_cases hjn : j < n'
        · have hjI : (j : Int) < (n' : Int) := by omega
          obtain ⟨bm, om, rfl, hcell⟩ := (hb.keep HB.out) (by rw [HN'.out]; omega)
          obtain ⟨y, hy⟩ := at_ b j (by rw [HN'.out]; exact hjn)
          have c1 := hcell j y hy
          obtain ⟨z, hz⟩ := at_ L (i + j) (by rw [HM.out.len, HN.out, HN'.out]; omega)
          have l1 : wr.cell? ⟨w.heap.size, i + j, none⟩ = some (.int .i64 z) := HR.out.intAt hz
          have hf := HR.out.frozen (i + j)
          have hg := HR.out.lt
          have hzb := HM.out.lo _ z hz
          have hxy := mul_small HXX.out (HDB.out.at_ hy)
          have HM2 := Lib.hid (HM.out.step HXX.out (HDB.out.at_ hy) hy hz)
          have w1 : IntKind.i64.wrap (x * y) = x * y := IntWalk.i64_in _ (by omega)
          obtain ⟨p, hp⟩ : ∃ p, x * y = p := ⟨_, rfl⟩
          rw [hp] at HM2 hxy w1
          have w2 : IntKind.i64.wrap (z + p) = z + p := IntWalk.i64_in _ (by omega)
          have HR2 : Hid (Row (wr.setCell ⟨w.heap.size, i + j, none⟩ (.int .i64 (z + p))) w.heap.size 3 (ics (L.set (i + j) (z + p)))) := Lib.hid (by
            rw [← ics_set]
            exact HR.out.set _ _)
          have HB2 : Hid (Below w.heap.size w (wr.setCell ⟨w.heap.size, i + j, none⟩ (.int .i64 (z + p)))) := Lib.hid (Gen.b_set HB.out (Nat.le_refl _))
          clear hcell hy hz hzb hxy
          go_wp2
          go_roundw
          case rel => exact ⟨j + 1, _, by omega, by go_num, HR2, HM2, HB2⟩
          case measure => simp [intOf]; omega
        · obtain rfl : j = n' := by omega
          have HM2 : Hid (Ml a b L (i + 1) 0 0) := Lib.hid (by
            have h := HM.out
            rw [← HN'.out] at h
            exact h.next HX.out)
          go_wp2
          go_roundw
          case rel => exact ⟨i + 1, L, by omega, by go_num, HR, HM2, HB⟩
          case measure => simp [intOf]; omega
    · obtain rfl : n = i := by omega
      have HE : Hid (val L = val a * val b) := Lib.hid (by
        have h := HM.out
        rw [← HN.out] at h
        exact h.done)
      have HL : Hid (L.length = N) := Lib.hid (by rw [HM.out.len, HN.out, HN'.out, HNN.out])
      have HLO : Hid (∀ (k : Nat) z, L[k]? = some z → 0 ≤ z ∧ z ≤ 67070209294336) := Lib.hid fun k z hz => by
        have := HM.out.lo k z hz
        omega
      have HC0 := Lib.hid (Cy.start L)
      have HR0 : Hid (Row wr w.heap.size 3 (ics ([] ++ L.drop 0))) := HR
      have hNB : N ≤ 120 := by have := HNN.out; omega
      clear HM HR
      go_wp2
      go_loopw [11, 62] (fun cv iv wr => ∃ (k : Nat) (out : List Int) (cy : Int), k ≤ N ∧ iv = .int .i64 k ∧ cv = .int .i64 cy ∧ Hid (Row wr w.heap.size 3 (ics (out ++ L.drop k))) ∧ Hid (Cy L out k cy) ∧ Hid (Below w.heap.size w wr)) (fun _ iv _ => N - (intOf iv).toNat)
      case atStart => exact ⟨0, [], 0, Nat.zero_le _, rfl, rfl, HR0, HC0, HB⟩
      case round =>
        clear HR0 HC0 HB
        obtain ⟨k, out, cy, hk, rfl, rfl, HR, HC, HB⟩ := hrel
        have k0 : (0 : Int) ≤ (k : Int) := by omega
        obtain ⟨y0, y1⟩ := HC.out.rng
        by_cases hkN : k < N
        · have hkI : (k : Int) < (N : Int) := by omega
          obtain ⟨z, hz⟩ := at_ L k (by rw [HL.out]; exact hkN)
          have l1 : wr.cell? ⟨w.heap.size, k, none⟩ = some (.int .i64 z) := HR.out.intAt (at_mid HC.out.len hz)
          have hf := HR.out.frozen k
          have hg := HR.out.lt
          have hzb := HLO.out k z hz
          have w1 : IntKind.i64.wrap (z + cy) = z + cy := IntWalk.i64_in _ (by omega)
          have hs := HC.out.step hz hzb
          have hand := and_mask (z + cy) (by omega)
          obtain ⟨d, hd⟩ : ∃ d, (z + cy) % 1048576 = d := ⟨_, rfl⟩
          obtain ⟨q, hq⟩ : ∃ q, (z + cy) / 1048576 = q := ⟨_, rfl⟩
          rw [hd, hq] at hs
          rw [hd] at hand
          have HS2 := Lib.hid hs
          have HR2 : Hid (Row (wr.setCell ⟨w.heap.size, k, none⟩ (.int .i64 d)) w.heap.size 3 (ics ((out ++ [d]) ++ L.drop (k + 1)))) := Lib.hid (by
            rw [← set_mid HC.out.len hz, ← ics_set]
            exact HR.out.set _ _)
          have HB2 : Hid (Below w.heap.size w (wr.setCell ⟨w.heap.size, k, none⟩ (.int .i64 d))) := Lib.hid (Gen.b_set HB.out (Nat.le_refl _))
          clear hz hzb hs hd
          go_wp2
          go_roundw
          case rel => exact ⟨k + 1, out ++ [d], q, by omega, by go_num, rfl, HR2, HS2, HB2⟩
          case measure => simp [intOf]; omega
        · obtain rfl : N = k := by omega
          have HE2 : Hid (val out = val a * val b) := Lib.hid (HC.out.done HL.out HE.out (by rw [HNN.out]; exact HVV.out))
          have HI : Hid (Ints N0 wr (some ⟨w.heap.size, 0, none⟩) out) := Lib.hid (by
            have h := HR.out
            rw [List.drop_of_length_le (by rw [HL.out]; exact Nat.le_refl _), List.append_nil] at h
            exact (h.ints' (N0 := N0)))
          go_wp2_with (fail)
          go_must (refine (trim_any _ N N out _ HC.out.len HI.out (Nat.le_refl _) (by omega)).mono ?_)
          rintro e w2 ⟨k, hkn, rfl, hT, hV, rfl⟩
          have HT := Lib.hid hT
          have HV2 := Lib.hid hV
          clear hT hV
          go_wp2
          go_ret
          exact ⟨_, N, out.take k, by rw [List.length_take, HC.out.len, Nat.min_eq_left hkn]; rfl, ints_take HI.out k, ⟨HC.out.dg.take k, HT.out, HV2.out.trans HE2.out⟩, HB.out⟩
set_option maxRecDepth 100000 in
set_option maxHeartbeats 4000000 in
theorem mul_nil {A A' : Option Addr} {n n' c c' : Nat} (w : World) (h0 : n = 0 ∨ n' = 0) (hbig : n ≤ 60) (hbig' : n' ≤ 60) :
    Calls Tryz.prog 73 #[.slice A n c, .slice A' n' c'] w fun e w' => e = .returned (.slice none 0 0) ∧ w = w' := by
  by_cases h : n = 0
  · have hz1 : ((n : Int) == 0) = true := by simp [h]
    clear h0 h
    go_enter Tryz.func73, Tryz.ntmps73
    go_wp2
    go_ret
    exact ⟨rfl, rfl⟩
  · have hz1 : ((n : Int) == 0) = false := by simp; omega
    have hz2 : ((n' : Int) == 0) = true := by simp; omega
    clear h0 h
    go_enter Tryz.func73, Tryz.ntmps73
    go_wp2
    go_ret
    exact ⟨rfl, rfl⟩
theorem mul_any {A A' : Option Addr} {n n' c c' : Nat} {a b : List Int} (w : World) (hn : a.length = n) (hn' : b.length = n') (ha : Ints N0 w A a) (hb : Ints N0 w A' b) (da : Dg a) (db : Dg b) (hbig : n ≤ 60) (hbig' : n' ≤ 60) :
    Calls Tryz.prog 73 #[.slice A n c, .slice A' n' c'] w fun e w' => ∃ A2 c2 l, e = .returned (.slice A2 l.length c2) ∧ Ints N0 w' A2 l ∧ Nm l (val a * val b) ∧ Below w.heap.size w w' := by
  by_cases h0 : n = 0 ∨ n' = 0
  · refine (mul_nil w h0 hbig hbig').mono fun e w' h => ?_
    obtain ⟨rfl, rfl⟩ := h
    refine ⟨none, 0, [], rfl, Ints.nil _ _ _, ?_, Below.refl _ _⟩
    have : val a * val b = 0 := by
      rcases h0 with h0 | h0
      · rw [List.eq_nil_of_length_eq_zero (hn.trans h0), val_nil]; simp
      · rw [List.eq_nil_of_length_eq_zero (hn'.trans h0), val_nil]; simp
    rw [this]
    exact Nm.zero
  · exact mul_pos w hn hn' ha hb da db hbig hbig' (by omega) (by omega)
end Go.Proofs.YtnifkianjpjahaaGreatDoor.Bg
/- Big integers: copies, equality, signs. -/
namespace Go.Proofs.YtnifkianjpjahaaGreatDoor.Bg
open Go.ChangeShapes Go.WideShapes Go.ChangeAt Go.RowKit Go.Proofs.YtnifkianjpjahaaGreatDoor.Cell
set_option linter.unusedVariables false
set_option linter.unusedSimpArgs false
variable {N0 : Nat}

theorem ints_reads {w : World} {A : Option Addr} {us : List Int} {n : Nat} (hn : us.length = n) (h : Ints N0 w A us) : App.Reads w w.heap.size 1 A n (ints us) :=
  ⟨by simp [ints, hn], fun h0 => by
    obtain ⟨b, off, e, hc⟩ := h (by omega)
    obtain ⟨z, hz⟩ := at_ us 0 (by omega)
    have hb : b < w.heap.size := World.block_lt_of_cell? w ⟨b, off + 0, none⟩ (hc 0 z hz)
    exact ⟨⟨b, off, none⟩, e, hb, fun j u hu => by
      rw [ints, List.getElem?_map] at hu
      cases hx : us[j]? with
      | none => rw [hx] at hu; simp at hu
      | some x =>
        rw [hx] at hu
        simp at hu
        subst hu
        rw [Addr.add_lit]
        exact hc j x hx⟩⟩
theorem ints_one (us : List Int) : ∀ u ∈ ints us, u.oneCell' = true := by
  intro u hu
  simp [ints] at hu
  obtain ⟨x, _, rfl⟩ := hu
  rfl
set_option maxRecDepth 100000 in
set_option maxHeartbeats 2000000 in
theorem clone_any {A : Option Addr} {n cap : Nat} {us : List Int} (w : World) (hm : us.length = n) (hc : Ints N0 w A us) (hbig : n ≤ 1000000) :
    Calls Tryz.prog 87 #[.slice A n cap] w fun e w' => ∃ A2 c2, e = .returned (.slice A2 n c2) ∧ Ints N0 w' A2 us ∧ Below w.heap.size w w' := by
  have HM := Lib.hid hm
  clear hm
  have hq := fun (W : World) => Lib.run_eql_slice_nil (P := Tryz.prog) W 22 3 A n cap 0 0 Tryz.underlying22
  cases A with
  | none =>
    obtain rfl : n = 0 := by
      by_cases h0 : 0 < n
      · obtain ⟨_, _, e, _⟩ := hc (by rw [HM.out]; exact h0)
        cases e
      · omega
    obtain rfl : us = [] := List.length_eq_zero_iff.1 HM.out
    go_enter Tryz.func87, Tryz.ntmps87
    go_wp2
    go_ret
    exact ⟨none, 0, rfl, Ints.nil _ _ _, Below.refl _ _⟩
  | some ad =>
    obtain ⟨i0, hi0, hz0, hz1, hz2⟩ := info_parts infoI
    have r1 := ints_reads HM.out hc
    have hown : (w.alloc (.cells #[] 3)).ownsRow w.heap.size 3 1 (.slice (some ⟨w.heap.size, 0, none⟩) 0 0) 0 [] :=
      ⟨rfl, .inr ⟨w.heap.size, 0, #[], rfl, Nat.le_refl _, heap_alloc_new w _, Nat.le_refl _, by simp [maxLen], rfl, rfl⟩⟩
    go_enter Tryz.func87, Tryz.ntmps87
    go_wp2_with (first
      | (at_builtin
         go_must (refine App.wpList_append_any _ rfl (.tmp 5) (.tmp 6) _ rfl w.heap.size 3 i0 _ 1 8 Tryz.underlying22 hi0 hz0 hz1 hz2 rfl (by omega) _ 0 [] rfl hown w.heap.size _ n cap (ints us) rfl (r1.alloc (Nat.le_refl _) _) (ints_one us) (by simp only [maxLen]; omega) (by omega) (by simp) ?_)
         intro v2 w2 hown2 hg2 hat2
         have hB2 := Gen.g_below hown hg2 (Gen.b_alloc (Below.refl _ _)) (Nat.le_refl _)
         rw [List.nil_append, Nat.zero_add] at hown2
         obtain ⟨A2, c2, rfl, hI2⟩ := ints_own (N0 := N0) hown2 HM.out
         have HI2 := Lib.hid hI2
         clear hg2 hat2 hown2 hI2)
      | fail)
    go_ret
    exact ⟨A2, c2, rfl, HI2.out, hB2⟩
set_option maxRecDepth 100000 in
set_option maxHeartbeats 4000000 in
theorem equal_any {A A' : Option Addr} {n n' c c' : Nat} {a b : List Int} (w : World) (hn : a.length = n) (hn' : b.length = n') (ha : Ints N0 w A a) (hb : Ints N0 w A' b) (hbig : n ≤ 9223372036854775807) (hbig' : n' ≤ 9223372036854775807) :
    Calls Tryz.prog 86 #[.slice A n c, .slice A' n' c'] w fun e w' => e = .returned (.bool (decide (a = b))) ∧ ∃ q, w' = w.drewN q := by
  by_cases hl : n = n'
  case neg =>
    have hlb : ((n : Int) != (n' : Int)) = true := by simp; omega
    have HV : Hid (decide (a = b) = false) := Lib.hid (decide_eq_false (fun e => by rw [e] at hn; omega))
    clear hn hn' ha hb
    go_enter Tryz.func86, Tryz.ntmps86
    go_wp2
    go_ret
    exact ⟨ret_bool HV.out.symm, 0, rfl⟩
  subst hl
  have HN := Lib.hid hn
  have HN' := Lib.hid hn'
  have hlb : ((n : Int) != (n : Int)) = false := by simp
  clear hn hn'
  go_enter Tryz.func86, Tryz.ntmps86
  go_wp2
  clear hlb
  go_loopw [13] (fun v wr => ∃ k : Nat, k ≤ n ∧ v = .int .i64 k ∧ Hid (a.take k = b.take k) ∧ ∃ q, wr = w.drewN q) (fun v _ => n - (intOf v).toNat)
  case atStart => exact ⟨0, Nat.zero_le _, rfl, Lib.hid (by rw [List.take_zero, List.take_zero]), 0, rfl⟩
  case round =>
    obtain ⟨k, hk, rfl, HE, q, rfl⟩ := hrel
    have k0 : (0 : Int) ≤ (k : Int) := by omega
    by_cases hlt : k < n
    · have hltI : (k : Int) < (n : Int) := by omega
      obtain ⟨b1, o1, rfl, hc1⟩ := ha (by rw [HN.out]; omega)
      obtain ⟨b2, o2, rfl, hc2⟩ := hb (by rw [HN'.out]; omega)
      obtain ⟨x, hx⟩ := at_ a k (by rw [HN.out]; omega)
      obtain ⟨y, hy⟩ := at_ b k (by rw [HN'.out]; omega)
      have c1 := hc1 k x hx
      have c2 := hc2 k y hy
      have HX := Lib.hid hx
      have HY := Lib.hid hy
      clear hx hy hc1 hc2 ha hb
      by_cases hxy : x = y
      · have hxb : (x != y) = false := by simp [hxy]
        have HE2 : Hid (a.take (k + 1) = b.take (k + 1)) := Lib.hid (by rw [take_snoc HX.out, take_snoc HY.out, HE.out, hxy])
        clear hxy
        go_wp2
        go_quiet (fail)
        go_wp2
        go_roundw
        case rel => exact ⟨k + 1, by omega, by go_num, HE2, _, rfl⟩
        case measure => simp [intOf]; omega
      · have hxb : (x != y) = true := by simp [hxy]
        have HV : Hid (decide (a = b) = false) := Lib.hid (decide_eq_false (fun e => hxy (by
          have h1 := HX.out
          rw [e, HY.out] at h1
          injection h1 with h1
          exact h1.symm)))
        clear hxy
        go_wp2
        go_quiet (fail)
        go_wp2
        go_ret
        exact ⟨ret_bool HV.out.symm, _, World.drewN_drewN _ _ _⟩
    · obtain rfl : n = k := by omega
      have HV : Hid (decide (a = b) = true) := Lib.hid (decide_eq_true (by
        have h := HE.out
        rwa [List.take_of_length_le (by rw [HN.out]; exact Nat.le_refl _), List.take_of_length_le (by rw [HN'.out]; exact Nat.le_refl _)] at h))
      go_wp2
      go_ret
      exact ⟨ret_bool HV.out.symm, q, rfl⟩
/-- a big integer of sign, digits -/
abbrev bigV (s : Int) (A : Option Addr) (n c : Nat) : Value := .agg #[.int .i64 s, .slice A n c]
def sg (z : Int) : Int := if z < 0 then -1 else if 0 < z then 1 else 0
structure IsBig (N0 : Nat) (w : World) (v : Value) (z : Int) : Prop where
  ex : ∃ A c l, v = bigV (sg z) A l.length c ∧ Ints N0 w A l ∧ Nm l z.natAbs ∧ l.length ≤ 60
theorem IsBig.keep {w w1 : World} {v : Value} {z : Int} (h : IsBig N0 w v z) (hb : Below w.heap.size w w1) : IsBig N0 w1 v z := by
  obtain ⟨A, c, l, e, h1, h2, h3⟩ := h.ex
  exact ⟨A, c, l, e, h1.keep hb, h2, h3⟩
abbrev zeroV : Value := bigV 0 none 0 0
theorem IsBig.zero (w : World) : IsBig N0 w zeroV 0 := ⟨none, 0, [], rfl, Ints.nil _ _ _, Nm.zero, by simp⟩
/-- whether an integer has at most 60 digits -/
def Fit (z : Int) : Prop := -(pw 60) < z ∧ z < pw 60
instance decFit (z : Int) : Decidable (Fit z) := inferInstanceAs (Decidable (_ ∧ _))
def fe (z : Int) : Int := if Fit z then 0 else 6
def fz (z : Int) : Int := if Fit z then z else 0
theorem Fit.len {z : Int} {l : List Int} (h : Nm l z.natAbs) : l.length ≤ 60 ↔ Fit z := by
  rw [h.len 60]
  unfold Fit
  omega
theorem fe_yes {z : Int} (h : Fit z) : fe z = 0 := if_pos h
theorem fz_yes {z : Int} (h : Fit z) : fz z = z := if_pos h
theorem fe_no {z : Int} (h : ¬ Fit z) : fe z = 6 := if_neg h
theorem fz_no {z : Int} (h : ¬ Fit z) : fz z = 0 := if_neg h
theorem sg_zero : sg 0 = 0 := rfl
theorem sg_in (z : Int) : -1 ≤ sg z ∧ sg z ≤ 1 := by unfold sg; split <;> (try split) <;> omega
theorem sg_eq (z : Int) : z = sg z * (z.natAbs : Int) := by
  unfold sg
  split
  · omega
  · split <;> omega
theorem sg_of {s m : Int} (hs : -1 ≤ s ∧ s ≤ 1) (hm : 0 ≤ m) (h0 : s = 0 ↔ m = 0) : sg (s * m) = s ∧ ((s * m).natAbs : Int) = m := by
  have : s = -1 ∨ s = 0 ∨ s = 1 := by omega
  rcases this with rfl | rfl | rfl
  · unfold sg; constructor
    · rw [if_pos (by omega)]
    · omega
  · unfold sg; constructor
    · rw [if_neg (by omega), if_neg (by omega)]
    · omega
  · unfold sg; constructor
    · rw [if_neg (by omega), if_pos (by omega)]
    · omega
/-- digits and a sign that are right -/
theorem right_big {w : World} {s : Int} {A : Option Addr} {n c : Nat} {l : List Int} (hn : l.length = n) (h : rgtB s l = true) (hc : Ints N0 w A l) : ∃ z, IsBig N0 w (bigV s A n c) z := by
  obtain ⟨h1, h2, h3, h4, h5⟩ := rgtB_in h
  have hz := val_zero h4 h5
  have hv := val_nonneg h4
  obtain ⟨e1, e2⟩ := sg_of h1 hv (by rw [hz, ← h3, List.length_eq_zero_iff])
  refine ⟨s * val l, A, c, l, by rw [e1, hn], hc, ?_, h2⟩
  rw [e2]
  exact ⟨h4, h5, rfl⟩
theorem IsBig.right {w : World} {s : Int} {A : Option Addr} {n c : Nat} {l : List Int} {z : Int} (h1 : s = sg z) (h2 : Nm l z.natAbs) (h3 : l.length ≤ 60) : rgtB s l = true := by
  subst h1
  refine rgtB_yes (sg_in z) h3 ?_ h2.1 h2.2.1
  rw [List.length_eq_zero_iff, h2.nil]
  unfold sg
  split
  · omega
  · split <;> omega
set_option maxRecDepth 100000 in
set_option maxHeartbeats 4000000 in
theorem signed_any {s z : Int} {A : Option Addr} {n c : Nat} {l : List Int} (w : World) (hn : l.length = n) (hc : Ints N0 w A l) (hl : Nm l z.natAbs) (h60 : n ≤ 60) (hs : z ≠ 0 → s = sg z) :
    Calls Tryz.prog 78 #[.int .i64 s, .slice A n c] w fun e w' => ∃ v, e = .returned v ∧ IsBig N0 w' v z ∧ Below w.heap.size w w' := by
  by_cases h0 : n = 0
  · have hz0 : z = 0 := by
      have := hl.nil.1 (List.eq_nil_of_length_eq_zero (hn.trans h0))
      omega
    have HZ := Lib.hid hz0
    have hb : ((n : Int) == 0) = true := by simp [h0]
    clear hn hc hl hs h0 hz0
    go_enter Tryz.func78, Tryz.ntmps78
    go_wp2
    refine bodyPost_ret (v := zeroV) ?_ rfl ⟨_, rfl, by rw [HZ.out]; exact IsBig.zero _, by go_grown⟩
    simp [results, Tryz.results78, go_sem]
  · have hz0 : z ≠ 0 := fun e => h0 (by
      have := hl.nil.2 (by rw [e]; rfl)
      rw [← hn, this]; rfl)
    have HS := Lib.hid (hs hz0)
    have HB := Lib.hid (show IsBig N0 w (bigV s A n c) z from ⟨A, c, l, by rw [HS.out, hn], hc, hl, by omega⟩)
    have hb : ((n : Int) == 0) = false := by simp; omega
    clear hn hc hl hs h0 hz0
    go_enter Tryz.func78, Tryz.ntmps78
    go_wp2
    refine bodyPost_ret (v := bigV s A n c) ?_ rfl ⟨_, rfl, HB.out.keep (by go_grown), by go_grown⟩
    simp [results, Tryz.results78, go_sem]
end Go.Proofs.YtnifkianjpjahaaGreatDoor.Bg
