/- Integers as lists of digits of 20 bits, the lowest one first: plain facts. -/
import Derived.Test.YtnifkianjpjahaaDoorBase
import Derived.Laws.BitsLemmas
namespace Go.Proofs.YtnifkianjpjahaaDoor.Bg
open Go.RowKit Go.Proofs.YtnifkianjpjahaaDoor.Cell
set_option linter.unusedVariables false
set_option linter.unusedSimpArgs false

/-- what digits say -/
def val : List Int → Int
  | [] => 0
  | d :: t => d + 1048576 * val t
/-- each is a digit -/
def Dg (l : List Int) : Prop := ∀ d ∈ l, 0 ≤ d ∧ d < 1048576
/-- the last one is not 0 -/
def Tr (l : List Int) : Prop := l.getLast? ≠ some 0
/-- so many digits -/
def pw (n : Nat) : Int := 1048576 ^ n
theorem pw_zero : pw 0 = 1 := rfl
theorem pw_succ (n : Nat) : pw (n + 1) = pw n * 1048576 := Int.pow_succ _ _
theorem pw_pos (n : Nat) : 1 ≤ pw n := by
  induction n with
  | zero => rw [pw_zero]; omega
  | succ n ih => rw [pw_succ]; omega
theorem pw_add (m n : Nat) : pw (m + n) = pw m * pw n := Int.pow_add _ _ _
theorem pw_le {m n : Nat} (h : m ≤ n) : pw m ≤ pw n := by
  obtain ⟨k, rfl⟩ : ∃ k, n = m + k := ⟨n - m, by omega⟩
  clear h
  induction k with
  | zero => exact Int.le_refl _
  | succ k ih =>
    have := pw_pos (m + k)
    rw [← Nat.add_assoc, pw_succ]
    omega
theorem last_snoc {l : List Int} (h : l ≠ []) : ∃ t d, l = t ++ [d] := ⟨l.dropLast, l.getLast h, (List.dropLast_concat_getLast h).symm⟩
theorem pw_lt {m n : Nat} (h : m < n) : pw m < pw n := by
  have h1 := pw_le (show m + 1 ≤ n by omega)
  have h2 := pw_pos m
  rw [pw_succ] at h1
  omega
theorem val_nil : val [] = 0 := rfl
theorem val_cons (d : Int) (t : List Int) : val (d :: t) = d + 1048576 * val t := rfl
theorem Dg.tail {d : Int} {t : List Int} (h : Dg (d :: t)) : Dg t := fun x hx => h x (List.mem_cons_of_mem _ hx)
theorem Dg.head {d : Int} {t : List Int} (h : Dg (d :: t)) : 0 ≤ d ∧ d < 1048576 := h d (List.mem_cons_self ..)
theorem Dg.nil : Dg [] := fun x hx => by simp at hx
theorem Dg.snoc {l : List Int} {d : Int} (h : Dg l) (hd : 0 ≤ d ∧ d < 1048576) : Dg (l ++ [d]) := fun x hx => by
  rcases List.mem_append.1 hx with hx | hx
  · exact h x hx
  · obtain rfl := List.mem_singleton.1 hx
    exact hd
theorem Dg.take {l : List Int} (h : Dg l) (k : Nat) : Dg (l.take k) := fun x hx => h x (List.mem_of_mem_take hx)
theorem Dg.drop {l : List Int} (h : Dg l) (k : Nat) : Dg (l.drop k) := fun x hx => h x (List.mem_of_mem_drop hx)
theorem Dg.at_ {l : List Int} (h : Dg l) {k : Nat} {d : Int} (hd : l[k]? = some d) : 0 ≤ d ∧ d < 1048576 := h d (mem_of_at hd)
theorem Dg.append {a b : List Int} (ha : Dg a) (hb : Dg b) : Dg (a ++ b) := fun x hx => by
  rcases List.mem_append.1 hx with hx | hx
  · exact ha x hx
  · exact hb x hx
theorem val_nonneg {l : List Int} (h : Dg l) : 0 ≤ val l := by
  induction l with
  | nil => rw [val_nil]; omega
  | cons d t ih =>
    have := ih h.tail
    have := h.head
    rw [val_cons]
    omega
theorem val_lt {l : List Int} (h : Dg l) : val l < pw l.length := by
  induction l with
  | nil => rw [val_nil, List.length_nil, pw_zero]; omega
  | cons d t ih =>
    have := ih h.tail
    have := h.head
    rw [val_cons, List.length_cons, pw_succ]
    omega
theorem val_append (a b : List Int) : val (a ++ b) = val a + pw a.length * val b := by
  induction a with
  | nil => rw [List.nil_append, val_nil, List.length_nil, pw_zero]; omega
  | cons d t ih =>
    rw [List.cons_append, val_cons, val_cons, ih, List.length_cons, pw_succ, Int.mul_add, Int.add_assoc]
    congr 1
    rw [Int.mul_comm (pw t.length) 1048576, Int.mul_assoc]
theorem val_snoc (a : List Int) (d : Int) : val (a ++ [d]) = val a + pw a.length * d := by
  rw [val_append, val_cons, val_nil]
  simp
theorem val_take_succ {l : List Int} {k : Nat} {d : Int} (h : l[k]? = some d) : val (l.take (k + 1)) = val (l.take k) + pw k * d := by
  have hl := lt_of_at h
  rw [take_snoc h, val_snoc, List.length_take, Nat.min_eq_left (by omega)]
theorem val_set {l : List Int} {k : Nat} {d x : Int} (h : l[k]? = some d) : val (l.set k x) = val l + pw k * (x - d) := by
  induction l generalizing k with
  | nil => simp at h
  | cons y t ih =>
    cases k with
    | zero =>
      have : y = d := by simpa using h
      subst this
      rw [List.set_cons_zero, val_cons, val_cons, pw_zero]
      omega
    | succ k =>
      rw [List.set_cons_succ, val_cons, val_cons, ih (by simpa using h), pw_succ, Int.mul_add, Int.mul_comm (pw k) 1048576, Int.mul_assoc]
      omega
theorem val_split (l : List Int) (k : Nat) (hk : k ≤ l.length) : val l = val (l.take k) + pw k * val (l.drop k) := by
  have := val_append (l.take k) (l.drop k)
  rw [List.take_append_drop, List.length_take, Nat.min_eq_left hk] at this
  exact this
theorem Tr.nil : Tr [] := by simp [Tr]
theorem Tr.snoc {l : List Int} {d : Int} (h : d ≠ 0) : Tr (l ++ [d]) := by simp [Tr, h]
/-- digits that are trimmed say much -/
theorem val_ge {l : List Int} (h : Dg l) (ht : Tr l) (h0 : l ≠ []) : pw (l.length - 1) ≤ val l := by
  obtain ⟨t, d, rfl⟩ : ∃ t d, l = t ++ [d] := last_snoc h0
  have h1 : Dg t := fun x hx => h x (List.mem_append.2 (.inl hx))
  have h2 := h d (by simp)
  have h3 : d ≠ 0 := by simpa [Tr] using ht
  rw [val_snoc, List.length_append, List.length_singleton, Nat.add_sub_cancel]
  have h4 := val_nonneg h1
  have h5 := pw_pos t.length
  have h6 : pw t.length * 1 ≤ pw t.length * d := Int.mul_le_mul_of_nonneg_left (by omega) (by omega)
  omega
theorem tr_of_ge {l : List Int} (h : Dg l) (hv : pw (l.length - 1) ≤ val l) : Tr l := by
  intro e
  by_cases h0 : l = []
  · subst h0; simp at e
  obtain ⟨t, d, rfl⟩ : ∃ t d, l = t ++ [d] := last_snoc h0
  have : d = 0 := by simpa using e
  subst this
  have h1 : Dg t := fun x hx => h x (List.mem_append.2 (.inl hx))
  rw [val_snoc, List.length_append, List.length_singleton, Nat.add_sub_cancel] at hv
  have := val_lt h1
  simp at hv
  omega
theorem val_zero {l : List Int} (h : Dg l) (ht : Tr l) : val l = 0 ↔ l = [] := by
  constructor
  · intro h0
    by_cases e : l = []
    · exact e
    · have := val_ge h ht e
      have := pw_pos (l.length - 1)
      omega
  · rintro rfl; rfl
theorem dg_inj : ∀ {a b : List Int}, Dg a → Dg b → a.length = b.length → val a = val b → a = b
  | [], [], _, _, _, _ => rfl
  | [], _ :: _, _, _, h, _ => by simp at h
  | _ :: _, [], _, _, h, _ => by simp at h
  | x :: s, y :: t, ha, hb, hl, hv => by
    rw [val_cons, val_cons] at hv
    have h1 := ha.head
    have h2 := hb.head
    have e1 : x = y := by omega
    subst e1
    have e2 : val s = val t := by omega
    rw [dg_inj ha.tail hb.tail (by simpa using hl) e2]
theorem dg_uniq {a b : List Int} (ha : Dg a) (hb : Dg b) (ta : Tr a) (tb : Tr b) (h : val a = val b) : a = b := by
  refine dg_inj ha hb ?_ h
  by_cases ea : a = []
  · subst ea
    rw [((val_zero hb tb).1 (by rw [← h]; rfl))]
  by_cases eb : b = []
  · subst eb
    rw [((val_zero ha ta).1 (by rw [h]; rfl))]
  have l1 : 0 < a.length := List.length_pos_iff.2 ea
  have l2 : 0 < b.length := List.length_pos_iff.2 eb
  have a1 := val_ge ha ta ea
  have a2 := val_lt ha
  have b1 := val_ge hb tb eb
  have b2 := val_lt hb
  rcases Nat.lt_trichotomy a.length b.length with c | c | c
  · have := pw_le (show a.length ≤ b.length - 1 by omega)
    omega
  · exact c
  · have := pw_le (show b.length ≤ a.length - 1 by omega)
    omega
/-- fewer digits, a lesser number -/
theorem val_len_lt {a b : List Int} (ha : Dg a) (hb : Dg b) (tb : Tr b) (h : a.length < b.length) : val a < val b := by
  have h1 := val_lt ha
  have h2 := val_ge hb tb (by intro e; subst e; simp at h)
  have := pw_le (show a.length ≤ b.length - 1 by omega)
  omega
/-- the digits of a number -/
def Nm (l : List Int) (z : Int) : Prop := Dg l ∧ Tr l ∧ val l = z
theorem Nm.uniq {a b : List Int} {z : Int} (ha : Nm a z) (hb : Nm b z) : a = b := dg_uniq ha.1 hb.1 ha.2.1 hb.2.1 (ha.2.2.trans hb.2.2.symm)
theorem Nm.zero : Nm [] 0 := ⟨Dg.nil, Tr.nil, rfl⟩
theorem Nm.nonneg {l : List Int} {z : Int} (h : Nm l z) : 0 ≤ z := by rw [← h.2.2]; exact val_nonneg h.1
theorem Nm.nil {l : List Int} {z : Int} (h : Nm l z) : l = [] ↔ z = 0 := by rw [← h.2.2]; exact (val_zero h.1 h.2.1).symm
/-- how many digits a number has -/
theorem Nm.len {l : List Int} {z : Int} (h : Nm l z) (n : Nat) : l.length ≤ n ↔ z < pw n := by
  constructor
  · intro hl
    have := val_lt h.1
    have := pw_le hl
    rw [← h.2.2]
    omega
  · intro hz
    by_cases e : l = []
    · subst e; simp
    have h1 := val_ge h.1 h.2.1 e
    rw [h.2.2] at h1
    by_cases hc : l.length ≤ n
    · exact hc
    · have := pw_le (show n ≤ l.length - 1 by omega)
      omega
/-- trimming: what remains of zeros at the end -/
theorem val_take_zero {l : List Int} {k : Nat} (h : l[k]? = some 0) (hk : l.length = k + 1) : val (l.take k) = val l := by
  have := val_take_succ h
  rw [List.take_of_length_le (by omega)] at this
  omega
theorem tr_take {l : List Int} {k : Nat} {d : Int} (h : l[k]? = some d) (hd : d ≠ 0) : Tr (l.take (k + 1)) := by
  rw [take_snoc h]
  exact Tr.snoc hd
theorem dgt_pow (k : Nat) : (pw k).natAbs = 1048576 ^ k := by
  unfold pw
  rw [Int.natAbs_pow]
  rfl
/-- digits exist -/
theorem Nm.ex (z : Nat) : ∃ l, Nm l z := by
  induction z using Nat.strongRecOn with
  | _ z ih =>
    by_cases h0 : z = 0
    · subst h0; exact ⟨[], Nm.zero⟩
    · obtain ⟨t, ht⟩ := ih (z / 1048576) (by omega)
      refine ⟨((z % 1048576 : Nat) : Int) :: t, fun d hd => ?_, ?_, ?_⟩
      · rcases List.mem_cons.1 hd with rfl | hd
        · omega
        · exact ht.1 d hd
      · by_cases e : t = []
        · subst e
          have := ht.nil.1 rfl
          simp [Tr]
          omega
        · unfold Tr
          rw [List.getLast?_cons]
          have := ht.2.1
          unfold Tr at this
          cases hq : t.getLast? with
          | none => simp at hq; exact absurd hq e
          | some q =>
            rw [hq] at this
            simpa using this
      · rw [val_cons, ht.2.2]
        omega
/-- bits of numbers -/
theorem and_mask (n : Int) (h : -9223372036854775808 ≤ n ∧ n ≤ 9223372036854775807) : bits .and .i64 n 1048575 = n % 1048576 := by
  have e : (1048575 : Int) = ((1048575 : Nat) : Int) := rfl
  obtain ⟨m, hm⟩ : ∃ m : Nat, (BitVec.ofInt 64 n).toNat = m := ⟨_, rfl⟩
  have hm2 : (m : Int) = n % 18446744073709551616 := by
    rw [← hm, BitVec.toNat_ofInt]
    omega
  have h3 : m &&& 1048575 = m % 1048576 := Nat.and_two_pow_sub_one_eq_mod m 20
  have h4 : bits .and .i64 n 1048575 = IntKind.i64.wrap ((m &&& 1048575 : Nat) : Int) := by
    rw [e]
    simp only [bits, IntKind.bits, BitVec.ofInt_natCast]
    congr 2
    exact (BitVec.toNat_and (BitVec.ofInt 64 n) (1048575#64)).trans (by rw [hm]; rfl)
  rw [h4, h3, IntWalk.i64_in _ (by omega)]
  omega
theorem or_join (x y : Int) (hx : 0 ≤ x ∧ x < 8796093022208) (hy : 0 ≤ y ∧ y < 1048576) : bits .or .i64 (x * 1048576) y = x * 1048576 + y :=
  bits_join .i64 63 (by decide) (fun n h0 h1 => IntWalk.i64_in n (by omega)) 20 (x * 1048576) y (by omega) (by omega) (by omega) hy.1 hy.2 (by omega)
end Go.Proofs.YtnifkianjpjahaaDoor.Bg
