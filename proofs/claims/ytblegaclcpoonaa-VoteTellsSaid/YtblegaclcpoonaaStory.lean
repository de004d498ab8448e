/- Breaches day by day, in plain words: what the story of a promise comes to. -/
import Derived.Test.YtblegaclcpoonaaBrB
namespace Go.Proofs.Ytblegaclcpoonaa.Br
open Go.RowKit
set_option linter.unusedVariables false

/-- what one day makes of a breach -/
def stp (g day kept : Int) (b : Int × Int) : Int × Int := ((nx b.1 b.2 kept g day).1, (nx b.1 b.2 kept g day).2.1)
/-- the breach after so many days -/
def st (f : Nat → Int) (g fst : Int) : Nat → Int × Int
  | 0 => (0, 0)
  | k + 1 => stp g (fst + k) (f k) (st f g fst k)
/-- a day on which the promise is not kept, and not kept again until the grace is over -/
def bad (f : Nat → Int) (g i : Nat) : Prop := f i = 0 ∧ ∀ m, i < m → m ≤ i + g → f m ≠ 1

theorem nx_go {s d kept grace day : Int} (q : 0 ≤ kept ∧ kept < 3 ∧ 0 ≤ grace ∧ grace ≤ 1000) (h1 : okB s d = true) (h2 : 0 ≤ day ∧ day ≤ 200000) (h3 : d ≤ day) :
    nx s d kept grace day = if s = 0 ∧ kept = 0 ∧ grace = 0 then (2, day, 0)
  else if s = 0 ∧ kept = 0 then (1, day, 0)
  else if s = 1 ∧ kept = 1 then (0, 0, 0)
  else if s = 1 ∧ d + grace ≤ day then (2, day, 0)
  else (s, d, 0) := by
  unfold nx
  rw [if_neg (fun h => h q), if_neg (by rw [rdy_mk h1 (decide_eq_true h2) h3]; simp)]

inductive Sto (f : Nat → Int) (g : Nat) (fst : Int) (k : Nat) : Int × Int → Prop
  | none (h1 : ∀ i, i + g < k → ¬ bad f g i) (h2 : ∀ i, i < k → f i = 0 → ∃ m, i < m ∧ m < k ∧ f m = 1) : Sto f g fst k (0, 0)
  | breach (i : Nat) (h1 : ∀ j, j + g < k → ¬ bad f g j) (hi : i < k) (hk : k ≤ i + g) (h0 : f i = 0) (h2 : ∀ m, i < m → m < k → f m ≠ 1)
      (h3 : ∀ j, j < i → f j = 0 → ∃ m, j < m ∧ m < i ∧ f m = 1) : Sto f g fst k (1, fst + i)
  | default (i : Nat) (hi : i + g < k) (hb : bad f g i) (h3 : ∀ j, j < i → ¬ bad f g j) : Sto f g fst k (2, fst + (i + g : Nat))

theorem Sto.right {f : Nat → Int} {g : Nat} {fst : Int} {k : Nat} {b : Int × Int} (h : Sto f g fst k b) (h0 : 0 ≤ fst) (hk : fst + k ≤ 200001) : okB b.1 b.2 = true ∧ b.2 ≤ fst + k := by
  cases h with
  | none => exact ⟨by decide, by simp only; omega⟩
  | breach i h1 hi => exact ⟨okB_mk (by simp only; omega), by simp only; omega⟩
  | default i hi => exact ⟨okB_mk (by simp only; omega), by simp only; omega⟩

theorem inv_step {f : Nat → Int} {g : Nat} {fst : Int} {k : Nat} {b : Int × Int} (hf : 0 ≤ f k ∧ f k < 3) (hg : g ≤ 1000) (h0 : 0 ≤ fst) (hk : fst + k ≤ 200000) (h : Sto f g fst k b) :
    (nx b.1 b.2 (f k) g (fst + k)).2.2 = 0 ∧ Sto f g fst (k + 1) (stp g (fst + k) (f k) b) := by
  obtain ⟨r1, r2⟩ := h.right h0 (by omega)
  have e := nx_go (grace := (g : Int)) ⟨hf.1, hf.2, by omega, by omega⟩ r1 ⟨by omega, hk⟩ r2
  unfold stp
  rw [e]
  clear e r1 r2
  cases h with
  | none h1 h2 =>
    simp only [true_and, if_neg (show ¬ ((0 : Int) = 1 ∧ f k = 1) from by omega), if_neg (show ¬ ((0 : Int) = 1 ∧ (0 : Int) + g ≤ fst + k) from by omega)]
    have new : ∀ i, i + g < k + 1 → i + g ≠ k → ¬ bad f g i := fun i hi hn => h1 i (by omega)
    have old : ∀ i, i < k → i + g = k → ¬ bad f g i := fun i hi hn hb => by
      obtain ⟨m, m1, m2, m3⟩ := h2 i hi hb.1
      exact hb.2 m m1 (by omega) m3
    by_cases hx : f k = 0
    · by_cases hg0 : g = 0
      · subst hg0
        rw [if_pos ⟨hx, rfl⟩]
        exact ⟨rfl, .default k (by omega) ⟨hx, fun m a b => by omega⟩ (fun j hj => h1 j (by omega))⟩
      · rw [if_neg (by omega), if_pos hx]
        refine ⟨rfl, .breach k (fun j hj => ?_) (by omega) (by omega) hx (fun m a b => by omega) h2⟩
        by_cases hn : j + g = k
        · exact old j (by omega) hn
        · exact new j hj hn
    · rw [if_neg (fun h => hx h.1), if_neg hx]
      refine ⟨rfl, .none (fun j hj => ?_) (fun i hi hi0 => ?_)⟩
      · by_cases hn : j + g = k
        · by_cases hj : j = k
          · subst hj; exact fun hb => hx hb.1
          · exact old j (by omega) hn
        · exact new j hj hn
      · by_cases hi : i = k
        · subst hi; exact absurd hi0 hx
        · obtain ⟨m, m1, m2, m3⟩ := h2 i (by omega) hi0
          exact ⟨m, m1, by omega, m3⟩
  | breach i h1 hi hik h00 h2 h3 =>
    simp only [if_neg (show ¬ ((1 : Int) = 0 ∧ f k = 0 ∧ (g : Int) = 0) from by omega), if_neg (show ¬ ((1 : Int) = 0 ∧ f k = 0) from by omega), true_and]
    have old : ∀ j, j < i → j + g < k + 1 → ¬ bad f g j := fun j hj hjk => by
      by_cases hn : j + g = k
      · intro hb
        obtain ⟨m, m1, m2, m3⟩ := h3 j hj hb.1
        exact hb.2 m m1 (by omega) m3
      · exact h1 j (by omega)
    by_cases hx : f k = 1
    · rw [if_pos hx]
      refine ⟨rfl, .none (fun j hj hb => ?_) (fun j hj hj0 => ?_)⟩
      · by_cases hn : j + g = k
        · exact hb.2 k (by omega) (by omega) hx
        · exact h1 j (by omega) hb
      · by_cases hjk : j = k
        · subst hjk; omega
        · exact ⟨k, by omega, by omega, hx⟩
    · rw [if_neg hx]
      by_cases hd : fst + (i : Int) + g ≤ fst + k
      · obtain rfl : k = i + g := by omega
        rw [if_pos hd]
        refine ⟨rfl, .default i (by omega) ⟨h00, fun m a b => ?_⟩ (fun j hj => old j hj (by omega))⟩
        by_cases hm : m = i + g
        · subst hm; exact hx
        · exact h2 m a (by omega)
      · rw [if_neg hd]
        refine ⟨rfl, .breach i (fun j hj => old j (by omega) hj) (by omega) (by omega) h00 (fun m a b => ?_) h3⟩
        by_cases hm : m = k
        · subst hm; exact hx
        · exact h2 m a (by omega)
  | default i hi hb h3 =>
    simp only [if_neg (show ¬ ((2 : Int) = 0 ∧ f k = 0 ∧ (g : Int) = 0) from by omega), if_neg (show ¬ ((2 : Int) = 0 ∧ f k = 0) from by omega),
      if_neg (show ¬ ((2 : Int) = 1 ∧ f k = 1) from by omega), if_neg (show ¬ ((2 : Int) = 1 ∧ fst + ((i + g : Nat) : Int) + g ≤ fst + k) from by omega)]
    exact ⟨trivial, .default i (by omega) hb h3⟩

theorem inv_all {f : Nat → Int} {g : Nat} {fst : Int} {n : Nat} (hf : ∀ i, 0 ≤ f i ∧ f i < 3) (hg : g ≤ 1000) (h0 : 0 ≤ fst) (hn : fst + n ≤ 200000) : ∀ k, k ≤ n → Sto f g fst k (st f g fst k)
  | 0, _ => .none (fun i h => by omega) (fun i h => by omega)
  | k + 1, h => (inv_step (hf k) hg h0 (by omega) (inv_all hf hg h0 hn k (by omega))).2

/-- on which day there is a default, if on any, as it is told -/
def Ex (f : Nat → Int) (g n : Nat) (e : Int) : Prop := (e = -1 ∧ ∀ i, i + g < n → ¬ bad f g i) ∨ ∃ i, e = (i + g : Nat) ∧ i + g < n ∧ bad f g i ∧ ∀ j, j < i → ¬ bad f g j
/-- the first day of a default -/
def Fa (l : List (Int × Int)) (e : Int) : Prop := (e = -1 ∧ ∀ (i : Nat) (p : Int × Int), l[i]? = some p → p.1 ≠ 2) ∨ ∃ (i : Nat) (p : Int × Int), e = i ∧ l[i]? = some p ∧ p.1 = 2 ∧ ∀ (j : Nat) (p : Int × Int), j < i → l[j]? = some p → p.1 ≠ 2
def hist (f : Nat → Int) (g fst : Int) (n : Nat) : List (Int × Int) := (List.range n).map fun i => st f g fst (i + 1)
theorem hist_snoc (f : Nat → Int) (g fst : Int) (n : Nat) : hist f g fst (n + 1) = hist f g fst n ++ [st f g fst (n + 1)] := by simp [hist, List.range_succ]
theorem hist_length (f : Nat → Int) (g fst : Int) (n : Nat) : (hist f g fst n).length = n := by simp [hist]
theorem hist_at {f : Nat → Int} {g fst : Int} {n j : Nat} {p : Int × Int} (h : (hist f g fst n)[j]? = some p) : j < n ∧ p = st f g fst (j + 1) := by
  have hj : j < n := by have := (List.getElem?_eq_some_iff.1 h).1; simpa [hist] using this
  refine ⟨hj, ?_⟩
  simp [hist, hj] at h
  exact h.symm
theorem hist_get {f : Nat → Int} {g fst : Int} {n j : Nat} (h : j < n) : (hist f g fst n)[j]? = some (st f g fst (j + 1)) := by simp [hist, h]

section
variable {f : Nat → Int} {g : Nat} {fst : Int} {n : Nat} (hf : ∀ i, 0 ≤ f i ∧ f i < 3) (hg : g ≤ 1000) (h0 : 0 ≤ fst) (hn : fst + n ≤ 200000)
include hf hg h0 hn
/-- the breach on a day, by when there is a default -/
theorem st_late {e : Int} (h : Ex f g n e) (he : 0 ≤ e) {k : Nat} (hk : k < n) (hek : e ≤ k) : st f g fst (k + 1) = (2, fst + e) := by
  have hI := inv_all hf hg h0 hn (k + 1) (by omega)
  rcases h with ⟨h, _⟩ | ⟨i, rfl, hi, hb, hl⟩
  · omega
  · revert hI
    generalize st f g fst (k + 1) = b
    intro hI
    cases hI with
    | none h1 h2 => exact absurd hb (h1 i (by omega))
    | breach j h1 => exact absurd hb (h1 i (by omega))
    | default j hj hbj hlj =>
      have : i = j := by
        rcases Nat.lt_trichotomy i j with h | h | h
        · exact absurd hb (hlj i h)
        · exact h
        · exact absurd hbj (hl j h)
      subst this
      rfl
theorem st_early {e : Int} (h : Ex f g n e) {k : Nat} (hk : k < n) (hek : e < 0 ∨ (k : Int) < e) : (st f g fst (k + 1)).1 = 0 ∨ (st f g fst (k + 1)).1 = 1 := by
  have hI := inv_all hf hg h0 hn (k + 1) (by omega)
  revert hI
  generalize st f g fst (k + 1) = b
  intro hI
  cases hI with
  | none h1 h2 => exact .inl rfl
  | breach j h1 => exact .inr rfl
  | default j hj hbj hlj =>
    exfalso
    rcases h with ⟨h, h'⟩ | ⟨i, rfl, hi, hb, hl⟩
    · exact h' j (by omega) hbj
    · exact hl j (by omega) hbj
theorem fall_of_ex {e : Int} (h : Ex f g n e) : Fa (hist f g fst n) e := by
  by_cases he : e < 0
  · refine .inl ⟨?_, fun i p hp => ?_⟩
    · rcases h with h | ⟨i, rfl, _⟩
      · exact h.1
      · omega
    · obtain ⟨hi, rfl⟩ := hist_at hp
      have := st_early hf hg h0 hn h hi (.inl he)
      omega
  · obtain ⟨i, rfl⟩ := Int.eq_ofNat_of_zero_le (show 0 ≤ e from by omega)
    have hin : i < n := by
      rcases h with h | ⟨j, e, hj, _⟩ <;> omega
    refine .inr ⟨i, _, rfl, hist_get hin, ?_, fun j p hj hp => ?_⟩
    · rw [st_late hf hg h0 hn h (by omega) hin (by omega)]
    · obtain ⟨hi, rfl⟩ := hist_at hp
      have := st_early hf hg h0 hn h hi (.inr (by omega))
      omega
theorem st_right {k : Nat} (hk : k < n) : okB (st f g fst (k + 1)).1 (st f g fst (k + 1)).2 = true := ((inv_all hf hg h0 hn (k + 1) (by omega)).right h0 (by omega)).1
end
theorem Fa.uniq {l : List (Int × Int)} {a b : Int} (h : Fa l a) (h' : Fa l b) : a = b := by
  rcases h with ⟨h1, h2⟩ | ⟨i, p, h1, h2, h3, h4⟩ <;> rcases h' with ⟨k1, k2⟩ | ⟨j, q, k1, k2, k3, k4⟩
  · omega
  · exact absurd k3 (h2 j q k2)
  · exact absurd h3 (k2 i p h2)
  · rcases Nat.lt_trichotomy i j with h | h | h
    · exact absurd h3 (k4 i p h h2)
    · omega
    · exact absurd k3 (h4 j q h k2)
open Classical in
theorem ex_ex (f : Nat → Int) (g n : Nat) : ∃ e, Ex f g n e := by
  by_cases h : ∃ i, i + g < n ∧ bad f g i
  · obtain ⟨i, hi⟩ := h
    have : ∃ i, (i + g < n ∧ bad f g i) ∧ ∀ j, j < i → ¬ (j + g < n ∧ bad f g j) := by
      induction i using Nat.strongRecOn with
      | ind i ih =>
        by_cases hj : ∃ j, j < i ∧ (j + g < n ∧ bad f g j)
        · obtain ⟨j, hji, hj⟩ := hj
          exact ih j hji hj
        · exact ⟨i, hi, fun j hji hb => hj ⟨j, hji, hb⟩⟩
    obtain ⟨i, hi, hl⟩ := this
    exact ⟨_, .inr ⟨i, rfl, hi.1, hi.2, fun j hj hb => hl j hj ⟨by omega, hb⟩⟩⟩
  · exact ⟨-1, .inl ⟨rfl, fun i hi hb => h ⟨i, hi, hb⟩⟩⟩
/-- a default of the one means a default of the other, not later -/
theorem ex_later {f f' : Nat → Int} {g g' n : Nat} {e e' : Int} (h : Ex f g n e) (h' : Ex f' g' n e') (hg : g ≤ g') (hb : ∀ i, bad f' g' i → bad f g i) : e' < 0 ∨ (0 ≤ e ∧ e ≤ e') := by
  rcases h' with ⟨h1, _⟩ | ⟨i, rfl, hi, hbi, _⟩
  · exact .inl (by omega)
  · right
    rcases h with ⟨_, h2⟩ | ⟨j, rfl, hj, hbj, hl⟩
    · exact absurd (hb i hbi) (h2 i (by omega))
    · rcases Nat.lt_or_ge i j with h | h
      · exact absurd (hb i hbi) (hl i h)
      · omega
end Go.Proofs.Ytblegaclcpoonaa.Br
