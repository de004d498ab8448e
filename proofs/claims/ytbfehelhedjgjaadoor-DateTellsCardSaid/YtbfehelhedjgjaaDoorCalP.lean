/- Calendars and business days, in plain words. -/
import Derived.Test.YtbfehelhedjgjaaDoorDm
namespace Go.Proofs.YtbfehelhedjgjaaDoor.Dat
set_option linter.unusedVariables false

/-- numbers ascend strictly, from after b on, up to m -/
def ascA (m : Int) : Int → List Int → Bool
  | _, [] => true
  | b, z :: zs => decide (b < z ∧ z ≤ m) && ascA m z zs
theorem drop_cons {α : Type} {l : List α} {k : Nat} {z : α} (h : l[k]? = some z) : l.drop k = z :: l.drop (k + 1) := by
  obtain ⟨hl, e⟩ := List.getElem?_eq_some_iff.1 h
  rw [List.drop_eq_getElem_cons hl, e]
theorem ascA_step {m b z : Int} {l : List Int} {k : Nat} (h : l[k]? = some z) (h1 : b < z) (h2 : z ≤ m) : ascA m b (l.drop k) = ascA m z (l.drop (k + 1)) := by
  rw [drop_cons h, ascA, decide_eq_true ⟨h1, h2⟩, Bool.true_and]
theorem ascA_stop {m b z : Int} {l : List Int} {k : Nat} (h : l[k]? = some z) (h1 : ¬ (b < z ∧ z ≤ m)) : ascA m b (l.drop k) = false := by
  rw [drop_cons h, ascA, decide_eq_false h1, Bool.false_and]
theorem ascA_end {m b : Int} {l : List Int} {k : Nat} (h : l.length ≤ k) : ascA m b (l.drop k) = true := by
  rw [List.drop_of_length_le h]; rfl
theorem ascA_cons {m b z : Int} {l : List Int} : ascA m b (z :: l) = true ↔ b < z ∧ z ≤ m ∧ ascA m z l = true := by
  simp [ascA, and_assoc]
theorem ascA_mem {m : Int} : ∀ {l : List Int} {b : Int}, ascA m b l = true → ∀ z, z ∈ l → b < z ∧ z ≤ m
  | [], b, h, z, hz => by simp at hz
  | y :: l, b, h, z, hz => by
    obtain ⟨h1, h2, h3⟩ := ascA_cons.1 h
    rcases List.mem_cons.1 hz with rfl | hz
    · exact ⟨h1, h2⟩
    · have := ascA_mem h3 z hz
      omega
theorem ascA_lt {m : Int} : ∀ {l : List Int} {b : Int}, ascA m b l = true → ∀ (i j : Nat) x y, i < j → l[i]? = some x → l[j]? = some y → x < y
  | [], b, h, i, j, x, y, hij, hx, hy => by simp at hx
  | z :: l, b, h, 0, j, x, y, hij, hx, hy => by
    obtain ⟨h1, h2, h3⟩ := ascA_cons.1 h
    simp at hx
    subst hx
    obtain ⟨j', rfl⟩ : ∃ j', j = j' + 1 := ⟨j - 1, by omega⟩
    simp at hy
    exact (ascA_mem h3 y (List.mem_of_getElem? hy)).1
  | z :: l, b, h, i + 1, j, x, y, hij, hx, hy => by
    obtain ⟨h1, h2, h3⟩ := ascA_cons.1 h
    obtain ⟨j', rfl⟩ : ∃ j', j = j' + 1 := ⟨j - 1, by omega⟩
    simp at hx hy
    exact ascA_lt h3 i j' x y (by omega) hx hy

/-- a calendar is right -/
def rt (rs ds : List Int) : Bool := decide (rs.length ≤ 6) && (decide (ds.length ≤ 4000) && (ascA 6 (-1) rs && ascA 200000 (-1) ds))
theorem rt_in {rs ds : List Int} (h : rt rs ds = true) : rs.length ≤ 6 ∧ ds.length ≤ 4000 ∧ ascA 6 (-1) rs = true ∧ ascA 200000 (-1) ds = true := by
  simpa [rt] using h
/-- a business day, of a calendar that is right -/
def bd (rs ds : List Int) (d : Int) : Bool := !decide (d % 7 ∈ rs) && !decide (d ∈ ds)
def dy (d : Int) : Bool := decide (0 ≤ d ∧ d ≤ 200000)
def bz (rs ds : List Int) (d : Int) : Bool := rt rs ds && (dy d && bd rs ds d)

/-- the first day from d on, of k days, that p says; 3 says that there is none -/
def up (p : Int → Bool) : Nat → Int → Int × Int
  | 0, _ => (0, 3)
  | k + 1, d => if p d = true then (d, 0) else up p k (d + 1)
def dn (p : Int → Bool) : Nat → Int → Int × Int
  | 0, _ => (0, 3)
  | k + 1, d => if p d = true then (d, 0) else dn p k (d - 1)
def nx (p : Int → Bool) (d : Int) : Int × Int := up p (200001 - d).toNat d
def bf (p : Int → Bool) (d : Int) : Int × Int := dn p (d + 1).toNat d
theorem nx_step {p : Int → Bool} {d : Int} (h : d ≤ 200000) (hp : p d = false) : nx p d = nx p (d + 1) := by
  unfold nx
  obtain ⟨k, hk⟩ : ∃ k, (200001 - d).toNat = k + 1 := ⟨(200001 - d).toNat - 1, by omega⟩
  have : (200001 - (d + 1)).toNat = k := by omega
  rw [hk, this, up, hp, if_neg (by simp)]
theorem nx_here {p : Int → Bool} {d : Int} (h : d ≤ 200000) (hp : p d = true) : nx p d = (d, 0) := by
  unfold nx
  obtain ⟨k, hk⟩ : ∃ k, (200001 - d).toNat = k + 1 := ⟨(200001 - d).toNat - 1, by omega⟩
  rw [hk, up, hp, if_pos rfl]
theorem nx_end {p : Int → Bool} {d : Int} (h : 200000 < d) : nx p d = (0, 3) := by
  unfold nx
  have : (200001 - d).toNat = 0 := by omega
  rw [this, up]
theorem bf_step {p : Int → Bool} {d : Int} (h : 0 ≤ d) (hp : p d = false) : bf p d = bf p (d - 1) := by
  unfold bf
  obtain ⟨k, hk⟩ : ∃ k, (d + 1).toNat = k + 1 := ⟨(d + 1).toNat - 1, by omega⟩
  have : (d - 1 + 1).toNat = k := by omega
  rw [hk, this, dn, hp, if_neg (by simp)]
theorem bf_here {p : Int → Bool} {d : Int} (h : 0 ≤ d) (hp : p d = true) : bf p d = (d, 0) := by
  unfold bf
  obtain ⟨k, hk⟩ : ∃ k, (d + 1).toNat = k + 1 := ⟨(d + 1).toNat - 1, by omega⟩
  rw [hk, dn, hp, if_pos rfl]
theorem bf_end {p : Int → Bool} {d : Int} (h : d < 0) : bf p d = (0, 3) := by
  unfold bf
  have : (d + 1).toNat = 0 := by omega
  rw [this, dn]
/-- what nx and bf say -/
inductive NxIs (p : Int → Bool) (d : Int) : Int × Int → Prop
  | at_ (x : Int) : d ≤ x → x ≤ 200000 → p x = true → (∀ k, d ≤ k → k < x → p k = false) → NxIs p d (x, 0)
  | none_ : (∀ k, d ≤ k → k ≤ 200000 → p k = false) → NxIs p d (0, 3)
inductive BfIs (p : Int → Bool) (d : Int) : Int × Int → Prop
  | at_ (x : Int) : 0 ≤ x → x ≤ d → p x = true → (∀ k, x < k → k ≤ d → p k = false) → BfIs p d (x, 0)
  | none_ : (∀ k, 0 ≤ k → k ≤ d → p k = false) → BfIs p d (0, 3)
theorem nx_is (p : Int → Bool) (d : Int) : NxIs p d (nx p d) := by
  have key : ∀ (n : Nat) (d : Int), 200001 - d ≤ n → NxIs p d (nx p d) := by
    intro n
    induction n with
    | zero =>
      intro d hd
      rw [nx_end (by omega)]
      exact .none_ fun k h1 h2 => by omega
    | succ n ih =>
      intro d hd
      by_cases h : d ≤ 200000
      · cases hp : p d
        · rw [nx_step h hp]
          have h0 := ih (d + 1) (by omega)
          generalize hq : nx p (d + 1) = q at h0 ⊢
          cases h0 with
          | at_ x a b c e =>
            refine .at_ x (by omega) b c fun k h1 h2 => ?_
            by_cases hk : k = d
            · rw [hk]; exact hp
            · exact e k (by omega) h2
          | none_ e =>
            refine .none_ fun k h1 h2 => ?_
            by_cases hk : k = d
            · rw [hk]; exact hp
            · exact e k (by omega) h2
        · rw [nx_here h hp]
          exact .at_ d (Int.le_refl _) h hp fun k h1 h2 => by omega
      · rw [nx_end (by omega)]
        exact .none_ fun k h1 h2 => by omega
  exact key (200001 - d).toNat d (by omega)
theorem bf_is (p : Int → Bool) (d : Int) : BfIs p d (bf p d) := by
  have key : ∀ (n : Nat) (d : Int), d + 1 ≤ n → BfIs p d (bf p d) := by
    intro n
    induction n with
    | zero =>
      intro d hd
      rw [bf_end (by omega)]
      exact .none_ fun k h1 h2 => by omega
    | succ n ih =>
      intro d hd
      by_cases h : 0 ≤ d
      · cases hp : p d
        · rw [bf_step h hp]
          have h0 := ih (d - 1) (by omega)
          generalize hq : bf p (d - 1) = q at h0 ⊢
          cases h0 with
          | at_ x a b c e =>
            refine .at_ x a (by omega) c fun k h1 h2 => ?_
            by_cases hk : k = d
            · rw [hk]; exact hp
            · exact e k h1 (by omega)
          | none_ e =>
            refine .none_ fun k h1 h2 => ?_
            by_cases hk : k = d
            · rw [hk]; exact hp
            · exact e k h1 (by omega)
        · rw [bf_here h hp]
          exact .at_ d h (Int.le_refl _) hp fun k h1 h2 => by omega
      · rw [bf_end (by omega)]
        exact .none_ fun k h1 h2 => by omega
  exact key (d + 1).toNat d (by omega)
theorem nx_01 {p : Int → Bool} {d x e : Int} (h : nx p d = (x, e)) : (e = 0 ∧ d ≤ x ∧ x ≤ 200000 ∧ p x = true ∧ ∀ k, d ≤ k → k < x → p k = false) ∨ (e = 3 ∧ x = 0 ∧ ∀ k, d ≤ k → k ≤ 200000 → p k = false) := by
  have h0 := nx_is p d
  rw [h] at h0
  cases h0 with
  | at_ _ a b c e => exact .inl ⟨rfl, a, b, c, e⟩
  | none_ e => exact .inr ⟨rfl, rfl, e⟩
theorem bf_01 {p : Int → Bool} {d x e : Int} (h : bf p d = (x, e)) : (e = 0 ∧ 0 ≤ x ∧ x ≤ d ∧ p x = true ∧ ∀ k, x < k → k ≤ d → p k = false) ∨ (e = 3 ∧ x = 0 ∧ ∀ k, 0 ≤ k → k ≤ d → p k = false) := by
  have h0 := bf_is p d
  rw [h] at h0
  cases h0 with
  | at_ _ a b c e => exact .inl ⟨rfl, a, b, c, e⟩
  | none_ e => exact .inr ⟨rfl, rfl, e⟩

/-- both days are in one month -/
def SM (a b : Int) : Prop := ∃ y m d d', Pt a y m d ∧ Pt b y m d'
noncomputable instance (a b : Int) : Decidable (SM a b) := Classical.propDecidable _
noncomputable def sm (a b : Int) : Bool := decide (SM a b)
theorem sm_of {a b y y' : Int} {m m' : Nat} {d d' : Int} (h : Pt a y m d) (h' : Pt b y' m' d') : sm a b = decide (y = y' ∧ m = m') := by
  unfold sm
  by_cases e : y = y' ∧ m = m'
  · have hs : SM a b := by
      obtain ⟨e1, e2⟩ := e
      subst e1 e2
      exact ⟨_, _, _, _, h, h'⟩
    rw [decide_eq_true hs, decide_eq_true e]
  · have hs : ¬ SM a b := fun ⟨z, n, c, c', g, g'⟩ => e (by
      obtain ⟨rfl, rfl, rfl⟩ := h.uniq g
      obtain ⟨rfl, rfl, rfl⟩ := h'.uniq g'
      exact ⟨rfl, rfl⟩)
    rw [decide_eq_false hs, decide_eq_false e]
theorem ny_top : ny 2448 > 200000 := by decide
theorem pt_ex (a : Int) (h0 : 0 ≤ a) (h1 : a ≤ 200000) : ∃ y m d, Pt a y m d := by
  have hy : ∀ k : Nat, a < ny (1900 + k) → ∃ y : Int, 1900 ≤ y ∧ ny y ≤ a ∧ a < ny (y + 1) := by
    intro k
    induction k with
    | zero => intro h; have := ny_1900; simp at h; omega
    | succ k ih =>
      intro h
      by_cases hk : a < ny (1900 + k)
      · exact ih hk
      · exact ⟨1900 + k, by omega, by omega, by rw [show (1900 : Int) + ((k + 1 : Nat) : Int) = 1900 + k + 1 by omega] at h; exact h⟩
  obtain ⟨y, y0, y1, y2⟩ := hy 548 (by have := ny_top; rw [show (1900 : Int) + ((548 : Nat) : Int) = 2448 by omega]; omega)
  rw [ny_succ y (by omega), ← cum_12] at y2
  have hm : ∀ k : Nat, k ≤ 12 → a - ny y < cum y k → ∃ j : Nat, j + 1 ≤ k ∧ cum y j ≤ a - ny y ∧ a - ny y < cum y (j + 1) := by
    intro k
    induction k with
    | zero => intro _ h; simp [cum] at h; omega
    | succ k ih =>
      intro hk h
      by_cases hc : a - ny y < cum y k
      · obtain ⟨j, j0, j1, j2⟩ := ih (by omega) hc
        exact ⟨j, by omega, j1, j2⟩
      · exact ⟨k, by omega, by omega, h⟩
  obtain ⟨j, j0, j1, j2⟩ := hm 12 (by omega) (by omega)
  rw [cum_succ] at j2
  exact ⟨y, j + 1, a - ny y - cum y j + 1, ⟨y0, by omega, by omega, by omega, by
    rw [show ((j + 1 : Nat) : Int) = (j : Int) + 1 by omega]; omega, by
    rw [show j + 1 - 1 = j by omega]; omega⟩⟩
theorem sm_self {a : Int} (h0 : 0 ≤ a) (h1 : a ≤ 200000) : sm a a = true := by
  obtain ⟨y, m, d, h⟩ := pt_ex a h0 h1
  rw [sm_of h h]
  exact decide_eq_true ⟨rfl, rfl⟩
/-- Adjust, of what is right -/
noncomputable def adj (p : Int → Bool) (d how : Int) : Int × Int :=
  if how = 0 then (d, 0) else if how = 1 then nx p d else if how = 3 then bf p d else
  if how = 2 then (if (nx p d).2 = 0 ∧ sm d (nx p d).1 = true then nx p d else bf p d) else (0, 1)
noncomputable def adO (rs ds : List Int) (d how : Int) : Int × Int := if rt rs ds = true ∧ dy d = true then adj (bd rs ds) d how else (0, 1)
/-- Back -/
def bk (p : Int → Bool) : Nat → Int → Int × Int
  | 0, d => (d, 0)
  | k + 1, d => if (bf p (d - 1)).2 = 0 then bk p k (bf p (d - 1)).1 else (0, 3)
def bkO (rs ds : List Int) (d n : Int) : Int × Int := if rt rs ds = true ∧ dy d = true ∧ 0 ≤ n ∧ n ≤ 1000 then bk (bd rs ds) n.toNat d else (0, 1)
theorem bk_go {p : Int → Bool} {k : Nat} {d x : Int} (h : bf p (d - 1) = (x, 0)) : bk p (k + 1) d = bk p k x := by
  rw [bk, h, if_pos rfl]
theorem bk_no {p : Int → Bool} {k : Nat} {d x : Int} (h : bf p (d - 1) = (x, 3)) : bk p (k + 1) d = (0, 3) := by
  rw [bk, h, if_neg (by simp)]
theorem bk_01 {p : Int → Bool} : ∀ {k : Nat} {d x e : Int}, 0 ≤ d → d ≤ 200000 → bk p k d = (x, e) → (e = 0 ∧ 0 ≤ x ∧ x ≤ d ∧ (0 < k → p x = true) ∧ (k = 0 → x = d)) ∨ (e = 3 ∧ x = 0)
  | 0, d, x, e, h0, h1, h => by
    simp [bk] at h
    obtain ⟨rfl, rfl⟩ := h
    exact .inl ⟨rfl, h0, Int.le_refl _, fun h => by omega, fun _ => rfl⟩
  | k + 1, d, x, e, h0, h1, h => by
    obtain ⟨y, f, hb⟩ : ∃ y f, bf p (d - 1) = (y, f) := ⟨_, _, rfl⟩
    rcases bf_01 hb with ⟨rfl, a, b, c, _⟩ | ⟨rfl, rfl, _⟩
    · rw [bk_go hb] at h
      rcases bk_01 a (by omega) h with ⟨rfl, a', b', c', d'⟩ | ⟨rfl, rfl⟩
      · refine .inl ⟨rfl, a', by omega, fun _ => ?_, fun h => by omega⟩
        rcases Nat.eq_zero_or_pos k with hk | hk
        · rw [d' hk]; exact c
        · exact c' hk
      · exact .inr ⟨rfl, rfl⟩
    · rw [bk_no hb] at h
      simp at h
      exact .inr ⟨h.2.symm, h.1.symm⟩
end Go.Proofs.YtbfehelhedjgjaaDoor.Dat
