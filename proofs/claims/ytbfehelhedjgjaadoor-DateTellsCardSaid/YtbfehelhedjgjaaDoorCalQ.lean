/- Calendars and business days: what the statements lean on, in plain words. -/
import Derived.Test.YtbfehelhedjgjaaDoorCalP
namespace Go.Proofs.YtbfehelhedjgjaaDoor.Dat
set_option linter.unusedVariables false

theorem adj_01 {p : Int → Bool} {d how x e : Int} (h0 : 0 ≤ d) (h1 : d ≤ 200000) (h : adj p d how = (x, e)) : (e = 0 ∧ 0 ≤ x ∧ x ≤ 200000) ∨ ((e = 3 ∨ e = 1) ∧ x = 0) := by
  have hn : ∀ {q : Int × Int}, nx p d = q → q = (x, e) → (e = 0 ∧ 0 ≤ x ∧ x ≤ 200000) ∨ ((e = 3 ∨ e = 1) ∧ x = 0) := fun hq he => by
    rcases nx_01 (hq.trans he) with ⟨a, b, c, _⟩ | ⟨a, b, _⟩
    · exact .inl ⟨a, by omega, c⟩
    · exact .inr ⟨.inl a, b⟩
  have hb : ∀ {q : Int × Int}, bf p d = q → q = (x, e) → (e = 0 ∧ 0 ≤ x ∧ x ≤ 200000) ∨ ((e = 3 ∨ e = 1) ∧ x = 0) := fun hq he => by
    rcases bf_01 (hq.trans he) with ⟨a, b, c, _⟩ | ⟨a, b, _⟩
    · exact .inl ⟨a, b, by omega⟩
    · exact .inr ⟨.inl a, b⟩
  unfold adj at h
  split at h
  · simp at h
    exact .inl ⟨h.2.symm, by omega, by omega⟩
  split at h
  · exact hn rfl h
  split at h
  · exact hb rfl h
  split at h
  · split at h
    · exact hn rfl h
    · exact hb rfl h
  · simp at h
    exact .inr ⟨.inr h.2.symm, h.1.symm⟩
theorem adj_p {p : Int → Bool} {x how : Int} (h0 : 0 ≤ x) (h1 : x ≤ 200000) (hp : p x = true) (hh : how = 0 ∨ how = 1 ∨ how = 2 ∨ how = 3) : adj p x how = (x, 0) := by
  have a := nx_here h1 hp
  have b := bf_here h0 hp
  unfold adj
  rw [a, b]
  rcases hh with rfl | rfl | rfl | rfl
  · rfl
  · rfl
  · rw [if_neg (by omega), if_neg (by omega), if_neg (by omega), if_pos rfl, if_pos ⟨rfl, sm_self h0 h1⟩]
  · rfl
theorem adj_again {p : Int → Bool} {d how x : Int} (h0 : 0 ≤ d) (h1 : d ≤ 200000) (h : adj p d how = (x, 0)) : adj p x how = (x, 0) := by
  by_cases hz : how = 0
  · subst hz; unfold adj; rw [if_pos rfl]
  have hn : nx p d = (x, 0) → p x = true := fun hq => by
    rcases nx_01 hq with ⟨_, _, _, c, _⟩ | ⟨a, _⟩
    · exact c
    · omega
  have hb : bf p d = (x, 0) → p x = true := fun hq => by
    rcases bf_01 hq with ⟨_, _, _, c, _⟩ | ⟨a, _⟩
    · exact c
    · omega
  have hx : 0 ≤ x ∧ x ≤ 200000 := by
    rcases adj_01 h0 h1 h with a | a
    · exact a.2
    · omega
  unfold adj at h
  rw [if_neg hz] at h
  split at h
  · next e => exact adj_p hx.1 hx.2 (hn h) (by omega)
  split at h
  · next e => exact adj_p hx.1 hx.2 (hb h) (by omega)
  split at h
  · next e =>
    split at h
    · exact adj_p hx.1 hx.2 (hn h) (by omega)
    · exact adj_p hx.1 hx.2 (hb h) (by omega)
  · simp at h
theorem nx_mono {p q : Int → Bool} {a b y : Int} (hpq : ∀ k, q k = true → p k = true) (hab : a ≤ b) (h : nx q b = (y, 0)) : ∃ x, nx p a = (x, 0) ∧ x ≤ y := by
  obtain ⟨x, e, hx⟩ : ∃ x e, nx p a = (x, e) := ⟨_, _, rfl⟩
  rcases nx_01 h with ⟨_, h1, h2, h3, _⟩ | ⟨h1, _⟩
  · rcases nx_01 hx with ⟨rfl, g1, g2, g3, g4⟩ | ⟨rfl, rfl, g⟩
    · refine ⟨x, hx, ?_⟩
      by_cases hc : y < x
      · have := g4 y (by omega) hc
        rw [hpq y h3] at this
        simp at this
      · omega
    · have := g y (by omega) h2
      rw [hpq y h3] at this
      simp at this
  · omega
theorem bf_mono {p q : Int → Bool} {a b u : Int} (hpq : ∀ k, q k = true → p k = true) (hab : a ≤ b) (h : bf q a = (u, 0)) : ∃ v, bf p b = (v, 0) ∧ u ≤ v := by
  obtain ⟨x, e, hx⟩ : ∃ x e, bf p b = (x, e) := ⟨_, _, rfl⟩
  rcases bf_01 h with ⟨_, h1, h2, h3, _⟩ | ⟨h1, _⟩
  · rcases bf_01 hx with ⟨rfl, g1, g2, g3, g4⟩ | ⟨rfl, rfl, g⟩
    · refine ⟨x, hx, ?_⟩
      by_cases hc : x < u
      · have := g4 u hc (by omega)
        rw [hpq u h3] at this
        simp at this
      · omega
    · have := g u h1 (by omega)
      rw [hpq u h3] at this
      simp at this
  · omega
theorem bk_mono {p q : Int → Bool} (hpq : ∀ k, q k = true → p k = true) : ∀ {k : Nat} {d d' a : Int}, d ≤ d' → bk q k d = (a, 0) → ∃ x, bk p k d' = (x, 0) ∧ a ≤ x
  | 0, d, d', a, hd, h => by
    simp [bk] at h
    exact ⟨d', rfl, by omega⟩
  | k + 1, d, d', a, hd, h => by
    obtain ⟨y, f, hb⟩ : ∃ y f, bf q (d - 1) = (y, f) := ⟨_, _, rfl⟩
    rcases bf_01 hb with ⟨rfl, _⟩ | ⟨rfl, rfl, _⟩
    · obtain ⟨v, hv, hy⟩ := bf_mono (p := p) hpq (show d - 1 ≤ d' - 1 by omega) hb
      rw [bk_go hb] at h
      obtain ⟨x, hx, ha⟩ := bk_mono hpq hy h
      exact ⟨x, by rw [bk_go hv]; exact hx, ha⟩
    · rw [bk_no hb] at h
      simp at h
theorem bk_add {p : Int → Bool} : ∀ {k j : Nat} {d a : Int}, bk p k d = (a, 0) → bk p (k + j) d = bk p j a
  | 0, j, d, a, h => by
    simp [bk] at h
    rw [h, Nat.zero_add]
  | k + 1, j, d, a, h => by
    obtain ⟨y, f, hb⟩ : ∃ y f, bf p (d - 1) = (y, f) := ⟨_, _, rfl⟩
    rw [show k + 1 + j = k + j + 1 by omega]
    rcases bf_01 hb with ⟨rfl, _⟩ | ⟨rfl, rfl, _⟩
    · rw [bk_go hb] at h ⊢
      exact bk_add h
    · rw [bk_no hb] at h
      simp at h
theorem bk_none {p : Int → Bool} : ∀ {k j : Nat} {d : Int}, bk p k d = (0, 3) → bk p (k + j) d = (0, 3)
  | 0, j, d, h => by simp [bk] at h
  | k + 1, j, d, h => by
    obtain ⟨y, f, hb⟩ : ∃ y f, bf p (d - 1) = (y, f) := ⟨_, _, rfl⟩
    rw [show k + 1 + j = k + j + 1 by omega]
    rcases bf_01 hb with ⟨rfl, _⟩ | ⟨rfl, rfl, _⟩
    · rw [bk_go hb] at h ⊢
      exact bk_none h
    · exact bk_no hb
/-- how many of n days from a on p says -/
def cnt (p : Int → Bool) (a : Int) : Nat → Int
  | 0 => 0
  | n + 1 => cnt p a n + if p (a + n) = true then 1 else 0
theorem cnt_in (p : Int → Bool) (a : Int) (n : Nat) : 0 ≤ cnt p a n ∧ cnt p a n ≤ n := by
  induction n with
  | zero => simp [cnt]
  | succ n ih => rw [cnt]; split <;> omega
theorem cnt_add (p : Int → Bool) (a : Int) (m n : Nat) : cnt p a (m + n) = cnt p a m + cnt p (a + m) n := by
  induction n with
  | zero => simp [cnt]
  | succ n ih =>
    rw [← Nat.add_assoc, cnt, cnt, ih, show a + ((m + n : Nat) : Int) = a + m + n by omega]
    omega
theorem cnt_zero {p : Int → Bool} {a : Int} {n : Nat} (h : ∀ k, a ≤ k → k < a + n → p k = false) : cnt p a n = 0 := by
  induction n with
  | zero => rfl
  | succ n ih =>
    rw [cnt, ih fun k h1 h2 => h k h1 (by omega), h (a + n) (by omega) (by omega)]
    rfl
theorem bf_cnt {p : Int → Bool} {d r : Int} (h : bf p (d - 1) = (r, 0)) : cnt p r (d - r).toNat = 1 := by
  rcases bf_01 h with ⟨_, h1, h2, h3, h4⟩ | ⟨h1, _⟩
  · have hz : cnt p (r + (1 : Nat)) (d - 1 - r).toNat = 0 := cnt_zero fun k a b => h4 k (by omega) (by omega)
    rw [show (d - r).toNat = 1 + (d - 1 - r).toNat by omega, cnt_add, hz]
    simp [cnt, h3]
  · omega
theorem bk_cnt {p : Int → Bool} : ∀ {k : Nat} {d a : Int}, 0 ≤ d → d ≤ 200000 → bk p k d = (a, 0) → cnt p a (d - a).toNat = k
  | 0, d, a, h0, h1, h => by
    simp [bk] at h
    subst h
    simp [cnt]
  | k + 1, d, a, h0, h1, h => by
    obtain ⟨y, f, hb⟩ : ∃ y f, bf p (d - 1) = (y, f) := ⟨_, _, rfl⟩
    rcases bf_01 hb with ⟨rfl, a1, a2, _⟩ | ⟨rfl, rfl, _⟩
    · rw [bk_go hb] at h
      have c1 := bk_cnt a1 (by omega) h
      have c2 := bf_cnt hb
      have c3 := bk_01 a1 (by omega) h
      rw [show (d - a).toNat = (y - a).toNat + (d - y).toNat by omega, cnt_add, c1, show a + ((y - a).toNat : Int) = y by omega, c2]
      omega
    · rw [bk_no hb] at h
      simp at h
/-- a further day is put in -/
def insA (r : Int) : Bool → List Int → List Int
  | put, [] => if put = true then [] else [r]
  | put, z :: zs => (if r ≤ z ∧ put = false then [r] else []) ++ ((if z = r then [] else [z]) ++ insA r (put || decide (r ≤ z)) zs)
theorem insA_true {r : Int} : ∀ (l : List Int), (∀ z, z ∈ l → r < z) → insA r true l = l
  | [], _ => rfl
  | z :: l, h => by
    have := h z (by simp)
    rw [insA, if_neg (by simp), if_neg (by omega), Bool.true_or, insA_true l fun y hy => h y (by simp [hy])]
    rfl
theorem insA_asc {m r : Int} : ∀ {l : List Int} {b : Int}, ascA m b l = true → b < r → r ≤ m → ascA m b (insA r false l) = true
  | [], b, h, h1, h2 => by simp [insA, ascA, h1, h2]
  | z :: l, b, h, h1, h2 => by
    obtain ⟨a1, a2, a3⟩ := ascA_cons.1 h
    by_cases hr : r ≤ z
    · rw [insA, if_pos ⟨hr, rfl⟩, Bool.false_or, decide_eq_true hr]
      by_cases hz : z = r
      · subst hz
        rw [if_pos rfl, insA_true l fun y hy => (ascA_mem a3 y hy).1]
        exact ascA_cons.2 ⟨h1, h2, a3⟩
      · rw [if_neg hz, insA_true l fun y hy => by have := (ascA_mem a3 y hy).1; omega]
        exact ascA_cons.2 ⟨h1, h2, ascA_cons.2 ⟨by omega, a2, a3⟩⟩
    · rw [insA, if_neg (fun h => hr h.1), Bool.false_or, decide_eq_false hr, if_neg (by omega)]
      exact ascA_cons.2 ⟨a1, a2, insA_asc a3 (by omega) h2⟩
theorem insA_mem {m r : Int} : ∀ {l : List Int} {b : Int}, ascA m b l = true → ∀ x, x ∈ insA r false l ↔ x = r ∨ x ∈ l
  | [], b, h, x => by simp [insA]
  | z :: l, b, h, x => by
    obtain ⟨a1, a2, a3⟩ := ascA_cons.1 h
    by_cases hr : r ≤ z
    · rw [insA, if_pos ⟨hr, rfl⟩, Bool.false_or, decide_eq_true hr]
      by_cases hz : z = r
      · subst hz
        rw [if_pos rfl, insA_true l fun y hy => (ascA_mem a3 y hy).1]
        simp
      · rw [if_neg hz, insA_true l fun y hy => by have := (ascA_mem a3 y hy).1; omega]
        simp
    · rw [insA, if_neg (fun h => hr h.1), Bool.false_or, decide_eq_false hr, if_neg (by omega)]
      have := insA_mem (r := r) a3 x
      simp only [List.nil_append, List.cons_append, List.mem_cons, this]
      constructor
      · rintro (h | h | h)
        · exact .inr (.inl h)
        · exact .inl h
        · exact .inr (.inr h)
      · rintro (h | h | h)
        · exact .inr (.inl h)
        · exact .inl h
        · exact .inr (.inr h)
theorem insA_len {r : Int} : ∀ (put : Bool) (l : List Int), (insA r put l).length ≤ l.length + 1
  | put, [] => by cases put <;> simp [insA]
  | put, z :: l => by
    rw [insA]
    cases put with
    | true =>
      have := insA_len (r := r) (true || decide (r ≤ z)) l
      have h2 : ∀ (l : List Int), (insA r true l).length ≤ l.length := by
        intro l
        induction l with
        | nil => simp [insA]
        | cons y l ih =>
          rw [insA, if_neg (by simp), Bool.true_or]
          split <;> simp <;> omega
      have := h2 l
      rw [if_neg (by simp), Bool.true_or]
      split <;> simp <;> omega
    | false =>
      have h2 : ∀ (l : List Int), (insA r true l).length ≤ l.length := by
        intro l
        induction l with
        | nil => simp [insA]
        | cons y l ih =>
          rw [insA, if_neg (by simp), Bool.true_or]
          split <;> simp <;> omega
      by_cases hr : r ≤ z
      · have := h2 l
        rw [if_pos ⟨hr, rfl⟩, Bool.false_or, decide_eq_true hr]
        split <;> simp <;> omega
      · have := insA_len (r := r) false l
        rw [if_neg (fun h => hr h.1), Bool.false_or, decide_eq_false hr]
        split <;> simp <;> omega
theorem ins_bd {rs ds : List Int} {r b m : Int} (h : ascA m b ds = true) (d : Int) : bd rs (insA r false ds) d = (bd rs ds d && !decide (d = r)) := by
  unfold bd
  rw [Bool.and_assoc]
  congr 1
  have := insA_mem (r := r) h d
  by_cases h1 : d = r <;> by_cases h2 : d ∈ ds <;> simp [h1, h2, this] <;> simp_all
theorem ins_rt {rs ds : List Int} {r : Int} (h : rt rs ds = true) (h0 : 0 ≤ r) (h1 : r ≤ 200000) (hl : ds.length ≤ 19) : rt rs (insA r false ds) = true := by
  obtain ⟨a, b, c, d⟩ := rt_in h
  have := insA_len (r := r) false ds
  unfold rt
  rw [decide_eq_true a, decide_eq_true (by omega), c, insA_asc d (by omega) h1]
  rfl
end Go.Proofs.YtbfehelhedjgjaaDoor.Dat
