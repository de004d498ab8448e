/- Post: what has arrived, in plain words. -/
import Derived.Test.YtefikmfogbdhpaaBase
namespace Go.Proofs.Ytefikmfogbdhpaa.Po
open Go.Proofs.Ytefikmfogbdhpaa.Cell
set_option linter.unusedVariables false
set_option linter.unusedSimpArgs false

/-- how many messages at the beginning have arrived -/
def nx : List Bool → Nat
  | true :: r => nx r + 1
  | _ => 0
theorem nx_le : ∀ H : List Bool, nx H ≤ H.length
  | [] => Nat.le_refl _
  | true :: r => by have := nx_le r; simp [nx]; omega
  | false :: r => by simp [nx]
theorem nx_lo : ∀ (H : List Bool) (j : Nat), j < nx H → H[j]? = some true
  | [], j, h => by simp [nx] at h
  | true :: r, 0, h => rfl
  | true :: r, j + 1, h => by simp [nx] at h; simpa using nx_lo r j (by omega)
  | false :: r, j, h => by simp [nx] at h
theorem nx_at : ∀ (H : List Bool), H[nx H]? ≠ some true
  | [] => by simp [nx]
  | true :: r => by simpa [nx] using nx_at r
  | false :: r => by simp [nx]
/-- the number is the one at which it is not so any more -/
theorem nx_of {H : List Bool} {m : Nat} (h1 : ∀ j, j < m → H[j]? = some true) (h2 : H[m]? ≠ some true) : nx H = m := by
  rcases Nat.lt_trichotomy (nx H) m with h | h | h
  · exact absurd (h1 _ h) (nx_at H)
  · exact h
  · exact absurd (nx_lo H m h) h2
theorem get_of_nx {H : List Bool} {j : Nat} (h : j < H.length) : H[j]? = some true ∨ H[j]? = some false := by
  obtain ⟨b, hb⟩ := at_ H j h
  cases b
  · exact .inr hb
  · exact .inl hb
/-- the numbers from one on that are marked so -/
def ms (b : Bool) (H : List Bool) (m n : Nat) : List Int := ((List.range' m (n - m)).filter fun j => decide (H[j]? = some b)).map Int.ofNat
theorem mem_ms {b : Bool} {H : List Bool} {m n : Nat} {x : Int} : x ∈ ms b H m n ↔ ∃ j : Nat, x = j ∧ m ≤ j ∧ j < n ∧ H[j]? = some b := by
  unfold ms
  rw [List.mem_map]
  constructor
  · rintro ⟨j, hj, rfl⟩
    rw [List.mem_filter, List.mem_range'_1] at hj
    exact ⟨j, rfl, hj.1.1, by have := hj.1.2; omega, of_decide_eq_true hj.2⟩
  · rintro ⟨j, rfl, h1, h2, h3⟩
    exact ⟨j, by rw [List.mem_filter, List.mem_range'_1]; exact ⟨⟨h1, by omega⟩, decide_eq_true h3⟩, rfl⟩
theorem ms_sorted (b : Bool) (H : List Bool) (m n : Nat) : (ms b H m n).Pairwise (· < ·) := by
  unfold ms
  rw [List.pairwise_map]
  refine List.Pairwise.filter _ ?_
  have := List.pairwise_lt_range' (s := m) (n := n - m) (step := 1)
  refine List.Pairwise.imp ?_ this
  intro a b h
  show (a : Int) < (b : Int)
  omega
theorem ms_empty (b : Bool) (H : List Bool) (m : Nat) : ms b H m m = [] := by simp [ms]
theorem ms_snoc {b : Bool} {H : List Bool} {m n : Nat} (h : m ≤ n) : ms b H m (n + 1) = ms b H m n ++ if H[n]? = some b then [(n : Int)] else [] := by
  unfold ms
  rw [show n + 1 - m = (n - m) + 1 by omega, List.range'_concat, List.filter_append, List.map_append]
  congr 1
  rw [show m + 1 * (n - m) = n by omega]
  by_cases hb : H[n]? = some b <;> simp [List.filter_cons, hb]
theorem ms_cons {b : Bool} {H : List Bool} {m n : Nat} (h : m < n) : ms b H m n = (if H[m]? = some b then [(m : Int)] else []) ++ ms b H (m + 1) n := by
  unfold ms
  rw [show n - m = (n - (m + 1)) + 1 by omega, List.range'_succ]
  by_cases hb : H[m]? = some b <;> simp [List.filter_cons, hb]
/-- two ascending lists of the same numbers are one -/
theorem asc_ext : ∀ {l k : List Int}, l.Pairwise (· < ·) → k.Pairwise (· < ·) → (∀ x, x ∈ l ↔ x ∈ k) → l = k
  | [], [], _, _, _ => rfl
  | [], y :: k, _, _, h => by have := (h y).2 (List.mem_cons_self ..); simp at this
  | x :: l, [], _, _, h => by have := (h x).1 (List.mem_cons_self ..); simp at this
  | x :: l, y :: k, hl, hk, h => by
    rw [List.pairwise_cons] at hl hk
    have hxy : x = y := by
      have a := (h x).1 (List.mem_cons_self ..)
      have b := (h y).2 (List.mem_cons_self ..)
      rw [List.mem_cons] at a b
      rcases a with a | a
      · exact a
      · rcases b with b | b
        · exact b.symm
        · have := hk.1 x a
          have := hl.1 y b
          omega
    subst hxy
    congr 1
    refine asc_ext hl.2 hk.2 fun z => ?_
    have := h z
    rw [List.mem_cons, List.mem_cons] at this
    constructor
    · intro hz
      rcases this.1 (.inr hz) with e | e
      · subst e; have := hl.1 z hz; omega
      · exact e
    · intro hz
      rcases this.2 (.inr hz) with e | e
      · subst e; have := hk.1 z hz; omega
      · exact e
/-- what waits -/
def ea (H : List Bool) : List Int := ms true H (nx H) H.length
/-- what is asked for again -/
def ag (H : List Bool) : List Int := ms false H (nx H) H.length
theorem mem_ea {H : List Bool} {x : Int} : x ∈ ea H ↔ ∃ j : Nat, x = j ∧ nx H < j ∧ H[j]? = some true := by
  unfold ea
  rw [mem_ms]
  constructor
  · rintro ⟨j, e, h1, h2, h3⟩
    refine ⟨j, e, ?_, h3⟩
    rcases Nat.lt_or_ge (nx H) j with h | h
    · exact h
    · have : j = nx H := by omega
      subst this
      exact absurd h3 (nx_at H)
  · rintro ⟨j, e, h1, h3⟩
    exact ⟨j, e, by omega, lt_of_at h3, h3⟩
theorem mem_ag {H : List Bool} {x : Int} : x ∈ ag H ↔ ∃ j : Nat, x = j ∧ H[j]? = some false := by
  unfold ag
  rw [mem_ms]
  constructor
  · rintro ⟨j, e, h1, h2, h3⟩
    exact ⟨j, e, h3⟩
  · rintro ⟨j, e, h3⟩
    refine ⟨j, e, ?_, lt_of_at h3, h3⟩
    rcases Nat.lt_or_ge j (nx H) with h | h
    · have := nx_lo H j h
      rw [this] at h3
      cases h3
    · exact h
theorem ea_sorted (H : List Bool) : (ea H).Pairwise (· < ·) := ms_sorted ..
theorem ag_sorted (H : List Bool) : (ag H).Pairwise (· < ·) := ms_sorted ..
theorem ms_len (b : Bool) (H : List Bool) (m n : Nat) : (ms b H m n).length ≤ n - m := by
  unfold ms
  rw [List.length_map]
  exact Nat.le_trans (List.length_filter_le ..) (by simp)
theorem ea_len (H : List Bool) : (ea H).length ≤ H.length := Nat.le_trans (ms_len ..) (by omega)
theorem ag_len (H : List Bool) : (ag H).length ≤ H.length := Nat.le_trans (ms_len ..) (by omega)
/-- a sent entry more -/
theorem nx_send (H : List Bool) : nx (H ++ [false]) = nx H := by
  refine nx_of (fun j hj => ?_) ?_
  · have := nx_lo H j hj
    rw [List.getElem?_append_left (lt_of_at this)]
    exact this
  · by_cases h : nx H < H.length
    · rw [List.getElem?_append_left h]
      exact nx_at H
    · rw [List.getElem?_append_right (by omega)]
      have := nx_le H
      rw [show nx H - H.length = 0 by omega]
      simp
theorem ea_send (H : List Bool) : ea (H ++ [false]) = ea H := by
  refine asc_ext (ea_sorted _) (ea_sorted _) fun x => ?_
  rw [mem_ea, mem_ea, nx_send]
  constructor
  · rintro ⟨j, e, h1, h2⟩
    refine ⟨j, e, h1, ?_⟩
    by_cases h : j < H.length
    · rwa [List.getElem?_append_left h] at h2
    · rw [List.getElem?_append_right (by omega)] at h2
      have : j - H.length < 1 := by have := lt_of_at h2; simpa using this
      rw [show j - H.length = 0 by omega] at h2
      simp at h2
  · rintro ⟨j, e, h1, h2⟩
    exact ⟨j, e, h1, by rw [List.getElem?_append_left (lt_of_at h2)]; exact h2⟩
/-- an early message -/
theorem nx_early {H : List Bool} {p : Nat} (h : nx H < p) : nx (H.set p true) = nx H := by
  refine nx_of (fun j hj => ?_) ?_
  · rw [List.getElem?_set_ne (by omega)]
    exact nx_lo H j hj
  · rw [List.getElem?_set_ne (by omega)]
    exact nx_at H
theorem get_set {H : List Bool} {p j : Nat} (hp : p < H.length) : (H.set p true)[j]? = some true ↔ j = p ∨ H[j]? = some true := by
  by_cases e : p = j
  · subst e
    rw [List.getElem?_set_self hp]
    simp
  · rw [List.getElem?_set_ne e]
    constructor
    · exact .inr
    · rintro (h | h)
      · exact absurd h.symm e
      · exact h
theorem get_set_f {H : List Bool} {p j : Nat} (hp : p < H.length) : (H.set p true)[j]? = some false ↔ j ≠ p ∧ H[j]? = some false := by
  by_cases e : p = j
  · subst e
    rw [List.getElem?_set_self hp]
    simp
  · rw [List.getElem?_set_ne e]
    constructor
    · exact fun h => ⟨fun c => e c.symm, h⟩
    · exact fun h => h.2
theorem mem_cut {l : List Int} {i : Nat} {y x : Int} : x ∈ l.take i ++ y :: l.drop i ↔ x = y ∨ x ∈ l := by
  rw [List.mem_append, List.mem_cons]
  constructor
  · rintro (h | h | h)
    · exact .inr (List.mem_of_mem_take h)
    · exact .inl h
    · exact .inr (List.mem_of_mem_drop h)
  · rintro (h | h)
    · exact .inr (.inl h)
    · rw [← List.take_append_drop i l, List.mem_append] at h
      rcases h with h | h
      · exact .inl h
      · exact .inr (.inr h)
theorem asc_cut {l : List Int} {i : Nat} {y : Int} (hl : l.Pairwise (· < ·)) (h1 : ∀ k x, k < i → l[k]? = some x → x < y) (h2 : ∀ k x, i ≤ k → l[k]? = some x → y < x) :
    (l.take i ++ y :: l.drop i).Pairwise (· < ·) := by
  rw [← List.take_append_drop i l, List.pairwise_append] at hl
  obtain ⟨a, b, c⟩ := hl
  rw [List.pairwise_append, List.pairwise_cons]
  refine ⟨a, ⟨fun x hx => ?_, b⟩, fun x hx z hz => ?_⟩
  · obtain ⟨k, hk⟩ := List.mem_iff_getElem?.1 hx
    rw [List.getElem?_drop] at hk
    exact h2 _ x (by omega) hk
  · have hxy : x < y := by
      obtain ⟨k, hk⟩ := List.mem_iff_getElem?.1 hx
      rw [List.getElem?_take] at hk
      split at hk
      · exact h1 _ x (by assumption) hk
      · cases hk
    rw [List.mem_cons] at hz
    rcases hz with rfl | hz
    · exact hxy
    · exact c x hx z hz
theorem ea_early {H : List Bool} {p i : Nat} (h : nx H < p) (hp : p < H.length) (hf : H[p]? = some false) (h1 : ∀ k x, k < i → (ea H)[k]? = some x → x < (p : Int)) (h2 : ∀ k x, i ≤ k → (ea H)[k]? = some x → (p : Int) ≤ x) :
    ea (H.set p true) = (ea H).take i ++ (p : Int) :: (ea H).drop i := by
  have hnm : (p : Int) ∉ ea H := fun hm => by
    obtain ⟨j, e, _, h3⟩ := mem_ea.1 hm
    have : j = p := by omega
    subst this
    rw [hf] at h3
    cases h3
  refine asc_ext (ea_sorted _) (asc_cut (ea_sorted _) h1 fun k x hk hx => ?_) fun x => ?_
  · have := h2 k x hk hx
    have hne : x ≠ (p : Int) := fun e => hnm (e ▸ mem_of_at hx)
    omega
  · rw [mem_cut, mem_ea, mem_ea, nx_early h]
    constructor
    · rintro ⟨j, e, h3, h4⟩
      rcases (get_set hp).1 h4 with r | r
      · subst r; exact .inl e
      · exact .inr ⟨j, e, h3, r⟩
    · rintro (e | ⟨j, e, h3, h4⟩)
      · exact ⟨p, e, h, (get_set hp).2 (.inl rfl)⟩
      · exact ⟨j, e, h3, (get_set hp).2 (.inr h4)⟩
/-- the next message: the loop -/
theorem adv_start {H : List Bool} (h : nx H < H.length) : (∀ j, j < nx H + 1 → (H.set (nx H) true)[j]? = some true) ∧ ea H = ms true (H.set (nx H) true) (nx H + 1) H.length := by
  refine ⟨fun j hj => ?_, asc_ext (ea_sorted _) (ms_sorted ..) fun x => ?_⟩
  · rw [get_set h]
    by_cases e : j = nx H
    · exact .inl e
    · exact .inr (nx_lo H j (by omega))
  · rw [mem_ea, mem_ms]
    constructor
    · rintro ⟨j, e, h1, h2⟩
      exact ⟨j, e, h1, lt_of_at h2, (get_set h).2 (.inr h2)⟩
    · rintro ⟨j, e, h1, h2, h3⟩
      rcases (get_set h).1 h3 with r | r
      · omega
      · exact ⟨j, e, h1, r⟩
theorem adv_more {H : List Bool} {m : Nat} {l : List Int} (h1 : ∀ j, j < m → H[j]? = some true) (h2 : (m : Int) :: l = ms true H m H.length) : m < H.length ∧ (∀ j, j < m + 1 → H[j]? = some true) ∧ l = ms true H (m + 1) H.length := by
  have hm : (m : Int) ∈ ms true H m H.length := by rw [← h2]; exact List.mem_cons_self ..
  obtain ⟨j, e, _, h3, h4⟩ := mem_ms.1 hm
  have : j = m := by omega
  subst this
  refine ⟨h3, fun k hk => ?_, ?_⟩
  · by_cases e : k = j
    · subst e; exact h4
    · exact h1 k (by omega)
  · rw [ms_cons h3, if_pos h4] at h2
    simpa using h2
theorem adv_end {H : List Bool} {m : Nat} (hm : m ≤ H.length) (h1 : ∀ j, j < m → H[j]? = some true) (h2 : ∀ x, (ms true H m H.length)[0]? = some x → x ≠ (m : Int)) : nx H = m := by
  refine nx_of h1 fun h => ?_
  have hl := lt_of_at h
  have := h2 m (by rw [ms_cons hl, if_pos h]; rfl)
  exact this rfl
theorem adv_le {H : List Bool} {m : Nat} (h1 : ∀ j, j < m → H[j]? = some true) : m ≤ H.length := by
  rcases Nat.lt_or_ge H.length m with h | h
  · have := lt_of_at (h1 H.length h)
    omega
  · exact h
/-- what a right way says has arrived -/
def fr (n : Nat) (nxt : Int) (early : List Int) : List Bool := (List.range n).map fun (j : Nat) => decide ((j : Int) < nxt) || decide ((j : Int) ∈ early)
theorem fr_at {n j : Nat} {nxt : Int} {early : List Int} : (fr n nxt early)[j]? = some true ↔ j < n ∧ ((j : Int) < nxt ∨ (j : Int) ∈ early) := by
  unfold fr
  rw [List.getElem?_map]
  by_cases h : j < n
  · rw [List.getElem?_range h]
    simp [h]
  · rw [List.getElem?_eq_none (by simp; omega)]
    simp [h]
theorem fr_len (n : Nat) (nxt : Int) (early : List Int) : (fr n nxt early).length = n := by simp [fr]
/-- when a way is right -/
def rgE (n : Nat) (before : Int) : List Int → Bool
  | [] => true
  | x :: r => decide (before < x) && (decide (x < n) && rgE n x r)
def rgW (n : Nat) (nxt : Int) (early : List Int) : Bool := decide (n ≤ 10000) && (decide (0 ≤ nxt ∧ nxt ≤ n) && rgE n nxt early)
theorem rgE_iff {n : Nat} : ∀ {b : Int} {l : List Int}, rgE n b l = true ↔ (∀ x ∈ l, b < x ∧ x < n) ∧ l.Pairwise (· < ·)
  | b, [] => by simp [rgE]
  | b, x :: r => by
    unfold rgE
    rw [Bool.and_eq_true, Bool.and_eq_true, rgE_iff, decide_eq_true_iff, decide_eq_true_iff, List.pairwise_cons]
    constructor
    · rintro ⟨h1, h2, h3, h4⟩
      exact ⟨fun y hy => by
        rcases List.mem_cons.1 hy with rfl | hy
        · exact ⟨h1, h2⟩
        · have := h3 y hy; omega, fun y hy => (h3 y hy).1, h4⟩
    · rintro ⟨h1, h2, h3⟩
      exact ⟨(h1 x (List.mem_cons_self ..)).1, (h1 x (List.mem_cons_self ..)).2, fun y hy => ⟨h2 y hy, (h1 y (List.mem_cons_of_mem _ hy)).2⟩, h3⟩
theorem rgW_ways {H : List Bool} (h : H.length ≤ 10000) : rgW H.length (nx H) (ea H) = true := by
  have := nx_le H
  unfold rgW
  rw [Bool.and_eq_true, Bool.and_eq_true]
  exact ⟨decide_eq_true h, decide_eq_true (by omega), rgE_iff.2 ⟨fun x hx => by
    obtain ⟨j, rfl, h1, h2⟩ := mem_ea.1 hx
    have := lt_of_at h2
    omega, ea_sorted H⟩⟩
theorem rgW_to {n : Nat} {nxt : Int} {early : List Int} (h : rgW n nxt early = true) : n ≤ 10000 ∧ ∃ H : List Bool, H.length = n ∧ nxt = nx H ∧ early = ea H := by
  unfold rgW at h
  rw [Bool.and_eq_true, Bool.and_eq_true] at h
  obtain ⟨h0, h1, h2⟩ := h
  have h1 := of_decide_eq_true h1
  obtain ⟨h3, h4⟩ := rgE_iff.1 h2
  obtain ⟨m, rfl⟩ := Int.eq_ofNat_of_zero_le h1.1
  have hn : nx (fr n m early) = m := nx_of (fun j hj => fr_at.2 ⟨by omega, .inl (by omega)⟩) (fun hc => by
    obtain ⟨a, b⟩ := fr_at.1 hc
    rcases b with b | b
    · omega
    · have := h3 _ b; omega)
  refine ⟨of_decide_eq_true h0, fr n m early, fr_len .., by rw [hn], asc_ext h4 (ea_sorted _) fun x => ?_⟩
  rw [mem_ea, hn]
  constructor
  · intro hx
    have := h3 x hx
    obtain ⟨j, rfl⟩ := Int.eq_ofNat_of_zero_le (show 0 ≤ x by have := this.1; omega)
    exact ⟨j, rfl, by omega, fr_at.2 ⟨by omega, .inr hx⟩⟩
  · rintro ⟨j, rfl, h5, h6⟩
    obtain ⟨a, b⟩ := fr_at.1 h6
    rcases b with b | b
    · omega
    · exact b
end Go.Proofs.Ytefikmfogbdhpaa.Po
