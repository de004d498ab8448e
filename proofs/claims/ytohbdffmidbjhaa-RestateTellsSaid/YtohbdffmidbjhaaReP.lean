/- Restatements, in plain words: which values use some facts. -/
import Derived.Test.YtohbdffmidbjhaaBase
namespace Go.Proofs.Ytohbdffmidbjhaa.Re
set_option linter.unusedVariables false
/-- a value: the values and the facts that it is derived from -/
structure Dv where
  fr : List Int
  fa : List Int
/-- strictly ascending, from 0 on -/
def asc : Int → List Int → Bool
  | _, [] => true
  | b, x :: l => decide (b < x) && asc x l
theorem asc_lt : ∀ {l : List Int} {b : Int}, asc b l = true → ∀ x ∈ l, b < x
  | [], b, _, x, hx => by simp at hx
  | y :: l, b, h, x, hx => by
    unfold asc at h
    simp only [Bool.and_eq_true, decide_eq_true_eq] at h
    rcases List.mem_cons.1 hx with rfl | hx
    · exact h.1
    · have := asc_lt h.2 x hx
      omega
/-- the last source lies before the value -/
def lastOk (l : List Int) (i : Nat) : Bool := match l.getLast? with | none => true | some x => decide (x < (i : Int))
theorem asc_last : ∀ {l : List Int} {b x : Int}, asc b l = true → l.getLast? = some x → ∀ y ∈ l, y ≤ x
  | [], b, x, _, h, y, hy => by simp at hy
  | [a], b, x, _, h, y, hy => by
    simp at h hy
    omega
  | a :: c :: l, b, x, h, hl, y, hy => by
    unfold asc at h
    simp only [Bool.and_eq_true, decide_eq_true_eq] at h
    rw [List.getLast?_cons_cons] at hl
    have hx := asc_last h.2 hl
    rcases List.mem_cons.1 hy with rfl | hy
    · have h1 := hx c (by simp)
      have h2 := h.2
      unfold asc at h2
      simp only [Bool.and_eq_true, decide_eq_true_eq] at h2
      omega
    · exact hx y hy
def dvOk (i : Nat) (d : Dv) : Bool := asc (-1) d.fr && asc (-1) d.fa && lastOk d.fr i
theorem dvOk_fr {i : Nat} {d : Dv} (h : dvOk i d = true) : ∀ x ∈ d.fr, 0 ≤ x ∧ x < i := fun x hx => by
  unfold dvOk at h
  simp only [Bool.and_eq_true] at h
  obtain ⟨⟨h1, h2⟩, h3⟩ := h
  have a := asc_lt h1 x hx
  refine ⟨by omega, ?_⟩
  unfold lastOk at h3
  cases hl : d.fr.getLast? with
  | none => rw [List.getLast?_eq_none_iff] at hl; rw [hl] at hx; simp at hx
  | some y =>
    rw [hl] at h3
    simp only [decide_eq_true_eq] at h3
    have := asc_last h1 hl x hx
    omega
/-- all of a list is right, from a number on -/
def allOk : Nat → List Dv → Bool
  | _, [] => true
  | i, d :: l => dvOk i d && allOk (i + 1) l
def rgB (l : List Dv) : Bool := decide (l.length ≤ 10000) && allOk 0 l
theorem allOk_at : ∀ {l : List Dv} {i k : Nat} {d : Dv}, allOk i l = true → l[k]? = some d → dvOk (i + k) d = true
  | [], i, k, d, _, h => by simp at h
  | x :: l, i, 0, d, h, hd => by
    unfold allOk at h
    simp at hd h
    subst hd
    exact h.1
  | x :: l, i, k + 1, d, h, hd => by
    unfold allOk at h
    simp only [Bool.and_eq_true] at h
    have := allOk_at (l := l) (k := k) h.2 (by simpa using hd)
    rw [show i + (k + 1) = i + 1 + k by omega]
    exact this
theorem rg_at {l : List Dv} {k : Nat} {d : Dv} (h : rgB l = true) (hd : l[k]? = some d) : dvOk k d = true := by
  unfold rgB at h
  simp only [Bool.and_eq_true] at h
  have := allOk_at h.2 hd
  rwa [Nat.zero_add] at this
/-- whether a value uses one of the facts, by those before it -/
def val (facts : List Int) (us : List Bool) (d : Dv) : Bool := d.fa.any (fun f => facts.contains f) || d.fr.any (fun j => us[j.toNat]?.getD false)
/-- which of the first values use one of the facts -/
def us (facts : List Int) (l : List Dv) : Nat → List Bool
  | 0 => []
  | k + 1 => match l[k]? with | some d => us facts l k ++ [val facts (us facts l k) d] | none => us facts l k
theorem us_succ {facts : List Int} {l : List Dv} {k : Nat} {d : Dv} (h : l[k]? = some d) : us facts l (k + 1) = us facts l k ++ [val facts (us facts l k) d] := by
  rw [us, h]
theorem us_len {facts : List Int} {l : List Dv} : ∀ k, k ≤ l.length → (us facts l k).length = k
  | 0, _ => rfl
  | k + 1, h => by
    have hd : l[k]? = some l[k] := List.getElem?_eq_getElem (by omega)
    rw [us_succ hd, List.length_append, us_len k (by omega)]
    rfl
theorem us_keep {facts : List Int} {l : List Dv} {k : Nat} (hk : k < l.length) {j : Nat} (hj : j < k) : (us facts l (k + 1))[j]? = (us facts l k)[j]? := by
  have hd : l[k]? = some l[k] := List.getElem?_eq_getElem hk
  rw [us_succ hd, List.getElem?_append_left (by rw [us_len k (by omega)]; exact hj)]
theorem us_all {facts : List Int} {l : List Dv} : ∀ {n k j : Nat}, n = k → k ≤ l.length → j < k → (us facts l l.length)[j]? = (us facts l k)[j]?
  | n, k, j, e, hk, hj => by
    by_cases h : k = l.length
    · rw [h]
    · have := us_all (facts := facts) (n := k + 1) (k := k + 1) rfl (show k + 1 ≤ l.length by omega) (show j < k + 1 by omega)
      rw [this, us_keep (by omega) hj]
  termination_by n k => l.length - k
/-- the values that use one of the facts, ascending -/
def ch (facts : List Int) (l : List Dv) (k : Nat) : List Int := (List.range k).filterMap fun (i : Nat) => if (us facts l l.length)[i]?.getD false = true then some (Int.ofNat i) else none
theorem ch_succ (facts : List Int) (l : List Dv) (k : Nat) : ch facts l (k + 1) = ch facts l k ++ if (us facts l l.length)[k]?.getD false = true then [(k : Int)] else [] := by
  unfold ch
  rw [List.range_succ, List.filterMap_append]
  congr 1
  by_cases h : (us facts l l.length)[k]?.getD false = true
  · simp [h]
  · simp [h]
theorem mem_ch {facts : List Int} {l : List Dv} {k : Nat} {x : Int} : x ∈ ch facts l k ↔ ∃ i : Nat, i < k ∧ x = (i : Int) ∧ (us facts l l.length)[i]?.getD false = true := by
  unfold ch
  rw [List.mem_filterMap]
  constructor
  · rintro ⟨i, hi, h⟩
    split at h
    · injection h with h
      exact ⟨i, by simpa using hi, h.symm, by assumption⟩
    · cases h
  · rintro ⟨i, hi, rfl, h⟩
    exact ⟨i, by simpa using hi, by rw [if_pos h]; rfl⟩
/-- what a value of right ones says, by all of them -/
theorem us_val {facts : List Int} {l : List Dv} (h : rgB l = true) {k : Nat} {d : Dv} (hd : l[k]? = some d) :
    (us facts l l.length)[k]?.getD false = (d.fa.any (fun f => facts.contains f) || d.fr.any (fun j => (us facts l l.length)[j.toNat]?.getD false)) := by
  have hk : k < l.length := (List.getElem?_eq_some_iff.1 hd).1
  rw [us_all (k := k + 1) rfl (by omega) (by omega), us_succ hd, List.getElem?_append_right (by rw [us_len k (by omega)]; exact Nat.le_refl _), us_len k (by omega), Nat.sub_self]
  simp only [List.getElem?_cons_zero, Option.getD_some]
  unfold val
  congr 1
  have hf := dvOk_fr (rg_at h hd)
  rw [Bool.eq_iff_iff, List.any_eq_true, List.any_eq_true]
  constructor
  · rintro ⟨j, hj, e⟩
    have := hf j hj
    refine ⟨j, hj, ?_⟩
    rw [us_all (k := k) rfl (by omega) (by omega)]
    exact e
  · rintro ⟨j, hj, e⟩
    have := hf j hj
    refine ⟨j, hj, ?_⟩
    rw [us_all (k := k) rfl (by omega) (by omega)] at e
    exact e
/-- any set that is closed has all of it -/
theorem ch_least {facts set : List Int} {l : List Dv} (h : rgB l = true) (hc : ∀ (i : Nat) d, l[i]? = some d → (d.fa.any (fun f => facts.contains f) || d.fr.any (fun j => set.contains j)) = true → set.contains (i : Int) = true) :
    ∀ n k : Nat, k < n → k < l.length → (us facts l l.length)[k]?.getD false = true → set.contains (k : Int) = true
  | 0, k, hk, _, _ => by omega
  | n + 1, k, hk, hl, hu => by
    have hd : l[k]? = some l[k] := List.getElem?_eq_getElem hl
    apply hc k _ hd
    rw [us_val h hd, Bool.or_eq_true] at hu
    rw [Bool.or_eq_true]
    rcases hu with hu | hu
    · exact .inl hu
    · right
      rw [List.any_eq_true] at hu ⊢
      obtain ⟨j, hj, e⟩ := hu
      have hf := dvOk_fr (rg_at h hd) j hj
      refine ⟨j, hj, ?_⟩
      have := ch_least h hc n j.toNat (by omega) (by omega) e
      rwa [show ((j.toNat : Nat) : Int) = j by omega] at this
/-- more facts change no less -/
theorem us_more {facts more : List Int} {l : List Dv} (h : rgB l = true) (hm : ∀ f, facts.contains f = true → more.contains f = true) :
    ∀ n k : Nat, k < n → k < l.length → (us facts l l.length)[k]?.getD false = true → (us more l l.length)[k]?.getD false = true
  | 0, k, hk, _, _ => by omega
  | n + 1, k, hk, hl, hu => by
    have hd : l[k]? = some l[k] := List.getElem?_eq_getElem hl
    rw [us_val h hd, Bool.or_eq_true] at hu
    rw [us_val h hd, Bool.or_eq_true]
    rcases hu with hu | hu
    · left
      rw [List.any_eq_true] at hu ⊢
      obtain ⟨f, hf, e⟩ := hu
      exact ⟨f, hf, hm f e⟩
    · right
      rw [List.any_eq_true] at hu ⊢
      obtain ⟨j, hj, e⟩ := hu
      have hf := dvOk_fr (rg_at h hd) j hj
      exact ⟨j, hj, us_more h hm n j.toNat (by omega) (by omega) e⟩
/-- without facts nothing changes -/
theorem us_none {l : List Dv} (h : rgB l = true) : ∀ n k : Nat, k < n → k < l.length → (us [] l l.length)[k]?.getD false = false
  | 0, k, hk, _ => by omega
  | n + 1, k, hk, hl => by
    have hd : l[k]? = some l[k] := List.getElem?_eq_getElem hl
    rw [us_val h hd, Bool.or_eq_false_iff]
    refine ⟨by simp, ?_⟩
    rw [List.any_eq_false]
    intro j hj
    have hf := dvOk_fr (rg_at h hd) j hj
    rw [us_none h n j.toNat (by omega) (by omega)]
    simp
/-- what derive calculates of a value's facts -/
def dfa (facts : List Int) (sh : Int) : List Int → Int → Int
  | [], n => n
  | f :: l, n => dfa facts sh l ((n * 31 + (f.tmod 997 + if facts.contains f = true then sh else 0)).tmod 10007)
/-- and of its sources -/
def dfr (out : List Int) : List Int → Int → Int
  | [], n => n
  | j :: l, n => dfr out l ((n * 37 + out[j.toNat]?.getD 0).tmod 10007)
def dval1 (facts : List Int) (sh : Int) (out : List Int) (i : Nat) (d : Dv) : Int := dfr out d.fr (dfa facts sh d.fa ((17 * (i : Int)).tmod 101))
def dl (facts : List Int) (sh : Int) (l : List Dv) : Nat → List Int
  | 0 => []
  | k + 1 => match l[k]? with | some d => dl facts sh l k ++ [dval1 facts sh (dl facts sh l k) k d] | none => dl facts sh l k
theorem dl_succ {facts : List Int} {sh : Int} {l : List Dv} {k : Nat} {d : Dv} (h : l[k]? = some d) : dl facts sh l (k + 1) = dl facts sh l k ++ [dval1 facts sh (dl facts sh l k) k d] := by rw [dl, h]
theorem dl_len {facts : List Int} {sh : Int} {l : List Dv} : ∀ k, k ≤ l.length → (dl facts sh l k).length = k
  | 0, _ => rfl
  | k + 1, h => by
    have hd : l[k]? = some l[k] := List.getElem?_eq_getElem (by omega)
    rw [dl_succ hd, List.length_append, dl_len k (by omega)]
    rfl
theorem dfa_same {facts : List Int} {sh : Int} : ∀ (l : List Int) (n : Int), l.any (fun f => facts.contains f) = false → dfa facts 0 l n = dfa facts sh l n
  | [], n, _ => rfl
  | f :: l, n, h => by
    rw [List.any_cons, Bool.or_eq_false_iff] at h
    unfold dfa
    rw [if_neg (by rw [h.1]; decide), if_neg (by rw [h.1]; decide)]
    exact dfa_same l _ h.2
theorem dfr_same {o1 o2 : List Int} : ∀ (l : List Int) (n : Int), (∀ j ∈ l, o1[j.toNat]? = o2[j.toNat]?) → dfr o1 l n = dfr o2 l n
  | [], n, _ => rfl
  | j :: l, n, h => by
    unfold dfr
    rw [h j (by simp)]
    exact dfr_same l _ (fun k hk => h k (by simp [hk]))
/-- what is not changed is calculated as before -/
theorem dl_same {facts : List Int} {sh : Int} {l : List Dv} (h : rgB l = true) : ∀ n : Nat, n ≤ l.length → ∀ k : Nat, k < n → (us facts l l.length)[k]?.getD false = false → (dl facts 0 l n)[k]? = (dl facts sh l n)[k]?
  | 0, _, k, hk, _ => by omega
  | n + 1, hn, k, hk, hu => by
    have hd : l[n]? = some l[n] := List.getElem?_eq_getElem (by omega)
    rw [dl_succ hd, dl_succ hd]
    by_cases hkn : k < n
    · rw [List.getElem?_append_left (by rw [dl_len n (by omega)]; exact hkn), List.getElem?_append_left (by rw [dl_len n (by omega)]; exact hkn)]
      exact dl_same h n (by omega) k hkn hu
    · obtain rfl : k = n := by omega
      rw [List.getElem?_append_right (by rw [dl_len k (by omega)]; exact Nat.le_refl _), List.getElem?_append_right (by rw [dl_len k (by omega)]; exact Nat.le_refl _), dl_len k (by omega), dl_len k (by omega)]
      rw [us_val h hd, Bool.or_eq_false_iff] at hu
      congr 2
      unfold dval1
      rw [dfa_same _ _ hu.1]
      refine dfr_same _ _ (fun j hj => ?_)
      have hf := dvOk_fr (rg_at h hd) j hj
      have hju := List.any_eq_false.1 hu.2 j hj
      exact dl_same h k (by omega) j.toNat (by omega) (by simpa using hju)
end Go.Proofs.Ytohbdffmidbjhaa.Re
