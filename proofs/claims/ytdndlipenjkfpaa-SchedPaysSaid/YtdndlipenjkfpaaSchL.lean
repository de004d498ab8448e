/- What the periods of terms are, in plain words. -/
import Derived.Test.YtdndlipenjkfpaaSchX
namespace Go.Proofs.Ytdndlipenjkfpaa.Dat
set_option linter.unusedVariables false

/-- the periods that there are -/
structure PerOk (rs ds : List Int) (fr to ev ad re : Int) (l : List Pr) : Prop where
  v : vl fr to ev ad re = true
  r : rt rs ds = true
  len : l.length + 1 = (bdL fr to ev).length
  each : ∀ (k : Nat) (t : Pr), l[k]? = some t → (bdL fr to ev)[k]? = some t.1 ∧ (bdL fr to ev)[k + 1]? = some t.2.1 ∧ adj (bd rs ds) t.2.1 ad = (t.2.2.1, 0) ∧ bk (bd rs ds) re.toNat t.2.2.1 = (t.2.2.2, 0)
theorem perT_01 {p : Int → Bool} {ad : Int} {re : Nat} : ∀ {bs : List Int} {acc : List Pr} {a : Int} {l : List Pr} {e : Int}, (∀ b ∈ bs, 0 ≤ b ∧ b ≤ 200000) → perT p ad re acc a bs = (l, e) →
    (e = 0 ∧ ∃ tl, l = acc ++ tl ∧ tl.length = bs.length ∧ ∀ (k : Nat) (t : Pr), tl[k]? = some t → (a :: bs)[k]? = some t.1 ∧ bs[k]? = some t.2.1 ∧ adj p t.2.1 ad = (t.2.2.1, 0) ∧ bk p re t.2.2.1 = (t.2.2.2, 0)) ∨ ((e = 1 ∨ e = 3) ∧ l = [])
  | [], acc, a, l, e, hb, h => by
    rw [perT] at h
    injection h with h1 h2
    subst h1 h2
    exact .inl ⟨rfl, [], by simp, rfl, fun k t ht => by simp at ht⟩
  | b :: bs, acc, a, l, e, hb, h => by
    obtain ⟨y, f, hy⟩ : ∃ u v, adj p b ad = (u, v) := ⟨_, _, rfl⟩
    have b01 := hb b (by simp)
    rcases adj_01 b01.1 b01.2 hy with ⟨rfl, y0, y1⟩ | ⟨hf, rfl⟩
    · obtain ⟨r, g, hr⟩ : ∃ u v, bk p re y = (u, v) := ⟨_, _, rfl⟩
      rcases bk_01 y0 y1 hr with ⟨rfl, _⟩ | ⟨rfl, rfl⟩
      · rw [perT_go hy hr] at h
        rcases perT_01 (fun c hc => hb c (by simp [hc])) h with ⟨rfl, tl, rfl, hl, ht⟩ | h0
        · refine .inl ⟨rfl, (a, b, y, r) :: tl, by simp, by simp [hl], fun k t hk => ?_⟩
          cases k with
          | zero =>
            simp at hk
            subst hk
            exact ⟨rfl, rfl, hy, hr⟩
          | succ k =>
            rw [List.getElem?_cons_succ] at hk ⊢
            rw [List.getElem?_cons_succ]
            exact ht k t hk
        · exact .inr h0
      · rw [perT_no2 hy hr (by omega)] at h
        injection h with h1 h2
        exact .inr ⟨.inr h2.symm, h1.symm⟩
    · rw [perT_no1 hy (by omega)] at h
      injection h with h1 h2
      exact .inr ⟨by omega, h1.symm⟩
theorem perO_01 {rs ds : List Int} {fr to ev ad re e : Int} {l : List Pr} (h : perO rs ds fr to ev ad re = (l, e)) : (e = 0 ∧ PerOk rs ds fr to ev ad re l) ∨ ((e = 1 ∨ e = 3) ∧ l = []) := by
  unfold perO at h
  split at h
  · next c =>
    obtain ⟨v, r⟩ := c
    obtain ⟨fr0, frt, to0, ev0, _⟩ := vl_in v
    have B := bd_of fr0 frt to0 ev0
    have hb : ∀ b ∈ bdT fr to ev 10001 1, 0 ≤ b ∧ b ≤ 200000 := fun b hb => by
      obtain ⟨k, hk⟩ := List.mem_iff_getElem?.1 hb
      have : (bdL fr to ev)[k + 1]? = some b := by unfold bdL; rw [List.getElem?_cons_succ]; exact hk
      have := B.in_ ev0 fr0 this
      omega
    rcases perT_01 hb h with ⟨rfl, tl, rfl, hl, ht⟩ | h0
    · refine .inl ⟨rfl, v, r, by rw [hl]; unfold bdL; simp, fun k t hk => ?_⟩
      obtain ⟨a, b, c, d⟩ := ht k t hk
      exact ⟨a, by unfold bdL; rw [List.getElem?_cons_succ]; exact b, c, d⟩
    · exact .inr h0
  · injection h with h1 h2
    exact .inr ⟨.inl h2.symm, h1.symm⟩
section
variable {rs ds : List Int} {fr to ev ad re : Int} {l : List Pr}
theorem PerOk.bd (h : PerOk rs ds fr to ev ad re l) : Bd fr to ev (bdL fr to ev) := by
  obtain ⟨fr0, frt, to0, ev0, _⟩ := vl_in h.v
  exact bd_of fr0 frt to0 ev0
theorem PerOk.pos (h : PerOk rs ds fr to ev ad re l) : 1 ≤ l.length ∧ l.length ≤ 10002 := by
  have a := h.bd.len
  have b := h.bd.le
  have c := h.len
  omega
theorem PerOk.in_ (h : PerOk rs ds fr to ev ad re l) {k : Nat} {t : Pr} (ht : l[k]? = some t) : fr ≤ t.1 ∧ t.1 < t.2.1 ∧ t.2.1 ≤ to := by
  obtain ⟨fr0, frt, to0, ev0, _⟩ := vl_in h.v
  obtain ⟨a, b, _⟩ := h.each k t ht
  have c := h.bd.in_ ev0 fr0 a
  have d := h.bd.in_ ev0 fr0 b
  have e := h.bd.lt ev0 (Nat.lt_succ_self k) a b
  exact ⟨c.1, e, d.2⟩
theorem PerOk.next (h : PerOk rs ds fr to ev ad re l) {k : Nat} {t u : Pr} (ht : l[k]? = some t) (hu : l[k + 1]? = some u) : u.1 = t.2.1 := by
  obtain ⟨_, b, _⟩ := h.each k t ht
  obtain ⟨a, _⟩ := h.each (k + 1) u hu
  rw [b] at a
  injection a with a
  exact a.symm
theorem PerOk.first (h : PerOk rs ds fr to ev ad re l) {t : Pr} (ht : l[0]? = some t) : t.1 = fr := by
  obtain ⟨a, _⟩ := h.each 0 t ht
  rw [bdL_0] at a
  injection a with a
  exact a.symm
theorem PerOk.last (h : PerOk rs ds fr to ev ad re l) {k : Nat} {t : Pr} (hk : l.length = k + 1) (ht : l[k]? = some t) : t.2.1 = to := by
  obtain ⟨_, a, _⟩ := h.each k t ht
  have b := h.bd.last
  have c := h.len
  rw [show (bdL fr to ev).length - 1 = k + 1 by omega, a] at b
  injection b
theorem PerOk.lt (h : PerOk rs ds fr to ev ad re l) {j k : Nat} {t u : Pr} (hjk : j < k) (ht : l[j]? = some t) (hu : l[k]? = some u) : t.2.1 ≤ u.1 := by
  obtain ⟨fr0, frt, to0, ev0, _⟩ := vl_in h.v
  obtain ⟨_, a, _⟩ := h.each j t ht
  obtain ⟨b, _⟩ := h.each k u hu
  by_cases e : j + 1 = k
  · rw [e, b] at a
    injection a with a
    omega
  · have := h.bd.lt ev0 (show j + 1 < k by omega) a b
    omega
/-- where a day is -/
theorem atA_01 (day : Int) : ∀ (l : List Pr) (k : Nat) {x : Int} {b : Bool}, atA day k l = (x, b) → (b = true ∧ ∃ j t, x = ((k + j : Nat) : Int) ∧ l[j]? = some t ∧ t.1 ≤ day ∧ day < t.2.1) ∨ (b = false ∧ x = 0 ∧ ∀ (j : Nat) t, l[j]? = some t → ¬ (t.1 ≤ day ∧ day < t.2.1))
  | [], k, x, b, h => by
    rw [atA] at h
    injection h with h1 h2
    exact .inr ⟨h2.symm, h1.symm, fun j t ht => by simp at ht⟩
  | t :: ts, k, x, b, h => by
    rw [atA] at h
    split at h
    · next c =>
      injection h with h1 h2
      exact .inl ⟨h2.symm, 0, t, by rw [← h1]; rfl, rfl, c.1, c.2⟩
    · next c =>
      rcases atA_01 day ts (k + 1) h with ⟨hb, j, u, hx, hu, h3⟩ | ⟨hb, hx, hn⟩
      · exact .inl ⟨hb, j + 1, u, by rw [hx]; omega, by rw [List.getElem?_cons_succ]; exact hu, h3⟩
      · refine .inr ⟨hb, hx, fun j u hu => ?_⟩
        cases j with
        | zero => simp at hu; subst hu; exact c
        | succ j => rw [List.getElem?_cons_succ] at hu; exact hn j u hu
theorem PerOk.at_ (h : PerOk rs ds fr to ev ad re l) {day x : Int} {b : Bool} (ha : atA day 0 l = (x, b)) :
    (b = true ∧ fr ≤ day ∧ day < to ∧ ∃ (j : Nat) (t : Pr), x = (j : Int) ∧ l[j]? = some t ∧ t.1 ≤ day ∧ day < t.2.1) ∨ (b = false ∧ x = 0 ∧ ¬ (fr ≤ day ∧ day < to)) := by
  rcases atA_01 day l 0 ha with ⟨hb, j, t, hx, ht, h1, h2⟩ | ⟨hb, hx, hn⟩
  · have := h.in_ ht
    exact .inl ⟨hb, by omega, by omega, j, t, by rw [hx]; omega, ht, h1, h2⟩
  · refine .inr ⟨hb, hx, fun hd => ?_⟩
    have key : ∀ k : Nat, k < l.length → ∀ t : Pr, l[k]? = some t → t.2.1 ≤ day := by
      intro k
      induction k with
      | zero =>
        intro hk t ht
        have a := h.first ht
        have := hn 0 t ht
        omega
      | succ k ih =>
        intro hk t ht
        have hk' : k < l.length := by omega
        have := ih hk' _ (List.getElem?_eq_getElem hk')
        have a := h.next (List.getElem?_eq_getElem hk') ht
        have := hn (k + 1) t ht
        omega
    have hp := h.pos
    have hk : l.length - 1 < l.length := by omega
    have a := key (l.length - 1) hk _ (List.getElem?_eq_getElem hk)
    have b := h.last (k := l.length - 1) (by omega) (List.getElem?_eq_getElem hk)
    omega
end
end Go.Proofs.Ytdndlipenjkfpaa.Dat
