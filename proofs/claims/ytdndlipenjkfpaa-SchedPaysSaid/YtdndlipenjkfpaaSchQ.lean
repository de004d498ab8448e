/- Which periods are due on a day: they follow each other. -/
import Derived.Test.YtdndlipenjkfpaaSchL
namespace Go.Proofs.Ytdndlipenjkfpaa.Dat
set_option linter.unusedVariables false

theorem sm_mid {a b c : Int} (h : sm a c = true) (h1 : a ≤ b) (h2 : b ≤ c) : sm b c = true := by
  obtain ⟨y, m, d, d', ha, hc⟩ : SM a c := of_decide_eq_true h
  have e := ha.eq
  have f := hc.eq
  have g := ha.d0
  have k := hc.d1
  refine decide_eq_true ⟨y, m, d + (b - a), d', ⟨ha.y0, ha.m0, ha.m1, by omega, by omega, by omega⟩, hc⟩
theorem adj_mono {p : Int → Bool} {d d' how x y : Int} (h0 : 0 ≤ d) (hd : d ≤ d') (h1 : d' ≤ 200000) (hx : adj p d how = (x, 0)) (hy : adj p d' how = (y, 0)) : x ≤ y := by
  have self : ∀ k, p k = true → p k = true := fun k h => h
  unfold adj at hx hy
  by_cases e0 : how = 0
  · rw [if_pos e0] at hx hy
    injection hx with hx; injection hy with hy; omega
  rw [if_neg e0] at hx hy
  by_cases e1 : how = 1
  · rw [if_pos e1] at hx hy
    obtain ⟨z, hz, hle⟩ := nx_mono self hd hy
    rw [hx] at hz
    injection hz with hz; omega
  rw [if_neg e1] at hx hy
  by_cases e3 : how = 3
  · rw [if_pos e3] at hx hy
    obtain ⟨z, hz, hle⟩ := bf_mono self hd hx
    rw [hy] at hz
    injection hz with hz; omega
  rw [if_neg e3] at hx hy
  by_cases e2 : how = 2
  · rw [if_pos e2] at hx hy
    by_cases c : (nx p d).2 = 0 ∧ sm d (nx p d).1 = true
    · rw [if_pos c] at hx
      rw [hx] at c
      rcases nx_01 hx with ⟨_, n1, n2, n3, n4⟩ | ⟨n, _⟩
      · by_cases c' : (nx p d').2 = 0 ∧ sm d' (nx p d').1 = true
        · rw [if_pos c'] at hy
          obtain ⟨z, hz, hle⟩ := nx_mono self hd hy
          rw [hx] at hz
          injection hz with hz; omega
        · rw [if_neg c'] at hy
          by_cases hxd : x ≤ d'
          · rcases bf_01 hy with ⟨_, b1, b2, b3, b4⟩ | ⟨b, _⟩
            · by_cases hc : y < x
              · have := b4 x hc hxd
                rw [n3] at this
                simp at this
              · omega
            · omega
          · exfalso
            refine c' ?_
            obtain ⟨z, e, hz⟩ : ∃ u v, nx p d' = (u, v) := ⟨_, _, rfl⟩
            rw [hz]
            have hzx : z = x ∧ e = 0 := by
              rcases nx_01 hz with ⟨he, z1, z2, z3, z4⟩ | ⟨he, z0, z4⟩
              · refine ⟨?_, he⟩
                rcases Int.lt_trichotomy z x with q | q | q
                · have := n4 z (by omega) q
                  rw [z3] at this
                  simp at this
                · exact q
                · have := z4 x (by omega) q
                  rw [n3] at this
                  simp at this
              · have := z4 x (by omega) n2
                rw [n3] at this
                simp at this
            exact ⟨hzx.2, by rw [hzx.1]; exact sm_mid c.2 hd (by omega)⟩
      · omega
    · rw [if_neg c] at hx
      have hx' : x ≤ d := by
        rcases bf_01 hx with ⟨_, b1, b2, _⟩ | ⟨b, _⟩
        · exact b2
        · omega
      by_cases c' : (nx p d').2 = 0 ∧ sm d' (nx p d').1 = true
      · rw [if_pos c'] at hy
        rcases nx_01 hy with ⟨_, n1, _⟩ | ⟨n, _⟩
        · omega
        · omega
      · rw [if_neg c'] at hy
        obtain ⟨z, hz, hle⟩ := bf_mono self hd hx
        rw [hy] at hz
        injection hz with hz; omega
  · rw [if_neg e2] at hx
    injection hx with hx hx2
    omega
/-- payments do not descend -/
def mono (l : List Pr) : Prop := ∀ (i j : Nat) (t u : Pr), i < j → l[i]? = some t → l[j]? = some u → t.2.2.1 ≤ u.2.2.1
theorem PerOk.mono {rs ds : List Int} {fr to ev ad re : Int} {l : List Pr} (h : PerOk rs ds fr to ev ad re l) : mono l := fun i j t u hij ht hu => by
  obtain ⟨fr0, frt, to0, ev0, _⟩ := vl_in h.v
  obtain ⟨_, _, a, _⟩ := h.each i t ht
  obtain ⟨_, _, b, _⟩ := h.each j u hu
  have c := h.in_ ht
  have d := h.in_ hu
  have e := h.lt hij ht hu
  exact adj_mono (by omega) (by omega) (by omega) a b
/-- those that are due are numbered a, a + 1, .. -/
structure Run (day : Int) (k : Nat) (l : List Pr) (a c : Nat) : Prop where
  len : (duA day k l).length = c
  el : ∀ j, j < c → (duA day k l)[j]? = some ((a + j : Nat) : Int)
  lo : k ≤ a
  hi : a + c ≤ k + l.length
  iff : ∀ (i : Nat) (t : Pr), l[i]? = some t → (t.2.2.1 = day ↔ (a ≤ k + i ∧ k + i < a + c))
theorem du_run (day : Int) : ∀ (l : List Pr) (k : Nat), mono l → ∃ a c, Run day k l a c
  | [], k, hm => ⟨k, 0, rfl, fun j hj => by omega, Nat.le_refl _, by simp, fun i t ht => by simp at ht⟩
  | t :: ts, k, hm => by
    have hm' : mono ts := fun i j u v hij hu hv => hm (i + 1) (j + 1) u v (by omega) (by simpa using hu) (by simpa using hv)
    obtain ⟨a, c, h⟩ := du_run day ts (k + 1) hm'
    by_cases e : t.2.2.1 = day
    · have hd : duA day k (t :: ts) = (k : Int) :: duA day (k + 1) ts := by rw [duA, if_pos e]; rfl
      by_cases hc : c = 0
      · subst hc
        have hnil : duA day (k + 1) ts = [] := List.eq_nil_of_length_eq_zero h.len
        refine ⟨k, 1, by rw [hd, hnil]; rfl, fun j hj => ?_, Nat.le_refl _, by rw [List.length_cons]; omega, fun i u hu => ?_⟩
        · obtain rfl : j = 0 := by omega
          rw [hd]; rfl
        · cases i with
          | zero =>
            simp at hu
            subst hu
            exact ⟨fun _ => by omega, fun _ => e⟩
          | succ i =>
            have := h.iff i u (by simpa using hu)
            constructor
            · intro hq; have := this.1 hq; omega
            · intro hq; omega
      · have ha : a = k + 1 := by
          have hlo := h.lo
          by_cases q : a = k + 1
          · exact q
          · have hh := h.hi
            obtain ⟨u, hu⟩ : ∃ u, ts[a - (k + 1)]? = some u := ⟨_, List.getElem?_eq_getElem (by omega)⟩
            obtain ⟨v, hv⟩ : ∃ v, ts[0]? = some v := ⟨_, List.getElem?_eq_getElem (by omega)⟩
            have hu2 := (h.iff _ u hu).2 (by omega)
            have m1 := hm 0 1 t v (by omega) rfl (by simpa using hv)
            have m2 := hm' 0 (a - (k + 1)) v u (by omega) hv hu
            have := (h.iff 0 v hv).1 (by omega)
            omega
        subst ha
        refine ⟨k, c + 1, by rw [hd, List.length_cons, h.len], fun j hj => ?_, Nat.le_refl _, by rw [List.length_cons]; have := h.hi; omega, fun i u hu => ?_⟩
        · rw [hd]
          cases j with
          | zero => rfl
          | succ j => rw [List.getElem?_cons_succ, h.el j (by omega), show k + 1 + j = k + (j + 1) by omega]
        · cases i with
          | zero =>
            simp at hu
            subst hu
            exact ⟨fun _ => by omega, fun _ => e⟩
          | succ i =>
            have := h.iff i u (by simpa using hu)
            rw [this]
            omega
    · have hd : duA day k (t :: ts) = duA day (k + 1) ts := by rw [duA, if_neg e]; rfl
      refine ⟨a, c, by rw [hd]; exact h.len, fun j hj => by rw [hd]; exact h.el j hj, by have := h.lo; omega, by have := h.hi; rw [List.length_cons]; omega, fun i u hu => ?_⟩
      cases i with
      | zero =>
        simp at hu
        subst hu
        have := h.lo
        exact ⟨fun q => absurd q e, fun q => by omega⟩
      | succ i =>
        have := h.iff i u (by simpa using hu)
        rw [this]
        omega
end Go.Proofs.Ytdndlipenjkfpaa.Dat
