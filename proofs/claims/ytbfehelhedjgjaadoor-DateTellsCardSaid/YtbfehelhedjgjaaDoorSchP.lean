/- Months, and coupon periods, in plain words. -/
import Derived.Test.YtbfehelhedjgjaaDoorCalQ
namespace Go.Proofs.YtbfehelhedjgjaaDoor.Dat
set_option linter.unusedVariables false

/-- the number of days, and the first day, of a month: months are counted from year 0 -/
def ll (M : Int) : Int := lst (M / 12) (M % 12 + 1)
def ms (M : Int) : Int := ny (M / 12) + cum (M / 12) (M % 12).toNat
theorem ll_in (M : Int) : 28 ≤ ll M ∧ ll M ≤ 31 := lst_in _ _ (by omega) (by omega)
theorem ms_succ (M : Int) (h : 12 ≤ M) : ms (M + 1) = ms M + ll M := by
  unfold ms ll
  by_cases e : M % 12 = 11
  · rw [show (M + 1) / 12 = M / 12 + 1 by omega, show (M + 1) % 12 = 0 by omega, e, ny_succ _ (by omega), ← cum_12]
    have := cum_succ (M / 12) 11
    rw [show (11 : Nat) + 1 = 12 from rfl] at this
    rw [show (0 : Int).toNat = 0 from rfl, show (11 : Int).toNat = 11 from rfl, this, show ((11 : Nat) : Int) = 11 from rfl]
    simp only [cum]
    omega
  · rw [show (M + 1) / 12 = M / 12 by omega, show ((M + 1) % 12).toNat = (M % 12).toNat + 1 by omega, cum_succ, show (((M % 12).toNat : Nat) : Int) + 1 = M % 12 + 1 by omega]
    omega
theorem ms_lt {M N : Int} (h : 12 ≤ M) (hlt : M < N) : ms M + ll M ≤ ms N := by
  have key : ∀ k : Nat, ms M + ll M ≤ ms (M + 1 + k) := by
    intro k
    induction k with
    | zero => rw [show M + 1 + ((0 : Nat) : Int) = M + 1 by omega, ms_succ M h]; exact Int.le_refl _
    | succ k ih =>
      rw [show M + 1 + ((k + 1 : Nat) : Int) = M + 1 + k + 1 by omega, ms_succ _ (by omega)]
      have := ll_in (M + 1 + k)
      omega
  have := key (N - M - 1).toNat
  rw [show M + 1 + ((N - M - 1).toNat : Int) = N by omega] at this
  exact this
theorem Pt.ms {day y : Int} {m : Nat} {d : Int} (h : Pt day y m d) : day = ms (12 * y + m - 1) + d - 1 ∧ d ≤ ll (12 * y + m - 1) := by
  have a := h.m0
  have b := h.m1
  have e := h.eq
  have f := h.d1
  unfold Dat.ms ll
  rw [show (12 * y + m - 1) / 12 = y by omega, show ((12 * y + (m : Int) - 1) % 12).toNat = m - 1 by omega, show (12 * y + (m : Int) - 1) % 12 + 1 = m by omega]
  exact ⟨e, f⟩
theorem pt_ms {M d : Int} (h0 : 1900 ≤ M / 12) (h1 : 1 ≤ d) (h2 : d ≤ ll M) : Pt (ms M + d - 1) (M / 12) ((M % 12).toNat + 1) d :=
  ⟨h0, by omega, by omega, h1, by
    unfold ll at h2
    rw [show (((M % 12).toNat + 1 : Nat) : Int) = M % 12 + 1 by omega]
    exact h2, by
    unfold Dat.ms
    rw [show (M % 12).toNat + 1 - 1 = (M % 12).toNat by omega]⟩
/-- the same day of another month, or its last one -/
def addR (y : Int) (m : Nat) (d n : Int) : Int × Int :=
  if 1900 ≤ (12 * y + m - 1 + n) / 12 ∧ (12 * y + m - 1 + n) / 12 ≤ 2500 ∧ ms (12 * y + m - 1 + n) + min d (ll (12 * y + m - 1 + n)) - 1 ≤ 200000 then
    (ms (12 * y + m - 1 + n) + min d (ll (12 * y + m - 1 + n)) - 1, 0) else (0, 3)
noncomputable instance (day : Int) : Decidable (∃ p : Int × Nat × Int, Pt day p.1 p.2.1 p.2.2) := Classical.propDecidable _
noncomputable def dp (day : Int) : Int × Nat × Int := if h : ∃ p : Int × Nat × Int, Pt day p.1 p.2.1 p.2.2 then h.choose else (0, 0, 0)
theorem dp_of {day y : Int} {m : Nat} {d : Int} (h : Pt day y m d) : dp day = (y, m, d) := by
  have hx : ∃ p : Int × Nat × Int, Pt day p.1 p.2.1 p.2.2 := ⟨(y, m, d), h⟩
  unfold dp
  rw [dif_pos hx]
  obtain ⟨e1, e2, e3⟩ := hx.choose_spec.uniq h
  exact Prod.ext e1 (Prod.ext e2 e3)
noncomputable def amO (day n : Int) : Int × Int := if dy day = true ∧ -10000 ≤ n ∧ n ≤ 10000 then addR (dp day).1 (dp day).2.1 (dp day).2.2 n else (0, 3)
theorem amO_of {day y n : Int} {m : Nat} {d : Int} (h : Pt day y m d) (h0 : 0 ≤ day) (h1 : day ≤ 200000) (n0 : -10000 ≤ n) (n1 : n ≤ 10000) : amO day n = addR y m d n := by
  unfold amO
  rw [if_pos ⟨decide_eq_true ⟨h0, h1⟩, n0, n1⟩, dp_of h]
theorem amO_far {day n : Int} (h : n < -10000 ∨ 10000 < n) : amO day n = (0, 3) := by
  unfold amO
  rw [if_neg (by omega)]
theorem amO_off {day n : Int} (h : dy day = false) : amO day n = (0, 3) := by
  unfold amO
  rw [if_neg (by simp [h])]
/-- what it says -/
theorem amO_01 {day n x e : Int} (h : amO day n = (x, e)) : (e = 0 ∧ 0 ≤ day ∧ day ≤ 200000 ∧ n ≤ 10000 ∧ 0 ≤ x ∧ x ≤ 200000 ∧
    ∀ y m d, Pt day y m d → x = ms (12 * y + m - 1 + n) + min d (ll (12 * y + m - 1 + n)) - 1 ∧ Pt x ((12 * y + m - 1 + n) / 12) (((12 * y + m - 1 + n) % 12).toNat + 1) (min d (ll (12 * y + m - 1 + n)))) ∨ (e = 3 ∧ x = 0) := by
  by_cases hd : dy day = true ∧ -10000 ≤ n ∧ n ≤ 10000
  · obtain ⟨h0, h1⟩ : 0 ≤ day ∧ day ≤ 200000 := of_decide_eq_true hd.1
    obtain ⟨y, m, d, hp⟩ := pt_ex day h0 h1
    rw [amO_of hp h0 h1 hd.2.1 hd.2.2] at h
    unfold addR at h
    split at h
    · next c =>
      injection h with e1 e2
      have hl := ll_in (12 * y + m - 1 + n)
      have hd0 := hp.d0
      have hx := pt_ms (M := 12 * y + m - 1 + n) (d := min d (ll (12 * y + m - 1 + n))) c.1 (by omega) (by omega)
      have hx0 := hx.in_
      have := ny_mono (a := 1900) (b := (12 * y + m - 1 + n) / 12) (by omega) c.1
      rw [ny_1900] at this
      refine .inl ⟨e2.symm, h0, h1, hd.2.2, by omega, by omega, fun y' m' d' hp' => ?_⟩
      obtain ⟨rfl, rfl, rfl⟩ := hp.uniq hp'
      rw [← e1]
      exact ⟨rfl, hx⟩
    · injection h with e1 e2
      exact .inr ⟨e2.symm, e1.symm⟩
  · unfold amO at h
    rw [if_neg hd] at h
    injection h with e1 e2
    exact .inr ⟨e2.symm, e1.symm⟩
theorem pt_12 {day y : Int} {m : Nat} {d : Int} (h : Pt day y m d) : 22800 ≤ 12 * y + m - 1 := by
  have := h.y0
  have := h.m0
  omega
/-- with more months it is later -/
theorem amO_lt {day j k x y : Int} (hj : 0 ≤ j) (hjk : j < k) (hx : amO day j = (x, 0)) (hy : amO day k = (y, 0)) : x < y := by
  rcases amO_01 hx with ⟨_, h0, h1, _, _, _, hX⟩ | ⟨h, _⟩
  · rcases amO_01 hy with ⟨_, _, _, _, _, _, hY⟩ | ⟨h, _⟩
    · obtain ⟨yy, m, d, hp⟩ := pt_ex day h0 h1
      have a := (hX yy m d hp).1
      have b := (hY yy m d hp).1
      have c := pt_12 hp
      have e := ms_lt (M := 12 * yy + m - 1 + j) (N := 12 * yy + m - 1 + k) (by omega) (by omega)
      have f := ll_in (12 * yy + m - 1 + k)
      have g := hp.d0
      omega
    · omega
  · omega
theorem amO_0 {day : Int} (h0 : 0 ≤ day) (h1 : day ≤ 200000) : amO day 0 = (day, 0) := by
  obtain ⟨y, m, d, hp⟩ := pt_ex day h0 h1
  rw [amO_of hp h0 h1 (by omega) (by omega)]
  have a := hp.ms
  have b := hp.m0
  have c := hp.m1
  have e := hp.y0
  have f := hp.in_
  unfold addR
  rw [Int.add_zero, if_pos ⟨by omega, by
    have : y ≤ 2500 := by
      by_cases g : y ≤ 2500
      · exact g
      · have := ny_mono (a := 2448) (b := y) (by omega) (by omega)
        have := ny_top
        omega
    omega, by omega⟩]
  exact Prod.ext (by show ms (12 * y + m - 1) + min d (ll (12 * y + m - 1)) - 1 = day; omega) rfl

/-- the bounds of periods behind the first one, from the k-th one on -/
noncomputable def bdT (fr to ev : Int) : Nat → Nat → List Int
  | 0, _ => [to]
  | f + 1, k => if (amO fr (k * ev)).2 = 0 ∧ (amO fr (k * ev)).1 < to then (amO fr (k * ev)).1 :: bdT fr to ev f (k + 1) else [to]
noncomputable def bdL (fr to ev : Int) : List Int := fr :: bdT fr to ev 10001 1
theorem bdT_go {fr to ev x : Int} {f k : Nat} (h : amO fr (k * ev) = (x, 0)) (hx : x < to) : bdT fr to ev (f + 1) k = x :: bdT fr to ev f (k + 1) := by
  rw [bdT, h, if_pos ⟨rfl, hx⟩]
theorem bdT_end {fr to ev x e : Int} {f k : Nat} (h : amO fr (k * ev) = (x, e)) (hx : ¬ (e = 0 ∧ x < to)) : bdT fr to ev (f + 1) k = [to] := by
  rw [bdT, h, if_neg hx]
theorem bdT_len (fr to ev : Int) : ∀ f k : Nat, 1 ≤ (bdT fr to ev f k).length ∧ (bdT fr to ev f k).length ≤ f + 1
  | 0, k => by simp [bdT]
  | f + 1, k => by
    have := bdT_len fr to ev f (k + 1)
    rw [bdT]
    split
    · simp; omega
    · simp
/-- what is known of the bounds: all but the last one are so many months after the first one; they ascend -/
structure Bd (fr to ev : Int) (l : List Int) : Prop where
  len : 2 ≤ l.length
  le : l.length ≤ 10003
  last : l[l.length - 1]? = some to
  mo : ∀ (k : Nat) x, k + 1 < l.length → l[k]? = some x → amO fr (k * ev) = (x, 0) ∧ x < to
  stop : ∀ x, amO fr ((l.length - 1 : Nat) * ev) = (x, 0) → to ≤ x
theorem bd_of {fr to ev : Int} (h0 : 0 ≤ fr) (h1 : fr < to) (h2 : to ≤ 200000) (hev : 1 ≤ ev) : Bd fr to ev (bdL fr to ev) := by
  have key : ∀ (f k : Nat), k + f = 10002 → 1 ≤ k → (bdT fr to ev f k)[(bdT fr to ev f k).length - 1]? = some to ∧
      (∀ (j : Nat) x, j + 1 < (bdT fr to ev f k).length → (bdT fr to ev f k)[j]? = some x → amO fr ((k + j : Nat) * ev) = (x, 0) ∧ x < to) ∧
      (∀ x, amO fr ((k + (bdT fr to ev f k).length - 1 : Nat) * ev) = (x, 0) → to ≤ x) := by
    intro f
    induction f with
    | zero =>
      intro k hk h1k
      obtain rfl : k = 10002 := by omega
      refine ⟨rfl, fun j x hj => by simp [bdT] at hj, fun x hx => ?_⟩
      rw [amO_far (.inr (by
        have : ((10002 + (bdT fr to ev 0 10002).length - 1 : Nat) : Int) = 10002 := by simp [bdT]
        rw [this]; omega))] at hx
      simp at hx
    | succ f ih =>
      intro k hk h1k
      obtain ⟨x, e, hx⟩ : ∃ x e, amO fr (k * ev) = (x, e) := ⟨_, _, rfl⟩
      by_cases hc : e = 0 ∧ x < to
      · obtain ⟨rfl, hxt⟩ := hc
        rw [bdT_go hx hxt]
        obtain ⟨a, b, c⟩ := ih (k + 1) (by omega) (by omega)
        have hl := (bdT_len fr to ev f (k + 1)).1
        refine ⟨?_, ?_, ?_⟩
        · rw [List.length_cons, Nat.add_sub_cancel]
          obtain ⟨q, hq⟩ : ∃ q, (bdT fr to ev f (k + 1)).length = q + 1 := ⟨(bdT fr to ev f (k + 1)).length - 1, by omega⟩
          rw [hq, List.getElem?_cons_succ]
          rw [hq] at a
          simpa using a
        · intro j y hj hy
          cases j with
          | zero =>
            simp at hy
            subst hy
            exact ⟨hx, hxt⟩
          | succ j =>
            rw [List.getElem?_cons_succ] at hy
            have := b j y (by rw [List.length_cons] at hj; omega) hy
            rw [show k + (j + 1) = k + 1 + j by omega]
            exact this
        · intro y hy
          rw [List.length_cons, show k + ((bdT fr to ev f (k + 1)).length + 1) - 1 = k + 1 + (bdT fr to ev f (k + 1)).length - 1 by omega] at hy
          exact c y hy
      · rw [bdT_end hx hc]
        refine ⟨rfl, fun j y hj => by simp at hj, fun y hy => ?_⟩
        rw [show k + [to].length - 1 = k by simp, hx] at hy
        injection hy with e1 e2
        omega
  obtain ⟨a, b, c⟩ := key 10001 1 (by omega) (by omega)
  have hl := bdT_len fr to ev 10001 1
  refine ⟨by unfold bdL; rw [List.length_cons]; omega, by unfold bdL; rw [List.length_cons]; omega, ?_, ?_, ?_⟩
  · unfold bdL
    rw [List.length_cons, Nat.add_sub_cancel]
    obtain ⟨q, hq⟩ : ∃ q, (bdT fr to ev 10001 1).length = q + 1 := ⟨(bdT fr to ev 10001 1).length - 1, by omega⟩
    rw [hq, List.getElem?_cons_succ]
    rw [hq] at a
    simpa using a
  · intro k x hk hx
    unfold bdL at hx hk
    cases k with
    | zero =>
      simp at hx
      subst hx
      rw [show ((0 : Nat) : Int) * ev = 0 by simp]
      exact ⟨amO_0 h0 (by omega), h1⟩
    | succ k =>
      rw [List.getElem?_cons_succ] at hx
      have := b k x (by rw [List.length_cons] at hk; omega) hx
      rw [show k + 1 = 1 + k by omega]
      exact this
  · intro x hx
    unfold bdL at hx
    rw [List.length_cons, Nat.add_sub_cancel] at hx
    exact c x (by rw [show 1 + (bdT fr to ev 10001 1).length - 1 = (bdT fr to ev 10001 1).length by omega]; exact hx)
theorem mul_lt' {j k : Nat} {ev : Int} (h : j < k) (he : 1 ≤ ev) : (j : Int) * ev < k * ev := Int.mul_lt_mul_of_pos_right (by omega) (by omega)
theorem mul_0 {j : Nat} {ev : Int} (he : 1 ≤ ev) : 0 ≤ (j : Int) * ev := Int.mul_nonneg (by omega) (by omega)
theorem Bd.lt {fr to ev : Int} {l : List Int} (h : Bd fr to ev l) (hev : 1 ≤ ev) {j k : Nat} {x y : Int} (hjk : j < k) (hx : l[j]? = some x) (hy : l[k]? = some y) : x < y := by
  have hk : k < l.length := (List.getElem?_eq_some_iff.1 hy).1
  have a := h.mo j x (by omega) hx
  by_cases e : k + 1 < l.length
  · have b := h.mo k y e hy
    exact amO_lt (mul_0 hev) (mul_lt' hjk hev) a.1 b.1
  · have : k = l.length - 1 := by omega
    rw [this, h.last] at hy
    injection hy with hy
    omega
theorem Bd.in_ {fr to ev : Int} {l : List Int} (h : Bd fr to ev l) (hev : 1 ≤ ev) (h0 : 0 ≤ fr) {k : Nat} {x : Int} (hx : l[k]? = some x) : fr ≤ x ∧ x ≤ to := by
  have hk : k < l.length := (List.getElem?_eq_some_iff.1 hx).1
  constructor
  · have hz : ∃ z, l[0]? = some z := ⟨_, List.getElem?_eq_getElem (by have := h.len; omega)⟩
    obtain ⟨z, hz⟩ := hz
    have a := h.mo 0 z (by have := h.len; omega) hz
    rcases amO_01 a.1 with ⟨_, b0, b1, _⟩ | ⟨c, _⟩
    · have e := amO_0 b0 b1
      rw [show ((0 : Nat) : Int) * ev = 0 by simp, e] at a
      obtain ⟨e1, _⟩ := a
      injection e1 with e1
      cases k with
      | zero => rw [hz] at hx; injection hx with hx; omega
      | succ k => have := h.lt hev (Nat.succ_pos k) hz hx; omega
    · omega
  · by_cases e : k + 1 < l.length
    · have := (h.mo k x e hx).2; omega
    · have : k = l.length - 1 := by omega
      rw [this, h.last] at hx
      injection hx with hx
      omega
theorem Bd.first {fr to ev : Int} {l : List Int} (h : Bd fr to ev l) (hl : l = fr :: l.drop 1) : l[0]? = some fr := by rw [hl]; rfl
theorem bdL_0 (fr to ev : Int) : (bdL fr to ev)[0]? = some fr := rfl
end Go.Proofs.YtbfehelhedjgjaaDoor.Dat
