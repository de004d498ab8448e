/- Days and dates, in plain words. -/
import Derived.Test.YtbfehelhedjgjaaDoorBase
namespace Go.Proofs.YtbfehelhedjgjaaDoor.Dat
set_option linter.unusedVariables false

def lp (y : Int) : Bool := (decide (y % 4 = 0) && !decide (y % 100 = 0)) || decide (y % 400 = 0)
def ylen (y : Int) : Int := if lp y = true then 366 else 365
/-- the last day of a month -/
def lst (y m : Int) : Int := if m < 1 ∨ 12 < m then 0 else if m = 2 then (if lp y = true then 29 else 28) else if m = 4 ∨ m = 6 ∨ m = 9 ∨ m = 11 then 30 else 31
/-- the day of 1 January -/
def ny (y : Int) : Int := 365 * (y - 1900) + ((y - 1) / 4 - (y - 1) / 100 + (y - 1) / 400) - 460
theorem lp_iff (y : Int) : lp y = true ↔ (y % 4 = 0 ∧ y % 100 ≠ 0) ∨ y % 400 = 0 := by
  unfold lp
  simp
theorem ny_1900 : ny 1900 = 0 := by decide
theorem ny_succ (y : Int) (h : 1 ≤ y) : ny (y + 1) = ny y + ylen y := by
  unfold ny ylen
  have e : y + 1 - 1 = y := by omega
  rw [e]
  by_cases hl : lp y = true
  · rw [if_pos hl]
    rw [lp_iff] at hl
    omega
  · rw [if_neg hl]
    rw [lp_iff] at hl
    omega
theorem ylen_in (y : Int) : ylen y = 365 ∨ ylen y = 366 := by unfold ylen; split <;> simp
theorem lst_in (y m : Int) (h : 1 ≤ m) (h2 : m ≤ 12) : 28 ≤ lst y m ∧ lst y m ≤ 31 := by
  unfold lst
  rw [if_neg (by omega)]
  repeat' split
  all_goals omega
theorem lst_out {y m : Int} (h : m < 1 ∨ 12 < m) : lst y m = 0 := if_pos h
/-- the days of the months before -/
def cum (y : Int) : Nat → Int
  | 0 => 0
  | k + 1 => cum y k + lst y ((k : Int) + 1)
theorem cum_succ (y : Int) (k : Nat) : cum y (k + 1) = cum y k + lst y ((k : Int) + 1) := rfl
theorem cum_12 (y : Int) : cum y 12 = ylen y := by
  simp only [cum]
  unfold lst ylen
  cases lp y <;> simp
theorem cum_mono (y : Int) {j k : Nat} (h : j ≤ k) : cum y j ≤ cum y k := by
  induction k with
  | zero =>
    obtain rfl : j = 0 := by omega
    exact Int.le_refl _
  | succ k ih =>
    by_cases e : j = k + 1
    · subst e; exact Int.le_refl _
    · have := ih (by omega)
      rw [cum_succ]
      have : 0 ≤ lst y ((k : Int) + 1) := by
        by_cases h12 : (k : Int) + 1 ≤ 12
        · have := lst_in y ((k : Int) + 1) (by omega) h12
          omega
        · rw [lst_out (.inr (by omega))]; omega
      omega
theorem cum_in (y : Int) (k : Nat) (h : k ≤ 12) : 28 * k ≤ cum y k ∧ cum y k ≤ 31 * k := by
  induction k with
  | zero => simp [cum]
  | succ k ih =>
    have := ih (by omega)
    have := lst_in y ((k : Int) + 1) (by omega) (by omega)
    rw [cum_succ]
    omega
/-- y, m, d is the date of a day; m counts from 1 -/
structure Pt (day : Int) (y : Int) (m : Nat) (d : Int) : Prop where
  y0 : 1900 ≤ y
  m0 : 1 ≤ m
  m1 : m ≤ 12
  d0 : 1 ≤ d
  d1 : d ≤ lst y m
  eq : day = ny y + cum y (m - 1) + d - 1
theorem ny_mono {a b : Int} (h0 : 1 ≤ a) (h : a ≤ b) : ny a + 365 * (b - a) ≤ ny b := by
  unfold ny
  omega
theorem Pt.in_ {day y : Int} {m : Nat} {d : Int} (h : Pt day y m d) : ny y ≤ day ∧ day < ny (y + 1) := by
  have e := h.eq
  have a := cum_in y (m - 1) (by have := h.m1; omega)
  have b := cum_mono y (show m ≤ 12 from h.m1)
  have c : cum y m = cum y (m - 1) + lst y m := by
    have := cum_succ y (m - 1)
    have e2 : m - 1 + 1 = m := by have := h.m0; omega
    rw [e2] at this
    rw [this]
    congr 2
    omega
  have := h.d1
  have := h.d0
  rw [ny_succ y (by have := h.y0; omega), ← cum_12]
  omega
theorem Pt.uniq {day y : Int} {m : Nat} {d y' : Int} {m' : Nat} {d' : Int} (h : Pt day y m d) (h' : Pt day y' m' d') : y = y' ∧ m = m' ∧ d = d' := by
  have a := h.in_
  have b := h'.in_
  have ey : y = y' := by
    rcases Int.lt_trichotomy y y' with c | c | c
    · have := ny_mono (a := y + 1) (b := y') (by have := h.y0; omega) (by omega); omega
    · exact c
    · have := ny_mono (a := y' + 1) (b := y) (by have := h'.y0; omega) (by omega); omega
  subst ey
  have key : ∀ {m m' : Nat} {d d' : Int}, Pt day y m d → Pt day y m' d' → ¬ m < m' := fun {m m' d d'} h h' hlt => by
    have e := h.eq
    have e' := h'.eq
    have c := cum_mono y (show m ≤ m' - 1 by omega)
    have c2 : cum y m = cum y (m - 1) + lst y m := by
      have := cum_succ y (m - 1)
      have e2 : m - 1 + 1 = m := by have := h.m0; omega
      rw [e2] at this
      rw [this]
      congr 2
      omega
    have := h.d1
    have := h'.d0
    omega
  have em : m = m' := by
    have k1 := key h h'
    have k2 := key h' h
    omega
  subst em
  have := h.eq
  have := h'.eq
  exact ⟨rfl, rfl, by omega⟩
end Go.Proofs.YtbfehelhedjgjaaDoor.Dat
