/- What BookLevels and the reference need: seats whose parents come before them, in plain words. -/
import Derived.Test.YtpekedhcnijgcaaBookS
namespace Go.Proofs.Ytpekedhcnijgcaa.Book
open Go.ChangeShapes Go.WideShapes Go.ChangeAt Go.RowKit Go.Proofs.Ytpekedhcnijgcaa.Cell
set_option linter.unusedVariables false
set_option linter.unusedSimpArgs false
attribute [local go_sem ↓] Go.wp_at_zero Go.wp_at_succ

theorem no_rg {ss : List (Int × Int)} (h : rg ss = false) (i : Int) : lvO ss i = -1 ∧ rtO ss i = -1 ∧ lfO ss i = false := by
  have e : isS ss i = false := by unfold isS; rw [h, Bool.and_false]
  refine ⟨?_, ?_, ?_⟩
  · unfold lvO; rw [e]; rfl
  · unfold rtO; rw [e]; rfl
  · unfold lfO; rw [h]; rfl
theorem isS_mk {ss : List (Int × Int)} (h : rg ss = true) {j : Nat} (hj : j < ss.length) : isS ss j = true := by
  unfold isS
  rw [h, decide_eq_true (by omega)]; rfl
theorem out_lv (ss : List (Int × Int)) : lvO ss (-1) = -1 := by
  have e : isS ss (-1) = false := by unfold isS; rw [decide_eq_false (by omega)]; rfl
  unfold lvO; rw [e]; rfl
theorem out_rt {ss : List (Int × Int)} {n : Nat} (hn : ss.length = n) : rtO ss n = -1 := by
  have e : isS ss n = false := by unfold isS; rw [decide_eq_false (by omega)]; rfl
  unfold rtO; rw [e]; rfl
section
variable {A : Option Addr} {n cap : Nat} {ss : List (Int × Int)} {i x : Int}
theorem bleaf_g {a W : World} {b : Bool} (hb : Below a.heap.size a W) (hn : ss.length = n) (hc : Prs a A ss) (hbig : n ≤ 1000000) (h : lfO ss i = b) : Calls Try.prog 36 #[.slice A n cap, .int .i64 i] W fun e w' => e = .returned (.bool b) ∧ Below W.heap.size W w' := bleaf_is W hn (hc.keep hb) hbig h
end
/-- seats whose parents come before them -/
def pre (ss : List (Int × Int)) : Prop := ∀ (k : Nat) (s : Int × Int), ss[k]? = some s → okS k s = true
theorem lev_k {ss : List (Int × Int)} (h : pre ss) : ∀ (k : Nat) (x : Int), (acc lv0 ss)[k]? = some x → 0 ≤ x ∧ x ≤ k := by
  intro k
  induction k using Nat.strongRecOn with
  | ind k ih =>
    intro x hx
    have hk := lt_of_at hx
    rw [acc_length] at hk
    have hs := List.getElem?_eq_getElem hk
    have ho := okS_in (h k _ hs)
    rw [acc_at lv0 hs] at hx
    by_cases hp : 0 ≤ ss[k].1
    · rw [lv0_pos hp, List.getD_eq_getElem?_getD, acc_old lv0 (Nat.le_of_lt hk) (by omega)] at hx
      have hl : ss[k].1.toNat < (acc lv0 ss).length := by rw [acc_length]; omega
      have := ih ss[k].1.toNat (by omega) _ (List.getElem?_eq_getElem hl)
      rw [List.getElem?_eq_getElem hl] at hx
      simp only [Option.getD_some] at hx
      have := Option.some.inj hx
      omega
    · rw [lv0_neg (by omega)] at hx
      have := Option.some.inj hx
      omega
theorem pre_take {ss : List (Int × Int)} {k : Nat} {s : Int × Int} (h : pre (ss.take k)) (hs : ss[k]? = some s) (ho : okS k s = true) : pre (ss.take (k + 1)) := fun j x hj => by
  have hjk : j < k + 1 := by have := lt_of_at hj; rw [List.length_take] at this; omega
  rw [List.getElem?_take_of_lt hjk] at hj
  by_cases e : j = k
  · subst e
    rw [hs] at hj
    rw [← Option.some.inj hj]
    exact ho
  · exact h j x (by rw [List.getElem?_take_of_lt (by omega)]; exact hj)
theorem fine_snoc {ss : List (Int × Int)} {k : Nat} {s : Int × Int} {x : Int} (hs : ss[k]? = some s) (ho : okS k s = true) (hx : lv0 (acc lv0 (ss.take k)) s = x) : okF (ss.take (k + 1)) = (okF (ss.take k) && decide (x ≤ 4)) := by
  have hk := lt_of_at hs
  cases hb : okF (ss.take k)
  · cases hc : okF (ss.take (k + 1))
    · rfl
    · have := okF_take (k := k) hc (by rw [List.length_take]; omega)
      rw [List.take_take, Nat.min_eq_left (by omega), hb] at this
      cases this
  · by_cases h4 : x ≤ 4
    · rw [okF_snoc hs hb ho (by rw [hx]; exact h4), decide_eq_true h4]; rfl
    · rw [decide_eq_false h4]
      refine okF_no (k := k) (s := s) (by rw [List.getElem?_take_of_lt (by omega)]; exact hs) (.inr ?_)
      rw [List.take_take, Nat.min_eq_left (by omega), hx]
      omega
theorem rg_take {ss : List (Int × Int)} {k : Nat} {s : Int × Int} (hs : ss[k]? = some s) (ho : okS k s = false) : rg ss = false := rg_no (.inr (okF_no hs (.inl ho)))

end Go.Proofs.Ytpekedhcnijgcaa.Book
