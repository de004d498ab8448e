/- Waterfalls in plain words: one step more; the money in two parts. -/
import Derived.Test.YtdmbgdbmfenbfaaFaQ
namespace Go.Proofs.Ytdmbgdbmfenbfaa.Fa
set_option linter.unusedVariables false

theorem run_snoc {c : Int} {te : List Te} : ∀ (l : List St) (s : St) (f : Fl), run c te (l ++ [s]) f = ((run c te l f).1 ++ [(stp c te (run c te l f).2 s).1], (stp c te (run c te l f).2 s).2)
  | [], s, f => rfl
  | x :: l, s, f => by
    have ih := run_snoc (c := c) (te := te) l s (stp c te f x).2
    rw [List.cons_append]
    unfold run
    rw [ih]
    rfl
theorem run_take {c : Int} {te : List Te} {l : List St} {k : Nat} {s : St} {f : Fl} (h : l[k]? = some s) : run c te (l.take (k + 1)) f = ((run c te (l.take k) f).1 ++ [(stp c te (run c te (l.take k) f).2 s).1], (stp c te (run c te (l.take k) f).2 s).2) := by
  rw [List.take_add_one, h]
  exact run_snoc _ _ _
theorem List.set_getElem?_self' {α : Type} {l : List α} {i : Nat} {x : α} (h : l[i]? = some x) : l.set i x = l := by
  apply List.ext_getElem?
  intro j
  rw [List.getElem?_set]
  split
  · rename_i e
    subst e
    rw [h]
    split
    · rfl
    · rename_i e2; exact absurd (List.getElem?_eq_some_iff.1 h).1 e2
  · rfl
/-- a step that pays or redeems -/
def pd (s : St) : Prop := s.k = 0 ∨ s.k = 1
/-- a pot that is empty pays nothing -/
theorem stp_dry {c : Int} {te : List Te} {f : Fl} {s : St} (h : Ok f) (hs : pd s) (hp : f.p = 0) (hr : f.r = 0) : stp c te f s = (0, f) := by
  obtain ⟨p, r, t, e, tr⟩ := f
  dsimp only at hp hr
  subst hp hr
  have htr := h.tr
  dsimp only at htr
  unfold stp
  rcases hs with hk | hk
  · rw [if_pos hk]
    cases hx : (⟨0, 0, t, e, tr⟩ : Fl).tr[s.n.toNat]? with
    | none => rfl
    | some x =>
      obtain ⟨⟨x1, x2⟩, x3, x4⟩ := htr x (List.mem_of_getElem? hx)
      have hm : min x.u (0 + 0) = (0 : Int) := by omega
      dsimp only at hx ⊢
      rw [hm]
      have e : tr.set s.n.toNat ⟨x.b, x.u - 0⟩ = tr := by
        rw [Int.sub_zero]
        exact List.set_getElem?_self' hx
      rw [e]
      rfl
  · rw [if_neg (by omega), if_pos hk]
    cases hx : (⟨0, 0, t, e, tr⟩ : Fl).tr[s.n.toNat]? with
    | none => rfl
    | some x =>
      obtain ⟨⟨x1, x2⟩, x3, x4⟩ := htr x (List.mem_of_getElem? hx)
      have hm : min x.b (0 : Int) = 0 := by omega
      dsimp only at hx ⊢
      rw [hm]
      have e : tr.set s.n.toNat ⟨x.b - 0, x.u⟩ = tr := by
        rw [Int.sub_zero]
        exact List.set_getElem?_self' hx
      rw [e]
      rfl
end Go.Proofs.Ytdmbgdbmfenbfaa.Fa
