/- Facts, plain: what FactNow says. -/
import Derived.Test.YtcnfonhcgcblgaaFcG
namespace Go.Proofs.Ytcnfonhcgcblgaa.Fc
open Go.Lib Go.ChangeShapes Go.WideShapes Go.ChangeAt Go.RowKit Go.Proofs.Ytcnfonhcgcblgaa.Cell
set_option linter.unusedVariables false
set_option linter.unusedSimpArgs false
def ownF (f x : Fa) : Bool := decide (x.is = f.is) && decide (x.nm = f.nm)
/-- a report of the same account for a period between -/
def btwE (f : Fa) (p : Int) (x : Fa) : Bool := ownF f x && decide (f.pe < x.pe) && decide (x.pe ≤ p)
def btw (l : List Fa) (f : Fa) (p : Int) : Bool := l.any (btwE f p)
theorem okF_out {f : Fa} (h : okF f = true) : 0 ≤ f.is ∧ f.is < 60 ∧ 0 ≤ f.pe ∧ f.pe ≤ f.dy ∧ f.dy ≤ 200000 ∧ 0 ≤ f.va ∧ f.va ≤ 1000000000000000 ∧ isName f.nm = true := by
  unfold okF at h
  simp only [Bool.and_eq_true, decide_eq_true_eq] at h
  exact ⟨h.1.1.1.1.1.1.1, h.1.1.1.1.1.1.2, h.1.1.1.1.1.2, h.1.1.1.1.2, h.1.1.1.2, h.1.1.2, h.1.2, h.2⟩
theorem add_out {l : List Fa} {f : Fa} (h : addE l f = 0) (hn : l.length ≤ 100) : rgF l = true ∧ okF f = true ∧ rgF (l ++ [f]) = true ∧ addL l f = l ++ [f] := by
  have hL : addL l f = l ++ [f] := by unfold addL; rw [if_pos h]
  unfold addE at h
  by_cases h1 : rgF l = false ∨ okF f = false
  · rw [if_pos h1] at h; cases h
  rw [if_neg h1] at h
  have hr : rgF l = true := by
    cases hr : rgF l with
    | true => rfl
    | false => exact absurd (.inl hr) h1
  have hk : okF f = true := by
    cases hk : okF f with
    | true => rfl
    | false => exact absurd (.inr hk) h1
  have h2 : ∀ y, l.getLast? = some y → y.dy ≤ f.dy := fun y hg => by
    rw [hg] at h
    by_cases h3 : f.dy < y.dy
    · rw [if_pos (by simpa using h3)] at h; cases h
    · omega
  refine ⟨hr, hk, ?_, hL⟩
  unfold rgF at hr ⊢
  rw [Bool.and_eq_true] at hr ⊢
  refine ⟨by simp; omega, ?_⟩
  rw [oksF_snoc, hr.2, hk]
  have := okF_out hk
  cases hg : l.getLast? with
  | none => simp; omega
  | some y =>
    have h3 := h2 y hg
    simp
    omega
theorem lat_pe {l : List Fa} {i p d : Int} {n : List UInt8} {x : Fa} (h : lat l i p d n = some x) : x ∈ l ∧ x.is = i ∧ x.dy ≤ d ∧ x.pe ≤ p ∧ x.nm = n := by
  obtain ⟨h1, h2, h3⟩ := lat_in h
  unfold cnt at h2
  simp only [Bool.and_eq_true, decide_eq_true_eq] at h2
  exact ⟨h1, h2.1.1, h2.1.2, h2.2, h3⟩
theorem lat_new {l : List Fa} {f : Fa} {p d : Int} (hp : f.pe ≤ p) (hd : f.dy ≤ d) : ∃ y, lat (l ++ [f]) f.is p d f.nm = some y ∧ ((∀ x ∈ l, x.is = f.is → x.nm = f.nm → x.pe ≤ p → x.pe ≤ f.pe) → y = f) := by
  rw [lat_snoc]
  unfold stF
  rw [if_pos ⟨by unfold cnt; simp; omega, rfl⟩]
  cases h : lat l f.is p d f.nm with
  | none => exact ⟨f, rfl, fun _ => rfl⟩
  | some b =>
    obtain ⟨h1, h2, h3, h4, h5⟩ := lat_pe h
    dsimp only
    by_cases hb : b.pe ≤ f.pe
    · rw [if_pos hb]; exact ⟨f, rfl, fun _ => rfl⟩
    · rw [if_neg hb]; exact ⟨b, rfl, fun hall => absurd (hall b h1 h2 h5 h4) hb⟩
theorem now_1 {l : List Fa} {f : Fa} {d : Int} (h : addE l f = 0) (hn : l.length ≤ 100) (hd : f.dy ≤ d) : valF (l ++ [f]) f.is f.nm f.pe d = some f := by
  obtain ⟨_, _, h3, _⟩ := add_out h hn
  unfold valF
  rw [if_pos h3]
  obtain ⟨y, hy, hf⟩ := lat_new (l := l) (Int.le_refl f.pe) hd
  rw [hy, hf (fun x _ _ _ h => h)]
theorem now_2 {l : List Fa} {f : Fa} {p d : Int} (h : addE l f = 0) (hn : l.length ≤ 100) (hp : f.pe ≤ p) (hd : f.dy ≤ d) : ∃ y, valF (l ++ [f]) f.is f.nm p d = some y ∧ (btw l f p = false → y = f) := by
  obtain ⟨_, _, h3, _⟩ := add_out h hn
  unfold valF
  rw [if_pos h3]
  obtain ⟨y, hy, hf⟩ := lat_new (l := l) hp hd
  refine ⟨y, hy, fun hb => hf (fun x hx h1 h2 h4 => ?_)⟩
  unfold btw at hb
  rw [List.any_eq_false] at hb
  have := hb x hx
  unfold btwE ownF at this
  simp [h1, h2, h4] at this
  omega
theorem now_3 {l : List Fa} {f : Fa} (h : addE l f = 0) (hn : l.length ≤ 100) : valF (l ++ [f]) f.is f.nm f.pe (f.dy - 1) = valF l f.is f.nm f.pe (f.dy - 1) := by
  obtain ⟨h1, _, h3, _⟩ := add_out h hn
  unfold valF
  rw [if_pos h3, if_pos h1, lat_snoc]
  unfold stF
  rw [if_neg]
  intro hc
  have := hc.1
  unfold cnt at this
  simp at this
  omega
theorem rst_new (l : List Fa) (f : Fa) : rst (l ++ [f]) f = true := by
  rw [rst_eq, List.any_append]
  have : lk3 f f = true := by unfold lk3; simp
  simp [this]
theorem any_take {α : Type} {p : α → Bool} {l : List α} {k : Nat} {x : α} (h : l[k]? = some x) : (l.take (k + 1)).any p = ((l.take k).any p || p x) := by
  rw [List.take_add_one, h, List.any_append]
  simp
end Go.Proofs.Ytcnfonhcgcblgaa.Fc
