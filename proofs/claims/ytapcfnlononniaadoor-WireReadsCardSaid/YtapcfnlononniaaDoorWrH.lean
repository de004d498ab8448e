/- Wire: what is encoded is read as it was; what is read has this encoding; plain facts. -/
import Derived.Test.YtapcfnlononniaaDoorWrG
namespace Go.Proofs.YtapcfnlononniaaDoor.Wr
open Go.Lib
theorem nb59 : ¬ Nb 59 := by unfold Nb; decide
theorem nb58 : ¬ Nb 58 := by unfold Nb; decide
theorem nb91 : ¬ Nb 91 := by unfold Nb; decide
theorem int_back {n : Int} (h : I64 n) (t : List UInt8) : untl 59 (encI n ++ t) = some (n, t) := by
  unfold encI
  rw [List.append_assoc]
  exact untl_enc h nb59 t
theorem num_back {n : Nat} (h : n ≤ 9223372036854775807) (t : List UInt8) : siz 59 (encI (n : Int) ++ t) = some (n, t) := by
  unfold encI
  rw [List.append_assoc]
  exact siz_enc h nb59 t
theorem text_back {l : List UInt8} (h : l.length ≤ 9223372036854775807) (t : List UInt8) : txr (encT l ++ t) = some (l, t) := by
  unfold encT txr
  rw [List.append_assoc, List.cons_append, siz_enc h nb58]
  dsimp only
  rw [List.append_assoc, List.getElem?_append_right (Nat.le_refl _), Nat.sub_self, List.take_left]
  simp only [List.cons_append, List.nil_append, List.getElem?_cons_zero, if_true]
  rw [← List.drop_drop, List.drop_left]
  rfl
theorem rdl_back {α : Type} {one : List UInt8 → Option (α × List UInt8)} {f : α → List UInt8} : ∀ (vs : List α) (t : List UInt8), (∀ v ∈ vs, ∀ t, one (f v ++ t) = some (v, t)) → rdl one vs.length (vs.flatMap f ++ t) = some (vs, t)
  | [], t, _ => rfl
  | v :: vs, t, h => by
    rw [List.flatMap_cons, List.append_assoc, List.length_cons]
    simp only [rdl]
    rw [h v List.mem_cons_self]
    dsimp only
    rw [rdl_back vs t fun x hx => h x (List.mem_cons_of_mem _ hx)]
theorem list_back {α : Type} {one : List UInt8 → Option (α × List UInt8)} {f : α → List UInt8} {vs : List α} (hl : vs.length ≤ 9223372036854775807) (h : ∀ v ∈ vs, ∀ t, one (f v ++ t) = some (v, t)) (t : List UInt8) : lsr one (encL f vs ++ t) = some (vs, t) := by
  unfold encL lsr
  rw [List.append_assoc, List.cons_append, siz_enc hl nb91]
  dsimp only
  rw [List.append_assoc, rdl_back vs _ h]
  rfl
theorem nums_back {vs : List Int} (hl : vs.length ≤ 9223372036854775807) (h : ∀ v ∈ vs, I64 v) (t : List UInt8) : lsr (untl 59) (encL encI vs ++ t) = some (vs, t) :=
  list_back hl (fun v hv t => int_back (h v hv) t) t
theorem texts_back {vs : List (List UInt8)} (hl : vs.length ≤ 9223372036854775807) (h : ∀ v ∈ vs, v.length ≤ 9223372036854775807) (t : List UInt8) : lsr txr (encL encT vs ++ t) = some (vs, t) :=
  list_back hl (fun v hv t => text_back (h v hv) t) t
/-- what is read has this encoding -/
theorem int_again {l t : List UInt8} {v : Int} (h : untl 59 l = some (v, t)) : l = encI v ++ t := by
  unfold encI
  rw [List.append_assoc]
  exact (untl_some h).1
theorem num_again {l t : List UInt8} {n : Nat} (h : siz 59 l = some (n, t)) : l = encI (n : Int) ++ t := by
  unfold encI
  rw [List.append_assoc]
  exact (siz_some h).1
theorem text_again {l v t : List UInt8} (h : txr l = some (v, t)) : l = encT v ++ t := by
  unfold txr at h
  cases hs : siz 58 l with
  | none => rw [hs] at h; cases h
  | some y =>
    obtain ⟨n, t'⟩ := y
    obtain ⟨h1, _⟩ := siz_some hs
    rw [hs] at h
    dsimp only at h
    split at h
    · rename_i h44
      injection h with h
      injection h with e1 e2
      subst e1 e2
      have hn : n < t'.length := (List.getElem?_eq_some_iff.1 h44).1
      have hl : (t'.take n).length = n := by rw [List.length_take]; omega
      unfold encT
      rw [hl, h1]
      have h5 : t' = t'.take n ++ 44 :: t'.drop (n + 1) := by
        have h6 := List.take_append_drop n t'
        have h7 : t'.drop n = 44 :: t'.drop (n + 1) := by
          rw [List.drop_eq_getElem_cons hn]
          congr 1
          exact (List.getElem?_eq_some_iff.1 h44).2
        rw [h7] at h6
        exact h6.symm
      conv => lhs; rw [h5]
      simp
    · cases h
theorem rdl_again {α : Type} {one : List UInt8 → Option (α × List UInt8)} {f : α → List UInt8} (h : ∀ l v t, one l = some (v, t) → l = f v ++ t) : ∀ (n : Nat) (l : List UInt8) (vs : List α) (t : List UInt8), rdl one n l = some (vs, t) → l = vs.flatMap f ++ t ∧ vs.length = n
  | 0, l, vs, t, hr => by
    simp only [rdl] at hr
    injection hr with hr
    injection hr with e1 e2
    subst e1 e2
    exact ⟨rfl, rfl⟩
  | n + 1, l, vs, t, hr => by
    simp only [rdl] at hr
    cases ho : one l with
    | none => rw [ho] at hr; cases hr
    | some y =>
      obtain ⟨v, t1⟩ := y
      rw [ho] at hr
      dsimp only at hr
      cases hq : rdl one n t1 with
      | none => rw [hq] at hr; cases hr
      | some z =>
        obtain ⟨vs', t2⟩ := z
        rw [hq] at hr
        dsimp only at hr
        injection hr with hr
        injection hr with e1 e2
        subst e1 e2
        obtain ⟨h1, h2⟩ := rdl_again h n t1 vs' t2 hq
        rw [List.flatMap_cons, List.append_assoc, ← h1, List.length_cons, h2]
        exact ⟨h l v t1 ho, rfl⟩
theorem list_again {α : Type} {one : List UInt8 → Option (α × List UInt8)} {f : α → List UInt8} (h : ∀ l v t, one l = some (v, t) → l = f v ++ t) {l t : List UInt8} {vs : List α} (hr : lsr one l = some (vs, t)) : l = encL f vs ++ t := by
  unfold lsr at hr
  cases hs : siz 91 l with
  | none => rw [hs] at hr; cases hr
  | some y =>
    obtain ⟨n, t1⟩ := y
    obtain ⟨h1, _⟩ := siz_some hs
    rw [hs] at hr
    dsimp only at hr
    split at hr
    · rename_i vs' t' hq
      injection hr with hr
      injection hr with e1 e2
      subst e1 e2
      obtain ⟨h2, h3⟩ := rdl_again h _ _ _ _ hq
      unfold encL
      rw [h3, h1, h2]
      simp
    · cases hr
end Go.Proofs.YtapcfnlononniaaDoor.Wr
