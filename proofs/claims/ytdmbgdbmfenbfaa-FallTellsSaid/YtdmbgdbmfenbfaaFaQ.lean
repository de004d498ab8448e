/- Waterfalls in plain words: all steps. -/
import Derived.Test.YtdmbgdbmfenbfaaFaP
namespace Go.Proofs.Ytdmbgdbmfenbfaa.Fa
set_option linter.unusedVariables false

/-- no tranche is owed more -/
def Less (a b : List Tr) : Prop := a.length = b.length ∧ ∀ (i : Nat) x y, a[i]? = some x → b[i]? = some y → x.b ≤ y.b ∧ x.u ≤ y.u
theorem Less.refl (a : List Tr) : Less a a := ⟨rfl, fun i x y h1 h2 => by rw [h1] at h2; injection h2 with h; subst h; exact ⟨Int.le_refl _, Int.le_refl _⟩⟩
theorem Less.trans {a b c : List Tr} (h : Less a b) (h' : Less b c) : Less a c := ⟨h.1.trans h'.1, fun i x z h1 h3 => by
  have hi : i < b.length := by have := (List.getElem?_eq_some_iff.1 h1).1; have := h.1; omega
  have e := List.getElem?_eq_getElem hi
  have k1 := h.2 i x _ h1 e
  have k2 := h'.2 i _ z e h3
  omega⟩
theorem less_set {l : List Tr} {i : Nat} {x y : Tr} (hx : l[i]? = some x) (h1 : y.b ≤ x.b) (h2 : y.u ≤ x.u) : Less (l.set i y) l := ⟨List.length_set, fun j a b ha hb => by
  rw [List.getElem?_set] at ha
  split at ha
  · rename_i e
    subst e
    split at ha
    · injection ha with ha
      subst ha
      rw [hx] at hb
      injection hb with hb
      subst hb
      exact ⟨h1, h2⟩
    · cases ha
  · rw [ha] at hb
    injection hb with hb
    subst hb
    exact ⟨Int.le_refl _, Int.le_refl _⟩⟩
theorem stp_less {c : Int} {te : List Te} {f : Fl} {s : St} (h : Ok f) : Less (stp c te f s).2.tr f.tr := by
  obtain ⟨h1, ⟨h2, h3⟩, h4, h5, h6, h7, h8⟩ := h
  unfold stp
  by_cases k0 : s.k = 0
  · rw [if_pos k0]
    cases hx : f.tr[s.n.toNat]? with
    | none => exact Less.refl _
    | some x =>
      obtain ⟨⟨x1, x2⟩, x3, x4⟩ := h8 x (List.mem_of_getElem? hx)
      exact less_set hx (Int.le_refl _) (by dsimp only; omega)
  · rw [if_neg k0]
    by_cases k1 : s.k = 1
    · rw [if_pos k1]
      cases hx : f.tr[s.n.toNat]? with
      | none => exact Less.refl _
      | some x =>
        obtain ⟨⟨x1, x2⟩, x3, x4⟩ := h8 x (List.mem_of_getElem? hx)
        exact less_set hx (by dsimp only; omega) (Int.le_refl _)
    · rw [if_neg k1]
      by_cases k2 : s.k = 2
      · rw [if_pos k2]; exact Less.refl _
      · rw [if_neg k2]
        by_cases k3 : s.k = 3
        · rw [if_pos k3]
          cases hx : te[s.n.toNat]? with
          | none => exact Less.refl _
          | some x =>
            dsimp only
            by_cases hp : psd f.tr c x
            · rw [if_pos hp]; exact Less.refl _
            · rw [if_neg hp]; exact Less.refl _
        · rw [if_neg k3]; exact Less.refl _
/-- what holds of money that has gone on from f to f' -/
structure Far (f f' : Fl) : Prop where
  ok : Ok f'
  ls : Less f'.tr f.tr
  kp : bal f'.tr + due f'.tr - f'.p - f'.r - f'.t - f'.e = bal f.tr + due f.tr - f.p - f.r - f.t - f.e
  p : f'.p ≤ f.p
  t : f.t ≤ f'.t
  e : f.e ≤ f'.e
theorem Far.refl {f : Fl} (h : Ok f) : Far f f := ⟨h, Less.refl _, rfl, Int.le_refl _, Int.le_refl _, Int.le_refl _⟩
theorem Far.trans {a b c : Fl} (h : Far a b) (h' : Far b c) : Far a c :=
  ⟨h'.ok, h'.ls.trans h.ls, h'.kp.trans h.kp, Int.le_trans h'.p h.p, Int.le_trans h.t h'.t, Int.le_trans h.e h'.e⟩
theorem stp_far {c : Int} {te : List Te} {f : Fl} {s : St} (h : Ok f) (hs : stOk f.tr.length te.length s) : Far f (stp c te f s).2 ∧ 0 ≤ (stp c te f s).1 ∧ (stp c te f s).1 ≤ 2000000000000000 := by
  obtain ⟨a, b, b2, d, k, p, t, e⟩ := stp_ok (c := c) h hs
  exact ⟨⟨a, stp_less h, k, p, t, e⟩, b, b2⟩
theorem run_far {c : Int} {te : List Te} : ∀ {l : List St} {f : Fl}, Ok f → (∀ s ∈ l, stOk f.tr.length te.length s) →
    Far f (run c te l f).2 ∧ (∀ x ∈ (run c te l f).1, 0 ≤ x ∧ x ≤ 2000000000000000) ∧ (run c te l f).1.length = l.length
  | [], f, h, _ => ⟨Far.refl h, by simp [run], rfl⟩
  | s :: l, f, h, hs => by
    obtain ⟨h1, h2, h2'⟩ := stp_far (c := c) h (hs s (by simp))
    have hlen := h1.ls.1
    obtain ⟨h3, h4, h5⟩ := run_far (c := c) (l := l) h1.ok (fun s' h' => by rw [hlen]; exact hs s' (by simp [h']))
    unfold run
    dsimp only
    refine ⟨h1.trans h3, fun x hx => ?_, by simp [h5]⟩
    rcases List.mem_cons.1 hx with rfl | hx
    · exact ⟨h2, h2'⟩
    · exact h4 x hx
/-- the money at the top -/
def top (d : Dl) (m : Int) : Fl := ⟨m + d.t, d.r, 0, d.e, d.tr⟩
/-- the deal at the bottom -/
def bot (d : Dl) (f : Fl) : Dl := ⟨d.c, f.r, f.t + f.p, f.e, f.tr, d.te, d.st⟩
theorem top_ok {d : Dl} (h : Rgt d) {m : Int} (hm : mon m) (hb : m + d.t ≤ 1000000000000000) : Ok (top d m) := by
  have h1 := h.t
  have h2 := h.e
  unfold mon at h1 h2 hm
  exact ⟨by unfold top; dsimp only; omega, h.r, by unfold top; dsimp only; omega, by unfold top; dsimp only; omega, by unfold top; dsimp only; omega, by unfold top; dsimp only; omega, h.tr⟩
theorem bot_rgt {d : Dl} (h : Rgt d) {f : Fl} (hf : Ok f) (hl : f.tr.length = d.tr.length) : Rgt (bot d f) ↔ f.e ≤ 1000000000000000 := by
  have h1 := hf.t
  have h2 := hf.p
  have h3 := hf.pt
  have h4 := hf.e
  constructor
  · intro H
    exact H.e.2
  · intro H
    exact ⟨h.c, hf.r, ⟨by unfold bot; dsimp only; omega, by unfold bot; dsimp only; omega⟩, ⟨h4, H⟩, by unfold bot; dsimp only; rw [hl]; exact h.l1, h.l2, h.l3, hf.tr, fun x hx => by unfold bot; dsimp only; rw [hl]; exact h.te x hx, fun s hs => by unfold bot; dsimp only; rw [hl]; exact h.st s hs⟩
/-- the whole way down -/
def dwn (d : Dl) (m : Int) : List Int × Fl := run d.c d.te d.st (top d m)
theorem bal_pos {l : List Tr} (h : ∀ x ∈ l, trOk x) : 0 ≤ bal l ∧ 0 ≤ due l := by
  induction l with
  | nil => exact ⟨Int.le_refl _, Int.le_refl _⟩
  | cons x l ih =>
    obtain ⟨i1, i2⟩ := ih (fun y hy => h y (by simp [hy]))
    obtain ⟨⟨h1, _⟩, h2, _⟩ := h x (by simp)
    unfold bal due at *
    rw [List.map_cons, List.map_cons, List.sum_cons, List.sum_cons]
    omega
theorem less_sum : ∀ {a b : List Tr}, Less a b → bal a ≤ bal b ∧ due a ≤ due b
  | [], [], h => ⟨Int.le_refl _, Int.le_refl _⟩
  | [], _ :: _, h => by have := h.1; simp at this
  | _ :: _, [], h => by have := h.1; simp at this
  | x :: a, y :: b, h => by
    have h1 := less_sum (a := a) (b := b) ⟨by have := h.1; simp at this; exact this, fun i u v hu hv => h.2 (i + 1) u v hu hv⟩
    have h2 := h.2 0 x y rfl rfl
    unfold bal due at *
    rw [List.map_cons, List.map_cons, List.sum_cons, List.sum_cons, List.map_cons, List.map_cons, List.sum_cons, List.sum_cons]
    omega
/-- what the law of what is kept asks -/
theorem dwn_keeps {d : Dl} (h : Rgt d) {m : Int} (hm : mon m) (hb : m + d.t ≤ 1000000000000000) :
    Far (top d m) (dwn d m).2 ∧ (∀ x ∈ (dwn d m).1, 0 ≤ x ∧ x ≤ 2000000000000000) ∧ (dwn d m).1.length = d.st.length ∧ (Rgt (bot d (dwn d m).2) ↔ (dwn d m).2.e ≤ 1000000000000000) ∧
    (¬(dwn d m).2.e ≤ 1000000000000000 → 1000000000000000 < m + d.t + d.e + d.r) := by
  obtain ⟨h1, h2, h3⟩ := run_far (c := d.c) (te := d.te) (l := d.st) (top_ok h hm hb) h.st
  refine ⟨h1, h2, h3, bot_rgt h h1.ok h1.ls.1, fun he => ?_⟩
  have a1 := h1.kp
  have a2 := less_sum h1.ls
  have a3 := h1.ok.p
  have a4 := h1.ok.t
  have a5 := h1.ok.r.1
  change ¬ (run d.c d.te d.st (top d m)).2.e ≤ _ at he
  have b1 : (top d m).p = m + d.t := rfl
  have b2 : (top d m).r = d.r := rfl
  have b3 : (top d m).t = 0 := rfl
  have b4 : (top d m).e = d.e := rfl
  omega
end Go.Proofs.Ytdmbgdbmfenbfaa.Fa
