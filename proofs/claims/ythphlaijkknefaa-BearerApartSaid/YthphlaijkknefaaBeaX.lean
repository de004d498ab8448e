/- What is paid, and what is open: plain facts. -/
import Derived.Test.YthphlaijkknefaaLBeT
namespace Go.Proofs.Ythphlaijkknefaa.Bea
open Go.ChangeShapes Go.WideShapes Go.ChangeAt Go.RowKit Go.Proofs.Ythphlaijkknefaa.Cell
set_option linter.unusedVariables false
set_option linter.unusedSimpArgs false
theorem rgtL_at {l : List Pc} {p : Nat} {x : Pc} (h : rgtL l = true) (hx : rgtP x = true) : rgtL (l.set p x) = true := by
  obtain ⟨h1, h2⟩ := rgtL_in h
  refine rgtL_yes (by rw [List.length_set]; exact h1) fun y hy => ?_
  rcases List.mem_or_eq_of_mem_set hy with hy | rfl
  · exact h2 y hy
  · exact hx
/-- what goes through leaves a right piece -/
theorem doF_rgt {l : List Pc} {a : Ac} (h : doE l a = 0) {p : Nat} {x : Pc} (hp : a.pi = p) (hx : l[p]? = some x) : rgtP (doF a x) = true := by
  obtain ⟨hv, p', x', hp', hx', hq, hz⟩ := doE_ok h
  clear hz
  obtain rfl : p' = p := by omega
  obtain rfl : x' = x := by rw [hx] at hx'; injection hx' with e; exact e.symm
  have hr := of_decide_eq_true ((rgtL_in hv).2 x' (mem_of_at hx))
  obtain ⟨kd, q, k, wh, d⟩ := a
  dsimp only at hp
  subst hp
  unfold doE at h
  dsimp only at h
  unfold doF
  dsimp only
  by_cases k0 : kd = 0
  · rw [if_pos k0]
    refine decide_eq_true ?_
    dsimp only
    rw [List.length_set]
    exact hr
  rw [if_neg k0] at h ⊢
  by_cases k1 : kd = 1
  · rw [if_pos k1] at h ⊢
    unfold repoE at h
    split at h
    · exact absurd h (by decide)
    · rename_i hh
      rw [hq] at h
      dsimp only at h
      have hd : 0 ≤ d ∧ d ≤ 200000 := Classical.not_not.1 fun c => hh (.inr c)
      by_cases h0 : x'.lo = -1
      · refine decide_eq_true ?_
        clear h
        dsimp only
        omega
      · rw [if_pos h0] at h
        exact absurd h (by decide)
  rw [if_neg k1] at h ⊢
  by_cases k2 : kd = 2
  · rw [if_pos k2] at h ⊢
    unfold secuE at h
    split at h
    · exact absurd h (by decide)
    · rename_i hh
      rw [hq] at h
      dsimp only at h
      have hd : 0 ≤ wh ∧ wh < 20000 := Classical.not_not.1 fun c => hh (.inr c)
      by_cases h0 : x'.lo = -1
      · rw [if_pos h0] at h
        exact absurd h (by decide)
      · refine decide_eq_true ?_
        clear h
        dsimp only
        omega
  rw [if_neg k2]
  clear h
  refine decide_eq_true ?_
  dsimp only
  omega
theorem foldl_off (zs : List Int) : ∀ z : Int, zs.foldl (· + ·) z = z + zs.foldl (· + ·) 0 := by
  induction zs with
  | nil => intro z; simp
  | cons a t ih =>
    intro z
    rw [List.foldl_cons, List.foldl_cons, ih (z + a), ih (0 + a)]
    omega
theorem tot_cons (z : Int) (zs : List Int) : total (z :: zs) = z + total zs := by
  unfold total
  rw [List.foldl_cons, foldl_off zs (0 + z)]
  omega
theorem total_set {α : Type} (f : α → Int) : ∀ (l : List α) (p : Nat) (x y : α), l[p]? = some x → total ((l.set p y).map f) = total (l.map f) - f x + f y
  | [], p, x, y, h => by simp at h
  | z :: t, 0, x, y, h => by
    have : z = x := by simpa using h
    subst this
    rw [List.set_cons_zero, List.map_cons, List.map_cons, tot_cons, tot_cons]
    omega
  | z :: t, p + 1, x, y, h => by
    have := total_set f t p x y (by simpa using h)
    rw [List.set_cons_succ, List.map_cons, List.map_cons, tot_cons, tot_cons]
    omega
/-- what was paid of an issue and a coupon by one payment -/
def pay1 (l : List Pc) (is c : Int) (a : Ac) : Int := match pieceAt l a.pi with
  | none => 0
  | some x => if x.is = is ∧ a.co = c then x.un else 0
structure Inv (l C : List Pc) (P : List Ac) : Prop where
  len : C.length = l.length
  ok : rgtL C = true
  same : ∀ (p : Nat) x, l[p]? = some x → ∃ y, C[p]? = some y ∧ y.is = x.is ∧ y.un = x.un ∧ y.pd.length = x.pd.length ∧ ∀ c : Nat, x.pd[c]? = some true → y.pd[c]? = some true
  paid : ∀ a ∈ P, ∃ (p c : Nat) (x y : Pc), a.pi = p ∧ a.co = c ∧ l[p]? = some x ∧ C[p]? = some y ∧ x.pd[c]? = some false ∧ y.pd[c]? = some true
  sum : ∀ is c : Int, 0 ≤ c → total (P.map (pay1 l is c)) + opn C is c = opn l is c
theorem Inv.start {l : List Pc} (h : rgtL l = true) : Inv l l [] :=
  ⟨rfl, h, fun p x hx => ⟨x, hx, rfl, rfl, rfl, fun _ h => h⟩, fun a h => absurd h (by simp), fun is c _ => by show (0 : Int) + _ = _; omega⟩
theorem opt_same {is c : Int} {x y : Pc} (h1 : y.is = x.is) (h2 : y.un = x.un) (h3 : y.pd = x.pd) : opt is c y = opt is c x := by
  unfold opt
  rw [h1, h2, h3]
/-- something else than a payment -/
theorem Inv.move {l C : List Pc} {P : List Ac} {a : Ac} (h : Inv l C P) (hE : doE C a = 0) (hk : a.kd ≠ 0) : Inv l (doL C a) P := by
  obtain ⟨hv, p, x, hp, hx, hq, _⟩ := doE_ok hE
  have hL : doL C a = C.set p (doF a x) := by
    unfold doL
    rw [hp]
    exact chg_at hq
  have hF : (doF a x).is = x.is ∧ (doF a x).un = x.un ∧ (doF a x).pd = x.pd := by
    unfold doF
    rw [if_neg hk]
    split
    · exact ⟨rfl, rfl, rfl⟩
    · split <;> exact ⟨rfl, rfl, rfl⟩
  have hpl := lt_of_at hx
  rw [hL]
  refine ⟨by rw [List.length_set]; exact h.len, rgtL_at h.ok (doF_rgt hE hp hx), fun j z hz => ?_, fun b hb => ?_, fun is c hc => ?_⟩
  · obtain ⟨y, hy, e1, e2, e3, e4⟩ := h.same j z hz
    by_cases e : j = p
    · subst e
      obtain rfl : x = y := by rw [hx] at hy; injection hy
      refine ⟨_, List.getElem?_set_self hpl, hF.1.trans e1, hF.2.1.trans e2, by rw [hF.2.2]; exact e3, fun c hc => by rw [hF.2.2]; exact e4 c hc⟩
    · exact ⟨y, by rw [List.getElem?_set_ne (fun c => e c.symm)]; exact hy, e1, e2, e3, e4⟩
  · obtain ⟨j, c, z, y, e1, e2, hz, hy, e3, e4⟩ := h.paid b hb
    by_cases e : j = p
    · subst e
      obtain rfl : x = y := by rw [hx] at hy; injection hy
      exact ⟨j, c, z, _, e1, e2, hz, List.getElem?_set_self hpl, e3, by rw [hF.2.2]; exact e4⟩
    · exact ⟨j, c, z, y, e1, e2, hz, by rw [List.getElem?_set_ne (fun c => e c.symm)]; exact hy, e3, e4⟩
  · have := h.sum is c hc
    unfold opn at this ⊢
    rw [total_set _ C p x _ hx, opt_same hF.1 hF.2.1 hF.2.2]
    omega
/-- a payment -/
theorem Inv.pay {l C : List Pc} {P : List Ac} {a : Ac} (h : Inv l C P) (hE : doE C a = 0) (hk : a.kd = 0) : ∃ (p c : Nat) (x : Pc), a.pi = p ∧ a.co = c ∧ l[p]? = some x ∧ x.pd[c]? = some false ∧ doN C a = x.un ∧ (∀ b ∈ P, ¬ (b.pi = a.pi ∧ b.co = a.co)) ∧ Inv l (doL C a) (P ++ [a]) := by
  obtain ⟨hv, p, y, hp, hy, hq, hco⟩ := doE_ok hE
  obtain ⟨c, hc, hyc⟩ := hco hk
  have hL : doL C a = C.set p (doF a y) := by
    unfold doL
    rw [hp]
    exact chg_at hq
  have hF : doF a y = { y with pd := y.pd.set c true } := by
    unfold doF
    rw [if_pos hk, hc, Int.toNat_natCast]
  have hpl := lt_of_at hy
  have hcl := lt_of_at hyc
  obtain ⟨x, hx⟩ := at_ l p (by rw [← h.len]; exact hpl)
  obtain ⟨y', hy', e1, e2, e3, e4⟩ := h.same p x hx
  obtain rfl : y = y' := by rw [hy] at hy'; injection hy'
  obtain ⟨bx, hbx⟩ := at_ x.pd c (by rw [← e3]; exact hcl)
  have hb : bx = false := by
    cases bx
    · rfl
    · have := e4 c hbx
      rw [hyc] at this
      cases this
  subst hb
  have hN : doN C a = x.un := by
    unfold doN unitsAt
    rw [if_pos hk, hp, hq]
    exact e2
  clear hy'
  refine ⟨p, c, x, hp, hc, hx, hbx, hN, fun b hb hbb => ?_, ?_⟩
  · obtain ⟨j, c', z, y', f1, f2, hz, hy', f3, f4⟩ := h.paid b hb
    obtain rfl : j = p := by omega
    obtain rfl : c' = c := by omega
    obtain rfl : y = y' := by rw [hy] at hy'; injection hy'
    rw [hyc] at f4
    cases f4
  rw [hL]
  refine ⟨by rw [List.length_set]; exact h.len, rgtL_at h.ok (doF_rgt hE hp hy), fun j z hz => ?_, fun b hb => ?_, fun is c' hc' => ?_⟩
  · by_cases e : j = p
    · subst e
      obtain rfl : x = z := by rw [hx] at hz; injection hz
      refine ⟨_, List.getElem?_set_self hpl, ?_⟩
      rw [hF]
      refine ⟨e1, e2, by dsimp only; rw [List.length_set]; exact e3, fun c' hc' => ?_⟩
      dsimp only
      by_cases ec : c = c'
      · subst ec
        exact List.getElem?_set_self hcl
      · rw [List.getElem?_set_ne ec]
        exact e4 c' hc'
    · obtain ⟨y', hy', r⟩ := h.same j z hz
      exact ⟨y', by rw [List.getElem?_set_ne (fun c => e c.symm)]; exact hy', r⟩
  · rcases List.mem_append.1 hb with hb | hb
    · obtain ⟨j, c', z, y', f1, f2, hz, hy', f3, f4⟩ := h.paid b hb
      by_cases e : j = p
      · subst e
        obtain rfl : y = y' := by rw [hy] at hy'; injection hy'
        refine ⟨j, c', z, _, f1, f2, hz, List.getElem?_set_self hpl, f3, ?_⟩
        rw [hF]
        dsimp only
        by_cases ec : c = c'
        · subst ec
          exact List.getElem?_set_self hcl
        · rw [List.getElem?_set_ne ec]
          exact f4
      · exact ⟨j, c', z, y', f1, f2, hz, by rw [List.getElem?_set_ne (fun c => e c.symm)]; exact hy', f3, f4⟩
    · obtain rfl := List.mem_singleton.1 hb
      refine ⟨p, c, x, _, hp, hc, hx, List.getElem?_set_self hpl, hbx, ?_⟩
      rw [hF]
      exact List.getElem?_set_self hcl
  · have hs := h.sum is c' hc'
    unfold opn at hs ⊢
    rw [total_set _ C p y _ hy, List.map_append, List.map_cons, List.map_nil, total_snoc, hF]
    obtain ⟨d, rfl⟩ : ∃ d : Nat, c' = d := ⟨c'.toNat, by omega⟩
    have hpx : pieceAt l a.pi = some x := by
      unfold pieceAt
      rw [hp, if_neg (by omega), Int.toNat_natCast]
      exact hx
    have h1 : pay1 l is d a = if x.is = is ∧ c = d then x.un else 0 := by
      unfold pay1
      rw [hpx]
      dsimp only
      rw [hc]
      by_cases ec : c = d
      · subst ec; simp
      · rw [if_neg (by rintro ⟨_, q⟩; omega), if_neg (fun q => ec q.2)]
    rw [h1]
    have h2 : opt is d y - opt is d { y with pd := y.pd.set c true } = if x.is = is ∧ c = d then x.un else 0 := by
      unfold opt
      dsimp only
      rw [Int.toNat_natCast, e1, e2]
      by_cases ei : x.is = is
      · by_cases ec : c = d
        · subst ec
          rw [if_pos ⟨ei, by omega, hyc⟩, if_neg (by rw [List.getElem?_set_self hcl]; rintro ⟨_, _, q⟩; cases q), if_pos ⟨ei, rfl⟩]
          omega
        · have h0 : (if x.is = is ∧ c = d then x.un else 0) = 0 := if_neg (fun q => ec q.2)
          rw [List.getElem?_set_ne ec, h0]
          omega
      · rw [if_neg (fun q => ei q.1), if_neg (fun q => ei q.1), if_neg (fun q => ei q.1)]
        omega
    omega
end Go.Proofs.Ythphlaijkknefaa.Bea
