/- Waterfalls, in plain words. -/
import Derived.Test.YtdmbgdbmfenbfaaBase
namespace Go.Proofs.Ytdmbgdbmfenbfaa.Fa
set_option linter.unusedVariables false
structure Tr where
  b : Int
  u : Int
structure Te where
  o : Int
  m : Int
structure St where
  k : Int
  n : Int
  a : Int
/-- a deal -/
structure Dl where
  c : Int
  r : Int
  t : Int
  e : Int
  tr : List Tr
  te : List Te
  st : List St
def mon (x : Int) : Prop := 0 ≤ x ∧ x ≤ 1000000000000000
instance (x : Int) : Decidable (mon x) := by unfold mon; infer_instance
def trOk (x : Tr) : Prop := mon x.b ∧ mon x.u
instance (x : Tr) : Decidable (trOk x) := by unfold trOk; infer_instance
def teOk (q : Nat) (x : Te) : Prop := 1 ≤ x.o ∧ x.o ≤ q ∧ 0 ≤ x.m ∧ x.m ≤ 2000
instance (q : Nat) (x : Te) : Decidable (teOk q x) := by unfold teOk; infer_instance
def stOk (q v : Nat) (s : St) : Prop :=
  ((s.k = 0 ∨ s.k = 1) ∧ 0 ≤ s.n ∧ s.n < q ∧ s.a = 0) ∨ (s.k = 2 ∧ mon s.a ∧ s.n = 0) ∨ (s.k = 3 ∧ 0 ≤ s.n ∧ s.n < v ∧ s.a = 0) ∨ (s.k = 4 ∧ s.n = 0 ∧ s.a = 0)
instance (q v : Nat) (s : St) : Decidable (stOk q v s) := by unfold stOk; infer_instance
/-- a deal that is right -/
structure Rgt (d : Dl) : Prop where
  c : mon d.c
  r : mon d.r
  t : mon d.t
  e : mon d.e
  l1 : d.tr.length ≤ 40
  l2 : d.te.length ≤ 40
  l3 : d.st.length ≤ 40
  tr : ∀ x ∈ d.tr, trOk x
  te : ∀ x ∈ d.te, teOk d.tr.length x
  st : ∀ s ∈ d.st, stOk d.tr.length d.te.length s
/-- the sum of the first balances -/
def bals (l : List Tr) (k : Nat) : Int := ((l.take k).map Tr.b).sum
/-- whether a test is passed -/
def psd (l : List Tr) (c : Int) (x : Te) : Prop := bals l x.o.toNat * 1000 ≤ x.m * c
instance (l : List Tr) (c : Int) (x : Te) : Decidable (psd l c x) := by unfold psd; infer_instance
/-- money on its way down -/
structure Fl where
  p : Int
  r : Int
  t : Int
  e : Int
  tr : List Tr
/-- a step: what it takes, and what is then -/
def stp (c : Int) (te : List Te) (f : Fl) (s : St) : Int × Fl :=
  if s.k = 0 then
    match f.tr[s.n.toNat]? with
    | some x => let n := min x.u (f.p + f.r); (n, ⟨f.p - min n f.p, f.r - (n - min n f.p), f.t, f.e, f.tr.set s.n.toNat ⟨x.b, x.u - n⟩⟩)
    | none => (0, f)
  else if s.k = 1 then
    match f.tr[s.n.toNat]? with
    | some x => let n := min x.b f.p; (n, ⟨f.p - n, f.r, f.t, f.e, f.tr.set s.n.toNat ⟨x.b - n, x.u⟩⟩)
    | none => (0, f)
  else if s.k = 2 then
    let n := min f.p (max 0 (s.a - f.r)); (n, ⟨f.p - n, f.r + n, f.t, f.e, f.tr⟩)
  else if s.k = 3 then
    match te[s.n.toNat]? with
    | some x => if psd f.tr c x then (0, f) else (f.p, ⟨0, f.r, f.t + f.p, f.e, f.tr⟩)
    | none => (0, f)
  else (f.p, ⟨0, f.r, f.t, f.e + f.p, f.tr⟩)
/-- all steps -/
def run (c : Int) (te : List Te) : List St → Fl → List Int × Fl
  | [], f => ([], f)
  | s :: l, f => ((stp c te f s).1 :: (run c te l (stp c te f s).2).1, (run c te l (stp c te f s).2).2)
def bal (l : List Tr) : Int := (l.map Tr.b).sum
def due (l : List Tr) : Int := (l.map Tr.u).sum
/-- what stays so on the way -/
structure Ok (f : Fl) : Prop where
  p : 0 ≤ f.p
  r : mon f.r
  t : 0 ≤ f.t
  pt : f.p + f.t ≤ 1000000000000000
  e : 0 ≤ f.e
  e2 : f.e + f.p + f.t ≤ 2000000000000000
  tr : ∀ x ∈ f.tr, trOk x
theorem sum_set : ∀ {l : List Tr} {i : Nat} {x y : Tr} (g : Tr → Int), l[i]? = some x → ((l.set i y).map g).sum = (l.map g).sum - g x + g y
  | [], i, x, y, g, h => by simp at h
  | z :: l, 0, x, y, g, h => by
    simp at h
    subst h
    simp
    omega
  | z :: l, i + 1, x, y, g, h => by
    simp at h
    have := sum_set (y := y) g h
    rw [List.set_cons_succ, List.map_cons, List.map_cons, List.sum_cons, List.sum_cons, this]
    omega
theorem mem_set_ok {l : List Tr} {i : Nat} {y : Tr} (h : ∀ x ∈ l, trOk x) (hy : trOk y) : ∀ x ∈ l.set i y, trOk x := by
  intro x hx
  rcases List.mem_or_eq_of_mem_set hx with hx | rfl
  · exact h x hx
  · exact hy
/-- one step keeps what stays so; nothing is lost; what it takes is not negative -/
theorem stp_ok {c : Int} {te : List Te} {f : Fl} {s : St} (h : Ok f) (hs : stOk f.tr.length te.length s) :
    Ok (stp c te f s).2 ∧ 0 ≤ (stp c te f s).1 ∧ (stp c te f s).1 ≤ 2000000000000000 ∧ (stp c te f s).2.tr.length = f.tr.length ∧
    bal (stp c te f s).2.tr + due (stp c te f s).2.tr - (stp c te f s).2.p - (stp c te f s).2.r - (stp c te f s).2.t - (stp c te f s).2.e = bal f.tr + due f.tr - f.p - f.r - f.t - f.e ∧
    (stp c te f s).2.p ≤ f.p ∧ f.t ≤ (stp c te f s).2.t ∧ f.e ≤ (stp c te f s).2.e := by
  obtain ⟨h1, ⟨h2, h3⟩, h4, h5, h6, h7, h8⟩ := h
  unfold stOk mon at hs
  unfold stp
  by_cases k0 : s.k = 0
  · rw [if_pos k0]
    have hn : s.n.toNat < f.tr.length := by omega
    obtain ⟨x, hx⟩ : ∃ x, f.tr[s.n.toNat]? = some x := ⟨_, List.getElem?_eq_getElem hn⟩
    rw [hx]
    dsimp only
    obtain ⟨⟨x1, x2⟩, x3, x4⟩ := h8 x (List.mem_of_getElem? hx)
    obtain ⟨n, hnn⟩ : ∃ n, min x.u (f.p + f.r) = n := ⟨_, rfl⟩
    rw [hnn]
    have e1 := sum_set (y := ⟨x.b, x.u - n⟩) Tr.b hx
    have e2 := sum_set (y := ⟨x.b, x.u - n⟩) Tr.u hx
    dsimp only at e1 e2
    refine ⟨⟨by dsimp only; omega, ⟨by dsimp only; omega, by dsimp only; omega⟩, h4, by dsimp only; omega, h6, by dsimp only; omega, mem_set_ok h8 ⟨⟨x1, x2⟩, by unfold mon; dsimp only; omega⟩⟩, by omega, by omega, List.length_set, ?_, by omega, Int.le_refl _, Int.le_refl _⟩
    unfold bal due
    rw [e1, e2]
    omega
  · rw [if_neg k0]
    by_cases k1 : s.k = 1
    · rw [if_pos k1]
      have hn : s.n.toNat < f.tr.length := by omega
      obtain ⟨x, hx⟩ : ∃ x, f.tr[s.n.toNat]? = some x := ⟨_, List.getElem?_eq_getElem hn⟩
      rw [hx]
      dsimp only
      obtain ⟨⟨x1, x2⟩, x3, x4⟩ := h8 x (List.mem_of_getElem? hx)
      obtain ⟨n, hnn⟩ : ∃ n, min x.b f.p = n := ⟨_, rfl⟩
      rw [hnn]
      have e1 := sum_set (y := ⟨x.b - n, x.u⟩) Tr.b hx
      have e2 := sum_set (y := ⟨x.b - n, x.u⟩) Tr.u hx
      dsimp only at e1 e2
      refine ⟨⟨by dsimp only; omega, ⟨h2, h3⟩, h4, by dsimp only; omega, h6, by dsimp only; omega, mem_set_ok h8 ⟨by unfold mon; dsimp only; omega, x3, x4⟩⟩, by omega, by omega, List.length_set, ?_, by omega, Int.le_refl _, Int.le_refl _⟩
      unfold bal due
      rw [e1, e2]
      omega
    · rw [if_neg k1]
      by_cases k2 : s.k = 2
      · rw [if_pos k2]
        dsimp only
        obtain ⟨n, hnn⟩ : ∃ n, min f.p (max 0 (s.a - f.r)) = n := ⟨_, rfl⟩
        rw [hnn]
        refine ⟨⟨by dsimp only; omega, ⟨by dsimp only; omega, by dsimp only; omega⟩, h4, by dsimp only; omega, h6, by dsimp only; omega, h8⟩, by omega, by omega, rfl, by omega, by omega, Int.le_refl _, Int.le_refl _⟩
      · rw [if_neg k2]
        by_cases k3 : s.k = 3
        · rw [if_pos k3]
          have hn : s.n.toNat < te.length := by omega
          obtain ⟨x, hx⟩ : ∃ x, te[s.n.toNat]? = some x := ⟨_, List.getElem?_eq_getElem hn⟩
          rw [hx]
          dsimp only
          by_cases hp : psd f.tr c x
          · rw [if_pos hp]
            exact ⟨⟨h1, ⟨h2, h3⟩, h4, h5, h6, h7, h8⟩, Int.le_refl _, by dsimp only; omega, rfl, rfl, Int.le_refl _, Int.le_refl _, Int.le_refl _⟩
          · rw [if_neg hp]
            exact ⟨⟨Int.le_refl _, ⟨h2, h3⟩, by dsimp only; omega, by dsimp only; omega, h6, by dsimp only; omega, h8⟩, h1, by omega, rfl, by dsimp only; omega, by dsimp only; omega, by dsimp only; omega, Int.le_refl _⟩
        · rw [if_neg k3]
          exact ⟨⟨Int.le_refl _, ⟨h2, h3⟩, h4, by dsimp only; omega, by dsimp only; omega, by dsimp only; omega, h8⟩, h1, by omega, rfl, by dsimp only; omega, by dsimp only; omega, Int.le_refl _, by dsimp only; omega⟩
end Go.Proofs.Ytdmbgdbmfenbfaa.Fa
