/- Waterfalls in plain words: what FallOrder says. -/
import Derived.Test.YtdmbgdbmfenbfaaFaL
namespace Go.Proofs.Ytdmbgdbmfenbfaa.Fa
set_option linter.unusedVariables false

theorem run_cons (c : Int) (te : List Te) (x : St) (l : List St) (f : Fl) : run c te (x :: l) f = ((stp c te f x).1 :: (run c te l (stp c te f x).2).1, (run c te l (stp c te f x).2).2) := rfl
theorem run_append {c : Int} {te : List Te} : ∀ (l l' : List St) (f : Fl), run c te (l ++ l') f = ((run c te l f).1 ++ (run c te l' (run c te l f).2).1, (run c te l' (run c te l f).2).2)
  | [], l', f => rfl
  | x :: l, l', f => by
    have ih := run_append (c := c) (te := te) l l' (stp c te f x).2
    rw [List.cons_append, run_cons, run_cons, ih]
    rfl
/-- the money behind some steps -/
def fl (d : Dl) (m : Int) (k : Nat) : Fl := (run d.c d.te (d.st.take k) (top d m)).2
theorem fl_succ {d : Dl} {m : Int} {k : Nat} {s : St} (h : d.st[k]? = some s) : fl d m (k + 1) = (stp d.c d.te (fl d m k) s).2 := by
  unfold fl; rw [run_take h]
theorem fl_all (d : Dl) (m : Int) : fl d m d.st.length = (dwn d m).2 := by unfold fl dwn; rw [List.take_length]
theorem run_len {c : Int} {te : List Te} : ∀ (l : List St) (f : Fl), (run c te l f).1.length = l.length
  | [], f => rfl
  | x :: l, f => by unfold run; simp [run_len l]
theorem run_at {c : Int} {te : List Te} : ∀ (l : List St) (f : Fl) (k : Nat) (s : St), l[k]? = some s → (run c te l f).1[k]? = some (stp c te (run c te (l.take k) f).2 s).1
  | [], f, k, s, h => by simp at h
  | x :: l, f, 0, s, h => by
    simp at h
    subst h
    rfl
  | x :: l, f, k + 1, s, h => by
    have := run_at (c := c) (te := te) l (stp c te f x).2 k s (by simpa using h)
    unfold run
    dsimp only
    rw [List.getElem?_cons_succ, this]
    rfl
theorem fl_at {d : Dl} {m : Int} {k : Nat} {s : St} (h : d.st[k]? = some s) : (dwn d m).1[k]? = some (stp d.c d.te (fl d m k) s).1 := run_at _ _ _ _ h
theorem fl_ok {d : Dl} (h : Rgt d) {m : Int} (hm : mon m) (hb : m + d.t ≤ 1000000000000000) (k : Nat) : Ok (fl d m k) ∧ (fl d m k).tr.length = d.tr.length := by
  obtain ⟨h1, _, _⟩ := run_far (c := d.c) (te := d.te) (l := d.st.take k) (top_ok h hm hb) (fun s hs => h.st s (List.mem_of_mem_take hs))
  exact ⟨h1.ok, h1.ls.1⟩
/-- with an empty pot only a pay takes something -/
theorem dry0 {c : Int} {te : List Te} {f : Fl} {s : St} {q : Nat} (h : Ok f) (hs : stOk q te.length s) (hq : f.tr.length = q) (hp : f.p = 0) : (stp c te f s).2.p = 0 ∧ (s.k ≠ 0 → (stp c te f s).1 = 0) := by
  have htr := h.tr
  have hr := h.r
  have ht := h.t
  obtain ⟨p, r, t, e, tr⟩ := f
  dsimp only at hp htr hr ht hq
  subst hp
  unfold mon at hr
  unfold stOk mon at hs
  unfold stp
  by_cases k0 : s.k = 0
  · rw [if_pos k0]
    cases hx : tr[s.n.toNat]? with
    | none => exact ⟨rfl, fun c => absurd k0 c⟩
    | some x =>
      obtain ⟨⟨x1, x2⟩, x3, x4⟩ := htr x (List.mem_of_getElem? hx)
      refine ⟨?_, fun c => absurd k0 c⟩
      dsimp only
      omega
  · rw [if_neg k0]
    by_cases k1 : s.k = 1
    · rw [if_pos k1]
      cases hx : tr[s.n.toNat]? with
      | none => exact ⟨rfl, fun _ => rfl⟩
      | some x =>
        obtain ⟨⟨x1, x2⟩, x3, x4⟩ := htr x (List.mem_of_getElem? hx)
        refine ⟨?_, fun _ => ?_⟩ <;> dsimp only <;> omega
    · rw [if_neg k1]
      by_cases k2 : s.k = 2
      · rw [if_pos k2]
        refine ⟨?_, fun _ => ?_⟩ <;> dsimp only <;> omega
      · rw [if_neg k2]
        by_cases k3 : s.k = 3
        · rw [if_pos k3]
          cases hx : te[s.n.toNat]? with
          | none => exact ⟨rfl, fun _ => rfl⟩
          | some x =>
            dsimp only
            by_cases hz : psd tr c x
            · rw [if_pos hz]; exact ⟨rfl, fun _ => rfl⟩
            · rw [if_neg hz]; exact ⟨rfl, fun _ => rfl⟩
        · rw [if_neg k3]
          exact ⟨rfl, fun _ => rfl⟩
/-- with an empty pot and an empty reserve nothing is taken -/
theorem dry1 {c : Int} {te : List Te} {f : Fl} {s : St} {q : Nat} (h : Ok f) (hs : stOk q te.length s) (hq : f.tr.length = q) (hp : f.p = 0) (hr0 : f.r = 0) : (stp c te f s).2.p = 0 ∧ (stp c te f s).2.r = 0 ∧ (stp c te f s).1 = 0 := by
  obtain ⟨a1, a2⟩ := dry0 (c := c) h hs hq hp
  have htr := h.tr
  obtain ⟨p, r, t, e, tr⟩ := f
  dsimp only at hp htr hr0 hq
  subst hp hr0
  refine ⟨a1, ?_⟩
  by_cases k0 : s.k = 0
  · unfold stp
    rw [if_pos k0]
    cases hx : tr[s.n.toNat]? with
    | none => exact ⟨rfl, rfl⟩
    | some x =>
      obtain ⟨⟨x1, x2⟩, x3, x4⟩ := htr x (List.mem_of_getElem? hx)
      constructor <;> dsimp only <;> omega
  · refine ⟨?_, a2 k0⟩
    have a3 := a2 k0
    unfold stp at a3 ⊢
    rw [if_neg k0] at a3 ⊢
    by_cases k1 : s.k = 1
    · rw [if_pos k1]
      cases hx : tr[s.n.toNat]? with
      | none => rfl
      | some x => rfl
    · rw [if_neg k1] at a3 ⊢
      by_cases k2 : s.k = 2
      · rw [if_pos k2] at a3 ⊢
        dsimp only at a3 ⊢
        omega
      · rw [if_neg k2] at a3 ⊢
        by_cases k3 : s.k = 3
        · rw [if_pos k3]
          cases hx : te[s.n.toNat]? with
          | none => rfl
          | some x =>
            dsimp only
            by_cases hz : psd tr c x
            · rw [if_pos hz]
            · rw [if_neg hz]
        · rw [if_neg k3]
/-- a trap that takes something, and a rest, leave nothing in the pot -/
theorem shuts {c : Int} {te : List Te} {f : Fl} {s : St} (h : (s.k = 3 ∧ 0 < (stp c te f s).1) ∨ s.k = 4) : (stp c te f s).2.p = 0 := by
  unfold stp at h ⊢
  rcases h with ⟨k3, h⟩ | k4
  · rw [if_neg (by omega), if_neg (by omega), if_neg (by omega), if_pos k3] at h ⊢
    cases hx : te[s.n.toNat]? with
    | none => rw [hx] at h; dsimp only at h; omega
    | some x =>
      rw [hx] at h
      dsimp only at h ⊢
      by_cases hz : psd f.tr c x
      · rw [if_pos hz] at h; dsimp only at h; omega
      · rw [if_neg hz]
  · rw [if_neg (by omega), if_neg (by omega), if_neg (by omega), if_neg (by omega)]
/-- what is due to a tranche -/
def dueAt (f : Fl) (n : Nat) : Option Int := f.tr[n]?.map Tr.u
theorem due_stp {c : Int} {te : List Te} {f : Fl} {s : St} {n : Nat} (hs : s.k ≠ 0 ∨ s.n.toNat ≠ n) : dueAt (stp c te f s).2 n = dueAt f n := by
  unfold dueAt stp
  by_cases k0 : s.k = 0
  · rw [if_pos k0]
    cases hx : f.tr[s.n.toNat]? with
    | none => rfl
    | some x =>
      dsimp only
      rw [List.getElem?_set_ne (by rcases hs with h | h; exact absurd k0 h; exact h)]
  · rw [if_neg k0]
    by_cases k1 : s.k = 1
    · rw [if_pos k1]
      cases hx : f.tr[s.n.toNat]? with
      | none => rfl
      | some x =>
        dsimp only
        rw [List.getElem?_set]
        split
        · rename_i e
          subst e
          rw [hx]
          rw [if_pos (List.getElem?_eq_some_iff.1 hx).1]
          rfl
        · rfl
    · rw [if_neg k1]
      by_cases k2 : s.k = 2
      · rw [if_pos k2]
      · rw [if_neg k2]
        by_cases k3 : s.k = 3
        · rw [if_pos k3]
          cases hx : te[s.n.toNat]? with
          | none => rfl
          | some x =>
            dsimp only
            by_cases hz : psd f.tr c x
            · rw [if_pos hz]
            · rw [if_neg hz]
        · rw [if_neg k3]
theorem due_run {c : Int} {te : List Te} {n : Nat} : ∀ (l : List St) (f : Fl), (∀ s ∈ l, s.k ≠ 0 ∨ s.n.toNat ≠ n) → dueAt (run c te l f).2 n = dueAt f n
  | [], f, h => rfl
  | s :: l, f, h => by
    unfold run
    dsimp only
    rw [due_run l _ (fun s' hs' => h s' (by simp [hs'])), due_stp (h s (by simp))]
/-- a pay that leaves something due empties pot and reserve -/
theorem pays {c : Int} {te : List Te} {f : Fl} {s : St} {u : Int} (h : Ok f) (k0 : s.k = 0) (hd : dueAt (stp c te f s).2 s.n.toNat = some u) (hu : 0 < u) : (stp c te f s).2.p = 0 ∧ (stp c te f s).2.r = 0 := by
  have h1 := h.p
  have h2 := h.r
  have htr := h.tr
  unfold mon at h2
  unfold dueAt stp at hd
  unfold stp
  rw [if_pos k0] at hd ⊢
  cases hx : f.tr[s.n.toNat]? with
  | none => rw [hx] at hd; dsimp only at hd; rw [hx] at hd; cases hd
  | some x =>
    obtain ⟨⟨x1, x2⟩, x3, x4⟩ := htr x (List.mem_of_getElem? hx)
    rw [hx] at hd
    dsimp only at hd ⊢
    rw [List.getElem?_set_self (List.getElem?_eq_some_iff.1 hx).1] at hd
    simp only [Option.map_some, Option.some.injEq] at hd
    constructor <;> omega
/-- no later pay of the same tranche, up to a place -/
def noMore (l : List St) (n : Int) (i k : Nat) : Bool := ((l.take k).drop (i + 1)).all fun s => decide (s.k ≠ 0) || decide (s.n ≠ n)
theorem noMore_snoc {l : List St} {n : Int} {i k : Nat} {s : St} (h : l[k]? = some s) (hk : i < k) : noMore l n i (k + 1) = (noMore l n i k && (decide (s.k ≠ 0) || decide (s.n ≠ n))) := by
  unfold noMore
  rw [List.take_add_one, h, List.drop_append_of_le_length (by rw [List.length_take]; have := (List.getElem?_eq_some_iff.1 h).1; omega)]
  simp
theorem noMore_start (l : List St) (n : Int) (i : Nat) : noMore l n i (i + 1) = true := by
  unfold noMore
  rw [List.drop_eq_nil_of_le (by rw [List.length_take]; omega)]
  rfl
/-- the last pay of a tranche to which something is due in the end -/
theorem last_pay {d : Dl} (h : Rgt d) {m : Int} (hm : mon m) (hb : m + d.t ≤ 1000000000000000) {i : Nat} {s : St} (hs : d.st[i]? = some s) (k0 : s.k = 0) (hl : noMore d.st s.n i d.st.length = true) {u : Int} (hd : dueAt (dwn d m).2 s.n.toNat = some u) (hu : 0 < u) :
    (fl d m (i + 1)).p = 0 ∧ (fl d m (i + 1)).r = 0 := by
  have hsn : 0 ≤ s.n := by
    have := h.st s (List.mem_of_getElem? hs)
    unfold stOk at this
    omega
  have e : d.st = d.st.take (i + 1) ++ d.st.drop (i + 1) := (List.take_append_drop _ _).symm
  have e2 : (dwn d m).2 = (run d.c d.te (d.st.drop (i + 1)) (fl d m (i + 1))).2 := by
    unfold dwn fl
    conv => lhs; rw [e]
    rw [run_append]
  rw [e2, due_run _ _ (fun s' hs' => by
    unfold noMore at hl
    rw [List.take_length] at hl
    have := List.all_eq_true.1 hl s' hs'
    simp only [Bool.or_eq_true, decide_eq_true_eq] at this
    rcases this with a | a
    · exact .inl a
    · right
      intro c
      apply a
      have hs2 : 0 ≤ s'.n := by
        have := h.st s' (List.mem_of_mem_drop hs')
        unfold stOk at this
        omega
      omega)] at hd
  rw [fl_succ hs] at hd ⊢
  exact pays (fl_ok h hm hb i).1 k0 hd hu
end Go.Proofs.Ytdmbgdbmfenbfaa.Fa
