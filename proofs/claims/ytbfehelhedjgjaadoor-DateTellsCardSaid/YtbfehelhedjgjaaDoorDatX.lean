/- Texts of days, in plain words: what is read has this text; texts are in the order of days. -/
import Derived.Test.YtbfehelhedjgjaaDoorDatS
namespace Go.Proofs.YtbfehelhedjgjaaDoor.Dat
open Go.ChangeShapes Go.WideShapes Go.ChangeAt Go.RowKit Go.Proofs.YtbfehelhedjgjaaDoor.Cell
set_option linter.unusedVariables false
set_option linter.unusedSimpArgs false

theorem dg_nat {n : Nat} (h : n < 10) : (dg n).toNat = 48 + n := by
  unfold dg
  rw [UInt8.toNat_ofNat']
  exact Nat.mod_eq_of_lt (by omega)
theorem isDg_dg {n : Nat} (h : n < 10) : isDg (dg n) = true := decide_eq_true (by rw [dg_nat h]; omega)
theorem dg_of {c : UInt8} (h : isDg c = true) : c = dg (c.toNat - 48) := by
  have hc := of_decide_eq_true h
  apply UInt8.toNat.inj
  rw [dg_nat (by omega)]
  omega
theorem num2 {a b : UInt8} (ha : isDg a = true) (hb : isDg b = true) : tw (numL [a, b]) = [a, b] ∧ numL [a, b] < 100 := by
  have h1 := of_decide_eq_true ha
  have h2 := of_decide_eq_true hb
  have e : numL [a, b] = (a.toNat - 48) * 10 + (b.toNat - 48) := by simp [numL]
  refine ⟨?_, by omega⟩
  unfold tw
  rw [e, show ((a.toNat - 48) * 10 + (b.toNat - 48)) / 10 = a.toNat - 48 by omega, show ((a.toNat - 48) * 10 + (b.toNat - 48)) % 10 = b.toNat - 48 by omega, ← dg_of ha, ← dg_of hb]
theorem num4 (a b c d : UInt8) : numL [a, b, c, d] = numL [a, b] * 100 + numL [c, d] := by simp [numL]; omega
theorem num_tw {n : Nat} (h : n < 100) : numL (tw n) = n := by
  simp only [numL, tw, List.foldl_cons, List.foldl_nil]
  rw [dg_nat (by omega), dg_nat (by omega)]
  omega
theorem len10 {l : List UInt8} (h : l.length = 10) : ∃ a b c d e f g i j k, l = [a, b, c, d, e, f, g, i, j, k] := by
  match l, h with
  | [a, b, c, d, e, f, g, i, j, k], _ => exact ⟨a, b, c, d, e, f, g, i, j, k, rfl⟩
theorem fm_parts {l : List UInt8} (h : fm l = true) : ∃ a b c d f g j k, l = [a, b, c, d, 45, f, g, 45, j, k] ∧ isDg a = true ∧ isDg b = true ∧ isDg c = true ∧ isDg d = true ∧ isDg f = true ∧ isDg g = true ∧ isDg j = true ∧ isDg k = true := by
  obtain ⟨hl, hf⟩ := fm_in h
  obtain ⟨a, b, c, d, e, f, g, i, j, k, rfl⟩ := len10 hl
  have h0 := hf 0 (by omega)
  have h1 := hf 1 (by omega)
  have h2 := hf 2 (by omega)
  have h3 := hf 3 (by omega)
  have h4 := hf 4 (by omega)
  have h5 := hf 5 (by omega)
  have h6 := hf 6 (by omega)
  have h7 := hf 7 (by omega)
  have h8 := hf 8 (by omega)
  have h9 := hf 9 (by omega)
  simp [okc] at h0 h1 h2 h3 h4 h5 h6 h7 h8 h9
  have e4 : e = 45 := UInt8.toNat.inj (by rw [h4]; rfl)
  have e7 : i = 45 := UInt8.toNat.inj (by rw [h7]; rfl)
  exact ⟨a, b, c, d, f, g, j, k, by rw [e4, e7], h0, h1, h2, h3, h5, h6, h8, h9⟩
theorem ofO_pt {y m d x : Int} (h : ofO y m d = (x, 0)) : Pt x y m.toNat d ∧ 0 ≤ x ∧ x ≤ 200000 := by
  unfold ofO at h
  split at h
  · cases h
  · rename_i hn
    unfold ofR at h
    split at h
    · rename_i hr
      obtain rfl : _ = x := by injection h
      have e : (m - 1).toNat = m.toNat - 1 := by omega
      have hy : 0 ≤ ny y := by have := ny_mono (a := 1900) (b := y) (by omega) (by omega); rw [ny_1900] at this; omega
      have hc : 0 ≤ cum y (m - 1).toNat := by
        have : ∀ k : Nat, 0 ≤ cum y k := by
          intro k
          induction k with
          | zero => simp [cum]
          | succ k ih =>
            rw [cum_succ]
            have : 0 ≤ lst y ((k : Int) + 1) := by unfold lst; repeat' split
                                                   all_goals omega
            omega
        exact this _
      refine ⟨⟨hr.1, by omega, by omega, by omega, by rw [show ((m.toNat : Nat) : Int) = m by omega]; omega, by rw [e]⟩, by omega, by omega⟩
    · cases h
theorem rd_back {l : List UInt8} {c : Int} (h : rdO l = (c, 0)) : ∃ y m d, Pt c y m d ∧ 0 ≤ c ∧ c ≤ 200000 ∧ l = tx y m d := by
  unfold rdO at h
  split at h
  · rename_i hf
    obtain ⟨a, b, c', d, f, g, j, k, rfl, ha, hb, hc, hd, hff, hg, hj, hk⟩ := fm_parts hf
    obtain ⟨hp, h0, h1⟩ := ofO_pt h
    refine ⟨_, _, _, hp, h0, h1, ?_⟩
    have t1 := num2 ha hb
    have t2 := num2 hc hd
    have t3 := num2 hff hg
    have t4 := num2 hj hk
    show [a, b, c', d, 45, f, g, 45, j, k] = tx (numL [a, b, c', d] : Nat) (Int.toNat (numL [f, g] : Nat)) (numL [j, k] : Nat)
    unfold tx
    rw [Int.toNat_natCast, Int.toNat_natCast, Int.toNat_natCast, num4, show (numL [a, b] * 100 + numL [c', d]) / 100 = numL [a, b] by omega, show (numL [a, b] * 100 + numL [c', d]) % 100 = numL [c', d] by omega, t1.1, t2.1, t3.1, t4.1]
    rfl
  · cases h
theorem fm_tx {y : Int} {m : Nat} {d : Int} (hy : 0 ≤ y) (hy1 : y < 10000) (hm : m < 100) (hd : 0 ≤ d) (hd1 : d < 100) : fm (tx y m d) = true := by
  refine fm_yes rfl fun k hk => ?_
  have e : tx y m d = [dg (y.toNat / 100 / 10), dg (y.toNat / 100 % 10), dg (y.toNat % 100 / 10), dg (y.toNat % 100 % 10), 45, dg (m / 10), dg (m % 10), 45, dg (d.toNat / 10), dg (d.toNat % 10)] := rfl
  rw [e]
  have i0 := isDg_dg (n := y.toNat / 100 / 10) (by omega)
  have i1 := isDg_dg (n := y.toNat / 100 % 10) (by omega)
  have i2 := isDg_dg (n := y.toNat % 100 / 10) (by omega)
  have i3 := isDg_dg (n := y.toNat % 100 % 10) (by omega)
  have i5 := isDg_dg (n := m / 10) (by omega)
  have i6 := isDg_dg (n := m % 10) (by omega)
  have i8 := isDg_dg (n := d.toNat / 10) (by omega)
  have i9 := isDg_dg (n := d.toNat % 10) (by omega)
  match k, hk with
  | 0, _ => simpa [okc] using i0
  | 1, _ => simpa [okc] using i1
  | 2, _ => simpa [okc] using i2
  | 3, _ => simpa [okc] using i3
  | 4, _ => rfl
  | 5, _ => simpa [okc] using i5
  | 6, _ => simpa [okc] using i6
  | 7, _ => rfl
  | 8, _ => simpa [okc] using i8
  | 9, _ => simpa [okc] using i9
theorem tx_read {a y : Int} {m : Nat} {d : Int} (hp : Pt a y m d) (h0 : 0 ≤ a) (h1 : a ≤ 200000) : rdO (tx y m d) = (a, 0) := by
  have y0 := hp.y0
  have y1 := pt_hi h1 hp
  have m1 := hp.m1
  have d0 := hp.d0
  have d31 := lst_in y m (by have := hp.m0; omega) (by omega)
  have d1 : d ≤ 31 := by have := hp.d1; omega
  unfold rdO
  rw [if_pos (fm_tx (by omega) (by omega) (by omega) (by omega) (by omega))]
  have e1 : numL ((tx y m d).take 4) = y.toNat := by
    show numL [dg (y.toNat / 100 / 10), dg (y.toNat / 100 % 10), dg (y.toNat % 100 / 10), dg (y.toNat % 100 % 10)] = _
    rw [num4]
    have a1 := num_tw (n := y.toNat / 100) (by omega)
    have a2 := num_tw (n := y.toNat % 100) (by omega)
    unfold tw at a1 a2
    rw [a1, a2]; omega
  have e2 : numL (((tx y m d).drop 5).take 2) = m := num_tw (by omega)
  have e3 : numL ((tx y m d).drop 8) = d.toNat := num_tw (by omega)
  rw [e1, e2, e3, show ((y.toNat : Nat) : Int) = y by omega, show ((d.toNat : Nat) : Int) = d by omega]
  have := hp
  unfold ofO
  rw [if_neg (by have := hp.m0; have := hp.d1; omega)]
  unfold ofR
  have eq := hp.eq
  rw [show ((m : Int) - 1).toNat = m - 1 by have := hp.m0; omega, if_pos ⟨y0, by omega, by omega⟩, ← eq]

/-- which text comes first -/
def lexB : List UInt8 → List UInt8 → Bool
  | [], [] => false
  | [], _ :: _ => true
  | _ :: _, [] => false
  | x :: xs, y :: ys => if x = y then lexB xs ys else decide (x.toNat < y.toNat)
theorem lex_same {l l' : List UInt8} : ∀ {k : Nat}, l.take k = l'.take k → k ≤ l.length → k ≤ l'.length → lexB l l' = lexB (l.drop k) (l'.drop k) := by
  intro k
  induction k generalizing l l' with
  | zero => intro _ _ _; simp
  | succ k ih =>
    intro h h1 h2
    cases l with
    | nil => simp at h1
    | cons x l =>
      cases l' with
      | nil => simp at h2
      | cons y l' =>
        simp only [List.take_succ_cons, List.cons.injEq] at h
        rw [lexB, if_pos h.1, List.drop_succ_cons, List.drop_succ_cons]
        exact ih h.2 (by simpa using h1) (by simpa using h2)
theorem lex_tw {n n' : Nat} (h : n < 100) (h' : n' < 100) (r r' : List UInt8) : lexB (tw n ++ r) (tw n' ++ r') = if n = n' then lexB r r' else decide (n < n') := by
  unfold tw
  simp only [List.cons_append, List.nil_append, lexB]
  have q0 : ∀ {a b : Nat}, a < 10 → b < 10 → (dg a = dg b ↔ a = b) := fun ha hb => ⟨fun e => by have := congrArg UInt8.toNat e; rw [dg_nat ha, dg_nat hb] at this; omega, fun e => by rw [e]⟩
  by_cases h1 : n / 10 = n' / 10
  · rw [if_pos ((q0 (by omega) (by omega)).2 h1)]
    by_cases h2 : n % 10 = n' % 10
    · rw [if_pos ((q0 (by omega) (by omega)).2 h2), if_pos (by omega)]
    · rw [if_neg (fun e => h2 ((q0 (by omega) (by omega)).1 e)), if_neg (by omega), dg_nat (by omega), dg_nat (by omega)]
      exact decide_eq_decide.2 (by omega)
  · rw [if_neg (fun e => h1 ((q0 (by omega) (by omega)).1 e)), if_neg (by omega), dg_nat (by omega), dg_nat (by omega)]
    exact decide_eq_decide.2 (by omega)
theorem lex_45 (r r' : List UInt8) : lexB ([45] ++ r) ([45] ++ r') = lexB r r' := by simp [lexB]
theorem lex_tx {a y : Int} {m : Nat} {d : Int} {b y' : Int} {m' : Nat} {d' : Int} (hp : Pt a y m d) (hp' : Pt b y' m' d') (h0 : 0 ≤ a) (h1 : a ≤ 200000) (h0' : 0 ≤ b) (h1' : b ≤ 200000) : lexB (tx y m d) (tx y' m' d') = decide (a < b) := by
  have y0 := hp.y0
  have y1 := pt_hi h1 hp
  have m0 := hp.m0
  have m1 := hp.m1
  have d0 := hp.d0
  have d31 := lst_in y m (by omega) (by omega)
  have d1 : d ≤ 31 := by have := hp.d1; omega
  have y0' := hp'.y0
  have y1' := pt_hi h1' hp'
  have m0' := hp'.m0
  have m1' := hp'.m1
  have d0' := hp'.d0
  have d31' := lst_in y' m' (by omega) (by omega)
  have d1' : d' ≤ 31 := by have := hp'.d1; omega
  obtain ⟨e1, e2⟩ := hp.ms
  obtain ⟨e1', e2'⟩ := hp'.ms
  have p12 := pt_12 hp
  have p12' := pt_12 hp'
  have hlt : ∀ (I J : Int), 12 * y + (m : Int) - 1 = I → 12 * y' + (m' : Int) - 1 = J → I < J → a < b := fun I J hI hJ hij => by
    rw [hI] at e1 e2
    rw [hJ] at e1' e2'
    have := ms_lt (M := I) (N := J) (by omega) hij
    omega
  have hgt : ∀ (I J : Int), 12 * y + (m : Int) - 1 = I → 12 * y' + (m' : Int) - 1 = J → J < I → b < a := fun I J hI hJ hij => by
    rw [hI] at e1 e2
    rw [hJ] at e1' e2'
    have := ms_lt (M := J) (N := I) (by omega) hij
    omega
  unfold tx
  simp only [List.append_assoc]
  rw [lex_tw (by omega) (by omega)]
  have key : ∀ {p : Prop} [Decidable p], (p → 12 * y + (m : Int) - 1 < 12 * y' + (m' : Int) - 1) → (¬ p → 12 * y' + (m' : Int) - 1 < 12 * y + (m : Int) - 1) → decide p = decide (a < b) := fun f g => by
    apply decide_eq_decide.2
    constructor
    · intro hpp; exact hlt _ _ rfl rfl (f hpp)
    · intro hab
      apply Decidable.byContradiction
      intro c
      have := hgt _ _ rfl rfl (g c)
      omega
  by_cases c1 : y.toNat / 100 = y'.toNat / 100
  · rw [if_pos c1, lex_tw (by omega) (by omega)]
    by_cases c2 : y.toNat % 100 = y'.toNat % 100
    · have hyy : y = y' := by omega
      subst hyy
      rw [if_pos c2, lex_45, lex_tw (by omega) (by omega)]
      by_cases c3 : m = m'
      · subst c3
        rw [if_pos rfl, lex_45]
        have e := lex_tw (n := d.toNat) (n' := d'.toNat) (by omega) (by omega) [] []
        rw [List.append_nil, List.append_nil] at e
        rw [e]
        by_cases c4 : d.toNat = d'.toNat
        · rw [if_pos c4]
          symm
          exact decide_eq_false (by omega)
        · rw [if_neg c4]
          exact decide_eq_decide.2 (by omega)
      · rw [if_neg c3]
        exact key (fun h => by omega) (fun h => by omega)
    · rw [if_neg c2]
      exact key (fun h => by omega) (fun h => by omega)
  · rw [if_neg c1]
    exact key (fun h => by omega) (fun h => by omega)
end Go.Proofs.YtbfehelhedjgjaaDoor.Dat
