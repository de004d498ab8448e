/- Wire: numerals as lists of bytes; plain facts. -/
import Derived.Test.YtapcfnlononniaaDoorBase
import Derived.Lib.AtoiAll
import Derived.Lib.ItoaMem
import Derived.Lib.Bytealg
namespace Go.Proofs.YtapcfnlononniaaDoor.Wr
open Go.Lib
theorem dec_step (u : Nat) : decDigits u = if u < 10 then [UInt8.ofNat (48 + u)] else decDigits (u / 10) ++ [UInt8.ofNat (48 + u % 10)] := by
  rw [decDigits]
  split <;> rfl
theorem dec_ind {P : Nat → Prop} (h0 : ∀ u, u < 10 → P u) (h1 : ∀ u, 10 ≤ u → P (u / 10) → P u) : ∀ u, P u := by
  intro u
  induction u using Nat.strongRecOn with
  | ind u ih =>
    by_cases h : u < 10
    · exact h0 u h
    · exact h1 u (by omega) (ih (u / 10) (by omega))
theorem dig_nat {d : Nat} (h : d < 10) : (UInt8.ofNat (48 + d)).toNat = 48 + d := by
  rw [UInt8.toNat_ofNat']
  omega
theorem dig_in (u : Nat) : ∀ c ∈ decDigits u, 48 ≤ c.toNat ∧ c.toNat ≤ 57 := by
  induction u using dec_ind with
  | h0 u h =>
    intro c hc
    rw [dec_step, if_pos h, List.mem_singleton] at hc
    subst hc
    rw [dig_nat h]
    omega
  | h1 u h ih =>
    intro c hc
    rw [dec_step, if_neg (by omega)] at hc
    rcases List.mem_append.1 hc with hc | hc
    · exact ih c hc
    · rw [List.mem_singleton] at hc
      subst hc
      rw [dig_nat (by omega)]
      omega
theorem dec_ne (u : Nat) : decDigits u ≠ [] := by
  rw [dec_step]
  split <;> simp
theorem dec_len (k : Nat) : ∀ u, u < 10 ^ (k + 1) → (decDigits u).length ≤ k + 1 := by
  induction k with
  | zero =>
    intro u h
    rw [dec_step, if_pos (by omega)]
    simp
  | succ k ih =>
    intro u h
    rw [dec_step]
    split
    · simp
    · have := ih (u / 10) (by rw [Nat.div_lt_iff_lt_mul (by omega)]; rw [Nat.pow_succ] at h; omega)
      rw [List.length_append]
      simp
      omega
theorem parse_snoc {c : UInt8} (hc : 48 ≤ c.toNat ∧ c.toNat ≤ 57) : ∀ (l : List UInt8) (acc v : Nat), parseUint10 acc l = .ok v → v * 10 + (c.toNat - 48) < 18446744073709551616 → parseUint10 acc (l ++ [c]) = .ok (v * 10 + (c.toNat - 48))
  | [], acc, v, h, hv => by
    simp only [parseUint10] at h
    injection h with h
    subst h
    simp only [List.nil_append, parseUint10]
    rw [if_pos hc, if_neg (by omega), if_neg (by omega)]
  | d :: r, acc, v, h, hv => by
    simp only [parseUint10] at h
    simp only [List.cons_append, parseUint10]
    split at h
    · rename_i hd
      rw [if_pos hd]
      split at h
      · cases h
      · rename_i h1
        rw [if_neg h1]
        split at h
        · cases h
        · rename_i h2
          rw [if_neg h2]
          exact parse_snoc hc r _ v h hv
    · cases h
theorem parse_dec (u : Nat) : u < 18446744073709551616 → parseUint10 0 (decDigits u) = .ok u := by
  induction u using dec_ind with
  | h0 u h =>
    intro _
    rw [dec_step, if_pos h]
    simp only [parseUint10]
    rw [dig_nat h, if_pos (by omega), if_neg (by omega), if_neg (by omega)]
    congr 1
    omega
  | h1 u h ih =>
    intro hu
    rw [dec_step, if_neg (by omega)]
    have hd : (UInt8.ofNat (48 + u % 10)).toNat = 48 + u % 10 := dig_nat (by omega)
    have := parse_snoc (c := UInt8.ofNat (48 + u % 10)) (by rw [hd]; omega) _ 0 _ (ih (by omega)) (by rw [hd]; omega)
    rw [this, hd]
    congr 1
    omega
def I64 (n : Int) : Prop := -9223372036854775808 ≤ n ∧ n ≤ 9223372036854775807
theorem atoi_itoa {n : Int} (h : I64 n) : atoiAll (itoa n) = .ok n := by
  unfold I64 at h
  unfold itoa
  split
  · rename_i h0
    have hm : parseMag (decDigits n.natAbs) = .ok n.natAbs := by
      unfold parseMag
      rw [if_neg (dec_ne _), parse_dec _ (by omega)]
    simp only [atoiAll]
    rw [if_pos (by decide), hm]
    simp only
    rw [if_neg (by simp), if_neg (by simp; omega), if_pos (by decide)]
    congr 1
    omega
  · rename_i h0
    have hm : parseMag (decDigits n.toNat) = .ok n.toNat := by
      unfold parseMag
      rw [if_neg (dec_ne _), parse_dec _ (by omega)]
    cases hd : decDigits n.toNat with
    | nil => exact absurd hd (dec_ne _)
    | cons c r =>
      have hc := dig_in n.toNat c (by rw [hd]; exact List.mem_cons_self)
      rw [hd] at hm
      simp only [atoiAll]
      rw [if_neg (by omega), hm]
      simp only
      rw [if_neg (by omega), if_neg (by omega), if_neg (by omega)]
      congr 1
      omega
theorem itoa_inj {m n : Int} (hm : I64 m) (hn : I64 n) (h : itoa m = itoa n) : m = n := by
  have h1 := atoi_itoa hm
  rw [h, atoi_itoa hn] at h1
  injection h1 with h1
  exact h1.symm
/-- the bytes of a numeral -/
def Nb (c : UInt8) : Prop := c.toNat = 45 ∨ (48 ≤ c.toNat ∧ c.toNat ≤ 57)
theorem itoa_bytes (n : Int) : ∀ c ∈ itoa n, Nb c := by
  intro c hc
  unfold itoa at hc
  split at hc
  · rcases List.mem_cons.1 hc with rfl | hc
    · exact .inl rfl
    · exact .inr (dig_in _ c hc)
  · exact .inr (dig_in _ c hc)
theorem itoa_len {n : Int} (h : I64 n) : (itoa n).length ≤ 20 := by
  unfold I64 at h
  unfold itoa
  split
  · have := dec_len 18 n.natAbs (by have : (10 : Nat) ^ (18 + 1) = 10000000000000000000 := by decide
                                    omega)
    simp
    omega
  · have := dec_len 18 n.toNat (by have : (10 : Nat) ^ (18 + 1) = 10000000000000000000 := by decide
                                   omega)
    omega
theorem itoa_ne (n : Int) : itoa n ≠ [] := by
  unfold itoa
  split
  · simp
  · exact dec_ne _
theorem ix_app {e : UInt8} : ∀ (a b : List UInt8), e ∉ a → indexByte (a ++ e :: b) e = a.length
  | [], b, _ => by simp [indexByte]
  | c :: a, b, h => by
    have h1 := ix_app a b (fun x => h (List.mem_cons_of_mem _ x))
    have h2 : (c == e) = false := by
      rw [beq_eq_false_iff_ne]
      intro x
      exact h (by rw [x]; exact List.mem_cons_self)
    simp only [List.cons_append, indexByte, h2, h1]
    rw [if_neg (by simp), if_neg (by simp only [beq_iff_eq]; omega)]
    simp
theorem ix_at {e : UInt8} : ∀ (l : List UInt8) (k : Nat), indexByte l e = k → l = l.take k ++ e :: l.drop (k + 1) ∧ k < l.length
  | [], k, h => by simp only [indexByte] at h; omega
  | c :: l, k, h => by
    simp only [indexByte] at h
    by_cases h0 : (c == e) = true
    · rw [if_pos h0] at h
      obtain rfl : k = 0 := by omega
      have : c = e := by simpa using h0
      subst this
      simp
    · rw [if_neg h0] at h
      by_cases h1 : (indexByte l e == -1) = true
      · rw [if_pos h1] at h
        omega
      · rw [if_neg h1] at h
        have hg := indexByte_ge l e
        have h1' : indexByte l e ≠ -1 := by simpa using h1
        cases k with
        | zero => omega
        | succ k =>
          have hk : indexByte l e = k := by push_cast at h; omega
          obtain ⟨h2, h3⟩ := ix_at l k hk
          refine ⟨?_, by simp; omega⟩
          simp only [List.take_succ_cons, List.drop_succ_cons, List.cons_append]
          rw [← h2]
/-- what is read ahead: a numeral and the byte behind it -/
def untl (e : UInt8) (l : List UInt8) : Option (Int × List UInt8) :=
  if indexByte (l.take 21) e < 0 then none
  else match atoiAll ((l.take 21).take (indexByte (l.take 21) e).toNat) with
    | .ok v => if itoa v = (l.take 21).take (indexByte (l.take 21) e).toNat then some (v, l.drop ((indexByte (l.take 21) e).toNat + 1)) else none
    | _ => none
theorem untl_enc {e : UInt8} {n : Int} (hn : I64 n) (he : ¬ Nb e) (t : List UInt8) : untl e (itoa n ++ e :: t) = some (n, t) := by
  have hl := itoa_len hn
  have he' : e ∉ itoa n := fun h => he (itoa_bytes n e h)
  have ht : (itoa n ++ e :: t).take 21 = itoa n ++ e :: t.take (20 - (itoa n).length) := by
    rw [List.take_append, List.take_of_length_le (by omega), show 21 - (itoa n).length = (20 - (itoa n).length) + 1 by omega, List.take_succ_cons]
  unfold untl
  rw [ht, ix_app _ _ he', if_neg (by omega), Int.toNat_natCast, List.take_left, atoi_itoa hn]
  simp only [if_true]
  rw [← List.drop_drop, List.drop_left]
  rfl
theorem atoi_in {l : List UInt8} {v : Int} (h : atoiAll l = .ok v) : I64 v := by
  unfold I64
  cases l with
  | nil => cases h
  | cons c r =>
    simp only [atoiAll] at h
    split at h
    · cases h
    · cases h
    · split at h
      · cases h
      · split at h
        · cases h
        · injection h with h
          split at h <;> omega
theorem untl_some {e : UInt8} {l t : List UInt8} {v : Int} (h : untl e l = some (v, t)) : l = itoa v ++ e :: t ∧ I64 v := by
  unfold untl at h
  split at h
  · cases h
  · rename_i h0
    obtain ⟨k, hk⟩ : ∃ k : Nat, indexByte (l.take 21) e = k := ⟨(indexByte (l.take 21) e).toNat, by omega⟩
    rw [hk, Int.toNat_natCast] at h
    obtain ⟨h1, h2⟩ := ix_at _ _ hk
    split at h
    · rename_i v' hv
      split at h
      · rename_i hi
        injection h with h
        injection h with e1 e2
        subst e1
        refine ⟨?_, atoi_in hv⟩
        rw [List.length_take] at h2
        rw [hi, ← e2]
        have h3 : l = l.take 21 ++ l.drop 21 := (List.take_append_drop 21 l).symm
        have h4 : (l.take 21).drop (k + 1) ++ l.drop 21 = l.drop (k + 1) := by
          conv => rhs; rw [h3]
          rw [List.drop_append_of_le_length (by rw [List.length_take]; omega)]
        rw [← h4]
        conv => lhs; rw [h3, h1]
        simp
      · cases h
    · cases h
end Go.Proofs.YtapcfnlononniaaDoor.Wr
