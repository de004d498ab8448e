/- Big integers: texts read, plain facts. -/
import Derived.Test.YtnifkianjpjahaaDoorBhN
namespace Go.Proofs.YtnifkianjpjahaaDoor.Bg
open Go.RowKit Go.Proofs.YtnifkianjpjahaaDoor.Cell
set_option linter.unusedVariables false

def isDc (b : UInt8) : Bool := decide (48 ≤ b.toNat ∧ b.toNat ≤ 57)
/-- decimal digits of a number -/
def decB (t : List UInt8) : Bool := decide (t ≠ [] ∧ ¬ (1 < t.length ∧ t[0]? = some 48)) && t.all isDc
def dv (t : List UInt8) : Nat := t.foldl (fun n b => n * 10 + (b.toNat - 48)) 0
theorem dv_nil : dv [] = 0 := rfl
theorem dv_snoc (t : List UInt8) (b : UInt8) : dv (t ++ [b]) = dv t * 10 + (b.toNat - 48) := by unfold dv; rw [List.foldl_append]; rfl
theorem dg1_nat {n : Nat} (h : n < 10) : (dg1 n).toNat = 48 + n := by
  unfold dg1
  rw [UInt8.toNat_ofNat']
  omega
theorem dg1_of {b : UInt8} (h : isDc b = true) : dg1 (b.toNat - 48) = b := by
  have := of_decide_eq_true h
  apply UInt8.toNat_inj.1
  rw [dg1_nat (by omega)]
  omega
theorem dv_dec : ∀ n : Nat, dv (Lib.decDigits n) = n := by
  intro n
  induction n using Nat.strongRecOn with
  | ind n ih =>
    by_cases h : n < 10
    · rw [dec_lt h, ← List.nil_append [dg1 n], dv_snoc, dg1_nat h, dv_nil]
      omega
    · rw [dec_ge (by omega), dv_snoc, ih _ (by omega), dg1_nat (by omega)]
      omega
theorem isDc_dg1 {n : Nat} (h : n < 10) : isDc (dg1 n) = true := decide_eq_true (by rw [dg1_nat h]; omega)
theorem dec_all : ∀ n : Nat, (Lib.decDigits n).all isDc = true := by
  intro n
  induction n using Nat.strongRecOn with
  | ind n ih =>
    by_cases h : n < 10
    · rw [dec_lt h]
      simp [isDc_dg1 h]
    · rw [dec_ge (by omega), List.all_append, ih _ (by omega)]
      simp [isDc_dg1 (show n % 10 < 10 by omega)]
theorem dec_head : ∀ n : Nat, n ≠ 0 → (Lib.decDigits n)[0]? ≠ some 48 := by
  intro n
  induction n using Nat.strongRecOn with
  | ind n ih =>
    intro h0
    by_cases h : n < 10
    · rw [dec_lt h]
      intro e
      have e1 : dg1 n = 48 := by simpa using e
      have := dg1_nat h
      rw [e1] at this
      have h48 : (48 : UInt8).toNat = 48 := rfl
      omega
    · have h1 := ih (n / 10) (by omega) (by omega)
      have h2 := dec_pos (n / 10)
      rw [dec_ge (by omega), List.getElem?_append_left (by omega)]
      exact h1
theorem decB_dec (n : Nat) : decB (Lib.decDigits n) = true := by
  unfold decB
  rw [dec_all, Bool.and_true]
  refine decide_eq_true ⟨fun e => ?_, fun ⟨h1, h2⟩ => ?_⟩
  · have := dec_pos n
    rw [e] at this
    simp at this
  · by_cases h0 : n = 0
    · subst h0
      rw [dec_lt (by omega)] at h1
      simp at h1
    · exact dec_head n h0 h2
theorem decB_in {t : List UInt8} (h : decB t = true) : t ≠ [] ∧ ¬ (1 < t.length ∧ t[0]? = some 48) ∧ t.all isDc = true := by
  unfold decB at h
  rw [Bool.and_eq_true] at h
  have := of_decide_eq_true h.1
  exact ⟨this.1, this.2, h.2⟩
theorem dv_pos : ∀ {t : List UInt8}, t ≠ [] → t[0]? ≠ some 48 → t.all isDc = true → 1 ≤ dv t := by
  intro t
  induction h : t.length generalizing t with
  | zero => intro h0; exact absurd (List.length_eq_zero_iff.1 h) h0
  | succ k ih =>
    intro h0 h1 h2
    obtain ⟨t', b, rfl⟩ : ∃ t' b, t = t' ++ [b] := ⟨t.dropLast, t.getLast h0, (List.dropLast_concat_getLast h0).symm⟩
    rw [dv_snoc]
    rw [List.all_append] at h2
    have h2' := Bool.and_eq_true .. ▸ h2
    rw [Bool.and_eq_true] at h2
    cases t' with
    | nil =>
      have hb : isDc b = true := by simpa using h2.2
      have := of_decide_eq_true hb
      have h3 : b.toNat ≠ 48 := fun e => h1 (by
        have : b = 48 := UInt8.toNat_inj.1 (by rw [e]; rfl)
        rw [this]; rfl)
      omega
    | cons a t'' =>
      have := ih (t := a :: t'') (by simp at h ⊢; exact h) (by simp) (by simpa using h1) h2.1
      omega
theorem dec_dv : ∀ {t : List UInt8}, decB t = true → Lib.decDigits (dv t) = t := by
  intro t
  induction h : t.length generalizing t with
  | zero => intro h0; exact absurd (List.length_eq_zero_iff.1 h) (decB_in h0).1
  | succ k ih =>
    intro hd
    obtain ⟨h0, h1, h2⟩ := decB_in hd
    obtain ⟨t', b, rfl⟩ : ∃ t' b, t = t' ++ [b] := ⟨t.dropLast, t.getLast h0, (List.dropLast_concat_getLast h0).symm⟩
    rw [List.all_append, Bool.and_eq_true] at h2
    have hb : isDc b = true := by simpa using h2.2
    have hb' := of_decide_eq_true hb
    cases t' with
    | nil =>
      rw [dv_snoc, dv_nil, dec_lt (by omega), show 0 * 10 + (b.toNat - 48) = b.toNat - 48 by omega, dg1_of hb]
      rfl
    | cons a t'' =>
      have ha : (a :: t'')[0]? ≠ some 48 := fun e => h1 ⟨by simp, by simpa using e⟩
      have hp := dv_pos (t := a :: t'') (by simp) ha h2.1
      have hB : decB (a :: t'') = true := by
        unfold decB
        rw [h2.1, Bool.and_true]
        exact decide_eq_true ⟨by simp, fun h => ha h.2⟩
      have hi := ih (t := a :: t'') (by simp at h ⊢; exact h) hB
      rw [dv_snoc, dec_ge (by omega), show (dv (a :: t'') * 10 + (b.toNat - 48)) / 10 = dv (a :: t'') by omega, show (dv (a :: t'') * 10 + (b.toNat - 48)) % 10 = b.toNat - 48 by omega, hi, dg1_of hb]
theorem dv_lt : ∀ (k : Nat) {t : List UInt8}, t.length = k → t.all isDc = true → dv t < 10 ^ k
  | 0, t, h, _ => by rw [List.length_eq_zero_iff.1 h]; decide
  | k + 1, t, h, h2 => by
    have h0 : t ≠ [] := fun e => by rw [e] at h; simp at h
    obtain ⟨t', b, rfl⟩ : ∃ t' b, t = t' ++ [b] := ⟨t.dropLast, t.getLast h0, (List.dropLast_concat_getLast h0).symm⟩
    rw [List.all_append, Bool.and_eq_true] at h2
    have hb : isDc b = true := by simpa using h2.2
    have hb' := of_decide_eq_true hb
    have := dv_lt k (t := t') (by simpa using h) h2.1
    rw [dv_snoc, Nat.pow_succ]
    omega
set_option exponentiation.threshold 400 in
/-- a text of too many digits is no number of 60 -/
theorem dv_long {t : List UInt8} (hd : decB t = true) (h : 362 < t.length) : pw 60 ≤ (dv t : Int) := by
  have h1 : ¬ dv t < 10 ^ 362 := fun h' => by
    have := dec_len 361 (dv t) h'
    rw [dec_dv hd] at this
    omega
  have h2 : pw 60 ≤ ((10 ^ 362 : Nat) : Int) := by decide
  omega
set_option exponentiation.threshold 400 in
theorem dv_few {t : List UInt8} (hd : t.all isDc = true) (h : t.length ≤ 362) : (dv t : Int) < pw 61 := by
  have h1 := dv_lt t.length rfl hd
  have h2 : 10 ^ t.length ≤ 10 ^ 362 := Nat.pow_le_pow_right (by omega) h
  have h3 : ((10 ^ 362 : Nat) : Int) < pw 61 := by decide
  omega
/-- the number of a text -/
def rd (s : List UInt8) : Option Int :=
  if s[0]? = some 45 then (if decB (s.drop 1) = true ∧ s.drop 1 ≠ [48] then some (-(dv (s.drop 1) : Int)) else none)
  else if decB s = true then some (dv s : Int) else none
theorem dec_minus (n : Nat) : (Lib.decDigits n)[0]? ≠ some 45 := fun e => by
  have := dec_all n
  cases h : Lib.decDigits n with
  | nil => rw [h] at e; simp at e
  | cons a t =>
    rw [h] at e this
    simp at e
    subst e
    simp [isDc] at this
theorem rd_txt (z : Int) : rd (txt z) = some z := by
  unfold txt
  split
  case isTrue h =>
    unfold rd
    rw [if_pos (show (45 :: Lib.decDigits z.natAbs)[0]? = some 45 from rfl)]
    have e : ((45 :: Lib.decDigits z.natAbs).drop 1) = Lib.decDigits z.natAbs := rfl
    have hn : Lib.decDigits z.natAbs ≠ [48] := fun e => by
      have h1 := dv_dec z.natAbs
      rw [e] at h1
      have : dv [48] = 0 := by decide
      omega
    rw [e, if_pos ⟨decB_dec _, hn⟩, dv_dec]
    congr 1
    omega
  case isFalse h =>
    unfold rd
    rw [if_neg (dec_minus _), if_pos (decB_dec _), dv_dec]
    congr 1
    omega
theorem txt_rd {s : List UInt8} {z : Int} (h : rd s = some z) : txt z = s := by
  unfold rd at h
  split at h
  case isTrue h0 =>
    split at h
    case isTrue h1 =>
      injection h with h
      subst h
      have hp : 0 < dv (s.drop 1) := by
        rcases Nat.eq_zero_or_pos (dv (s.drop 1)) with e | e
        · exfalso
          apply h1.2
          rw [← dec_dv h1.1, e, dec_lt (by omega)]
          rfl
        · exact e
      unfold txt
      rw [if_pos (by omega), show (-(dv (s.drop 1) : Int)).natAbs = dv (s.drop 1) by omega, dec_dv h1.1]
      cases s with
      | nil => simp at h0
      | cons a t => simp at h0; simp [h0]
    case isFalse => exact absurd h (by simp)
  case isFalse h0 =>
    split at h
    case isTrue h1 =>
      injection h with h
      subst h
      unfold txt
      rw [if_neg (by omega), show ((dv s : Int)).natAbs = dv s by omega, dec_dv h1]
    case isFalse => exact absurd h (by simp)
theorem txt_inj {x y : Int} : txt x = txt y ↔ x = y := ⟨fun e => by
  have h := rd_txt x
  rw [e, rd_txt y] at h
  injection h with h
  exact h.symm, fun e => by rw [e]⟩
theorem txt_zero : txt 0 = [48] := by
  unfold txt
  rw [if_neg (by omega)]
  exact dec_lt (by decide)
/-- one digit more -/
theorem txt_more {z : Int} (h : z ≠ 0) : txt z ++ [55] = txt (z * 10 + 7 * sg z) := by
  have e7 : (55 : UInt8) = dg1 7 := rfl
  by_cases hz : z < 0
  · have hs : sg z = -1 := if_pos hz
    unfold txt
    rw [if_pos hz, if_pos (by omega), show (z * 10 + 7 * sg z).natAbs = z.natAbs * 10 + 7 by rw [hs]; omega, dec_ge (n := z.natAbs * 10 + 7) (by omega),
      show (z.natAbs * 10 + 7) / 10 = z.natAbs by omega, show (z.natAbs * 10 + 7) % 10 = 7 by omega, e7]
    rfl
  · have hs : sg z = 1 := by unfold sg; rw [if_neg hz, if_pos (by omega)]
    unfold txt
    rw [if_neg hz, if_neg (by omega), show (z * 10 + 7 * sg z).natAbs = z.natAbs * 10 + 7 by rw [hs]; omega, dec_ge (n := z.natAbs * 10 + 7) (by omega),
      show (z.natAbs * 10 + 7) / 10 = z.natAbs by omega, show (z.natAbs * 10 + 7) % 10 = 7 by omega, e7]
end Go.Proofs.YtnifkianjpjahaaDoor.Bg
