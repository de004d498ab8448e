/- Tokens, in plain words. -/
import Derived.Test.YtmineoilmmifiaaDoorBase
import Derived.Lib.AtoiAll
import Derived.Lib.Bytealg
namespace Go.Proofs.YtmineoilmmifiaaDoor.Lx
open Go.Lib
set_option linter.unusedVariables false
def blk (c : UInt8) : Bool := c == 9 || c == 10 || c == 32
def ltr (c : UInt8) : Bool := decide (97 ≤ c.toNat) && decide (c.toNat ≤ 122)
def dgt (c : UInt8) : Bool := decide (48 ≤ c.toNat) && decide (c.toNat ≤ 57)
def wrd (c : UInt8) : Bool := ltr c || dgt c
/-- a token: kind, text, number, position -/
structure Tk where
  k : Int
  t : List UInt8
  n : Int
  p : Nat
/-- how many bytes ahead are of a kind -/
def spn (p : UInt8 → Bool) (l : List UInt8) : Nat := (l.takeWhile p).length
def isWord (l : List UInt8) : Bool := match l with
  | [] => false
  | c :: r => decide ((c :: r).length ≤ 20) && ltr c && (c :: r).all wrd
def val (l : List UInt8) : Nat := l.foldl (fun n c => 10 * n + (c.toNat - 48)) 0
def isNum (l : List UInt8) : Bool := match l with
  | [] => false
  | c :: r => (c :: r).all dgt && !(c == 48 && !r.isEmpty) && decide (val (c :: r) ≤ 1000000000000000)
def signs : List (List UInt8) := [[61, 61], [59], [44], [61], [60], [43], [45], [42], [47], [40], [41]]
def sgn (l : List UInt8) : Option (List UInt8) := signs.find? (fun t => t.isPrefixOf l)
/-- the token ahead: kind, text, number; or the error -/
def nxt (l : List UInt8) : Except Int (Int × List UInt8 × Int) := match l with
  | [] => .error 10
  | c :: r =>
    if ltr c then (if isWord ((c :: r).takeWhile wrd) then .ok (0, (c :: r).takeWhile wrd, 0) else .error 11)
    else if dgt c then (if isNum ((c :: r).takeWhile dgt) then .ok (1, (c :: r).takeWhile dgt, (val ((c :: r).takeWhile dgt) : Int)) else .error 3)
    else match sgn (c :: r) with
      | some t => .ok (2, t, 0)
      | none => .error 10
/-- the tokens of a text that stands from a place on, up to its end or to the first error -/
inductive Lx : Nat → List UInt8 → List Tk → Option (Nat × Int) → Prop
  | stop {p : Nat} {l : List UInt8} (h : l.dropWhile blk = []) : Lx p l [] none
  | err {p : Nat} {l : List UInt8} {c : UInt8} {r : List UInt8} {e : Int} (h : l.dropWhile blk = c :: r) (hn : nxt (c :: r) = .error e) : Lx p l [] (some (p + spn blk l, e))
  | cons {p : Nat} {l : List UInt8} {c : UInt8} {r t : List UInt8} {k n : Int} {ts : List Tk} {o : Option (Nat × Int)} (h : l.dropWhile blk = c :: r) (hn : nxt (c :: r) = .ok (k, t, n)) (hr : Lx (p + spn blk l + t.length) ((c :: r).drop t.length) ts o) : Lx p l (⟨k, t, n, p + spn blk l⟩ :: ts) o
theorem tw_dw (p : UInt8 → Bool) (l : List UInt8) : l.takeWhile p ++ l.dropWhile p = l := List.takeWhile_append_dropWhile
theorem spn_le (p : UInt8 → Bool) (l : List UInt8) : spn p l ≤ l.length := by
  have := congrArg List.length (tw_dw p l)
  rw [List.length_append] at this
  unfold spn
  omega
theorem dw_drop (p : UInt8 → Bool) (l : List UInt8) : l.dropWhile p = l.drop (spn p l) := by
  conv => rhs; rw [← tw_dw p l]
  unfold spn
  rw [tw_dw, ← tw_dw p l]
  conv => rhs; rw [tw_dw p l]
  rw [tw_dw p l]
  conv => rhs; arg 2; rw [← tw_dw p l]
  rw [List.drop_left]
theorem take_spn (p : UInt8 → Bool) (l : List UInt8) : l.take (spn p l) = l.takeWhile p := by
  conv => lhs; arg 2; rw [← tw_dw p l]
  unfold spn
  rw [List.take_left]
theorem tw_all (p : UInt8 → Bool) : ∀ (l : List UInt8), (l.takeWhile p).all p = true
  | [] => rfl
  | c :: l => by
    rw [List.takeWhile_cons]
    split
    · rename_i h
      rw [List.all_cons, h, tw_all p l]
      rfl
    · rfl
theorem dw_head {p : UInt8 → Bool} : ∀ {l : List UInt8} {c : UInt8} {r : List UInt8}, l.dropWhile p = c :: r → p c = false
  | [], c, r, h => by cases h
  | a :: l, c, r, h => by
    rw [List.dropWhile_cons] at h
    split at h
    · exact dw_head h
    · rename_i hp
      injection h with h1 h2
      subst h1
      simpa using hp
/-- what is of a kind, and then something that is not -/
theorem tw_app {p : UInt8 → Bool} : ∀ {a b : List UInt8}, a.all p = true → (∀ c r, b = c :: r → p c = false) → (a ++ b).takeWhile p = a
  | [], b, _, h => by
    cases b with
    | nil => rfl
    | cons c r =>
      rw [List.nil_append, List.takeWhile_cons, h c r rfl]
      rfl
  | x :: a, b, ha, h => by
    rw [List.all_cons, Bool.and_eq_true] at ha
    rw [List.cons_append, List.takeWhile_cons, ha.1, if_pos rfl, tw_app ha.2 h]
theorem tw_more {p : UInt8 → Bool} : ∀ {a b : List UInt8}, (∀ c r, b = c :: r → p c = false) → (a ++ b).takeWhile p = a.takeWhile p
  | [], b, h => by
    cases b with
    | nil => rfl
    | cons c r =>
      rw [List.nil_append, List.takeWhile_cons, h c r rfl]
      rfl
  | x :: a, b, h => by
    rw [List.cons_append, List.takeWhile_cons, List.takeWhile_cons, tw_more h]
theorem sgn_in {l t : List UInt8} (h : sgn l = some t) : t ∈ signs ∧ t.isPrefixOf l = true := by
  unfold sgn at h
  exact ⟨List.mem_of_find?_eq_some h, List.find?_some (p := fun t : List UInt8 => t.isPrefixOf l) h⟩
theorem sgn_pos {t : List UInt8} (h : t ∈ signs) : 0 < t.length ∧ ∀ c r, t = c :: r → ltr c = false ∧ dgt c = false ∧ blk c = false := by
  unfold signs at h
  simp only [List.mem_cons, List.not_mem_nil, or_false] at h
  rcases h with rfl | rfl | rfl | rfl | rfl | rfl | rfl | rfl | rfl | rfl | rfl <;>
    refine ⟨by decide, fun c r h => ?_⟩ <;> injection h with h1 h2 <;> subst h1 <;> decide
theorem ltr_wrd {c : UInt8} (h : ltr c = true) : wrd c = true := by unfold wrd; rw [h]; rfl
theorem dgt_wrd {c : UInt8} (h : dgt c = true) : wrd c = true := by unfold wrd; rw [h]; simp
theorem ltr_blk {c : UInt8} (h : wrd c = true) : blk c = false := by
  unfold wrd ltr dgt at h
  unfold blk
  simp only [Bool.or_eq_true, Bool.and_eq_true, decide_eq_true_eq] at h
  simp only [Bool.or_eq_false_iff, beq_eq_false_iff_ne]
  refine ⟨⟨?_, ?_⟩, ?_⟩ <;> (intro e; subst e; simp at h)
theorem blk_wrd {c : UInt8} (h : blk c = true) : wrd c = false := by
  cases hw : wrd c
  · rfl
  · rw [ltr_blk hw] at h; cases h
theorem blk_dgt {c : UInt8} (h : blk c = true) : dgt c = false := by
  cases hw : dgt c
  · rfl
  · rw [ltr_blk (dgt_wrd hw)] at h; cases h
theorem isPrefixOf_take {t l : List UInt8} (h : t.isPrefixOf l = true) : l.take t.length = t := by
  rw [List.isPrefixOf_iff_prefix] at h
  obtain ⟨s, rfl⟩ := h
  rw [List.take_left]
theorem tw_pre (p : UInt8 → Bool) (l : List UInt8) : l.take (l.takeWhile p).length = l.takeWhile p := take_spn p l
theorem nxt_ok {l t : List UInt8} {k n : Int} (h : nxt l = .ok (k, t, n)) : 0 < t.length ∧ l.take t.length = t ∧ (k = 0 ∨ k = 1 ∨ k = 2) ∧ (k ≠ 1 → n = 0) := by
  unfold nxt at h
  cases l with
  | nil => cases h
  | cons c r =>
    dsimp only at h
    split at h
    · rename_i hl
      split at h
      · injection h with h
        injection h with h1 h
        injection h with h2 h3
        subst h1 h2 h3
        refine ⟨?_, tw_pre _ _, .inl rfl, fun _ => rfl⟩
        rw [List.takeWhile_cons, ltr_wrd hl]
        simp
      · cases h
    · split at h
      · rename_i hd
        split at h
        · injection h with h
          injection h with h1 h
          injection h with h2 h3
          subst h1 h2 h3
          refine ⟨?_, tw_pre _ _, .inr (.inl rfl), fun hh => absurd rfl hh⟩
          rw [List.takeWhile_cons, hd]
          simp
        · cases h
      · split at h
        · rename_i t' hs
          injection h with h
          injection h with h1 h
          injection h with h2 h3
          subst h1 h2 h3
          obtain ⟨hm, hp⟩ := sgn_in hs
          exact ⟨(sgn_pos hm).1, isPrefixOf_take hp, .inr (.inr rfl), fun _ => rfl⟩
        · cases h
theorem nxt_err {l : List UInt8} {e : Int} (h : nxt l = .error e) : e = 3 ∨ e = 10 ∨ e = 11 := by
  unfold nxt at h
  cases l with
  | nil => injection h with h; subst h; simp
  | cons c r =>
    dsimp only at h
    split at h
    · split at h
      · cases h
      · injection h with h; subst h; simp
    · split at h
      · split at h
        · cases h
        · injection h with h; subst h; simp
      · split at h
        · cases h
        · injection h with h; subst h; simp
theorem lx_ex (m : Nat) : ∀ (p : Nat) (l : List UInt8), l.length ≤ m → ∃ ts o, Lx p l ts o := by
  induction m with
  | zero =>
    intro p l hl
    obtain rfl : l = [] := List.length_eq_zero_iff.1 (by omega)
    exact ⟨[], none, .stop rfl⟩
  | succ m ih =>
    intro p l hl
    cases h : l.dropWhile blk with
    | nil => exact ⟨[], none, .stop h⟩
    | cons c r =>
      cases hn : nxt (c :: r) with
      | error e => exact ⟨[], _, .err h hn⟩
      | ok x =>
        obtain ⟨k, t, n⟩ := x
        have h1 := nxt_ok hn
        have h2 := congrArg List.length (tw_dw blk l)
        rw [List.length_append, h] at h2
        obtain ⟨ts, o, hr⟩ := ih (p + spn blk l + t.length) ((c :: r).drop t.length) (by rw [List.length_drop]; omega)
        exact ⟨_, o, .cons h hn hr⟩
theorem lx_uniq {p : Nat} {l : List UInt8} {ts ts' : List Tk} {o o' : Option (Nat × Int)} (h : Lx p l ts o) : Lx p l ts' o' → ts = ts' ∧ o = o' := by
  induction h generalizing ts' o' with
  | stop h =>
    intro h'
    cases h' with
    | stop _ => exact ⟨rfl, rfl⟩
    | err h1 _ => rw [h] at h1; cases h1
    | cons h1 _ _ => rw [h] at h1; cases h1
  | err h hn =>
    intro h'
    cases h' with
    | stop h1 => rw [h] at h1; cases h1
    | err h1 hn1 =>
      rw [h] at h1
      rw [← h1, hn] at hn1
      injection hn1 with hn1
      rw [hn1]
      exact ⟨rfl, rfl⟩
    | cons h1 hn1 _ =>
      rw [h] at h1
      rw [← h1, hn] at hn1
      cases hn1
  | cons h hn hr ih =>
    intro h'
    cases h' with
    | stop h1 => rw [h] at h1; cases h1
    | err h1 hn1 =>
      rw [h] at h1
      rw [← h1, hn] at hn1
      cases hn1
    | cons h1 hn1 hr1 =>
      rw [h] at h1
      rw [← h1, hn] at hn1
      injection hn1 with hn1
      injection hn1 with e1 hn1
      injection hn1 with e2 e3
      subst e1 e2 e3
      rw [← h1] at hr1
      obtain ⟨e4, e5⟩ := ih hr1
      rw [e4, e5]
      exact ⟨rfl, rfl⟩
end Go.Proofs.YtmineoilmmifiaaDoor.Lx
