/- Tokens, in plain words: what the laws want. -/
import Derived.Test.YtmineoilmmifiaaDoorLxP
namespace Go.Proofs.YtmineoilmmifiaaDoor.Lx
open Go.Lib
set_option linter.unusedVariables false
/-- begins with a blank, or is empty -/
def Bl (b : List UInt8) : Prop := ∀ c r, b = c :: r → blk c = true
theorem find_eq {α : Type} {p q : α → Bool} : ∀ {l : List α}, (∀ t ∈ l, p t = q t) → l.find? p = l.find? q
  | [], _ => rfl
  | x :: l, h => by
    rw [List.find?_cons, List.find?_cons, h x List.mem_cons_self, find_eq fun t ht => h t (List.mem_cons_of_mem _ ht)]
theorem blk_61 {c : UInt8} (h : blk c = true) : (61 == c) = false := by
  cases he : (61 == c : Bool)
  · rfl
  · rw [beq_iff_eq] at he
    subst he
    cases h
theorem sgn_app {c : UInt8} {r b : List UInt8} (hb : Bl b) : sgn (c :: r ++ b) = sgn (c :: r) := by
  refine find_eq fun t ht => ?_
  unfold signs at ht
  simp only [List.mem_cons, List.not_mem_nil, or_false] at ht
  rcases ht with rfl | rfl | rfl | rfl | rfl | rfl | rfl | rfl | rfl | rfl | rfl
  case inl =>
    cases r with
    | nil =>
      cases b with
      | nil => rfl
      | cons d b =>
        have h1 := blk_61 (hb d b rfl)
        simp [List.isPrefixOf, h1]
    | cons d r => simp [List.isPrefixOf]
  all_goals simp [List.isPrefixOf]
theorem nxt_app {c : UInt8} {r b : List UInt8} (hb : Bl b) : nxt (c :: r ++ b) = nxt (c :: r) := by
  have h1 : (c :: r ++ b).takeWhile wrd = (c :: r).takeWhile wrd := tw_more fun d s h => blk_wrd (hb d s h)
  have h2 : (c :: r ++ b).takeWhile dgt = (c :: r).takeWhile dgt := tw_more fun d s h => blk_dgt (hb d s h)
  have h3 := sgn_app (c := c) (r := r) hb
  show nxt (c :: (r ++ b)) = _
  unfold nxt
  dsimp only
  rw [show c :: (r ++ b) = c :: r ++ b from rfl, h1, h2, h3]
theorem dw_cons {l b : List UInt8} {c : UInt8} {r : List UInt8} (h : l.dropWhile blk = c :: r) : (l ++ b).dropWhile blk = c :: (r ++ b) ∧ spn blk (l ++ b) = spn blk l := by
  induction l with
  | nil => cases h
  | cons a l ih =>
    rw [List.dropWhile_cons] at h
    cases ha : blk a
    · rw [ha] at h
      simp only [Bool.false_eq_true, if_false] at h
      unfold spn
      rw [List.cons_append, List.dropWhile_cons, List.takeWhile_cons, List.takeWhile_cons, ha]
      simp only [Bool.false_eq_true, if_false]
      rw [← List.cons_append, h]
      exact ⟨rfl, by first | rfl | trivial⟩
    · rw [ha] at h
      simp only [if_true] at h
      obtain ⟨h1, h2⟩ := ih h
      unfold spn at h2 ⊢
      rw [List.cons_append, List.dropWhile_cons, List.takeWhile_cons, List.takeWhile_cons, ha]
      simp only [if_true, List.length_cons]
      exact ⟨h1, by omega⟩
theorem dw_nil {l b : List UInt8} (h : l.dropWhile blk = []) : (l ++ b).dropWhile blk = b.dropWhile blk ∧ spn blk (l ++ b) = l.length + spn blk b ∧ spn blk l = l.length := by
  induction l with
  | nil => exact ⟨rfl, by simp, rfl⟩
  | cons a l ih =>
    rw [List.dropWhile_cons] at h
    cases ha : blk a
    · rw [ha] at h
      simp at h
    · rw [ha] at h
      simp only [if_true] at h
      obtain ⟨h1, h2, h3⟩ := ih h
      unfold spn at h2 h3 ⊢
      rw [List.cons_append, List.dropWhile_cons, List.takeWhile_cons, List.takeWhile_cons, ha]
      simp only [if_true, List.length_cons]
      exact ⟨h1, by omega, by omega⟩
/-- blanks ahead -/
theorem lx_ahead {p : Nat} {a l : List UInt8} {ts : List Tk} {o : Option (Nat × Int)} (ha : a.dropWhile blk = []) (h : Lx (p + a.length) l ts o) : Lx p (a ++ l) ts o := by
  obtain ⟨h1, h2, _⟩ := dw_nil (b := l) ha
  cases h with
  | stop h => exact .stop (h1.trans h)
  | err h hn =>
    have := Lx.err (p := p) (h1.trans h) hn
    rw [h2, ← Nat.add_assoc] at this
    exact this
  | cons h hn hr =>
    have := Lx.cons (p := p) (h1.trans h) hn (by rw [h2, ← Nat.add_assoc]; exact hr)
    rw [h2, ← Nat.add_assoc] at this
    exact this
theorem lx_join {p : Nat} {x : List UInt8} {ts : List Tk} {o : Option (Nat × Int)} (h : Lx p x ts o) {b : List UInt8} (hb : Bl b) :
    (o = none → ∀ ts2 o2, Lx (p + x.length) b ts2 o2 → Lx p (x ++ b) (ts ++ ts2) o2) ∧ (∀ y, o = some y → Lx p (x ++ b) ts (some y)) := by
  induction h with
  | stop h => exact ⟨fun _ ts2 o2 h2 => lx_ahead h h2, fun y hy => by cases hy⟩
  | err h hn =>
    obtain ⟨h1, h2⟩ := dw_cons (b := b) h
    refine ⟨fun h => (by cases h), fun y hy => ?_⟩
    rw [← hy, ← h2]
    exact .err h1 ((nxt_app hb).trans hn)
  | @cons p l c r t k n ts o h hn hr ih =>
    obtain ⟨h1, h2⟩ := dw_cons (b := b) h
    have hok := nxt_ok hn
    have htl : t.length ≤ (c :: r).length := by
      have := congrArg List.length hok.2.1
      rw [List.length_take] at this
      omega
    have hd : (c :: (r ++ b)).drop t.length = (c :: r).drop t.length ++ b := List.drop_append_of_le_length (l₁ := c :: r) htl
    have hl : l.length = spn blk l + (c :: r).length := by
      have := congrArg List.length (tw_dw blk l)
      rw [List.length_append, h] at this
      unfold spn
      omega
    have hn' : nxt (c :: (r ++ b)) = .ok (k, t, n) := (nxt_app hb).trans hn
    constructor
    · intro ho ts2 o2 h3
      have h4 := ih.1 ho ts2 o2 (by rw [List.length_drop]; rw [hl] at h3; rw [show p + spn blk l + t.length + ((c :: r).length - t.length) = p + (spn blk l + (c :: r).length) by omega]; exact h3)
      have := Lx.cons (p := p) h1 hn' (by rw [h2, hd]; exact h4)
      rw [h2] at this
      exact this
    · intro y hy
      have := Lx.cons (p := p) h1 hn' (by rw [h2, hd]; exact ih.2 y hy)
      rw [h2] at this
      exact this
def sh (d : Nat) (x : Tk) : Tk := ⟨x.k, x.t, x.n, x.p + d⟩
def sho (d : Nat) (o : Option (Nat × Int)) : Option (Nat × Int) := o.map fun y => (y.1 + d, y.2)
theorem lx_shift {p : Nat} {l : List UInt8} {ts : List Tk} {o : Option (Nat × Int)} (d : Nat) (h : Lx p l ts o) : Lx (p + d) l (ts.map (sh d)) (sho d o) := by
  induction h with
  | stop h => exact .stop h
  | @err p l c r e h hn =>
    have := Lx.err (p := p + d) h hn
    rw [show p + d + spn blk l = p + spn blk l + d by omega] at this
    exact this
  | @cons p l c r t k n ts o h hn hr ih =>
    have := Lx.cons (p := p + d) h hn (by rw [show p + d + spn blk l + t.length = p + spn blk l + t.length + d by omega]; exact ih)
    rw [show p + d + spn blk l = p + spn blk l + d by omega] at this
    exact this
theorem lx_blanks {p : Nat} {l : List UInt8} (h : ∀ c ∈ l, blk c = true) : Lx p l [] none := by
  refine .stop ?_
  induction l with
  | nil => rfl
  | cons a l ih =>
    rw [List.dropWhile_cons, h a List.mem_cons_self, if_pos rfl]
    exact ih fun c hc => h c (List.mem_cons_of_mem _ hc)
theorem pre_take {s l : List UInt8} {m : Nat} (h : s.length ≤ m) : s.isPrefixOf (l.take m) = s.isPrefixOf l := by
  rw [Bool.eq_iff_iff, List.isPrefixOf_iff_prefix, List.isPrefixOf_iff_prefix, List.prefix_take_iff]
  exact ⟨fun hh => hh.1, fun hh => ⟨hh, h⟩⟩
theorem sgn_one {t : List UInt8} {c : UInt8} (h : t ∈ signs) (hl : t.length = 1) (ht : t = [c]) : sgn [c] = some [c] := by
  unfold signs at h
  simp only [List.mem_cons, List.not_mem_nil, or_false] at h
  rcases h with rfl | rfl | rfl | rfl | rfl | rfl | rfl | rfl | rfl | rfl | rfl <;>
    first | (exact absurd hl (by decide)) | (injection ht with h1 _; subst h1; decide)
theorem sgn_take {l t : List UInt8} {m : Nat} (h : sgn l = some t) (hm : t.length ≤ m) : sgn (l.take m) = some t := by
  obtain ⟨h1, h2⟩ := sgn_in h
  have h3 := (sgn_pos h1).1
  by_cases h4 : 2 ≤ m
  · rw [← h]
    refine find_eq fun s hs => pre_take ?_
    unfold signs at hs
    simp only [List.mem_cons, List.not_mem_nil, or_false] at hs
    rcases hs with rfl | rfl | rfl | rfl | rfl | rfl | rfl | rfl | rfl | rfl | rfl <;> simp <;> omega
  · have h5 : t.length = 1 := by omega
    have h6 : m = t.length := by omega
    have h7 := isPrefixOf_take h2
    rw [h6, h7]
    match t, h5 with
    | [c], _ => exact sgn_one h1 rfl rfl
theorem tw_take {p : UInt8 → Bool} : ∀ {l : List UInt8} {m : Nat}, (l.takeWhile p).length ≤ m → (l.take m).takeWhile p = l.takeWhile p
  | [], m, _ => by simp
  | a :: l, 0, h => by
    rw [List.take_zero]
    exact (List.length_eq_zero_iff.1 (by omega)).symm
  | a :: l, m + 1, h => by
    rw [List.take_succ_cons, List.takeWhile_cons, List.takeWhile_cons]
    rw [List.takeWhile_cons] at h
    cases ha : p a
    · rfl
    · rw [ha] at h
      simp only [if_true, List.length_cons] at h ⊢
      rw [tw_take (by omega)]
theorem nxt_take {l t : List UInt8} {k n : Int} {m : Nat} (h : nxt l = .ok (k, t, n)) (hm : t.length ≤ m) : nxt (l.take m) = .ok (k, t, n) := by
  have hp := nxt_ok h
  cases l with
  | nil => cases h
  | cons c r =>
    obtain ⟨m', rfl⟩ : ∃ m', m = m' + 1 := ⟨m - 1, by omega⟩
    unfold nxt at h
    dsimp only at h
    rw [List.take_succ_cons]
    unfold nxt
    dsimp only
    rw [← List.take_succ_cons]
    split at h
    · rename_i hl
      rw [if_pos hl]
      split at h
      · rename_i hw
        injection h with h
        injection h with h1 h
        injection h with h2 h3
        subst h1 h2 h3
        rw [tw_take hm, if_pos hw]
      · cases h
    · rename_i hl
      rw [if_neg hl]
      split at h
      · rename_i hd
        rw [if_pos hd]
        split at h
        · rename_i hw
          injection h with h
          injection h with h1 h
          injection h with h2 h3
          subst h1 h2 h3
          rw [tw_take hm, if_pos hw]
        · cases h
      · rename_i hd
        rw [if_neg hd]
        split at h
        · rename_i t' hs
          injection h with h
          injection h with h1 h
          injection h with h2 h3
          subst h1 h2 h3
          rw [sgn_take hs hm]
        · cases h
theorem nxt_self {l t : List UInt8} {k n : Int} (h : nxt l = .ok (k, t, n)) : nxt t = .ok (k, t, n) := by
  have h1 := nxt_take h (Nat.le_refl _)
  rw [(nxt_ok h).2.1] at h1
  exact h1
theorem nxt_blk {c : UInt8} {r t : List UInt8} {k n : Int} (h : nxt (c :: r) = .ok (k, t, n)) : blk c = false := by
  cases hb : blk c
  · rfl
  · have hw := blk_wrd hb
    have hl : ltr c = false := by
      cases hl : ltr c
      · rfl
      · rw [ltr_wrd hl] at hw; cases hw
    unfold nxt at h
    dsimp only at h
    rw [hl, blk_dgt hb] at h
    simp only [Bool.false_eq_true, if_false] at h
    split at h
    · rename_i t' hs
      obtain ⟨h1, h2⟩ := sgn_in hs
      have h3 := sgn_pos h1
      cases t' with
      | nil => exact absurd h3.1 (by decide)
      | cons d t'' =>
        have h4 := (h3.2 d t'' rfl).2.2
        simp only [List.isPrefixOf, Bool.and_eq_true, beq_iff_eq] at h2
        rw [h2.1, hb] at h4
        cases h4
    · cases h
theorem lx_take {p q : Nat} {l : List UInt8} {ts : List Tk} {o : Option (Nat × Int)} {e : Int} (h : Lx p l ts o) : o = some (q, e) → p ≤ q ∧ q - p < l.length ∧ Lx p (l.take (q - p)) ts none ∧ Lx 0 (l.drop (q - p)) [] (some (0, e)) := by
  induction h with
  | stop h => intro ho; cases ho
  | @err p l c r e' h hn =>
    intro ho
    injection ho with ho
    injection ho with e1 e2
    subst e2
    have h1 : q - p = spn blk l := by omega
    have hl := congrArg List.length (tw_dw blk l)
    rw [List.length_append, h] at hl
    refine ⟨by omega, by rw [h1]; unfold spn; simp at hl; omega, ?_, ?_⟩
    · rw [h1, take_spn]
      refine lx_blanks fun c hc => ?_
      have := tw_all blk l
      rw [List.all_eq_true] at this
      exact this c hc
    · rw [h1, ← dw_drop, h]
      have hc := dw_head h
      have h2 : (c :: r).dropWhile blk = c :: r := by rw [List.dropWhile_cons, hc]; rfl
      have h3 : spn blk (c :: r) = 0 := by unfold spn; rw [List.takeWhile_cons, hc]; rfl
      have := Lx.err (p := 0) h2 hn
      rw [h3] at this
      exact this
  | @cons p l c r t k n ts o h hn hr ih =>
    intro ho
    obtain ⟨h1, h2, h3, h4⟩ := ih ho
    have hok := nxt_ok hn
    have hl := congrArg List.length (tw_dw blk l)
    rw [List.length_append, h] at hl
    have hsp : (l.takeWhile blk).length = spn blk l := rfl
    rw [hsp] at hl
    rw [List.length_drop] at h2
    obtain ⟨m, hm⟩ : ∃ m, q = p + spn blk l + m := ⟨q - (p + spn blk l), by omega⟩
    subst hm
    have hmt : t.length ≤ m := by omega
    obtain ⟨m', rfl⟩ : ∃ m', m = m' + 1 := ⟨m - 1, by omega⟩
    have e1 : p + spn blk l + (m' + 1) - p = spn blk l + (m' + 1) := by omega
    have e2 : p + spn blk l + (m' + 1) - (p + spn blk l + t.length) = m' + 1 - t.length := by omega
    rw [e2] at h3 h4
    rw [e1]
    have hlt : l.take (spn blk l + (m' + 1)) = l.takeWhile blk ++ (c :: r.take m') := by
      rw [List.take_add, take_spn, ← dw_drop, h, List.take_succ_cons]
    have hld : l.drop (spn blk l + (m' + 1)) = (c :: r).drop (m' + 1) := by
      rw [← List.drop_drop, ← dw_drop, h]
    refine ⟨by omega, by omega, ?_, ?_⟩
    · rw [hlt]
      have hall : ∀ x ∈ l.takeWhile blk, blk x = true := by
        have := tw_all blk l
        rw [List.all_eq_true] at this
        exact this
      have hb0 : (l.takeWhile blk).dropWhile blk = [] := by
        have := lx_blanks (p := 0) hall
        cases this with
        | stop h => exact h
      refine lx_ahead hb0 ?_
      rw [hsp]
      have hc := dw_head h
      have h5 : (c :: r.take m').dropWhile blk = c :: r.take m' := by rw [List.dropWhile_cons, hc]; rfl
      have h6 : spn blk (c :: r.take m') = 0 := by unfold spn; rw [List.takeWhile_cons, hc]; rfl
      have hn2 := nxt_take hn hmt
      rw [List.take_succ_cons] at hn2
      have h7 : (c :: r.take m').drop t.length = ((c :: r).drop t.length).take (m' + 1 - t.length) := by
        rw [← List.take_succ_cons, List.drop_take]
      have := Lx.cons (p := p + spn blk l) h5 hn2 (by rw [h6, Nat.add_zero, h7]; exact h3)
      rw [h6, Nat.add_zero] at this
      exact this
    · rw [hld]
      have h8 : ((c :: r).drop t.length).drop (m' + 1 - t.length) = (c :: r).drop (m' + 1) := by
        rw [List.drop_drop, show t.length + (m' + 1 - t.length) = m' + 1 by omega]
      rw [h8] at h4
      exact h4
/-- one token alone -/
theorem lx_one {p : Nat} {t : List UInt8} {k n : Int} (h : nxt t = .ok (k, t, n)) : Lx p t [⟨k, t, n, p⟩] none := by
  cases t with
  | nil => exact absurd (nxt_ok h).1 (by decide)
  | cons c r =>
    have hc := nxt_blk h
    have h5 : (c :: r).dropWhile blk = c :: r := by rw [List.dropWhile_cons, hc]; rfl
    have h6 : spn blk (c :: r) = 0 := by unfold spn; rw [List.takeWhile_cons, hc]; rfl
    have := Lx.cons (p := p) (ts := []) (o := none) h5 h (by rw [List.drop_of_length_le (Nat.le_refl _)]; exact .stop rfl)
    rw [h6, Nat.add_zero] at this
    exact this
def jn : List (List UInt8) → List UInt8
  | [] => []
  | [a] => a
  | a :: b :: r => a ++ 32 :: jn (b :: r)
def Okt (ts : List Tk) : Prop := ∀ x ∈ ts, nxt x.t = .ok (x.k, x.t, x.n)
theorem lx_okt {p : Nat} {l : List UInt8} {ts : List Tk} {o : Option (Nat × Int)} (h : Lx p l ts o) : Okt ts := by
  induction h with
  | stop h => intro x hx; cases hx
  | err h hn => intro x hx; cases hx
  | cons h hn hr ih =>
    intro x hx
    rcases List.mem_cons.1 hx with rfl | hx
    · exact nxt_self hn
    · exact ih x hx
def ktn (x : Tk) : Int × List UInt8 × Int := (x.k, x.t, x.n)
theorem lx_jn : ∀ {ts : List Tk}, Okt ts → ∀ p, ∃ ts', Lx p (jn (ts.map Tk.t)) ts' none ∧ ts'.map ktn = ts.map ktn
  | [], _, p => ⟨[], .stop rfl, rfl⟩
  | [x], h, p => ⟨[⟨x.k, x.t, x.n, p⟩], lx_one (h x List.mem_cons_self), rfl⟩
  | x :: y :: r, h, p => by
    obtain ⟨ts2, h2, h3⟩ := lx_jn (ts := y :: r) (fun z hz => h z (List.mem_cons_of_mem _ hz)) (p + x.t.length + 1)
    have h1 := lx_one (p := p) (h x List.mem_cons_self)
    have hb : Bl (32 :: jn ((y :: r).map Tk.t)) := fun c s e => by injection e with e _; subst e; decide
    have h4 := (lx_join h1 hb).1 rfl ts2 none (lx_ahead (a := [32]) (by decide) h2)
    exact ⟨_, h4, by rw [List.map_append, h3]; rfl⟩
theorem jn_eq {ts ts' : List Tk} (h : ts'.map ktn = ts.map ktn) : ts'.map Tk.t = ts.map Tk.t := by
  have := congrArg (List.map fun y : Int × List UInt8 × Int => y.2.1) h
  rw [List.map_map, List.map_map] at this
  exact this
/-- where tokens stand -/
def PlC (w : List UInt8) : Nat → List Tk → Prop
  | e, [] => e ≤ w.length ∧ ∀ k c, e ≤ k → w[k]? = some c → blk c = true
  | e, x :: r => e ≤ x.p ∧ x.p + x.t.length ≤ w.length ∧ (∀ k c, e ≤ k → k < x.p → w[k]? = some c → blk c = true) ∧ (w.drop x.p).take x.t.length = x.t ∧ 0 < x.t.length ∧ (x.k = 0 ∨ x.k = 1 ∨ x.k = 2) ∧ (x.k ≠ 1 → x.n = 0) ∧ PlC w (x.p + x.t.length) r
theorem spn_blk {l : List UInt8} {k : Nat} {c : UInt8} (hk : k < spn blk l) (h : l[k]? = some c) : blk c = true := by
  have h1 := tw_all blk l
  rw [List.all_eq_true] at h1
  refine h1 c (List.mem_of_getElem? (i := k) ?_)
  rw [← take_spn, List.getElem?_take_of_lt hk]
  exact h
theorem lx_plc {w : List UInt8} {p : Nat} {l : List UInt8} {ts : List Tk} {o : Option (Nat × Int)} (h : Lx p l ts o) : o = none → l = w.drop p → p ≤ w.length → PlC w p ts := by
  induction h with
  | @stop p l h =>
    intro _ hl hp
    refine ⟨hp, fun k c hk hc => spn_blk (l := l) (k := k - p) ?_ ?_⟩
    · have h1 := (dw_nil (b := []) h).2.2
      have h2 := (List.getElem?_eq_some_iff.1 hc).1
      rw [h1, hl, List.length_drop]
      omega
    · rw [hl, List.getElem?_drop, show p + (k - p) = k by omega]
      exact hc
  | err h hn => intro ho; cases ho
  | @cons p l c r t k n ts o h hn hr ih =>
    intro ho hl hp
    have hok := nxt_ok hn
    have hll := congrArg List.length (tw_dw blk l)
    rw [List.length_append, h] at hll
    have hsp : (l.takeWhile blk).length = spn blk l := rfl
    rw [hsp] at hll
    have hlw : l.length = w.length - p := by rw [hl, List.length_drop]
    have htl : t.length ≤ (c :: r).length := by
      have := congrArg List.length hok.2.1
      rw [List.length_take] at this
      omega
    have hcr : c :: r = w.drop (p + spn blk l) := by rw [← h, dw_drop, hl, List.drop_drop]
    refine ⟨Nat.le_add_right _ _, by show p + spn blk l + t.length ≤ _; omega, fun j d hj hjk hd => ?_, ?_, hok.1, hok.2.2.1, hok.2.2.2, ?_⟩
    · refine spn_blk (l := l) (k := j - p) ?_ ?_
      · have : j < p + spn blk l := hjk
        omega
      · rw [hl, List.getElem?_drop, show p + (j - p) = j by omega]
        exact hd
    · show (w.drop (p + spn blk l)).take t.length = t
      rw [← hcr]
      exact hok.2.1
    · exact ih ho (by rw [hcr, List.drop_drop]) (by omega)
theorem tw_self {p : UInt8 → Bool} {l : List UInt8} (h : l.all p = true) : l.takeWhile p = l := by
  have := tw_app (p := p) (a := l) (b := []) h (fun c r e => by cases e)
  rwa [List.append_nil] at this
theorem word_nxt {t : List UInt8} (h : isWord t = true) : nxt t = .ok (0, t, 0) := by
  cases t with
  | nil => cases h
  | cons c r =>
    have h0 := h
    unfold isWord at h
    dsimp only at h
    rw [Bool.and_eq_true, Bool.and_eq_true] at h
    have e : (c :: r).takeWhile wrd = c :: r := tw_self h.2
    unfold nxt
    dsimp only
    rw [if_pos h.1.2, e, if_pos h0]
theorem dgt_ltr {c : UInt8} (h : dgt c = true) : ltr c = false := by
  unfold dgt at h
  unfold ltr
  simp only [Bool.and_eq_true, decide_eq_true_eq] at h
  simp only [Bool.and_eq_false_iff, decide_eq_false_iff_not]
  omega
theorem num_nxt {t : List UInt8} (h : isNum t = true) : nxt t = .ok (1, t, (val t : Int)) := by
  cases t with
  | nil => cases h
  | cons c r =>
    have h0 := h
    unfold isNum at h
    dsimp only at h
    rw [Bool.and_eq_true, Bool.and_eq_true] at h
    have e : (c :: r).takeWhile dgt = c :: r := tw_self h.1.1
    have hd : dgt c = true := by
      have := h.1.1
      rw [List.all_cons, Bool.and_eq_true] at this
      exact this.1
    unfold nxt
    dsimp only
    rw [dgt_ltr hd, if_neg (by simp), if_pos hd, e, if_pos h0]
theorem nxt_word {t : List UInt8} {n : Int} (h : nxt t = .ok (0, t, n)) : isWord t = true := by
  unfold nxt at h
  cases t with
  | nil => cases h
  | cons c r =>
    dsimp only at h
    split at h
    · split at h
      · rename_i hw
        injection h with h
        injection h with h1 h
        injection h with h2 h3
        rw [h2] at hw
        exact hw
      · cases h
    · split at h
      · split at h
        · injection h with h
          injection h with h1 h
          cases h1
        · cases h
      · split at h
        · injection h with h
          injection h with h1 h
          cases h1
        · cases h
theorem nxt_num {t : List UInt8} {n : Int} (h : nxt t = .ok (1, t, n)) : isNum t = true ∧ n = (val t : Int) := by
  unfold nxt at h
  cases t with
  | nil => cases h
  | cons c r =>
    dsimp only at h
    split at h
    · split at h
      · injection h with h
        injection h with h1 h
        cases h1
      · cases h
    · split at h
      · split at h
        · rename_i hw
          injection h with h
          injection h with h1 h
          injection h with h2 h3
          rw [h2] at hw h3
          exact ⟨hw, h3.symm⟩
        · cases h
      · split at h
        · injection h with h
          injection h with h1 h
          cases h1
        · cases h
theorem tw_idem {p : UInt8 → Bool} (l : List UInt8) : (l.takeWhile p).takeWhile p = l.takeWhile p := tw_self (tw_all p l)
end Go.Proofs.YtmineoilmmifiaaDoor.Lx
