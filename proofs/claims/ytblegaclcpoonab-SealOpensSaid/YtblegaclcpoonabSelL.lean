/- The signatures that were made for a list of pairs: which hold. -/
import Derived.Test.YtblegaclcpoonabSelK
namespace Go.Proofs.Ytblegaclcpoonab.Seal
open Go.ChangeShapes Go.WideShapes Go.ChangeAt Go.RowKit Go.Joins Go.Maps Go.WideMaps Go.Proofs.Ytblegaclcpoonab.Cell
set_option linter.unusedVariables false
set_option linter.unusedSimpArgs false

theorem SgnR.made {L L' : List En} {x : En} {m : Sg} (h : SgnR L x L' m) (hk : isK x.1 = true) : ∃ p : Nat, L'[p]? = some x ∧ m = ⟨x.1, x.2, p⟩ := by
  rcases h with ⟨c, _⟩ | ⟨_, p, h1, h2, _⟩
  · rw [hk] at c; cases c
  · exact ⟨p, h1, h2⟩
theorem SgnR.keys {L L' : List En} {x : En} {m : Sg} (h : SgnR L x L' m) (hk : ∀ y ∈ L, isK y.1 = true) : ∀ y ∈ L', isK y.1 = true := by
  rcases h with ⟨_, rfl, _⟩ | ⟨h0, p, _, _, ⟨_, rfl⟩ | ⟨_, rfl, _⟩⟩
  · exact hk
  · exact hk
  · intro y hy
    rcases List.mem_append.1 hy with hy | hy
    · exact hk y hy
    · rw [List.mem_singleton.1 hy]; exact h0
/-- what was made so far -/
structure Sk (w0 : World) (B g gm : Nat) (W : World) (i : Nat) (v5 : Value) (L : List En) (M : List Sg) (eb : Option Nat) : Prop where
  r : Rg W g gm eb L
  o5 : W.ownsRow B 31 3 v5 M.length (M.flatMap scs)
  mm : ∀ m ∈ M, okE (m.k, m.s) ∧ ∃ p : Nat, L[p]? = some (m.k, m.s) ∧ m.m = p
  al : ∀ (p : Nat) x, L[p]? = some x → (⟨x.1, x.2, p⟩ : Sg) ∈ M
  d5 : ∀ q, v5.ownBlock = some q → eb ≠ some q
  bl : Below w0.heap.size w0 W
  gB : g < B
  w0g : w0.heap.size ≤ gm
  ll : L.length ≤ i
  ml : M.length ≤ i
  sB : B ≤ W.heap.size
  ky : ∀ x ∈ L, isK x.1 = true
theorem Sk.keep {w0 W W' : World} {B g gm i : Nat} {L : List En} {M : List Sg} {v5 : Value} {eb : Option Nat} (h : Sk w0 B g gm W i v5 L M eb) (hb : Below W.heap.size W W') : Sk w0 B g gm W' i v5 L M eb :=
  ⟨h.r.keep hb, Gen.own_keep h.o5 hb, h.mm, h.al, h.d5, Gen.over hb h.bl, h.gB, h.w0g, h.ll, h.ml, Nat.le_trans h.sB hb.size, h.ky⟩
theorem Mid.sk {w0 wr : World} {B g gm i : Nat} {L : List En} {M : List Sg} {v5 : Value} {eb : Option Nat} {x : En} {wx : World} {gx : Nat} {m : Sg} {L' : List En} {eb' : Option Nat}
    (hS : Sk w0 B g gm wr i v5 L M eb) (hM : Mid w0 wr g gm L eb x wx gx m L' eb') (hx : okE x) (hk : isK x.1 = true) {wz w7 : World} {v7 : Value} (hb : Below wx.heap.size wx wz) (hg : wz.grownBy w7 v5.ownBlock)
    (ho : w7.ownsRow B 31 3 v7 (M.length + 1) (M.flatMap scs ++ scs m)) (ha : v7.ownBlock = v5.ownBlock ∨ v7.ownBlock = some wz.heap.size) : Sk w0 B g gm w7 (i + 1) v7 L' (M ++ [m]) eb' := by
  have o5z := Gen.own_keep (hM.away hS.o5 hS.gB hS.d5) hb
  have hlt := hM.r.lt
  have hgB := hS.gB
  have l5 := hS.o5.lt
  have s1 := hM.sz
  have s2 := hb.size
  have n6 : ∀ q, q < B → some q ≠ v5.ownBlock := fun q hq e => by have := (l5 q e.symm).1; omega
  have ne : ∀ q, v5.ownBlock = some q → eb' ≠ some q := fun q hq => hM.off (l5 q hq).2 (hS.d5 q hq)
  have z1 : eb' = none ∨ eb' ≠ v5.ownBlock := by
    cases h6 : v5.ownBlock with
    | none => cases eb' with
      | none => exact .inl rfl
      | some q => exact .inr (by simp)
    | some q => exact .inr (ne q h6)
  have eM : (M ++ [m]).length = M.length + 1 := by simp
  have eF : (M ++ [m]).flatMap scs = M.flatMap scs ++ scs m := by simp
  have hp : ∃ p : Nat, L'[p]? = some x ∧ m = ⟨x.1, x.2, p⟩ := by
    rcases hM.s with ⟨c, _⟩ | ⟨_, p, h1, h2, _⟩
    · rw [hk] at c; cases c
    · exact ⟨p, h1, h2⟩
  refine ⟨(hM.r.keep hb).grown hg (n6 g hgB) (n6 gm (by omega)) z1, by rw [eM, eF]; exact ho, ?_, ?_, ?_, Gen.g_below o5z hg (Gen.over hb hM.bl) (by have := hS.w0g; omega), hgB, hS.w0g, by have := hM.s.len; have := hS.ll; omega, by rw [eM]; have := hS.ml; omega, by have := hS.sB; have := hg.size; omega, hM.s.keys hS.ky⟩
  · intro y hy
    rcases List.mem_append.1 hy with hy | hy
    · obtain ⟨a, p, b, c⟩ := hS.mm y hy
      exact ⟨a, p, hM.s.at_ b, c⟩
    · obtain rfl := List.mem_singleton.1 hy
      obtain ⟨p, h1, h2⟩ := hp
      rw [h2]
      exact ⟨hx, p, h1, rfl⟩
  · intro p y hy
    rw [List.mem_append]
    rcases hM.s with ⟨c, _⟩ | ⟨_, q, h1, h2, ⟨_, h3⟩ | ⟨_, h3, h4⟩⟩
    · rw [hk] at c; cases c
    · exact .inl (hS.al p y (h3 ▸ hy))
    · by_cases hpl : p < L.length
      · rw [h3, List.getElem?_append_left hpl] at hy
        exact .inl (hS.al p y hy)
      · have hl := (List.getElem?_eq_some_iff.1 hy).1
        rw [h3] at hl
        simp at hl
        obtain rfl : p = q := by omega
        rw [h1] at hy
        injection hy with hy
        subst hy
        exact .inr (List.mem_singleton.2 h2.symm)
  · intro q hq
    rcases ha with a | a
    · exact ne q (a.symm.trans hq)
    · rw [a] at hq
      injection hq with hq
      exact hM.r.eb_lt (by omega)
theorem Mid.sk0 {w0 wr : World} {B g gm i : Nat} {L : List En} {M : List Sg} {v5 : Value} {eb : Option Nat} {x : En} {wx : World} {gx : Nat} {m : Sg} {L' : List En} {eb' : Option Nat}
    (hS : Sk w0 B g gm wr i v5 L M eb) (hM : Mid w0 wr g gm L eb x wx gx m L' eb') (hk : isK x.1 = false) : Sk w0 B g gm wx (i + 1) v5 L M eb' ∧ m = sg0 := by
  obtain ⟨e, h0⟩ := SgnR.bad hM.s hk
  subst e
  exact ⟨⟨hM.r, hM.away hS.o5 hS.gB hS.d5, hS.mm, hS.al, fun q hq => hM.off (hS.o5.lt q hq).2 (hS.d5 q hq), hM.bl, hS.gB, hS.w0g, Nat.le_succ_of_le hS.ll, Nat.le_succ_of_le hS.ml, Nat.le_trans hS.sB hM.sz, hS.ky⟩, h0⟩
/-- which signatures hold: those that were made -/
theorem Sk.valid {w0 W W' : World} {B g gm i : Nat} {L : List En} {M : List Sg} {v5 : Value} {eb : Option Nat} (h : Sk w0 B g gm W i v5 L M eb) (hb : Below W.heap.size W W') {k mk : Int} {s : ByteArray} (hx : okE (k, s)) :
    Calls Try.prog 15 #[.pointer (some ⟨g, 0, none⟩), .agg #[.int .i64 k, .string s, .int .i64 mk]] W' fun e w' => ∃ b : Bool, e = .returned (.bool b) ∧ (b = true ↔ (⟨k, s, mk⟩ : Sg) ∈ M) ∧ Below W'.heap.size W' w' := by
  by_cases hm : (k, s) ∈ L
  · obtain ⟨p, hp⟩ := List.getElem?_of_mem hm
    refine (valid_yes mk (h.r.keep hb) hx hp).mono ?_
    rintro e w1 ⟨rfl, h1⟩
    refine ⟨_, rfl, ?_, h1⟩
    constructor
    · intro e
      have e : (p : Int) = mk := by simpa using e
      rw [← e]
      exact h.al p _ hp
    · intro hmm
      obtain ⟨_, q, h2, h3⟩ := h.mm _ hmm
      have := at_inj h.r.nd hp h2
      have h3 : mk = (q : Int) := h3
      simp [h3, this]
  · refine (valid_no mk (h.r.keep hb) hx hm).mono ?_
    rintro e w1 ⟨rfl, h1⟩
    refine ⟨false, rfl, ⟨(fun c => by cases c), (fun hmm => ?_)⟩, h1⟩
    obtain ⟨_, q, h2, h3⟩ := h.mm _ hmm
    exact absurd (List.mem_of_getElem? h2) hm
theorem Sk.holds {w0 W W' : World} {B g gm i : Nat} {L : List En} {M : List Sg} {v5 : Value} {eb : Option Nat} (h : Sk w0 B g gm W i v5 L M eb) (hb : Below W.heap.size W W') {k mk : Int} {s : ByteArray} (hm : (⟨k, s, mk⟩ : Sg) ∈ M) :
    Calls Try.prog 15 #[.pointer (some ⟨g, 0, none⟩), .agg #[.int .i64 k, .string s, .int .i64 mk]] W' fun e w' => e = .returned (.bool true) ∧ Below W'.heap.size W' w' := by
  refine (h.valid hb (mk := mk) (h.mm _ hm).1).mono ?_
  rintro e w1 ⟨b, rfl, h1, h2⟩
  rw [h1.2 hm]
  exact ⟨rfl, h2⟩
/-- a block of several elements, read -/
theorem reads_blkN {W : World} {g K n : Nat} {t : TypeId} {cs : Array Value} (h : g = W.heap.size) (hK : cs.size = n * K) : App.Reads (W.alloc (.cells cs t)) (g + 1) K (some ⟨g, 0, none⟩) n cs.toList := by
  refine ⟨by simpa using hK, fun _ => ⟨⟨g, 0, none⟩, rfl, Nat.lt_succ_self _, fun j u hu => ?_⟩⟩
  have hr : Row (W.alloc (.cells cs t)) g t cs := Gen.rowAt _ _ _ h
  have e : (⟨g, 0, none⟩ : Addr).add j = ⟨g, j, none⟩ := by unfold Addr.add; split <;> simp_all
  rw [e, hr.cell j]
  simpa using hu
/-- a fresh block as an owned row -/
theorem own_blkN {W : World} {K n : Nat} {t : TypeId} {cs : Array Value} (hK : cs.size = n * K) (hn : n ≤ maxLen) : (W.alloc (.cells cs t)).ownsRow W.heap.size t K (.slice (some ⟨W.heap.size, 0, none⟩) n n) n cs.toList :=
  ⟨by simpa using hK, .inr ⟨W.heap.size, n, cs, rfl, Nat.le_refl _, Row.new _ _ _, Nat.le_refl _, hn, hK, by rw [List.take_of_length_le]; simp [hK]⟩⟩
/-- it was among the first ones -/
def Was (b : Bool) (M : List Sg) (kk : Nat) (y : Sg) : Prop := b = true ↔ ∃ q, q < kk ∧ M[q]? = some y
theorem was_none {M : List Sg} {y : Sg} : Was false M 0 y := ⟨(fun c => by cases c), (fun h => by obtain ⟨q, h, _⟩ := h; omega)⟩
theorem any_old {M : List Sg} {kk : Nat} {y : Sg} (h : Was true M kk y) : Was true M (kk + 1) y := by
  obtain ⟨q, h1, h2⟩ := h.1 rfl
  exact ⟨fun _ => ⟨q, Nat.lt_succ_of_lt h1, h2⟩, fun _ => rfl⟩
theorem any_here {M : List Sg} {kk : Nat} {y : Sg} (h : M[kk]? = some y) : Was true M (kk + 1) y := ⟨fun _ => ⟨kk, Nat.lt_succ_self _, h⟩, fun _ => rfl⟩
theorem any_not {M : List Sg} {kk : Nat} {y z : Sg} (h : Was false M kk y) (hz : M[kk]? = some z) (hne : ¬ z = y) : Was false M (kk + 1) y := by
  refine ⟨(fun c => by cases c), ?_⟩
  rintro ⟨q, h1, h2⟩
  by_cases hq : q < kk
  · exact h.2 ⟨q, hq, h2⟩
  · obtain rfl : q = kk := by omega
    rw [hz] at h2
    injection h2 with h2
    exact absurd h2 hne
theorem any_all {M : List Sg} {y : Sg} {a b : Bool} (ha : Was a M M.length y) (hb : b = true ↔ y ∈ M) : a = b := by
  have e : a = true ↔ b = true := by
    rw [hb]
    refine Iff.trans ha ?_
    constructor
    · rintro ⟨q, _, h⟩
      exact List.mem_of_getElem? h
    · intro h
      obtain ⟨q, hq⟩ := List.getElem?_of_mem h
      exact ⟨q, (List.getElem?_eq_some_iff.1 hq).1, hq⟩
  cases a <;> cases b <;> simp_all
theorem scs_one (l : List Sg) : ∀ u ∈ l.flatMap scs, u.oneCell' = true := fun u hu => by
  obtain ⟨x, _, hx⟩ := List.mem_flatMap.1 hu
  simp [scs] at hx
  rcases hx with rfl | rfl | rfl <;> rfl
/-- a list of signatures that grows on fresh memory -/
structure Ak (W9 W : World) (v : Value) (N : Nat) (Al : List Sg) (K : Nat) : Prop where
  o : W.ownsRow W9.heap.size 31 3 v N (Al.flatMap scs)
  len : Al.length = N
  ok : ∀ a ∈ Al, okE (a.k, a.s)
  bl : Below W9.heap.size W9 W
  le : N ≤ K
theorem Ak.keep {W9 W W' : World} {v : Value} {N K : Nat} {Al : List Sg} (h : Ak W9 W v N Al K) (hb : Below W.heap.size W W') : Ak W9 W' v N Al K := ⟨Gen.own_keep h.o hb, h.len, h.ok, Gen.over hb h.bl, h.le⟩
theorem Ak.first {W9 w9 : World} {v : Value} {m : Sg} {M : List Sg} {cs : Array Value} (hc : cs.toList = scs m) (hm : okE (m.k, m.s)) (hM : ∀ a ∈ M, okE (a.k, a.s))
    (ho : w9.ownsRow W9.heap.size 31 3 v (1 + M.length) (cs.toList ++ M.flatMap scs)) (hg : (W9.alloc (.cells cs 31)).grownBy w9 (some W9.heap.size)) : Ak W9 w9 v (1 + M.length) (m :: M) (1 + M.length) := by
  refine ⟨by rw [hc] at ho; exact ho, by simp; omega, ?_, ?_, Nat.le_refl _⟩
  · intro a ha
    rcases List.mem_cons.1 ha with rfl | ha
    · exact hm
    · exact hM a ha
  · exact (Gen.b_alloc (Below.refl _ _)).grown hg (by simp) (fun k hk => by injection hk with hk; omega)
theorem Ak.more {W9 W wz w' : World} {v v' : Value} {N K q : Nat} {Al R : List Sg} {news : List Value} (h : Ak W9 W v N Al K) (hb : Below W.heap.size W wz) (hg : wz.grownBy w' v.ownBlock)
    (ho : w'.ownsRow W9.heap.size 31 3 v' (N + q) (Al.flatMap scs ++ news)) (hn : news = R.flatMap scs) (hq : R.length = q) (hR : ∀ a ∈ R, okE (a.k, a.s)) : Ak W9 w' v' (N + q) (Al ++ R) (K + q) := by
  subst hn hq
  refine ⟨by rw [List.flatMap_append]; exact ho, by simp [h.len], ?_, Gen.g_below (Gen.own_keep h.o hb) hg (Gen.over hb h.bl) (Nat.le_refl _), Nat.add_le_add_right h.le _⟩
  intro a ha
  rcases List.mem_append.1 ha with ha | ha
  · exact h.ok a ha
  · exact hR a ha
end Go.Proofs.Ytblegaclcpoonab.Seal
