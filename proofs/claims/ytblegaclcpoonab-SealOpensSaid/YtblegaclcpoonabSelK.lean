/- A round of pairs that are signed: what lies where between a signature and the round's end. -/
import Derived.Test.YtblegaclcpoonabSelJ
namespace Go.Proofs.Ytblegaclcpoonab.Seal
open Go.ChangeShapes Go.WideShapes Go.ChangeAt Go.RowKit Go.Joins Go.Maps Go.WideMaps Go.Proofs.Ytblegaclcpoonab.Cell
set_option linter.unusedVariables false
set_option linter.unusedSimpArgs false

theorem isK_yes {k : Int} (h0 : 0 ≤ k) (h1 : k < 200) : isK k = true := decide_eq_true ⟨h0, h1⟩
theorem isK_no {k : Int} (h : k < 0 ∨ 200 ≤ k) : isK k = false := decide_eq_false (by omega)
theorem isK_in {k : Int} (h : isK k = true) : 0 ≤ k ∧ k < 200 := of_decide_eq_true h
theorem at_inj {L : List En} (hn : L.Nodup) {p q : Nat} {x : En} (hp : L[p]? = some x) (hq : L[q]? = some x) : p = q := by
  obtain ⟨h1, e1⟩ := List.getElem?_eq_some_iff.1 hp
  obtain ⟨h2, e2⟩ := List.getElem?_eq_some_iff.1 hq
  have hp' := List.pairwise_iff_getElem.1 hn
  rcases Nat.lt_trichotomy p q with a | a | a
  · exact absurd (e1.trans e2.symm) (hp' p q h1 h2 a)
  · exact a
  · exact absurd (e2.trans e1.symm) (hp' q p h2 h1 a)
theorem SgnR.bad {L L' : List En} {x : En} {m : Sg} (h : SgnR L x L' m) (hk : isK x.1 = false) : L' = L ∧ m = sg0 := by
  rcases h with ⟨_, a, b⟩ | ⟨c, _⟩
  · exact ⟨a, b⟩
  · rw [hk] at c; cases c
theorem SgnR.old {L L' : List En} {x : En} {m : Sg} (h : SgnR L x L' m) (hk : isK x.1 = true) (hx : x ∈ L) : L' = L ∧ ∃ p : Nat, L[p]? = some x ∧ m = ⟨x.1, x.2, p⟩ := by
  rcases h with ⟨c, _⟩ | ⟨_, p, h1, h2, ⟨_, rfl⟩ | ⟨h3, _⟩⟩
  · rw [hk] at c; cases c
  · exact ⟨rfl, p, h1, h2⟩
  · exact absurd hx h3
theorem SgnR.fresh {L L' : List En} {x : En} {m : Sg} (h : SgnR L x L' m) (hk : isK x.1 = true) (hx : x ∉ L) : L' = L ++ [x] ∧ m = ⟨x.1, x.2, (L.length : Nat)⟩ := by
  rcases h with ⟨c, _⟩ | ⟨_, p, h1, h2, ⟨h3, _⟩ | ⟨_, h3, rfl⟩⟩
  · rw [hk] at c; cases c
  · exact absurd h3 hx
  · exact ⟨h3, h2⟩
theorem scs_len (l : List Sg) : (l.flatMap scs).length = l.length * 3 := Gen.flat_length (K := 3) (fun x => rfl) l
theorem lst_loop (a : ByteArray) (n : Nat) : ∀ (i : Nat) (r : List UInt8), a.size - i = n → ByteArray.toList.loop a i r = r.reverse ++ a.data.toList.drop i := by
  induction n with
  | zero =>
    intro i r h
    unfold ByteArray.toList.loop
    have hs : a.size = a.data.toList.length := rfl
    rw [if_neg (by omega), List.drop_of_length_le (by omega)]; simp
  | succ n ih =>
    intro i r h
    unfold ByteArray.toList.loop
    have hs : a.size = a.data.toList.length := rfl
    rw [if_pos (by omega), ih (i + 1) _ (by omega)]
    have e : a.get! i = a.data.toList[i]'(by omega) := by
      have hd : i < a.data.size := show i < a.size by omega
      show a.data[i]! = _
      rw [getElem!_pos a.data i hd]; rfl
    rw [List.reverse_cons, List.append_assoc, e]
    congr 1
    exact (List.drop_eq_getElem_cons (by omega)).symm
theorem str_inj {a b : ByteArray} (h : a.toList = b.toList) : a = b := by
  unfold ByteArray.toList at h
  rw [lst_loop a _ 0 [] rfl, lst_loop b _ 0 [] rfl] at h
  exact bytes_inj (by simpa using h)
theorem b_dA {a W : World} {x : Obj} (h : Below a.heap.size a W) : Below a.heap.size a (W.alloc x).drew := (Gen.b_alloc h).drew
theorem Els.two {w : World} {b off : Nat} {l : List En} {j : Nat} {x : En} (h : Els w (some ⟨b, off, none⟩) l) (hx : l[j]? = some x) : w.cell? ⟨b, off + j * 2, none⟩ = some (.int .i64 x.1) ∧ w.cell? ⟨b, off + j * 2 + 1, none⟩ = some (.string x.2) := by
  obtain ⟨b', off', e, hc⟩ := h (by have := lt_of_at hx; omega)
  injection e with e
  injection e with e1 e2
  subst e1 e2
  exact hc j x hx
/-- the two cells of the entry at a place of an owned row -/
theorem own_two {w : World} {base n c : Nat} {A : Option Addr} {l : List En} (hn : l.length = n) (h : w.ownsRow base 24 2 (.slice A n c) n (l.flatMap ecs)) {j : Nat} {x : En} (hx : l[j]? = some x) :
    ∃ b, A = some ⟨b, 0, none⟩ ∧ w.cell? ⟨b, j * 2, none⟩ = some (.int .i64 x.1) ∧ w.cell? ⟨b, j * 2 + 1, none⟩ = some (.string x.2) := by
  have hj := lt_of_at hx
  obtain ⟨g, cap, hv, _, hlt⟩ := h.form (by omega)
  obtain rfl : A = some ⟨g, 0, none⟩ := by injection hv
  have f : ∀ i, i < 2 → (l.flatMap ecs)[j * 2 + i]? = (ecs x)[i]? := fun i hi => Gen.flat_at (K := 2) (fun y => rfl) l j x hx i hi
  have c0 := h.cellAt (j * 2 + 0) (by omega)
  have c1 := h.cellAt (j * 2 + 1) (by omega)
  rw [f 0 (by omega)] at c0
  rw [f 1 (by omega)] at c1
  exact ⟨g, rfl, c0, c1⟩
/-- the three cells of the signature at a place of an owned row -/
theorem own_three {w : World} {base n c : Nat} {A : Option Addr} {l : List Sg} (hn : l.length = n) (h : w.ownsRow base 31 3 (.slice A n c) n (l.flatMap scs)) {j : Nat} {x : Sg} (hx : l[j]? = some x) :
    ∃ b, A = some ⟨b, 0, none⟩ ∧ base ≤ b ∧ w.cell? ⟨b, j * 3, none⟩ = some (.int .i64 x.k) ∧ w.cell? ⟨b, j * 3 + 1, none⟩ = some (.string x.s) ∧ w.cell? ⟨b, j * 3 + 2, none⟩ = some (.int .i64 x.m) := by
  have hj := lt_of_at hx
  obtain ⟨g, cap, hv, _, hlt⟩ := h.form (by omega)
  obtain rfl : A = some ⟨g, 0, none⟩ := by injection hv
  have f : ∀ i, i < 3 → (l.flatMap scs)[j * 3 + i]? = (scs x)[i]? := fun i hi => Gen.flat_at (K := 3) (fun y => rfl) l j x hx i hi
  have c0 := h.cellAt (j * 3 + 0) (by omega)
  have c1 := h.cellAt (j * 3 + 1) (by omega)
  have c2 := h.cellAt (j * 3 + 2) (by omega)
  rw [f 0 (by omega)] at c0
  rw [f 1 (by omega)] at c1
  rw [f 2 (by omega)] at c2
  exact ⟨g, rfl, (h.lt g rfl).1, c0, c1, c2⟩
/-- a row of ours through a signature -/
theorem Mid.away {w0 wr : World} {B g gm n size : Nat} {L : List En} {eb : Option Nat} {x : En} {wx : World} {gx : Nat} {m : Sg} {L' : List En} {eb' : Option Nat} {e : TypeId} {v : Value} {xs : List Value}
    (h : Mid w0 wr g gm L eb x wx gx m L' eb') (ho : wr.ownsRow B e size v n xs) (hg : g < B) (hne : ∀ q, v.ownBlock = some q → eb ≠ some q) : wx.ownsRow B e size v n xs :=
  own_same ho fun q hq => h.kp q (ho.lt q hq).2 (by have := (ho.lt q hq).1; omega) (by have := (ho.lt q hq).1; have := h.r.lt; omega) (hne q hq)
theorem Mid.off {w0 wr : World} {g gm : Nat} {L : List En} {eb : Option Nat} {x : En} {wx : World} {gx : Nat} {m : Sg} {L' : List En} {eb' : Option Nat}
    (h : Mid w0 wr g gm L eb x wx gx m L' eb') {q : Nat} (hq : q < wr.heap.size) (hn : eb ≠ some q) : eb' ≠ some q := by
  rcases h.e with e | ⟨b, e, hb⟩
  · rw [e]; exact hn
  · rw [e]; intro c; injection c with c; omega
/-- between the signature's append and the round's end -/
structure Pst (w0 : World) (B g gm : Nat) (W : World) (i : Nat) (v5 v6 : Value) (L L' : List En) (M : List Sg) (x : En) (m : Sg) (gx : Nat) (eb : Option Nat) : Prop where
  r : Rg W g gm eb L'
  s : SgnR L x L' m
  o5 : W.ownsRow B 24 2 v5 L.length (L.flatMap ecs)
  o6 : W.ownsRow B 31 3 v6 (i + 1) ((M ++ [m]).flatMap scs)
  d56 : ∀ q, v5.ownBlock = some q → v6.ownBlock ≠ some q
  d5 : ∀ q, v5.ownBlock = some q → eb ≠ some q
  d6 : ∀ q, v6.ownBlock = some q → eb ≠ some q
  bl : Below w0.heap.size w0 W
  row : Row W gx 31 #[.int .i64 m.k, .string m.s, .int .i64 m.m]
  n5 : v5.ownBlock ≠ some gx
  sB : B ≤ W.heap.size
theorem Pst.keep {w0 W W' : World} {B g gm i gx : Nat} {L L' : List En} {M : List Sg} {v5 v6 : Value} {eb : Option Nat} {x : En} {m : Sg} (h : Pst w0 B g gm W i v5 v6 L L' M x m gx eb) (hb : Below W.heap.size W W') : Pst w0 B g gm W' i v5 v6 L L' M x m gx eb :=
  ⟨h.r.keep hb, h.s, Gen.own_keep h.o5 hb, Gen.own_keep h.o6 hb, h.d56, h.d5, h.d6, Gen.over hb h.bl, h.row.keep hb, h.n5, Nat.le_trans h.sB hb.size⟩
theorem Mid.pst {w0 wr : World} {B g gm i : Nat} {l L : List En} {M : List Sg} {v5 v6 : Value} {eb : Option Nat} {x : En} {wx : World} {gx : Nat} {m : Sg} {L' : List En} {eb' : Option Nat}
    (hS : Sm w0 B g gm l wr i v5 v6 L M eb) (hM : Mid w0 wr g gm L eb x wx gx m L' eb') {wz w7 : World} {v7 : Value} (hb : Below wx.heap.size wx wz) (hg : wz.grownBy w7 v6.ownBlock)
    (ho : w7.ownsRow B 31 3 v7 (i + 1) (M.flatMap scs ++ scs m)) (ha : v7.ownBlock = v6.ownBlock ∨ v7.ownBlock = some wz.heap.size) : Pst w0 B g gm w7 i v5 v7 L L' M x m gx eb' := by
  have o6z := Gen.own_keep (hM.away hS.o6 hS.gB hS.d6) hb
  have o5z := Gen.own_keep (hM.away hS.o5 hS.gB hS.d5) hb
  have hlt := hM.r.lt
  have hgB := hS.gB
  have l6 := hS.o6.lt
  have l5 := hS.o5.lt
  have s1 := hM.sz
  have s2 := hb.size
  have hx := hM.row.lt
  have hxg : v6.ownBlock ≠ some gx := fun e => by have := (l6 gx e).2; have := hM.up; omega
  have n6 : ∀ q, q < B → some q ≠ v6.ownBlock := fun q hq e => by have := (l6 q e.symm).1; omega
  have ne : ∀ q, v6.ownBlock = some q → eb' ≠ some q := fun q hq => hM.off (l6 q hq).2 (hS.d6 q hq)
  have z1 : eb' = none ∨ eb' ≠ v6.ownBlock := by
    cases h6 : v6.ownBlock with
    | none => cases eb' with
      | none => exact .inl rfl
      | some q => exact .inr (by simp)
    | some q => exact .inr (ne q h6)
  have z2 : v5.ownBlock = none ∨ v5.ownBlock ≠ v6.ownBlock := by
    cases h5 : v5.ownBlock with
    | none => exact .inl rfl
    | some q => exact .inr fun e => hS.d56 q h5 e.symm
  refine ⟨(hM.r.keep hb).grown hg (n6 g hgB) (n6 gm (by omega)) z1, hM.s, o5z.kept hg z2, by simpa using ho, ?_, ?_, ?_, Gen.g_below o6z hg (Gen.over hb hM.bl) (by have := hS.w0g; omega), ?_, ?_, ?_⟩
  · intro q hq e
    rcases ha with a | a
    · exact hS.d56 q hq (a.symm.trans e)
    · have := (l5 q hq).2
      rw [a] at e
      injection e with e
      omega
  · exact fun q hq => hM.off (l5 q hq).2 (hS.d5 q hq)
  · intro q hq
    rcases ha with a | a
    · exact ne q (a.symm.trans hq)
    · rw [a] at hq
      injection hq with hq
      exact hM.r.eb_lt (by omega)
  · exact (hg.block gx (by omega) (fun e => hxg e.symm)).trans (hM.row.keep hb)
  · intro e
    have := (l5 gx e).2
    have := hM.up
    omega
  · have := hS.sB
    have := hg.size
    omega
/-- the round's end, where the entries stay -/
theorem Pst.next {w0 wr W : World} {B g gm i : Nat} {l L L' : List En} {M : List Sg} {v5 v6 v6' : Value} {eb eb' : Option Nat} {x : En} {gx : Nat} {m : Sg}
    (hS : Sm w0 B g gm l wr i v5 v6 L M eb) (h : Pst w0 B g gm W i v5 v6' L L' M x m gx eb') (hx : l[i]? = some x) (hL : L' = L) : Sm w0 B g gm l W (i + 1) v5 v6' L (M ++ [m]) eb' := by
  subst hL
  refine ⟨h.r, h.o5, h.o6, by simp [hS.ml], ?_, h.d56, h.d5, h.d6, h.bl, hS.gB, hS.w0g, Nat.le_succ_of_le hS.ll, h.sB⟩
  intro j y my hy hmy
  by_cases hj : j < M.length
  · rw [List.getElem?_append_left hj] at hmy
    exact hS.ms j y my hy hmy
  · have hjl := (List.getElem?_eq_some_iff.1 hmy).1
    simp at hjl
    obtain rfl : j = M.length := by omega
    rw [hS.ml, hx] at hy
    injection hy with hy
    subst hy
    simp at hmy
    subst hmy
    rcases h.s with ⟨a, _, b⟩ | ⟨a, p, b, c, _⟩
    · exact .inl ⟨a, b⟩
    · exact .inr ⟨a, p, b, c⟩
/-- the round's end, where an entry was appended -/
theorem Pst.grow {w0 wr W wz w7 : World} {B g gm i : Nat} {l L L' : List En} {M : List Sg} {v5 v6 v6' v7 : Value} {eb eb' : Option Nat} {x : En} {gx : Nat} {m : Sg}
    (hS : Sm w0 B g gm l wr i v5 v6 L M eb) (h : Pst w0 B g gm W i v5 v6' L L' M x m gx eb') (hx : l[i]? = some x) (hL : L' = L ++ [x]) (hb : Below W.heap.size W wz) (hg : wz.grownBy w7 v5.ownBlock)
    (ho : w7.ownsRow B 24 2 v7 (L.length + 1) (L.flatMap ecs ++ ecs x)) (ha : v7.ownBlock = v5.ownBlock ∨ v7.ownBlock = some wz.heap.size) :
    Sm w0 B g gm l w7 (i + 1) v7 v6' L' (M ++ [m]) eb' ∧ Row w7 gx 31 #[.int .i64 m.k, .string m.s, .int .i64 m.m] := by
  have o5z := Gen.own_keep h.o5 hb
  have o6z := Gen.own_keep h.o6 hb
  have hlt := h.r.lt
  have hgB := hS.gB
  have l6 := h.o6.lt
  have l5 := h.o5.lt
  have s2 := hb.size
  have hxl := h.row.lt
  have n5 : ∀ q, q < B → some q ≠ v5.ownBlock := fun q hq e => by have := (l5 q e.symm).1; omega
  have z1 : eb' = none ∨ eb' ≠ v5.ownBlock := by
    cases h5 : v5.ownBlock with
    | none => cases eb' with
      | none => exact .inl rfl
      | some q => exact .inr (by simp)
    | some q => exact .inr (h.d5 q h5)
  have z2 : v6'.ownBlock = none ∨ v6'.ownBlock ≠ v5.ownBlock := by
    cases h6 : v6'.ownBlock with
    | none => exact .inl rfl
    | some q => exact .inr fun e => h.d56 q e.symm h6
  have eL : L'.length = L.length + 1 := by rw [hL]; simp
  have eF : L'.flatMap ecs = L.flatMap ecs ++ ecs x := by rw [hL]; simp
  refine ⟨⟨(h.r.keep hb).grown hg (n5 g hgB) (n5 gm (by omega)) z1, by rw [eL, eF]; exact ho, o6z.kept hg z2, by simp [hS.ml], ?_, ?_, ?_, h.d6, Gen.g_below o5z hg (Gen.over hb h.bl) (by have := hS.w0g; omega), hS.gB, hS.w0g, by rw [eL]; have := hS.ll; omega, by have := h.sB; have := hg.size; omega⟩, (hg.block gx (by omega) (fun e => h.n5 e.symm)).trans (h.row.keep hb)⟩
  · intro j y my hy hmy
    by_cases hj : j < M.length
    · rw [List.getElem?_append_left hj] at hmy
      rcases hS.ms j y my hy hmy with a | ⟨a, p, b, c⟩
      · exact .inl a
      · exact .inr ⟨a, p, by rw [hL, List.getElem?_append_left (List.getElem?_eq_some_iff.1 b).1]; exact b, c⟩
    · have hjl := (List.getElem?_eq_some_iff.1 hmy).1
      simp at hjl
      obtain rfl : j = M.length := by omega
      rw [hS.ml, hx] at hy
      injection hy with hy
      subst hy
      simp at hmy
      subst hmy
      rcases h.s with ⟨a, _, b⟩ | ⟨a, p, b, c, _⟩
      · exact .inl ⟨a, b⟩
      · exact .inr ⟨a, p, b, c⟩
  · intro q hq e
    rcases ha with a | a
    · exact h.d56 q (a.symm.trans hq) e
    · have := (l6 q e).2
      rw [a] at hq
      injection hq with hq
      omega
  · intro q hq
    rcases ha with a | a
    · exact h.d5 q (a.symm.trans hq)
    · rw [a] at hq
      injection hq with hq
      exact h.r.eb_lt (by omega)
theorem sign_again {W : World} {g gm : Nat} {eb : Option Nat} {L : List En} {k : Int} {s : ByteArray} {m : Sg} (h : Rg W g gm eb L) (hx : okE (k, s)) (hm : (isK k = false ∧ m = sg0) ∨ (isK k = true ∧ ∃ p : Nat, L[p]? = some (k, s) ∧ m = ⟨k, s, p⟩)) :
    Calls Try.prog 11 #[.pointer (some ⟨g, 0, none⟩), .int .i64 k, .string s] W fun e w' => e = .returned (.agg #[.int .i64 m.k, .string m.s, .int .i64 m.m]) ∧ Below W.heap.size W w' := by
  rcases hm with ⟨hk, rfl⟩ | ⟨hk, p, hp, rfl⟩
  · exact sign_bad g hk
  · exact sign_old h hk hx hp
end Go.Proofs.Ytblegaclcpoonab.Seal
