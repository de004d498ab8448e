/- Fall: what changes in memory; clones; money on its way in memory. -/
import Derived.Test.YtdmbgdbmfenbfaaFaD
import Derived.BigRegion
import Derived.Deep.RegionHeld3
import Derived.Deep.DeepCutAuto
namespace Go.Proofs.Ytdmbgdbmfenbfaa.Fa
open Go.ChangeShapes Go.WideShapes Go.ChangeAt Go.RowKit Go.Proofs.Ytdmbgdbmfenbfaa.Cell
set_option linter.unusedVariables false
set_option linter.unusedSimpArgs false

/-- nothing else changes than some blocks -/
structure Only (W w' : World) (R : Nat → Prop) : Prop where
  os : w'.os = W.os
  tape : w'.tape = W.tape
  output : w'.output = W.output
  size : W.heap.size ≤ w'.heap.size
  block : ∀ k, k < W.heap.size → ¬ R k → w'.heap[k]? = W.heap[k]?
section
variable {w W w' w1 w2 : World} {R R' : Nat → Prop}
theorem Only.refl (W : World) (R : Nat → Prop) : Only W W R := ⟨rfl, rfl, rfl, Nat.le_refl _, fun _ _ _ => rfl⟩
theorem Only.of_below (hb : Below W.heap.size W w') (R : Nat → Prop) : Only W w' R := ⟨hb.os, hb.tape, hb.output, hb.size, fun k hk _ => hb.block k hk⟩
theorem Only.trans (h : Only W w1 R) (k : Only w1 w2 R') (hr : ∀ b, R' b → R b ∨ W.heap.size ≤ b) : Only W w2 R :=
  ⟨k.os.trans h.os, k.tape.trans h.tape, k.output.trans h.output, Nat.le_trans h.size k.size, fun b hb hn => (k.block b (Nat.lt_of_lt_of_le hb h.size) (fun c => by
    rcases hr b c with e | e
    · exact hn e
    · omega)).trans (h.block b hb hn)⟩
theorem Only.then (h : Only W w1 R) (k : Only w1 w2 R) : Only W w2 R := h.trans k fun _ e => .inl e
theorem Only.more (h : Only W w1 R) (hb : Below w1.heap.size w1 w2) : Only W w2 R := h.trans (R' := R) (Only.of_below hb R) (fun b e => .inl e)
theorem Only.set (h : Only W w1 R) {p : Addr} (hp : R p.block ∨ W.heap.size ≤ p.block) (v : Value) : Only W (w1.setCell p v) R :=
  have hb : Below 0 w1 (w1.setCell p v) := Below.setCell (Below.refl 0 w1) (Nat.zero_le _) v
  ⟨hb.os.trans h.os, hb.tape.trans h.tape, hb.output.trans h.output, Nat.le_trans h.size hb.size, fun k hk hn => (Below.heap_setCell w1 p v k (fun e => by
    subst e
    rcases hp with e | e
    · exact hn e
    · omega)).trans (h.block k hk hn)⟩
theorem Only.below (hb : Below w.heap.size w W) (h : Only W w' R) (hr : ∀ b, R b → w.heap.size ≤ b) : Below w.heap.size w w' :=
  ⟨h.os.trans hb.os, h.tape.trans hb.tape, h.output.trans hb.output, Nat.le_trans hb.size h.size, fun k hk => (h.block k (Nat.lt_of_lt_of_le hk hb.size) (fun e => by have := hr k e; omega)).trans (hb.block k hk)⟩
theorem Only.row {g : Nat} {t : TypeId} {cs : Array Value} (h : Only W w' R) (hr : Row W g t cs) (hn : ¬ R g) : Row w' g t cs := (h.block g hr.lt hn).trans hr
theorem Only.cell {b o : Nat} {v : Value} (h : Only W w' R) (hc : W.cell? ⟨b, o, none⟩ = some v) (hn : ¬ R b) : w'.cell? ⟨b, o, none⟩ = some v := by
  have hb := World.block_lt_of_cell? W ⟨b, o, none⟩ hc
  exact (World.cell?_of_block (h.block b hb hn)).trans hc
end
theorem own_set {W : World} {base n size cap g j : Nat} {e : TypeId} {xs : List Value} (h : W.ownsRow base e size (.slice (some ⟨g, 0, none⟩) n cap) n xs) (u : Value) : (W.setCell ⟨g, j, none⟩ u).ownsRow base e size (.slice (some ⟨g, 0, none⟩) n cap) n (xs.set j u) := by
  refine ⟨by rw [List.length_set]; exact h.1, ?_⟩
  rcases h.2 with ⟨c, _⟩ | ⟨g', cap', cur, hv, hb, hg, h1, h2, h3, h4⟩
  · cases c
  · injection hv with e1 e2 e3
    injection e1 with e1
    injection e1 with e1
    subst e1 e3
    refine .inr ⟨g, cap, cur.setIfInBounds j u, rfl, hb, Row.set (t := e) (cs := cur) hg j u, h1, h2, by rw [Array.size_setIfInBounds]; exact h3, ?_⟩
    rw [Array.toList_setIfInBounds, List.take_set, h4]
theorem flat_set {α : Type} {f : α → List Value} {K : Nat} (hf : ∀ x, (f x).length = K) {o : Nat} (ho : o < K) {x y : α} {u : Value} (hy : f y = (f x).set o u) :
    ∀ (l : List α) (j : Nat), l[j]? = some x → (l.flatMap f).set (j * K + o) u = (l.set j y).flatMap f
  | [], j, h => by simp at h
  | z :: l, 0, h => by
    simp at h
    subst h
    rw [List.set_cons_zero, List.flatMap_cons, List.flatMap_cons, hy, Nat.zero_mul, Nat.zero_add, List.set_append_left _ _ (by rw [hf]; exact ho)]
  | z :: l, j + 1, h => by
    simp at h
    rw [List.set_cons_succ, List.flatMap_cons, List.flatMap_cons, List.set_append_right _ _ (by rw [hf, Nat.succ_mul]; omega), hf]
    rw [show (j + 1) * K + o - K = j * K + o by rw [Nat.succ_mul]; omega, flat_set hf ho hy l j h]
theorem own_frozen {W : World} {B n g c size j : Nat} {e : TypeId} {xs : List Value} (h : W.ownsRow B e size (.slice (some ⟨g, 0, none⟩) n c) n xs) : W.frozen? ⟨g, j, none⟩ = false := by
  rcases h.2 with ⟨c, _⟩ | ⟨g', cap', cur, hv, hb, hg, _⟩
  · cases c
  · injection hv with e1
    injection e1 with e1
    injection e1 with e1
    subst e1
    exact frozen_of_row W g j cur e hg
theorem own_base {w : World} {B B' n size : Nat} {e : TypeId} {v : Value} {xs : List Value} (h : w.ownsRow B e size v n xs) (hb : B' ≤ B) : w.ownsRow B' e size v n xs := by
  refine ⟨h.1, ?_⟩
  rcases h.2 with hn | ⟨g, cap, cur, rfl, hbb, rest⟩
  · exact .inl hn
  · exact .inr ⟨g, cap, cur, rfl, Nat.le_trans hb hbb, rest⟩
theorem own_put {w : World} {B n size : Nat} {e : TypeId} {v : Value} {xs : List Value} (h : w.ownsRow B e size v n xs) {p : Addr} (hp : p.block < B) (u : Value) : (w.setCell p u).ownsRow B e size v n xs := by
  refine ⟨h.1, ?_⟩
  rcases h.2 with hn | ⟨g, cap, cur, rfl, hbb, hg, rest⟩
  · exact .inl hn
  · exact .inr ⟨g, cap, cur, rfl, hbb, (Below.heap_setCell w p u g (by omega)).trans hg, rest⟩
theorem own_ab {w : World} {B n c size : Nat} {e : TypeId} {A : Option Addr} {xs : List Value} (h : w.ownsRow B e size (.slice A n c) n xs) : ∀ a, A = some a → B ≤ a.block := fun a ha => by
  subst ha
  rcases h.2 with ⟨h0, _⟩ | ⟨g, cap, cur, he, hb, _⟩
  · cases h0
  · injection he with e1
    injection e1 with e1
    subst e1
    exact hb
theorem own_nil {w : World} (n B size : Nat) (e : TypeId) : w.ownsRow B e size (.slice none 0 0) 0 [] := ⟨by simp, .inl ⟨rfl, rfl⟩⟩
theorem own_new (w : World) (e : TypeId) (size : Nat) : (w.alloc (.cells #[] e)).ownsRow w.heap.size e size (.slice (some ⟨w.heap.size, 0, none⟩) 0 0) 0 [] :=
  ⟨by simp, .inr ⟨w.heap.size, 0, #[], rfl, Nat.le_refl _, heap_alloc_new w _, Nat.le_refl _, by simp [maxLen], by simp, by simp⟩⟩
theorem info_parts' {o : Option TypeInfo} {z : Value} {a b : Nat} (h : o.map (fun i => (i.zero, i.size, i.bytes)) = some (some z, a, b)) : ∃ i, o = some i ∧ i.zero = some z ∧ i.size = a ∧ i.bytes = b := by
  cases o with
  | none => cases h
  | some i =>
    simp only [Option.map_some, Option.some.injEq, Prod.mk.injEq] at h
    exact ⟨i, rfl, h.1, h.2.1, h.2.2⟩
/-- a row of one's own whose block stays -/
theorem own_only {W w' : World} {R : Nat → Prop} {B n c size : Nat} {e : TypeId} {A : Option Addr} {xs : List Value} (h : Only W w' R) (ho : W.ownsRow B e size (.slice A n c) n xs) (hn : ∀ a, A = some a → ¬ R a.block) : w'.ownsRow B e size (.slice A n c) n xs := by
  refine ⟨ho.1, ?_⟩
  rcases ho.2 with hh | ⟨g, cap, cur, hv, hb, hg, rest⟩
  · exact .inl hh
  · refine .inr ⟨g, cap, cur, hv, hb, ?_, rest⟩
    injection hv with e1
    subst e1
    exact (h.block g (Row.lt (t := e) (cs := cur) hg) (hn _ rfl)).trans hg
theorem rs_only {α : Type} {f : α → List Value} {K : Nat} {W w' : World} {R : Nat → Prop} {A : Option Addr} {l : List α} (h : Only W w' R) (hr : Rs f K W A l) (hn : ∀ a, A = some a → ¬ R a.block) : Rs f K w' A l := fun h0 => by
  obtain ⟨b, off, e, hc⟩ := hr h0
  exact ⟨b, off, e, fun j x hx r v hv => h.cell (hc j x hx r v hv) (hn _ e)⟩
theorem info_t : (Try.prog.info? 39).map (fun i => (i.zero, i.size, i.bytes)) = some (some (.agg #[.int .i64 0, .int .i64 0]), 2, 16) := by kernel_rfl
set_option maxRecDepth 100000 in
set_option maxHeartbeats 2000000 in
theorem clone_t {w : World} {A : Option Addr} {n cap : Nat} {l : List Tr} (hm : l.length = n) (hc : Rs tcs 2 w A l) (hbig : n ≤ 1000000) :
    Calls Try.prog 20 #[.slice A n cap] w fun e w' => ∃ A2 c2, e = .returned (.slice A2 n c2) ∧ w'.ownsRow w.heap.size 39 2 (.slice A2 n c2) n (l.flatMap tcs) ∧ Below w.heap.size w w' := by
  have hr := rs_reads (f := tcs) (K := 2) (fun _ => rfl) (by omega) hm hc
  have HM := Lib.hid hm
  clear hm hc
  have hq := fun (W : World) => Lib.run_eql_slice_nil (P := Try.prog) W 22 39 A n cap 0 0 Try.underlying22
  cases A with
  | none =>
    obtain rfl : n = 0 := by
      by_cases h0 : 0 < n
      · obtain ⟨_, e, _⟩ := hr.2 h0
        cases e
      · omega
    obtain rfl : l = [] := List.length_eq_zero_iff.1 HM.out
    go_enter Try.func20, Try.ntmps20
    go_wp2
    go_ret
    exact ⟨none, 0, rfl, ⟨rfl, .inl ⟨rfl, rfl⟩⟩, Below.refl _ _⟩
  | some ad =>
    obtain ⟨i0, hi0, hz0, hz1, hz2⟩ := info_parts' info_t
    have hown := own_new w 39 2
    go_enter Try.func20, Try.ntmps20
    go_wp2_with (first
      | (at_builtin
         go_must (refine App.wpList_append_any _ rfl (.tmp 5) (.tmp 6) _ rfl w.heap.size 39 i0 _ 2 16 Try.underlying22 hi0 hz0 hz1 hz2 rfl (by omega) _ 0 [] rfl hown w.heap.size _ n cap (l.flatMap tcs) rfl (hr.alloc (Nat.le_refl _) _) (tcs_one l) (by simp only [maxLen]; omega) (by omega) (by simp) ?_)
         intro v2 w2 hown2 hg2 hat2
         have hB2 := Gen.g_below hown hg2 (Gen.b_alloc (Below.refl _ _)) (Nat.le_refl _)
         rw [List.nil_append, Nat.zero_add] at hown2
         obtain ⟨A2, c2, rfl, _⟩ := Gen.own_slice hown2
         clear hg2 hat2)
      | fail)
    go_ret
    exact ⟨A2, c2, rfl, hown2, hB2⟩
theorem info_q : (Try.prog.info? 50).map (fun i => (i.zero, i.size, i.bytes)) = some (some (.agg #[.int .i64 0, .int .i64 0]), 2, 16) := by kernel_rfl
set_option maxRecDepth 100000 in
set_option maxHeartbeats 2000000 in
theorem clone_q {w : World} {A : Option Addr} {n cap : Nat} {l : List Te} (hm : l.length = n) (hc : Rs qcs 2 w A l) (hbig : n ≤ 1000000) :
    Calls Try.prog 21 #[.slice A n cap] w fun e w' => ∃ A2 c2, e = .returned (.slice A2 n c2) ∧ w'.ownsRow w.heap.size 50 2 (.slice A2 n c2) n (l.flatMap qcs) ∧ Below w.heap.size w w' := by
  have hr := rs_reads (f := qcs) (K := 2) (fun _ => rfl) (by omega) hm hc
  have HM := Lib.hid hm
  clear hm hc
  have hq := fun (W : World) => Lib.run_eql_slice_nil (P := Try.prog) W 23 50 A n cap 0 0 Try.underlying23
  cases A with
  | none =>
    obtain rfl : n = 0 := by
      by_cases h0 : 0 < n
      · obtain ⟨_, e, _⟩ := hr.2 h0
        cases e
      · omega
    obtain rfl : l = [] := List.length_eq_zero_iff.1 HM.out
    go_enter Try.func21, Try.ntmps21
    go_wp2
    go_ret
    exact ⟨none, 0, rfl, ⟨rfl, .inl ⟨rfl, rfl⟩⟩, Below.refl _ _⟩
  | some ad =>
    obtain ⟨i0, hi0, hz0, hz1, hz2⟩ := info_parts' info_q
    have hown := own_new w 50 2
    go_enter Try.func21, Try.ntmps21
    go_wp2_with (first
      | (at_builtin
         go_must (refine App.wpList_append_any _ rfl (.tmp 5) (.tmp 6) _ rfl w.heap.size 50 i0 _ 2 16 Try.underlying23 hi0 hz0 hz1 hz2 rfl (by omega) _ 0 [] rfl hown w.heap.size _ n cap (l.flatMap qcs) rfl (hr.alloc (Nat.le_refl _) _) (qcs_one l) (by simp only [maxLen]; omega) (by omega) (by simp) ?_)
         intro v2 w2 hown2 hg2 hat2
         have hB2 := Gen.g_below hown hg2 (Gen.b_alloc (Below.refl _ _)) (Nat.le_refl _)
         rw [List.nil_append, Nat.zero_add] at hown2
         obtain ⟨A2, c2, rfl, _⟩ := Gen.own_slice hown2
         clear hg2 hat2)
      | fail)
    go_ret
    exact ⟨A2, c2, rfl, hown2, hB2⟩
theorem info_s : (Try.prog.info? 42).map (fun i => (i.zero, i.size, i.bytes)) = some (some (.agg #[.int .i64 0, .int .i64 0, .int .i64 0]), 3, 24) := by kernel_rfl
set_option maxRecDepth 100000 in
set_option maxHeartbeats 2000000 in
theorem clone_s {w : World} {A : Option Addr} {n cap : Nat} {l : List St} (hm : l.length = n) (hc : Rs scs 3 w A l) (hbig : n ≤ 1000000) :
    Calls Try.prog 22 #[.slice A n cap] w fun e w' => ∃ A2 c2, e = .returned (.slice A2 n c2) ∧ w'.ownsRow w.heap.size 42 3 (.slice A2 n c2) n (l.flatMap scs) ∧ Below w.heap.size w w' := by
  have hr := rs_reads (f := scs) (K := 3) (fun _ => rfl) (by omega) hm hc
  have HM := Lib.hid hm
  clear hm hc
  have hq := fun (W : World) => Lib.run_eql_slice_nil (P := Try.prog) W 24 42 A n cap 0 0 Try.underlying24
  cases A with
  | none =>
    obtain rfl : n = 0 := by
      by_cases h0 : 0 < n
      · obtain ⟨_, e, _⟩ := hr.2 h0
        cases e
      · omega
    obtain rfl : l = [] := List.length_eq_zero_iff.1 HM.out
    go_enter Try.func22, Try.ntmps22
    go_wp2
    go_ret
    exact ⟨none, 0, rfl, ⟨rfl, .inl ⟨rfl, rfl⟩⟩, Below.refl _ _⟩
  | some ad =>
    obtain ⟨i0, hi0, hz0, hz1, hz2⟩ := info_parts' info_s
    have hown := own_new w 42 3
    go_enter Try.func22, Try.ntmps22
    go_wp2_with (first
      | (at_builtin
         go_must (refine App.wpList_append_any _ rfl (.tmp 5) (.tmp 6) _ rfl w.heap.size 42 i0 _ 3 24 Try.underlying24 hi0 hz0 hz1 hz2 rfl (by omega) _ 0 [] rfl hown w.heap.size _ n cap (l.flatMap scs) rfl (hr.alloc (Nat.le_refl _) _) (scs_one l) (by simp only [maxLen]; omega) (by omega) (by simp) ?_)
         intro v2 w2 hown2 hg2 hat2
         have hB2 := Gen.g_below hown hg2 (Gen.b_alloc (Below.refl _ _)) (Nat.le_refl _)
         rw [List.nil_append, Nat.zero_add] at hown2
         obtain ⟨A2, c2, rfl, _⟩ := Gen.own_slice hown2
         clear hg2 hat2)
      | fail)
    go_ret
    exact ⟨A2, c2, rfl, hown2, hB2⟩
/-- money on its way, in memory -/
structure Fw (w : World) (B g : Nat) (c : Int) (te : List Te) (st : List St) (p : Pl) (f : Fl) : Prop where
  row : Row w g 46 #[.int .i64 c, .int .i64 f.r, .int .i64 f.t, .int .i64 f.e, .slice p.A1 f.tr.length p.c1, .slice p.A2 te.length p.c2, .slice p.A3 st.length p.c3, .int .i64 f.p]
  own : w.ownsRow B 39 2 (.slice p.A1 f.tr.length p.c1) f.tr.length (f.tr.flatMap tcs)
  ap : ∀ a, p.A1 = some a → a.block ≠ g
  q : Rs qcs 2 w p.A2 te
  qp : ∀ a, p.A2 = some a → a.block ≠ g ∧ ∀ b, p.A1 = some b → a.block ≠ b.block
  s : Rs scs 3 w p.A3 st
  sp : ∀ a, p.A3 = some a → a.block ≠ g ∧ ∀ b, p.A1 = some b → a.block ≠ b.block
/-- the blocks that a step may write -/
def Wb (g : Nat) (p : Pl) : Nat → Prop := fun b => b = g ∨ ∃ a, p.A1 = some a ∧ b = a.block
theorem Fw.keep {w w' : World} {B g : Nat} {c : Int} {te : List Te} {st : List St} {p : Pl} {f : Fl} (h : Fw w B g c te st p f) (hb : Below w.heap.size w w') : Fw w' B g c te st p f :=
  ⟨h.row.keep hb, own_only (Only.of_below hb (fun _ => False)) h.own (fun _ _ x => x), h.ap, h.q.keep hb, h.qp, h.s.keep hb, h.sp⟩
/-- what a step does to memory -/
def StepP (w : World) (B g : Nat) (c : Int) (te : List Te) (st : List St) (p : Pl) (f : Fl) (s : St) (e : Ending) (w' : World) : Prop :=
  e = .returned (.int .i64 (stp c te f s).1) ∧ Fw w' B g c te st p (stp c te f s).2 ∧ Only w w' (Wb g p)
end Go.Proofs.Ytdmbgdbmfenbfaa.Fa
