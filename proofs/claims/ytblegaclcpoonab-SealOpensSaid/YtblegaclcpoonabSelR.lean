/- Rings of signatures whose entries may lie anywhere: a copy's. -/
import Derived.Test.YtblegaclcpoonabSelE
import Derived.Test.YtblegaclcpoonabSelL
import Derived.Test.YtblegaclcpoonabSelP
namespace Go.Proofs.Ytblegaclcpoonab.Seal
open Go.ChangeShapes Go.WideShapes Go.ChangeAt Go.RowKit Go.Joins Go.Maps Go.WideMaps Go.Proofs.Ytblegaclcpoonab.Cell
set_option linter.unusedVariables false
set_option linter.unusedSimpArgs false

structure Rl (lo : Nat) (W : World) (g gm : Nat) (eb : Option Nat) (L : List En) : Prop where
  x : ∃ A c, Row W g 62 #[.slice A L.length c, .map (some gm)] ∧ W.ownsRow lo 24 2 (.slice A L.length c) L.length (L.flatMap ecs) ∧ (Value.slice A L.length c).ownBlock = eb
  m : W.ownsMap (H := Unit) Try.prog 24 (plainElem Try.prog 3) gm L.length (mD L)
  nd : L.Nodup
  ok : ∀ y ∈ L, okE y
  lt : gm < g
  lo : lo ≤ gm
  n1 : eb ≠ some g
  n2 : eb ≠ some gm
theorem Rl.keep {lo : Nat} {W W' : World} {g gm : Nat} {eb : Option Nat} {L : List En} (h : Rl lo W g gm eb L) (hb : Below W.heap.size W W') : Rl lo W' g gm eb L := by
  obtain ⟨A, c, h1, h2, h3⟩ := h.x
  exact ⟨⟨A, c, h1.keep hb, Gen.own_keep h2 hb, h3⟩, map_keep h.m hb, h.nd, h.ok, h.lt, h.lo, h.n1, h.n2⟩
theorem Rl.eb_lt {lo : Nat} {W : World} {g gm : Nat} {eb : Option Nat} {L : List En} (h : Rl lo W g gm eb L) {q : Nat} (hq : W.heap.size ≤ q) : eb ≠ some q := fun e => by
  obtain ⟨A, c, hr, ho, he⟩ := h.x
  have := (ho.lt q (he.trans e)).2
  omega
theorem Rl.glt {lo : Nat} {W : World} {g gm : Nat} {eb : Option Nat} {L : List En} (h : Rl lo W g gm eb L) : g < W.heap.size := by
  obtain ⟨A, c, hr, _⟩ := h.x
  exact hr.lt
theorem Rl.same {lo : Nat} {W W' : World} {g gm : Nat} {eb : Option Nat} {L : List En} (h : Rl lo W g gm eb L) (hk : ∀ q, q = g ∨ q = gm ∨ eb = some q → W'.heap[q]? = W.heap[q]?) : Rl lo W' g gm eb L := by
  obtain ⟨A, c, h1, h2, h3⟩ := h.x
  refine ⟨⟨A, c, (hk g (.inl rfl)).trans h1, own_same h2 fun q hq => hk q (.inr (.inr (h3.symm.trans hq))), h3⟩, ?_, h.nd, h.ok, h.lt, h.lo, h.n1, h.n2⟩
  obtain ⟨es, clock, g1, g2, g3, g4⟩ := h.m
  exact ⟨es, clock, (hk gm (.inr (.inl rfl))).trans g1, g2, g3, g4⟩
theorem Rl.setC {lo : Nat} {W : World} {g gm : Nat} {eb : Option Nat} {L : List En} (h : Rl lo W g gm eb L) {q : Nat} (h0 : g ≠ q) (h1 : gm ≠ q) (h2 : eb ≠ some q) (i : Nat) (u : Value) : Rl lo (W.setCell ⟨q, i, none⟩ u) g gm eb L := by
  obtain ⟨A, c, hr, ho, he⟩ := h.x
  exact ⟨⟨A, c, (Below.heap_setCell W ⟨q, i, none⟩ u g h0).trans hr, ownsRow_setCell_other ho (fun c => h2 (he.symm.trans c)) u, he⟩, h.m.setCell (a := ⟨q, i, none⟩) h1 u, h.nd, h.ok, h.lt, h.lo, h.n1, h.n2⟩
set_option maxRecDepth 100000 in
theorem Rl.yes {lo : Nat} {W : World} {g gm : Nat} {eb : Option Nat} {L : List En} (h : Rl lo W g gm eb L) {x : En} (hx : okE x) {i : Nat} (hi : L[i]? = some x) :
    (Instr.lookup 60 (.map (some gm)) (ev x) true).run Try.prog W = .ok (.tuple #[.int .i64 (i : Int), .bool true]) W ∧
    (Instr.lookup 60 (.map (some gm)) (ev x) false).run Try.prog W = .ok (.int .i64 (i : Int)) W := by
  have w0 : (Lit.int .i64 0).wf = true := by decide
  obtain ⟨v, ps, hr, hv⟩ := h.m.look_ok keyedE Try.underlying60 (zeroI W) (plainElem_int Try.underlying3 w0) (keyE hx)
  obtain ⟨c, rfl, hc, _⟩ := plainElem_int_inv Try.underlying3 hv
  obtain ⟨c2, hr2, hc2, _⟩ := h.m.lookup_int keyedE Try.underlying60 Try.underlying3 (zeroI W) (keyE hx)
  rw [at_mD hx _ h.ok h.nd hi] at hc hc2
  rw [(has_mD hx h.ok).2 (List.mem_of_getElem? hi)] at hr
  have e1 : (i : Int) = c := by injection hc with hc; injection hc with hc; injection hc
  have e2 : (i : Int) = c2 := by injection hc2 with hc2; injection hc2
  rw [e1]
  exact ⟨hr, by rw [← e1, e2]; exact hr2⟩
set_option maxRecDepth 100000 in
theorem Rl.no {lo : Nat} {W : World} {g gm : Nat} {eb : Option Nat} {L : List En} (h : Rl lo W g gm eb L) {x : En} (hx : okE x) (hi : x ∉ L) :
    (Instr.lookup 60 (.map (some gm)) (ev x) true).run Try.prog W = .ok (.tuple #[.int .i64 0, .bool false]) W := by
  have w0 : (Lit.int .i64 0).wf = true := by decide
  obtain ⟨v, ps, hr, hv⟩ := h.m.look_ok keyedE Try.underlying60 (zeroI W) (plainElem_int Try.underlying3 w0) (keyE hx)
  obtain ⟨c, rfl, hc, _⟩ := plainElem_int_inv Try.underlying3 hv
  have : Maps.has (mD L) (kl x) = false := by
    cases e : Maps.has (mD L) (kl x)
    · rfl
    · exact absurd ((has_mD hx h.ok).1 e) hi
  rw [this] at hr
  rw [atKey_of_not_has this] at hc
  have e1 : (0 : Int) = c := by injection hc with hc; injection hc with hc; injection hc
  rw [e1]
  exact hr
set_option maxRecDepth 100000 in
set_option maxHeartbeats 8000000 in
theorem add_l {lo : Nat} {W0 W : World} {g gm : Nat} {eb : Option Nat} {L : List En} {k : Int} {s : ByteArray} (h : Rl lo W g gm eb L) (hx : okE (k, s)) (hi : (k, s) ∉ L) (hL : L.length ≤ 1000) (hB : Below W0.heap.size W0 W) (hlo : W0.heap.size ≤ lo) :
    Calls Try.prog 34 #[.pointer (some ⟨g, 0, none⟩), .agg #[.int .i64 k, .string s]] W fun e w' => e = .returned (.tuple #[]) ∧ ∃ eb', Rl lo w' g gm eb' (L ++ [(k, s)]) ∧ (eb' = eb ∨ ∃ b, eb' = some b ∧ W.heap.size ≤ b) ∧ Below W0.heap.size W0 w' ∧ W.heap.size ≤ w'.heap.size ∧ ∀ q, q < W.heap.size → q ≠ g → q ≠ gm → eb ≠ some q → w'.heap[q]? = W.heap[q]? := by
  obtain ⟨i0, hi0, hz0, hz1, hz2⟩ := info_parts' infoE
  have hb1 : Below W.heap.size W (W.alloc (.cells #[.int .i64 k, .string s] 24)) := Gen.b_alloc (Below.refl _ _)
  have h1 := h.keep hb1
  obtain ⟨A, c, hr0, ho0, heb⟩ := h.x
  have hr := hr0.keep hb1
  have ho := Gen.own_keep ho0 hb1
  have hgp := hr0.lt
  have hlm := h.lo
  have hgm : W0.heap.size ≤ gm := Nat.le_trans hlo hlm
  have hmp := h.m.lt
  have hbx : Row (W.alloc (.cells #[.int .i64 k, .string s] 24)) W.heap.size 24 #[.int .i64 k, .string s] := Row.new _ _ _
  obtain ⟨w1, hrun, hm1, hg1⟩ := (h1.m.drew).update keyedE Try.underlying60 (by simp only [maxLen]; omega) (keyE hx) (plainElem_int (a := (L.length : Int)) Try.underlying3 (by simp [Lit.wf, IntKind.min, IntKind.max, IntKind.signed, IntKind.bits]; omega))
  simp only [ev] at hrun
  have c0 := hr.cell 0
  have c1 := hr.cell 1
  go_enter Try.func34, Try.ntmps34
  go_wp2
  go_region
  all_goals
    have hlg := h.lt
    have hgs : g < (W.alloc (.cells #[.int .i64 k, .string s] 24)).heap.size := hr.lt
    have hr1 : Row w1 g 62 #[.slice A L.length c, .map (some gm)] := (hg1.block g hgs (fun e => by injection e with e; omega)).trans hr
    have hx1 : Row w1 W.heap.size 24 #[.int .i64 k, .string s] := (hg1.block W.heap.size (by simp) (fun e => by injection e with e; omega)).trans hbx
    have ho1 : w1.ownsRow lo 24 2 (.slice A L.length c) L.length (L.flatMap ecs) := World.ownsRow.kept (w := ((W.alloc (.cells #[.int .i64 k, .string s] 24)).drew)) ho hg1 (.inr (fun e => h.n2 (heb.symm.trans e)))
    have hB1 : Below W0.heap.size W0 w1 := (Gen.b_alloc hB).drew.grown hg1 (Gen.b_alloc (x := .cells #[.int .i64 k, .string s] 24) hB).drew.size (fun q e => by injection e with e; omega)
    have hs1 : W.heap.size + 1 ≤ w1.heap.size := by have := hg1.size; simp at this; omega
    have hgw : g + 1 ≤ w1.heap.size := by have := hr.lt; simp at this; omega
    clear c0 c1 hrun hr hbx h1
    have c0 := hr1.cell 0
    have b0 := hx1.cell 0
    have b1 := hx1.cell 1
    have d0 := (hr1.alloc (.cells #[.int .i64 k, .string s] 24)).cell 0
    have e0 := (hx1.alloc (.cells #[.int .i64 k, .string s] 24)).cell 0
    have e1 := (hx1.alloc (.cells #[.int .i64 k, .string s] 24)).cell 1
    have N1 := Lib.hid (show L.length + 1 ≤ maxLen from by simp only [maxLen]; omega)
    have N2 := Lib.hid (show (L.length + 1) * 24 ≤ 140737488355328 from by omega)
    go_wp2
    go_region_law (refine App.step_append_any _ (by rfl) (.tmp 18) (.tmp 20) 22 (by rfl) lo 24 i0 _ 2 24 Try.underlying22 hi0 hz0 hz1 hz2 rfl (by omega) (.slice A L.length c) L.length (L.flatMap ecs) (by simp [Act.eval, Act.put]) (Gen.own_keep ho1 (Gen.b_alloc (x := (.cells #[.int .i64 k, .string s] 24)) (Below.refl _ _)).drew) (w1.heap.size + 1) (some ⟨w1.heap.size, 0, none⟩) 1 1 (ecs (k, s)) (by simp [Act.eval, Act.put]) (App.Reads.drew (Gen.reads_blk (W := w1) (cs := #[.int .i64 k, .string s]) rfl rfl)) (by simp [ecs, Value.oneCell']) N1.out N2.out (by simp; omega) ?_; intro v7 w7 hown7 hg7 hat7; have hR7 : Row w7 g 62 #[.slice A L.length c, .map (some gm)] := (hg7.block g (by have := hr1.lt; simp; omega) (fun e => h.n1 (heb.symm.trans e.symm))).trans ((hr1.alloc (.cells #[.int .i64 k, .string s] 24)).keep (Below.refl _ _).drew); have f0 := hR7.cell 0; have f1 := hR7.frozen 0; have hm7 := World.ownsMap.kept (w := (w1.alloc (.cells #[.int .i64 k, .string s] 24)).drew) (hm1.alloc _) hg7 (fun e => h.n2 (heb.symm.trans e.symm)); have hB7 : Below W0.heap.size W0 w7 := Gen.g_below ho1 hg7 (Gen.b_alloc hB1).drew (by omega); obtain ⟨A5, c5, rfl, _⟩ := Gen.own_slice hown7)
    all_goals
      have eL : (L ++ [(k, s)]).length = L.length + 1 := by simp
      have eF : (L ++ [(k, s)]).flatMap ecs = L.flatMap ecs ++ ecs (k, s) := by simp
      have hz7 := hg7.size
      have hn7 : (Value.slice A5 (L.length + 1) c5).ownBlock ≠ some g := by
        rcases hat7 with e | e
        · rw [e, heb]; exact h.n1
        · rw [e]; intro c; injection c with c; simp only [World.size_drew, World.size_alloc] at c; omega
      have hn8 : (Value.slice A5 (L.length + 1) c5).ownBlock ≠ some gm := by
        rcases hat7 with e | e
        · rw [e, heb]; exact h.n2
        · rw [e]; intro c; injection c with c; simp only [World.size_drew, World.size_alloc] at c; omega
      have hRF : Rl lo (w7.setCell ⟨g, 0, none⟩ (.slice A5 (L.length + 1) c5)) g gm (Value.slice A5 (L.length + 1) c5).ownBlock (L ++ [(k, s)]) := by
        refine ⟨⟨A5, c5, by rw [eL]; exact hR7.set 0 _, by rw [eL, eF]; exact ownsRow_setCell_other (a := ⟨g, 0, none⟩) hown7 hn7 _, by rw [eL]⟩, by rw [mD_snoc, eL]; exact hm7.setCell (a := ⟨g, 0, none⟩) (fun e => by have : gm = g := e; omega) _, ?_, ?_, h.lt, h.lo, hn7, hn8⟩
        · rw [List.nodup_append]
          exact ⟨h.nd, by simp, fun a ha b hb => by rw [List.mem_singleton.1 hb]; exact fun e => hi (e ▸ ha)⟩
        · intro y hy
          rcases List.mem_append.1 hy with hy | hy
          · exact h.ok y hy
          · rw [List.mem_singleton.1 hy]; exact hx
      have hBF := hB7.setCell (p := ⟨g, 0, none⟩) (show W0.heap.size ≤ g by omega) (.slice A5 (L.length + 1) c5)
      have hEB : (Value.slice A5 (L.length + 1) c5).ownBlock = eb ∨ ∃ b, (Value.slice A5 (L.length + 1) c5).ownBlock = some b ∧ W.heap.size ≤ b := by
        rcases hat7 with e | e
        · exact .inl (e.trans heb)
        · exact .inr ⟨_, e, by simp only [World.size_drew, World.size_alloc]; omega⟩
      have hs7 : W.heap.size ≤ (w7.setCell ⟨g, 0, none⟩ (.slice A5 (L.length + 1) c5)).heap.size := by have := hg7.size; simp at this ⊢; omega
      have hKP : ∀ q, q < W.heap.size → q ≠ g → q ≠ gm → eb ≠ some q → (w7.setCell ⟨g, 0, none⟩ (.slice A5 (L.length + 1) c5)).heap[q]? = W.heap[q]? := fun q hq q1 q2 q3 => by
        have a1 : w1.heap[q]? = W.heap[q]? := (hg1.block q (by simp; omega) (fun e => by injection e with e; omega)).trans (Below.heap_alloc W _ q hq)
        have a2 : w7.heap[q]? = W.heap[q]? := ((hg7.block q (by simp; omega) (fun e => q3 (heb.symm.trans e.symm))).trans (Below.heap_alloc w1 _ q (by omega))).trans a1
        exact (Below.heap_setCell w7 ⟨g, 0, none⟩ _ q (by show q ≠ g; omega)).trans a2
      go_wp2
      exact bodyPost_end (v := .tuple #[]) (by simp [results, Try.results34, go_sem]) rfl ⟨rfl, _, hRF, hEB, hBF, hs7, hKP⟩
set_option maxRecDepth 100000 in
set_option maxHeartbeats 8000000 in
theorem sign_old_l {lo : Nat} {W : World} {g gm : Nat} {eb : Option Nat} {L : List En} {k : Int} {s : ByteArray} (h : Rl lo W g gm eb L) (hk : isK k = true) (hx : okE (k, s)) {i : Nat} (hi : L[i]? = some (k, s)) :
    Calls Try.prog 11 #[.pointer (some ⟨g, 0, none⟩), .int .i64 k, .string s] W fun e w' => e = .returned (sv k s i) ∧ Below W.heap.size W w' := by
  have hb : Below W.heap.size W ((W.alloc (.cells #[.int .i64 0, .string ⟨#[]⟩, .int .i64 0] 31)).alloc (.cells #[.int .i64 k, .string s] 24)) := Gen.b_alloc (Gen.b_alloc (Below.refl _ _))
  have h1 := h.keep hb
  obtain ⟨A, c, hr, _⟩ := h1.x
  have c1 := hr.cell 1
  have l0 := (h1.yes hx hi).1
  have l1 := fun (q : Nat) => ((h1.keep (Gen.dN (Below.refl _ _) q)).yes hx hi).1
  have m0 := (h1.yes hx hi).2
  have m1 := fun (q : Nat) => ((h1.keep (Gen.dN (Below.refl _ _) q)).yes hx hi).2
  simp only [ev] at l0 l1 m0 m1
  clear h1 hr
  go_enter Try.func11, Try.ntmps11
  go_wp2_with (fail)
  go_must (refine (isKey_any k _).mono ?_)
  rintro e w1 ⟨rfl, rfl⟩
  rw [hk]
  go_wp2
  go_quiet (fail)
  go_wp2
  go_region
  all_goals
    go_wp2
    exact bodyPost_ret (v := sv k s i) (by simp [results, Try.results11, go_sem, sv]) rfl ⟨rfl, Gen.b_set (Gen.b_set (Gen.b_set (Gen.dN hb _) (Nat.le_refl _)) (Nat.le_refl _)) (Nat.le_refl _)⟩
set_option maxRecDepth 100000 in
set_option maxHeartbeats 8000000 in
theorem sign_new_l {lo : Nat} {W0 W : World} {g gm : Nat} {eb : Option Nat} {L : List En} {k : Int} {s : ByteArray} (h : Rl lo W g gm eb L) (hk : isK k = true) (hx : okE (k, s)) (hi : (k, s) ∉ L) (hL : L.length ≤ 1000) (hB : Below W0.heap.size W0 W) (hlo : W0.heap.size ≤ lo) :
    Calls Try.prog 11 #[.pointer (some ⟨g, 0, none⟩), .int .i64 k, .string s] W fun e w' => e = .returned (sv k s L.length) ∧ ∃ eb', Rl lo w' g gm eb' (L ++ [(k, s)]) ∧ (eb' = eb ∨ ∃ b, eb' = some b ∧ W.heap.size ≤ b) ∧ Below W0.heap.size W0 w' ∧ W.heap.size ≤ w'.heap.size ∧ ∀ q, q < W.heap.size → q ≠ g → q ≠ gm → eb ≠ some q → w'.heap[q]? = W.heap[q]? := by
  have hb : Below W.heap.size W ((W.alloc (.cells #[.int .i64 0, .string ⟨#[]⟩, .int .i64 0] 31)).alloc (.cells #[.int .i64 k, .string s] 24)) := Gen.b_alloc (Gen.b_alloc (Below.refl _ _))
  have h1 := h.keep hb
  obtain ⟨A, c, hr, _⟩ := h1.x
  obtain ⟨A0, c0, hr0, ho0, he0⟩ := h.x
  have z1 := hr0.lt
  have z2 := h.lt
  have z3 : ∀ q, W.heap.size ≤ q → eb ≠ some q := fun q hq e => by have := (ho0.lt q (he0.trans e)).2; omega
  have r6 : Row ((W.alloc (.cells #[.int .i64 0, .string ⟨#[]⟩, .int .i64 0] 31)).alloc (.cells #[.int .i64 k, .string s] 24)) W.heap.size 31 #[.int .i64 0, .string ⟨#[]⟩, .int .i64 0] := (Row.new _ _ _).alloc _
  have r7 : Row ((W.alloc (.cells #[.int .i64 0, .string ⟨#[]⟩, .int .i64 0] 31)).alloc (.cells #[.int .i64 k, .string s] 24)) (W.heap.size + 1) 24 #[.int .i64 k, .string s] := Gen.rowAt _ _ _ (by simp)
  have c1 := hr.cell 1
  have l0 := h1.no hx hi
  have l1 := fun (q : Nat) => (h1.keep (Gen.dN (Below.refl _ _) q)).no hx hi
  simp only [ev] at l0 l1
  have H1 := Lib.hid h1
  clear h1 hr
  go_enter Try.func11, Try.ntmps11
  go_wp2_with (fail)
  go_must (refine (isKey_any k _).mono ?_)
  rintro e w1 ⟨rfl, rfl⟩
  rw [hk]
  go_wp2
  go_quiet (fail)
  go_wp2_with (fail)
  go_must (refine (add_l (W0 := W0) (H1.out.keep (Gen.dN (Below.refl _ _) _)) hx hi hL (Gen.dN (Gen.b_alloc (Gen.b_alloc hB)) _) hlo).mono ?_)
  rintro e w5 ⟨rfl, eb', hR5, hEB, hB5, hs5, hK5⟩
  have hsz : W.heap.size + 2 ≤ w5.heap.size := by have := hs5; simp only [dN_size, World.size_alloc] at this; omega
  have r6' : Row w5 W.heap.size 31 #[.int .i64 0, .string ⟨#[]⟩, .int .i64 0] := (hK5 W.heap.size (by simp only [dN_size, World.size_alloc]; omega) (by omega) (by omega) (z3 _ (Nat.le_refl _))).trans r6
  have r7' : Row w5 (W.heap.size + 1) 24 #[.int .i64 k, .string s] := (hK5 (W.heap.size + 1) (by simp only [dN_size, World.size_alloc]; omega) (by omega) (by omega) (z3 _ (by omega))).trans r7
  have hi5 : (L ++ [(k, s)])[L.length]? = some (k, s) := by simp
  obtain ⟨A5, c5, hr5, _⟩ := hR5.x
  have d1 := hr5.cell 1
  have m0 := (hR5.yes hx hi5).2
  have m1 := ((hR5.keep (Below.refl _ _).drew).yes hx hi5).2
  simp only [ev] at m0 m1
  have s0 := r7'.cell 0
  have s1 := r7'.cell 1
  have t0 := r6'.cell 0
  have t1 := r6'.cell 1
  have t2 := r6'.cell 2
  have f0 := r6'.frozen 0
  have f1 := r6'.frozen 1
  have f2 := r6'.frozen 2
  have z4 : eb' ≠ some W.heap.size := by
    rcases hEB with e | ⟨b, e, hbb⟩
    · rw [e]; exact z3 _ (Nat.le_refl _)
    · rw [e]; intro c; injection c with c; simp only [dN_size, World.size_alloc] at hbb; omega
  have rf := ((r6'.set 0 (.int .i64 k)).set 1 (.string s)).set 2 (.int .i64 (L.length : Int))
  have q0 : _ = some (Value.int .i64 k) := rf.cell 0
  have q1 : _ = some (Value.string s) := rf.cell 1
  have q2 : _ = some (Value.int .i64 (L.length : Int)) := rf.cell 2
  have hRF := (((hR5.setC (q := W.heap.size) (by omega) (by omega) z4 0 (.int .i64 k)).setC (q := W.heap.size) (by omega) (by omega) z4 1 (.string s)).setC (q := W.heap.size) (by omega) (by omega) z4 2 (.int .i64 (L.length : Int))).keep (Below.refl _ _).drew
  have hEB2 : eb' = eb ∨ ∃ b, eb' = some b ∧ W.heap.size ≤ b := by
    rcases hEB with e | ⟨b, e, hbb⟩
    · exact .inl e
    · exact .inr ⟨b, e, by simp only [dN_size, World.size_alloc] at hbb; omega⟩
  have hBF := (((hB5.setCell (p := ⟨W.heap.size, 0, none⟩) (show W0.heap.size ≤ W.heap.size from hB.size) (.int .i64 k)).setCell (p := ⟨W.heap.size, 1, none⟩) (show W0.heap.size ≤ W.heap.size from hB.size) (.string s)).setCell (p := ⟨W.heap.size, 2, none⟩) (show W0.heap.size ≤ W.heap.size from hB.size) (.int .i64 (L.length : Int))).drew
  have hKF : ∀ q, q < W.heap.size → q ≠ g → q ≠ gm → eb ≠ some q → (((w5.setCell ⟨W.heap.size, 0, none⟩ (.int .i64 k)).setCell ⟨W.heap.size, 1, none⟩ (.string s)).setCell ⟨W.heap.size, 2, none⟩ (.int .i64 (L.length : Int))).drew.heap[q]? = W.heap[q]? := fun q hq a b c => by
    have a1 : w5.heap[q]? = W.heap[q]? := (hK5 q (by simp only [dN_size, World.size_alloc]; omega) a b c).trans (hb.block q hq)
    exact ((Below.heap_setCell _ ⟨W.heap.size, 2, none⟩ _ q (by show q ≠ W.heap.size; omega)).trans ((Below.heap_setCell _ ⟨W.heap.size, 1, none⟩ _ q (by show q ≠ W.heap.size; omega)).trans (Below.heap_setCell _ ⟨W.heap.size, 0, none⟩ _ q (by show q ≠ W.heap.size; omega)))).trans a1
  have hSF : W.heap.size ≤ (((w5.setCell ⟨W.heap.size, 0, none⟩ (.int .i64 k)).setCell ⟨W.heap.size, 1, none⟩ (.string s)).setCell ⟨W.heap.size, 2, none⟩ (.int .i64 (L.length : Int))).drew.heap.size := by simp; omega
  have HF := Lib.hid (show _ ∧ _ ∧ _ ∧ _ ∧ _ from ⟨hRF, hEB2, hBF, hSF, hKF⟩)
  clear hRF hBF hSF hKF hEB2 rf
  clear l0 l1 c1 hR5 hr5
  go_wp2
  go_region
  all_goals
    go_wp2
    exact bodyPost_ret (v := sv k s L.length) (by simp [results, Try.results11, go_sem, sv, q0, q1, q2]) rfl ⟨rfl, eb', HF.out⟩
set_option maxRecDepth 100000 in
theorem all_l {lo : Nat} {W : World} {g gm : Nat} {eb : Option Nat} {L : List En} (h : Rl lo W g gm eb L) (hL : L.length ≤ 1000) :
    Calls Try.prog 12 #[.pointer (some ⟨g, 0, none⟩)] W fun e w' => ∃ A c, e = .returned (.slice A L.length c) ∧ w'.ownsRow W.heap.size 24 2 (.slice A L.length c) L.length (L.flatMap ecs) ∧ Below W.heap.size W w' := by
  obtain ⟨A, c, hr, ho, _⟩ := h.x
  have c0 := hr.cell 0
  have rr := App.Reads.of_own ho
  go_enter Try.func12, Try.ntmps12
  go_wp2_with (fail)
  go_must (refine (clone_any A L.length c L rfl rr (Nat.le_refl _) (by omega)).mono ?_)
  rintro e w1 ⟨A2, c2, rfl, ho2, hb⟩
  go_wp2
  go_ret
  exact ⟨A2, c2, rfl, ho2, hb⟩
theorem sign_l {lo : Nat} {W0 W : World} {g gm : Nat} {eb : Option Nat} {L : List En} {k : Int} {s : ByteArray} (h : Rl lo W g gm eb L) (hx : okE (k, s)) (hL : L.length ≤ 1000) (hB : Below W0.heap.size W0 W) (hlo : W0.heap.size ≤ lo) :
    Calls Try.prog 11 #[.pointer (some ⟨g, 0, none⟩), .int .i64 k, .string s] W fun e w' => ∃ m : Sg, e = .returned (.agg #[.int .i64 m.k, .string m.s, .int .i64 m.m]) ∧ Below W0.heap.size W0 w' ∧ W.heap.size ≤ w'.heap.size ∧ ∀ q, q < W.heap.size → q ≠ g → q ≠ gm → eb ≠ some q → w'.heap[q]? = W.heap[q]? := by
  cases hk : isK k
  · refine (sign_bad g hk).mono ?_
    rintro e w1 ⟨rfl, hb⟩
    exact ⟨sg0, rfl, Gen.over hb hB, hb.size, fun q hq _ _ _ => hb.block q hq⟩
  · by_cases hm : (k, s) ∈ L
    · obtain ⟨i, hi⟩ := List.getElem?_of_mem hm
      refine (sign_old_l h hk hx hi).mono ?_
      rintro e w1 ⟨rfl, hb⟩
      exact ⟨⟨k, s, i⟩, rfl, Gen.over hb hB, hb.size, fun q hq _ _ _ => hb.block q hq⟩
    · refine (sign_new_l h hk hx hm hL hB hlo).mono ?_
      rintro e w1 ⟨rfl, eb', h1, h2, h3, h4, h5⟩
      exact ⟨⟨k, s, L.length⟩, rfl, h3, h4, h5⟩
theorem Rl.far {lo : Nat} {W : World} {g gm : Nat} {eb : Option Nat} {L : List En} (h : Rl lo W g gm eb L) {q : Nat} (hq : q = g ∨ q = gm ∨ eb = some q) : lo ≤ q ∧ q < W.heap.size := by
  have h1 := h.glt
  have h2 := h.lt
  have h3 := h.lo
  rcases hq with rfl | rfl | hq
  · exact ⟨by omega, h1⟩
  · exact ⟨h3, by omega⟩
  · obtain ⟨A, c, _, ho, he⟩ := h.x
    exact ho.lt q (he.trans hq)
theorem Rg_near {W : World} {g gm : Nat} {eb : Option Nat} {L : List En} (h : Rg W g gm eb L) {q : Nat} (hq : q = g ∨ q = gm ∨ eb = some q) : q < W.heap.size := by
  obtain ⟨A, c, hr, ho, he⟩ := h.x
  have h1 := hr.lt
  have h2 := h.lt
  rcases hq with rfl | rfl | hq
  · exact h1
  · omega
  · exact (ho.lt q (he.trans hq)).2
/-- a ring that lies behind is as it was when another one, before it, is signed -/
theorem Rl.after {lo : Nat} {W0 W W' : World} {g gm g3 gm3 : Nat} {eb eb3 : Option Nat} {L L0 : List En} (h : Rl lo W g3 gm3 eb3 L) (h0 : Rg W0 g gm eb L0) (hl : W0.heap.size ≤ lo) (hk : ∀ q, q < W.heap.size → q ≠ g → q ≠ gm → eb ≠ some q → W'.heap[q]? = W.heap[q]?) : Rl lo W' g3 gm3 eb3 L :=
  h.same fun q hq => by
    obtain ⟨a, b⟩ := h.far hq
    exact hk q b (fun e => by have := Rg_near h0 (.inl e); omega) (fun e => by have := Rg_near h0 (.inr (.inl e)); omega) (fun e => by have := Rg_near h0 (.inr (.inr e)); omega)
theorem own_after {W0 W W' : World} {g gm n size B : Nat} {eb : Option Nat} {L0 : List En} {e : TypeId} {v : Value} {xs : List Value} (h : W.ownsRow B e size v n xs) (h0 : Rg W0 g gm eb L0) (hl : W0.heap.size ≤ B) (hk : ∀ q, q < W.heap.size → q ≠ g → q ≠ gm → eb ≠ some q → W'.heap[q]? = W.heap[q]?) : W'.ownsRow B e size v n xs :=
  own_same h fun q hq => by
    obtain ⟨a, b⟩ := h.lt q hq
    exact hk q b (fun e => by have := Rg_near h0 (.inl e); omega) (fun e => by have := Rg_near h0 (.inr (.inl e)); omega) (fun e => by have := Rg_near h0 (.inr (.inr e)); omega)
/-- a ring before it, and a row behind, are as they were when a copy is signed -/
theorem Rg_before {lo : Nat} {W0 W W3 W' : World} {g gm g3 gm3 : Nat} {eb eb' eb3 : Option Nat} {L L0 L2 : List En} (h : Rg W g gm eb' L2) (h3 : Rl lo W3 g3 gm3 eb3 L) (h0 : Rg W0 g gm eb L0) (hl : W0.heap.size ≤ lo) (he : eb' = eb ∨ ∃ b, eb' = some b ∧ W3.heap.size ≤ b)
    (hk : ∀ q, q < W.heap.size → q ≠ g3 → q ≠ gm3 → eb3 ≠ some q → W'.heap[q]? = W.heap[q]?) : Rg W' g gm eb' L2 := by
  have near : ∀ q, q < lo ∨ W3.heap.size ≤ q → q < W.heap.size → W'.heap[q]? = W.heap[q]? := fun q hq hlt =>
    hk q hlt (fun e => by have := h3.far (.inl e); omega) (fun e => by have := h3.far (.inr (.inl e)); omega) (fun e => by have := h3.far (.inr (.inr e)); omega)
  refine h.same fun q hq => near q ?_ (Rg_near h hq)
  rcases hq with rfl | rfl | hq
  · have := Rg_near h0 (.inl rfl); omega
  · have := Rg_near h0 (.inr (.inl rfl)); omega
  · rcases he with e | ⟨b, e, hb⟩
    · have := Rg_near h0 (.inr (.inr (e.symm.trans hq))); omega
    · rw [e] at hq; injection hq with hq; omega
theorem own_behind {lo : Nat} {W W3 W' : World} {g3 gm3 n size B : Nat} {eb3 : Option Nat} {L : List En} {e : TypeId} {v : Value} {xs : List Value} (h : W.ownsRow B e size v n xs) (h3 : Rl lo W3 g3 gm3 eb3 L) (hl : W3.heap.size ≤ B) (hk : ∀ q, q < W.heap.size → q ≠ g3 → q ≠ gm3 → eb3 ≠ some q → W'.heap[q]? = W.heap[q]?) : W'.ownsRow B e size v n xs :=
  own_same h fun q hq => by
    obtain ⟨a, b⟩ := h.lt q hq
    exact hk q b (fun e => by have := h3.far (.inl e); omega) (fun e => by have := h3.far (.inr (.inl e)); omega) (fun e => by have := h3.far (.inr (.inr e)); omega)
theorem own_empty {w : World} {B g : Nat} {t : TypeId} (hr : Row w g t #[]) (hB : B ≤ g) : w.ownsRow B t 2 (.slice (some ⟨g, 0, none⟩) 0 0) 0 [] :=
  ⟨rfl, .inr ⟨g, 0, #[], rfl, hB, hr, Nat.le_refl _, by simp [maxLen], rfl, rfl⟩⟩
theorem reads_row {W : World} {g K n : Nat} {t : TypeId} {cs : Array Value} (hr : Row W g t cs) (hK : cs.size = n * K) : App.Reads W (g + 1) K (some ⟨g, 0, none⟩) n cs.toList := by
  refine ⟨by simpa using hK, fun _ => ⟨⟨g, 0, none⟩, rfl, Nat.lt_succ_self _, fun j u hu => ?_⟩⟩
  have e : (⟨g, 0, none⟩ : Addr).add j = ⟨g, j, none⟩ := by unfold Addr.add; split <;> simp_all
  rw [e, hr.cell j]
  simpa using hu
end Go.Proofs.Ytblegaclcpoonab.Seal
