/- Package trade: the contracts of open, Clone, Add, Open. -/
import Derived.Test.YtpekedhcnijgcaaTrdM
import Derived.Deep.RegionLaw
namespace Go.Proofs.Ytpekedhcnijgcaa.Book
open Go.ChangeShapes Go.WideShapes Go.ChangeAt Go.RowKit Go.Proofs.Ytpekedhcnijgcaa.Cell
set_option linter.unusedVariables false
set_option linter.unusedSimpArgs false

theorem infoT : (Try.prog.info? 26).map (fun i => (i.zero, i.size, i.bytes)) = some (some (.agg #[.int .i64 0, .int .i64 0, .int .i64 0, .int .i64 0, .int .i64 0, .int .i64 0, .int .i64 0, .int .i64 0]), 8, 64) := by kernel_rfl
theorem tcs_one (l : List Tr) : ∀ u ∈ l.flatMap tcs, u.oneCell' = true := by
  intro u hu
  rw [List.mem_flatMap] at hu
  obtain ⟨x, _, hx⟩ := hu
  simp only [tcs, List.mem_cons, List.not_mem_nil, or_false] at hx
  rcases hx with rfl | rfl | rfl | rfl | rfl | rfl | rfl | rfl <;> rfl
theorem At8.at {w : World} {b o : Nat} {x : Tr} (h : At8 w b o x) {r : Nat} {v : Value} (hr : (tcs x)[r]? = some v) : w.cell? ⟨b, o + r, none⟩ = some v := by
  have hl := lt_of_at hr
  rw [show (tcs x).length = 8 from rfl] at hl
  match r, hl with
  | 0, _ => simp [tcs] at hr; subst hr; exact h.c0
  | 1, _ => simp [tcs] at hr; subst hr; exact h.c1
  | 2, _ => simp [tcs] at hr; subst hr; exact h.c2
  | 3, _ => simp [tcs] at hr; subst hr; exact h.c3
  | 4, _ => simp [tcs] at hr; subst hr; exact h.c4
  | 5, _ => simp [tcs] at hr; subst hr; exact h.c5
  | 6, _ => simp [tcs] at hr; subst hr; exact h.c6
  | 7, _ => simp [tcs] at hr; subst hr; exact h.c7
theorem trs_reads {w : World} {A : Option Addr} {l : List Tr} {n : Nat} (hn : l.length = n) (h : Trs w A l) : App.Reads w w.heap.size 8 A n (l.flatMap tcs) :=
  ⟨by rw [tcs_flat_len, hn], fun h0 => by
    obtain ⟨b, off, e, hc⟩ := h (by omega)
    obtain ⟨z, hz⟩ := at_ l 0 (by omega)
    have hb : b < w.heap.size := World.block_lt_of_cell? w ⟨b, off + 0 * 8, none⟩ (hc 0 z hz).c0
    refine ⟨⟨b, off, none⟩, e, hb, fun j u hu => ?_⟩
    have hj := lt_of_at hu
    rw [tcs_flat_len] at hj
    obtain ⟨x, hx⟩ := at_ l (j / 8) (by omega)
    have ht := tcs_flat_at hx (show j % 8 < 8 by omega)
    rw [show j / 8 * 8 + j % 8 = j by omega, hu] at ht
    have := (hc (j / 8) x hx).at ht.symm
    rw [Addr.add_lit]
    rwa [show off + j / 8 * 8 + j % 8 = off + j by omega] at this⟩
theorem trs_own {w : World} {base n : Nat} {e : TypeId} {A : Option Addr} {c : Nat} {l : List Tr} (hn : l.length = n) (h : w.ownsRow base e 8 (.slice A n c) n (l.flatMap tcs)) : Trs w A l := fun h0 => by
  obtain ⟨g, cap, hv, _, hlt⟩ := h.form (by omega)
  have hA : A = some ⟨g, 0, none⟩ := by injection hv
  subst hA
  refine ⟨g, 0, rfl, fun j x hx => ?_⟩
  have key : ∀ (r : Nat) (v : Value), (tcs x)[r]? = some v → r < 8 → w.cell? ⟨g, 0 + j * 8 + r, none⟩ = some v := fun r v hr h8 => by
    have := h.cells (g := g) rfl (j * 8 + r) v (by rw [tcs_flat_at hx h8]; exact hr)
    rw [Addr.add_lit] at this
    rwa [show 0 + (j * 8 + r) = 0 + j * 8 + r by omega] at this
  exact ⟨key 0 _ rfl (by omega), key 1 _ rfl (by omega), key 2 _ rfl (by omega), key 3 _ rfl (by omega), key 4 _ rfl (by omega), key 5 _ rfl (by omega), key 6 _ rfl (by omega), key 7 _ rfl (by omega)⟩
set_option maxHeartbeats 1000000 in
theorem topen_0 (k f t u m d o b day : Int) (w : World) (h : (o == -1) = false) :
    Calls Try.prog 51 #[.agg #[.int .i64 k, .int .i64 f, .int .i64 t, .int .i64 u, .int .i64 m, .int .i64 d, .int .i64 o, .int .i64 b], .int .i64 day] w fun e w' => e = .returned (.bool (opn day ⟨k, f, t, u, m, d, o, b⟩)) ∧ Below w.heap.size w w' := by
  have ho : ¬ o = -1 := by simpa using h
  have HF := Lib.hid (show opn day ⟨k, f, t, u, m, d, o, b⟩ = false from decide_eq_false (by dsimp only; omega))
  clear ho
  go_enter Try.func51, Try.ntmps51
  go_wp2
  go_ret
  exact ⟨ret_bool HF.out.symm, by go_grown⟩
set_option maxHeartbeats 1000000 in
theorem topen_1 (k f t u m d o b day : Int) (w : World) (h : o = -1) :
    Calls Try.prog 51 #[.agg #[.int .i64 k, .int .i64 f, .int .i64 t, .int .i64 u, .int .i64 m, .int .i64 d, .int .i64 o, .int .i64 b], .int .i64 day] w fun e w' => e = .returned (.bool (opn day ⟨k, f, t, u, m, d, o, b⟩)) ∧ Below w.heap.size w w' := by
  have HF := Lib.hid (show opn day ⟨k, f, t, u, m, d, o, b⟩ = decide (d ≤ day) from decide_eq_decide.2 (by dsimp only; omega))
  subst h
  go_enter Try.func51, Try.ntmps51
  go_wp2
  go_ret
  exact ⟨ret_bool HF.out.symm, by go_grown⟩
theorem topen_is {k f t u m d o b day : Int} {z : Bool} (w : World) (h : opn day ⟨k, f, t, u, m, d, o, b⟩ = z) :
    Calls Try.prog 51 #[.agg #[.int .i64 k, .int .i64 f, .int .i64 t, .int .i64 u, .int .i64 m, .int .i64 d, .int .i64 o, .int .i64 b], .int .i64 day] w fun e w' => e = .returned (.bool z) ∧ Below w.heap.size w w' := by
  rw [← h]
  by_cases h0 : o = -1
  · exact topen_1 k f t u m d o b day w h0
  · exact topen_0 k f t u m d o b day w (by rw [beq_eq_false_iff_ne]; exact h0)
/-- a copy of trades -/
def CloneT (l : List Tr) (n : Nat) (w : World) (e : Ending) (w' : World) : Prop := ∃ A c, e = .returned (.slice A n c) ∧ w'.ownsRow w.heap.size 26 8 (.slice A n c) n (l.flatMap tcs) ∧ Below w.heap.size w w'
set_option maxHeartbeats 2000000 in
theorem cloneT_any (A : Option Addr) (n cap : Nat) (l : List Tr) (w : World) (hm : l.length = n) (hc : Trs w A l) (hbig : n ≤ 10000) :
    Calls Try.prog 44 #[.slice A n cap] w (CloneT l n w) := by
  have HM := Lib.hid hm
  clear hm
  have hq := fun (W : World) => Lib.run_eql_slice_nil (P := Try.prog) W 24 26 A n cap 0 0 Try.underlying24
  cases A with
  | none =>
    obtain rfl : n = 0 := by
      by_cases h0 : 0 < n
      · obtain ⟨_, _, e, _⟩ := hc (by rw [HM.out]; exact h0)
        cases e
      · omega
    obtain rfl : l = [] := List.length_eq_zero_iff.1 HM.out
    go_enter Try.func44, Try.ntmps44
    go_wp2
    go_ret
    exact ⟨none, 0, rfl, ⟨rfl, .inl ⟨rfl, rfl⟩⟩, Below.refl _ _⟩
  | some ad =>
    obtain ⟨i0, hi0, hz0, hz1, hz2⟩ := info_parts infoT
    have r1 := trs_reads HM.out hc
    have hown : (w.alloc (.cells #[] 26)).ownsRow w.heap.size 26 8 (.slice (some ⟨w.heap.size, 0, none⟩) 0 0) 0 [] :=
      ⟨rfl, .inr ⟨w.heap.size, 0, #[], rfl, Nat.le_refl _, heap_alloc_new w _, Nat.le_refl _, by simp [maxLen], rfl, rfl⟩⟩
    go_enter Try.func44, Try.ntmps44
    go_wp2_with (first
      | (at_builtin
         go_must (refine App.wpList_append_any _ rfl (.tmp 5) (.tmp 6) _ rfl w.heap.size 26 i0 _ 8 64 Try.underlying24 hi0 hz0 hz1 hz2 rfl (by omega) _ 0 [] rfl hown w.heap.size _ n cap (l.flatMap tcs) rfl (r1.alloc (Nat.le_refl _) _) (tcs_one l) (by simp only [maxLen]; omega) (by omega) (by simp) ?_)
         intro v2 w2 hown2 hg2 hat2
         have hB2 := Gen.g_below hown hg2 (Gen.b_alloc (Below.refl _ _)) (Nat.le_refl _)
         rw [List.nil_append, Nat.zero_add] at hown2
         obtain ⟨A2, c2, rfl, _⟩ := Gen.own_slice hown2
         clear hg2 hat2)
      | fail)
    go_ret
    exact ⟨A2, c2, rfl, hown2, hB2⟩
/-- a copy of numbers -/
def CloneI (us : List Int) (n : Nat) (w : World) (e : Ending) (w' : World) : Prop := ∃ A c, e = .returned (.slice A n c) ∧ w'.ownsRow w.heap.size 3 1 (.slice A n c) n (ils us) ∧ Below w.heap.size w w'
set_option maxHeartbeats 2000000 in
theorem cloneI_any (A : Option Addr) (n cap : Nat) (us : List Int) (w : World) (hm : us.length = n) (hc : Ints w A us) (hbig : n ≤ 1000000) :
    Calls Try.prog 48 #[.slice A n cap] w (CloneI us n w) := by
  have HM := Lib.hid hm
  clear hm
  have hq := fun (W : World) => Lib.run_eql_slice_nil (P := Try.prog) W 23 3 A n cap 0 0 Try.underlying23
  cases A with
  | none =>
    obtain rfl : n = 0 := by
      by_cases h0 : 0 < n
      · obtain ⟨_, _, e, _⟩ := hc (by rw [HM.out]; exact h0)
        cases e
      · omega
    obtain rfl : us = [] := List.length_eq_zero_iff.1 HM.out
    go_enter Try.func48, Try.ntmps48
    go_wp2
    go_ret
    exact ⟨none, 0, rfl, ⟨rfl, .inl ⟨rfl, rfl⟩⟩, Below.refl _ _⟩
  | some ad =>
    obtain ⟨i0, hi0, hz0, hz1, hz2⟩ := info_parts info3
    have r1 := ints_reads HM.out hc
    have hown : (w.alloc (.cells #[] 3)).ownsRow w.heap.size 3 1 (.slice (some ⟨w.heap.size, 0, none⟩) 0 0) 0 [] :=
      ⟨rfl, .inr ⟨w.heap.size, 0, #[], rfl, Nat.le_refl _, heap_alloc_new w _, Nat.le_refl _, by simp [maxLen], rfl, rfl⟩⟩
    go_enter Try.func48, Try.ntmps48
    go_wp2_with (first
      | (at_builtin
         go_must (refine App.wpList_append_any _ rfl (.tmp 5) (.tmp 6) _ rfl w.heap.size 3 i0 _ 1 8 Try.underlying23 hi0 hz0 hz1 hz2 rfl (by omega) _ 0 [] rfl hown w.heap.size _ n cap (ils us) rfl (r1.alloc (Nat.le_refl _) _) (ils_one us) (by simp only [maxLen]; omega) (by omega) (by simp) ?_)
         intro v2 w2 hown2 hg2 hat2
         have hB2 := Gen.g_below hown hg2 (Gen.b_alloc (Below.refl _ _)) (Nat.le_refl _)
         rw [List.nil_append, Nat.zero_add] at hown2
         obtain ⟨A2, c2, rfl, _⟩ := Gen.own_slice hown2
         clear hg2 hat2)
      | fail)
    go_ret
    exact ⟨A2, c2, rfl, hown2, hB2⟩
theorem own_base {w : World} {base base' n size : Nat} {e : TypeId} {v : Value} {xs : List Value} (h : w.ownsRow base e size v n xs) (hb : base' ≤ base) : w.ownsRow base' e size v n xs := by
  obtain ⟨h1, h2 | ⟨g, cap, cur, h3, h4, h5⟩⟩ := h
  · exact ⟨h1, .inl h2⟩
  · exact ⟨h1, .inr ⟨g, cap, cur, h3, Nat.le_trans hb h4, h5⟩⟩
theorem blk_after {w3 w4 : World} {cs : Array Value} {t : TypeId} (hb4 : Below (w3.drew.alloc (.cells cs t)).heap.size (w3.drew.alloc (.cells cs t)) w4) (hs : cs.size = 8) : App.Reads w4 (w3.heap.size + 1) 8 (some ⟨w3.heap.size, 0, none⟩) 1 cs.toList :=
  (Gen.reads_blk (W := w3.drew) rfl hs).below (by have h5 := hb4; rw [World.size_alloc] at h5; exact h5)
theorem blk_after2 {w3 w4 : World} {cs : Array Value} {t : TypeId} (hb4 : Below (w3.alloc (.cells cs t)).drew.heap.size (w3.alloc (.cells cs t)).drew w4) (hs : cs.size = 8) : App.Reads w4 (w3.heap.size + 1) 8 (some ⟨w3.heap.size, 0, none⟩) 1 cs.toList :=
  (Gen.reads_blk (W := w3) rfl hs).below (w := w3.alloc (.cells cs t)) (by
    have h5 : Below (w3.heap.size + 1) (w3.alloc (.cells cs t)).drew w4 := by have h6 := hb4; rw [World.size_drew, World.size_alloc] at h6; exact h6
    exact (Below.refl _ _).drew.trans h5)
/-- what returns trades -/
def TrPost (L : List Tr) (E : Int) (w : World) (e : Ending) (w' : World) : Prop := ∃ A c, e = .returned (.tuple #[.slice A L.length c, .int .i64 E]) ∧ Below w.heap.size w w' ∧ Trs w' A L
theorem tr_no {L : List Tr} {E E' : Int} (h : ([], E') = (L, E)) {w w' : World} (hb : Below w.heap.size w w') : TrPost L E w (.returned (.tuple #[.slice none 0 0, .int .i64 E'])) w' := by
  obtain rfl : [] = L := by injection h
  obtain rfl : E' = E := by injection h
  exact ⟨none, 0, rfl, hb, Trs.nil⟩
set_option maxRecDepth 100000 in
set_option maxHeartbeats 8000000 in
theorem tadd_1 (k f t u mm d o b : Int) (A : Option Addr) (n cap : Nat) (ss : List (Int × Int)) (A' : Option Addr) (m cap' : Nat) (l : List Tr) (L : List Tr) (E : Int) (w : World) (hn : ss.length = n) (hc : Prs w A ss) (hbig : n ≤ 1000000) (hm : l.length = m) (hc' : Trs w A' l) (hbig' : m ≤ 9000)
    (hr : rtT ss l = false)  (h : adT ss l ⟨k, f, t, u, mm, d, o, b⟩ = (L, E)) :
    Calls Try.prog 14 #[.slice A n cap, .slice A' m cap', .agg #[.int .i64 k, .int .i64 f, .int .i64 t, .int .i64 u, .int .i64 mm, .int .i64 d, .int .i64 o, .int .i64 b]] w (TrPost L E w) := by
  have HN := Lib.hid hn
  have HM := Lib.hid hm
  have HR := Lib.hid hr
  unfold adT at h
  rw [if_neg (fun c => by rw [hr] at c; cases c.1)] at h
  have H := Lib.hid h
  have hBA : Below w.heap.size w (w.alloc (.cells #[.int .i64 k, .int .i64 f, .int .i64 t, .int .i64 u, .int .i64 mm, .int .i64 d, .int .i64 o, .int .i64 b] 26)) := Gen.b_alloc (Below.refl _ _)
  have HBA := Lib.hid hBA
  have HCA := Lib.hid (hc.keep hBA)
  have HCB := Lib.hid (hc'.keep hBA)
  have HBY : Hid (Row (w.alloc (.cells #[.int .i64 k, .int .i64 f, .int .i64 t, .int .i64 u, .int .i64 mm, .int .i64 d, .int .i64 o, .int .i64 b] 26)) w.heap.size 26 #[.int .i64 k, .int .i64 f, .int .i64 t, .int .i64 u, .int .i64 mm, .int .i64 d, .int .i64 o, .int .i64 b]) := Lib.hid (Row.new _ _ _)
  clear hBA
  have hB0 : Below w.heap.size w (w.alloc (.cells #[.int .i64 k, .int .i64 f, .int .i64 t, .int .i64 u, .int .i64 mm, .int .i64 d, .int .i64 o, .int .i64 b] 26)).drew := (Gen.b_alloc (Below.refl _ _)).drew
  have HC := Lib.hid (hc.keep hB0)
  have HC2 := Lib.hid (hc'.keep hB0)
  have HBX : Hid (Row (w.alloc (.cells #[.int .i64 k, .int .i64 f, .int .i64 t, .int .i64 u, .int .i64 mm, .int .i64 d, .int .i64 o, .int .i64 b] 26)).drew w.heap.size 26 #[.int .i64 k, .int .i64 f, .int .i64 t, .int .i64 u, .int .i64 mm, .int .i64 d, .int .i64 o, .int .i64 b]) := Lib.hid ((Row.new _ _ _).keep (Below.refl _ _).drew)
  have HB0 := Lib.hid hB0
  clear hn hm hr h hB0 hc hc'
  go_enter Try.func14, Try.ntmps14
  go_wp2
  have HSS : Hid (∀ W', Below (w.alloc (.cells #[.int .i64 k, .int .i64 f, .int .i64 t, .int .i64 u, .int .i64 mm, .int .i64 d, .int .i64 o, .int .i64 b] 26)).heap.size (w.alloc (.cells #[.int .i64 k, .int .i64 f, .int .i64 t, .int .i64 u, .int .i64 mm, .int .i64 d, .int .i64 o, .int .i64 b] 26)) W' → Below (w.alloc (.cells #[.int .i64 k, .int .i64 f, .int .i64 t, .int .i64 u, .int .i64 mm, .int .i64 d, .int .i64 o, .int .i64 b] 26)).heap.size (w.alloc (.cells #[.int .i64 k, .int .i64 f, .int .i64 t, .int .i64 u, .int .i64 mm, .int .i64 d, .int .i64 o, .int .i64 b] 26)) W' ∧ W'.cell? ⟨w.heap.size, 0, none⟩ = some (.int .i64 k) ∧ W'.cell? ⟨w.heap.size, 1, none⟩ = some (.int .i64 f) ∧ W'.cell? ⟨w.heap.size, 2, none⟩ = some (.int .i64 t) ∧ W'.cell? ⟨w.heap.size, 3, none⟩ = some (.int .i64 u) ∧ W'.cell? ⟨w.heap.size, 4, none⟩ = some (.int .i64 mm) ∧ W'.cell? ⟨w.heap.size, 5, none⟩ = some (.int .i64 d) ∧ W'.cell? ⟨w.heap.size, 6, none⟩ = some (.int .i64 o) ∧ W'.cell? ⟨w.heap.size, 7, none⟩ = some (.int .i64 b)) := Lib.hid (fun W' h => ⟨h, (HBY.out.keep h).cell 0, (HBY.out.keep h).cell 1, (HBY.out.keep h).cell 2, (HBY.out.keep h).cell 3, (HBY.out.keep h).cell 4, (HBY.out.keep h).cell 5, (HBY.out.keep h).cell 6, (HBY.out.keep h).cell 7⟩)
  refine wp_region_held_drew (S := fun W' => Below (w.alloc (.cells #[.int .i64 k, .int .i64 f, .int .i64 t, .int .i64 u, .int .i64 mm, .int .i64 d, .int .i64 o, .int .i64 b] 26)).heap.size (w.alloc (.cells #[.int .i64 k, .int .i64 f, .int .i64 t, .int .i64 u, .int .i64 mm, .int .i64 d, .int .i64 o, .int .i64 b] 26)) W' ∧ W'.cell? ⟨w.heap.size, 0, none⟩ = some (.int .i64 k) ∧ W'.cell? ⟨w.heap.size, 1, none⟩ = some (.int .i64 f) ∧ W'.cell? ⟨w.heap.size, 2, none⟩ = some (.int .i64 t) ∧ W'.cell? ⟨w.heap.size, 3, none⟩ = some (.int .i64 u) ∧ W'.cell? ⟨w.heap.size, 4, none⟩ = some (.int .i64 mm) ∧ W'.cell? ⟨w.heap.size, 5, none⟩ = some (.int .i64 d) ∧ W'.cell? ⟨w.heap.size, 6, none⟩ = some (.int .i64 o) ∧ W'.cell? ⟨w.heap.size, 7, none⟩ = some (.int .i64 b)) (by kernel_rfl) (HSS.out _ (Below.refl _ _).drew) (fun hHeld => ?_)
  refine wpAnyH_take (i := 0) (v := .slice A n cap) rfl (by kernel_rfl) (by kernel_rfl) (by kernel_rfl) (fun _ _ _ h => h) (Or.inl ⟨by rfl, (by intro w hSw; (try dsimp only at hSw); go_simp <;> first | with_reducible rfl | omega)⟩) (by assumption) ?_
  (try simp only [Act.put, List.getElem_toArray, List.getElem_cons_succ, List.getElem_cons_zero, List.setIfInBounds_toArray, List.set_cons_zero, List.set_cons_succ])
  refine wpAnyH_take (i := 1) (v := .slice A' m cap') rfl (by kernel_rfl) (by kernel_rfl) (by kernel_rfl) (fun _ _ _ h => h) (Or.inl ⟨by rfl, (by intro w hSw; (try dsimp only at hSw); go_simp <;> first | with_reducible rfl | omega)⟩) (by assumption) ?_
  (try simp only [Act.put, List.getElem_toArray, List.getElem_cons_succ, List.getElem_cons_zero, List.setIfInBounds_toArray, List.set_cons_zero, List.set_cons_succ])
  refine wpAnyH_ready (rs := [2]) (by kernel_rfl) (by simp) ?_
  refine AllReadyH.cons rfl (fun K hK => ?_) AllReadyH.nil
  rw [if_pos (by rfl)]
  (try simp only [Act.put, List.getElem_toArray, List.getElem_cons_succ, List.getElem_cons_zero, List.setIfInBounds_toArray, List.set_cons_zero, List.set_cons_succ])
  go_simp
  go_at_call 20
  refine (tRight_is _ HN.out (HCA.out.keep hHeld.1) hbig HM.out (HCB.out.keep hHeld.1) (by omega) HR.out).mono ?_
  rintro e w1 ⟨rfl, hb1⟩
  refine hK.out _ _ (HSS.out _ (Gen.over hb1 hHeld.1)) (fun hH2 => ?_)
  clear hK K
  (try simp only [Act.put, List.getElem_toArray, List.getElem_cons_succ, List.getElem_cons_zero, List.setIfInBounds_toArray, List.set_cons_zero, List.set_cons_succ])
  refine wpAnyH_take (i := 3) (v := .bool true) rfl (by kernel_rfl) (by kernel_rfl) (by kernel_rfl) (fun _ _ _ h => h) (Or.inl ⟨by rfl, (by intro w hSw; (try dsimp only at hSw); go_simp <;> first | with_reducible rfl | omega)⟩) (by assumption) ?_
  (try simp only [Act.put, List.getElem_toArray, List.getElem_cons_succ, List.getElem_cons_zero, List.setIfInBounds_toArray, List.set_cons_zero, List.set_cons_succ])
  refine wpAnyH_take (i := 4) (v := .bool true) rfl (by kernel_rfl) (by kernel_rfl) (by kernel_rfl) (fun _ _ _ h => h) (Or.inl ⟨by rfl, (by intro w hSw; (try dsimp only at hSw); go_simp <;> first | with_reducible rfl | omega)⟩) (by assumption) ?_
  (try simp only [Act.put, List.getElem_toArray, List.getElem_cons_succ, List.getElem_cons_zero, List.setIfInBounds_toArray, List.set_cons_zero, List.set_cons_succ])
  refine wpAnyH_take (i := 5) (v := undef) rfl (by kernel_rfl) (by kernel_rfl) (by kernel_rfl) (fun _ _ _ h => h) (Or.inr ⟨by rfl, rfl⟩) (by assumption) ?_
  (try simp only [Act.put, List.getElem_toArray, List.getElem_cons_succ, List.getElem_cons_zero, List.setIfInBounds_toArray, List.set_cons_zero, List.set_cons_succ])
  refine wpAnyH_take (i := 6) (v := undef) rfl (by kernel_rfl) (by kernel_rfl) (by kernel_rfl) (fun _ _ _ h => h) (Or.inr ⟨by rfl, rfl⟩) (by assumption) ?_
  (try simp only [Act.put, List.getElem_toArray, List.getElem_cons_succ, List.getElem_cons_zero, List.setIfInBounds_toArray, List.set_cons_zero, List.set_cons_succ])
  refine wpAnyH_take (i := 7) (v := undef) rfl (by kernel_rfl) (by kernel_rfl) (by kernel_rfl) (fun _ _ _ h => h) (Or.inr ⟨by rfl, rfl⟩) (by assumption) ?_
  (try simp only [Act.put, List.getElem_toArray, List.getElem_cons_succ, List.getElem_cons_zero, List.setIfInBounds_toArray, List.set_cons_zero, List.set_cons_succ])
  refine wpAnyH_take (i := 8) (v := undef) rfl (by kernel_rfl) (by kernel_rfl) (by kernel_rfl) (fun _ _ _ h => h) (Or.inr ⟨by rfl, rfl⟩) (by assumption) ?_
  (try simp only [Act.put, List.getElem_toArray, List.getElem_cons_succ, List.getElem_cons_zero, List.setIfInBounds_toArray, List.set_cons_zero, List.set_cons_succ])
  refine wpAnyH_take (i := 9) (v := undef) rfl (by kernel_rfl) (by kernel_rfl) (by kernel_rfl) (fun _ _ _ h => h) (Or.inr ⟨by rfl, rfl⟩) (by assumption) ?_
  (try simp only [Act.put, List.getElem_toArray, List.getElem_cons_succ, List.getElem_cons_zero, List.setIfInBounds_toArray, List.set_cons_zero, List.set_cons_succ])
  refine wpAnyH_take (i := 10) (v := .bool true) rfl (by kernel_rfl) (by kernel_rfl) (by kernel_rfl) (fun _ _ _ h => h) (Or.inl ⟨by rfl, (by intro w hSw; (try dsimp only at hSw); go_simp <;> first | with_reducible rfl | omega)⟩) (by assumption) ?_
  (try simp only [Act.put, List.getElem_toArray, List.getElem_cons_succ, List.getElem_cons_zero, List.setIfInBounds_toArray, List.set_cons_zero, List.set_cons_succ])
  refine wpAnyH_take (i := 11) (v := .bool true) rfl (by kernel_rfl) (by kernel_rfl) (by kernel_rfl) (fun _ _ _ h => h) (Or.inl ⟨by rfl, (by intro w hSw; (try dsimp only at hSw); go_simp <;> first | with_reducible rfl | omega)⟩) (by assumption) ?_
  (try simp only [Act.put, List.getElem_toArray, List.getElem_cons_succ, List.getElem_cons_zero, List.setIfInBounds_toArray, List.set_cons_zero, List.set_cons_succ])
  refine wpAnyH_take (i := 12) (v := undef) rfl (by kernel_rfl) (by kernel_rfl) (by kernel_rfl) (fun _ _ _ h => h) (Or.inr ⟨by rfl, rfl⟩) (by assumption) ?_
  (try simp only [Act.put, List.getElem_toArray, List.getElem_cons_succ, List.getElem_cons_zero, List.setIfInBounds_toArray, List.set_cons_zero, List.set_cons_succ])
  refine wpAnyH_take (i := 13) (v := undef) rfl (by kernel_rfl) (by kernel_rfl) (by kernel_rfl) (fun _ _ _ h => h) (Or.inr ⟨by rfl, rfl⟩) (by assumption) ?_
  (try simp only [Act.put, List.getElem_toArray, List.getElem_cons_succ, List.getElem_cons_zero, List.setIfInBounds_toArray, List.set_cons_zero, List.set_cons_succ])
  refine wpAnyH_take (i := 14) (v := undef) rfl (by kernel_rfl) (by kernel_rfl) (by kernel_rfl) (fun _ _ _ h => h) (Or.inr ⟨by rfl, rfl⟩) (by assumption) ?_
  (try simp only [Act.put, List.getElem_toArray, List.getElem_cons_succ, List.getElem_cons_zero, List.setIfInBounds_toArray, List.set_cons_zero, List.set_cons_succ])
  refine wpAnyH_take (i := 15) (v := .bool true) rfl (by kernel_rfl) (by kernel_rfl) (by kernel_rfl) (fun _ _ _ h => h) (Or.inl ⟨by rfl, (by intro w hSw; (try dsimp only at hSw); go_simp <;> first | with_reducible rfl | omega)⟩) (by assumption) ?_
  (try simp only [Act.put, List.getElem_toArray, List.getElem_cons_succ, List.getElem_cons_zero, List.setIfInBounds_toArray, List.set_cons_zero, List.set_cons_succ])
  refine wpAnyH_done (by kernel_rfl) ?_ _
  have hBZ := Gen.over hH2.1 HBA.out
  go_wp2
  go_ret2
  exact tr_no H.out hBZ
set_option maxRecDepth 100000 in
set_option maxHeartbeats 8000000 in
theorem tadd_2 (k f t u mm d o b : Int) (A : Option Addr) (n cap : Nat) (ss : List (Int × Int)) (A' : Option Addr) (m cap' : Nat) (l : List Tr) (L : List Tr) (E : Int) (w : World) (hn : ss.length = n) (hc : Prs w A ss) (hbig : n ≤ 1000000) (hm : l.length = m) (hc' : Trs w A' l) (hbig' : m ≤ 9000)
    (hr : rtT ss l = true) (ho : okT ss ⟨k, f, t, u, mm, d, o, b⟩ = false) (h : adT ss l ⟨k, f, t, u, mm, d, o, b⟩ = (L, E)) :
    Calls Try.prog 14 #[.slice A n cap, .slice A' m cap', .agg #[.int .i64 k, .int .i64 f, .int .i64 t, .int .i64 u, .int .i64 mm, .int .i64 d, .int .i64 o, .int .i64 b]] w (TrPost L E w) := by
  have HN := Lib.hid hn
  have HM := Lib.hid hm
  have HR := Lib.hid hr
  have HG := Lib.hid (rtT_in hr).1
  have hle := (rg_ok HG.out).1
  rw [hn] at hle
  unfold adT at h
  rw [if_neg (fun c => by rw [ho] at c; cases c.2.1)] at h
  have HOK := Lib.hid (show okB (lvs ss n n) ⟨k, f, t, u, mm, d, o, b⟩ = false from by rw [← hn, okB_lvs]; exact ho)
  have H := Lib.hid h
  have hBA : Below w.heap.size w (w.alloc (.cells #[.int .i64 k, .int .i64 f, .int .i64 t, .int .i64 u, .int .i64 mm, .int .i64 d, .int .i64 o, .int .i64 b] 26)) := Gen.b_alloc (Below.refl _ _)
  have HBA := Lib.hid hBA
  have HCA := Lib.hid (hc.keep hBA)
  have HCB := Lib.hid (hc'.keep hBA)
  have HBY : Hid (Row (w.alloc (.cells #[.int .i64 k, .int .i64 f, .int .i64 t, .int .i64 u, .int .i64 mm, .int .i64 d, .int .i64 o, .int .i64 b] 26)) w.heap.size 26 #[.int .i64 k, .int .i64 f, .int .i64 t, .int .i64 u, .int .i64 mm, .int .i64 d, .int .i64 o, .int .i64 b]) := Lib.hid (Row.new _ _ _)
  clear hBA
  have hB0 : Below w.heap.size w (w.alloc (.cells #[.int .i64 k, .int .i64 f, .int .i64 t, .int .i64 u, .int .i64 mm, .int .i64 d, .int .i64 o, .int .i64 b] 26)).drew := (Gen.b_alloc (Below.refl _ _)).drew
  have HC := Lib.hid (hc.keep hB0)
  have HC2 := Lib.hid (hc'.keep hB0)
  have HBX : Hid (Row (w.alloc (.cells #[.int .i64 k, .int .i64 f, .int .i64 t, .int .i64 u, .int .i64 mm, .int .i64 d, .int .i64 o, .int .i64 b] 26)).drew w.heap.size 26 #[.int .i64 k, .int .i64 f, .int .i64 t, .int .i64 u, .int .i64 mm, .int .i64 d, .int .i64 o, .int .i64 b]) := Lib.hid ((Row.new _ _ _).keep (Below.refl _ _).drew)
  have HB0 := Lib.hid hB0
  clear hn hm hr h hB0 hc hc'
  go_enter Try.func14, Try.ntmps14
  go_wp2
  have HSS : Hid (∀ W', Below (w.alloc (.cells #[.int .i64 k, .int .i64 f, .int .i64 t, .int .i64 u, .int .i64 mm, .int .i64 d, .int .i64 o, .int .i64 b] 26)).heap.size (w.alloc (.cells #[.int .i64 k, .int .i64 f, .int .i64 t, .int .i64 u, .int .i64 mm, .int .i64 d, .int .i64 o, .int .i64 b] 26)) W' → Below (w.alloc (.cells #[.int .i64 k, .int .i64 f, .int .i64 t, .int .i64 u, .int .i64 mm, .int .i64 d, .int .i64 o, .int .i64 b] 26)).heap.size (w.alloc (.cells #[.int .i64 k, .int .i64 f, .int .i64 t, .int .i64 u, .int .i64 mm, .int .i64 d, .int .i64 o, .int .i64 b] 26)) W' ∧ W'.cell? ⟨w.heap.size, 0, none⟩ = some (.int .i64 k) ∧ W'.cell? ⟨w.heap.size, 1, none⟩ = some (.int .i64 f) ∧ W'.cell? ⟨w.heap.size, 2, none⟩ = some (.int .i64 t) ∧ W'.cell? ⟨w.heap.size, 3, none⟩ = some (.int .i64 u) ∧ W'.cell? ⟨w.heap.size, 4, none⟩ = some (.int .i64 mm) ∧ W'.cell? ⟨w.heap.size, 5, none⟩ = some (.int .i64 d) ∧ W'.cell? ⟨w.heap.size, 6, none⟩ = some (.int .i64 o) ∧ W'.cell? ⟨w.heap.size, 7, none⟩ = some (.int .i64 b)) := Lib.hid (fun W' h => ⟨h, (HBY.out.keep h).cell 0, (HBY.out.keep h).cell 1, (HBY.out.keep h).cell 2, (HBY.out.keep h).cell 3, (HBY.out.keep h).cell 4, (HBY.out.keep h).cell 5, (HBY.out.keep h).cell 6, (HBY.out.keep h).cell 7⟩)
  refine wp_region_held_drew (S := fun W' => Below (w.alloc (.cells #[.int .i64 k, .int .i64 f, .int .i64 t, .int .i64 u, .int .i64 mm, .int .i64 d, .int .i64 o, .int .i64 b] 26)).heap.size (w.alloc (.cells #[.int .i64 k, .int .i64 f, .int .i64 t, .int .i64 u, .int .i64 mm, .int .i64 d, .int .i64 o, .int .i64 b] 26)) W' ∧ W'.cell? ⟨w.heap.size, 0, none⟩ = some (.int .i64 k) ∧ W'.cell? ⟨w.heap.size, 1, none⟩ = some (.int .i64 f) ∧ W'.cell? ⟨w.heap.size, 2, none⟩ = some (.int .i64 t) ∧ W'.cell? ⟨w.heap.size, 3, none⟩ = some (.int .i64 u) ∧ W'.cell? ⟨w.heap.size, 4, none⟩ = some (.int .i64 mm) ∧ W'.cell? ⟨w.heap.size, 5, none⟩ = some (.int .i64 d) ∧ W'.cell? ⟨w.heap.size, 6, none⟩ = some (.int .i64 o) ∧ W'.cell? ⟨w.heap.size, 7, none⟩ = some (.int .i64 b)) (by kernel_rfl) (HSS.out _ (Below.refl _ _).drew) (fun hHeld => ?_)
  refine wpAnyH_take (i := 0) (v := .slice A n cap) rfl (by kernel_rfl) (by kernel_rfl) (by kernel_rfl) (fun _ _ _ h => h) (Or.inl ⟨by rfl, (by intro w hSw; (try dsimp only at hSw); go_simp <;> first | with_reducible rfl | omega)⟩) (by assumption) ?_
  (try simp only [Act.put, List.getElem_toArray, List.getElem_cons_succ, List.getElem_cons_zero, List.setIfInBounds_toArray, List.set_cons_zero, List.set_cons_succ])
  refine wpAnyH_take (i := 1) (v := .slice A' m cap') rfl (by kernel_rfl) (by kernel_rfl) (by kernel_rfl) (fun _ _ _ h => h) (Or.inl ⟨by rfl, (by intro w hSw; (try dsimp only at hSw); go_simp <;> first | with_reducible rfl | omega)⟩) (by assumption) ?_
  (try simp only [Act.put, List.getElem_toArray, List.getElem_cons_succ, List.getElem_cons_zero, List.setIfInBounds_toArray, List.set_cons_zero, List.set_cons_succ])
  refine wpAnyH_ready (rs := [2]) (by kernel_rfl) (by simp) ?_
  refine AllReadyH.cons rfl (fun K hK => ?_) AllReadyH.nil
  rw [if_pos (by rfl)]
  (try simp only [Act.put, List.getElem_toArray, List.getElem_cons_succ, List.getElem_cons_zero, List.setIfInBounds_toArray, List.set_cons_zero, List.set_cons_succ])
  go_simp
  go_at_call 20
  refine (tRight_is _ HN.out (HCA.out.keep hHeld.1) hbig HM.out (HCB.out.keep hHeld.1) (by omega) HR.out).mono ?_
  rintro e w1 ⟨rfl, hb1⟩
  refine hK.out _ _ (HSS.out _ (Gen.over hb1 hHeld.1)) (fun hH2 => ?_)
  clear hK K
  (try simp only [Act.put, List.getElem_toArray, List.getElem_cons_succ, List.getElem_cons_zero, List.setIfInBounds_toArray, List.set_cons_zero, List.set_cons_succ])
  refine wpAnyH_take (i := 3) (v := .bool false) rfl (by kernel_rfl) (by kernel_rfl) (by kernel_rfl) (fun _ _ _ h => h) (Or.inl ⟨by rfl, (by intro w hSw; (try dsimp only at hSw); go_simp <;> first | with_reducible rfl | omega)⟩) (by assumption) ?_
  (try simp only [Act.put, List.getElem_toArray, List.getElem_cons_succ, List.getElem_cons_zero, List.setIfInBounds_toArray, List.set_cons_zero, List.set_cons_succ])
  refine wpAnyH_take (i := 4) (v := .bool false) rfl (by kernel_rfl) (by kernel_rfl) (by kernel_rfl) (fun _ _ _ h => h) (Or.inl ⟨by rfl, (by intro w hSw; (try dsimp only at hSw); go_simp <;> first | with_reducible rfl | omega)⟩) (by assumption) ?_
  (try simp only [Act.put, List.getElem_toArray, List.getElem_cons_succ, List.getElem_cons_zero, List.setIfInBounds_toArray, List.set_cons_zero, List.set_cons_succ])
  refine wpAnyH_take (i := 5) (v := .slice A n cap) rfl (by kernel_rfl) (by kernel_rfl) (by kernel_rfl) (fun _ _ _ h => h) (Or.inl ⟨by rfl, (by intro w hSw; (try dsimp only at hSw); go_simp <;> first | with_reducible rfl | omega)⟩) (by assumption) ?_
  (try simp only [Act.put, List.getElem_toArray, List.getElem_cons_succ, List.getElem_cons_zero, List.setIfInBounds_toArray, List.set_cons_zero, List.set_cons_succ])
  refine wpAnyH_take (i := 7) (v := .agg #[.int .i64 k, .int .i64 f, .int .i64 t, .int .i64 u, .int .i64 mm, .int .i64 d, .int .i64 o, .int .i64 b]) rfl (by kernel_rfl) (by kernel_rfl) (by kernel_rfl) (fun _ _ _ h => h) (Or.inl ⟨by rfl, (by intro w hSw; (try dsimp only at hSw); go_simp <;> first | with_reducible rfl | omega)⟩) (by assumption) ?_
  (try simp only [Act.put, List.getElem_toArray, List.getElem_cons_succ, List.getElem_cons_zero, List.setIfInBounds_toArray, List.set_cons_zero, List.set_cons_succ])
  refine wpAnyH_ready (rs := [6]) (by kernel_rfl) (by simp) ?_
  refine AllReadyH.cons rfl (fun K hK => ?_) AllReadyH.nil
  rw [if_pos (by rfl)]
  (try simp only [Act.put, List.getElem_toArray, List.getElem_cons_succ, List.getElem_cons_zero, List.setIfInBounds_toArray, List.set_cons_zero, List.set_cons_succ])
  go_simp
  go_at_call 43
  refine (leaves_any _ _ _ ss _ HN.out (HCA.out.keep hH2.1) HG.out).mono ?_
  rintro e w2 ⟨g, rfl, hbo, hb2⟩
  refine hK.out _ _ (HSS.out _ (Gen.over hb2 hH2.1)) (fun hH6 => ?_)
  clear hK K
  (try simp only [Act.put, List.getElem_toArray, List.getElem_cons_succ, List.getElem_cons_zero, List.setIfInBounds_toArray, List.set_cons_zero, List.set_cons_succ])
  refine wpAnyH_ready (rs := [8]) (by kernel_rfl) (by simp) ?_
  refine AllReadyH.cons rfl (fun K hK => ?_) AllReadyH.nil
  rw [if_pos (by rfl)]
  (try simp only [Act.put, List.getElem_toArray, List.getElem_cons_succ, List.getElem_cons_zero, List.setIfInBounds_toArray, List.set_cons_zero, List.set_cons_succ])
  go_simp
  go_at_call 42
  refine (tright_any ⟨k, f, t, u, mm, d, o, b⟩ _ n n (lvs ss n n) _ (lvs_length _ _ _) hbo).mono ?_
  rintro e w3 ⟨rfl, hb3⟩
  rw [HOK.out]
  refine hK.out _ _ (HSS.out _ (Gen.over hb3 hH6.1)) (fun hH8 => ?_)
  clear hK K
  (try simp only [Act.put, List.getElem_toArray, List.getElem_cons_succ, List.getElem_cons_zero, List.setIfInBounds_toArray, List.set_cons_zero, List.set_cons_succ])
  refine wpAnyH_take (i := 9) (v := .bool true) rfl (by kernel_rfl) (by kernel_rfl) (by kernel_rfl) (fun _ _ _ h => h) (Or.inl ⟨by rfl, (by intro w hSw; (try dsimp only at hSw); go_simp <;> first | with_reducible rfl | omega)⟩) (by assumption) ?_
  (try simp only [Act.put, List.getElem_toArray, List.getElem_cons_succ, List.getElem_cons_zero, List.setIfInBounds_toArray, List.set_cons_zero, List.set_cons_succ])
  refine wpAnyH_take (i := 10) (v := .bool true) rfl (by kernel_rfl) (by kernel_rfl) (by kernel_rfl) (fun _ _ _ h => h) (Or.inl ⟨by rfl, (by intro w hSw; (try dsimp only at hSw); go_simp <;> first | with_reducible rfl | omega)⟩) (by assumption) ?_
  (try simp only [Act.put, List.getElem_toArray, List.getElem_cons_succ, List.getElem_cons_zero, List.setIfInBounds_toArray, List.set_cons_zero, List.set_cons_succ])
  refine wpAnyH_take (i := 11) (v := .bool true) rfl (by kernel_rfl) (by kernel_rfl) (by kernel_rfl) (fun _ _ _ h => h) (Or.inl ⟨by rfl, (by intro w hSw; (try dsimp only at hSw); go_simp <;> first | with_reducible rfl | omega)⟩) (by assumption) ?_
  (try simp only [Act.put, List.getElem_toArray, List.getElem_cons_succ, List.getElem_cons_zero, List.setIfInBounds_toArray, List.set_cons_zero, List.set_cons_succ])
  refine wpAnyH_take (i := 12) (v := undef) rfl (by kernel_rfl) (by kernel_rfl) (by kernel_rfl) (fun _ _ _ h => h) (Or.inr ⟨by rfl, rfl⟩) (by assumption) ?_
  (try simp only [Act.put, List.getElem_toArray, List.getElem_cons_succ, List.getElem_cons_zero, List.setIfInBounds_toArray, List.set_cons_zero, List.set_cons_succ])
  refine wpAnyH_take (i := 13) (v := undef) rfl (by kernel_rfl) (by kernel_rfl) (by kernel_rfl) (fun _ _ _ h => h) (Or.inr ⟨by rfl, rfl⟩) (by assumption) ?_
  (try simp only [Act.put, List.getElem_toArray, List.getElem_cons_succ, List.getElem_cons_zero, List.setIfInBounds_toArray, List.set_cons_zero, List.set_cons_succ])
  refine wpAnyH_take (i := 14) (v := undef) rfl (by kernel_rfl) (by kernel_rfl) (by kernel_rfl) (fun _ _ _ h => h) (Or.inr ⟨by rfl, rfl⟩) (by assumption) ?_
  (try simp only [Act.put, List.getElem_toArray, List.getElem_cons_succ, List.getElem_cons_zero, List.setIfInBounds_toArray, List.set_cons_zero, List.set_cons_succ])
  refine wpAnyH_take (i := 15) (v := .bool true) rfl (by kernel_rfl) (by kernel_rfl) (by kernel_rfl) (fun _ _ _ h => h) (Or.inl ⟨by rfl, (by intro w hSw; (try dsimp only at hSw); go_simp <;> first | with_reducible rfl | omega)⟩) (by assumption) ?_
  (try simp only [Act.put, List.getElem_toArray, List.getElem_cons_succ, List.getElem_cons_zero, List.setIfInBounds_toArray, List.set_cons_zero, List.set_cons_succ])
  refine wpAnyH_done (by kernel_rfl) ?_ _
  have hBZ := Gen.over hH8.1 HBA.out
  go_wp2
  go_ret2
  exact tr_no H.out hBZ
set_option maxRecDepth 100000 in
set_option maxHeartbeats 8000000 in
theorem tadd_3 (k f t u mm d o b : Int) (A : Option Addr) (n cap : Nat) (ss : List (Int × Int)) (A' : Option Addr) (m cap' : Nat) (l : List Tr) (L : List Tr) (E : Int) (w : World) (hn : ss.length = n) (hc : Prs w A ss) (hbig : n ≤ 1000000) (hm : l.length = m) (hc' : Trs w A' l) (hbig' : m ≤ 9000)
    (hr : rtT ss l = true) (ho : okT ss ⟨k, f, t, u, mm, d, o, b⟩ = true) (hd : (o != -1) = true) (h : adT ss l ⟨k, f, t, u, mm, d, o, b⟩ = (L, E)) :
    Calls Try.prog 14 #[.slice A n cap, .slice A' m cap', .agg #[.int .i64 k, .int .i64 f, .int .i64 t, .int .i64 u, .int .i64 mm, .int .i64 d, .int .i64 o, .int .i64 b]] w (TrPost L E w) := by
  have HN := Lib.hid hn
  have HM := Lib.hid hm
  have HR := Lib.hid hr
  have HG := Lib.hid (rtT_in hr).1
  have hle := (rg_ok HG.out).1
  rw [hn] at hle
  unfold adT at h
  rw [if_neg (fun c => by have := c.2.2; dsimp only at this; rw [this] at hd; cases hd)] at h
  have HOK := Lib.hid (show okB (lvs ss n n) ⟨k, f, t, u, mm, d, o, b⟩ = true from by rw [← hn, okB_lvs]; exact ho)
  have H := Lib.hid h
  have hB0 : Below w.heap.size w (w.alloc (.cells #[.int .i64 k, .int .i64 f, .int .i64 t, .int .i64 u, .int .i64 mm, .int .i64 d, .int .i64 o, .int .i64 b] 26)).drew := (Gen.b_alloc (Below.refl _ _)).drew
  have HC := Lib.hid (hc.keep hB0)
  have HC2 := Lib.hid (hc'.keep hB0)
  have HBX : Hid (Row (w.alloc (.cells #[.int .i64 k, .int .i64 f, .int .i64 t, .int .i64 u, .int .i64 mm, .int .i64 d, .int .i64 o, .int .i64 b] 26)).drew w.heap.size 26 #[.int .i64 k, .int .i64 f, .int .i64 t, .int .i64 u, .int .i64 mm, .int .i64 d, .int .i64 o, .int .i64 b]) := Lib.hid ((Row.new _ _ _).keep (Below.refl _ _).drew)
  have HB0 := Lib.hid hB0
  clear hn hm hr h hB0 hc hc'
  go_enter Try.func14, Try.ntmps14
  go_wp2
  go_region_law (first
    | (go_simp; go_at_call 20; refine (tRight_is _ HN.out HC.out hbig HM.out HC2.out (by omega) HR.out).mono ?_; rintro e w1 ⟨rfl, hb1⟩; have hB1 := Gen.over hb1 HB0.out; have hx1 := HBX.out.keep hb1; have HC1 := Lib.hid (HC.out.keep hb1); have HD1 := Lib.hid (HC2.out.keep hb1); have d0 := hx1.cell 0; have d1 := hx1.cell 1; have d2 := hx1.cell 2; have d3 := hx1.cell 3; have d4 := hx1.cell 4; have d5 := hx1.cell 5; have d6 := hx1.cell 6; have d7 := hx1.cell 7)
    | (go_simp; go_at_call 43; refine (leaves_any _ _ _ ss _ HN.out HC1.out HG.out).mono ?_; rintro e w2 ⟨g, rfl, hbo, hb2⟩; have hB2 := Gen.over hb2 hB1; have hx2 := hx1.keep hb2; have HD2 := Lib.hid (HD1.out.keep hb2); clear d0 d1 d2 d3 d4 d5 d6 d7; have d0 := hx2.cell 0; have d1 := hx2.cell 1; have d2 := hx2.cell 2; have d3 := hx2.cell 3; have d4 := hx2.cell 4; have d5 := hx2.cell 5; have d6 := hx2.cell 6; have d7 := hx2.cell 7)
    | (go_simp; go_at_call 42; refine (tright_any ⟨k, f, t, u, mm, d, o, b⟩ _ n n (lvs ss n n) _ (lvs_length _ _ _) hbo).mono ?_; rintro e w3 ⟨rfl, hb3⟩; rw [HOK.out]; have hB3 := Gen.over hb3 hB2; have hx3 := hx2.keep hb3; have HD3 := Lib.hid (HD2.out.keep hb3); clear d0 d1 d2 d3 d4 d5 d6 d7; have d0 := hx3.cell 0; have d1 := hx3.cell 1; have d2 := hx3.cell 2; have d3 := hx3.cell 3; have d4 := hx3.cell 4; have d5 := hx3.cell 5; have d6 := hx3.cell 6; have d7 := hx3.cell 7))
  all_goals
    go_wp2
    go_ret2
    exact tr_no H.out hB3
set_option maxRecDepth 100000 in
set_option maxHeartbeats 8000000 in
theorem tadd_4 (k f t u mm d o b : Int) (A : Option Addr) (n cap : Nat) (ss : List (Int × Int)) (A' : Option Addr) (m cap' : Nat) (l : List Tr) (L : List Tr) (E : Int) (w : World) (hn : ss.length = n) (hc : Prs w A ss) (hbig : n ≤ 1000000) (hm : l.length = m) (hc' : Trs w A' l) (hbig' : m ≤ 9000)
    (hr : rtT ss l = true) (ho : okT ss ⟨k, f, t, u, mm, d, o, b⟩ = true) (hd : o = -1) (hq : 5000 ≤ m) (h : adT ss l ⟨k, f, t, u, mm, d, o, b⟩ = (L, E)) :
    Calls Try.prog 14 #[.slice A n cap, .slice A' m cap', .agg #[.int .i64 k, .int .i64 f, .int .i64 t, .int .i64 u, .int .i64 mm, .int .i64 d, .int .i64 o, .int .i64 b]] w (TrPost L E w) := by
  have HN := Lib.hid hn
  have HM := Lib.hid hm
  have HR := Lib.hid hr
  have HG := Lib.hid (rtT_in hr).1
  have hle := (rg_ok HG.out).1
  rw [hn] at hle
  unfold adT at h
  rw [if_pos ⟨hr, ho, hd⟩, if_pos (by rw [hm]; exact hq)] at h
  have hqI : (5000 : Int) ≤ (m : Int) := by omega
  have HOK := Lib.hid (show okB (lvs ss n n) ⟨k, f, t, u, mm, d, o, b⟩ = true from by rw [← hn, okB_lvs]; exact ho)
  subst hd
  have H := Lib.hid h
  have hB0 : Below w.heap.size w (w.alloc (.cells #[.int .i64 k, .int .i64 f, .int .i64 t, .int .i64 u, .int .i64 mm, .int .i64 d, .int .i64 (-1), .int .i64 b] 26)).drew := (Gen.b_alloc (Below.refl _ _)).drew
  have HC := Lib.hid (hc.keep hB0)
  have HC2 := Lib.hid (hc'.keep hB0)
  have HBX : Hid (Row (w.alloc (.cells #[.int .i64 k, .int .i64 f, .int .i64 t, .int .i64 u, .int .i64 mm, .int .i64 d, .int .i64 (-1), .int .i64 b] 26)).drew w.heap.size 26 #[.int .i64 k, .int .i64 f, .int .i64 t, .int .i64 u, .int .i64 mm, .int .i64 d, .int .i64 (-1), .int .i64 b]) := Lib.hid ((Row.new _ _ _).keep (Below.refl _ _).drew)
  have HB0 := Lib.hid hB0
  clear hn hm hr h hB0 hc hc'
  go_enter Try.func14, Try.ntmps14
  go_wp2
  go_region_law (first
    | (go_simp; go_at_call 20; refine (tRight_is _ HN.out HC.out hbig HM.out HC2.out (by omega) HR.out).mono ?_; rintro e w1 ⟨rfl, hb1⟩; have hB1 := Gen.over hb1 HB0.out; have hx1 := HBX.out.keep hb1; have HC1 := Lib.hid (HC.out.keep hb1); have HD1 := Lib.hid (HC2.out.keep hb1); have d0 := hx1.cell 0; have d1 := hx1.cell 1; have d2 := hx1.cell 2; have d3 := hx1.cell 3; have d4 := hx1.cell 4; have d5 := hx1.cell 5; have d6 := hx1.cell 6; have d7 := hx1.cell 7)
    | (go_simp; go_at_call 43; refine (leaves_any _ _ _ ss _ HN.out HC1.out HG.out).mono ?_; rintro e w2 ⟨g, rfl, hbo, hb2⟩; have hB2 := Gen.over hb2 hB1; have hx2 := hx1.keep hb2; have HD2 := Lib.hid (HD1.out.keep hb2); clear d0 d1 d2 d3 d4 d5 d6 d7; have d0 := hx2.cell 0; have d1 := hx2.cell 1; have d2 := hx2.cell 2; have d3 := hx2.cell 3; have d4 := hx2.cell 4; have d5 := hx2.cell 5; have d6 := hx2.cell 6; have d7 := hx2.cell 7)
    | (go_simp; go_at_call 42; refine (tright_any ⟨k, f, t, u, mm, d, -1, b⟩ _ n n (lvs ss n n) _ (lvs_length _ _ _) hbo).mono ?_; rintro e w3 ⟨rfl, hb3⟩; rw [HOK.out]; have hB3 := Gen.over hb3 hB2; have hx3 := hx2.keep hb3; have HD3 := Lib.hid (HD2.out.keep hb3); clear d0 d1 d2 d3 d4 d5 d6 d7; have d0 := hx3.cell 0; have d1 := hx3.cell 1; have d2 := hx3.cell 2; have d3 := hx3.cell 3; have d4 := hx3.cell 4; have d5 := hx3.cell 5; have d6 := hx3.cell 6; have d7 := hx3.cell 7))
  all_goals
    go_wp2
    go_ret2
    exact tr_no H.out hB3
set_option maxRecDepth 100000 in
set_option maxHeartbeats 8000000 in
theorem tadd_5 (k f t u mm d o b : Int) (A : Option Addr) (n cap : Nat) (ss : List (Int × Int)) (A' : Option Addr) (m cap' : Nat) (l : List Tr) (L : List Tr) (E : Int) (w : World) (hn : ss.length = n) (hc : Prs w A ss) (hbig : n ≤ 1000000) (hm : l.length = m) (hc' : Trs w A' l) (hbig' : m ≤ 9000)
    (hr : rtT ss l = true) (ho : okT ss ⟨k, f, t, u, mm, d, o, b⟩ = true) (hd : o = -1) (hq : m < 5000) (h : adT ss l ⟨k, f, t, u, mm, d, o, b⟩ = (L, E)) :
    Calls Try.prog 14 #[.slice A n cap, .slice A' m cap', .agg #[.int .i64 k, .int .i64 f, .int .i64 t, .int .i64 u, .int .i64 mm, .int .i64 d, .int .i64 o, .int .i64 b]] w (TrPost L E w) := by
  have HN := Lib.hid hn
  have HM := Lib.hid hm
  have HR := Lib.hid hr
  have HG := Lib.hid (rtT_in hr).1
  have hle := (rg_ok HG.out).1
  rw [hn] at hle
  unfold adT at h
  rw [if_pos ⟨hr, ho, hd⟩, if_neg (by rw [hm]; omega)] at h
  have hqI : (m : Int) < 5000 := by omega
  have HOK := Lib.hid (show okB (lvs ss n n) ⟨k, f, t, u, mm, d, o, b⟩ = true from by rw [← hn, okB_lvs]; exact ho)
  subst hd
  obtain ⟨i0, hi0, hz0, hz1, hz2⟩ := info_parts infoT
  have H := Lib.hid h
  have hB0 : Below w.heap.size w (w.alloc (.cells #[.int .i64 k, .int .i64 f, .int .i64 t, .int .i64 u, .int .i64 mm, .int .i64 d, .int .i64 (-1), .int .i64 b] 26)).drew := (Gen.b_alloc (Below.refl _ _)).drew
  have HC := Lib.hid (hc.keep hB0)
  have HC2 := Lib.hid (hc'.keep hB0)
  have HBX : Hid (Row (w.alloc (.cells #[.int .i64 k, .int .i64 f, .int .i64 t, .int .i64 u, .int .i64 mm, .int .i64 d, .int .i64 (-1), .int .i64 b] 26)).drew w.heap.size 26 #[.int .i64 k, .int .i64 f, .int .i64 t, .int .i64 u, .int .i64 mm, .int .i64 d, .int .i64 (-1), .int .i64 b]) := Lib.hid ((Row.new _ _ _).keep (Below.refl _ _).drew)
  have HB0 := Lib.hid hB0
  clear hn hm hr h hB0 hc hc'
  go_enter Try.func14, Try.ntmps14
  go_wp2
  go_region_law (first
    | (go_simp; go_at_call 20; refine (tRight_is _ HN.out HC.out hbig HM.out HC2.out (by omega) HR.out).mono ?_; rintro e w1 ⟨rfl, hb1⟩; have hB1 := Gen.over hb1 HB0.out; have hx1 := HBX.out.keep hb1; have HC1 := Lib.hid (HC.out.keep hb1); have HD1 := Lib.hid (HC2.out.keep hb1); have d0 := hx1.cell 0; have d1 := hx1.cell 1; have d2 := hx1.cell 2; have d3 := hx1.cell 3; have d4 := hx1.cell 4; have d5 := hx1.cell 5; have d6 := hx1.cell 6; have d7 := hx1.cell 7)
    | (go_simp; go_at_call 43; refine (leaves_any _ _ _ ss _ HN.out HC1.out HG.out).mono ?_; rintro e w2 ⟨g, rfl, hbo, hb2⟩; have hB2 := Gen.over hb2 hB1; have hx2 := hx1.keep hb2; have HD2 := Lib.hid (HD1.out.keep hb2); clear d0 d1 d2 d3 d4 d5 d6 d7; have d0 := hx2.cell 0; have d1 := hx2.cell 1; have d2 := hx2.cell 2; have d3 := hx2.cell 3; have d4 := hx2.cell 4; have d5 := hx2.cell 5; have d6 := hx2.cell 6; have d7 := hx2.cell 7)
    | (go_simp; go_at_call 42; refine (tright_any ⟨k, f, t, u, mm, d, -1, b⟩ _ n n (lvs ss n n) _ (lvs_length _ _ _) hbo).mono ?_; rintro e w3 ⟨rfl, hb3⟩; rw [HOK.out]; have hB3 := Gen.over hb3 hB2; have hx3 := hx2.keep hb3; have HD3 := Lib.hid (HD2.out.keep hb3); clear d0 d1 d2 d3 d4 d5 d6 d7; have d0 := hx3.cell 0; have d1 := hx3.cell 1; have d2 := hx3.cell 2; have d3 := hx3.cell 3; have d4 := hx3.cell 4; have d5 := hx3.cell 5; have d6 := hx3.cell 6; have d7 := hx3.cell 7))
  all_goals
    clear hx1 hx2 HC1 HD1 HD2 hbo hB1 hB2 hb1 hb2 hb3
    have N1 := Lib.hid (show m + 1 ≤ maxLen from by simp only [maxLen]; omega)
    have N2 := Lib.hid (show (m + 1) * 64 ≤ 140737488355328 from by omega)
    have hge : w.heap.size ≤ w3.heap.size := hB3.size
    have HLL := Lib.hid (show l ++ [⟨k, f, t, u, mm, d, -1, b⟩] = L from by have := H.out; injection this)
    have HLE := Lib.hid (show 0 = E from by have := H.out; injection this)
    go_wp2
    go_region_law (first
      | (go_simp; go_at_call 44; refine (cloneT_any _ _ _ l _ HM.out (by first | exact HD3.out.keep (Below.refl _ _).drew | exact HD3.out.keep (Gen.b_alloc (Below.refl _ _).drew)) (by omega)).mono ?_; rintro e w4 ⟨A2, c2, rfl, hown, hb4⟩; have hownN := own_base hown (show w3.heap.size ≤ _ from by simp); have hB4 : Below w.heap.size w w4 := (by first | exact Gen.over hb4 hB3.drew | exact Gen.over hb4 (Gen.b_alloc hB3.drew)); have hx4 : Row w4 w.heap.size 26 #[.int .i64 k, .int .i64 f, .int .i64 t, .int .i64 u, .int .i64 mm, .int .i64 d, .int .i64 (-1), .int .i64 b] := (by first | exact (hx3.keep (Below.refl _ _).drew).keep hb4 | exact (hx3.keep (Gen.b_alloc (Below.refl _ _).drew)).keep hb4); have e0 := hx4.cell 0; have e1 := hx4.cell 1; have e2 := hx4.cell 2; have e3 := hx4.cell 3; have e4 := hx4.cell 4; have e5 := hx4.cell 5; have e6 := hx4.cell 6; have e7 := hx4.cell 7; have hsz : w3.heap.size ≤ w4.heap.size := (by have := hb4.size; simp at this; omega); (first | (have hRD := blk_after hb4 rfl) | (have hRD := blk_after2 hb4 rfl) | skip))
      | (refine App.step_append_any _ (by rfl) (.tmp 28) (.tmp 30) 24 (by rfl) w3.heap.size 26 i0 _ 8 64 Try.underlying24 hi0 hz0 hz1 hz2 rfl (by omega) (.slice A2 m c2) m (l.flatMap tcs) (by simp [Act.eval, Act.put]) (Gen.own_keep hownN (Gen.b_alloc (Below.refl _ _))) (w4.heap.size + 1) (some ⟨w4.heap.size, 0, none⟩) 1 1 (tcs ⟨k, f, t, u, mm, d, -1, b⟩) (by simp [Act.eval, Act.put]) (Gen.reads_blk (by simp) rfl) (by simp [tcs, Value.oneCell']) N1.out N2.out (by simp; omega) ?_; intro v2 w7 hown7 hg7 hat7; have hB7 := Gen.g_below hownN hg7 (Gen.b_alloc hB4) hge)
      | (refine App.step_append_any _ (by rfl) (.tmp 28) (.tmp 30) 24 (by rfl) w3.heap.size 26 i0 _ 8 64 Try.underlying24 hi0 hz0 hz1 hz2 rfl (by omega) (.slice A2 m c2) m (l.flatMap tcs) (by simp [Act.eval, Act.put]) hownN (w3.heap.size + 1) (some ⟨w3.heap.size, 0, none⟩) 1 1 (tcs ⟨k, f, t, u, mm, d, -1, b⟩) (by simp [Act.eval, Act.put]) hRD (by simp [tcs, Value.oneCell']) N1.out N2.out (by omega) ?_; intro v2 w7 hown7 hg7 hat7; have hB7 := Gen.g_below hownN hg7 hB4 hge))
    all_goals
      obtain ⟨A5, c5, rfl, _⟩ := Gen.own_slice hown7
      have hT7 := trs_own (n := m + 1) (l := l ++ [⟨k, f, t, u, mm, d, -1, b⟩]) (by simp [HM.out]) (by rw [List.flatMap_append]; simpa using hown7)
      rw [HLL.out] at hT7
      have hLn : L.length = m + 1 := by rw [← HLL.out]; simp [HM.out]
      go_wp2
      go_ret2
      exact ⟨A5, c5, by first | (rw [hLn, ← HLE.out]; done) | (rw [hLn, ← HLE.out]; rfl), hB7, hT7⟩
theorem tadd_any (x : Tr) (A : Option Addr) (n cap : Nat) (ss : List (Int × Int)) (A' : Option Addr) (m cap' : Nat) (l : List Tr) (L : List Tr) (E : Int) (w : World) (hn : ss.length = n) (hc : Prs w A ss) (hbig : n ≤ 1000000) (hm : l.length = m) (hc' : Trs w A' l) (hbig' : m ≤ 9000) (h : adT ss l x = (L, E)) :
    Calls Try.prog 14 #[.slice A n cap, .slice A' m cap', .agg (tcs x).toArray] w (TrPost L E w) := by
  obtain ⟨k, f, t, u, mm, d, o, b⟩ := x
  cases hr : rtT ss l
  · exact tadd_1 k f t u mm d o b A n cap ss A' m cap' l L E w hn hc hbig hm hc' hbig' hr h
  cases ho : okT ss ⟨k, f, t, u, mm, d, o, b⟩
  · exact tadd_2 k f t u mm d o b A n cap ss A' m cap' l L E w hn hc hbig hm hc' hbig' hr ho h
  by_cases hd : o = -1
  · by_cases hq : 5000 ≤ m
    · exact tadd_4 k f t u mm d o b A n cap ss A' m cap' l L E w hn hc hbig hm hc' hbig' hr ho hd hq h
    · exact tadd_5 k f t u mm d o b A n cap ss A' m cap' l L E w hn hc hbig hm hc' hbig' hr ho hd (by omega) h
  · exact tadd_3 k f t u mm d o b A n cap ss A' m cap' l L E w hn hc hbig hm hc' hbig' hr ho (by rw [bne_iff_ne]; exact hd) h

end Go.Proofs.Ytpekedhcnijgcaa.Book
