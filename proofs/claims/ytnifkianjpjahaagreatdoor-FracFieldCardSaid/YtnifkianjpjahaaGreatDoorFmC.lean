/- Texts of one kind joined: fractions, third part. -/
import Derived.Test.YtnifkianjpjahaaGreatDoorFmB
/- Fractions: variables that hold them; the law's of and right. -/
namespace Go.Proofs.YtnifkianjpjahaaGreatDoor.Bg
open Go.ChangeShapes Go.WideShapes Go.ChangeAt Go.RowKit Go.Proofs.YtnifkianjpjahaaGreatDoor.Cell
set_option linter.unusedVariables false
set_option linter.unusedSimpArgs false
variable {N0 : Nat}

theorem IsFr.mk' {W : World} {s s' p q : Int} {A A' : Option Addr} {n c n' c' : Nat} (h1 : IsBig N0 W (bigV s A n c) p) (h2 : IsBig N0 W (bigV s' A' n' c') q) : IsFr N0 W (frV s A n c s' A' n' c') p q := ⟨_, _, _, _, _, _, _, _, rfl, h1, h2⟩
theorem IsFr.p {W : World} {s s' p q : Int} {A A' : Option Addr} {n c n' c' : Nat} (h : IsFr N0 W (frV s A n c s' A' n' c') p q) : IsBig N0 W (bigV s A n c) p := by
  obtain ⟨s2, A2, n2, c2, s3, A3, n3, c3, e, h1, h2⟩ := h.ex
  simp only [Value.agg.injEq, Array.mk.injEq, List.cons.injEq, Value.int.injEq, Value.slice.injEq] at e
  obtain ⟨⟨_, rfl⟩, ⟨rfl, rfl, rfl⟩, _⟩ := e
  exact h1
theorem IsFr.q {W : World} {s s' p q : Int} {A A' : Option Addr} {n c n' c' : Nat} (h : IsFr N0 W (frV s A n c s' A' n' c') p q) : IsBig N0 W (bigV s' A' n' c') q := by
  obtain ⟨s2, A2, n2, c2, s3, A3, n3, c3, e, h1, h2⟩ := h.ex
  simp only [Value.agg.injEq, Array.mk.injEq, List.cons.injEq, Value.int.injEq, Value.slice.injEq] at e
  obtain ⟨_, _, ⟨_, rfl⟩, ⟨rfl, rfl, rfl⟩, _⟩ := e
  exact h2
/-- variables that hold fractions: cell, value, parts -/
def Fs (N0 : Nat) (W : World) (L : List (Nat × Value × Int × Int)) : Prop := ∀ x ∈ L, Row W x.1 43 (vc x.2.1) ∧ IsFr N0 W x.2.1 x.2.2.1 x.2.2.2
theorem Fs.nil (N0 : Nat) (W : World) : Fs N0 W [] := fun x h => by simp at h
theorem Fs.keep {W W' : World} {L : List (Nat × Value × Int × Int)} (h : Fs N0 W L) (hb : Below W.heap.size W W') : Fs N0 W' L := fun x hx => ⟨(h x hx).1.keep hb, (h x hx).2.keep hb⟩
theorem Fs.ad {W : World} {L : List (Nat × Value × Int × Int)} {s s' p q : Int} {A A' : Option Addr} {n c n' c' : Nat} (h : Fs N0 W L) (h1 : IsBig N0 W (bigV s A n c) p) (h2 : IsBig N0 W (bigV s' A' n' c') q) :
    Fs N0 (W.alloc (.cells (fC s A n c s' A' n' c') 43)) ((W.heap.size, frV s A n c s' A' n' c', p, q) :: L) := fun x hx => by
  rcases List.mem_cons.1 hx with rfl | hx
  · exact ⟨Row.new _ _ _, .mk' (h1.keep (Gen.b_alloc (Below.refl _ _))) (h2.keep (Gen.b_alloc (Below.refl _ _)))⟩
  · exact ⟨(h x hx).1.alloc _, (h x hx).2.keep (Gen.b_alloc (Below.refl _ _))⟩
theorem Fs.row {W : World} {L : List (Nat × Value × Int × Int)} {g : Nat} {s s' p q : Int} {A A' : Option Addr} {n c n' c' : Nat} (h : Fs N0 W L) (hm : (g, frV s A n c s' A' n' c', p, q) ∈ L) : Row W g 43 (fC s A n c s' A' n' c') := (h _ hm).1
theorem Fs.p {W : World} {L : List (Nat × Value × Int × Int)} {g : Nat} {s s' p q : Int} {A A' : Option Addr} {n c n' c' : Nat} (h : Fs N0 W L) (hm : (g, frV s A n c s' A' n' c', p, q) ∈ L) : IsBig N0 W (bigV s A n c) p := (h _ hm).2.p
theorem Fs.q {W : World} {L : List (Nat × Value × Int × Int)} {g : Nat} {s s' p q : Int} {A A' : Option Addr} {n c n' c' : Nat} (h : Fs N0 W L) (hm : (g, frV s A n c s' A' n' c', p, q) ∈ L) : IsBig N0 W (bigV s' A' n' c') q := (h _ hm).2.q
theorem roff4 {W : World} {g k : Nat} {t : TypeId} {cs : Array Value} (h : Row W k t cs) (hk : k ≠ g) (a b c d : Value) : Row (set4 W g a b c d) k t cs := by
  unfold Row at *
  rw [Below.heap_setCell _ _ _ _ hk, Below.heap_setCell _ _ _ _ hk, Below.heap_setCell _ _ _ _ hk, Below.heap_setCell _ _ _ _ hk]
  exact h
theorem rset4 {W : World} {g : Nat} {t : TypeId} {x0 x1 x2 x3 : Value} (h : Row W g t #[x0, x1, x2, x3]) (a b c d : Value) : Row (set4 W g a b c d) g t #[a, b, c, d] := by
  have h1 := (((h.set 0 a).set 1 b).set 2 c).set 3 d
  simpa using h1
set_option maxRecDepth 100000 in
set_option maxHeartbeats 8000000 in
theorem lof_as (p q a b : Int) (w : World) (hN : N0 ≤ w.heap.size) (hp : I64 p) (hq : I64 q) (h0 : q ≠ 0) (ha : np p q = a) (hb : nq p q = b) :
    Calls Tryz.prog 64 #[.int .i64 p, .int .i64 q] w fun e w' => ∃ s A n c s' A' n' c', e = .returned (frV s A n c s' A' n' c') ∧ IsBig N0 w' (bigV s A n c) a ∧ IsBig N0 w' (bigV s' A' n' c') b ∧ Below w.heap.size w w' := by
  subst ha hb
  have HP := Lib.hid hp
  have HQ := Lib.hid hq
  have H0 := Lib.hid h0
  have HNN := Lib.hid hN
  have HB : Hid (Below w.heap.size w (w.alloc (.cells fz4 43))) := Lib.hid (Gen.b_alloc (Below.refl _ _))
  have RR := Lib.hid (Row.new w 43 fz4)
  clear hp hq h0 hN
  go_enter Tryz.func64, Tryz.ntmps64
  go_wp2_with (fail)
  go_must (refine (fof_val p q _ (Nat.le_trans HNN.out HB.out.size) HP.out HQ.out H0.out).mono ?_)
  rintro e W1 ⟨sr, Ar, nr, cr, tr, Br, mr, dr, rfl, hN1, hN2, hb⟩
  replace RR := Lib.hid (RR.out.keep hb)
  replace HB := Lib.hid (Gen.over hb HB.out)
  clear hb 
  have HN1 := Lib.hid hN1
  clear hN1
  have HN2 := Lib.hid hN2
  clear hN2
  have Rf := Lib.hid (Row.new W1 43 (fC sr Ar nr cr tr Br mr dr))
  replace RR := Lib.hid (RR.out.alloc (.cells (fC sr Ar nr cr tr Br mr dr) 43))
  replace HN1 := Lib.hid (HN1.out.keep (Gen.b_alloc (x := (.cells (fC sr Ar nr cr tr Br mr dr) 43)) (Below.refl _ _)))
  replace HN2 := Lib.hid (HN2.out.keep (Gen.b_alloc (x := (.cells (fC sr Ar nr cr tr Br mr dr) 43)) (Below.refl _ _)))
  replace HB := Lib.hid (Gen.b_alloc (x := (.cells (fC sr Ar nr cr tr Br mr dr) 43)) HB.out)
  have Rfc0 := Rf.out.cell 0
  have Rfc1 := Rf.out.cell 1
  have Rfc2 := Rf.out.cell 2
  have Rfc3 := Rf.out.cell 3
  have gr0 := RR.out.frozen 0
  have gc0 := RR.out.cell 0
  have gr1 := RR.out.frozen 1
  have gc1 := RR.out.cell 1
  have gr2 := RR.out.frozen 2
  have gc2 := RR.out.cell 2
  have gr3 := RR.out.frozen 3
  have gc3 := RR.out.cell 3
  have hlt2 := RR.out.lt
  go_wp2
  refine bodyPost_ret (v := frV sr Ar nr cr tr Br mr dr) ?_ rfl ⟨_, _, _, _, _, _, _, _, rfl, HN1.out.set4 RR.out HNN.out _ _ _ _, HN2.out.set4 RR.out HNN.out _ _ _ _, below_set4 HB.out (Nat.le_refl _) _ _ _ _⟩
  simp [results, Tryz.results64, go_sem, *]
set_option maxRecDepth 100000 in
set_option maxHeartbeats 8000000 in
theorem lright_yes {s s' p q : Int} {A A' : Option Addr} {n c n' c' : Nat} (w : World) (hN : N0 ≤ w.heap.size) (hp : IsBig N0 w (bigV s A n c) p) (hq : IsBig N0 w (bigV s' A' n' c') q) (r : Rt p q) :
    Calls Tryz.prog 63 #[frV s A n c s' A' n' c', .int .i64 0] w fun e w' => e = .returned (.tuple #[frV s A n c s' A' n' c', .bool true]) ∧ Below w.heap.size w w' ∧ IsBig N0 w' (bigV s A n c) p ∧ IsBig N0 w' (bigV s' A' n' c') q := by
  have HP := Lib.hid hp
  have HQ := Lib.hid hq
  have HR := Lib.hid r
  have HNN := Lib.hid hN
  have HB : Hid (Below w.heap.size w ((w.alloc (.cells (fC s A n c s' A' n' c') 43)).alloc (.cells fz4 43))) := Lib.hid (Gen.b_alloc (Gen.b_alloc (Below.refl _ _)))
  have RA : Hid (Row ((w.alloc (.cells (fC s A n c s' A' n' c') 43)).alloc (.cells fz4 43)) w.heap.size 43 (fC s A n c s' A' n' c')) := Lib.hid ((Row.new _ _ _).alloc _)
  have RR : Hid (Row ((w.alloc (.cells (fC s A n c s' A' n' c') 43)).alloc (.cells fz4 43)) (w.heap.size + 1) 43 fz4) := Lib.hid (by
    have h := Row.new (w.alloc (.cells (fC s A n c s' A' n' c') 43)) 43 fz4
    rwa [World.size_alloc] at h)
  replace HP := Lib.hid (HP.out.keep HB.out)
  replace HQ := Lib.hid (HQ.out.keep HB.out)
  clear hp hq r hN
  go_enter Tryz.func63, Tryz.ntmps63
  have HS0 : Hid (Below w.heap.size w ((w.alloc (.cells (fC s A n c s' A' n' c') 43)).alloc (.cells fz4 43)) ∧ ((w.alloc (.cells (fC s A n c s' A' n' c') 43)).alloc (.cells fz4 43)).cell? ⟨w.heap.size, 0, none⟩ = some (.int .i64 s) ∧ ((w.alloc (.cells (fC s A n c s' A' n' c') 43)).alloc (.cells fz4 43)).cell? ⟨w.heap.size, 1, none⟩ = some (.slice A n c) ∧ ((w.alloc (.cells (fC s A n c s' A' n' c') 43)).alloc (.cells fz4 43)).cell? ⟨w.heap.size, 2, none⟩ = some (.int .i64 s') ∧ ((w.alloc (.cells (fC s A n c s' A' n' c') 43)).alloc (.cells fz4 43)).cell? ⟨w.heap.size, 3, none⟩ = some (.slice A' n' c')) := Lib.hid ⟨HB.out, RA.out.cell 0, RA.out.cell 1, RA.out.cell 2, RA.out.cell 3⟩
  go_wp2_with (fail)
  generalize hWz : (w.alloc (.cells (fC s A n c s' A' n' c') 43)).alloc (.cells fz4 43) = Wz at HB RA RR HP HQ HS0 ⊢
  clear hWz
  refine wp_region_noPanic ?_
  refine wp_region_held_drew (S := fun W' : World => Below w.heap.size w W' ∧ W'.cell? ⟨w.heap.size, 0, none⟩ = some (.int .i64 s) ∧ W'.cell? ⟨w.heap.size, 1, none⟩ = some (.slice A n c) ∧ W'.cell? ⟨w.heap.size, 2, none⟩ = some (.int .i64 s') ∧ W'.cell? ⟨w.heap.size, 3, none⟩ = some (.slice A' n' c')) (by kernel_rfl) ⟨HS0.out.1.drew, HS0.out.2⟩ (fun hHeld => ?_)
  refine wpAnyH_take (i := 0) (v := frV s A n c s' A' n' c') rfl (by kernel_rfl) (by kernel_rfl) (by kernel_rfl) (fun _ _ _ h => h) (Or.inl ⟨by rfl, (by intro w hSw; (try dsimp only at hSw); go_simp <;> with_reducible rfl)⟩) (by assumption) ?_
  (try simp only [Act.put, List.getElem_toArray, List.getElem_cons_succ, List.getElem_cons_zero, List.setIfInBounds_toArray, List.set_cons_zero, List.set_cons_succ])
  refine wpAnyH_take (i := 1) (v := .int .i64 0) rfl (by kernel_rfl) (by kernel_rfl) (by kernel_rfl) (fun _ _ _ h => h) (Or.inl ⟨by rfl, (by intro w hSw; (try dsimp only at hSw); go_simp <;> with_reducible rfl)⟩) (by assumption) ?_
  (try simp only [Act.put, List.getElem_toArray, List.getElem_cons_succ, List.getElem_cons_zero, List.setIfInBounds_toArray, List.set_cons_zero, List.set_cons_succ])
  refine wpAnyH_take (i := 2) (v := .bool true) rfl (by kernel_rfl) (by kernel_rfl) (by kernel_rfl) (fun _ _ _ h => h) (Or.inl ⟨by rfl, (by intro w hSw; (try dsimp only at hSw); go_simp <;> with_reducible rfl)⟩) (by assumption) ?_
  (try simp only [Act.put, List.getElem_toArray, List.getElem_cons_succ, List.getElem_cons_zero, List.setIfInBounds_toArray, List.set_cons_zero, List.set_cons_succ])
  refine wpAnyH_take (i := 3) (v := .bool true) rfl (by kernel_rfl) (by kernel_rfl) (by kernel_rfl) (fun _ _ _ h => h) (Or.inl ⟨by rfl, (by intro w hSw; (try dsimp only at hSw); go_simp <;> with_reducible rfl)⟩) (by assumption) ?_
  (try simp only [Act.put, List.getElem_toArray, List.getElem_cons_succ, List.getElem_cons_zero, List.setIfInBounds_toArray, List.set_cons_zero, List.set_cons_succ])
  refine wpAnyH_take (i := 4) (v := frV s A n c s' A' n' c') rfl (by kernel_rfl) (by kernel_rfl) (by kernel_rfl) (fun _ _ _ h => h) (Or.inl ⟨by rfl, (by intro w hSw; (try dsimp only at hSw); go_simp <;> with_reducible rfl)⟩) (by assumption) ?_
  (try simp only [Act.put, List.getElem_toArray, List.getElem_cons_succ, List.getElem_cons_zero, List.setIfInBounds_toArray, List.set_cons_zero, List.set_cons_succ])
  refine wpAnyH_ready (rs := [5]) (by kernel_rfl) (by simp) ?_
  refine AllReadyH.cons rfl (fun K hK => ?_) AllReadyH.nil
  rw [if_pos (by rfl)]
  (try simp only [Act.put, List.getElem_toArray, List.getElem_cons_succ, List.getElem_cons_zero, List.setIfInBounds_toArray, List.set_cons_zero, List.set_cons_succ])
  go_simp
  go_at_call 54
  refine (fright_yes _ (HP.out.keep (Below.refl _ _).drew) (HQ.out.keep (Below.refl _ _).drew) HR.out).mono ?_
  rintro e w5 ⟨rfl, hb⟩
  have hbz : Below Wz.heap.size Wz w5 := (Below.refl _ _).drew.trans hb
  have HP5 := Lib.hid (HP.out.keep hbz)
  have HQ5 := Lib.hid (HQ.out.keep hbz)
  have RR5 := Lib.hid (RR.out.keep hbz)
  have RA5 := Lib.hid (RA.out.keep hbz)
  have HB5 := Lib.hid (Gen.over hbz HB.out)
  refine hK.out _ _ ⟨HB5.out, RA5.out.cell 0, RA5.out.cell 1, RA5.out.cell 2, RA5.out.cell 3⟩ (fun hH5 => ?_)
  clear hK K
  (try simp only [Act.put, List.getElem_toArray, List.getElem_cons_succ, List.getElem_cons_zero, List.setIfInBounds_toArray, List.set_cons_zero, List.set_cons_succ])
  refine wpAnyH_take (i := 6) (v := .bool true) rfl (by kernel_rfl) (by kernel_rfl) (by kernel_rfl) (fun _ _ _ h => h) (Or.inl ⟨by rfl, (by intro w hSw; (try dsimp only at hSw); go_simp <;> with_reducible rfl)⟩) (by assumption) ?_
  (try simp only [Act.put, List.getElem_toArray, List.getElem_cons_succ, List.getElem_cons_zero, List.setIfInBounds_toArray, List.set_cons_zero, List.set_cons_succ])
  have gr0 := RR5.out.frozen 0
  have gr1 := RR5.out.frozen 1
  have gr2 := RR5.out.frozen 2
  have gr3 := RR5.out.frozen 3
  have gc0 := RR5.out.cell 0
  have gc1 := RR5.out.cell 1
  have gc2 := RR5.out.cell 2
  have gc3 := RR5.out.cell 3
  have hlt2 := RR5.out.lt
  refine wpAnyH_ready (rs := [7]) (by kernel_rfl) (by simp) ?_
  refine AllReadyH.cons rfl (fun K hK => ?_) AllReadyH.nil
  rw [if_pos (by rfl)]
  (try simp only [Act.put, List.getElem_toArray, List.getElem_cons_succ, List.getElem_cons_zero, List.setIfInBounds_toArray, List.set_cons_zero, List.set_cons_succ])
  go_simp
  have RA6 := Lib.hid (roff4 (g := w.heap.size + 1) RA5.out (by omega) (.int .i64 s) (.slice A n c) (.int .i64 s') (.slice A' n' c'))
  have HB6 := Lib.hid (below_set4 (g := w.heap.size + 1) HB5.out (by omega) (.int .i64 s) (.slice A n c) (.int .i64 s') (.slice A' n' c'))
  refine hK.out _ _ ⟨HB6.out, RA6.out.cell 0, RA6.out.cell 1, RA6.out.cell 2, RA6.out.cell 3⟩ (fun hH7 => ?_)
  clear hK K
  (try simp only [Act.put, List.getElem_toArray, List.getElem_cons_succ, List.getElem_cons_zero, List.setIfInBounds_toArray, List.set_cons_zero, List.set_cons_succ])
  refine wpAnyH_take (i := 8) (v := .bool true) rfl (by kernel_rfl) (by kernel_rfl) (by kernel_rfl) (fun _ _ _ h => h) (Or.inl ⟨by rfl, (by intro w hSw; (try dsimp only at hSw); go_simp <;> with_reducible rfl)⟩) (by assumption) ?_
  (try simp only [Act.put, List.getElem_toArray, List.getElem_cons_succ, List.getElem_cons_zero, List.setIfInBounds_toArray, List.set_cons_zero, List.set_cons_succ])
  refine wpAnyH_done (by kernel_rfl) ?_ _
  refine NoPanic.normal ?_
  have HP6 := Lib.hid (HP5.out.set4 RR5.out (by have := HNN.out; omega) (.int .i64 s) (.slice A n c) (.int .i64 s') (.slice A' n' c'))
  have HQ6 := Lib.hid (HQ5.out.set4 RR5.out (by have := HNN.out; omega) (.int .i64 s) (.slice A n c) (.int .i64 s') (.slice A' n' c'))
  have RR6 := Lib.hid (rset4 RR5.out (.int .i64 s) (.slice A n c) (.int .i64 s') (.slice A' n' c'))
  clear gr0 gr1 gr2 gr3 gc0 gc1 gc2 gc3 hlt2
  have gc0 := RR6.out.cell 0
  have gc1 := RR6.out.cell 1
  have gc2 := RR6.out.cell 2
  have gc3 := RR6.out.cell 3
  go_wp2
  refine bodyPost_ret (v := .tuple #[frV s A n c s' A' n' c', .bool true]) ?_ rfl ⟨rfl, HB6.out, HP6.out, HQ6.out⟩
  simp [results, Tryz.results63, go_sem, *]
end Go.Proofs.YtnifkianjpjahaaGreatDoor.Bg
/- Fractions: the examples. -/
namespace Go.Proofs.YtnifkianjpjahaaGreatDoor.Bg
open Go.ChangeShapes Go.WideShapes Go.ChangeAt Go.RowKit Go.Proofs.YtnifkianjpjahaaGreatDoor.Cell
set_option linter.unusedVariables false
set_option linter.unusedSimpArgs false
variable {N0 : Nat}

theorem txt_d (n : Nat) (h : n < 10) : txt (n : Int) = [dg1 n] := by
  unfold txt
  rw [if_neg (by omega), show ((n : Int)).natAbs = n by omega, dec_lt h]
theorem txt_m (n : Nat) (h : n < 10) (h0 : n ≠ 0) : txt (-(n : Int)) = [45, dg1 n] := by
  unfold txt
  rw [if_pos (by omega), show (-(n : Int)).natAbs = n by omega, dec_lt h]
theorem ft1 : ftxt (-3) 2 = [45, 51, 47, 50] := by
  unfold ftxt
  rw [show (-3 : Int) = -((3 : Nat) : Int) from rfl, show (2 : Int) = ((2 : Nat) : Int) from rfl, txt_m 3 (by decide) (by decide), txt_d 2 (by decide)]
  rfl
theorem ft2 : ftxt 0 1 = [48, 47, 49] := by
  unfold ftxt
  rw [show (0 : Int) = ((0 : Nat) : Int) from rfl, show (1 : Int) = ((1 : Nat) : Int) from rfl, txt_d 0 (by decide), txt_d 1 (by decide)]
  rfl
theorem ft3 : ftxt 5 6 = [53, 47, 54] := by
  unfold ftxt
  rw [show (5 : Int) = ((5 : Nat) : Int) from rfl, show (6 : Int) = ((6 : Nat) : Int) from rfl, txt_d 5 (by decide), txt_d 6 (by decide)]
  rfl
theorem ft4 : ftxt 1 6 = [49, 47, 54] := by
  unfold ftxt
  rw [show (1 : Int) = ((1 : Nat) : Int) from rfl, show (6 : Int) = ((6 : Nat) : Int) from rfl, txt_d 1 (by decide), txt_d 6 (by decide)]
  rfl
theorem ft5 : ftxt 3 2 = [51, 47, 50] := by
  unfold ftxt
  rw [show (3 : Int) = ((3 : Nat) : Int) from rfl, show (2 : Int) = ((2 : Nat) : Int) from rfl, txt_d 3 (by decide), txt_d 2 (by decide)]
  rfl
theorem ftext_is {s s' : Int} {A A' : Option Addr} {n c n' c' : Nat} {p q : Int} {l : List UInt8} (w : World) (hT : PowTab w) (hp : IsBig N0 w (bigV s A n c) p) (hq : IsBig N0 w (bigV s' A' n' c') q) (r1 : Rt p q) (h : ftxt p q = l) :
    Calls Tryz.prog 58 #[frV s A n c s' A' n' c'] w fun e w' => e = .returned (.string ⟨l.toArray⟩) ∧ Below w.heap.size w w' := by
  subst h
  exact ftext_ok w hT hp hq r1
theorem fit_small {z : Int} (h : -1000 ≤ z ∧ z ≤ 1000) : Fit z := by
  have := pw_lt (show 1 < 60 by decide)
  rw [pw_1] at this
  unfold Fit
  omega
theorem i64_small {z : Int} (h : -1000 ≤ z ∧ z ≤ 1000) : I64 z := by unfold I64; omega
theorem ok1 : ¬ fOk [50, 47, 52] := by decide
theorem ok2 : fOk [45, 51, 47, 50] := by decide
theorem ok3 : rdV (fa [45, 51, 47, 50]) = -3 ∧ rdV (fb [45, 51, 47, 50]) = 2 := by decide
theorem fcmp_is {s s' t t' : Int} {A A' B B' : Option Addr} {n c n' c' m d m' d' : Nat} {p q x y k : Int} (w : World) (hN : N0 ≤ w.heap.size) (hp : IsBig N0 w (bigV s A n c) p) (hq : IsBig N0 w (bigV s' A' n' c') q) (hx : IsBig N0 w (bigV t B m d) x) (hy : IsBig N0 w (bigV t' B' m' d') y) (r1 : Rt p q) (r2 : Rt x y) (f1 : Fit (p * y)) (f2 : Fit (x * q)) (h : cmpI (p * y) (x * q) = k) :
    Calls Tryz.prog 56 #[frV s A n c s' A' n' c', frV t B m d t' B' m' d'] w fun e w' => e = .returned (.int .i64 k) ∧ Below w.heap.size w w' := by
  subst h
  exact fcmp_ok w hN hp hq hx hy r1 r2 f1 f2
theorem ffloor_is {s s' : Int} {A A' : Option Addr} {n c n' c' : Nat} {p q z : Int} (w : World) (hN : N0 ≤ w.heap.size) (hp : IsBig N0 w (bigV s A n c) p) (hq : IsBig N0 w (bigV s' A' n' c') q) (r1 : Rt p q) (h : dq p q = z) :
    Calls Tryz.prog 61 #[frV s A n c s' A' n' c'] w fun e w' => ∃ A n c, e = .returned (bigV (sg z) A n c) ∧ IsBig N0 w' (bigV (sg z) A n c) z ∧ Below w.heap.size w w' := by
  subst h
  exact ffloor_ok w hN hp hq r1
theorem sbig_yes {x : Int} {va vb : Value} (w : World) (hx : IsBig N0 w va x) (hy : IsBig N0 w vb x) : Calls Tryz.prog 60 #[va, vb] w fun e w' => e = .returned (.bool true) ∧ Below w.heap.size w w' :=
  (sbig_val w hx hy).mono fun e w' ⟨h1, h2⟩ => ⟨by rw [h1, decide_eq_true rfl], h2⟩
theorem fsame_yes {s s' t t' : Int} {A A' B B' : Option Addr} {n c n' c' m d m' d' : Nat} {p q : Int} (w : World) (hp : IsBig N0 w (bigV s A n c) p) (hq : IsBig N0 w (bigV s' A' n' c') q) (hx : IsBig N0 w (bigV t B m d) p) (hy : IsBig N0 w (bigV t' B' m' d') q) :
    Calls Tryz.prog 43 #[frV s A n c s' A' n' c', frV t B m d t' B' m' d'] w fun e w' => e = .returned (.bool true) ∧ Below w.heap.size w w' :=
  (fsame_val w hp hq hx hy).mono fun e w' ⟨h1, h2⟩ => ⟨by rw [h1, decide_eq_true ⟨rfl, rfl⟩], h2⟩
theorem fright_zero (w : World) : Calls Tryz.prog 54 #[.agg fz4] w fun e w' => e = .returned (.bool false) ∧ Below w.heap.size w w' :=
  (fright_val (N0 := 0) (s := 0) (A := none) (n := 0) (c := 0) (s' := 0) (A' := none) (n' := 0) (c' := 0) w (IsBig.zero w) (IsBig.zero w)).mono fun e w' ⟨h1, h2⟩ => ⟨by rw [h1, decide_eq_false (by decide)], h2⟩
theorem IsBig.drw {w : World} {v : Value} {z : Int} (h : IsBig N0 w v z) : IsBig N0 w.drew v z := h.keep (Below.refl _ _).drew
set_option maxRecDepth 100000 in
set_option maxHeartbeats 16000000 in
theorem fof_none (p : Int) (w : World) (hN : N0 ≤ w.heap.size) (hp : I64 p) :
    Calls Tryz.prog 48 #[.int .i64 p, .int .i64 0] w fun e w' => e = .returned (.tuple #[.agg fz4, .int .i64 15]) ∧ Below w.heap.size w w' := by
  have HP := Lib.hid hp
  have HQ : Hid (I64 0) := Lib.hid (i64_small (by omega))
  have HNN := Lib.hid hN
  have HB : Hid (Below w.heap.size w (w.alloc (.cells fz4 43))) := Lib.hid (Gen.b_alloc (Below.refl _ _))
  have RR := Lib.hid (Row.new w 43 fz4)
  clear hp hN
  go_enter Tryz.func48, Tryz.ntmps48
  go_wp2_with (fail)
  go_must (refine (of_as (N0 := N0) p _ HP.out).mono ?_)
  rintro e W1 ⟨A1, m1, c1, rfl, hx1, hb⟩
  replace RR := Lib.hid (RR.out.keep hb)
  replace HB := Lib.hid (Gen.over hb HB.out)
  clear hb 
  have Hx1 := Lib.hid hx1
  clear hx1
  go_wp2_with (fail)
  go_must (refine (of_as (N0 := N0) 0 _ HQ.out).mono ?_)
  rintro e W2 ⟨A2, m2, c2, rfl, hx2, hb⟩
  replace RR := Lib.hid (RR.out.keep hb)
  replace Hx1 := Lib.hid (Hx1.out.keep hb)
  replace HB := Lib.hid (Gen.over hb HB.out)
  clear hb 
  have Hx2 := Lib.hid hx2
  clear hx2
  go_wp2_with (fail)
  go_must (refine (New_none _ (Nat.le_trans HNN.out HB.out.size) Hx1.out Hx2.out rfl).mono ?_)
  rintro e W3 ⟨rfl, hb⟩
  replace RR := Lib.hid (RR.out.keep hb)
  replace Hx1 := Lib.hid (Hx1.out.keep hb)
  replace Hx2 := Lib.hid (Hx2.out.keep hb)
  replace HB := Lib.hid (Gen.over hb HB.out)
  clear hb 
  have gr0 := RR.out.frozen 0
  have gc0 := RR.out.cell 0
  have gr1 := RR.out.frozen 1
  have gc1 := RR.out.cell 1
  have gr2 := RR.out.frozen 2
  have gc2 := RR.out.cell 2
  have gr3 := RR.out.frozen 3
  have gc3 := RR.out.cell 3
  have hlt2 := RR.out.lt
  go_wp2
  refine bodyPost_ret (v := .tuple #[.agg fz4, .int .i64 15]) ?_ rfl ⟨rfl, below_set4 HB.out (Nat.le_refl _) _ _ _ _⟩
  simp [results, Tryz.results48, go_sem, *]
set_option maxRecDepth 100000 in
set_option maxHeartbeats 16000000 in
theorem fsmall_yes (w : World) (hT : PowTab w) (hM : MaxL w) : Calls Tryz.prog 37 #[] w fun e w' => e = .returned (.bool true) ∧ Below w.heap.size w w' := by
  have HT := Lib.hid hT
  have HM := Lib.hid hM
  have HF := Lib.hid (Fs.nil w.heap.size w)
  have HB := Lib.hid (Below.refl w.heap.size w)
  clear hT hM
  go_enter Tryz.func37, Tryz.ntmps37
  go_wp2_with (fail)
  go_must (refine (lof_as (N0 := w.heap.size) (1) (2) (1) (2) _ HB.out.size (i64_small (by omega)) (i64_small (by omega)) (by omega) (by decide) (by decide)).mono ?_)
  rintro e W1 ⟨s1, A1, n1, c1, t1, B1, m1, d1, rfl, hp1, hq1, hb⟩
  replace HF := Lib.hid (HF.out.keep hb)
  replace HT := Lib.hid (HT.out.keep hb)
  replace HM := Lib.hid (HM.out.keep hb)
  replace HB := Lib.hid (Gen.over hb HB.out)
  have HP1 := Lib.hid (hp1)
  have HQ1 := Lib.hid (hq1)
  clear hp1 hq1
  clear hb
  replace HT := Lib.hid (HT.out.keep (Gen.b_alloc (x := (.cells (fC s1 A1 n1 c1 t1 B1 m1 d1) 43)) (Below.refl _ _)))
  replace HM := Lib.hid (HM.out.keep (Gen.b_alloc (x := (.cells (fC s1 A1 n1 c1 t1 B1 m1 d1) 43)) (Below.refl _ _)))
  replace HB := Lib.hid (Gen.b_alloc (x := (.cells (fC s1 A1 n1 c1 t1 B1 m1 d1) 43)) HB.out)
  replace HF := Lib.hid (HF.out.ad HP1.out HQ1.out)
  clear HP1 HQ1
  go_wp2_with (fail)
  go_must (refine (lof_as (N0 := w.heap.size) (1) (3) (1) (3) _ HB.out.size (i64_small (by omega)) (i64_small (by omega)) (by omega) (by decide) (by decide)).mono ?_)
  rintro e W2 ⟨s2, A2, n2, c2, t2, B2, m2, d2, rfl, hp2, hq2, hb⟩
  replace HF := Lib.hid (HF.out.keep hb)
  replace HT := Lib.hid (HT.out.keep hb)
  replace HM := Lib.hid (HM.out.keep hb)
  replace HB := Lib.hid (Gen.over hb HB.out)
  have HP2 := Lib.hid (hp2)
  have HQ2 := Lib.hid (hq2)
  clear hp2 hq2
  clear hb
  replace HT := Lib.hid (HT.out.keep (Gen.b_alloc (x := (.cells (fC s2 A2 n2 c2 t2 B2 m2 d2) 43)) (Below.refl _ _)))
  replace HM := Lib.hid (HM.out.keep (Gen.b_alloc (x := (.cells (fC s2 A2 n2 c2 t2 B2 m2 d2) 43)) (Below.refl _ _)))
  replace HB := Lib.hid (Gen.b_alloc (x := (.cells (fC s2 A2 n2 c2 t2 B2 m2 d2) 43)) HB.out)
  replace HF := Lib.hid (HF.out.ad HP2.out HQ2.out)
  clear HP2 HQ2
  go_wp2_with (fail)
  go_must (refine (fof_none (N0 := w.heap.size) 1 _ HB.out.size (i64_small (by omega))).mono ?_)
  rintro e W3 ⟨rfl, hb⟩
  replace HF := Lib.hid (HF.out.keep hb)
  replace HT := Lib.hid (HT.out.keep hb)
  replace HM := Lib.hid (HM.out.keep hb)
  replace HB := Lib.hid (Gen.over hb HB.out)
  clear hb
  replace HF := Lib.hid (HF.out.keep (Gen.b_alloc (x := (.cells fz4 43)) (Below.refl _ _)))
  replace HT := Lib.hid (HT.out.keep (Gen.b_alloc (x := (.cells fz4 43)) (Below.refl _ _)))
  replace HM := Lib.hid (HM.out.keep (Gen.b_alloc (x := (.cells fz4 43)) (Below.refl _ _)))
  replace HB := Lib.hid (Gen.b_alloc (x := (.cells fz4 43)) HB.out)
  have d1_0 := (HF.out.row (.tail _ (.head _))).cell 0
  have d1_1 := (HF.out.row (.tail _ (.head _))).cell 1
  have d1_2 := (HF.out.row (.tail _ (.head _))).cell 2
  have d1_3 := (HF.out.row (.tail _ (.head _))).cell 3
  have d2_0 := (HF.out.row (.head _)).cell 0
  have d2_1 := (HF.out.row (.head _)).cell 1
  have d2_2 := (HF.out.row (.head _)).cell 2
  have d2_3 := (HF.out.row (.head _)).cell 3
  go_wp2_with (fail)
  go_must (refine (fadd_ok _ HB.out.size (HF.out.p (.tail _ (.head _))) (HF.out.q (.tail _ (.head _))) (HF.out.p (.head _)) (HF.out.q (.head _)) (by decide) (by decide) (fit_small (by omega)) (fit_small (by omega)) (fit_small (by omega)) (fit_small (by omega))).mono ?_)
  rintro e W4 ⟨s4, A4, n4, c4, t4, B4, m4, d4, rfl, hp4, hq4, hb⟩
  replace HF := Lib.hid (HF.out.keep hb)
  replace HT := Lib.hid (HT.out.keep hb)
  replace HM := Lib.hid (HM.out.keep hb)
  replace HB := Lib.hid (Gen.over hb HB.out)
  have HP4 := Lib.hid (hp4.cast' (y := 5) (by decide))
  have HQ4 := Lib.hid (hq4.cast' (y := 6) (by decide))
  clear hp4 hq4
  clear hb
  clear d1_0 d1_1 d1_2 d1_3 d2_0 d2_1 d2_2 d2_3
  replace HT := Lib.hid (HT.out.keep (Gen.b_alloc (x := (.cells (fC s4 A4 n4 c4 t4 B4 m4 d4) 43)) (Below.refl _ _)))
  replace HM := Lib.hid (HM.out.keep (Gen.b_alloc (x := (.cells (fC s4 A4 n4 c4 t4 B4 m4 d4) 43)) (Below.refl _ _)))
  replace HB := Lib.hid (Gen.b_alloc (x := (.cells (fC s4 A4 n4 c4 t4 B4 m4 d4) 43)) HB.out)
  replace HF := Lib.hid (HF.out.ad HP4.out HQ4.out)
  clear HP4 HQ4
  have d3_0 := (HF.out.row (.tail _ (.tail _ (.head _)))).cell 0
  have d3_1 := (HF.out.row (.tail _ (.tail _ (.head _)))).cell 1
  have d3_2 := (HF.out.row (.tail _ (.tail _ (.head _)))).cell 2
  have d3_3 := (HF.out.row (.tail _ (.tail _ (.head _)))).cell 3
  have d4_0 := (HF.out.row (.tail _ (.head _))).cell 0
  have d4_1 := (HF.out.row (.tail _ (.head _))).cell 1
  have d4_2 := (HF.out.row (.tail _ (.head _))).cell 2
  have d4_3 := (HF.out.row (.tail _ (.head _))).cell 3
  go_wp2_with (fail)
  go_must (refine (fsub_ok _ HB.out.size (HF.out.p (.tail _ (.tail _ (.head _)))) (HF.out.q (.tail _ (.tail _ (.head _)))) (HF.out.p (.tail _ (.head _))) (HF.out.q (.tail _ (.head _))) (by decide) (by decide) (fit_small (by omega)) (fit_small (by omega)) (fit_small (by omega)) (fit_small (by omega))).mono ?_)
  rintro e W5 ⟨s5, A5, n5, c5, t5, B5, m5, d5, rfl, hp5, hq5, hb⟩
  replace HF := Lib.hid (HF.out.keep hb)
  replace HT := Lib.hid (HT.out.keep hb)
  replace HM := Lib.hid (HM.out.keep hb)
  replace HB := Lib.hid (Gen.over hb HB.out)
  have HP5 := Lib.hid (hp5.cast' (y := 1) (by decide))
  have HQ5 := Lib.hid (hq5.cast' (y := 6) (by decide))
  clear hp5 hq5
  clear hb
  clear d3_0 d3_1 d3_2 d3_3 d4_0 d4_1 d4_2 d4_3
  replace HT := Lib.hid (HT.out.keep (Gen.b_alloc (x := (.cells (fC s5 A5 n5 c5 t5 B5 m5 d5) 43)) (Below.refl _ _)))
  replace HM := Lib.hid (HM.out.keep (Gen.b_alloc (x := (.cells (fC s5 A5 n5 c5 t5 B5 m5 d5) 43)) (Below.refl _ _)))
  replace HB := Lib.hid (Gen.b_alloc (x := (.cells (fC s5 A5 n5 c5 t5 B5 m5 d5) 43)) HB.out)
  replace HF := Lib.hid (HF.out.ad HP5.out HQ5.out)
  clear HP5 HQ5
  have d5_0 := (HF.out.row (.tail _ (.tail _ (.tail _ (.head _))))).cell 0
  have d5_1 := (HF.out.row (.tail _ (.tail _ (.tail _ (.head _))))).cell 1
  have d5_2 := (HF.out.row (.tail _ (.tail _ (.tail _ (.head _))))).cell 2
  have d5_3 := (HF.out.row (.tail _ (.tail _ (.tail _ (.head _))))).cell 3
  have d6_0 := (HF.out.row (.tail _ (.tail _ (.head _)))).cell 0
  have d6_1 := (HF.out.row (.tail _ (.tail _ (.head _)))).cell 1
  have d6_2 := (HF.out.row (.tail _ (.tail _ (.head _)))).cell 2
  have d6_3 := (HF.out.row (.tail _ (.tail _ (.head _)))).cell 3
  go_wp2_with (fail)
  go_must (refine (fmul_ok _ HB.out.size (HF.out.p (.tail _ (.tail _ (.tail _ (.head _))))) (HF.out.q (.tail _ (.tail _ (.tail _ (.head _))))) (HF.out.p (.tail _ (.tail _ (.head _)))) (HF.out.q (.tail _ (.tail _ (.head _)))) (by decide) (by decide) (fit_small (by omega)) (fit_small (by omega))).mono ?_)
  rintro e W6 ⟨s6, A6, n6, c6, t6, B6, m6, d6, rfl, hp6, hq6, hb⟩
  replace HF := Lib.hid (HF.out.keep hb)
  replace HT := Lib.hid (HT.out.keep hb)
  replace HM := Lib.hid (HM.out.keep hb)
  replace HB := Lib.hid (Gen.over hb HB.out)
  have HP6 := Lib.hid (hp6.cast' (y := 1) (by decide))
  have HQ6 := Lib.hid (hq6.cast' (y := 6) (by decide))
  clear hp6 hq6
  clear hb
  clear d5_0 d5_1 d5_2 d5_3 d6_0 d6_1 d6_2 d6_3
  replace HT := Lib.hid (HT.out.keep (Gen.b_alloc (x := (.cells (fC s6 A6 n6 c6 t6 B6 m6 d6) 43)) (Below.refl _ _)))
  replace HM := Lib.hid (HM.out.keep (Gen.b_alloc (x := (.cells (fC s6 A6 n6 c6 t6 B6 m6 d6) 43)) (Below.refl _ _)))
  replace HB := Lib.hid (Gen.b_alloc (x := (.cells (fC s6 A6 n6 c6 t6 B6 m6 d6) 43)) HB.out)
  replace HF := Lib.hid (HF.out.ad HP6.out HQ6.out)
  clear HP6 HQ6
  have d7_0 := (HF.out.row (.tail _ (.tail _ (.tail _ (.tail _ (.head _)))))).cell 0
  have d7_1 := (HF.out.row (.tail _ (.tail _ (.tail _ (.tail _ (.head _)))))).cell 1
  have d7_2 := (HF.out.row (.tail _ (.tail _ (.tail _ (.tail _ (.head _)))))).cell 2
  have d7_3 := (HF.out.row (.tail _ (.tail _ (.tail _ (.tail _ (.head _)))))).cell 3
  have d8_0 := (HF.out.row (.tail _ (.tail _ (.tail _ (.head _))))).cell 0
  have d8_1 := (HF.out.row (.tail _ (.tail _ (.tail _ (.head _))))).cell 1
  have d8_2 := (HF.out.row (.tail _ (.tail _ (.tail _ (.head _))))).cell 2
  have d8_3 := (HF.out.row (.tail _ (.tail _ (.tail _ (.head _))))).cell 3
  go_wp2_with (fail)
  go_must (refine (fdiv_ok _ HB.out.size (HF.out.p (.tail _ (.tail _ (.tail _ (.tail _ (.head _)))))) (HF.out.q (.tail _ (.tail _ (.tail _ (.tail _ (.head _)))))) (HF.out.p (.tail _ (.tail _ (.tail _ (.head _))))) (HF.out.q (.tail _ (.tail _ (.tail _ (.head _))))) (by decide) (by decide) (fit_small (by omega)) (fit_small (by omega)) (by omega)).mono ?_)
  rintro e W7 ⟨s7, A7, n7, c7, t7, B7, m7, d7, rfl, hp7, hq7, hb⟩
  replace HF := Lib.hid (HF.out.keep hb)
  replace HT := Lib.hid (HT.out.keep hb)
  replace HM := Lib.hid (HM.out.keep hb)
  replace HB := Lib.hid (Gen.over hb HB.out)
  have HP7 := Lib.hid (hp7.cast' (y := 3) (by decide))
  have HQ7 := Lib.hid (hq7.cast' (y := 2) (by decide))
  clear hp7 hq7
  clear hb
  clear d7_0 d7_1 d7_2 d7_3 d8_0 d8_1 d8_2 d8_3
  replace HT := Lib.hid (HT.out.keep (Gen.b_alloc (x := (.cells (fC s7 A7 n7 c7 t7 B7 m7 d7) 43)) (Below.refl _ _)))
  replace HM := Lib.hid (HM.out.keep (Gen.b_alloc (x := (.cells (fC s7 A7 n7 c7 t7 B7 m7 d7) 43)) (Below.refl _ _)))
  replace HB := Lib.hid (Gen.b_alloc (x := (.cells (fC s7 A7 n7 c7 t7 B7 m7 d7) 43)) HB.out)
  replace HF := Lib.hid (HF.out.ad HP7.out HQ7.out)
  clear HP7 HQ7
  go_wp2_with (fail)
  go_must (refine (fread_no [50, 47, 52] _ HB.out.size HM.out (by decide) ok1).mono ?_)
  rintro e W8 ⟨rfl, hb⟩
  replace HF := Lib.hid (HF.out.keep hb)
  replace HT := Lib.hid (HT.out.keep hb)
  replace HM := Lib.hid (HM.out.keep hb)
  replace HB := Lib.hid (Gen.over hb HB.out)
  clear hb
  replace HF := Lib.hid (HF.out.keep (Gen.b_alloc (x := (.cells fz4 43)) (Below.refl _ _)))
  replace HT := Lib.hid (HT.out.keep (Gen.b_alloc (x := (.cells fz4 43)) (Below.refl _ _)))
  replace HM := Lib.hid (HM.out.keep (Gen.b_alloc (x := (.cells fz4 43)) (Below.refl _ _)))
  replace HB := Lib.hid (Gen.b_alloc (x := (.cells fz4 43)) HB.out)
  go_wp2_with (fail)
  go_must (refine (fread_ok (N0 := w.heap.size) [45, 51, 47, 50] _ HB.out.size HM.out (by decide) ok2).mono ?_)
  rintro e W9 ⟨s9, A9, n9, c9, t9, B9, m9, d9, rfl, hp9, hq9, hb⟩
  replace HF := Lib.hid (HF.out.keep hb)
  replace HT := Lib.hid (HT.out.keep hb)
  replace HM := Lib.hid (HM.out.keep hb)
  replace HB := Lib.hid (Gen.over hb HB.out)
  have HP9 := Lib.hid (hp9.cast' ok3.1)
  have HQ9 := Lib.hid (hq9.cast' ok3.2)
  clear hp9 hq9
  clear hb
  replace HT := Lib.hid (HT.out.keep (Gen.b_alloc (x := (.cells (fC s9 A9 n9 c9 t9 B9 m9 d9) 43)) (Below.refl _ _)))
  replace HM := Lib.hid (HM.out.keep (Gen.b_alloc (x := (.cells (fC s9 A9 n9 c9 t9 B9 m9 d9) 43)) (Below.refl _ _)))
  replace HB := Lib.hid (Gen.b_alloc (x := (.cells (fC s9 A9 n9 c9 t9 B9 m9 d9) 43)) HB.out)
  replace HF := Lib.hid (HF.out.ad HP9.out HQ9.out)
  clear HP9 HQ9
  go_wp2_with (fail)
  go_must (refine (lof_as (N0 := w.heap.size) (6) (-4) (-3) (2) _ HB.out.size (i64_small (by omega)) (i64_small (by omega)) (by omega) (by decide) (by decide)).mono ?_)
  rintro e W10 ⟨s10, A10, n10, c10, t10, B10, m10, d10, rfl, hp10, hq10, hb⟩
  replace HF := Lib.hid (HF.out.keep hb)
  replace HT := Lib.hid (HT.out.keep hb)
  replace HM := Lib.hid (HM.out.keep hb)
  replace HB := Lib.hid (Gen.over hb HB.out)
  have HP10 := Lib.hid (hp10)
  have HQ10 := Lib.hid (hq10)
  clear hp10 hq10
  clear hb
  go_wp2_with (fail)
  go_must (refine (ftext_is _ HT.out (HP10.out) (HQ10.out) (by decide) ft1).mono ?_)
  rintro e W11 ⟨rfl, hb⟩
  replace HF := Lib.hid (HF.out.keep hb)
  replace HT := Lib.hid (HT.out.keep hb)
  replace HM := Lib.hid (HM.out.keep hb)
  replace HB := Lib.hid (Gen.over hb HB.out)
  clear hb
  go_wp2_with (fail)
  go_must (refine (lof_as (N0 := w.heap.size) (0) (7) (0) (1) _ HB.out.size (i64_small (by omega)) (i64_small (by omega)) (by omega) (by decide) (by decide)).mono ?_)
  rintro e W12 ⟨s12, A12, n12, c12, t12, B12, m12, d12, rfl, hp12, hq12, hb⟩
  replace HF := Lib.hid (HF.out.keep hb)
  replace HT := Lib.hid (HT.out.keep hb)
  replace HM := Lib.hid (HM.out.keep hb)
  replace HB := Lib.hid (Gen.over hb HB.out)
  have HP12 := Lib.hid (hp12)
  have HQ12 := Lib.hid (hq12)
  clear hp12 hq12
  clear hb
  go_wp2_with (fail)
  go_must (refine (ftext_is _ HT.out (HP12.out) (HQ12.out) (by decide) ft2).mono ?_)
  rintro e W13 ⟨rfl, hb⟩
  replace HF := Lib.hid (HF.out.keep hb)
  replace HT := Lib.hid (HT.out.keep hb)
  replace HM := Lib.hid (HM.out.keep hb)
  replace HB := Lib.hid (Gen.over hb HB.out)
  clear hb
  have d9_0 := (HF.out.row (.tail _ (.tail _ (.tail _ (.tail _ (.head _)))))).cell 0
  have d9_1 := (HF.out.row (.tail _ (.tail _ (.tail _ (.tail _ (.head _)))))).cell 1
  have d9_2 := (HF.out.row (.tail _ (.tail _ (.tail _ (.tail _ (.head _)))))).cell 2
  have d9_3 := (HF.out.row (.tail _ (.tail _ (.tail _ (.tail _ (.head _)))))).cell 3
  go_wp2_with (fail)
  go_must (refine (ftext_is _ HT.out (HF.out.p (.tail _ (.tail _ (.tail _ (.tail _ (.head _)))))) (HF.out.q (.tail _ (.tail _ (.tail _ (.tail _ (.head _)))))) (by decide) ft3).mono ?_)
  rintro e W14 ⟨rfl, hb⟩
  replace HF := Lib.hid (HF.out.keep hb)
  replace HT := Lib.hid (HT.out.keep hb)
  replace HM := Lib.hid (HM.out.keep hb)
  replace HB := Lib.hid (Gen.over hb HB.out)
  clear hb
  clear d9_0 d9_1 d9_2 d9_3
  have d10_0 := (HF.out.row (.tail _ (.tail _ (.tail _ (.head _))))).cell 0
  have d10_1 := (HF.out.row (.tail _ (.tail _ (.tail _ (.head _))))).cell 1
  have d10_2 := (HF.out.row (.tail _ (.tail _ (.tail _ (.head _))))).cell 2
  have d10_3 := (HF.out.row (.tail _ (.tail _ (.tail _ (.head _))))).cell 3
  go_wp2_with (fail)
  go_must (refine (ftext_is _ HT.out (HF.out.p (.tail _ (.tail _ (.tail _ (.head _))))) (HF.out.q (.tail _ (.tail _ (.tail _ (.head _))))) (by decide) ft4).mono ?_)
  rintro e W15 ⟨rfl, hb⟩
  replace HF := Lib.hid (HF.out.keep hb)
  replace HT := Lib.hid (HT.out.keep hb)
  replace HM := Lib.hid (HM.out.keep hb)
  replace HB := Lib.hid (Gen.over hb HB.out)
  clear hb
  clear d10_0 d10_1 d10_2 d10_3
  have d11_0 := (HF.out.row (.tail _ (.tail _ (.head _)))).cell 0
  have d11_1 := (HF.out.row (.tail _ (.tail _ (.head _)))).cell 1
  have d11_2 := (HF.out.row (.tail _ (.tail _ (.head _)))).cell 2
  have d11_3 := (HF.out.row (.tail _ (.tail _ (.head _)))).cell 3
  go_wp2_with (fail)
  go_must (refine (ftext_is _ HT.out (HF.out.p (.tail _ (.tail _ (.head _)))) (HF.out.q (.tail _ (.tail _ (.head _)))) (by decide) ft4).mono ?_)
  rintro e W16 ⟨rfl, hb⟩
  replace HF := Lib.hid (HF.out.keep hb)
  replace HT := Lib.hid (HT.out.keep hb)
  replace HM := Lib.hid (HM.out.keep hb)
  replace HB := Lib.hid (Gen.over hb HB.out)
  clear hb
  clear d11_0 d11_1 d11_2 d11_3
  have d12_0 := (HF.out.row (.tail _ (.head _))).cell 0
  have d12_1 := (HF.out.row (.tail _ (.head _))).cell 1
  have d12_2 := (HF.out.row (.tail _ (.head _))).cell 2
  have d12_3 := (HF.out.row (.tail _ (.head _))).cell 3
  go_wp2_with (fail)
  go_must (refine (ftext_is _ HT.out (HF.out.p (.tail _ (.head _))) (HF.out.q (.tail _ (.head _))) (by decide) ft5).mono ?_)
  rintro e W17 ⟨rfl, hb⟩
  replace HF := Lib.hid (HF.out.keep hb)
  replace HT := Lib.hid (HT.out.keep hb)
  replace HM := Lib.hid (HM.out.keep hb)
  replace HB := Lib.hid (Gen.over hb HB.out)
  clear hb
  clear d12_0 d12_1 d12_2 d12_3
  have HPm := Lib.hid (HF.out.p (.head _))
  have HQm := Lib.hid (HF.out.q (.head _))
  have HPa := Lib.hid (HF.out.p (.tail _ (.tail _ (.tail _ (.tail _ (.tail _ (.tail _ (.head _))))))))
  have HQa := Lib.hid (HF.out.q (.tail _ (.tail _ (.tail _ (.tail _ (.tail _ (.tail _ (.head _))))))))
  have HS0 : Hid (Below W17.heap.size W17 W17 ∧ W17.cell? ⟨W9.heap.size, 0, none⟩ = some (.int .i64 s9) ∧ W17.cell? ⟨W9.heap.size, 1, none⟩ = some (.slice A9 n9 c9) ∧ W17.cell? ⟨W9.heap.size, 2, none⟩ = some (.int .i64 t9) ∧ W17.cell? ⟨W9.heap.size, 3, none⟩ = some (.slice B9 m9 d9) ∧ W17.cell? ⟨W1.heap.size, 0, none⟩ = some (.int .i64 s1) ∧ W17.cell? ⟨W1.heap.size, 1, none⟩ = some (.slice A1 n1 c1) ∧ W17.cell? ⟨W1.heap.size, 2, none⟩ = some (.int .i64 t1) ∧ W17.cell? ⟨W1.heap.size, 3, none⟩ = some (.slice B1 m1 d1)) := Lib.hid ⟨Below.refl _ _, (HF.out.row (.head _)).cell 0, (HF.out.row (.head _)).cell 1, (HF.out.row (.head _)).cell 2, (HF.out.row (.head _)).cell 3, (HF.out.row (.tail _ (.tail _ (.tail _ (.tail _ (.tail _ (.tail _ (.head _)))))))).cell 0, (HF.out.row (.tail _ (.tail _ (.tail _ (.tail _ (.tail _ (.tail _ (.head _)))))))).cell 1, (HF.out.row (.tail _ (.tail _ (.tail _ (.tail _ (.tail _ (.tail _ (.head _)))))))).cell 2, (HF.out.row (.tail _ (.tail _ (.tail _ (.tail _ (.tail _ (.tail _ (.head _)))))))).cell 3⟩
  go_wp2_with (fail)
  go_region_held3 (fun W' : World => Below W17.heap.size W17 W' ∧ W'.cell? ⟨W9.heap.size, 0, none⟩ = some (.int .i64 s9) ∧ W'.cell? ⟨W9.heap.size, 1, none⟩ = some (.slice A9 n9 c9) ∧ W'.cell? ⟨W9.heap.size, 2, none⟩ = some (.int .i64 t9) ∧ W'.cell? ⟨W9.heap.size, 3, none⟩ = some (.slice B9 m9 d9) ∧ W'.cell? ⟨W1.heap.size, 0, none⟩ = some (.int .i64 s1) ∧ W'.cell? ⟨W1.heap.size, 1, none⟩ = some (.slice A1 n1 c1) ∧ W'.cell? ⟨W1.heap.size, 2, none⟩ = some (.int .i64 t1) ∧ W'.cell? ⟨W1.heap.size, 3, none⟩ = some (.slice B1 m1 d1))
    (first | exact hS5 | exact ⟨HS0.out.1.drew, HS0.out.2⟩ | fail "keep")
    (first
      | (go_at_call 64; (with_reducible refine (lof_as (N0 := w.heap.size) (-1) (2) (-1) (2) _ (Nat.le_trans HB.out.size (Below.size (And.left (by assumption)))) (i64_small (by omega)) (i64_small (by omega)) (by omega) (by decide) (by decide)).mono ?_); rintro e' w' ⟨y1, y2, y3, y4, y5, y6, y7, y8, rfl, hx1p, hx1q, hb⟩; (try (first | have hx2p := IsBig.keep hx2p hb | have hx2p := IsBig.keep (IsBig.drw hx2p) hb)); (try (first | have hx2q := IsBig.keep hx2q hb | have hx2q := IsBig.keep (IsBig.drw hx2q) hb)); (try (first | have hx3p := IsBig.keep hx3p hb | have hx3p := IsBig.keep (IsBig.drw hx3p) hb)); (try (first | have hx3q := IsBig.keep hx3q hb | have hx3q := IsBig.keep (IsBig.drw hx3q) hb)); (try (first | have hfl := IsBig.keep hfl hb | have hfl := IsBig.keep (IsBig.drw hfl) hb)); (try (first | have ho2 := IsBig.keep ho2 hb | have ho2 := IsBig.keep (IsBig.drw ho2) hb)); have hS5 := (show (Below W17.heap.size W17 w' ∧ w'.cell? ⟨W9.heap.size, 0, none⟩ = some (.int .i64 s9) ∧ w'.cell? ⟨W9.heap.size, 1, none⟩ = some (.slice A9 n9 c9) ∧ w'.cell? ⟨W9.heap.size, 2, none⟩ = some (.int .i64 t9) ∧ w'.cell? ⟨W9.heap.size, 3, none⟩ = some (.slice B9 m9 d9) ∧ w'.cell? ⟨W1.heap.size, 0, none⟩ = some (.int .i64 s1) ∧ w'.cell? ⟨W1.heap.size, 1, none⟩ = some (.slice A1 n1 c1) ∧ w'.cell? ⟨W1.heap.size, 2, none⟩ = some (.int .i64 t1) ∧ w'.cell? ⟨W1.heap.size, 3, none⟩ = some (.slice B1 m1 d1)) from ⟨Gen.over hb (And.left (by assumption)), Gen.keep hb (And.left (And.right (by assumption))), Gen.keep hb (And.left (And.right (And.right (by assumption)))), Gen.keep hb (And.left (And.right (And.right (And.right (by assumption))))), Gen.keep hb (And.left (And.right (And.right (And.right (And.right (by assumption)))))), Gen.keep hb (And.left (And.right (And.right (And.right (And.right (And.right (by assumption))))))), Gen.keep hb (And.left (And.right (And.right (And.right (And.right (And.right (And.right (by assumption)))))))), Gen.keep hb (And.left (And.right (And.right (And.right (And.right (And.right (And.right (And.right (by assumption))))))))), Gen.keep hb (And.right (And.right (And.right (And.right (And.right (And.right (And.right (And.right (by assumption)))))))))⟩))
      | (go_at_call 64; (with_reducible refine (lof_as (N0 := w.heap.size) (-1) (3) (-1) (3) _ (Nat.le_trans HB.out.size (Below.size (And.left (by assumption)))) (i64_small (by omega)) (i64_small (by omega)) (by omega) (by decide) (by decide)).mono ?_); rintro e' w' ⟨y1, y2, y3, y4, y5, y6, y7, y8, rfl, hx2p, hx2q, hb⟩; (try (first | have hx1p := IsBig.keep hx1p hb | have hx1p := IsBig.keep (IsBig.drw hx1p) hb)); (try (first | have hx1q := IsBig.keep hx1q hb | have hx1q := IsBig.keep (IsBig.drw hx1q) hb)); (try (first | have hx3p := IsBig.keep hx3p hb | have hx3p := IsBig.keep (IsBig.drw hx3p) hb)); (try (first | have hx3q := IsBig.keep hx3q hb | have hx3q := IsBig.keep (IsBig.drw hx3q) hb)); (try (first | have hfl := IsBig.keep hfl hb | have hfl := IsBig.keep (IsBig.drw hfl) hb)); (try (first | have ho2 := IsBig.keep ho2 hb | have ho2 := IsBig.keep (IsBig.drw ho2) hb)); have hS5 := (show (Below W17.heap.size W17 w' ∧ w'.cell? ⟨W9.heap.size, 0, none⟩ = some (.int .i64 s9) ∧ w'.cell? ⟨W9.heap.size, 1, none⟩ = some (.slice A9 n9 c9) ∧ w'.cell? ⟨W9.heap.size, 2, none⟩ = some (.int .i64 t9) ∧ w'.cell? ⟨W9.heap.size, 3, none⟩ = some (.slice B9 m9 d9) ∧ w'.cell? ⟨W1.heap.size, 0, none⟩ = some (.int .i64 s1) ∧ w'.cell? ⟨W1.heap.size, 1, none⟩ = some (.slice A1 n1 c1) ∧ w'.cell? ⟨W1.heap.size, 2, none⟩ = some (.int .i64 t1) ∧ w'.cell? ⟨W1.heap.size, 3, none⟩ = some (.slice B1 m1 d1)) from ⟨Gen.over hb (And.left (by assumption)), Gen.keep hb (And.left (And.right (by assumption))), Gen.keep hb (And.left (And.right (And.right (by assumption)))), Gen.keep hb (And.left (And.right (And.right (And.right (by assumption))))), Gen.keep hb (And.left (And.right (And.right (And.right (And.right (by assumption)))))), Gen.keep hb (And.left (And.right (And.right (And.right (And.right (And.right (by assumption))))))), Gen.keep hb (And.left (And.right (And.right (And.right (And.right (And.right (And.right (by assumption)))))))), Gen.keep hb (And.left (And.right (And.right (And.right (And.right (And.right (And.right (And.right (by assumption))))))))), Gen.keep hb (And.right (And.right (And.right (And.right (And.right (And.right (And.right (And.right (by assumption)))))))))⟩))
      | (go_at_call 64; (with_reducible refine (lof_as (N0 := w.heap.size) (-3) (2) (-3) (2) _ (Nat.le_trans HB.out.size (Below.size (And.left (by assumption)))) (i64_small (by omega)) (i64_small (by omega)) (by omega) (by decide) (by decide)).mono ?_); rintro e' w' ⟨y1, y2, y3, y4, y5, y6, y7, y8, rfl, hx3p, hx3q, hb⟩; (try (first | have hx1p := IsBig.keep hx1p hb | have hx1p := IsBig.keep (IsBig.drw hx1p) hb)); (try (first | have hx1q := IsBig.keep hx1q hb | have hx1q := IsBig.keep (IsBig.drw hx1q) hb)); (try (first | have hx2p := IsBig.keep hx2p hb | have hx2p := IsBig.keep (IsBig.drw hx2p) hb)); (try (first | have hx2q := IsBig.keep hx2q hb | have hx2q := IsBig.keep (IsBig.drw hx2q) hb)); (try (first | have hfl := IsBig.keep hfl hb | have hfl := IsBig.keep (IsBig.drw hfl) hb)); (try (first | have ho2 := IsBig.keep ho2 hb | have ho2 := IsBig.keep (IsBig.drw ho2) hb)); have hS5 := (show (Below W17.heap.size W17 w' ∧ w'.cell? ⟨W9.heap.size, 0, none⟩ = some (.int .i64 s9) ∧ w'.cell? ⟨W9.heap.size, 1, none⟩ = some (.slice A9 n9 c9) ∧ w'.cell? ⟨W9.heap.size, 2, none⟩ = some (.int .i64 t9) ∧ w'.cell? ⟨W9.heap.size, 3, none⟩ = some (.slice B9 m9 d9) ∧ w'.cell? ⟨W1.heap.size, 0, none⟩ = some (.int .i64 s1) ∧ w'.cell? ⟨W1.heap.size, 1, none⟩ = some (.slice A1 n1 c1) ∧ w'.cell? ⟨W1.heap.size, 2, none⟩ = some (.int .i64 t1) ∧ w'.cell? ⟨W1.heap.size, 3, none⟩ = some (.slice B1 m1 d1)) from ⟨Gen.over hb (And.left (by assumption)), Gen.keep hb (And.left (And.right (by assumption))), Gen.keep hb (And.left (And.right (And.right (by assumption)))), Gen.keep hb (And.left (And.right (And.right (And.right (by assumption))))), Gen.keep hb (And.left (And.right (And.right (And.right (And.right (by assumption)))))), Gen.keep hb (And.left (And.right (And.right (And.right (And.right (And.right (by assumption))))))), Gen.keep hb (And.left (And.right (And.right (And.right (And.right (And.right (And.right (by assumption)))))))), Gen.keep hb (And.left (And.right (And.right (And.right (And.right (And.right (And.right (And.right (by assumption))))))))), Gen.keep hb (And.right (And.right (And.right (And.right (And.right (And.right (And.right (And.right (by assumption)))))))))⟩))
      | (go_at_call 56; (with_reducible refine (fcmp_is (k := -1) _ (Nat.le_trans HB.out.size (Below.size (And.left (by assumption)))) (by first | exact hx1p | exact IsBig.drw hx1p) (by first | exact hx1q | exact IsBig.drw hx1q) (by first | exact hx2p | exact IsBig.drw hx2p) (by first | exact hx2q | exact IsBig.drw hx2q) (by decide) (by decide) (fit_small (by omega)) (fit_small (by omega)) (by decide)).mono ?_); rintro e' w' ⟨rfl, hb⟩; (try (first | have hx1p := IsBig.keep hx1p hb | have hx1p := IsBig.keep (IsBig.drw hx1p) hb)); (try (first | have hx1q := IsBig.keep hx1q hb | have hx1q := IsBig.keep (IsBig.drw hx1q) hb)); (try (first | have hx2p := IsBig.keep hx2p hb | have hx2p := IsBig.keep (IsBig.drw hx2p) hb)); (try (first | have hx2q := IsBig.keep hx2q hb | have hx2q := IsBig.keep (IsBig.drw hx2q) hb)); (try (first | have hx3p := IsBig.keep hx3p hb | have hx3p := IsBig.keep (IsBig.drw hx3p) hb)); (try (first | have hx3q := IsBig.keep hx3q hb | have hx3q := IsBig.keep (IsBig.drw hx3q) hb)); (try (first | have hfl := IsBig.keep hfl hb | have hfl := IsBig.keep (IsBig.drw hfl) hb)); (try (first | have ho2 := IsBig.keep ho2 hb | have ho2 := IsBig.keep (IsBig.drw ho2) hb)); have hS5 := (show (Below W17.heap.size W17 w' ∧ w'.cell? ⟨W9.heap.size, 0, none⟩ = some (.int .i64 s9) ∧ w'.cell? ⟨W9.heap.size, 1, none⟩ = some (.slice A9 n9 c9) ∧ w'.cell? ⟨W9.heap.size, 2, none⟩ = some (.int .i64 t9) ∧ w'.cell? ⟨W9.heap.size, 3, none⟩ = some (.slice B9 m9 d9) ∧ w'.cell? ⟨W1.heap.size, 0, none⟩ = some (.int .i64 s1) ∧ w'.cell? ⟨W1.heap.size, 1, none⟩ = some (.slice A1 n1 c1) ∧ w'.cell? ⟨W1.heap.size, 2, none⟩ = some (.int .i64 t1) ∧ w'.cell? ⟨W1.heap.size, 3, none⟩ = some (.slice B1 m1 d1)) from ⟨Gen.over hb (And.left (by assumption)), Gen.keep hb (And.left (And.right (by assumption))), Gen.keep hb (And.left (And.right (And.right (by assumption)))), Gen.keep hb (And.left (And.right (And.right (And.right (by assumption))))), Gen.keep hb (And.left (And.right (And.right (And.right (And.right (by assumption)))))), Gen.keep hb (And.left (And.right (And.right (And.right (And.right (And.right (by assumption))))))), Gen.keep hb (And.left (And.right (And.right (And.right (And.right (And.right (And.right (by assumption)))))))), Gen.keep hb (And.left (And.right (And.right (And.right (And.right (And.right (And.right (And.right (by assumption))))))))), Gen.keep hb (And.right (And.right (And.right (And.right (And.right (And.right (And.right (And.right (by assumption)))))))))⟩))
      | (go_at_call 61; (with_reducible refine (ffloor_is (z := -2) _ (Nat.le_trans HB.out.size (Below.size (And.left (by assumption)))) (by first | exact hx3p | exact IsBig.drw hx3p) (by first | exact hx3q | exact IsBig.drw hx3q) (by decide) (by decide)).mono ?_); rintro e' w' ⟨z1, z2, z3, rfl, hfl, hb⟩; (try (first | have hx1p := IsBig.keep hx1p hb | have hx1p := IsBig.keep (IsBig.drw hx1p) hb)); (try (first | have hx1q := IsBig.keep hx1q hb | have hx1q := IsBig.keep (IsBig.drw hx1q) hb)); (try (first | have hx2p := IsBig.keep hx2p hb | have hx2p := IsBig.keep (IsBig.drw hx2p) hb)); (try (first | have hx2q := IsBig.keep hx2q hb | have hx2q := IsBig.keep (IsBig.drw hx2q) hb)); (try (first | have hx3p := IsBig.keep hx3p hb | have hx3p := IsBig.keep (IsBig.drw hx3p) hb)); (try (first | have hx3q := IsBig.keep hx3q hb | have hx3q := IsBig.keep (IsBig.drw hx3q) hb)); (try (first | have ho2 := IsBig.keep ho2 hb | have ho2 := IsBig.keep (IsBig.drw ho2) hb)); have hS5 := (show (Below W17.heap.size W17 w' ∧ w'.cell? ⟨W9.heap.size, 0, none⟩ = some (.int .i64 s9) ∧ w'.cell? ⟨W9.heap.size, 1, none⟩ = some (.slice A9 n9 c9) ∧ w'.cell? ⟨W9.heap.size, 2, none⟩ = some (.int .i64 t9) ∧ w'.cell? ⟨W9.heap.size, 3, none⟩ = some (.slice B9 m9 d9) ∧ w'.cell? ⟨W1.heap.size, 0, none⟩ = some (.int .i64 s1) ∧ w'.cell? ⟨W1.heap.size, 1, none⟩ = some (.slice A1 n1 c1) ∧ w'.cell? ⟨W1.heap.size, 2, none⟩ = some (.int .i64 t1) ∧ w'.cell? ⟨W1.heap.size, 3, none⟩ = some (.slice B1 m1 d1)) from ⟨Gen.over hb (And.left (by assumption)), Gen.keep hb (And.left (And.right (by assumption))), Gen.keep hb (And.left (And.right (And.right (by assumption)))), Gen.keep hb (And.left (And.right (And.right (And.right (by assumption))))), Gen.keep hb (And.left (And.right (And.right (And.right (And.right (by assumption)))))), Gen.keep hb (And.left (And.right (And.right (And.right (And.right (And.right (by assumption))))))), Gen.keep hb (And.left (And.right (And.right (And.right (And.right (And.right (And.right (by assumption)))))))), Gen.keep hb (And.left (And.right (And.right (And.right (And.right (And.right (And.right (And.right (by assumption))))))))), Gen.keep hb (And.right (And.right (And.right (And.right (And.right (And.right (And.right (And.right (by assumption)))))))))⟩))
      | (go_at_call 35; (with_reducible refine (of_as (N0 := w.heap.size) (-2) _ (i64_small (by omega))).mono ?_); rintro e' w' ⟨z4, z5, z6, rfl, ho2, hb⟩; (try (first | have hx1p := IsBig.keep hx1p hb | have hx1p := IsBig.keep (IsBig.drw hx1p) hb)); (try (first | have hx1q := IsBig.keep hx1q hb | have hx1q := IsBig.keep (IsBig.drw hx1q) hb)); (try (first | have hx2p := IsBig.keep hx2p hb | have hx2p := IsBig.keep (IsBig.drw hx2p) hb)); (try (first | have hx2q := IsBig.keep hx2q hb | have hx2q := IsBig.keep (IsBig.drw hx2q) hb)); (try (first | have hx3p := IsBig.keep hx3p hb | have hx3p := IsBig.keep (IsBig.drw hx3p) hb)); (try (first | have hx3q := IsBig.keep hx3q hb | have hx3q := IsBig.keep (IsBig.drw hx3q) hb)); (try (first | have hfl := IsBig.keep hfl hb | have hfl := IsBig.keep (IsBig.drw hfl) hb)); have hS5 := (show (Below W17.heap.size W17 w' ∧ w'.cell? ⟨W9.heap.size, 0, none⟩ = some (.int .i64 s9) ∧ w'.cell? ⟨W9.heap.size, 1, none⟩ = some (.slice A9 n9 c9) ∧ w'.cell? ⟨W9.heap.size, 2, none⟩ = some (.int .i64 t9) ∧ w'.cell? ⟨W9.heap.size, 3, none⟩ = some (.slice B9 m9 d9) ∧ w'.cell? ⟨W1.heap.size, 0, none⟩ = some (.int .i64 s1) ∧ w'.cell? ⟨W1.heap.size, 1, none⟩ = some (.slice A1 n1 c1) ∧ w'.cell? ⟨W1.heap.size, 2, none⟩ = some (.int .i64 t1) ∧ w'.cell? ⟨W1.heap.size, 3, none⟩ = some (.slice B1 m1 d1)) from ⟨Gen.over hb (And.left (by assumption)), Gen.keep hb (And.left (And.right (by assumption))), Gen.keep hb (And.left (And.right (And.right (by assumption)))), Gen.keep hb (And.left (And.right (And.right (And.right (by assumption))))), Gen.keep hb (And.left (And.right (And.right (And.right (And.right (by assumption)))))), Gen.keep hb (And.left (And.right (And.right (And.right (And.right (And.right (by assumption))))))), Gen.keep hb (And.left (And.right (And.right (And.right (And.right (And.right (And.right (by assumption)))))))), Gen.keep hb (And.left (And.right (And.right (And.right (And.right (And.right (And.right (And.right (by assumption))))))))), Gen.keep hb (And.right (And.right (And.right (And.right (And.right (And.right (And.right (And.right (by assumption)))))))))⟩))
      | (go_at_call 60; (with_reducible refine (sbig_yes _ (by first | exact hfl | exact IsBig.drw hfl) (by first | exact ho2 | exact IsBig.drw ho2)).mono ?_); rintro e' w' ⟨rfl, hb⟩; (try (first | have hx1p := IsBig.keep hx1p hb | have hx1p := IsBig.keep (IsBig.drw hx1p) hb)); (try (first | have hx1q := IsBig.keep hx1q hb | have hx1q := IsBig.keep (IsBig.drw hx1q) hb)); (try (first | have hx2p := IsBig.keep hx2p hb | have hx2p := IsBig.keep (IsBig.drw hx2p) hb)); (try (first | have hx2q := IsBig.keep hx2q hb | have hx2q := IsBig.keep (IsBig.drw hx2q) hb)); (try (first | have hx3p := IsBig.keep hx3p hb | have hx3p := IsBig.keep (IsBig.drw hx3p) hb)); (try (first | have hx3q := IsBig.keep hx3q hb | have hx3q := IsBig.keep (IsBig.drw hx3q) hb)); (try (first | have hfl := IsBig.keep hfl hb | have hfl := IsBig.keep (IsBig.drw hfl) hb)); (try (first | have ho2 := IsBig.keep ho2 hb | have ho2 := IsBig.keep (IsBig.drw ho2) hb)); have hS5 := (show (Below W17.heap.size W17 w' ∧ w'.cell? ⟨W9.heap.size, 0, none⟩ = some (.int .i64 s9) ∧ w'.cell? ⟨W9.heap.size, 1, none⟩ = some (.slice A9 n9 c9) ∧ w'.cell? ⟨W9.heap.size, 2, none⟩ = some (.int .i64 t9) ∧ w'.cell? ⟨W9.heap.size, 3, none⟩ = some (.slice B9 m9 d9) ∧ w'.cell? ⟨W1.heap.size, 0, none⟩ = some (.int .i64 s1) ∧ w'.cell? ⟨W1.heap.size, 1, none⟩ = some (.slice A1 n1 c1) ∧ w'.cell? ⟨W1.heap.size, 2, none⟩ = some (.int .i64 t1) ∧ w'.cell? ⟨W1.heap.size, 3, none⟩ = some (.slice B1 m1 d1)) from ⟨Gen.over hb (And.left (by assumption)), Gen.keep hb (And.left (And.right (by assumption))), Gen.keep hb (And.left (And.right (And.right (by assumption)))), Gen.keep hb (And.left (And.right (And.right (And.right (by assumption))))), Gen.keep hb (And.left (And.right (And.right (And.right (And.right (by assumption)))))), Gen.keep hb (And.left (And.right (And.right (And.right (And.right (And.right (by assumption))))))), Gen.keep hb (And.left (And.right (And.right (And.right (And.right (And.right (And.right (by assumption)))))))), Gen.keep hb (And.left (And.right (And.right (And.right (And.right (And.right (And.right (And.right (by assumption))))))))), Gen.keep hb (And.right (And.right (And.right (And.right (And.right (And.right (And.right (And.right (by assumption)))))))))⟩))
      | (go_at_call 43; (with_reducible refine (fsame_yes _ (HPm.out.keep (And.left (by assumption))) (HQm.out.keep (And.left (by assumption))) (by first | exact hx3p | exact IsBig.drw hx3p) (by first | exact hx3q | exact IsBig.drw hx3q)).mono ?_); rintro e' w' ⟨rfl, hb⟩; (try (first | have hx1p := IsBig.keep hx1p hb | have hx1p := IsBig.keep (IsBig.drw hx1p) hb)); (try (first | have hx1q := IsBig.keep hx1q hb | have hx1q := IsBig.keep (IsBig.drw hx1q) hb)); (try (first | have hx2p := IsBig.keep hx2p hb | have hx2p := IsBig.keep (IsBig.drw hx2p) hb)); (try (first | have hx2q := IsBig.keep hx2q hb | have hx2q := IsBig.keep (IsBig.drw hx2q) hb)); (try (first | have hx3p := IsBig.keep hx3p hb | have hx3p := IsBig.keep (IsBig.drw hx3p) hb)); (try (first | have hx3q := IsBig.keep hx3q hb | have hx3q := IsBig.keep (IsBig.drw hx3q) hb)); (try (first | have hfl := IsBig.keep hfl hb | have hfl := IsBig.keep (IsBig.drw hfl) hb)); (try (first | have ho2 := IsBig.keep ho2 hb | have ho2 := IsBig.keep (IsBig.drw ho2) hb)); have hS5 := (show (Below W17.heap.size W17 w' ∧ w'.cell? ⟨W9.heap.size, 0, none⟩ = some (.int .i64 s9) ∧ w'.cell? ⟨W9.heap.size, 1, none⟩ = some (.slice A9 n9 c9) ∧ w'.cell? ⟨W9.heap.size, 2, none⟩ = some (.int .i64 t9) ∧ w'.cell? ⟨W9.heap.size, 3, none⟩ = some (.slice B9 m9 d9) ∧ w'.cell? ⟨W1.heap.size, 0, none⟩ = some (.int .i64 s1) ∧ w'.cell? ⟨W1.heap.size, 1, none⟩ = some (.slice A1 n1 c1) ∧ w'.cell? ⟨W1.heap.size, 2, none⟩ = some (.int .i64 t1) ∧ w'.cell? ⟨W1.heap.size, 3, none⟩ = some (.slice B1 m1 d1)) from ⟨Gen.over hb (And.left (by assumption)), Gen.keep hb (And.left (And.right (by assumption))), Gen.keep hb (And.left (And.right (And.right (by assumption)))), Gen.keep hb (And.left (And.right (And.right (And.right (by assumption))))), Gen.keep hb (And.left (And.right (And.right (And.right (And.right (by assumption)))))), Gen.keep hb (And.left (And.right (And.right (And.right (And.right (And.right (by assumption))))))), Gen.keep hb (And.left (And.right (And.right (And.right (And.right (And.right (And.right (by assumption)))))))), Gen.keep hb (And.left (And.right (And.right (And.right (And.right (And.right (And.right (And.right (by assumption))))))))), Gen.keep hb (And.right (And.right (And.right (And.right (And.right (And.right (And.right (And.right (by assumption)))))))))⟩))
      | (go_at_call 54; (with_reducible refine (fright_yes _ (HPa.out.keep (And.left (by assumption))) (HQa.out.keep (And.left (by assumption))) (by decide)).mono ?_); rintro e' w' ⟨rfl, hb⟩; (try (first | have hx1p := IsBig.keep hx1p hb | have hx1p := IsBig.keep (IsBig.drw hx1p) hb)); (try (first | have hx1q := IsBig.keep hx1q hb | have hx1q := IsBig.keep (IsBig.drw hx1q) hb)); (try (first | have hx2p := IsBig.keep hx2p hb | have hx2p := IsBig.keep (IsBig.drw hx2p) hb)); (try (first | have hx2q := IsBig.keep hx2q hb | have hx2q := IsBig.keep (IsBig.drw hx2q) hb)); (try (first | have hx3p := IsBig.keep hx3p hb | have hx3p := IsBig.keep (IsBig.drw hx3p) hb)); (try (first | have hx3q := IsBig.keep hx3q hb | have hx3q := IsBig.keep (IsBig.drw hx3q) hb)); (try (first | have hfl := IsBig.keep hfl hb | have hfl := IsBig.keep (IsBig.drw hfl) hb)); (try (first | have ho2 := IsBig.keep ho2 hb | have ho2 := IsBig.keep (IsBig.drw ho2) hb)); have hS5 := (show (Below W17.heap.size W17 w' ∧ w'.cell? ⟨W9.heap.size, 0, none⟩ = some (.int .i64 s9) ∧ w'.cell? ⟨W9.heap.size, 1, none⟩ = some (.slice A9 n9 c9) ∧ w'.cell? ⟨W9.heap.size, 2, none⟩ = some (.int .i64 t9) ∧ w'.cell? ⟨W9.heap.size, 3, none⟩ = some (.slice B9 m9 d9) ∧ w'.cell? ⟨W1.heap.size, 0, none⟩ = some (.int .i64 s1) ∧ w'.cell? ⟨W1.heap.size, 1, none⟩ = some (.slice A1 n1 c1) ∧ w'.cell? ⟨W1.heap.size, 2, none⟩ = some (.int .i64 t1) ∧ w'.cell? ⟨W1.heap.size, 3, none⟩ = some (.slice B1 m1 d1)) from ⟨Gen.over hb (And.left (by assumption)), Gen.keep hb (And.left (And.right (by assumption))), Gen.keep hb (And.left (And.right (And.right (by assumption)))), Gen.keep hb (And.left (And.right (And.right (And.right (by assumption))))), Gen.keep hb (And.left (And.right (And.right (And.right (And.right (by assumption)))))), Gen.keep hb (And.left (And.right (And.right (And.right (And.right (And.right (by assumption))))))), Gen.keep hb (And.left (And.right (And.right (And.right (And.right (And.right (And.right (by assumption)))))))), Gen.keep hb (And.left (And.right (And.right (And.right (And.right (And.right (And.right (And.right (by assumption))))))))), Gen.keep hb (And.right (And.right (And.right (And.right (And.right (And.right (And.right (And.right (by assumption)))))))))⟩))
      | (go_at_call 54; (with_reducible refine (fright_zero _).mono ?_); rintro e' w' ⟨rfl, hb⟩; (try (first | have hx1p := IsBig.keep hx1p hb | have hx1p := IsBig.keep (IsBig.drw hx1p) hb)); (try (first | have hx1q := IsBig.keep hx1q hb | have hx1q := IsBig.keep (IsBig.drw hx1q) hb)); (try (first | have hx2p := IsBig.keep hx2p hb | have hx2p := IsBig.keep (IsBig.drw hx2p) hb)); (try (first | have hx2q := IsBig.keep hx2q hb | have hx2q := IsBig.keep (IsBig.drw hx2q) hb)); (try (first | have hx3p := IsBig.keep hx3p hb | have hx3p := IsBig.keep (IsBig.drw hx3p) hb)); (try (first | have hx3q := IsBig.keep hx3q hb | have hx3q := IsBig.keep (IsBig.drw hx3q) hb)); (try (first | have hfl := IsBig.keep hfl hb | have hfl := IsBig.keep (IsBig.drw hfl) hb)); (try (first | have ho2 := IsBig.keep ho2 hb | have ho2 := IsBig.keep (IsBig.drw ho2) hb)); have hS5 := (show (Below W17.heap.size W17 w' ∧ w'.cell? ⟨W9.heap.size, 0, none⟩ = some (.int .i64 s9) ∧ w'.cell? ⟨W9.heap.size, 1, none⟩ = some (.slice A9 n9 c9) ∧ w'.cell? ⟨W9.heap.size, 2, none⟩ = some (.int .i64 t9) ∧ w'.cell? ⟨W9.heap.size, 3, none⟩ = some (.slice B9 m9 d9) ∧ w'.cell? ⟨W1.heap.size, 0, none⟩ = some (.int .i64 s1) ∧ w'.cell? ⟨W1.heap.size, 1, none⟩ = some (.slice A1 n1 c1) ∧ w'.cell? ⟨W1.heap.size, 2, none⟩ = some (.int .i64 t1) ∧ w'.cell? ⟨W1.heap.size, 3, none⟩ = some (.slice B1 m1 d1)) from ⟨Gen.over hb (And.left (by assumption)), Gen.keep hb (And.left (And.right (by assumption))), Gen.keep hb (And.left (And.right (And.right (by assumption)))), Gen.keep hb (And.left (And.right (And.right (And.right (by assumption))))), Gen.keep hb (And.left (And.right (And.right (And.right (And.right (by assumption)))))), Gen.keep hb (And.left (And.right (And.right (And.right (And.right (And.right (by assumption))))))), Gen.keep hb (And.left (And.right (And.right (And.right (And.right (And.right (And.right (by assumption)))))))), Gen.keep hb (And.left (And.right (And.right (And.right (And.right (And.right (And.right (And.right (by assumption))))))))), Gen.keep hb (And.right (And.right (And.right (And.right (And.right (And.right (And.right (And.right (by assumption)))))))))⟩))
      | fail "arm")
  all_goals
    have HG := Lib.hid (Gen.over hS5.1 HB.out)
    go_wp2
    go_ret
    exact ⟨rfl, HG.out⟩
end Go.Proofs.YtnifkianjpjahaaGreatDoor.Bg
/- Fractions: parts in lowest terms, plain facts. -/
namespace Go.Proofs.YtnifkianjpjahaaGreatDoor.Bg
open Go.RowKit Go.Proofs.YtnifkianjpjahaaGreatDoor.Cell
set_option linter.unusedVariables false

theorem dr_zero {x g : Int} (hg : g ≠ 0) (h : g ∣ x) : dr x g = 0 := by
  unfold dr
  split
  · exact Int.emod_eq_zero_of_dvd h
  · rw [Int.emod_eq_zero_of_dvd (Int.neg_dvd.2 (Int.dvd_neg.2 h))]
    rfl
theorem dvd_mul_dq {x g : Int} (hg : g ≠ 0) (h : g ∣ x) : dq x g * g = x := by
  have h1 := dq_dr x g
  rw [dr_zero hg h] at h1
  omega
theorem gq_dvd (p q : Int) : gq p q ∣ p ∧ gq p q ∣ q := by
  have h1 : ((Int.gcd p q : Nat) : Int) ∣ p := Int.gcd_dvd_left ..
  have h2 : ((Int.gcd p q : Nat) : Int) ∣ q := Int.gcd_dvd_right ..
  unfold gq
  split
  · exact ⟨Int.neg_dvd.2 h1, Int.neg_dvd.2 h2⟩
  · exact ⟨h1, h2⟩
theorem np_mul {p q : Int} (h : q ≠ 0) : np p q * gq p q = p := dvd_mul_dq (gq_ne h) (gq_dvd p q).1
theorem nq_mul {p q : Int} (h : q ≠ 0) : nq p q * gq p q = q := dvd_mul_dq (gq_ne h) (gq_dvd p q).2
theorem gq_sign {p q : Int} (h : q ≠ 0) : (0 < gq p q ↔ 0 < q) := by
  have h1 := gq_ne (p := p) h
  unfold gq at h1 ⊢
  split
  · omega
  · rename_i hq
    rw [if_neg hq] at h1
    omega
theorem nq_pos {p q : Int} (h : q ≠ 0) : 0 < nq p q := by
  have h1 := nq_mul (p := p) h
  have h2 := gq_sign (p := p) h
  have h3 := gq_ne (p := p) h
  rcases Int.lt_trichotomy (nq p q) 0 with h4 | h4 | h4
  · exfalso
    by_cases h5 : 0 < gq p q
    · have := Int.mul_neg_of_neg_of_pos h4 h5
      omega
    · have := Int.mul_pos_of_neg_of_neg h4 (show gq p q < 0 by omega)
      omega
  · rw [h4, Int.zero_mul] at h1
    omega
  · exact h4
theorem rt_new {p q : Int} (h : q ≠ 0) : Rt (np p q) (nq p q) := by
  refine ⟨nq_pos h, ?_⟩
  have h1 : Int.gcd (np p q * gq p q) (nq p q * gq p q) = Int.gcd (np p q) (nq p q) * (gq p q).natAbs := by
    show Nat.gcd (np p q * gq p q).natAbs (nq p q * gq p q).natAbs = _
    rw [Int.natAbs_mul, Int.natAbs_mul, Nat.gcd_mul_right]
    rfl
  rw [np_mul h, nq_mul h] at h1
  have h2 : (gq p q).natAbs = Int.gcd p q := by
    unfold gq
    split <;> omega
  have h3 : 0 < Int.gcd p q := by
    have := gq_ne (p := p) h
    omega
  rw [h2] at h1
  exact Nat.eq_of_mul_eq_mul_right h3 (by rw [Nat.one_mul]; exact h1.symm)
theorem cop_dvd {a b c : Int} (h : a ∣ b * c) (hg : Int.gcd a b = 1) : a ∣ c := by
  refine Int.natAbs_dvd_natAbs.1 ?_
  have h1 := Int.natAbs_dvd_natAbs.2 h
  rw [Int.natAbs_mul] at h1
  exact Nat.Coprime.dvd_of_dvd_mul_left (show Nat.gcd a.natAbs b.natAbs = 1 from hg) h1
/-- the parts of a fraction in lowest terms are these alone -/
theorem rt_eq {p q x y : Int} (h1 : Rt p q) (h2 : Rt x y) (h : p * y = x * q) : p = x ∧ q = y := by
  obtain ⟨q0, g1⟩ := h1
  obtain ⟨y0, g2⟩ := h2
  have d1 : q ∣ y := by
    have h3 : q ∣ p * y := ⟨x, by rw [h, Int.mul_comm]⟩
    exact cop_dvd h3 (by rw [Int.gcd_comm]; exact g1)
  have d2 : y ∣ q := by
    have h3 : y ∣ x * q := ⟨p, by rw [← h, Int.mul_comm]⟩
    exact cop_dvd h3 (by rw [Int.gcd_comm]; exact g2)
  have e : q = y := Int.dvd_antisymm (by omega) (by omega) d1 d2
  subst e
  exact ⟨Int.eq_of_mul_eq_mul_right (by omega) h, rfl⟩
theorem new_cross {p q : Int} (h : q ≠ 0) : np p q * q = p * nq p q := by
  have h1 := np_mul (p := p) h
  have h2 := nq_mul (p := p) h
  have h3 : np p q * (nq p q * gq p q) = (np p q * gq p q) * nq p q := by
    rw [Int.mul_comm (nq p q), ← Int.mul_assoc]
  rwa [h1, h2] at h3
theorem new_same {p q : Int} (h : Rt p q) : np p q = p ∧ nq p q = q := by
  have h0 : q ≠ 0 := by have := h.1; omega
  exact rt_eq (rt_new h0) h (by rw [new_cross h0])
theorem np_sz {p q : Int} {k : Nat} (h : q ≠ 0) (hs : Sz k p) : Sz k (np p q) := by
  have h1 := np_mul (p := p) h
  have h2 := gq_ne (p := p) h
  rw [Sz.abs] at *
  have h3 : p.natAbs = (np p q).natAbs * (gq p q).natAbs := by rw [← Int.natAbs_mul, h1]
  have h4 : (np p q).natAbs ≤ p.natAbs := by
    rw [h3]
    exact Nat.le_mul_of_pos_right _ (by omega)
  omega
theorem nq_sz {p q : Int} {k : Nat} (h : q ≠ 0) (hs : Sz k q) : Sz k (nq p q) := by
  have h1 := nq_mul (p := p) h
  have h2 := gq_ne (p := p) h
  rw [Sz.abs] at *
  have h3 : q.natAbs = (nq p q).natAbs * (gq p q).natAbs := by rw [← Int.natAbs_mul, h1]
  have h4 : (nq p q).natAbs ≤ q.natAbs := by
    rw [h3]
    exact Nat.le_mul_of_pos_right _ (by omega)
  omega
theorem sg_np {p q : Int} (h : 0 < q) : sg (np p q) = sg p := by
  have h1 := np_mul (p := p) (q := q) (by omega)
  have h2 := (gq_sign (p := p) (q := q) (by omega)).2 h
  have h3 : sg p = sg (np p q) * sg (gq p q) := by rw [← sg_mul, h1]
  rw [h3, sg_pos h2, Int.mul_one]
theorem cmpI_sg' (x y : Int) : cmpI x y = sg (x - y) := by
  rcases Int.lt_trichotomy x y with h | h | h
  · rw [cmpI_lt h, sg_neg (by omega)]
  · rw [cmpI_eq h, h, Int.sub_self]
    rfl
  · rw [cmpI_gt h, sg_pos (by omega)]
theorem cmpI_scale {x y z : Int} (h : 0 < z) : cmpI (x * z) (y * z) = cmpI x y := by
  rw [cmpI_sg', cmpI_sg', ← Int.sub_mul, sg_mul, sg_pos h, Int.mul_one]
/-- comparing fractions in lowest terms is comparing what they came of -/
theorem cmp_new {a b c d : Int} (hb : 0 < b) (hd : 0 < d) : cmpI (np a b * nq c d) (np c d * nq a b) = cmpI (a * d) (c * b) := by
  have h1 := np_mul (p := a) (q := b) (by omega)
  have h2 := nq_mul (p := a) (q := b) (by omega)
  have h3 := np_mul (p := c) (q := d) (by omega)
  have h4 := nq_mul (p := c) (q := d) (by omega)
  have g1 := (gq_sign (p := a) (q := b) (by omega)).2 hb
  have g2 := (gq_sign (p := c) (q := d) (by omega)).2 hd
  rw [← cmpI_scale (z := gq a b * gq c d) (Int.mul_pos g1 g2)]
  congr 1
  · rw [show np a b * nq c d * (gq a b * gq c d) = (np a b * gq a b) * (nq c d * gq c d) by grind, h1, h4]
  · rw [show np c d * nq a b * (gq a b * gq c d) = (np c d * gq c d) * (nq a b * gq a b) by grind, h3, h2]
end Go.Proofs.YtnifkianjpjahaaGreatDoor.Bg
/- Fractions as arguments, right or not. -/
namespace Go.Proofs.YtnifkianjpjahaaGreatDoor.Bg
open Go.ChangeShapes Go.WideShapes Go.ChangeAt Go.RowKit Go.Proofs.YtnifkianjpjahaaGreatDoor.Cell
set_option linter.unusedVariables false
set_option linter.unusedSimpArgs false
variable {N0 : Nat}

/-- an argument: a fraction, not yet known to be right -/
structure ArgF (N0 : Nat) (w : World) (v : Value) (n n' : Nat) (s s' : Int) (l l' : List Int) : Prop where
  ex : ∃ A c A' c', v = frV s A n c s' A' n' c' ∧ Arg N0 w (bigV s A n c) n s l ∧ Arg N0 w (bigV s' A' n' c') n' s' l'
theorem ArgF.keep {w w1 : World} {v : Value} {n n' : Nat} {s s' : Int} {l l' : List Int} (h : ArgF N0 w v n n' s s' l l') (hb : Below w.heap.size w w1) : ArgF N0 w1 v n n' s s' l l' := by
  obtain ⟨A, c, A', c', e, h1, h2⟩ := h.ex
  exact ⟨A, c, A', c', e, h1.keep hb, h2.keep hb⟩
/-- the parts' numbers -/
def nm (s : Int) (l : List Int) : Int := s * val l
def frB (s s' : Int) (l l' : List Int) : Bool := rgtB s l && (rgtB s' l' && decide (Rt (nm s l) (nm s' l')))
theorem Arg.nm {w : World} {v : Value} {n : Nat} {s : Int} {l : List Int} (h : Arg N0 w v n s l) (hb : rgtB s l = true) : IsBig N0 w v (nm s l) := by
  obtain ⟨A, c, rfl, h1, h2, h3⟩ := h.ex
  obtain ⟨z, hz⟩ := right_big (c := c) h1 hb h2
  have e : z = Bg.nm s l := by
    obtain ⟨A2, c2, l2, e, i2, n2, _⟩ := hz.ex
    obtain ⟨r1, r2, r3, r4, r5⟩ := rgtB_in hb
    have hs := hz.sgn
    simp only [bigV, Value.agg.injEq, Array.mk.injEq, List.cons.injEq, Value.slice.injEq] at e
    obtain ⟨_, ⟨rfl, hl, _⟩, _⟩ := e
    have hll : l = l2 := by
      refine List.ext_getElem? fun j => ?_
      by_cases hj : j < n
      · obtain ⟨b, off, e1, hc1⟩ := h2.cells (by omega)
        obtain ⟨b', off', e2, hc2⟩ := i2.cells (by omega)
        rw [e1] at e2
        cases e2
        obtain ⟨x, hx⟩ := at_ l j (by omega)
        obtain ⟨y, hy⟩ := at_ l2 j (by omega)
        have c1 := hc1 j x hx
        rw [hc2 j y hy] at c1
        injection c1 with c1
        injection c1 with _ c1
        rw [hx, hy, c1]
      · rw [List.getElem?_eq_none (by omega), List.getElem?_eq_none (by omega)]
    subst hll
    unfold Bg.nm
    rw [n2.2.2, hs]
    exact sg_eq z
  rw [← e]
  exact hz
theorem big_val {w : World} {s z : Int} {A : Option Addr} {n c : Nat} (h : IsBig N0 w (bigV s A n c) z) {k : Nat} (hk : n ≤ k) : Sz k z := h.sz hk
section
variable {s s' : Int} {A A' : Option Addr} {n c n' c' : Nat} {l l' : List Int}
set_option maxRecDepth 100000 in
set_option maxHeartbeats 8000000 in
theorem fright_n1 (w : World) (hp : Arg N0 w (bigV s A n c) n s l) (hq : Arg N0 w (bigV s' A' n' c') n' s' l') (h : rgtB s l = false) : Calls Tryz.prog 54 #[frV s A n c s' A' n' c'] w fun e w' => e = .returned (.bool false) ∧ Below w.heap.size w w' := by
  have HP := Lib.hid hp
  have HQ := Lib.hid hq
  have HB := Lib.hid (Gen.b_alloc (x := .cells (fC s A n c s' A' n' c') 43) (Below.refl w.heap.size w))
  have R0 := Lib.hid (Row.new w 43 (fC s A n c s' A' n' c'))
  replace HP := Lib.hid (HP.out.keep HB.out)
  replace HQ := Lib.hid (HQ.out.keep HB.out)
  have HH := Lib.hid h
  clear hp hq h
  go_enter Tryz.func54, Tryz.ntmps54
  go_wp2_with (fail)
  go_must (refine (HP.out.right false HH.out).mono ?_)
  rintro e W1 ⟨rfl, hb⟩
  replace R0 := Lib.hid (R0.out.keep hb)
  replace HP := Lib.hid (HP.out.keep hb)
  replace HQ := Lib.hid (HQ.out.keep hb)
  replace HB := Lib.hid (Gen.over hb HB.out)
  clear hb 
  go_wp2
  go_ret
  exact ⟨rfl, HB.out⟩
set_option maxRecDepth 100000 in
set_option maxHeartbeats 8000000 in
theorem fright_n2 (w : World) (hp : Arg N0 w (bigV s A n c) n s l) (hq : Arg N0 w (bigV s' A' n' c') n' s' l') (h : rgtB s l = true ∧ rgtB s' l' = false) : Calls Tryz.prog 54 #[frV s A n c s' A' n' c'] w fun e w' => e = .returned (.bool false) ∧ Below w.heap.size w w' := by
  have HP := Lib.hid hp
  have HQ := Lib.hid hq
  have HB := Lib.hid (Gen.b_alloc (x := .cells (fC s A n c s' A' n' c') 43) (Below.refl w.heap.size w))
  have R0 := Lib.hid (Row.new w 43 (fC s A n c s' A' n' c'))
  replace HP := Lib.hid (HP.out.keep HB.out)
  replace HQ := Lib.hid (HQ.out.keep HB.out)
  have HH := Lib.hid h
  clear hp hq h
  go_enter Tryz.func54, Tryz.ntmps54
  go_wp2_with (fail)
  go_must (refine (HP.out.right true HH.out.1).mono ?_)
  rintro e W1 ⟨rfl, hb⟩
  replace R0 := Lib.hid (R0.out.keep hb)
  replace HP := Lib.hid (HP.out.keep hb)
  replace HQ := Lib.hid (HQ.out.keep hb)
  replace HB := Lib.hid (Gen.over hb HB.out)
  clear hb 
  have R0c2 := R0.out.cell 2
  have R0c3 := R0.out.cell 3
  go_wp2_with (fail)
  go_must (refine (HQ.out.right false HH.out.2).mono ?_)
  rintro e W2 ⟨rfl, hb⟩
  replace R0 := Lib.hid (R0.out.keep hb)
  replace HP := Lib.hid (HP.out.keep hb)
  replace HQ := Lib.hid (HQ.out.keep hb)
  replace HB := Lib.hid (Gen.over hb HB.out)
  clear hb R0c2 R0c3
  go_wp2
  go_ret
  exact ⟨rfl, HB.out⟩
theorem fright_arg (w : World) (hp : Arg N0 w (bigV s A n c) n s l) (hq : Arg N0 w (bigV s' A' n' c') n' s' l') (b : Bool) (h : frB s s' l l' = b) : Calls Tryz.prog 54 #[frV s A n c s' A' n' c'] w fun e w' => e = .returned (.bool b) ∧ Below w.heap.size w w' := by
  subst h
  unfold frB
  cases h1 : rgtB s l
  · exact fright_n1 w hp hq h1
  · cases h2 : rgtB s' l'
    · exact fright_n2 w hp hq ⟨h1, h2⟩
    · exact fright_val w (hp.nm h1) (hq.nm h2)
end
theorem ArgF.right {w : World} {v : Value} {n n' : Nat} {s s' : Int} {l l' : List Int} (h : ArgF N0 w v n n' s s' l l') (b : Bool) (hb : frB s s' l l' = b) : Calls Tryz.prog 54 #[v] w fun e w' => e = .returned (.bool b) ∧ Below w.heap.size w w' := by
  obtain ⟨A, c, A', c', rfl, h1, h2⟩ := h.ex
  exact fright_arg w h1 h2 b hb
theorem ArgF.few {w : World} {v : Value} {n n' : Nat} {s s' k : Int} {l l' : List Int} (W : World) (h : ArgF N0 w v n n' s s' l l') (b : Bool) (hb : (decide ((n : Int) ≤ k) && decide ((n' : Int) ≤ k)) = b) : Calls Tryz.prog 38 #[v, .int .i64 k] W fun e w' => e = .returned (.bool b) ∧ Below W.heap.size W w' := by
  obtain ⟨A, c, A', c', rfl, h1, h2⟩ := h.ex
  obtain ⟨_, _, _, _, _, k1⟩ := h1.ex
  obtain ⟨_, _, _, _, _, k2⟩ := h2.ex
  subst hb
  exact ffew_any k W k1 k2
/-- the parts of an argument that is right -/
theorem ArgF.get {w : World} {s s' : Int} {A A' : Option Addr} {n n' c c' : Nat} {l l' : List Int} (h : ArgF N0 w (frV s A n c s' A' n' c') n n' s s' l l') (hb : frB s s' l l' = true) : ∃ p q, IsBig N0 w (bigV s A n c) p ∧ IsBig N0 w (bigV s' A' n' c') q ∧ Rt p q ∧ s = sg p ∧ (∀ k, n ≤ k → Sz k p) ∧ (∀ k, n' ≤ k → Sz k q) := by
  unfold frB at hb
  rw [Bool.and_eq_true, Bool.and_eq_true] at hb
  obtain ⟨b1, b2, b3⟩ := hb
  obtain ⟨A2, c2, A3, c3, e, h1, h2⟩ := h.ex
  simp only [Value.agg.injEq, Array.mk.injEq, List.cons.injEq, Value.slice.injEq] at e
  obtain ⟨_, ⟨rfl, _, rfl⟩, _, ⟨rfl, _, rfl⟩, _⟩ := e
  have i1 := h1.nm b1
  have i2 := h2.nm b2
  exact ⟨_, _, i1, i2, of_decide_eq_true b3, i1.sgn, fun k hk => i1.sz hk, fun k hk => i2.sz hk⟩
end Go.Proofs.YtnifkianjpjahaaGreatDoor.Bg
