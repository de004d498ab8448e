/- The reference of post: Arrive. -/
import Derived.Test.YtefikmfogbdhpaaPoV
namespace Go.Proofs.Ytefikmfogbdhpaa.Po
open Go.ChangeShapes Go.WideShapes Go.ChangeAt Go.RowKit Go.Proofs.Ytefikmfogbdhpaa.Cell
set_option linter.unusedVariables false
set_option linter.unusedSimpArgs false
theorem own_set {W : World} {base n size cap g j : Nat} {e : TypeId} {xs : List Value} (h : W.ownsRow base e size (.slice (some ⟨g, 0, none⟩) n cap) n xs) (u : Value) : (W.setCell ⟨g, j, none⟩ u).ownsRow base e size (.slice (some ⟨g, 0, none⟩) n cap) n (xs.set j u) := by
  refine ⟨by rw [List.length_set]; exact h.1, ?_⟩
  rcases h.2 with ⟨c, _⟩ | ⟨g', cap', cur, hv, hb, hg, h1, h2, h3, h4⟩
  · cases c
  · injection hv with e1 e2 e3
    injection e1 with e1
    injection e1 with e1
    subst e1 e3
    refine .inr ⟨g, cap, cur.setIfInBounds j u, rfl, hb, Row.set (t := e) (cs := cur) hg j u, h1, h2, by rw [Array.size_setIfInBounds]; exact h3, ?_⟩
    rw [Array.toList_setIfInBounds, List.take_set, h4]
theorem own_frozen {W : World} {B n g c size j : Nat} {e : TypeId} {xs : List Value} (h : W.ownsRow B e size (.slice (some ⟨g, 0, none⟩) n c) n xs) : W.frozen? ⟨g, j, none⟩ = false := by
  rcases h.2 with ⟨c, _⟩ | ⟨g', cap', cur, hv, hb, hg, _⟩
  · cases c
  · injection hv with e1
    injection e1 with e1
    injection e1 with e1
    subst e1
    exact frozen_of_row W g j cur e hg
theorem own_empty5 {w : World} {B g size : Nat} {t : TypeId} (hr : Row w g t #[]) (hB : B ≤ g) : w.ownsRow B t size (.slice (some ⟨g, 0, none⟩) 0 0) 0 [] :=
  ⟨by simp, .inr ⟨g, 0, #[], rfl, hB, hr, Nat.le_refl _, by simp [maxLen], by simp, by simp⟩⟩
section
variable {W : World} {lo gm : Nat} {Am : Option Addr} {n cm : Nat} {Ah : Option Addr} {ch : Nat} {S : List En} {H : List Bool}
set_option maxRecDepth 100000 in
set_option maxHeartbeats 2000000 in
theorem marr_none {seq : Int} (h : Mw W lo gm Am n cm Ah ch S H) (hs : seq < 0 ∨ (n : Int) ≤ seq) :
    Calls Try.prog 15 #[.pointer (some ⟨gm, 0, none⟩), .int .i64 seq] W fun e w' => e = .returned (.tuple #[.slice none 0 0, .int .i64 4]) ∧ w' = W := by
  have d0 := h.r.cell 0
  have d1 := h.r.cell 1
  clear h
  by_cases hs0 : seq < 0
  · clear hs
    go_enter Try.func15, Try.ntmps15
    go_wp2
    exact bodyPost_ret (v := .tuple #[.slice none 0 0, .int .i64 4]) (by simp [results, Try.results15, go_sem, *]) rfl ⟨rfl, rfl⟩
  · have hs1 : (n : Int) ≤ seq := by omega
    clear hs
    go_enter Try.func15, Try.ntmps15
    go_wp2
    exact bodyPost_ret (v := .tuple #[.slice none 0 0, .int .i64 4]) (by simp [results, Try.results15, go_sem, *]) rfl ⟨rfl, rfl⟩
set_option maxRecDepth 100000 in
set_option maxHeartbeats 2000000 in
theorem marr_twice {p : Nat} (h : Mw W lo gm Am n cm Ah ch S H) (hs : H[p]? = some true) :
    Calls Try.prog 15 #[.pointer (some ⟨gm, 0, none⟩), .int .i64 (p : Int)] W fun e w' => e = .returned (.tuple #[.slice none 0 0, .int .i64 5]) ∧ w' = W := by
  have d0 := h.r.cell 0
  have d1 := h.r.cell 1
  have hp : p < n := by have := lt_of_at hs; rw [h.hl] at this; exact this
  obtain ⟨bh, rfl, hc⟩ := (bls_own h.oh h.hl) (by have := lt_of_at hs; omega)
  have c0 := hc p _ hs
  clear h hc hs
  have h0 : ¬ (p : Int) < 0 := by omega
  have h1 : ¬ (n : Int) ≤ (p : Int) := by omega
  have h2 : (p : Int) < (n : Int) := by omega
  have h3 : (0 : Int) ≤ (p : Int) := by omega
  go_enter Try.func15, Try.ntmps15
  go_wp2
  exact bodyPost_ret (v := .tuple #[.slice none 0 0, .int .i64 5]) (by simp [results, Try.results15, go_sem, *]) rfl ⟨rfl, rfl⟩
theorem mw_set {p : Nat} {b : Nat} (h : Mw W lo gm Am n cm (some ⟨b, 0, none⟩) ch S H) (hp : p < n) : Mw (W.setCell ⟨b, p, none⟩ (.bool true)) lo gm Am n cm (some ⟨b, 0, none⟩) ch S (H.set p true) := by
  have hbg : b ≠ gm := fun e => h.n2 (by rw [← e]; rfl)
  have hs : bls (H.set p true) = (bls H).set p (.bool true) := by simp [bls, List.map_set]
  refine ⟨row_put h.r (p := ⟨b, p, none⟩) hbg _, own_put_ne h.os (p := ⟨b, p, none⟩) (fun e => h.ne b e rfl) _, ?_, h.hn, by rw [List.length_set]; exact h.hl, h.lg, h.n1, h.n2, h.ne⟩
  rw [hs]
  exact own_set h.oh _
set_option maxRecDepth 100000 in
set_option maxHeartbeats 8000000 in
theorem marr_ok {p : Nat} (h : Mw W lo gm Am n cm Ah ch S H) (hs : H[p]? = some false) (hlo : lo ≤ W.heap.size) (hbn : n ≤ 10000) :
    Calls Try.prog 15 #[.pointer (some ⟨gm, 0, none⟩), .int .i64 (p : Int)] W fun e w' => ∃ D m1 l1, e = .returned (.tuple #[.slice D m1 l1, .int .i64 0]) ∧ (dlv S H p).length = m1 ∧ Ens w' D (dlv S H p) ∧ Mw w' lo gm Am n cm Ah ch S (H.set p true) ∧ Only W w' (Rb gm Am Ah) := by
  have d0 := h.r.cell 0
  have d1 := h.r.cell 1
  have hp : p < n := by have := lt_of_at hs; rw [h.hl] at this; exact this
  obtain ⟨bh, rfl, hc⟩ := (bls_own h.oh h.hl) (by have := lt_of_at hs; omega)
  have c0 := hc p _ hs
  have cf := own_frozen (j := p) h.oh
  have cl := (h.oh.lt bh rfl).2
  have HH := Lib.hid h
  have HS := Lib.hid hs
  obtain ⟨iE, hiE, hzE, hyE, hxE⟩ := info_parts' infoE
  have HM1 := Lib.hid (mw_set (p := p) h hp)
  have hrb : Rb gm Am (some ⟨bh, 0, none⟩) bh := .inr (.inr ⟨_, rfl, rfl⟩)
  have HO1 : Hid (Only W (W.setCell ⟨bh, p, none⟩ (.bool true)) (Rb gm Am (some ⟨bh, 0, none⟩))) := Lib.hid ((Only.refl W _).set (p := ⟨bh, p, none⟩) (.inl hrb) _)
  obtain ⟨q, hq⟩ : ∃ q, nx H = q := ⟨_, rfl⟩
  obtain ⟨q', hq'⟩ : ∃ q', nx (H.set p true) = q' := ⟨_, rfl⟩
  have hde := dlv_ends (S := S) (H := H) (p := p) (by rw [h.hl, h.hn]) hs
  rw [hq, hq'] at hde
  have hqq := hde.2.1
  have hqn : q' ≤ n := by have := nx_le (H.set p true); rw [hq', List.length_set, h.hl] at this; exact this
  have HDL := Lib.hid (show (dlv S H p).length = q' - q from hde.2.2)
  have HQ := Lib.hid hq
  have HQ' := Lib.hid hq'
  have hcm := own_cap h.os

  have hqp : q ≤ p := by
    rcases Nat.lt_or_ge p q with h5 | h5
    · have h6 := nx_lo H p (by rw [hq]; exact h5)
      rw [hs] at h6
      cases h6
    · exact h5
  have hck : ¬ cm = q := by omega
  have hcp3 : (cm = q) = False := eq_false hck
  have HT := Lib.hid (show (S.take q').length = q' from by rw [List.length_take, h.hn]; omega)
  have hq'cm : q' ≤ cm := by omega
  have HDV : Hid (dlv S H p = (S.take q').drop q) := Lib.hid (by unfold dlv; rw [hq, hq'])
  clear h hs hc hq hq' hde hrb
  have h0 : ¬ (p : Int) < 0 := by omega
  have h1 : ¬ (n : Int) ≤ (p : Int) := by omega
  have h2 : (p : Int) < (n : Int) := by omega
  have h3 : (0 : Int) ≤ (p : Int) := by omega
  have t0 : (0 : Int) ≤ (q : Int) := by omega
  have t1 : (q : Int) ≤ (q' : Int) := by omega
  have t2 : (q' : Int) ≤ (cm : Int) := by omega
  have t3 : (q' : Int) ≤ (n : Int) := by omega
  go_enter Try.func15, Try.ntmps15
  go_wp2_with (fail)
  go_must (refine (next_is HH.out (by omega)).mono ?_)
  rintro e w1 ⟨rfl, hw1⟩
  have hw1 := hw1.symm
  subst hw1
  rw [HQ.out]
  go_upto_region 7 with (fail)
  clear d0 d1 c0 cf
  generalize W.setCell ⟨bh, p, none⟩ (.bool true) = W1 at *
  have HSS : Hid (∀ W' : World, Below W1.heap.size W1 W' → Below W1.heap.size W1 W' ∧ W'.cell? ⟨gm, 0, none⟩ = some (.slice Am n cm)) := Lib.hid fun W' hB => ⟨hB, Gen.keep hB (HM1.out.r.cell 0)⟩
  have HE1 := Lib.hid (ens_own HM1.out.hn HM1.out.os)
  go_cut [4, 5] (fun v ev wx => ∃ (D : Option Addr) (m1 l1 : Nat), v = .slice D m1 l1 ∧ ev = .int .i64 0 ∧ Hid ((dlv S H p).length = m1) ∧ Hid (Ens wx D (dlv S H p)) ∧ Hid (Below W1.heap.size W1 wx))
  case first =>
    go_region_held3 (fun W' : World => Below W1.heap.size W1 W' ∧ W'.cell? ⟨gm, 0, none⟩ = some (.slice Am n cm))
      (first | assumption | exact HSS.out _ (Below.refl _ _).drew | exact HSS.out _ (by assumption) | exact HSS.out _ (Gen.b_alloc (And.left (by assumption))) | exact HSS.out _ (Gen.over (by assumption) (And.left (by assumption))) | fail "keep")
      (first
        | (go_at_call 17; with_reducible refine (next_is (HM1.out.keep (And.left (by assumption))) (by omega)).mono ?_; rintro e' z1 ⟨rfl, hz1⟩; have hz1 := hz1.symm; subst hz1; rw [HQ'.out])
        | (refine App.step_append_any _ (by rfl) (.tmp 33) (.tmp 41) _ (by rfl) W1.heap.size 36 iE _ 5 40 Try.underlying22 hiE hzE hyE hxE rfl (by omega) (.slice (some ⟨_, 0, none⟩) 0 0) 0 [] rfl (own_empty5 (by first | exact rowd _ _ _ | exact Gen.rowAt _ _ _ (by simp) | exact (Gen.rowAt _ _ _ (by simp)).alloc _) (by first | omega | (simp; done) | (simp; omega))) _ _ (q' - q) _ (((S.take q').drop q).flatMap ecs) rfl (by have rq := (ens_reads HT.out (ens_pre (HE1.out.keep (And.left (by assumption))) q')).cut hqq hq'cm; rw [if_neg hck, drop_flat] at rq; exact rq) (ecs_one _) (by simp only [maxLen]; omega) (by omega) (Below.size (And.left (by assumption))) ?_; intro v7 w7 ho7 hg7 ha7; rw [List.nil_append, Nat.zero_add] at ho7; have hBk := Below.grown (And.left (by assumption)) hg7 (Below.size (And.left (by assumption))) (fun q hq => by simp [Value.ownBlock] at hq <;> omega); obtain ⟨A7, c7, hv7, _⟩ := Gen.own_slice ho7; subst hv7)
        | fail "arm")
    all_goals
      have HF1 : (dlv S H p).length = q' - q := HDL.out
      have HF2 : Ens w7 A7 (dlv S H p) := by rw [HDV.out]; exact ens_own (by rw [List.length_drop, HT.out]) ho7
      go_wp2
      go_meet
      exact ⟨A7, q' - q, c7, rfl, rfl, Lib.hid HF1, Lib.hid HF2, Lib.hid (And.left (by assumption))⟩
  case rest =>
    obtain ⟨D, m1, l1, rfl, rfl, HD1, HD2, HD3⟩ := hcut
    go_wp2
    exact bodyPost_ret (v := .tuple #[.slice D m1 l1, .int .i64 0]) (by simp [results, Try.results15, go_sem, *]) rfl ⟨D, m1, l1, rfl, HD1.out, HD2.out, HM1.out.keep HD3.out, HO1.out.more HD3.out⟩
end
end Go.Proofs.Ytefikmfogbdhpaa.Po
