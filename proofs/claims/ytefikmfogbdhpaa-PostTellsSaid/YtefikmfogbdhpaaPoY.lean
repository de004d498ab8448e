/- The reference of post: Open. -/
import Derived.Test.YtefikmfogbdhpaaPoW
namespace Go.Proofs.Ytefikmfogbdhpaa.Po
open Go.ChangeShapes Go.WideShapes Go.ChangeAt Go.RowKit Go.Proofs.Ytefikmfogbdhpaa.Cell
set_option linter.unusedVariables false
set_option linter.unusedSimpArgs false
theorem bool_ext {H K : List Bool} (hl : H.length = K.length) (h : ∀ j : Nat, H[j]? = some true ↔ K[j]? = some true) : H = K := by
  apply List.ext_getElem? 
  intro j
  by_cases hj : j < H.length
  · obtain ⟨a, ha⟩ := at_ H j hj
    obtain ⟨b, hb⟩ := at_ K j (by omega)
    have := h j
    rw [ha, hb] at this
    rw [ha, hb]
    cases a <;> cases b <;> simp_all
  · rw [List.getElem?_eq_none (by omega), List.getElem?_eq_none (by omega)]
theorem fr_zero (n : Nat) : fr n (0 : Int) [] = fa n := by
  refine bool_ext (by rw [fr_len, fa_len]) fun j => ?_
  rw [fr_at]
  constructor
  · rintro ⟨_, h | h⟩
    · omega
    · cases h
  · intro h
    unfold fa at h
    rw [List.getElem?_replicate] at h
    split at h <;> cases h
theorem fr_succ {n k : Nat} (hk : k < n) : (fr n (k : Int) []).set k true = fr n ((k : Int) + 1) [] := by
  refine bool_ext (by rw [List.length_set, fr_len, fr_len]) fun j => ?_
  rw [get_set (by rw [fr_len]; exact hk), fr_at, fr_at]
  constructor
  · rintro (h | ⟨h1, h2 | h2⟩)
    · exact ⟨by omega, .inl (by omega)⟩
    · exact ⟨h1, .inl (by omega)⟩
    · cases h2
  · rintro ⟨h1, h2 | h2⟩
    · by_cases e : j = k
      · exact .inl e
      · exact .inr ⟨h1, .inl (by omega)⟩
    · cases h2
theorem fr_take {n k x : Nat} {q : Int} {l : List Int} (hx : x < n) (h : l[k]? = some (x : Int)) : (fr n q (l.take k)).set x true = fr n q (l.take (k + 1)) := by
  have ht : l.take (k + 1) = l.take k ++ [(x : Int)] := by rw [List.take_add_one, h]; rfl
  refine bool_ext (by rw [List.length_set, fr_len, fr_len]) fun j => ?_
  rw [get_set (by rw [fr_len]; exact hx), fr_at, fr_at, ht]
  constructor
  · rintro (h1 | ⟨h1, h2 | h2⟩)
    · exact ⟨by omega, .inr (by rw [h1]; simp)⟩
    · exact ⟨h1, .inl h2⟩
    · exact ⟨h1, .inr (List.mem_append_left _ h2)⟩
  · rintro ⟨h1, h2 | h2⟩
    · exact .inr ⟨h1, .inl h2⟩
    · rcases List.mem_append.1 h2 with h3 | h3
      · exact .inr ⟨h1, .inr h3⟩
      · rw [List.mem_singleton] at h3
        exact .inl (by omega)
theorem mw_make {Wf : World} {lo gm bh n c7 : Nat} {A7 : Option Addr} {S : List En} (ho : Wf.ownsRow lo 36 5 (.slice A7 n c7) n (S.flatMap ecs)) (hr : Row Wf gm 49 #[.slice A7 n c7, .slice (some ⟨bh, 0, none⟩) n n]) (hb : Row Wf bh 4 (bcs (List.replicate n false))) (hS : S.length = n) (lg : lo ≤ gm) (lb : lo ≤ bh) (n1 : (Value.slice A7 n c7).ownBlock ≠ some gm) (n2 : bh ≠ gm) (ne : (Value.slice A7 n c7).ownBlock ≠ some bh) (hn : n ≤ 10000) : Mw Wf lo gm A7 n c7 (some ⟨bh, 0, none⟩) n S (fa n) :=
  ⟨hr, ho, ⟨by simp [bls, fa], .inr ⟨bh, n, bcs (List.replicate n false), rfl, lb, hb, Nat.le_refl _, by simp only [maxLen]; omega, by simp [bcs], by simp [bcs, bls, fa]⟩⟩, hS, fa_len n, lg, n1, (fun e => by injection e with e; exact n2 e), (fun g e1 e2 => by injection e2 with e2; exact ne (e1.trans (by rw [← e2])))⟩
section
variable {W : World} {A0 A2 : Option Addr} {n c0 n2 c2 : Nat} {S : List En} {early : List Int} {nxt : Int}
set_option maxRecDepth 100000 in
set_option maxHeartbeats 2000000 in
theorem open_no (hn : n ≤ 10000) (hx : nxt < 0 ∨ (n : Int) < nxt) :
    Calls Try.prog 8 #[.slice A0 n c0, .int .i64 nxt, .slice A2 n2 c2] W fun e w' => e = .returned (.tuple #[.pointer none, .bool false]) ∧ w' = W := by
  have h0 : ¬ (10000 : Int) < (n : Int) := by omega
  by_cases h1 : nxt < 0
  · clear hx
    go_enter Try.func8, Try.ntmps8
    go_wp2
    exact bodyPost_ret (v := .tuple #[.pointer none, .bool false]) (by simp [results, Try.results8, go_sem, *]) rfl ⟨rfl, rfl⟩
  · have h2 : (n : Int) < nxt := by omega
    clear hx
    go_enter Try.func8, Try.ntmps8
    go_wp2
    exact bodyPost_ret (v := .tuple #[.pointer none, .bool false]) (by simp [results, Try.results8, go_sem, *]) rfl ⟨rfl, rfl⟩
set_option maxRecDepth 100000 in
set_option maxHeartbeats 8000000 in
theorem ropen_is {q : Nat} (hS : S.length = n) (hE : Ens W A0 S) (hm : early.length = n2) (hI : Ints W A2 early) (hn : n ≤ 10000) (hn2 : n2 ≤ 10000) (hq : q ≤ n) :
    Calls Try.prog 8 #[.slice A0 n c0, .int .i64 (q : Int), .slice A2 n2 c2] W fun e w' => (rgE n (q : Int) early = false ∧ e = .returned (.tuple #[.pointer none, .bool false]) ∧ Below W.heap.size W w') ∨ (rgE n (q : Int) early = true ∧ ∃ gm Am cm Ah ch, e = .returned (.tuple #[.pointer (some ⟨gm, 0, none⟩), .bool true]) ∧ Mw w' W.heap.size gm Am n cm Ah ch S (fr n (q : Int) early) ∧ Below W.heap.size W w') := by
  have h0 : ¬ (10000 : Int) < (n : Int) := by omega
  have h1 : ¬ (q : Int) < 0 := by omega
  have h2 : ¬ (n : Int) < (q : Int) := by omega
  have HS := Lib.hid hS
  have HE := Lib.hid hE
  have HM := Lib.hid hm
  have HI := Lib.hid hI
  obtain ⟨iE, hiE, hzE, hyE, hxE⟩ := info_parts' infoE
  obtain ⟨iB, hiB, hzB, hyB, hxB⟩ := info_parts' infoB
  have hmk : ∀ W : World, (Instr.makeSlice 47 (.int .i64 n) (.int .i64 n)).run Try.prog W = .ok (.slice (some ⟨W.heap.size, 0, none⟩) n n) (W.alloc (.cells (bcs (List.replicate n false)) 4)) := fun W => by
    have hr := run_make (P := Try.prog) W 47 4 iB (.bool false) Try.underlying47 hiB hzB .i64 .i64 n n (by omega) (Int.le_refl _) (by rw [hxB]; omega) (by omega)
    rw [hyB, Int.toNat_natCast, made_bools] at hr
    exact hr
  clear hS hE hm hI
  go_enter Try.func8, Try.ntmps8
  go_upto_region 3 with (fail)
  have HSS : Hid (Below W.heap.size W W.drew) := Lib.hid (Below.refl _ _).drew
  go_cut [8] (fun v wx => ∃ gm Am cm bh, v = .pointer (some ⟨gm, 0, none⟩) ∧ Hid (Mw wx W.heap.size gm Am n cm (some ⟨bh, 0, none⟩) n S (fa n)) ∧ Hid (Below W.heap.size W wx))
  case first =>
    go_region_held3 (fun W' : World => Below W.heap.size W W')
      (first | assumption | exact HSS.out | exact hBk | exact Gen.b_alloc (by assumption) | fail "keep")
      (first
        | (refine App.step_append_any _ (by rfl) (.tmp 24) (.tmp 25) _ (by rfl) W.heap.size 36 iE _ 5 40 Try.underlying22 hiE hzE hyE hxE rfl (by omega) (.slice (some ⟨_, 0, none⟩) 0 0) 0 [] rfl (own_empty5 (by first | exact rowd _ _ _ | exact Gen.rowAt _ _ _ (by simp) | exact (Gen.rowAt _ _ _ (by simp)).alloc _) (by first | omega | (simp; done) | (simp; omega))) _ A0 n c0 (S.flatMap ecs) rfl (ens_reads HS.out (HE.out.keep (by assumption))) (ecs_one _) (by simp only [maxLen]; omega) (by omega) (Below.size (by assumption)) ?_; intro v7 w7 ho7 hg7 ha7; rw [List.nil_append, Nat.zero_add] at ho7; have hBk : Below W.heap.size W w7 := Below.grown (by assumption) hg7 (Below.size (by assumption)) (fun q hq => by simp [Value.ownBlock] at hq <;> omega); obtain ⟨A7, c7, hv7, _⟩ := Gen.own_slice ho7; subst hv7)
        | (trace_state; fail "arm"))
    · have hz7 := hg7.size
      go_wp2
      go_meet
      refine ⟨w7.heap.size + 1, A7, c7, w7.heap.size, rfl, Lib.hid (mw_make ((ho7.alloc _).alloc _) (Gen.rowAt _ _ _ (by simp)) ((Row.new _ _ _).alloc _) HS.out (by have := hBk.size; omega) (by have := hBk.size; omega) (fun e => by have := (ho7.lt _ e).2; omega) (by omega) (fun e => by have := (ho7.lt _ e).2; omega) hn), Lib.hid (Gen.b_alloc (Gen.b_alloc hBk))⟩
    · have hz7 := hg7.size
      have hb7 : Row w7 (W.heap.size + 1) 4 (bcs (List.replicate n false)) := row_grown ((Gen.rowAt _ _ _ (by simp) : Row ((W.alloc (.cells #[] 36)).alloc (.cells (bcs (List.replicate n false)) 4)) (W.heap.size + 1) 4 (bcs (List.replicate n false))).keep (Below.refl _ _).drew) hg7 (fun e => by simp [Value.ownBlock] at e)
      simp at hz7
      go_wp2
      go_meet
      refine ⟨w7.heap.size, A7, c7, W.heap.size + 1, rfl, Lib.hid (mw_make (ho7.alloc _) (Row.new _ _ _) (hb7.alloc _) HS.out (by omega) (by omega) (fun e => by have := (ho7.lt _ e).2; omega) (by omega) (fun e => ?_) hn), Lib.hid (Gen.b_alloc hBk)⟩
      rcases ha7 with e' | e'
      · rw [e'] at e; simp [Value.ownBlock] at e
      · rw [e'] at e; simp at e <;> omega
    · have hz7 := hg7.size
      have hb7 : Row w7 W.heap.size 4 (bcs (List.replicate n false)) := row_grown (((Row.new _ _ _).alloc _ : Row ((W.alloc (.cells (bcs (List.replicate n false)) 4)).alloc (.cells #[] 36)) W.heap.size 4 (bcs (List.replicate n false))).keep (Below.refl _ _).drew) hg7 (fun e => by simp [Value.ownBlock] at e)
      simp at hz7
      go_wp2
      go_meet
      refine ⟨w7.heap.size, A7, c7, W.heap.size, rfl, Lib.hid (mw_make (ho7.alloc _) (Row.new _ _ _) (hb7.alloc _) HS.out (by omega) (by omega) (fun e => by have := (ho7.lt _ e).2; omega) (by omega) (fun e => ?_) hn), Lib.hid (Gen.b_alloc hBk)⟩
      rcases ha7 with e' | e'
      · rw [e'] at e; simp [Value.ownBlock] at e
      · rw [e'] at e; simp at e <;> omega
  case rest =>
    obtain ⟨gm, Am, cm, bh, rfl, HMW, HBW⟩ := hcut
    clear hmk
    have HST := Lib.hid (show Mw wc W.heap.size gm Am n cm (some ⟨bh, 0, none⟩) n S (fr n ((0 : Nat) : Int) []) from by have := HMW.out; rw [← fr_zero] at this; exact this)
    go_wp2
    go_loopw [9] (fun iv wr => ∃ k : Nat, k ≤ q ∧ iv = .int .i64 k ∧ Hid (Mw wr W.heap.size gm Am n cm (some ⟨bh, 0, none⟩) n S (fr n (k : Int) [])) ∧ Hid (Below W.heap.size W wr)) (fun iv _ => q - (intOf iv).toNat)
    case atStart => exact ⟨0, Nat.zero_le _, rfl, HST, HBW⟩
    case round =>
      clear HST HBW HMW
      obtain ⟨k, hk, rfl, HMW, HBW⟩ := hrel
      have k0 : (0 : Int) ≤ (k : Int) := by omega
      by_cases hlt : k < q
      · have hltI : (k : Int) < (q : Int) := by omega
        have hknI : (k : Int) < (n : Int) := by omega
        have d0 := HMW.out.r.cell 0
        have d1 := HMW.out.r.cell 1
        obtain ⟨x, hx⟩ := at_ (fr n (k : Int) []) k (by rw [fr_len]; omega)
        obtain ⟨b', e', hc⟩ := (bls_own HMW.out.oh HMW.out.hl) (by rw [fr_len]; omega)
        injection e' with e'
        injection e' with e'
        subst e'
        have cc := hc k x hx
        have cf := own_frozen (j := k) HMW.out.oh
        have cl := (HMW.out.oh.lt bh rfl).2
        have HN := Lib.hid (show Mw (wr.setCell ⟨bh, k, none⟩ (.bool true)) W.heap.size gm Am n cm (some ⟨bh, 0, none⟩) n S (fr n ((k + 1 : Nat) : Int) []) from by
          have h5 := mw_set (p := k) HMW.out (by omega)
          rw [fr_succ (by omega)] at h5
          exact h5)
        have HBN := Lib.hid (Gen.b_set (p := ⟨bh, k, none⟩) (u := .bool true) HBW.out (HMW.out.oh.lt bh rfl).1)
        clear hc hx
        go_wp2
        go_roundw
        case rel => exact ⟨k + 1, by omega, by go_num, HN, HBN⟩
        case measure => simp [intOf]; omega
      · obtain rfl : k = q := by omega
        have HST := Lib.hid (show Mw wr W.heap.size gm Am n cm (some ⟨bh, 0, none⟩) n S (fr n (k : Int) (early.take 0)) from HMW.out)
        have HRE : Hid (rgE n (k : Int) early = rgE n (k : Int) (early.drop 0)) := Lib.hid rfl
        go_wp2
        go_loopw [10] (fun iv wr => ∃ (i : Nat) (pv : Int), i ≤ n2 ∧ iv = .int .i64 i ∧ (k : Int) ≤ pv ∧ Hid ((i = 0 ∧ pv = k) ∨ (0 < i ∧ early[i - 1]? = some pv)) ∧ Hid (rgE n (k : Int) early = rgE n pv (early.drop i)) ∧ Hid (Mw wr W.heap.size gm Am n cm (some ⟨bh, 0, none⟩) n S (fr n (k : Int) (early.take i))) ∧ Hid (Below W.heap.size W wr)) (fun iv _ => n2 - (intOf iv).toNat)
        case atStart => exact ⟨0, k, Nat.zero_le _, rfl, Int.le_refl _, Lib.hid (.inl ⟨rfl, rfl⟩), HRE, HST, HBW⟩
        case round =>
          clear HRE HST HBW HMW
          obtain ⟨i, pv, hi, rfl, hpv, HPV, HRE, HMW, HBW⟩ := hrel
          have i0 : (0 : Int) ≤ (i : Int) := by omega
          by_cases hlt : i < n2
          · have hltI : (i : Int) < (n2 : Int) := by omega
            obtain ⟨x, hx⟩ := at_ early i (by rw [HM.out]; exact hlt)
            have hdr : early.drop i = x :: early.drop (i + 1) := by
              obtain ⟨h5, h6⟩ := List.getElem?_eq_some_iff.1 hx
              rw [List.drop_eq_getElem_cons h5, h6]
            have HX := Lib.hid hx
            have HRX : Hid (rgE n (k : Int) early = (decide (pv < x) && (decide (x < n) && rgE n x (early.drop (i + 1))))) := Lib.hid (by rw [HRE.out, hdr]; rfl)
            obtain ⟨be, oe, hA2, hcell⟩ := (HI.out.keep HBW.out) (by rw [HM.out]; omega)
            subst hA2
            have c0 := hcell i x hx
            have HCL := Lib.hid hcell
            have HC0 := Lib.hid c0
            clear hx hdr hcell
            go_upto_region 11 with (fail)
            by_cases hg : pv < x ∧ x < n
            · obtain ⟨hg1, hg2⟩ := hg
              have f1 : ¬ x ≤ (k : Int) := by omega
              have f2 : ¬ (n : Int) ≤ x := by omega
              go_cut [80] (fun cv wy => cv = .bool false ∧ Hid (Below wr.heap.size wr wy))
              case first =>
                rcases HPV.out with ⟨h5, h6⟩ | ⟨h5, h6⟩
                · subst h5
                  rw [Nat.add_zero] at c0
                  go_region
                  all_goals
                    go_wp2
                    go_meet
                    first | exact ⟨rfl, Lib.hid (Below.refl _ _)⟩ | exact ⟨rfl, Lib.hid (Below.refl _ _).drew⟩
                · obtain ⟨j, rfl⟩ : ∃ j, i = j + 1 := ⟨i - 1, by omega⟩
                  rw [Nat.add_sub_cancel] at h6
                  have c1 := HCL.out j pv h6
                  have f3 : (0 : Int) < ((j + 1 : Nat) : Int) := by omega
                  have f4 : ¬ x ≤ pv := by omega
                  have f5 : max (j : Int) 0 = (j : Int) := by omega
                  have f6 : (j : Int) < (n2 : Int) := by omega
                  have f7 : (0 : Int) ≤ (j : Int) := by omega
                  clear h5 h6
                  go_region
                  all_goals
                    go_wp2
                    go_meet
                    first | exact ⟨rfl, Lib.hid (Below.refl _ _)⟩ | exact ⟨rfl, Lib.hid (Below.refl _ _).drew⟩
              case rest =>
                obtain ⟨rfl, HB5⟩ := hcut
                obtain ⟨y, rfl⟩ := Int.eq_ofNat_of_zero_le (show 0 ≤ x by omega)
                have hyn : y < n := by omega
                have HM5 := Lib.hid (HMW.out.keep HB5.out)
                have HBW5 := Lib.hid (Gen.over HB5.out HBW.out)
                have d0 := HM5.out.r.cell 0
                have d1 := HM5.out.r.cell 1
                have c5 := Gen.keep HB5.out HC0.out
                obtain ⟨z, hz⟩ := at_ (fr n (k : Int) (early.take i)) y (by rw [fr_len]; exact hyn)
                obtain ⟨b', e', hc⟩ := (bls_own HM5.out.oh HM5.out.hl) (by rw [fr_len]; omega)
                injection e' with e'
                injection e' with e'
                subst e'
                have cc := hc y z hz
                have cf := own_frozen (j := y) HM5.out.oh
                have cl := (HM5.out.oh.lt bh rfl).2
                have cw := (HM5.out.oh.lt bh rfl).1
                have y0 : (0 : Int) ≤ (y : Int) := by omega
                have y1 : (y : Int) < (n : Int) := by omega
                have HRN : Hid (rgE n (k : Int) early = rgE n (y : Int) (early.drop (i + 1))) := Lib.hid (by rw [HRX.out, decide_eq_true hg1, decide_eq_true hg2]; rfl)
                have HNX : Hid (∀ X : World, Mw X W.heap.size gm Am n cm (some ⟨bh, 0, none⟩) n S (fr n (k : Int) (early.take i)) → Mw (X.setCell ⟨bh, y, none⟩ (.bool true)) W.heap.size gm Am n cm (some ⟨bh, 0, none⟩) n S (fr n (k : Int) (early.take (i + 1)))) := Lib.hid (fun X h => by
                  have h5 := mw_set (p := y) h hyn
                  rw [fr_take hyn HX.out] at h5
                  exact h5)
                clear hc hz
                go_upto_region 13 with (fail)
                have HP6 : Hid ((i + 1 = 0 ∧ (y : Int) = k) ∨ (0 < i + 1 ∧ early[i + 1 - 1]? = some (y : Int))) := Lib.hid (.inr ⟨Nat.succ_pos _, by rw [Nat.add_sub_cancel]; exact HX.out⟩)
                have hky : (k : Int) ≤ (y : Int) := by omega
                go_region
                all_goals
                  go_wp2
                  go_roundw
                  case rel =>
                    first
                      | exact ⟨i + 1, y, by omega, by go_num, hky, HP6, HRN, Lib.hid (HNX.out _ HM5.out), Lib.hid (Gen.b_set (p := ⟨bh, y, none⟩) HBW5.out cw)⟩
                      | exact ⟨i + 1, y, by omega, by go_num, hky, HP6, HRN, Lib.hid (HNX.out _ (HM5.out.keep (Below.refl _ _).drew)), Lib.hid (Gen.b_set (p := ⟨bh, y, none⟩) HBW5.out.drew cw)⟩
                  case measure => simp [intOf]; omega
            · have HF : Hid (rgE n (k : Int) early = false) := Lib.hid (by
                rw [HRX.out]
                by_cases h5 : pv < x
                · have h6 : ¬ x < n := fun c => hg ⟨h5, c⟩
                  rw [decide_eq_true h5, decide_eq_false h6]; rfl
                · rw [decide_eq_false h5]; rfl)
              go_cut [80] (fun cv wy => cv = .bool true ∧ Hid (Below wr.heap.size wr wy))
              case first =>
                by_cases f1 : x ≤ (k : Int)
                · clear hg
                  go_region
                  all_goals
                    go_wp2
                    go_meet
                    first | exact ⟨rfl, Lib.hid (Below.refl _ _)⟩ | exact ⟨rfl, Lib.hid (Below.refl _ _).drew⟩
                · by_cases f2 : (n : Int) ≤ x
                  · clear hg
                    go_region
                    all_goals
                      go_wp2
                      go_meet
                      first | exact ⟨rfl, Lib.hid (Below.refl _ _)⟩ | exact ⟨rfl, Lib.hid (Below.refl _ _).drew⟩
                  · rcases HPV.out with ⟨h5, h6⟩ | ⟨h5, h6⟩
                    · exact absurd ⟨by omega, by omega⟩ hg
                    · obtain ⟨j, rfl⟩ : ∃ j, i = j + 1 := ⟨i - 1, by omega⟩
                      rw [Nat.add_sub_cancel] at h6
                      have c1 := HCL.out j pv h6
                      have f3 : (0 : Int) < ((j + 1 : Nat) : Int) := by omega
                      have f4 : x ≤ pv := by omega
                      have f5 : max (j : Int) 0 = (j : Int) := by omega
                      have f6 : (j : Int) < (n2 : Int) := by omega
                      have f7 : (0 : Int) ≤ (j : Int) := by omega
                      clear h5 h6 hg
                      go_region
                      all_goals
                        go_wp2
                        go_meet
                        first | exact ⟨rfl, Lib.hid (Below.refl _ _)⟩ | exact ⟨rfl, Lib.hid (Below.refl _ _).drew⟩
              case rest =>
                obtain ⟨rfl, HB5⟩ := hcut
                have HBF := Lib.hid (Gen.over HB5.out HBW.out)
                clear hg
                go_wp2
                exact bodyPost_ret (v := .tuple #[.pointer none, .bool false]) (by simp [results, Try.results8, go_sem, *]) rfl (.inl ⟨HF.out, rfl, HBF.out⟩)
          · obtain rfl : i = n2 := by omega
            have HT : Hid (rgE n (k : Int) early = true) := Lib.hid (by rw [HRE.out, List.drop_eq_nil_of_le (by rw [HM.out]; omega)]; rfl)
            have HMF := Lib.hid (show Mw wr W.heap.size gm Am n cm (some ⟨bh, 0, none⟩) n S (fr n (k : Int) early) from by have h5 := HMW.out; rw [List.take_of_length_le (by rw [HM.out]; omega)] at h5; exact h5)
            go_wp2
            exact bodyPost_ret (v := .tuple #[.pointer (some ⟨gm, 0, none⟩), .bool true]) (by simp [results, Try.results8, go_sem, *]) rfl (.inr ⟨HT.out, gm, Am, cm, some ⟨bh, 0, none⟩, n, rfl, HMF.out, HBW.out⟩)
end
end Go.Proofs.Ytefikmfogbdhpaa.Po
