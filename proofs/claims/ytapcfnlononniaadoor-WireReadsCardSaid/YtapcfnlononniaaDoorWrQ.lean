/- Wire: the reference's reader: Text, Nums, Texts. -/
import Derived.Test.YtapcfnlononniaaDoorWrO
import Derived.Test.YtapcfnlononniaaDoorWrD
namespace Go.Proofs.YtapcfnlononniaaDoor.Wr
open Go.Lib Go.ChangeShapes Go.WideShapes Go.ChangeAt Go.RowKit Go.Proofs.YtapcfnlononniaaDoor.Cell
set_option linter.unusedVariables false
set_option linter.unusedSimpArgs false
theorem no_fail {f : Bool} {l : List UInt8} {α : Type} {o : List UInt8 → Option α} {y : α} (hf : f = true → l = []) (h : o l = some y) (hn : o [] = none) : f = false := by
  cases hq : f
  · rfl
  · rw [hf hq, hn] at h
    cases h
theorem drop_at {t : List UInt8} {n : Nat} {c : UInt8} : (∃ t', t.drop n = c :: t') ↔ t[n]? = some c := by
  constructor
  · rintro ⟨t', h⟩
    have := congrArg (fun x => x[0]?) h
    simpa [List.getElem?_drop] using this
  · intro h
    obtain ⟨hl, hx⟩ := List.getElem?_eq_some_iff.1 h
    exact ⟨_, by rw [List.drop_eq_getElem_cons hl, hx]⟩
section
variable {W : World} {g : Nat} {l : List UInt8} {f : Bool}
set_option maxRecDepth 100000 in
set_option maxHeartbeats 8000000 in
theorem rrtext_any (h : Rr W g l f) (hf : f = true → l = []) (hl : l.length ≤ 1000000000) :
    Calls Tryd.prog 29 #[.pointer (some ⟨g, 0, none⟩)] W (RrP W g f (txr l) (fun l => .string ⟨l.toArray⟩) (.string ⟨#[]⟩)) := by
  have HU := Lib.hid (number_r (e := 58) nb58 h hl)
  go_enter Tryd.func29, Tryd.ntmps29
  go_wp2_with (fail)
  go_must (refine HU.out.mono ?_)
  rintro e w1 (⟨n, t, hu, rfl, hr, ho⟩ | ⟨hu, rfl, hr, ho⟩)
  · have hf0 : f = false := no_fail (o := siz 58) hf hu rfl
    subst hf0
    obtain ⟨hsp, hn⟩ := siz_some hu
    have htl : t.length ≤ 1000000000 := by rw [hsp, List.length_append, List.length_cons] at hl; omega
    have hz : (⟨t.toArray⟩ : ByteArray).size = t.length := by simp [ByteArray.size]
    have HU1 := Lib.hid hu
    have HR := Lib.hid hr
    have HO := Lib.hid ho
    have d0 := Row.cell hr 0
    have d1 := Row.cell hr 1
    have f0 := Row.frozen hr 0
    clear hr ho hu hsp hl h hf HU
    have n0 : (0 : Int) ≤ (n : Int) := by omega
    by_cases hnt : n < t.length
    · have n1 : (n : Int) ≤ (t.length : Int) := by omega
      have n2 : ¬ (t.length : Int) ≤ (n : Int) := by omega
      have HTK : Hid ((⟨t.toArray⟩ : ByteArray).extract 0 n = ⟨(t.take n).toArray⟩) := Lib.hid (str_eq (by rw [Lib.extract_data, List.drop_zero, Nat.sub_zero]))
      have HDK : Hid ((⟨t.toArray⟩ : ByteArray).extract n (⟨t.toArray⟩ : ByteArray).size = ⟨(t.drop n).toArray⟩) := Lib.hid (str_eq (by rw [ext_end]))
      have HR2 : Hid (Rr (w1.setCell ⟨g, 0, none⟩ (.string ((⟨t.toArray⟩ : ByteArray).extract n (⟨t.toArray⟩ : ByteArray).size))) g (t.drop n) false) := Lib.hid (by rw [HDK.out]; exact Row.set HR.out 0 _)
      have HO2 : Hid (Only W (w1.setCell ⟨g, 0, none⟩ (.string ((⟨t.toArray⟩ : ByteArray).extract n (⟨t.toArray⟩ : ByteArray).size))) (fun x => x = g)) := Lib.hid (HO.out.set (p := ⟨g, 0, none⟩) (.inl rfl) _)
      rw [hz] at HR2 HO2
      have HC := Lib.hid (close_any (e := 44) HR2.out (by rw [List.length_drop]; omega))
      dsimp only
      go_wp2_with (fail)
      go_must (refine HC.out.mono ?_)
      rintro e w2 (⟨t', ht, rfl, hr2, ho2⟩ | ⟨hno, rfl, hr2, ho2⟩)
      · have h44 := drop_at.1 ⟨t', ht⟩
        have hdr : t' = t.drop (n + 1) := by
          rw [← List.drop_drop, ht]
          rfl
        have HY : Hid (RrP W g false (txr l) (fun l => .string ⟨l.toArray⟩) (.string ⟨#[]⟩) (.returned (.string ((⟨t.toArray⟩ : ByteArray).extract 0 n))) w2) := Lib.hid (.inl ⟨t.take n, t', by unfold txr; rw [HU1.out]; dsimp only; rw [if_pos h44, hdr], by rw [HTK.out], hr2, HO2.out.then ho2⟩)
        clear hr2 ho2 ht h44 hdr
        dsimp only
        go_wp2
        go_ret
        exact HY.out
      · have h44 : ¬ t[n]? = some 44 := fun hh => by
          obtain ⟨t', ht⟩ := drop_at.2 hh
          exact hno t' ht
        have HY : Hid (RrP W g false (txr l) (fun l => .string ⟨l.toArray⟩) (.string ⟨#[]⟩) (.returned (.string ⟨#[]⟩)) w2) := Lib.hid (.inr ⟨by unfold txr; rw [HU1.out]; dsimp only; rw [if_neg h44], rfl, hr2, HO2.out.then ho2⟩)
        clear hr2 ho2 hno h44
        dsimp only
        go_wp2
        go_ret
        exact HY.out
    · have n1 : (t.length : Int) ≤ (n : Int) := by omega
      have HN : Hid (txr l = none) := Lib.hid (by
        unfold txr
        rw [HU1.out]
        exact if_neg (by rw [List.getElem?_eq_none (by omega)]; simp))
      dsimp only
      go_wp2_with (fail)
      go_must (refine (rfail_any HR.out).mono ?_)
      rintro e w2 ⟨rfl, hr2, ho2⟩
      have HY : Hid (RrP W g false (txr l) (fun l => .string ⟨l.toArray⟩) (.string ⟨#[]⟩) (.returned (.string ⟨#[]⟩)) w2) := Lib.hid (.inr ⟨HN.out, rfl, hr2, HO.out.then ho2⟩)
      clear hr2 ho2
      dsimp only
      go_wp2
      go_ret
      exact HY.out
  · have HN : Hid (txr l = none) := Lib.hid (by unfold txr; rw [hu])
    have HR := Lib.hid hr
    have HO := Lib.hid ho
    have d0 := Row.cell hr 0
    have d1 := Row.cell hr 1
    clear hr ho hu hl h hf HU
    dsimp only
    go_wp2_with (fail)
    go_must (refine (rfail_any HR.out).mono ?_)
    rintro e w2 ⟨rfl, hr2, ho2⟩
    have HY : Hid (RrP W g f (txr l) (fun l => .string ⟨l.toArray⟩) (.string ⟨#[]⟩) (.returned (.string ⟨#[]⟩)) w2) := Lib.hid (.inr ⟨HN.out, rfl, hr2, HO.out.then ho2⟩)
    clear hr2 ho2
    dsimp only
    go_wp2
    go_ret
    exact HY.out
set_option maxRecDepth 100000 in
set_option maxHeartbeats 8000000 in
theorem rrnums_any (h : Rr W g l f) (hf : f = true → l = []) (hl : l.length ≤ 1000000000) :
    Calls Tryd.prog 32 #[.pointer (some ⟨g, 0, none⟩)] W fun e w' =>
      (∃ vs t A c, lsr (untl 59) l = some (vs, t) ∧ e = .returned (.slice A vs.length c) ∧ Rr w' g t f ∧ w'.ownsRow W.heap.size 3 1 (.slice A vs.length c) vs.length (vs.map (fun n => Value.int .i64 n)) ∧ Only W w' (fun x => x = g)) ∨
      (lsr (untl 59) l = none ∧ e = .returned (.slice none 0 0) ∧ Rr w' g [] true ∧ Only W w' (fun x => x = g)) := by
  have HU := Lib.hid (number_r (e := 91) nb91 h hl)
  have hg := Row.lt h
  obtain ⟨i0, hi0, hz0, hz1, hz2⟩ := info_parts' infoI
  go_enter Tryd.func32, Tryd.ntmps32
  go_wp2_with (fail)
  go_must (refine HU.out.mono ?_)
  rintro e w1 (⟨n, t, hu, rfl, hr, ho⟩ | ⟨hu, rfl, hr, ho⟩)
  · have hf0 : f = false := no_fail (o := siz 91) hf hu rfl
    subst hf0
    obtain ⟨hsp, hn⟩ := siz_some hu
    have htl : t.length ≤ 1000000000 := by rw [hsp, List.length_append, List.length_cons] at hl; omega
    have HU1 := Lib.hid hu
    have HR := Lib.hid hr
    have HO := Lib.hid ho
    have hnI : (n : Int) ≤ 9223372036854775807 := by omega
    clear hr ho hu hsp hl h hf HU
    dsimp only
    go_wp2
    go_loopw [4, 5] (fun v iv wr => ∃ (k : Nat) (vs : List Int) (t' : List UInt8) (b : Bool) (Al : Option Addr) (cl : Nat), k ≤ n ∧ iv = .int .i64 k ∧ v = .slice Al vs.length cl ∧ vs.length ≤ 1000000001 ∧ Hid ((b = false ∧ Lq (untl 59) n t k vs t') ∨ (b = true ∧ t' = [] ∧ lsr (untl 59) l = none)) ∧ Hid (wr.ownsRow W.heap.size 3 1 (.slice Al vs.length cl) vs.length (vs.map (fun n => Value.int .i64 n))) ∧ Hid (Rr wr g t' b) ∧ Hid (Only W wr (fun x => x = g))) (fun _ iv _ => n - (RowKit.intOf iv).toNat)
    case atStart => exact ⟨0, [], t, false, none, 0, Nat.zero_le _, rfl, rfl, by decide, Lib.hid (.inl ⟨rfl, Lq.start n t⟩), Lib.hid (own_nil _ _ _), HR, HO⟩
    case round =>
      clear HR HO
      obtain ⟨k, vs, t', b, Al, cl, hk, rfl, rfl, hvl, HQ, HW, HRr, HOr⟩ := hrel
      have k0 : (0 : Int) ≤ (k : Int) := by omega
      have d0 := Row.cell HRr.out 0
      have d1 := Row.cell HRr.out 1
      have hq := HQ.out
      rcases hq with ⟨rfl, hq⟩ | ⟨rfl, rfl, hno⟩
      · replace HQ := Lib.hid hq
        have hvk := hq.vk
        have hql := hq.l
        clear hq
        by_cases hlt : k < n
        · have hltI : (k : Int) < (n : Int) := by omega
          go_wp2_with (fail)
          go_must (refine (rrint_any HRr.out (by omega)).mono ?_)
          rintro e w2 (⟨v, t'', hv, rfl, hr2, ho2⟩ | ⟨hv, rfl, hr2, ho2⟩)
          · have hv : (untl 59) t' = some (v, t'') := hv
            have HQ2 := Lib.hid (HQ.out.next hlt hv (untl_short hv))
            have hll := HQ2.out.l
            have HR2 := Lib.hid hr2
            have HO2 := Lib.hid (HOr.out.then ho2)
            have HW2 := Lib.hid (Only.own HW.out ho2 hg)
            have hWs := HO2.out.size
            clear hr2 ho2 hv d0 d1
            dsimp only
            go_wp2_with (first
              | (at_builtin
                 go_must (refine App.wpList_append_any _ rfl (.tmp 20) (.tmp 23) _ rfl W.heap.size 3 i0 _ 1 8 Tryd.underlying22 hi0 hz0 hz1 hz2 rfl (by omega) (.slice Al vs.length cl) vs.length (vs.map (fun n => Value.int .i64 n)) rfl (Gen.own_keep HW2.out (Gen.b_alloc (Below.refl _ _))) (w2.heap.size + 1) (some ⟨w2.heap.size, 0, none⟩) 1 1 [(fun n => Value.int .i64 n) v] rfl (Gen.reads_blk rfl rfl) (by simp [Value.oneCell']) (by simp only [maxLen]; omega) (by omega) (by simp; omega) ?_
                          intro v5 w5 hown5 hg5 hat5
                          have ho5 : w5.ownsRow W.heap.size 3 1 v5 (vs.length + 1) ((vs ++ [v]).map (fun n => Value.int .i64 n)) := by
                            rw [List.map_append]; exact hown5
                          have hb5 : Only W w5 (fun x => x = g) := (HO2.out.more (Gen.b_alloc (Below.refl _ _))).grown hg5 (fun q hq => .inr (HW2.out.lt q hq).1)
                          have hr5 : Row w5 g 56 _ := (hg5.block g (by simp; omega) (fun e => by have := (HW2.out.lt g e.symm).1; omega)).trans (Row.alloc HR2.out _)
                          have HR5 := Lib.hid hr5
                          obtain ⟨A5, c5, rfl, _⟩ := Gen.own_slice ho5
                          have HO5 := Lib.hid ho5
                          have HB5 := Lib.hid hb5
                          clear hown5 hg5 hat5 hb5 ho5 hr5))
              | fail)
            go_roundw
            case rel => exact ⟨k + 1, vs ++ [v], t'', false, A5, c5, by omega, by go_num, by rw [List.length_append, hvk]; rfl, by rw [List.length_append, List.length_singleton]; omega, Lib.hid (.inl ⟨rfl, HQ2.out⟩), Lib.hid (by rw [List.length_append]; exact HO5.out), HR5, HB5⟩
            case measure => simp [RowKit.intOf]; omega
          · have hv : (untl 59) t' = none := hv
            have HX := Lib.hid (show lsr (untl 59) l = none by unfold lsr; rw [HU1.out]; dsimp only; rw [HQ.out.no hlt hv])
            have HR2 := Lib.hid hr2
            have HO2 := Lib.hid (HOr.out.then ho2)
            have HW2 := Lib.hid (Only.own HW.out ho2 hg)
            have hWs := HO2.out.size
            clear hr2 ho2 hv d0 d1
            dsimp only
            go_wp2_with (first
              | (at_builtin
                 go_must (refine App.wpList_append_any _ rfl (.tmp 20) (.tmp 23) _ rfl W.heap.size 3 i0 _ 1 8 Tryd.underlying22 hi0 hz0 hz1 hz2 rfl (by omega) (.slice Al vs.length cl) vs.length (vs.map (fun n => Value.int .i64 n)) rfl (Gen.own_keep HW2.out (Gen.b_alloc (Below.refl _ _))) (w2.heap.size + 1) (some ⟨w2.heap.size, 0, none⟩) 1 1 [Value.int .i64 0] rfl (Gen.reads_blk rfl rfl) (by simp [Value.oneCell']) (by simp only [maxLen]; omega) (by omega) (by simp; omega) ?_
                          intro v5 w5 hown5 hg5 hat5
                          have ho5 : w5.ownsRow W.heap.size 3 1 v5 (vs.length + 1) ((vs ++ [0]).map (fun n => Value.int .i64 n)) := by
                            rw [List.map_append]; exact hown5
                          have hb5 : Only W w5 (fun x => x = g) := (HO2.out.more (Gen.b_alloc (Below.refl _ _))).grown hg5 (fun q hq => .inr (HW2.out.lt q hq).1)
                          have hr5 : Row w5 g 56 _ := (hg5.block g (by simp; omega) (fun e => by have := (HW2.out.lt g e.symm).1; omega)).trans (Row.alloc HR2.out _)
                          have HR5 := Lib.hid hr5
                          obtain ⟨A5, c5, rfl, _⟩ := Gen.own_slice ho5
                          have HO5 := Lib.hid ho5
                          have HB5 := Lib.hid hb5
                          clear hown5 hg5 hat5 hb5 ho5 hr5))
              | fail)
            go_roundw
            case rel => exact ⟨k + 1, vs ++ [0], [], true, A5, c5, by omega, by go_num, by rw [List.length_append, hvk]; rfl, by rw [List.length_append, List.length_singleton]; omega, Lib.hid (.inr ⟨rfl, rfl, HX.out⟩), Lib.hid (by rw [List.length_append]; exact HO5.out), HR5, HB5⟩
            case measure => simp [RowKit.intOf]; omega
        · obtain rfl : k = n := by omega
          have HD := Lib.hid HQ.out.done
          have HC := Lib.hid (close_any (e := 93) HRr.out (by omega))
          go_wp2_with (fail)
          go_must (refine HC.out.mono ?_)
          rintro e w2 (⟨t2, ht, rfl, hr2, ho2⟩ | ⟨hno, rfl, hr2, ho2⟩)
          · have HY : Hid (lsr (untl 59) l = some (vs, t2) ∧ Rr w2 g t2 false ∧ w2.ownsRow W.heap.size 3 1 (.slice Al vs.length cl) vs.length (vs.map (fun n => Value.int .i64 n)) ∧ Only W w2 (fun x => x = g)) := Lib.hid ⟨by unfold lsr; rw [HU1.out]; dsimp only; rw [HD.out, ht]; first | done | rfl, hr2, Only.own HW.out ho2 hg, HOr.out.then ho2⟩
            clear hr2 ho2 ht d0 d1
            dsimp only
            go_wp2
            go_ret
            exact .inl ⟨vs, t2, Al, cl, HY.out.1, rfl, HY.out.2.1, HY.out.2.2.1, HY.out.2.2.2⟩
          · have HY : Hid (lsr (untl 59) l = none ∧ Rr w2 g [] true ∧ Only W w2 (fun x => x = g)) := Lib.hid ⟨by
              unfold lsr
              rw [HU1.out]
              dsimp only
              rw [HD.out]
              cases t' with
              | nil => rfl
              | cons c t' =>
                by_cases hc : c = 93
                · subst hc; exact absurd rfl (hno t')
                · split
                  · rename_i heq
                    injection heq with heq
                    injection heq with _ heq
                    injection heq with heq _
                    exact absurd heq hc
                  · rfl, hr2, HOr.out.then ho2⟩
            clear hr2 ho2 hno d0 d1
            dsimp only
            go_wp2
            go_ret
            exact .inr ⟨HY.out.1, rfl, HY.out.2.1, HY.out.2.2⟩
      · have HX := Lib.hid hno
        clear hno HQ
        by_cases hlt : k < n
        · have hltI : (k : Int) < (n : Int) := by omega
          go_wp2
          go_ret
          exact .inr ⟨HX.out, rfl, HRr.out, HOr.out⟩
        · have hltI : ¬ (k : Int) < (n : Int) := by omega
          go_wp2
          go_ret
          exact .inr ⟨HX.out, rfl, HRr.out, HOr.out⟩
  · have HX : Hid (lsr (untl 59) l = none) := Lib.hid (by unfold lsr; rw [hu])
    have HR := Lib.hid hr
    have HO := Lib.hid ho
    have d0 := Row.cell hr 0
    have d1 := Row.cell hr 1
    clear hr ho hu hl h hf HU
    dsimp only
    go_wp2
    go_loopw [4, 5] (fun v iv wr => iv = .int .i64 0 ∧ v = .slice none 0 0 ∧ wr = w1) (fun _ _ _ => 0)
    case atStart => exact ⟨rfl, rfl, rfl⟩
    case round =>
      obtain ⟨rfl, rfl, hw⟩ := hrel
      have hw := hw.symm
      subst hw
      go_wp2
      go_ret
      exact .inr ⟨HX.out, rfl, HR.out, HO.out⟩
set_option maxRecDepth 100000 in
set_option maxHeartbeats 8000000 in
theorem rrtexts_any (h : Rr W g l f) (hf : f = true → l = []) (hl : l.length ≤ 1000000000) :
    Calls Tryd.prog 35 #[.pointer (some ⟨g, 0, none⟩)] W fun e w' =>
      (∃ vs t A c, lsr txr l = some (vs, t) ∧ e = .returned (.slice A vs.length c) ∧ Rr w' g t f ∧ w'.ownsRow W.heap.size 9 1 (.slice A vs.length c) vs.length (vs.map (fun l => Value.string ⟨l.toArray⟩)) ∧ Only W w' (fun x => x = g)) ∨
      (lsr txr l = none ∧ e = .returned (.slice none 0 0) ∧ Rr w' g [] true ∧ Only W w' (fun x => x = g)) := by
  have HU := Lib.hid (number_r (e := 91) nb91 h hl)
  have hg := Row.lt h
  obtain ⟨i0, hi0, hz0, hz1, hz2⟩ := info_parts' infoS
  go_enter Tryd.func35, Tryd.ntmps35
  go_wp2_with (fail)
  go_must (refine HU.out.mono ?_)
  rintro e w1 (⟨n, t, hu, rfl, hr, ho⟩ | ⟨hu, rfl, hr, ho⟩)
  · have hf0 : f = false := no_fail (o := siz 91) hf hu rfl
    subst hf0
    obtain ⟨hsp, hn⟩ := siz_some hu
    have htl : t.length ≤ 1000000000 := by rw [hsp, List.length_append, List.length_cons] at hl; omega
    have HU1 := Lib.hid hu
    have HR := Lib.hid hr
    have HO := Lib.hid ho
    have hnI : (n : Int) ≤ 9223372036854775807 := by omega
    clear hr ho hu hsp hl h hf HU
    dsimp only
    go_wp2
    go_loopw [4, 5] (fun v iv wr => ∃ (k : Nat) (vs : List (List UInt8)) (t' : List UInt8) (b : Bool) (Al : Option Addr) (cl : Nat), k ≤ n ∧ iv = .int .i64 k ∧ v = .slice Al vs.length cl ∧ vs.length ≤ 1000000001 ∧ Hid ((b = false ∧ Lq txr n t k vs t') ∨ (b = true ∧ t' = [] ∧ lsr txr l = none)) ∧ Hid (wr.ownsRow W.heap.size 9 1 (.slice Al vs.length cl) vs.length (vs.map (fun l => Value.string ⟨l.toArray⟩))) ∧ Hid (Rr wr g t' b) ∧ Hid (Only W wr (fun x => x = g))) (fun _ iv _ => n - (RowKit.intOf iv).toNat)
    case atStart => exact ⟨0, [], t, false, none, 0, Nat.zero_le _, rfl, rfl, by decide, Lib.hid (.inl ⟨rfl, Lq.start n t⟩), Lib.hid (own_nil _ _ _), HR, HO⟩
    case round =>
      clear HR HO
      obtain ⟨k, vs, t', b, Al, cl, hk, rfl, rfl, hvl, HQ, HW, HRr, HOr⟩ := hrel
      have k0 : (0 : Int) ≤ (k : Int) := by omega
      have d0 := Row.cell HRr.out 0
      have d1 := Row.cell HRr.out 1
      have hq := HQ.out
      rcases hq with ⟨rfl, hq⟩ | ⟨rfl, rfl, hno⟩
      · replace HQ := Lib.hid hq
        have hvk := hq.vk
        have hql := hq.l
        clear hq
        by_cases hlt : k < n
        · have hltI : (k : Int) < (n : Int) := by omega
          go_wp2_with (fail)
          go_must (refine (rrtext_any HRr.out (fun h => by cases h) (by omega)).mono ?_)
          rintro e w2 (⟨v, t'', hv, rfl, hr2, ho2⟩ | ⟨hv, rfl, hr2, ho2⟩)
          · have hv : txr t' = some (v, t'') := hv
            have HQ2 := Lib.hid (HQ.out.next hlt hv (txr_short hv))
            have hll := HQ2.out.l
            have HR2 := Lib.hid hr2
            have HO2 := Lib.hid (HOr.out.then ho2)
            have HW2 := Lib.hid (Only.own HW.out ho2 hg)
            have hWs := HO2.out.size
            clear hr2 ho2 hv d0 d1
            dsimp only
            go_wp2_with (first
              | (at_builtin
                 go_must (refine App.wpList_append_any _ rfl (.tmp 20) (.tmp 23) _ rfl W.heap.size 9 i0 _ 1 16 Tryd.underlying23 hi0 hz0 hz1 hz2 rfl (by omega) (.slice Al vs.length cl) vs.length (vs.map (fun l => Value.string ⟨l.toArray⟩)) rfl (Gen.own_keep HW2.out (Gen.b_alloc (Below.refl _ _))) (w2.heap.size + 1) (some ⟨w2.heap.size, 0, none⟩) 1 1 [(fun l => Value.string ⟨l.toArray⟩) v] rfl (Gen.reads_blk rfl rfl) (by simp [Value.oneCell']) (by simp only [maxLen]; omega) (by omega) (by simp; omega) ?_
                          intro v5 w5 hown5 hg5 hat5
                          have ho5 : w5.ownsRow W.heap.size 9 1 v5 (vs.length + 1) ((vs ++ [v]).map (fun l => Value.string ⟨l.toArray⟩)) := by
                            rw [List.map_append]; exact hown5
                          have hb5 : Only W w5 (fun x => x = g) := (HO2.out.more (Gen.b_alloc (Below.refl _ _))).grown hg5 (fun q hq => .inr (HW2.out.lt q hq).1)
                          have hr5 : Row w5 g 56 _ := (hg5.block g (by simp; omega) (fun e => by have := (HW2.out.lt g e.symm).1; omega)).trans (Row.alloc HR2.out _)
                          have HR5 := Lib.hid hr5
                          obtain ⟨A5, c5, rfl, _⟩ := Gen.own_slice ho5
                          have HO5 := Lib.hid ho5
                          have HB5 := Lib.hid hb5
                          clear hown5 hg5 hat5 hb5 ho5 hr5))
              | fail)
            go_roundw
            case rel => exact ⟨k + 1, vs ++ [v], t'', false, A5, c5, by omega, by go_num, by rw [List.length_append, hvk]; rfl, by rw [List.length_append, List.length_singleton]; omega, Lib.hid (.inl ⟨rfl, HQ2.out⟩), Lib.hid (by rw [List.length_append]; exact HO5.out), HR5, HB5⟩
            case measure => simp [RowKit.intOf]; omega
          · have hv : txr t' = none := hv
            have HX := Lib.hid (show lsr txr l = none by unfold lsr; rw [HU1.out]; dsimp only; rw [HQ.out.no hlt hv])
            have HR2 := Lib.hid hr2
            have HO2 := Lib.hid (HOr.out.then ho2)
            have HW2 := Lib.hid (Only.own HW.out ho2 hg)
            have hWs := HO2.out.size
            clear hr2 ho2 hv d0 d1
            dsimp only
            go_wp2_with (first
              | (at_builtin
                 go_must (refine App.wpList_append_any _ rfl (.tmp 20) (.tmp 23) _ rfl W.heap.size 9 i0 _ 1 16 Tryd.underlying23 hi0 hz0 hz1 hz2 rfl (by omega) (.slice Al vs.length cl) vs.length (vs.map (fun l => Value.string ⟨l.toArray⟩)) rfl (Gen.own_keep HW2.out (Gen.b_alloc (Below.refl _ _))) (w2.heap.size + 1) (some ⟨w2.heap.size, 0, none⟩) 1 1 [Value.string ⟨#[]⟩] rfl (Gen.reads_blk rfl rfl) (by simp [Value.oneCell']) (by simp only [maxLen]; omega) (by omega) (by simp; omega) ?_
                          intro v5 w5 hown5 hg5 hat5
                          have ho5 : w5.ownsRow W.heap.size 9 1 v5 (vs.length + 1) ((vs ++ [([] : List UInt8)]).map (fun l => Value.string ⟨l.toArray⟩)) := by
                            rw [List.map_append]; exact hown5
                          have hb5 : Only W w5 (fun x => x = g) := (HO2.out.more (Gen.b_alloc (Below.refl _ _))).grown hg5 (fun q hq => .inr (HW2.out.lt q hq).1)
                          have hr5 : Row w5 g 56 _ := (hg5.block g (by simp; omega) (fun e => by have := (HW2.out.lt g e.symm).1; omega)).trans (Row.alloc HR2.out _)
                          have HR5 := Lib.hid hr5
                          obtain ⟨A5, c5, rfl, _⟩ := Gen.own_slice ho5
                          have HO5 := Lib.hid ho5
                          have HB5 := Lib.hid hb5
                          clear hown5 hg5 hat5 hb5 ho5 hr5))
              | fail)
            go_roundw
            case rel => exact ⟨k + 1, vs ++ [([] : List UInt8)], [], true, A5, c5, by omega, by go_num, by rw [List.length_append, hvk]; rfl, by rw [List.length_append, List.length_singleton]; omega, Lib.hid (.inr ⟨rfl, rfl, HX.out⟩), Lib.hid (by rw [List.length_append]; exact HO5.out), HR5, HB5⟩
            case measure => simp [RowKit.intOf]; omega
        · obtain rfl : k = n := by omega
          have HD := Lib.hid HQ.out.done
          have HC := Lib.hid (close_any (e := 93) HRr.out (by omega))
          go_wp2_with (fail)
          go_must (refine HC.out.mono ?_)
          rintro e w2 (⟨t2, ht, rfl, hr2, ho2⟩ | ⟨hno, rfl, hr2, ho2⟩)
          · have HY : Hid (lsr txr l = some (vs, t2) ∧ Rr w2 g t2 false ∧ w2.ownsRow W.heap.size 9 1 (.slice Al vs.length cl) vs.length (vs.map (fun l => Value.string ⟨l.toArray⟩)) ∧ Only W w2 (fun x => x = g)) := Lib.hid ⟨by unfold lsr; rw [HU1.out]; dsimp only; rw [HD.out, ht]; first | done | rfl, hr2, Only.own HW.out ho2 hg, HOr.out.then ho2⟩
            clear hr2 ho2 ht d0 d1
            dsimp only
            go_wp2
            go_ret
            exact .inl ⟨vs, t2, Al, cl, HY.out.1, rfl, HY.out.2.1, HY.out.2.2.1, HY.out.2.2.2⟩
          · have HY : Hid (lsr txr l = none ∧ Rr w2 g [] true ∧ Only W w2 (fun x => x = g)) := Lib.hid ⟨by
              unfold lsr
              rw [HU1.out]
              dsimp only
              rw [HD.out]
              cases t' with
              | nil => rfl
              | cons c t' =>
                by_cases hc : c = 93
                · subst hc; exact absurd rfl (hno t')
                · split
                  · rename_i heq
                    injection heq with heq
                    injection heq with _ heq
                    injection heq with heq _
                    exact absurd heq hc
                  · rfl, hr2, HOr.out.then ho2⟩
            clear hr2 ho2 hno d0 d1
            dsimp only
            go_wp2
            go_ret
            exact .inr ⟨HY.out.1, rfl, HY.out.2.1, HY.out.2.2⟩
      · have HX := Lib.hid hno
        clear hno HQ
        by_cases hlt : k < n
        · have hltI : (k : Int) < (n : Int) := by omega
          go_wp2
          go_ret
          exact .inr ⟨HX.out, rfl, HRr.out, HOr.out⟩
        · have hltI : ¬ (k : Int) < (n : Int) := by omega
          go_wp2
          go_ret
          exact .inr ⟨HX.out, rfl, HRr.out, HOr.out⟩
  · have HX : Hid (lsr txr l = none) := Lib.hid (by unfold lsr; rw [hu])
    have HR := Lib.hid hr
    have HO := Lib.hid ho
    have d0 := Row.cell hr 0
    have d1 := Row.cell hr 1
    clear hr ho hu hl h hf HU
    dsimp only
    go_wp2
    go_loopw [4, 5] (fun v iv wr => iv = .int .i64 0 ∧ v = .slice none 0 0 ∧ wr = w1) (fun _ _ _ => 0)
    case atStart => exact ⟨rfl, rfl, rfl⟩
    case round =>
      obtain ⟨rfl, rfl, hw⟩ := hrel
      have hw := hw.symm
      subst hw
      go_wp2
      go_ret
      exact .inr ⟨HX.out, rfl, HR.out, HO.out⟩
end
end Go.Proofs.YtapcfnlononniaaDoor.Wr
