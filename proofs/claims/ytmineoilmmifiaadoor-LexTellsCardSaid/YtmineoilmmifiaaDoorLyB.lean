/- Tokens: the reference's Lex and Text. -/
import Derived.Test.YtmineoilmmifiaaDoorLyA
namespace Go.Proofs.YtmineoilmmifiaaDoor.Lx
open Go.Lib Go.ChangeShapes Go.WideShapes Go.ChangeAt Go.RowKit Go.Proofs.YtmineoilmmifiaaDoor.Cell
set_option linter.unusedVariables false
set_option linter.unusedSimpArgs false
section
variable {W : World} {l : List UInt8}
set_option maxRecDepth 100000 in
set_option maxHeartbeats 16000000 in
theorem rlex_any (hl : l.length ≤ 4000) : Calls Tryd.prog 12 #[.string ⟨l.toArray⟩] W (LexP W l) := by
  have hz : (⟨l.toArray⟩ : ByteArray).size = l.length := by simp [ByteArray.size]
  have hlI : (l.length : Int) ≤ 4000 := by omega
  obtain ⟨i0, hi0, hz0, hz1, hz2⟩ := info_parts' infoT
  go_enter Tryd.func12, Tryd.ntmps12
  go_wp2
  go_loopw [5, 6] (fun lv av wr => ∃ (Q : Nat) (ts : List Tk) (A : Option Addr) (c : Nat), av = .int .i64 (Q : Int) ∧ lv = .slice A ts.length c ∧ Q ≤ l.length ∧ ts.length ≤ Q ∧ Hid (∀ ts' o, Lx Q (l.drop Q) ts' o → Lx 0 l (ts ++ ts') o) ∧ Hid (wr.ownsRow W.heap.size 25 4 (.slice A ts.length c) ts.length (ts.flatMap tcs)) ∧ Hid (Below W.heap.size W wr)) (fun _ av _ => l.length - (RowKit.intOf av).toNat)
  case atStart => exact ⟨0, [], none, 0, rfl, rfl, Nat.zero_le _, Nat.zero_le _, Lib.hid (fun ts' o h => by simpa using h), Lib.hid (own_nil _ _ _), Lib.hid (Below.refl _ _)⟩
  case round =>
    obtain ⟨Q, ts, A, c, rfl, rfl, hQ, htp, HX, HW, HB⟩ := hrel
    have q0 : (0 : Int) ≤ (Q : Int) := by omega
    have q1 : (Q : Int) ≤ (l.length : Int) := by omega
    by_cases hlt : Q < l.length
    · have hltI : (Q : Int) < (l.length : Int) := by omega
      obtain ⟨b, r, hbr⟩ : ∃ b r, l.drop Q = b :: r := ⟨_, _, List.drop_eq_getElem_cons hlt⟩
      have HBR := Lib.hid hbr
      obtain ⟨hb1, hb2, hb3⟩ := drop_hd hbr
      have hgb := byte_of hb1 (by rw [hz]; exact hlt)
      have HB2 := Lib.hid hb2
      have hwq : IntKind.i64.wrap ((Q : Int) + 1) = ((Q + 1 : Nat) : Int) := by rw [IntWalk.i64_in _ (by omega)]; omega
      obtain ⟨Q1, hQ1⟩ : ∃ Q1, Q + 1 = Q1 := ⟨_, rfl⟩
      rw [hQ1] at hwq HB2
      clear hbr hb1 hb2 hb3
      go_wp2_with (fail)
      go_must (refine (rblank_any b _).mono ?_)
      rintro e w1 ⟨rfl, hw⟩
      have hw := hw.symm
      subst hw
      cases hblk : blk b
      · have hb5 : (b :: r).dropWhile blk = b :: r := by rw [List.dropWhile_cons, hblk]; rfl
        have hb6 : spn blk (b :: r) = 0 := by unfold spn; rw [List.takeWhile_cons, hblk]; rfl
        have hbl2 : (b :: r).length = l.length - Q := by rw [← HBR.out, List.length_drop]
        have HD5 := Lib.hid hb5
        have HD6 := Lib.hid hb6
        clear hb5 hb6 hblk
        dsimp only
        go_wp2_with (fail)
        go_must (refine (token_any (by omega) HBR.out).mono ?_)
        rintro e w5 ⟨rfl, hb5⟩
        have HB5 := Lib.hid (Gen.over hb5 HB.out)
        have HW5 := Lib.hid (Gen.own_keep HW.out hb5)
        have hWs := HB5.out.size
        clear hb5
        cases hn : nxt (b :: r) with
        | error x =>
          have hx := nxt_err hn
          have hx0 : ¬ x = 0 := by omega
          have HLX : Hid (Lx 0 l ts (some (Q, x))) := Lib.hid (by
            have h := HX.out _ _ (by rw [HBR.out]; exact Lx.err HD5.out hn)
            rw [HD6.out, Nat.add_zero, List.append_nil] at h
            exact h)
          have HNR : Hid (TkR (b :: r) (Q : Int) = .tuple #[.agg #[.int .i64 0, .string ⟨#[]⟩, .int .i64 0, .int .i64 0], .int .i64 x]) := Lib.hid (by unfold TkR; rw [hn]; rfl)
          rw [HNR.out]
          have HBz : Hid (Below W.heap.size W (w5.alloc (.cells #[.int .i64 0, .string ⟨#[]⟩, .int .i64 0, .int .i64 0] 25))) := Lib.hid (Gen.b_alloc HB5.out)
          clear hn hx
          dsimp only
          go_wp2
          exact bodyPost_ret (v := .tuple #[.slice none 0 0, .int .i64 (Q : Int), .int .i64 x]) (by simp [results, Tryd.results12, go_sem]) rfl ⟨.inr ⟨ts, Q, x, HLX.out, rfl⟩, HBz.out⟩
        | ok y =>
          obtain ⟨k, t, n⟩ := y
          have hok := nxt_ok hn
          have htl : t.length ≤ (b :: r).length := by
            have := congrArg List.length hok.2.1
            rw [List.length_take] at this
            omega
          have ht0 := hok.1
          obtain ⟨P, hP⟩ : ∃ P, Q + t.length = P := ⟨_, rfl⟩
          have hQt : P ≤ l.length := by omega
          have hQP : Q < P := by omega
          have HDT : Hid ((b :: r).drop t.length = l.drop P) := Lib.hid (by rw [← HBR.out, List.drop_drop, hP])
          have HXN : Hid (∀ ts' o, Lx P (l.drop P) ts' o → Lx 0 l ((ts ++ [Tk.mk k t n Q]) ++ ts') o) := Lib.hid fun ts' o h => by
            have h1 := HX.out _ _ (by rw [HBR.out]; exact Lx.cons HD5.out hn (by rw [HD6.out, Nat.add_zero, HDT.out, hP]; exact h))
            rw [HD6.out, Nat.add_zero] at h1
            rw [List.append_assoc]
            exact h1
          have HNR : Hid (TkR (b :: r) (Q : Int) = .tuple #[.agg #[.int .i64 k, .string ⟨t.toArray⟩, .int .i64 n, .int .i64 (Q : Int)], .int .i64 0]) := Lib.hid (by unfold TkR; rw [hn]; rfl)
          rw [HNR.out]
          have hzt : (⟨t.toArray⟩ : ByteArray).size = t.length := by simp [ByteArray.size]
          have hwa : IntKind.i64.wrap ((Q : Int) + (t.length : Int)) = (P : Int) := by rw [IntWalk.i64_in _ (by omega)]; omega
          clear hn hok hbl2 htl
          dsimp only
          go_wp2_with (first
            | (at_builtin
               go_must (refine App.wpList_append_any _ rfl (.tmp 32) (.tmp 34) _ rfl W.heap.size 25 i0 _ 4 40 Tryd.underlying22 hi0 hz0 hz1 hz2 rfl (by omega) (.slice A ts.length c) ts.length (ts.flatMap tcs) rfl (Gen.own_keep HW5.out (Gen.b_alloc (Gen.b_alloc (Below.refl _ _)))) (w5.heap.size + 1 + 1) (some ⟨w5.heap.size + 1, 0, none⟩) 1 1 (tcs (Tk.mk k t n Q)) rfl (Gen.reads_blk (by simp) rfl) (by simp [tcs, Value.oneCell']) (by simp only [maxLen]; omega) (by omega) (by simp; omega) ?_
                        intro v6 w6 hown6 hg6 hat6
                        have ho6 : w6.ownsRow W.heap.size 25 4 v6 (ts.length + 1) ((ts ++ [Tk.mk k t n Q]).flatMap tcs) := by
                          rw [List.flatMap_append]; simpa using hown6
                        have hb6 : Below W.heap.size W w6 := Below.grown (Gen.b_alloc (Gen.b_alloc HB5.out)) hg6 (Gen.b_alloc (Gen.b_alloc HB5.out)).size (fun q hq => (HW5.out.lt q hq).1)
                        have hr7 : Row w6 w5.heap.size 25 #[.int .i64 k, .string ⟨t.toArray⟩, .int .i64 n, .int .i64 (Q : Int)] := (hg6.block w5.heap.size (by simp; omega) (fun e => by have := (HW5.out.lt _ e.symm).2; omega)).trans (Row.alloc (Row.new w5 25 _) _)
                        have d7 := Row.cell hr7 1
                        obtain ⟨A6, c6, rfl, _⟩ := Gen.own_slice ho6
                        have HO6 := Lib.hid ho6
                        have HB6 := Lib.hid hb6
                        clear hown6 hg6 hat6 hb6 ho6 hr7))
            | fail)
          go_roundw
          case rel => exact ⟨P, ts ++ [Tk.mk k t n Q], A6, c6, by go_num, by rw [List.length_append]; rfl, by omega, by rw [List.length_append, List.length_singleton]; omega, HXN, Lib.hid (by rw [List.length_append]; exact HO6.out), HB6⟩
          case measure => simp [RowKit.intOf]; omega
      · have HXN : Hid (∀ ts' o, Lx Q1 (l.drop Q1) ts' o → Lx 0 l (ts ++ ts') o) := Lib.hid fun ts' o h => by
          refine HX.out _ _ ?_
          rw [HBR.out]
          refine lx_ahead (a := [b]) (by rw [List.dropWhile_cons, hblk]; rfl) ?_
          rw [← HB2.out]
          show Lx (Q + 1) _ _ _
          rw [hQ1]
          exact h
        dsimp only
        go_wp2
        go_roundw
        case rel => exact ⟨Q1, ts, A, c, by go_num, rfl, by omega, by omega, HXN, HW, HB⟩
        case measure => simp [RowKit.intOf]; omega
    · obtain rfl : Q = l.length := by omega
      have HLX : Hid (Lx 0 l ts none) := Lib.hid (by
        have h2 := HX.out _ _ (Lx.stop (by rw [List.drop_of_length_le (Nat.le_refl _)]; rfl))
        rwa [List.append_nil] at h2)
      have hsz := HB.out.size
      go_wp2_with (first
          | (at_builtin
             go_must (refine App.wpList_append_any _ rfl (.tmp 41) (.tmp 45) _ rfl W.heap.size 25 i0 _ 4 40 Tryd.underlying22 hi0 hz0 hz1 hz2 rfl (by omega) (.slice A ts.length c) ts.length (ts.flatMap tcs) rfl (Gen.own_keep HW.out (Gen.b_alloc (Below.refl _ _))) (wr.heap.size + 1) (some ⟨wr.heap.size, 0, none⟩) 1 1 (tcs (endT l.length)) rfl (Gen.reads_blk (by simp) rfl) (by simp [tcs, Value.oneCell']) (by simp only [maxLen]; omega) (by omega) (by simp; omega) ?_
                      intro v6 w6 hown6 hg6 hat6
                      have ho6 : w6.ownsRow W.heap.size 25 4 v6 (ts.length + 1) ((ts ++ [endT l.length]).flatMap tcs) := by
                        rw [List.flatMap_append]; simpa using hown6
                      have hb6 : Below W.heap.size W w6 := Below.grown (Gen.b_alloc HB.out) hg6 (Gen.b_alloc HB.out).size (fun q hq => (HW.out.lt q hq).1)
                      obtain ⟨A6, c6, rfl, _⟩ := Gen.own_slice ho6
                      have HO6 := Lib.hid ho6
                      have HB6 := Lib.hid hb6
                      clear hown6 hg6 hat6 hb6 ho6))
          | fail)
      exact bodyPost_ret (v := .tuple #[.slice A6 (ts.length + 1) c6, .int .i64 0, .int .i64 0]) (by simp [results, Tryd.results12, go_sem]) rfl ⟨.inl ⟨ts, A6, c6, HLX.out, rfl, HO6.out⟩, HB6.out⟩
end
theorem jn_snoc : ∀ (xs : List (List UInt8)) (t : List UInt8), jn (xs ++ [t]) = if xs = [] then t else jn xs ++ 32 :: t
  | [], t => rfl
  | [a], t => rfl
  | a :: b :: r, t => by
    have ih := jn_snoc (b :: r) t
    rw [if_neg (by simp)] at ih ⊢
    show a ++ 32 :: jn ((b :: r) ++ [t]) = (a ++ 32 :: jn (b :: r)) ++ 32 :: t
    rw [ih]
    simp
set_option maxRecDepth 100000 in
set_option maxHeartbeats 8000000 in
theorem rtext_any {W : World} {A : Option Addr} {n cap : Nat} {xs : List Tg} (hn : xs.length = n) (hc : Tgs W A xs) (hM : ∀ x ∈ xs, x.t.length ≤ 1000) (hb : n ≤ 1000) :
    Calls Tryd.prog 19 #[.slice A n cap] W fun e w' => e = .returned (.string ⟨(jn (txs xs)).toArray⟩) ∧ Below W.heap.size W w' := by
  have HN := Lib.hid hn
  have HC := Lib.hid hc
  have HM := Lib.hid hM
  have HJ : Hid (∀ k, (jn (txs (xs.take k))).length ≤ 1001000) := Lib.hid fun k => by
    have h1 := jn_len (xs := txs (xs.take k)) (b := 1000) fun t ht => by
      obtain ⟨x, hx, e⟩ := txs_in ht
      rw [← e]
      exact hM x (List.mem_of_mem_take hx)
    have h2 := txs_len (xs.take k)
    rw [List.length_take] at h2
    have h3 : (txs (xs.take k)).length * (1000 + 1) ≤ 1000 * 1001 := Nat.mul_le_mul (by omega) (by omega)
    omega
  clear hn hc hM
  go_enter Tryd.func19, Tryd.ntmps19
  go_wp2
  go_loopw [3, 4, 5] (fun sv fv iv wr => ∃ (k : Nat) (b : Bool), k ≤ n ∧ iv = .int .i64 (k : Int) ∧ sv = .string ⟨(jn (txs (xs.take k))).toArray⟩ ∧ fv = .bool b ∧ Hid (b = (txs (xs.take k)).isEmpty) ∧ wr = W) (fun _ _ iv _ => n - (RowKit.intOf iv).toNat)
  case atStart => exact ⟨0, true, Nat.zero_le _, rfl, rfl, rfl, Lib.hid rfl, rfl⟩
  case round =>
    obtain ⟨k, fb, hk, rfl, rfl, rfl, HF, hw⟩ := hrel
    have hw := hw.symm
    subst hw
    have k0 : (0 : Int) ≤ (k : Int) := by omega
    have hjl := HJ.out k
    by_cases hlt : k < n
    · have hltI : (k : Int) < (n : Int) := by omega
      obtain ⟨x, hx⟩ := at_ xs k (by rw [HN.out]; exact hlt)
      obtain ⟨b, off, rfl, hcell⟩ := HC.out (by rw [HN.out]; omega)
      obtain ⟨d0, d1, d2, d3⟩ := hcell k x hx
      have HT := Lib.hid (txs_snoc hx)
      have hxl := HM.out x (List.mem_of_getElem? hx)
      clear hcell hx
      by_cases hk3 : x.k = 3
      · have HT2 : Hid (txs (xs.take (k + 1)) = txs (xs.take k)) := Lib.hid (by rw [HT.out, if_pos hk3])
        rw [hk3] at d0
        go_wp2
        go_roundw
        case rel => exact ⟨k + 1, fb, by omega, by go_num, by rw [HT2.out], rfl, Lib.hid (by rw [HT2.out]; exact HF.out), by first | rfl | trivial⟩
        case measure => simp [RowKit.intOf]; omega
      · have HT2 : Hid (txs (xs.take (k + 1)) = txs (xs.take k) ++ [x.t]) := Lib.hid (by rw [HT.out, if_neg hk3])
        have HF2 : Hid (false = (txs (xs.take (k + 1))).isEmpty) := Lib.hid (by rw [HT2.out]; simp)
        have HJS := Lib.hid (jn_snoc (txs (xs.take k)) x.t)
        have hzx : (⟨x.t.toArray⟩ : ByteArray).size = x.t.length := by simp [ByteArray.size]
        cases fb
        · have hne : txs (xs.take k) ≠ [] := fun h => by have := HF.out; rw [h] at this; cases this
          have HS : Hid ((⟨(jn (txs (xs.take k))).toArray⟩ : ByteArray) ++ ⟨#[32]⟩ ++ ⟨x.t.toArray⟩ = ⟨(jn (txs (xs.take (k + 1)))).toArray⟩) := Lib.hid (by
            rw [HT2.out, HJS.out, if_neg hne, show (⟨#[32]⟩ : ByteArray) = ⟨[32].toArray⟩ from rfl, app_list, app_list]
            simp)
          clear hne
          go_wp2
          rw [HS.out]
          go_roundw
          case rel => exact ⟨k + 1, false, by omega, by go_num, rfl, rfl, HF2, by first | rfl | trivial⟩
          case measure => simp [RowKit.intOf]; omega
        · have he : txs (xs.take k) = [] := List.isEmpty_iff.1 HF.out.symm
          have HS : Hid ((⟨(jn (txs (xs.take k))).toArray⟩ : ByteArray) ++ ⟨x.t.toArray⟩ = ⟨(jn (txs (xs.take (k + 1)))).toArray⟩) := Lib.hid (by
            rw [HT2.out, HJS.out, if_pos he, app_list, he]
            rfl)
          clear he
          go_wp2
          rw [HS.out]
          go_roundw
          case rel => exact ⟨k + 1, false, by omega, by go_num, rfl, rfl, HF2, by first | rfl | trivial⟩
          case measure => simp [RowKit.intOf]; omega
    · obtain rfl : k = n := by omega
      have HTK : Hid (xs.take k = xs) := Lib.hid (List.take_of_length_le (by rw [HN.out]; exact Nat.le_refl _))
      rw [HTK.out]
      go_wp2
      go_ret
      exact ⟨rfl, Below.refl _ _⟩
end Go.Proofs.YtmineoilmmifiaaDoor.Lx
