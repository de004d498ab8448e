/- Tokens: the program's Lex. -/
import Derived.Test.YtmineoilmmifiaaDoorLxT
namespace Go.Proofs.YtmineoilmmifiaaDoor.Lx
open Go.Lib Go.ChangeShapes Go.WideShapes Go.ChangeAt Go.RowKit Go.Proofs.YtmineoilmmifiaaDoor.Cell
set_option linter.unusedVariables false
set_option linter.unusedSimpArgs false
def tcs (x : Tk) : List Value := [.int .i64 x.k, .string ⟨x.t.toArray⟩, .int .i64 x.n, .int .i64 (x.p : Int)]
def TkRow (W : World) (B : Nat) (A : Option Addr) (c : Nat) (ts : List Tk) : Prop := W.ownsRow B 25 4 (.slice A ts.length c) ts.length (ts.flatMap tcs)
theorem infoT : (Tryd.prog.info? 25).map (fun i => (i.zero, i.size, i.bytes)) = some (some (.agg #[.int .i64 0, .string ⟨#[]⟩, .int .i64 0, .int .i64 0]), 4, 40) := by kernel_rfl
theorem info_parts' {o : Option TypeInfo} {z : Value} {a b : Nat} (h : o.map (fun i => (i.zero, i.size, i.bytes)) = some (some z, a, b)) : ∃ i, o = some i ∧ i.zero = some z ∧ i.size = a ∧ i.bytes = b := by
  cases o with
  | none => cases h
  | some i =>
    simp only [Option.map_some, Option.some.injEq, Prod.mk.injEq] at h
    exact ⟨i, rfl, h.1, h.2.1, h.2.2⟩
theorem own_nil {w : World} (B size : Nat) (e : TypeId) : w.ownsRow B e size (.slice none 0 0) 0 [] := ⟨by simp, .inl ⟨rfl, rfl⟩⟩
theorem lx_len {p : Nat} {l : List UInt8} {ts : List Tk} {o : Option (Nat × Int)} (h : Lx p l ts o) : ts.length ≤ l.length := by
  induction h with
  | stop h => simp
  | err h hn => simp
  | @cons p l c r t k n ts o h hn hr ih =>
    have hok := nxt_ok hn
    have hll := congrArg List.length (tw_dw blk l)
    rw [List.length_append, h] at hll
    rw [List.length_drop] at ih
    rw [List.length_cons]
    have htl : t.length ≤ (c :: r).length := by
      have := congrArg List.length hok.2.1
      rw [List.length_take] at this
      omega
    omega
def endT (n : Nat) : Tk := ⟨3, [], 0, n⟩
/-- what Lex returns -/
def LexP (W : World) (l : List UInt8) (e : Ending) (w' : World) : Prop :=
  ((∃ ts A c, Lx 0 l ts none ∧ e = .returned (.tuple #[.slice A (ts.length + 1) c, .int .i64 0, .int .i64 0]) ∧ w'.ownsRow W.heap.size 25 4 (.slice A (ts.length + 1) c) (ts.length + 1) ((ts ++ [endT l.length]).flatMap tcs)) ∨
   (∃ ts q x, Lx 0 l ts (some (q, x)) ∧ e = .returned (.tuple #[.slice none 0 0, .int .i64 (q : Int), .int .i64 x]))) ∧ Below W.heap.size W w'
section
variable {w0 W : World} {l : List UInt8}
set_option maxRecDepth 100000 in
set_option maxHeartbeats 4000000 in
theorem lex_full (hl : 4000 < l.length) : Calls Tryd.prog 11 #[.string ⟨l.toArray⟩] W fun e w' => e = .returned (.tuple #[.slice none 0 0, .int .i64 0, .int .i64 6]) ∧ w' = W := by
  have hlI : (4000 : Int) < (l.length : Int) := by omega
  go_enter Tryd.func11, Tryd.ntmps11
  go_wp2
  exact bodyPost_ret (v := .tuple #[.slice none 0 0, .int .i64 0, .int .i64 6]) (by simp [results, Tryd.results11, go_sem]) rfl ⟨rfl, rfl⟩
set_option maxRecDepth 100000 in
set_option maxHeartbeats 16000000 in
theorem lex_any (hE : Ev w0 W) (hl : l.length ≤ 4000) : Calls Tryd.prog 11 #[.string ⟨l.toArray⟩] W (LexP W l) := by
  have hz : (⟨l.toArray⟩ : ByteArray).size = l.length := by simp [ByteArray.size]
  have hlI : (l.length : Int) ≤ 4000 := by omega
  have HE := Lib.hid hE
  have HS := Lib.hid (fun W' => span_blk (l := l) (W := W') (by omega))
  obtain ⟨i0, hi0, hz0, hz1, hz2⟩ := info_parts' infoT
  have hs0 := spn_le blk l
  clear hE
  go_enter Tryd.func11, Tryd.ntmps11
  go_wp2_with (fail)
  go_must (refine (HS.out _).mono ?_)
  rintro e w1 ⟨rfl, hw⟩
  have hw := hw.symm
  subst hw
  dsimp only
  go_wp2
  go_loopw [5, 6] (fun lv av wr => ∃ (p Q : Nat) (ts : List Tk) (A : Option Addr) (c : Nat), av = .int .i64 (Q : Int) ∧ lv = .slice A ts.length c ∧ Q ≤ l.length ∧ p ≤ Q ∧ ts.length ≤ p ∧ Hid (Q = p + spn blk (l.drop p)) ∧ Hid (∀ ts' o, Lx p (l.drop p) ts' o → Lx 0 l (ts ++ ts') o) ∧ Hid (wr.ownsRow W.heap.size 25 4 (.slice A ts.length c) ts.length (ts.flatMap tcs)) ∧ Hid (Below W.heap.size W wr)) (fun _ av _ => l.length - (RowKit.intOf av).toNat)
  case atStart => exact ⟨0, spn blk l, [], none, 0, rfl, rfl, hs0, Nat.zero_le _, Nat.zero_le _, Lib.hid (by simp), Lib.hid (fun ts' o h => by simpa using h), Lib.hid (own_nil _ _ _), Lib.hid (Below.refl _ _)⟩
  case round =>
    obtain ⟨p, Q, ts, A, c, rfl, rfl, hQ, hpQ, htp, HQ, HX, HW, HB⟩ := hrel
    have q0 : (0 : Int) ≤ (Q : Int) := by omega
    have q1 : (Q : Int) ≤ (l.length : Int) := by omega
    by_cases hlt : Q < l.length
    · have hltI : (Q : Int) < (l.length : Int) := by omega
      have hdw : (l.drop p).dropWhile blk = l.drop Q := by rw [dw_drop, List.drop_drop, ← HQ.out]
      obtain ⟨b, r, hbr⟩ : ∃ b r, l.drop Q = b :: r := ⟨_, _, List.drop_eq_getElem_cons hlt⟩
      have HDW := Lib.hid (hdw.trans hbr)
      have HBR := Lib.hid hbr
      have HDK : Hid ((⟨l.toArray⟩ : ByteArray).extract Q (⟨l.toArray⟩ : ByteArray).size = ⟨(b :: r).toArray⟩) := Lib.hid (str_eq (by rw [ext_end, ← hbr]))
      have hbl : (b :: r).length ≤ 1000000000 := by rw [← hbr, List.length_drop]; omega
      rw [hz] at HDK
      clear hdw hbr
      go_wp2_with (fail)
      rw [HDK.out]
      go_must (refine (next_any (HE.out.keep HB.out) hbl).mono ?_)
      rintro e w5 ⟨rfl, hb5⟩
      have HB5 := Lib.hid (Gen.over hb5 HB.out)
      have HW5 := Lib.hid (Gen.own_keep HW.out hb5)
      have hWs := HB5.out.size
      clear hb5
      cases hn : nxt (b :: r) with
      | error x =>
        have hx := nxt_err hn
        have hx0 : ¬ x = 0 := by omega
        have HLX := Lib.hid (HX.out _ _ (Lx.err HDW.out hn))
        have HNR : Hid (NxR (b :: r) = .tuple #[.agg #[.int .i64 0, .string ⟨#[]⟩, .int .i64 0, .int .i64 0], .int .i64 x]) := Lib.hid (by unfold NxR; rw [hn]; rfl)
        rw [HNR.out]
        have HBz : Hid (Below W.heap.size W (w5.alloc (.cells #[.int .i64 0, .string ⟨#[]⟩, .int .i64 0, .int .i64 0] 25))) := Lib.hid (Gen.b_alloc HB5.out)
        have HLX2 : Hid (Lx 0 l ts (some (Q, x))) := Lib.hid (by have h := HLX.out; rw [← HQ.out, List.append_nil] at h; exact h)
        clear hn hx
        dsimp only
        go_wp2
        exact bodyPost_ret (v := .tuple #[.slice none 0 0, .int .i64 (Q : Int), .int .i64 x]) (by simp [results, Tryd.results11, go_sem]) rfl ⟨.inr ⟨ts, Q, x, HLX2.out, rfl⟩, HBz.out⟩
      | ok y =>
        obtain ⟨k, t, n⟩ := y
        have hok := nxt_ok hn
        have htl : t.length ≤ (b :: r).length := by
          have := congrArg List.length hok.2.1
          rw [List.length_take] at this
          omega
        have ht0 := hok.1
        have hbl2 : (b :: r).length = l.length - Q := by rw [← HBR.out, List.length_drop]
        obtain ⟨P, hP⟩ : ∃ P, Q + t.length = P := ⟨_, rfl⟩
        have hQt : P ≤ l.length := by omega
        have hQP : Q < P := by omega
        have HDT : Hid ((b :: r).drop t.length = l.drop P) := Lib.hid (by rw [← HBR.out, List.drop_drop, hP])
        have HXN : Hid (∀ ts' o, Lx P (l.drop P) ts' o → Lx 0 l ((ts ++ [Tk.mk k t n Q]) ++ ts') o) := Lib.hid fun ts' o h => by
          have h1 := HX.out _ _ (Lx.cons HDW.out hn (by rw [← HQ.out, HDT.out, hP]; exact h))
          rw [← HQ.out] at h1
          rw [List.append_assoc]
          exact h1
        have HNR : Hid (NxR (b :: r) = .tuple #[.agg #[.int .i64 k, .string ⟨t.toArray⟩, .int .i64 n, .int .i64 0], .int .i64 0]) := Lib.hid (by unfold NxR; rw [hn]; rfl)
        rw [HNR.out]
        have hzt : (⟨t.toArray⟩ : ByteArray).size = t.length := by simp [ByteArray.size]
        have hwa : IntKind.i64.wrap ((Q : Int) + (t.length : Int)) = (P : Int) := by rw [IntWalk.i64_in _ (by omega)]; omega
        have HSP := Lib.hid (fun W' => span_blk (l := l.drop P) (W := W') (by rw [List.length_drop]; omega))
        have hsp2 := spn_le blk (l.drop P)
        rw [List.length_drop] at hsp2
        have HDK2 : Hid ((⟨l.toArray⟩ : ByteArray).extract P (⟨l.toArray⟩ : ByteArray).size = ⟨(l.drop P).toArray⟩) := Lib.hid (str_eq (by rw [ext_end]))
        rw [hz] at HDK2
        obtain ⟨S2, hS2⟩ : ∃ S2, spn blk (l.drop P) = S2 := ⟨_, rfl⟩
        have HS2 := Lib.hid hS2
        rw [hS2] at HSP hsp2
        obtain ⟨P2, hP2⟩ : ∃ P2, P + S2 = P2 := ⟨_, rfl⟩
        have hw2 : IntKind.i64.wrap ((P : Int) + (S2 : Int)) = (P2 : Int) := by rw [IntWalk.i64_in _ (by omega)]; omega
        have p0 : (0 : Int) ≤ (P : Int) := by omega
        have p1 : (P : Int) ≤ (l.length : Int) := by omega
        clear hn hok hbl2 htl hS2
        dsimp only
        go_wp2_with (first
          | (at_builtin
             go_must (refine App.wpList_append_any _ rfl (.tmp 37) (.tmp 39) _ rfl W.heap.size 25 i0 _ 4 40 Tryd.underlying22 hi0 hz0 hz1 hz2 rfl (by omega) (.slice A ts.length c) ts.length (ts.flatMap tcs) rfl (Gen.own_keep HW5.out (Gen.b_alloc (Gen.b_alloc (Below.refl _ _)))) (w5.heap.size + 1 + 1) (some ⟨w5.heap.size + 1, 0, none⟩) 1 1 (tcs (Tk.mk k t n Q)) rfl (Gen.reads_blk (by simp) rfl) (by simp [tcs, Value.oneCell']) (by simp only [maxLen]; omega) (by omega) (by simp; omega) ?_
                      intro v6 w6 hown6 hg6 hat6
                      have ho6 : w6.ownsRow W.heap.size 25 4 v6 (ts.length + 1) ((ts ++ [Tk.mk k t n Q]).flatMap tcs) := by
                        rw [List.flatMap_append]; simpa using hown6
                      have hb6 : Below W.heap.size W w6 := Below.grown (Gen.b_alloc (Gen.b_alloc HB5.out)) hg6 (Gen.b_alloc (Gen.b_alloc HB5.out)).size (fun q hq => (HW5.out.lt q hq).1)
                      have hr7 : Row w6 w5.heap.size 25 #[.int .i64 k, .string ⟨t.toArray⟩, .int .i64 n, .int .i64 (Q : Int)] := (hg6.block w5.heap.size (by simp; omega) (fun e => by have := (HW5.out.lt _ e.symm).2; omega)).trans (Row.alloc (Row.new w5 25 _) _)
                      have d7 := Row.cell hr7 1
                      obtain ⟨A6, c6, rfl, _⟩ := Gen.own_slice ho6
                      have HO6 := Lib.hid ho6
                      have HB6 := Lib.hid hb6
                      clear hown6 hg6 hat6 hb6 ho6 hr7))
          | fail)
        rw [HDK2.out]
        go_must (refine (HSP.out _).mono ?_)
        rintro e w7 ⟨rfl, hw⟩
        have hw := hw.symm
        subst hw
        dsimp only
        go_wp2
        go_roundw
        case rel => exact ⟨P, P2, ts ++ [Tk.mk k t n Q], A6, c6, by go_num, by rw [List.length_append]; rfl, by omega, by omega, by rw [List.length_append, List.length_singleton]; omega, Lib.hid (by rw [HS2.out]; exact hP2.symm), HXN, Lib.hid (by rw [List.length_append]; exact HO6.out), HB6⟩
        case measure => simp [RowKit.intOf]; omega
    · obtain rfl : Q = l.length := by omega
      have HLX : Hid (Lx 0 l ts none) := Lib.hid (by
        have h1 : (l.drop p).dropWhile blk = [] := by rw [dw_drop, List.drop_drop, ← HQ.out]; simp
        have h2 := HX.out _ _ (Lx.stop h1)
        rwa [List.append_nil] at h2)
      have hsz := HB.out.size
      go_wp2_with (first
          | (at_builtin
             go_must (refine App.wpList_append_any _ rfl (.tmp 46) (.tmp 50) _ rfl W.heap.size 25 i0 _ 4 40 Tryd.underlying22 hi0 hz0 hz1 hz2 rfl (by omega) (.slice A ts.length c) ts.length (ts.flatMap tcs) rfl (Gen.own_keep HW.out (Gen.b_alloc (Below.refl _ _))) (wr.heap.size + 1) (some ⟨wr.heap.size, 0, none⟩) 1 1 (tcs (endT l.length)) rfl (Gen.reads_blk (by simp) rfl) (by simp [tcs, Value.oneCell']) (by simp only [maxLen]; omega) (by omega) (by simp; omega) ?_
                      intro v6 w6 hown6 hg6 hat6
                      have ho6 : w6.ownsRow W.heap.size 25 4 v6 (ts.length + 1) ((ts ++ [endT l.length]).flatMap tcs) := by
                        rw [List.flatMap_append]; simpa using hown6
                      have hb6 : Below W.heap.size W w6 := Below.grown (Gen.b_alloc HB.out) hg6 (Gen.b_alloc HB.out).size (fun q hq => (HW.out.lt q hq).1)
                      obtain ⟨A6, c6, rfl, _⟩ := Gen.own_slice ho6
                      have HO6 := Lib.hid ho6
                      have HB6 := Lib.hid hb6
                      clear hown6 hg6 hat6 hb6 ho6))
          | fail)
      exact bodyPost_ret (v := .tuple #[.slice A6 (ts.length + 1) c6, .int .i64 0, .int .i64 0]) (by simp [results, Tryd.results11, go_sem]) rfl ⟨.inl ⟨ts, A6, c6, HLX.out, rfl, HO6.out⟩, HB6.out⟩
end
end Go.Proofs.YtmineoilmmifiaaDoor.Lx
