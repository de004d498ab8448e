/- Wire: the reader: fail. -/
import Derived.Test.YtapcfnlononniaaDoorWrA
import Derived.Test.YtapcfnlononniaaDoorShelf
import Derived.Lib.AtoiErrMem
import Derived.Lib.AtoiTie
import Derived.Deep.DeepCutAuto
import Derived.WalkSpells
import Derived.Lib.SmallJoins
import Derived.Sort.OwnSorted
import Derived.Lib.AppendIntMem
namespace Go.Proofs.YtapcfnlononniaaDoor.Wr
open Go.Lib Go.ChangeShapes Go.WideShapes Go.ChangeAt Go.RowKit Go.Proofs.YtapcfnlononniaaDoor.Cell
set_option linter.unusedVariables false
set_option linter.unusedSimpArgs false
/-- nothing else changes than some blocks -/
structure Only (W w' : World) (R : Nat → Prop) : Prop where
  os : w'.os = W.os
  tape : w'.tape = W.tape
  output : w'.output = W.output
  size : W.heap.size ≤ w'.heap.size
  block : ∀ k, k < W.heap.size → ¬ R k → w'.heap[k]? = W.heap[k]?
section
variable {w W w' w1 w2 : World} {R R' : Nat → Prop}
theorem Only.refl (W : World) (R : Nat → Prop) : Only W W R := ⟨rfl, rfl, rfl, Nat.le_refl _, fun _ _ _ => rfl⟩
theorem Only.of_below (hb : Below W.heap.size W w') (R : Nat → Prop) : Only W w' R := ⟨hb.os, hb.tape, hb.output, hb.size, fun k hk _ => hb.block k hk⟩
theorem Only.trans (h : Only W w1 R) (k : Only w1 w2 R') (hr : ∀ b, R' b → R b ∨ W.heap.size ≤ b) : Only W w2 R :=
  ⟨k.os.trans h.os, k.tape.trans h.tape, k.output.trans h.output, Nat.le_trans h.size k.size, fun b hb hn => (k.block b (Nat.lt_of_lt_of_le hb h.size) (fun c => by
    rcases hr b c with e | e
    · exact hn e
    · omega)).trans (h.block b hb hn)⟩
theorem Only.then (h : Only W w1 R) (k : Only w1 w2 R) : Only W w2 R := h.trans k fun _ e => .inl e
theorem Only.more (h : Only W w1 R) (hb : Below w1.heap.size w1 w2) : Only W w2 R := h.trans (R' := R) (Only.of_below hb R) (fun b e => .inl e)
theorem Only.set (h : Only W w1 R) {p : Addr} (hp : R p.block ∨ W.heap.size ≤ p.block) (v : Value) : Only W (w1.setCell p v) R :=
  have hb : Below 0 w1 (w1.setCell p v) := Below.setCell (Below.refl 0 w1) (Nat.zero_le _) v
  ⟨hb.os.trans h.os, hb.tape.trans h.tape, hb.output.trans h.output, Nat.le_trans h.size hb.size, fun k hk hn => (Below.heap_setCell w1 p v k (fun e => by
    subst e
    rcases hp with e | e
    · exact hn e
    · omega)).trans (h.block k hk hn)⟩
theorem Only.below (hb : Below w.heap.size w W) (h : Only W w' R) (hr : ∀ b, R b → w.heap.size ≤ b) : Below w.heap.size w w' :=
  ⟨h.os.trans hb.os, h.tape.trans hb.tape, h.output.trans hb.output, Nat.le_trans hb.size h.size, fun k hk => (h.block k (Nat.lt_of_lt_of_le hk hb.size) (fun e => by have := hr k e; omega)).trans (hb.block k hk)⟩
theorem Only.row {g : Nat} {t : TypeId} {cs : Array Value} (h : Only W w' R) (hr : Row W g t cs) (hn : ¬ R g) : Row w' g t cs := (h.block g hr.lt hn).trans hr
theorem Only.cell {b o : Nat} {v : Value} (h : Only W w' R) (hc : W.cell? ⟨b, o, none⟩ = some v) (hn : ¬ R b) : w'.cell? ⟨b, o, none⟩ = some v := by
  have hb := World.block_lt_of_cell? W ⟨b, o, none⟩ hc
  exact (World.cell?_of_block (h.block b hb hn)).trans hc
end
/-- a reader in memory -/
def Rd (W : World) (g : Nat) (s : ByteArray) (f : Bool) : Prop := Row W g 54 #[.string s, .bool f]
theorem Rd.keep {W w' : World} {g : Nat} {s : ByteArray} {f : Bool} (h : Rd W g s f) (hb : Below W.heap.size W w') : Rd w' g s f := Row.keep h hb
set_option maxRecDepth 100000 in
set_option maxHeartbeats 2000000 in
theorem fail_any {W : World} {g : Nat} {s : ByteArray} {f : Bool} (h : Rd W g s f) :
    Calls Tryd.prog 52 #[.pointer (some ⟨g, 0, none⟩)] W fun e w' => (∃ v, e = .returned v) ∧ Rd w' g ⟨#[]⟩ true ∧ Only W w' (· = g) := by
  have d0 := Row.cell h 0
  have d1 := Row.cell h 1
  have f0 := Row.frozen h 0
  have f1 := Row.frozen h 1
  have HX := Lib.hid (show Rd ((W.setCell ⟨g, 0, none⟩ (.string ⟨#[]⟩)).setCell ⟨g, 1, none⟩ (.bool true)) g ⟨#[]⟩ true ∧ Only W ((W.setCell ⟨g, 0, none⟩ (.string ⟨#[]⟩)).setCell ⟨g, 1, none⟩ (.bool true)) (· = g) from
    ⟨(Row.set h 0 _).set 1 _, Only.set (R := fun b => b = g) (p := ⟨g, 1, none⟩) (Only.set (R := fun b => b = g) (p := ⟨g, 0, none⟩) (Only.refl W _) (.inl rfl) _) (.inl rfl) _⟩)
  clear h
  go_enter Tryd.func52, Tryd.ntmps52
  go_wp2
  go_end0
  exact ⟨⟨_, rfl⟩, HX.out⟩
abbrev PowTab (w : World) : Prop := Lib.TabIs Tryd.prog w "internal/strconv.uint64pow10" .u64 Lib.pow10Tab
/-- a variable that holds an error -/
def Sent (w : World) (g : Nat) : Prop := ∃ ev, w.cell? ⟨g, 0, none⟩ = some ev ∧ (ev = .nilIface ∨ ∃ te pe, ev = .iface te pe)
theorem str_eq {a b : ByteArray} (h : a.data.toList = b.data.toList) : a = b := by
  cases a
  cases b
  congr 1
  exact Array.toList_inj.1 h
theorem ext_end (s : ByteArray) (a : Nat) : (s.extract a s.size).data.toList = s.data.toList.drop a := by
  rw [Lib.extract_data]
  exact List.take_of_length_le (by rw [List.length_drop]; exact Nat.le_refl _)
theorem Sent.keep {w w1 : World} {g : Nat} (h : Sent w g) (hb : Below w.heap.size w w1) : Sent w1 g := by
  obtain ⟨ev, h1, h2⟩ := h
  exact ⟨ev, Gen.keep hb h1, h2⟩
theorem atoi_any (s : ByteArray) (hs : s.size ≤ 1000000000) (w : World) (h2 : Sent w 2) (h3 : Sent w 3) :
    Calls Tryd.prog 63 #[.string s] w fun e w' => ((∃ v, atoiAll s.data.toList = .ok v ∧ e = .returned (.tuple #[.int .i64 v, .nilIface])) ∨ ((∀ v, atoiAll s.data.toList ≠ .ok v) ∧ ∃ v te pe, e = .returned (.tuple #[.int .i64 v, .iface te pe]))) ∧ Below w.heap.size w w' := by
  by_cases hok : ∃ v, atoiAll s.data.toList = .ok v
  · obtain ⟨v, h⟩ := hok
    exact (Tryd.strconv_Atoi_ok s (by omega) v h w).mono fun e w' ⟨he, hw⟩ => ⟨.inl ⟨v, h, he⟩, by
      rcases hw with rfl | ⟨t, rfl⟩
      · exact Below.refl _ _
      · exact Lib.bytesWorld_below _ _ _⟩
  · have hno : ∀ v, atoiAll s.data.toList ≠ .ok v := fun v h => hok ⟨v, h⟩
    by_cases hra : atoiAll s.data.toList = .range
    · obtain ⟨ev, hv, hev⟩ := h3
      exact (Tryd.strconv_Atoi_range s (by omega) hra ev w hv hev).mono fun e w' ⟨N, he, _, _, hb⟩ => ⟨.inr ⟨hno, _, _, _, he⟩, hb⟩
    · obtain ⟨ev, hv, hev⟩ := h2
      generalize hx : atoiAll s.data.toList = x at *
      cases x
      · exact absurd rfl (hno _)
      · have hS : Calls Tryd.prog 63 #[.string s] w fun e w' => ∃ N, e = .returned (.tuple #[.int .i64 (0), .iface 89 (.pointer (some ⟨N, 0, none⟩))]) ∧ w.heap.size ≤ N ∧ w'.heap[N]? = some (.cells #[.string ⟨#[65, 116, 111, 105]⟩, .string s, ev] 102 (0, 0)) ∧ Below w.heap.size w w' :=
          Any.strconv_Atoi_syntax Tryd.laysC172 s (by omega) hx ev w hv hev
        exact hS.mono fun e w' ⟨N, he, _, _, hb⟩ => ⟨.inr ⟨hno, _, _, _, he⟩, hb⟩
      · exact absurd rfl hra
theorem itoa_any {n : Int} (hn : I64 n) (w : World) (hT : PowTab w) : Calls Tryd.prog 44 #[.int .i64 n] w fun e w' => e = .returned (.string ⟨(itoa n).toArray⟩) ∧ Below w.heap.size w w' :=
  (Tryd.strconv_Itoa n hn.1 hn.2 w hT).mono fun e w' ⟨he, k, os, hw⟩ => ⟨he, by rw [hw]; exact Lib.below_grow _ _ (Nat.le_refl _) _ _⟩
/-- what until does to a reader -/
def UntP (W : World) (g : Nat) (l : List UInt8) (f : Bool) (b : UInt8) (e : Ending) (w' : World) : Prop :=
  (∃ v t, untl b l = some (v, t) ∧ e = .returned (.tuple #[.int .i64 v, .bool true]) ∧ Rd w' g ⟨t.toArray⟩ f ∧ Only W w' (fun x => x = g)) ∨
  (untl b l = none ∧ e = .returned (.tuple #[.int .i64 0, .bool false]) ∧ Rd w' g ⟨#[]⟩ true ∧ Only W w' (fun x => x = g))
theorem u8_eq (c : Int) : (c.toNat.toUInt8) = UInt8.ofNat c.toNat := rfl
theorem gPow : Tryd.prog.globalNamed "internal/strconv.uint64pow10" = some 0 := by kernel_rfl
theorem PowTab.keep {w w1 : World} (h : PowTab w) (hb : Below w.heap.size w w1) : PowTab w1 := Joins.tab_stays gPow h hb (Nat.le_refl _)
set_option maxRecDepth 100000 in
set_option maxHeartbeats 8000000 in
theorem until_any {W : World} {g : Nat} {s : ByteArray} {f : Bool} {c : Int} (h : Rd W g s f) (hs : s.size ≤ 1000000000) (hT : PowTab W) (h2 : Sent W 2) (h3 : Sent W 3) :
    Calls Tryd.prog 50 #[.pointer (some ⟨g, 0, none⟩), .int .u8 c] W (UntP W g s.data.toList f c.toNat.toUInt8) := by
  have d0 := Row.cell h 0
  have HR := Lib.hid h
  have HT := Lib.hid hT
  have H2 := Lib.hid h2
  have H3 := Lib.hid h3
  obtain ⟨b, hb⟩ : ∃ b, c.toNat.toUInt8 = b := ⟨_, rfl⟩
  rw [hb]
  clear h hT h2 h3
  go_enter Tryd.func50, Tryd.ntmps50
  go_wp2_with (fail)
  go_quiet (fail)
  obtain ⟨hd, hhd⟩ : ∃ x, s.extract 0 (min (s.size : Int) 21).toNat = x := ⟨_, rfl⟩
  have HL : Hid (hd.data.toList = s.data.toList.take 21) := Lib.hid (by
    rw [← hhd, Lib.extract_data, List.drop_zero, Nat.sub_zero]
    have hz : s.size = s.data.toList.length := rfl
    by_cases h : s.size ≤ 21
    · rw [show (min (s.size : Int) 21).toNat = s.size by omega, hz, List.take_length, List.take_of_length_le (by omega)]
    · rw [show (min (s.size : Int) 21).toNat = 21 by omega])
  have hz21 : hd.size ≤ 21 := by
    have hz : hd.size = hd.data.toList.length := rfl
    rw [hz, HL.out, List.length_take]
    omega
  rw [hhd]
  clear hhd
  clear d0
  go_wp2_with (fail)
  go_must (refine (Tryd.strings_IndexByte hd c _).mono ?_)
  rintro e w2 ⟨rfl, hw2⟩
  rw [hb, HL.out]
  have HB2 := Lib.hid (show Below W.heap.size W w2 from hw2 ▸ Gen.dN (Below.refl _ _) _)
  clear hw2
  obtain ⟨ix, hix⟩ : ∃ ix, indexByte (s.data.toList.take 21) b = ix := ⟨_, rfl⟩
  have HI := Lib.hid hix
  rw [hix]
  clear hix hb
  dsimp only
  have hFail : ∀ w3 : World, Below W.heap.size W w3 → untl b s.data.toList = none → Calls Tryd.prog 52 #[.pointer (some ⟨g, 0, none⟩)] w3 fun e w' => (∃ v, e = .returned v) ∧ UntP W g s.data.toList f b (.returned (.tuple #[.int .i64 0, .bool false])) w' := fun w3 hb3 hn =>
    (fail_any (HR.out.keep hb3)).mono fun e w' ⟨hv, hr, ho⟩ => ⟨hv, .inr ⟨hn, rfl, hr, (Only.of_below hb3 _).then ho⟩⟩
  have HF := Lib.hid hFail
  clear hFail
  by_cases h0 : ix < 0
  · have HN : Hid (untl b s.data.toList = none) := Lib.hid (by unfold untl; rw [HI.out, if_pos h0])
    go_wp2_with (fail)
    go_must (refine (HF.out _ HB2.out HN.out).mono ?_)
    rintro e w4 ⟨⟨v, rfl⟩, hU⟩
    have HU := Lib.hid hU
    clear hU
    go_wp2
    exact bodyPost_ret (v := .tuple #[.int .i64 0, .bool false]) (by simp [results, Tryd.results50, go_sem]) rfl HU.out
  · obtain ⟨k, rfl⟩ : ∃ k : Nat, ix = k := ⟨ix.toNat, by omega⟩
    obtain ⟨hsp, hk⟩ := ix_at _ _ HI.out
    have HSP := Lib.hid hsp
    have hkz : k < hd.size := by
      have hz : hd.size = hd.data.toList.length := rfl
      rw [hz, HL.out]
      exact hk
    have hks : k < s.size := by
      have hz : s.size = s.data.toList.length := rfl
      rw [List.length_take] at hk
      omega
    have k0 : (0 : Int) ≤ (k : Int) := by omega
    have k1 : (k : Int) ≤ (hd.size : Int) := by omega
    clear hsp hk
    go_upto_region 6 with (fail)
    go_wp2_with (fail)
    have HA : Hid ((hd.extract 0 k).data.toList = (s.data.toList.take 21).take k) := Lib.hid (by rw [Lib.extract_data, HL.out, List.drop_zero, Nat.sub_zero])
    go_must (refine (atoi_any _ (by rw [ByteArray.size_extract]; omega) _ (H2.out.keep HB2.out) (H3.out.keep HB2.out)).mono ?_)
    rintro e w5 ⟨hor, hb5⟩
    have HB5 := Lib.hid (Gen.over hb5 HB2.out)
    clear hb5
    rw [HA.out] at hor
    rcases hor with ⟨v, hv, rfl⟩ | ⟨hno, v, te, pe, rfl⟩
    · have HV := Lib.hid (atoi_in hv)
      have hv2 := hv
      clear hv
      have hAl : (hd.extract 0 k).toList = (s.data.toList.take 21).take k := by rw [Lib.toList_data]; exact HA.out
      have HU0 : Hid (untl b s.data.toList = if itoa v = (s.data.toList.take 21).take k then some (v, s.data.toList.drop (k + 1)) else none) := Lib.hid (by
        unfold untl
        rw [HI.out, if_neg (by omega), Int.toNat_natCast, hv2])
      have hwk : IntKind.i64.wrap ((k : Int) + 1) = (k : Int) + 1 := IntWalk.i64_in _ (by omega)
      have k2 : (k : Int) + 1 ≤ (s.size : Int) := by omega
      have k3 : (0 : Int) ≤ (k : Int) + 1 := by omega
      have k4 : ((k : Int) + 1).toNat = k + 1 := by omega
      clear hv2
      by_cases hq : itoa v = (s.data.toList.take 21).take k
      · have hU0 := HU0.out
        rw [if_pos hq] at hU0
        have HU1 := Lib.hid hU0
        have hqb : (itoa v == (s.data.toList.take 21).take k) = true := by rw [hq]; exact beq_self_eq_true _
        clear hU0 hq
        dsimp only
        go_upto_region 7 with (fail)
        have HS5 := Lib.hid (show Below w5.heap.size w5 w5.drew from (Below.refl _ _).drew)
        go_region_held3 (fun W' : World => Below w5.heap.size w5 W')
          (first | assumption | exact HS5.out | exact hBs | fail "keep")
          (first
            | (go_at_call 44; with_reducible refine (itoa_any HV.out _ ((HT.out.keep HB5.out).keep (by assumption))).mono ?_; rintro e' z1 ⟨rfl, hz1⟩; have hBs := Gen.over hz1 (show Below w5.heap.size w5 _ by assumption))
            | fail "arm")
        all_goals
          have hBz := Gen.over hBs HB5.out
          have HRz := Lib.hid (HR.out.keep hBz)
          have c0 := Row.cell HRz.out 0
          have c1 := Row.frozen HRz.out 0
          have HX := Lib.hid (show UntP W g s.data.toList f b (.returned (.tuple #[.int .i64 v, .bool true])) (z1.setCell ⟨g, 0, none⟩ (.string (s.extract (k + 1) s.size))) from .inl ⟨v, _, HU1.out, rfl, by
            rw [show (⟨(s.data.toList.drop (k + 1)).toArray⟩ : ByteArray) = s.extract (k + 1) s.size from str_eq (by rw [ext_end])]
            exact Row.set HRz.out 0 _, Only.set (R := fun x => x = g) (p := ⟨g, 0, none⟩) (Only.of_below hBz _) (.inl rfl) _⟩)
          clear hBz hBs
          go_wp2
          exact bodyPost_ret (v := .tuple #[.int .i64 v, .bool true]) (by simp [results, Tryd.results50, go_sem]) rfl HX.out
      · have hU0 := HU0.out
        rw [if_neg hq] at hU0
        have HN := Lib.hid hU0
        have hqb : (itoa v == (s.data.toList.take 21).take k) = false := by simpa using hq
        clear hU0 hq
        dsimp only
        go_upto_region 7 with (fail)
        have HS5 := Lib.hid (show Below w5.heap.size w5 w5.drew from (Below.refl _ _).drew)
        go_region_held3 (fun W' : World => Below w5.heap.size w5 W')
          (first | assumption | exact HS5.out | exact hBs | fail "keep")
          (first
            | (go_at_call 44; with_reducible refine (itoa_any HV.out _ ((HT.out.keep HB5.out).keep (by assumption))).mono ?_; rintro e' z1 ⟨rfl, hz1⟩; have hBs := Gen.over hz1 (show Below w5.heap.size w5 _ by assumption))
            | fail "arm")
        all_goals
          have HBq := Lib.hid (Gen.over hBs HB5.out)
          go_wp2_with (fail)
          go_must (refine (HF.out _ HBq.out HN.out).mono ?_)
          rintro e w6 ⟨⟨v', rfl⟩, hU⟩
          have HU := Lib.hid hU
          clear hU
          go_wp2
          exact bodyPost_ret (v := .tuple #[.int .i64 0, .bool false]) (by simp [results, Tryd.results50, go_sem]) rfl HU.out
    · have HN : Hid (untl b s.data.toList = none) := Lib.hid (by
        unfold untl
        rw [HI.out, if_neg (by omega), Int.toNat_natCast]
        cases hq : atoiAll ((s.data.toList.take 21).take k) with
        | ok v' => exact absurd hq (hno v')
        | _ => rfl)
      clear hno
      dsimp only
      go_upto_region 7 with (fail)
      refine wp_region_held_drew (S := fun W' => Below w5.heap.size w5 W') (by kernel_rfl) (Below.refl _ _).drew (fun hHeld => ?_)
      refine wpAnyH_take (i := 0) (v := .iface te pe) rfl (by kernel_rfl) (by kernel_rfl) (by kernel_rfl) (fun _ _ _ h => h) (Or.inl ⟨by rfl, (by intro w hSw; (try dsimp only at hSw); go_simp <;> with_reducible rfl)⟩) (by assumption) ?_
      (try simp only [Act.put, List.getElem_toArray, List.getElem_cons_succ, List.getElem_cons_zero, List.setIfInBounds_toArray, List.set_cons_zero, List.set_cons_succ])
      refine wpAnyH_take (i := 1) (v := .bool true) rfl (by kernel_rfl) (by kernel_rfl) (by kernel_rfl) (fun _ _ _ h => h) (Or.inl ⟨by rfl, (by intro w hSw; (try dsimp only at hSw); go_simp <;> with_reducible rfl)⟩) (by assumption) ?_
      (try simp only [Act.put, List.getElem_toArray, List.getElem_cons_succ, List.getElem_cons_zero, List.setIfInBounds_toArray, List.set_cons_zero, List.set_cons_succ])
      refine wpAnyH_take (i := 2) (v := .bool true) rfl (by kernel_rfl) (by kernel_rfl) (by kernel_rfl) (fun _ _ _ h => h) (Or.inl ⟨by rfl, (by intro w hSw; (try dsimp only at hSw); go_simp <;> with_reducible rfl)⟩) (by assumption) ?_
      (try simp only [Act.put, List.getElem_toArray, List.getElem_cons_succ, List.getElem_cons_zero, List.setIfInBounds_toArray, List.set_cons_zero, List.set_cons_succ])
      refine wpAnyH_take (i := 3) (v := undef) rfl (by kernel_rfl) (by kernel_rfl) (by kernel_rfl) (fun _ _ _ h => h) (Or.inr ⟨by rfl, rfl⟩) (by assumption) ?_
      (try simp only [Act.put, List.getElem_toArray, List.getElem_cons_succ, List.getElem_cons_zero, List.setIfInBounds_toArray, List.set_cons_zero, List.set_cons_succ])
      refine wpAnyH_take (i := 4) (v := undef) rfl (by kernel_rfl) (by kernel_rfl) (by kernel_rfl) (fun _ _ _ h => h) (Or.inr ⟨by rfl, rfl⟩) (by assumption) ?_
      (try simp only [Act.put, List.getElem_toArray, List.getElem_cons_succ, List.getElem_cons_zero, List.setIfInBounds_toArray, List.set_cons_zero, List.set_cons_succ])
      refine wpAnyH_take (i := 5) (v := undef) rfl (by kernel_rfl) (by kernel_rfl) (by kernel_rfl) (fun _ _ _ h => h) (Or.inr ⟨by rfl, rfl⟩) (by assumption) ?_
      (try simp only [Act.put, List.getElem_toArray, List.getElem_cons_succ, List.getElem_cons_zero, List.setIfInBounds_toArray, List.set_cons_zero, List.set_cons_succ])
      refine wpAnyH_take (i := 6) (v := undef) rfl (by kernel_rfl) (by kernel_rfl) (by kernel_rfl) (fun _ _ _ h => h) (Or.inr ⟨by rfl, rfl⟩) (by assumption) ?_
      (try simp only [Act.put, List.getElem_toArray, List.getElem_cons_succ, List.getElem_cons_zero, List.setIfInBounds_toArray, List.set_cons_zero, List.set_cons_succ])
      refine wpAnyH_take (i := 7) (v := undef) rfl (by kernel_rfl) (by kernel_rfl) (by kernel_rfl) (fun _ _ _ h => h) (Or.inr ⟨by rfl, rfl⟩) (by assumption) ?_
      (try simp only [Act.put, List.getElem_toArray, List.getElem_cons_succ, List.getElem_cons_zero, List.setIfInBounds_toArray, List.set_cons_zero, List.set_cons_succ])
      refine wpAnyH_take (i := 8) (v := undef) rfl (by kernel_rfl) (by kernel_rfl) (by kernel_rfl) (fun _ _ _ h => h) (Or.inr ⟨by rfl, rfl⟩) (by assumption) ?_
      (try simp only [Act.put, List.getElem_toArray, List.getElem_cons_succ, List.getElem_cons_zero, List.setIfInBounds_toArray, List.set_cons_zero, List.set_cons_succ])
      refine wpAnyH_take (i := 9) (v := .bool true) rfl (by kernel_rfl) (by kernel_rfl) (by kernel_rfl) (fun _ _ _ h => h) (Or.inl ⟨by rfl, (by intro w hSw; (try dsimp only at hSw); go_simp <;> with_reducible rfl)⟩) (by assumption) ?_
      (try simp only [Act.put, List.getElem_toArray, List.getElem_cons_succ, List.getElem_cons_zero, List.setIfInBounds_toArray, List.set_cons_zero, List.set_cons_succ])
      refine wpAnyH_done (by kernel_rfl) ?_ _
      have HBq := Lib.hid (Gen.over hHeld HB5.out)
      go_wp2_with (fail)
      go_must (refine (HF.out _ HBq.out HN.out).mono ?_)
      rintro e w6 ⟨⟨v', rfl⟩, hU⟩
      have HU := Lib.hid hU
      clear hU
      go_wp2
      exact bodyPost_ret (v := .tuple #[.int .i64 0, .bool false]) (by simp [results, Tryd.results50, go_sem]) rfl HU.out
end Go.Proofs.YtapcfnlononniaaDoor.Wr
