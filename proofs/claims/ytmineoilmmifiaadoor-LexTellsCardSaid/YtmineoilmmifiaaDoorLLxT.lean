/- LexTells returns true: every string, every list of tokens; no condition. -/
import Derived.Test.YtmineoilmmifiaaDoorLyB
import Derived.Test.YtmineoilmmifiaaDoorOpn
import Derived.Deep.Grids
import Derived.Lib.SmallJoins
import Derived.SliceStrings
import Derived.ChangeSlices
namespace Go.Proofs.YtmineoilmmifiaaDoor.Lx
open Go.Lib Go.ChangeShapes Go.WideShapes Go.ChangeAt Go.RowKit Go.Proofs.YtmineoilmmifiaaDoor.Cell
set_option linter.unusedVariables false
set_option linter.unusedSimpArgs false
section
variable {w : World} {l : List UInt8} {A : Option Addr} {n cap : Nat} {xs : List Tg}
set_option maxRecDepth 100000 in
set_option maxHeartbeats 4000000 in
theorem tells_no (hE : Ev w w) (hn : 100 < n) : Calls Tryd.prog 3 #[.string ⟨l.toArray⟩, .slice A n cap] w fun e w' => e = .returned (.bool true) ∧ Below w.heap.size w w' := by
  have HE := Lib.hid hE
  have hnI : (100 : Int) < (n : Int) := by omega
  clear hE
  go_enter Tryd.func3, Tryd.ntmps3
  go_wp2_with (fail)
  go_must (refine (small_any HE.out).mono ?_)
  rintro e w1 ⟨rfl, hb⟩
  have HB := Lib.hid hb
  clear hb
  dsimp only
  go_wp2
  go_ret
  exact ⟨rfl, HB.out⟩
set_option maxRecDepth 100000 in
set_option maxHeartbeats 16000000 in
theorem tells_yes (hE : Ev w w) (hn : xs.length = n) (hc : Tgs w A xs) (hn1 : n ≤ 100) : Calls Tryd.prog 3 #[.string ⟨l.toArray⟩, .slice A n cap] w fun e w' => e = .returned (.bool true) ∧ Below w.heap.size w w' := by
  obtain ⟨s, hs⟩ : ∃ s, l.take 900 = s := ⟨_, rfl⟩
  have hsl : s.length ≤ 900 := by rw [← hs, List.length_take]; omega
  obtain ⟨ts, o, hx⟩ := lx_ex s.length 0 s (Nat.le_refl _)
  have HE := Lib.hid hE
  have HN := Lib.hid hn
  have HC := Lib.hid hc
  have HCut := Lib.hid (fun W => cut_any (W := W) (l := l))
  rw [hs] at HCut
  have HX := Lib.hid hx
  have hlen := lx_len hx
  have hnI : (n : Int) ≤ 100 := by omega
  obtain ⟨i, b, hNR⟩ : ∃ i b, NumR s = .tuple #[.int .i64 i, .bool b] := ⟨_, _, rfl⟩
  have HNR := Lib.hid hNR
  have HWd := Lib.hid (fun W => word_any (W := W) (l := s) (by omega))
  have HWr := Lib.hid (fun W => rword_any (W := W) (l := s) (by omega))
  obtain ⟨wb, hwb⟩ : ∃ wb, isWord s = wb := ⟨_, rfl⟩
  rw [hwb] at HWd HWr
  have HT1 := Lib.hid (fun W (h : Tgs W A xs) (hM : ∀ x ∈ xs, x.t.length ≤ 100) => text_any (W := W) (A := A) (n := n) (cap := cap) (M := 100) hn h hM (by omega) (by decide))
  have HT2 := Lib.hid (fun W (h : Tgs W A xs) (hM : ∀ x ∈ xs, x.t.length ≤ 100) => rtext_any (W := W) (A := A) (n := n) (cap := cap) hn h (fun x hx => by have := hM x hx; omega) (by omega))
  obtain ⟨J, hJ⟩ : ∃ J, jn (txs xs) = J := ⟨_, rfl⟩
  rw [hJ] at HT1 HT2
  have hii : (i == i) = true := by simp
  have hbb : (b == b) = true := by simp
  have hww : (wb == wb) = true := by simp
  clear hE hs hx hn hc hNR hwb hJ
  go_enter Tryd.func3, Tryd.ntmps3
  go_wp2_with (fail)
  go_must (refine (small_any HE.out).mono ?_)
  rintro e w1 ⟨rfl, hb⟩
  have HB := Lib.hid hb
  replace HC := Lib.hid (HC.out.keep hb)
  clear hb
  dsimp only
  go_wp2
  go_loopw [6] (fun iv wr => ∃ k : Nat, k ≤ n ∧ iv = .int .i64 (k : Int) ∧ Hid (∀ j x, j < k → xs[j]? = some x → x.t.length ≤ 100) ∧ wr = w1) (fun iv _ => n - (RowKit.intOf iv).toNat)
  case atStart => exact ⟨0, Nat.zero_le _, rfl, Lib.hid (fun j x hj => absurd hj (by omega)), rfl⟩
  case round =>
    obtain ⟨k, hk, rfl, HJ, hw⟩ := hrel
    have hw := hw.symm
    subst hw
    have k0 : (0 : Int) ≤ (k : Int) := by omega
    by_cases hlt : k < n
    · have hltI : (k : Int) < (n : Int) := by omega
      obtain ⟨x, hx⟩ := at_ xs k (by rw [HN.out]; exact hlt)
      obtain ⟨b9, off, rfl, hcell⟩ := HC.out (by rw [HN.out]; omega)
      have d1 := (hcell k x hx).c1
      have HXX := Lib.hid hx
      have hzx : (⟨x.t.toArray⟩ : ByteArray).size = x.t.length := by simp [ByteArray.size]
      clear hcell hx
      by_cases h100 : x.t.length ≤ 100
      · have h1I : ¬ (100 : Int) < (x.t.length : Int) := by omega
        have HJ2 : Hid (∀ j x, j < k + 1 → xs[j]? = some x → x.t.length ≤ 100) := Lib.hid fun j y hj hy => by
          by_cases hjk : j < k
          · exact HJ.out j y hjk hy
          · obtain rfl : j = k := (by omega)
            rw [HXX.out] at hy
            injection hy with hy
            subst hy
            exact h100
        go_wp2
        go_roundw
        case rel => exact ⟨k + 1, by omega, by go_num, HJ2, by first | rfl | trivial⟩
        case measure => simp [RowKit.intOf]; omega
      · have h1I : (100 : Int) < (x.t.length : Int) := by omega
        go_wp2
        go_ret
        exact ⟨rfl, HB.out⟩
    · obtain rfl : k = n := by omega
      have HM : Hid (∀ x ∈ xs, x.t.length ≤ 100) := Lib.hid fun x hx => by
        obtain ⟨j, hj⟩ := List.getElem?_of_mem hx
        exact HJ.out j x (by have := (List.getElem?_eq_some_iff.1 hj).1; rw [HN.out] at this; exact this) hj
      go_wp2_with (fail)
      go_must (refine (HCut.out _).mono ?_)
      rintro e w2 ⟨rfl, hw⟩
      have hw := hw.symm
      subst hw
      dsimp only
      go_wp2_with (fail)
      go_must (refine (lex_any (HE.out.keep HB.out) (by omega)).mono ?_)
      intro e w2 h
      cases o with
      | some y =>
        obtain ⟨q, x⟩ := y
        have hqq : ((q : Int) == (q : Int)) = true := by simp
        have hxx : (x == x) = true := by simp
        obtain ⟨rfl, hb⟩ := lexP_err HX.out h
        replace HB := Lib.hid (Gen.over hb HB.out)
        replace HC := Lib.hid (HC.out.keep hb)
        clear h hb
        dsimp only
        go_wp2_with (fail)
        go_must (refine (rlex_any (by omega)).mono ?_)
        intro e w3 h
        obtain ⟨rfl, hb⟩ := lexP_err HX.out h
        replace HB := Lib.hid (Gen.over hb HB.out)
        replace HC := Lib.hid (HC.out.keep hb)
        clear h hb
        dsimp only
        go_wp2_with (fail)
        go_must (refine (number_any (HE.out.keep HB.out) (by omega)).mono ?_)
        rintro e w4 ⟨rfl, hb⟩
        replace HB := Lib.hid (Gen.over hb HB.out)
        replace HC := Lib.hid (HC.out.keep hb)
        rw [HNR.out]
        clear hb
        dsimp only
        go_wp2_with (fail)
        go_must (refine (rnumber_any (by omega)).mono ?_)
        rintro e w5 ⟨rfl, hw⟩
        have hw := hw.symm
        subst hw
        rw [HNR.out]
        dsimp only
        go_wp2_with (fail)
        go_must (refine (same_eq (A := none) (A' := none) (n := 0) (xs := []) (by decide) rfl (fun h => absurd h (by simp)) (fun h => absurd h (by simp))).mono ?_)
        rintro e w6 ⟨rfl, hb⟩
        replace HB := Lib.hid (Gen.over hb HB.out)
        replace HC := Lib.hid (HC.out.keep hb)
        clear hb
        dsimp only
        go_wp2_with (fail)
        go_must (refine (HWd.out _).mono ?_)
        rintro e w7 ⟨rfl, hw⟩
        have hw := hw.symm
        subst hw
        dsimp only
        go_wp2_with (fail)
        go_must (refine (HWr.out _).mono ?_)
        rintro e w7 ⟨rfl, hw⟩
        have hw := hw.symm
        subst hw
        dsimp only
        go_wp2_with (fail)
        go_must (refine (HT1.out _ HC.out HM.out).mono ?_)
        rintro e w8 ⟨rfl, hb⟩
        replace HB := Lib.hid (Gen.over hb HB.out)
        replace HC := Lib.hid (HC.out.keep hb)
        clear hb
        dsimp only
        go_wp2_with (fail)
        go_must (refine (HT2.out _ HC.out HM.out).mono ?_)
        rintro e w9 ⟨rfl, hb⟩
        replace HB := Lib.hid (Gen.over hb HB.out)
        clear hb
        dsimp only
        go_wp2
        go_ret
        exact ⟨rfl, HB.out⟩
      | none =>
        obtain ⟨⟨A1, c1, rfl, ho⟩, hb⟩ := lexP_ok HX.out h
        replace HB := Lib.hid (Gen.over hb HB.out)
        replace HC := Lib.hid (HC.out.keep hb)
        have HS1 := Lib.hid (own_tgs ho (by rw [List.length_append]; rfl))
        clear h hb ho
        dsimp only
        go_wp2_with (fail)
        go_must (refine (rlex_any (by omega)).mono ?_)
        intro e w3 h
        obtain ⟨⟨A2, c2, rfl, ho⟩, hb⟩ := lexP_ok HX.out h
        replace HB := Lib.hid (Gen.over hb HB.out)
        replace HC := Lib.hid (HC.out.keep hb)
        replace HS1 := Lib.hid (HS1.out.keep hb)
        have HS2 := Lib.hid (own_tgs ho (by rw [List.length_append]; rfl))
        clear h hb ho
        dsimp only
        go_wp2_with (fail)
        go_must (refine (number_any (HE.out.keep HB.out) (by omega)).mono ?_)
        rintro e w4 ⟨rfl, hb⟩
        replace HB := Lib.hid (Gen.over hb HB.out)
        replace HC := Lib.hid (HC.out.keep hb)
        replace HS1 := Lib.hid (HS1.out.keep hb)
        replace HS2 := Lib.hid (HS2.out.keep hb)
        rw [HNR.out]
        clear hb
        dsimp only
        go_wp2_with (fail)
        go_must (refine (rnumber_any (by omega)).mono ?_)
        rintro e w5 ⟨rfl, hw⟩
        have hw := hw.symm
        subst hw
        rw [HNR.out]
        dsimp only
        go_wp2_with (fail)
        go_must (refine (same_eq (xs := (ts ++ [endT s.length]).map tg) (by omega) (by rw [List.length_map, List.length_append]; rfl) HS1.out HS2.out).mono ?_)
        rintro e w6 ⟨rfl, hb⟩
        replace HB := Lib.hid (Gen.over hb HB.out)
        replace HC := Lib.hid (HC.out.keep hb)
        clear hb
        dsimp only
        go_wp2_with (fail)
        go_must (refine (HWd.out _).mono ?_)
        rintro e w7 ⟨rfl, hw⟩
        have hw := hw.symm
        subst hw
        dsimp only
        go_wp2_with (fail)
        go_must (refine (HWr.out _).mono ?_)
        rintro e w7 ⟨rfl, hw⟩
        have hw := hw.symm
        subst hw
        dsimp only
        go_wp2_with (fail)
        go_must (refine (HT1.out _ HC.out HM.out).mono ?_)
        rintro e w8 ⟨rfl, hb⟩
        replace HB := Lib.hid (Gen.over hb HB.out)
        replace HC := Lib.hid (HC.out.keep hb)
        clear hb
        dsimp only
        go_wp2_with (fail)
        go_must (refine (HT2.out _ HC.out HM.out).mono ?_)
        rintro e w9 ⟨rfl, hb⟩
        replace HB := Lib.hid (Gen.over hb HB.out)
        clear hb
        dsimp only
        go_wp2
        go_ret
        exact ⟨rfl, HB.out⟩
theorem tells_any (hE : Ev w w) (hn : xs.length = n) (hc : Tgs w A xs) : Calls Tryd.prog 3 #[.string ⟨l.toArray⟩, .slice A n cap] w fun e w' => e = .returned (.bool true) ∧ Below w.heap.size w w' := by
  by_cases h : n ≤ 100
  · exact tells_yes hE hn hc h
  · exact tells_no hE (by omega)
end
theorem tells_law (w : World) (s : ByteArray) {A : Option Addr} {n cap : Nat} {xs : List Tg} (hE : Ev w w) (hn : xs.length = n) (hc : Tgs w A xs) : Calls Tryd.prog 3 #[.string s, .slice A n cap] w fun e w' => e = .returned (.bool true) ∧ Below w.heap.size w w' := by
  rw [show Value.string s = .string ⟨s.data.toList.toArray⟩ from by cases s; simp]
  exact tells_any hE hn hc
section
open Go.Deep Go.Proofs.YtmineoilmmifiaaDoor.Opened
variable {H : Type} {enc : TypeId × Value → H} {W : World} {b0 : Nat} {r : Reach}
theorem cellsTk : Tryd.prog.cellsOf 25 = 4 := by kernel_rfl
theorem range_at {α : Type} (n : Nat) (f : Nat → α) {j : Nat} {x : α} (h : ((List.range n).map f)[j]? = some x) : j < n ∧ x = f j := by
  rw [List.getElem?_map] at h
  obtain ⟨hj, e⟩ : j < n ∧ some (f j) = some x := by
    by_cases hj : j < n
    · rw [List.getElem?_range hj] at h; exact ⟨hj, h⟩
    · rw [List.getElem?_eq_none (by simp; omega)] at h; simp at h
  exact ⟨hj, (Option.some.inj e).symm⟩
instance : Inhabited Tg := ⟨⟨0, [], 0, 0⟩⟩
set_option maxRecDepth 100000 in
theorem open_tgs {v : Value} {d : DataW H} {p : List MemPlace} (hv : Value.okWide Tryd.prog W r b0 22 v) (h : DataW.Trod enc Tryd.prog W 0 (fun _ => true) true 22 v d p) :
    ∃ (A : Option Addr) (cap : Nat) (l : List Tg), v = .slice A l.length cap ∧ Tgs W A l := by
  obtain ⟨a0, len, cap, rfl⟩ := okWide_slice Tryd.underlying22 hv
  obtain ⟨fuel, hf⟩ := h
  rcases open_slice_fields Tryd.underlying22 Tryd.underlying25 (by kernel_rfl) cellsTk hf with ⟨hcs, hx⟩ | ⟨a, len', cap', m, D, Pl, hcs, _, hl, hm, hmm, hx, hi⟩
  · simp [Value.cells] at hcs
    obtain ⟨rfl, rfl, rfl⟩ := hcs
    exact ⟨none, 0, [], rfl, fun h => absurd h (by simp)⟩
  · simp [Value.cells] at hcs
    obtain ⟨rfl, rfl, rfl⟩ := hcs
    simp only [if_true] at hmm
    obtain ⟨b, off, spot⟩ := a
    have hsp : 0 < len → spot = none := fun h0 => by
      obtain ⟨ys, n, _, _, _, hg⟩ := hi 0 (by omega)
      obtain ⟨v0, y0, c0, _, t0⟩ := hg 0 _ rfl
      simpa [Addr.add] using World.cell?_spot c0
    have each : ∀ i, i < len → ∃ x : Tg, (spot = none → TgAt W b (off + i * 4) x) := by
      intro i hlt
      obtain ⟨ys, n, _, _, _, hg⟩ := hi i (by omega)
      obtain ⟨v0, y0, c0, _, t0⟩ := hg 0 _ rfl
      obtain ⟨v1, y1, c1, _, t1⟩ := hg 1 _ rfl
      obtain ⟨v2, y2, c2, _, t2⟩ := hg 2 _ rfl
      obtain ⟨v3, y3, c3, _, t3⟩ := hg 3 _ rfl
      obtain ⟨x0, e0, _, _⟩ := DataW.trod_int Tryd.underlying3 t0
      obtain ⟨x1, e1, _, _⟩ := DataW.trod_string Tryd.underlying9 t1
      obtain ⟨x2, e2, _, _⟩ := DataW.trod_int Tryd.underlying3 t2
      obtain ⟨x3, e3, _, _⟩ := DataW.trod_int Tryd.underlying3 t3
      simp at e0 e1 e2 e3
      subst e0 e1 e2 e3
      refine ⟨⟨x0, x1.data.toList, x2, x3⟩, fun hs => ?_⟩
      subst hs
      simp only [add_of] at c0 c1 c2 c3
      exact ⟨c0, by rw [show Value.string ⟨x1.data.toList.toArray⟩ = .string x1 from by cases x1; simp]; exact c1, c2, c3⟩
    obtain ⟨X, hX⟩ := choose_lt (α := Tg) (p := fun i x => (spot = none → TgAt W b (off + i * 4) x)) each
    refine ⟨some ⟨b, off, spot⟩, cap, (List.range len).map X, by simp, fun h0 => ?_⟩
    have h0' : 0 < len := by simpa using h0
    have hspot := hsp h0'
    subst hspot
    refine ⟨b, off, rfl, fun j q hj => ?_⟩
    obtain ⟨hj1, rfl⟩ := range_at _ _ hj
    exact hX j hj1 rfl
end
end Go.Proofs.YtmineoilmmifiaaDoor.Lx
