/- LexWords returns true: every string; no condition. -/
import Derived.Test.YtmineoilmmifiaaDoorLLxB
namespace Go.Proofs.YtmineoilmmifiaaDoor.Lx
open Go.Lib Go.ChangeShapes Go.WideShapes Go.ChangeAt Go.RowKit Go.Proofs.YtmineoilmmifiaaDoor.Cell
set_option linter.unusedVariables false
set_option linter.unusedSimpArgs false
theorem word_len {t : List UInt8} (h : isWord t = true) : t.length ≤ 20 := by
  cases t with
  | nil => cases h
  | cons c r =>
    unfold isWord at h
    dsimp only at h
    rw [Bool.and_eq_true, Bool.and_eq_true, decide_eq_true_eq] at h
    exact h.1.1
theorem num_val {t : List UInt8} (h : isNum t = true) : val t ≤ 1000000000000000 := by
  cases t with
  | nil => cases h
  | cons c r =>
    unfold isNum at h
    dsimp only at h
    rw [Bool.and_eq_true, decide_eq_true_eq] at h
    exact h.2
/-- no word, no number: unless it is its only token -/
theorem words_no {t : List UInt8} {ts : List Tk} {o : Option (Nat × Int)} (h : Lx 0 t ts o) (hn : ∀ x, ts = [x] → o = none → x.t ≠ t) : isWord t = false ∧ isNum t = false := by
  constructor
  · cases hw : isWord t
    · rfl
    · obtain ⟨h1, h2⟩ := lx_uniq h (lx_one (p := 0) (word_nxt hw))
      exact absurd rfl (hn _ h1 h2)
  · cases hw : isNum t
    · rfl
    · obtain ⟨h1, h2⟩ := lx_uniq h (lx_one (p := 0) (num_nxt hw))
      exact absurd rfl (hn _ h1 h2)
/-- its only token is all of it -/
theorem words_yes {t : List UInt8} {x : Tk} (h : Lx 0 t [x] none) (ht : x.t = t) : (isWord t = decide (x.k = 0)) ∧ (isNum t = decide (x.k = 1)) ∧ (x.k = 1 → x.n = (val t : Int)) := by
  have hk := lx_okt h x List.mem_cons_self
  rw [ht] at hk
  refine ⟨?_, ?_, fun h1 => ?_⟩
  · rw [Bool.eq_iff_iff, decide_eq_true_eq]
    constructor
    · intro hw
      have := word_nxt hw
      rw [hk] at this
      injection this with this
      injection this with this
    · intro h0
      rw [h0] at hk
      exact nxt_word hk
  · rw [Bool.eq_iff_iff, decide_eq_true_eq]
    constructor
    · intro hw
      have := num_nxt hw
      rw [hk] at this
      injection this with this
      injection this with this
    · intro h0
      rw [h0] at hk
      exact (nxt_num hk).1
  · rw [h1] at hk
    exact (nxt_num hk).2
theorem NumR_of {t : List UInt8} (h : isNum t = false) : NumR t = .tuple #[.int .i64 0, .bool false] := NumR_no h
set_option maxRecDepth 100000 in
set_option maxHeartbeats 16000000 in
theorem words_any {w : World} {l : List UInt8} (hE : Ev w w) : Calls Tryd.prog 8 #[.string ⟨l.toArray⟩] w fun e w' => e = .returned (.bool true) ∧ Below w.heap.size w w' := by
  obtain ⟨s, hs⟩ : ∃ s, l.take 900 = s := ⟨_, rfl⟩
  have hsl : s.length ≤ 900 := by rw [← hs, List.length_take]; omega
  obtain ⟨ts, o, hx⟩ := lx_ex s.length 0 s (Nat.le_refl _)
  have HE := Lib.hid hE
  have HCut := Lib.hid (fun W => cut_any (W := W) (l := l))
  rw [hs] at HCut
  have HX := Lib.hid hx
  have hlen := lx_len hx
  have HWd := Lib.hid (fun W => word_any (W := W) (l := s) (by omega))
  clear hE hs hx
  go_enter Tryd.func8, Tryd.ntmps8
  go_wp2_with (fail)
  go_must (refine (small_any HE.out).mono ?_)
  rintro e w1 ⟨rfl, hb⟩
  have HB := Lib.hid hb
  clear hb
  dsimp only
  go_wp2_with (fail)
  go_must (refine (HCut.out _).mono ?_)
  rintro e w2 ⟨rfl, hw⟩
  have hw := hw.symm
  subst hw
  dsimp only
  go_wp2_with (fail)
  go_must (refine (lex_any (HE.out.keep HB.out) (by omega)).mono ?_)
  intro e w2 h
  cases o with
  | some y =>
    obtain ⟨q, x⟩ := y
    have hx3 := lx_errx HX.out q x rfl
    have hx0 : ¬ x = 0 := by omega
    obtain ⟨rfl, hb⟩ := lexP_err HX.out h
    replace HB := Lib.hid (Gen.over hb HB.out)
    obtain ⟨hw0, hn0⟩ := words_no HX.out (fun x _ h => by cases h)
    rw [hw0] at HWd
    have HNR := Lib.hid (NumR_of hn0)
    clear h hb hx3
    dsimp only
    go_wp2_with (fail)
    go_must (refine (number_any (HE.out.keep HB.out) (by omega)).mono ?_)
    rintro e w3 ⟨rfl, hb⟩
    replace HB := Lib.hid (Gen.over hb HB.out)
    rw [HNR.out]
    clear hb
    dsimp only
    go_wp2_with (fail)
    go_must (refine (HWd.out _).mono ?_)
    rintro e w4 ⟨rfl, hw⟩
    have hw := hw.symm
    subst hw
    dsimp only
    go_wp2
    go_ret
    exact ⟨rfl, HB.out⟩
  | none =>
    obtain ⟨⟨A, c, rfl, ho⟩, hb⟩ := lexP_ok HX.out h
    replace HB := Lib.hid (Gen.over hb HB.out)
    have HT1 := Lib.hid (own_tgs ho (by rw [List.length_append]; rfl))
    clear h hb ho
    by_cases h1 : ts.length = 1
    · obtain ⟨x, rfl⟩ : ∃ x, ts = [x] := by
        match ts, h1 with
        | [x], _ => exact ⟨x, rfl⟩
      clear h1
      have hks := lx_kinds HX.out x List.mem_cons_self
      by_cases hwh : x.t = s
      · obtain ⟨hw1, hn1, hv1⟩ := words_yes HX.out hwh
        rw [hw1] at HWd
        obtain ⟨K, hK⟩ : ∃ K, x.k = K := ⟨_, rfl⟩
        have hWL : Hid (K = 0 → s.length ≤ 20) := Lib.hid fun h => word_len (by rw [hw1, hK, h]; rfl)
        have hNV : Hid (K = 1 → val s ≤ 1000000000000000) := Lib.hid fun h => num_val (by rw [hn1, hK, h]; rfl)
        have hNRn : Hid (¬ K = 1 → NumR s = .tuple #[.int .i64 0, .bool false]) := Lib.hid fun h => NumR_no (by rw [hn1, hK]; simp [h])
        have hNRy : Hid (K = 1 → NumR s = .tuple #[.int .i64 (val s : Int), .bool true]) := Lib.hid fun h => NumR_yes (by rw [hn1, hK, h]; rfl) rfl
        have hXN : Hid (K = 1 → x.n = (val s : Int)) := Lib.hid fun h => hv1 (by rw [hK, h])
        rw [hK] at HWd hks
        have HKK := Lib.hid hK
        have HWH := Lib.hid hwh
        obtain ⟨V, hV⟩ : ∃ V, val s = V := ⟨_, rfl⟩
        rw [hV] at hNV hNRy hXN
        clear hw1 hn1 hv1 hwh hK hV
        rcases hks with rfl | rfl | rfl
        · have hl20 := hWL.out rfl
          have hl20I : (s.length : Int) ≤ 20 := by omega
          dsimp only
          go_wp2_with (fail)
          go_must (refine (number_any (HE.out.keep HB.out) (by omega)).mono ?_)
          rintro e w3 ⟨rfl, hb⟩
          replace HB := Lib.hid (Gen.over hb HB.out)
          replace HT1 := Lib.hid (HT1.out.keep hb)
          rw [hNRn.out (by decide)]
          clear hb
          dsimp only
          go_wp2_with (fail)
          go_must (refine (HWd.out _).mono ?_)
          rintro e w4 ⟨rfl, hw⟩
          have hw := hw.symm
          subst hw
          obtain ⟨b, off, rfl, hcell⟩ := HT1.out (by simp)
          obtain ⟨d0, d1, d2, d3⟩ := hcell 0 _ rfl
          have d0' : w3.cell? ⟨b, off, none⟩ = some (.int .i64 0) := by have h := d0; simp only [tg, HKK.out, Nat.zero_mul, Nat.add_zero] at h; exact h
          have d1' : w3.cell? ⟨b, off + 1, none⟩ = some (.string ⟨s.toArray⟩) := by have h := d1; simp only [tg, HWH.out, Nat.zero_mul, Nat.add_zero] at h; exact h
          clear d0 d1 d2 d3 hcell
          dsimp only
          go_wp2
          go_ret
          exact ⟨rfl, HB.out⟩
        · have hv := hNV.out rfl
          have hvI : (V : Int) ≤ 1000000000000000 := by omega
          have hv0 : (0 : Int) ≤ (V : Int) := by omega
          have hVV : ((V : Int) == (V : Int)) = true := by simp
          dsimp only
          go_wp2_with (fail)
          go_must (refine (number_any (HE.out.keep HB.out) (by omega)).mono ?_)
          rintro e w3 ⟨rfl, hb⟩
          replace HB := Lib.hid (Gen.over hb HB.out)
          replace HT1 := Lib.hid (HT1.out.keep hb)
          rw [hNRy.out (by first | rfl | trivial)]
          clear hb
          dsimp only
          go_wp2_with (fail)
          go_must (refine (HWd.out _).mono ?_)
          rintro e w4 ⟨rfl, hw⟩
          have hw := hw.symm
          subst hw
          obtain ⟨b, off, rfl, hcell⟩ := HT1.out (by simp)
          obtain ⟨d0, d1, d2, d3⟩ := hcell 0 _ rfl
          have d0' : w3.cell? ⟨b, off, none⟩ = some (.int .i64 1) := by have h := d0; simp only [tg, HKK.out, Nat.zero_mul, Nat.add_zero] at h; exact h
          have d1' : w3.cell? ⟨b, off + 1, none⟩ = some (.string ⟨s.toArray⟩) := by have h := d1; simp only [tg, HWH.out, Nat.zero_mul, Nat.add_zero] at h; exact h
          have d2' : w3.cell? ⟨b, off + 2, none⟩ = some (.int .i64 (V : Int)) := by have h := d2; simp only [tg, hXN.out (by first | rfl | trivial), Nat.zero_mul, Nat.add_zero] at h; exact h
          clear d0 d1 d2 d3 hcell
          dsimp only
          go_wp2
          go_ret
          exact ⟨rfl, HB.out⟩
        · dsimp only
          go_wp2_with (fail)
          go_must (refine (number_any (HE.out.keep HB.out) (by omega)).mono ?_)
          rintro e w3 ⟨rfl, hb⟩
          replace HB := Lib.hid (Gen.over hb HB.out)
          replace HT1 := Lib.hid (HT1.out.keep hb)
          rw [hNRn.out (by decide)]
          clear hb
          dsimp only
          go_wp2_with (fail)
          go_must (refine (HWd.out _).mono ?_)
          rintro e w4 ⟨rfl, hw⟩
          have hw := hw.symm
          subst hw
          obtain ⟨b, off, rfl, hcell⟩ := HT1.out (by simp)
          obtain ⟨d0, d1, d2, d3⟩ := hcell 0 _ rfl
          have d0' : w3.cell? ⟨b, off, none⟩ = some (.int .i64 2) := by have h := d0; simp only [tg, HKK.out, Nat.zero_mul, Nat.add_zero] at h; exact h
          have d1' : w3.cell? ⟨b, off + 1, none⟩ = some (.string ⟨s.toArray⟩) := by have h := d1; simp only [tg, HWH.out, Nat.zero_mul, Nat.add_zero] at h; exact h
          clear d0 d1 d2 d3 hcell
          dsimp only
          go_wp2
          go_ret
          exact ⟨rfl, HB.out⟩
      · obtain ⟨hw0, hn0⟩ := words_no HX.out (fun y h _ => by injection h with h _; subst h; exact hwh)
        rw [hw0] at HWd
        have HNR := Lib.hid (NumR_of hn0)
        clear hw0 hn0
        dsimp only
        go_wp2_with (fail)
        go_must (refine (number_any (HE.out.keep HB.out) (by omega)).mono ?_)
        rintro e w3 ⟨rfl, hb⟩
        replace HB := Lib.hid (Gen.over hb HB.out)
        replace HT1 := Lib.hid (HT1.out.keep hb)
        rw [HNR.out]
        clear hb
        dsimp only
        go_wp2_with (fail)
        go_must (refine (HWd.out _).mono ?_)
        rintro e w4 ⟨rfl, hw⟩
        have hw := hw.symm
        subst hw
        obtain ⟨b, off, rfl, hcell⟩ := HT1.out (by simp)
        obtain ⟨d0, d1, d2, d3⟩ := hcell 0 _ rfl
        have d0' : w3.cell? ⟨b, off, none⟩ = some (.int .i64 x.k) := by have h := d0; simp only [tg, Nat.zero_mul, Nat.add_zero] at h; exact h
        have d1' : w3.cell? ⟨b, off + 1, none⟩ = some (.string ⟨x.t.toArray⟩) := by have h := d1; simp only [tg, Nat.zero_mul, Nat.add_zero] at h; exact h
        clear d0 d1 d2 d3 hcell
        dsimp only
        go_wp2
        go_ret
        exact ⟨rfl, HB.out⟩
    · obtain ⟨hw0, hn0⟩ := words_no HX.out (fun y h _ => by rw [h] at h1; exact absurd rfl h1)
      rw [hw0] at HWd
      have HNR := Lib.hid (NumR_of hn0)
      have h2I : ¬ ((ts.length : Int) + 1 = 2) := by omega
      clear hw0 hn0
      dsimp only
      go_wp2_with (fail)
      go_must (refine (number_any (HE.out.keep HB.out) (by omega)).mono ?_)
      rintro e w3 ⟨rfl, hb⟩
      replace HB := Lib.hid (Gen.over hb HB.out)
      rw [HNR.out]
      clear hb
      dsimp only
      go_wp2_with (fail)
      go_must (refine (HWd.out _).mono ?_)
      rintro e w4 ⟨rfl, hw⟩
      have hw := hw.symm
      subst hw
      dsimp only
      go_wp2
      go_ret
      exact ⟨rfl, HB.out⟩
end Go.Proofs.YtmineoilmmifiaaDoor.Lx
