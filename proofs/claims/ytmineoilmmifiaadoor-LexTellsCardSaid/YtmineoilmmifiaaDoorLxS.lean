/- Tokens: the program's Word, Number. -/
import Derived.Test.YtmineoilmmifiaaDoorLxR
namespace Go.Proofs.YtmineoilmmifiaaDoor.Lx
open Go.Lib Go.ChangeShapes Go.WideShapes Go.ChangeAt Go.RowKit Go.Proofs.YtmineoilmmifiaaDoor.Cell
set_option linter.unusedVariables false
set_option linter.unusedSimpArgs false
set_option maxRecDepth 100000 in
set_option maxHeartbeats 4000000 in
theorem word_any {l : List UInt8} {W : World} (hl : l.length ≤ 1000000000) :
    Calls Tryd.prog 16 #[.string ⟨l.toArray⟩] W fun e w' => e = .returned (.bool (isWord l)) ∧ w' = W := by
  cases l with
  | nil =>
    go_enter Tryd.func16, Tryd.ntmps16
    go_wp2
    go_ret
    exact ⟨rfl, rfl⟩
  | cons c r =>
    have hz : (⟨(c :: r).toArray⟩ : ByteArray).size = r.length + 1 := by simp [ByteArray.size]
    have hgc : (⟨(c :: r).toArray⟩ : ByteArray)[0]'(by rw [hz]; omega) = c := rfl
    have HL := Lib.hid (letter_any c)
    have HS := Lib.hid (fun W' => span_wrd (l := c :: r) (W := W') hl)
    have HB : Hid (isWord (c :: r) = (decide (r.length + 1 ≤ 20) && ltr c && decide (spn wrd (c :: r) = r.length + 1))) := Lib.hid (by
      unfold isWord
      dsimp only
      congr 1
      rw [Bool.eq_iff_iff, decide_eq_true_eq]
      exact ⟨fun h => spn_all h, fun h => all_spn h⟩)
    obtain ⟨S, hS⟩ : ∃ S, spn wrd (c :: r) = S := ⟨_, rfl⟩
    rw [hS] at HB HS
    clear hS
    by_cases h20 : r.length + 1 ≤ 20
    · have h20I : (r.length : Int) + 1 ≤ 20 := by omega
      have h0 : (0 : Int) < (r.length : Int) + 1 := by omega
      go_enter Tryd.func16, Tryd.ntmps16
      go_wp2_with (fail)
      go_must (refine (HL.out _).mono ?_)
      rintro e w1 ⟨rfl, hw⟩
      have hw := hw.symm
      subst hw
      cases hlc : ltr c
      · rw [hlc] at HB
        dsimp only
        go_wp2
        go_ret
        exact ⟨by rw [HB.out]; simp, rfl⟩
      · rw [hlc] at HB
        dsimp only
        go_wp2_with (fail)
        go_must (refine (HS.out _).mono ?_)
        rintro e w1 ⟨rfl, hw⟩
        have hw := hw.symm
        subst hw
        dsimp only
        by_cases hS : S = r.length + 1
        · have hSI : (S : Int) = (r.length : Int) + 1 := by omega
          go_wp2
          go_ret
          exact ⟨by rw [HB.out]; simp [h20, hS], rfl⟩
        · have hSI : ¬ (S : Int) = (r.length : Int) + 1 := by omega
          go_wp2
          go_ret
          exact ⟨by rw [HB.out]; simp [h20, hS]; try omega, rfl⟩
    · have h20I : ¬ (r.length : Int) + 1 ≤ 20 := by omega
      go_enter Tryd.func16, Tryd.ntmps16
      go_wp2
      go_ret
      exact ⟨by rw [HB.out]; simp [h20], rfl⟩
def valf (acc : Nat) (l : List UInt8) : Nat := l.foldl (fun n c => 10 * n + (c.toNat - 48)) acc
theorem valf_ge : ∀ (l : List UInt8) (acc : Nat), acc ≤ valf acc l
  | [], acc => Nat.le_refl _
  | c :: l, acc => by
    have := valf_ge l (10 * acc + (c.toNat - 48))
    show acc ≤ valf (10 * acc + (c.toNat - 48)) l
    omega
theorem parse_dig : ∀ (l : List UInt8) (acc : Nat), l.all dgt = true → acc < 18446744073709551616 → (valf acc l < 18446744073709551616 → parseUint10 acc l = .ok (valf acc l)) ∧ (18446744073709551616 ≤ valf acc l → parseUint10 acc l = .range)
  | [], acc, _, ha => ⟨fun _ => rfl, fun h => by unfold valf at h; simp at h; omega⟩
  | c :: l, acc, h, ha => by
    rw [List.all_cons, Bool.and_eq_true] at h
    have hd : 48 ≤ c.toNat ∧ c.toNat ≤ 57 := by
      have := h.1
      unfold dgt at this
      simpa using this
    have e : valf acc (c :: l) = valf (10 * acc + (c.toNat - 48)) l := rfl
    have hge := valf_ge l (10 * acc + (c.toNat - 48))
    rw [e]
    simp only [parseUint10]
    rw [if_pos hd]
    by_cases h1 : 1844674407370955162 ≤ acc
    · rw [if_pos h1]
      exact ⟨fun hh => by omega, fun _ => rfl⟩
    · rw [if_neg h1]
      have e2 : acc * 10 + (c.toNat - 48) = 10 * acc + (c.toNat - 48) := by omega
      rw [e2]
      by_cases h2 : 18446744073709551616 ≤ 10 * acc + (c.toNat - 48)
      · rw [if_pos h2]
        exact ⟨fun hh => by omega, fun _ => rfl⟩
      · rw [if_neg h2]
        exact parse_dig l _ h.2 (by omega)
theorem atoi_dig {c : UInt8} {r : List UInt8} (h : (c :: r).all dgt = true) : (val (c :: r) ≤ 9223372036854775807 → atoiAll (c :: r) = .ok (val (c :: r) : Int)) ∧ (9223372036854775807 < val (c :: r) → atoiAll (c :: r) = .range) := by
  have hd : 48 ≤ c.toNat ∧ c.toNat ≤ 57 := by
    rw [List.all_cons, Bool.and_eq_true] at h
    have := h.1
    unfold dgt at this
    simpa using this
  have hp := parse_dig (c :: r) 0 h (by decide)
  have e : valf 0 (c :: r) = val (c :: r) := rfl
  rw [e] at hp
  unfold atoiAll
  dsimp only
  rw [if_neg (by omega)]
  unfold parseMag
  rw [if_neg (by simp)]
  constructor
  · intro hv
    rw [hp.1 (by omega)]
    dsimp only
    rw [if_neg (by omega), if_neg (by omega), if_neg (by omega)]
  · intro hv
    by_cases h2 : val (c :: r) < 18446744073709551616
    · rw [hp.1 h2]
      dsimp only
      rw [if_pos ⟨by omega, by omega⟩]
    · rw [hp.2 (by omega)]
/-- what Number returns -/
def NumR (l : List UInt8) : Value := .tuple #[.int .i64 (if isNum l then (val l : Int) else 0), .bool (isNum l)]
theorem NumR_no {l : List UInt8} (h : isNum l = false) : NumR l = .tuple #[.int .i64 0, .bool false] := by unfold NumR; rw [h]; rfl
theorem NumR_yes {l : List UInt8} {v : Nat} (h : isNum l = true) (hv : val l = v) : NumR l = .tuple #[.int .i64 (v : Int), .bool true] := by unfold NumR; rw [h, hv]; rfl
set_option maxRecDepth 100000 in
set_option maxHeartbeats 8000000 in
theorem number_any {l : List UInt8} {w0 W : World} (hE : Ev w0 W) (hl : l.length ≤ 1000000000) :
    Calls Tryd.prog 13 #[.string ⟨l.toArray⟩] W fun e w' => e = .returned (NumR l) ∧ Below W.heap.size W w' := by
  cases l with
  | nil =>
    go_enter Tryd.func13, Tryd.ntmps13
    go_wp2
    exact bodyPost_ret (v := .tuple #[.int .i64 0, .bool false]) (by simp [results, Tryd.results13, go_sem]) rfl ⟨rfl, Below.refl _ _⟩
  | cons c r =>
    have hz : (⟨(c :: r).toArray⟩ : ByteArray).size = r.length + 1 := by simp [ByteArray.size]
    have hgc : (⟨(c :: r).toArray⟩ : ByteArray)[0]'(by rw [hz]; omega) = c := rfl
    have HS := Lib.hid (fun W' => span_dgt (l := c :: r) (W := W') hl)
    have HBw := Lib.hid (Below.refl W.heap.size W)
    have hnum : isNum (c :: r) = ((c :: r).all dgt && !(c == 48 && !r.isEmpty) && decide (val (c :: r) ≤ 1000000000000000)) := rfl
    have h0 : (0 : Int) < (r.length : Int) + 1 := by omega
    obtain ⟨S, hS⟩ : ∃ S, spn dgt (c :: r) = S := ⟨_, rfl⟩
    rw [hS] at HS
    by_cases hSl : S = r.length + 1
    · have hSI : (S : Int) = (r.length : Int) + 1 := by omega
      have hall : (c :: r).all dgt = true := all_spn (by rw [hS, hSl]; rfl)
      have hat := atoi_dig hall
      obtain ⟨X, hX⟩ : ∃ X, c.toNat = X := ⟨_, rfl⟩
      have h48 : (c == 48) = decide (X = 48) := by rw [show (48 : UInt8) = UInt8.ofNat 48 from rfl, eq_u8 (by decide), hX]
      rw [hall, h48] at hnum
      obtain ⟨V, hV⟩ : ∃ V, val (c :: r) = V := ⟨_, rfl⟩
      rw [hV] at hat hnum
      by_cases hlead : X = 48 ∧ 0 < r.length
      · obtain ⟨hl1, hl2⟩ := hlead
        have hXI : (X : Int) = 48 := by omega
        have h1I : (1 : Int) < (r.length : Int) + 1 := by omega
        have HN : Hid (NumR (c :: r) = .tuple #[.int .i64 0, .bool false]) := Lib.hid (NumR_no <| by
          rw [hnum, hl1]
          cases r with
          | nil => simp at hl2
          | cons d r => simp)
        clear hat hnum hS hV hSl hall h48
        go_enter Tryd.func13, Tryd.ntmps13
        go_wp2_with (fail)
        go_must (refine (HS.out _).mono ?_)
        rintro e w1 ⟨rfl, hw⟩
        have hw := hw.symm
        subst hw
        dsimp only
        go_wp2
        exact bodyPost_ret (v := .tuple #[.int .i64 0, .bool false]) (by simp [results, Tryd.results13, go_sem]) rfl ⟨by rw [HN.out], HBw.out⟩
      · have hnl : (!(decide (X = 48) && !r.isEmpty)) = true := by
          by_cases h1 : X = 48
          · have h2 : r = [] := List.length_eq_zero_iff.1 (by omega)
            subst h2
            simp
          · simp [h1]
        rw [hnl] at hnum
        have hnum : isNum (c :: r) = decide (V ≤ 1000000000000000) := by rw [hnum]; simp
        have HLd : Hid (¬ (X = 48 ∧ 0 < r.length)) := Lib.hid hlead
        have hbig : (⟨(c :: r).toArray⟩ : ByteArray).size ≤ 1000000000 := by rw [hz]; simp at hl; omega
        have HE := Lib.hid hE
        have HAC : Hid (∀ W', W' = W → Calls Tryd.prog 27 #[.string ⟨(c :: r).toArray⟩] W' fun e w' => ((V ≤ 9223372036854775807 ∧ e = .returned (.tuple #[.int .i64 (V : Int), .nilIface])) ∨ (9223372036854775807 < V ∧ ∃ v te pe, e = .returned (.tuple #[.int .i64 v, .iface te pe]))) ∧ Below W.heap.size W w') := Lib.hid (by
          rintro W' rfl
          by_cases hv : V ≤ 9223372036854775807
          · exact (Tryd.strconv_Atoi_ok ⟨(c :: r).toArray⟩ (by omega) _ (hat.1 hv) W').mono fun e w' ⟨he, hw⟩ => ⟨.inl ⟨hv, he⟩, by
              rcases hw with rfl | ⟨t, rfl⟩
              · exact Below.refl _ _
              · exact Lib.bytesWorld_below _ _ _⟩
          · obtain ⟨ev, hev, hev2⟩ := hE.er
            exact (Tryd.strconv_Atoi_range ⟨(c :: r).toArray⟩ (by omega) (hat.2 (by omega)) ev W' (Gen.keep hE.b hev) hev2).mono fun e w' ⟨N, he, _, _, hb⟩ => ⟨.inr ⟨by omega, _, _, _, he⟩, hb⟩)
        have HNY : Hid (V ≤ 1000000000000000 → NumR (c :: r) = .tuple #[.int .i64 (V : Int), .bool true]) := Lib.hid fun h => NumR_yes (by rw [hnum]; simpa using h) hV
        have HNN : Hid (¬ V ≤ 1000000000000000 → NumR (c :: r) = .tuple #[.int .i64 0, .bool false]) := Lib.hid fun h => NumR_no (by rw [hnum]; simpa using h)
        clear hat hnum hS hV hSl hall h48 hnl hE
        go_enter Tryd.func13, Tryd.ntmps13
        by_cases hX48 : X = 48
        all_goals
          first | (have hXI : (X : Int) = 48 := by omega) | (have hXI : ¬ (X : Int) = 48 := by omega)
          first | (have hr1 : ¬ (1 : Int) < (r.length : Int) + 1 := by omega) | skip
          clear hlead
          go_wp2_with (fail)
          go_must (refine (HS.out _).mono ?_)
          rintro e w1 ⟨rfl, hw⟩
          have hw := hw.symm
          subst hw
          dsimp only
          go_wp2_with (fail)
          go_must (refine (HAC.out _ rfl).mono ?_)
          rintro e w2 ⟨⟨hv, rfl⟩ | ⟨hv, v, te, pe, rfl⟩, hb2⟩
          · have HB2 := Lib.hid hb2
            clear hb2
            dsimp only
            by_cases hmx : V ≤ 1000000000000000
            · have HN := Lib.hid (HNY.out hmx)
              have hmxI : ¬ (1000000000000000 : Int) < (V : Int) := by omega
              go_wp2
              exact bodyPost_ret (v := .tuple #[.int .i64 (V : Int), .bool true]) (by simp [results, Tryd.results13, go_sem]) rfl ⟨by rw [HN.out], HB2.out⟩
            · have HN := Lib.hid (HNN.out hmx)
              have hmxI : (1000000000000000 : Int) < (V : Int) := by omega
              go_wp2
              exact bodyPost_ret (v := .tuple #[.int .i64 0, .bool false]) (by simp [results, Tryd.results13, go_sem]) rfl ⟨by rw [HN.out], HB2.out⟩
          · have HB2 := Lib.hid hb2
            have HN := Lib.hid (HNN.out (by omega))
            clear hb2
            dsimp only
            go_wp2
            exact bodyPost_ret (v := .tuple #[.int .i64 0, .bool false]) (by simp [results, Tryd.results13, go_sem]) rfl ⟨by rw [HN.out], HB2.out⟩
    · have hSI : ¬ (S : Int) = (r.length : Int) + 1 := by omega
      have HN : Hid (NumR (c :: r) = .tuple #[.int .i64 0, .bool false]) := Lib.hid (NumR_no <| by
        rw [hnum]
        cases ha : (c :: r).all dgt
        · rfl
        · exact absurd (by rw [← hS, spn_all ha]; rfl) hSl)
      clear hnum hS hSl
      go_enter Tryd.func13, Tryd.ntmps13
      go_wp2_with (fail)
      go_must (refine (HS.out _).mono ?_)
      rintro e w1 ⟨rfl, hw⟩
      have hw := hw.symm
      subst hw
      dsimp only
      go_wp2
      exact bodyPost_ret (v := .tuple #[.int .i64 0, .bool false]) (by simp [results, Tryd.results13, go_sem]) rfl ⟨by rw [HN.out], HBw.out⟩
end Go.Proofs.YtmineoilmmifiaaDoor.Lx
