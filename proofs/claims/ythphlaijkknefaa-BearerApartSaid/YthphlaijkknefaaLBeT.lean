/- BearerTells returns true: every list of pieces, every list of things that happen; no condition. -/
import Derived.Test.YthphlaijkknefaaBeaW
import Derived.Test.YthphlaijkknefaaBeaJ
namespace Go.Proofs.Ythphlaijkknefaa.Bea
open Go.ChangeShapes Go.WideShapes Go.ChangeAt Go.RowKit Go.Proofs.Ythphlaijkknefaa.Cell
set_option linter.unusedVariables false
set_option linter.unusedSimpArgs false
theorem few_in {l : List Pc} (h : few31 l = true) : l.length ≤ 12 ∧ ∀ x ∈ l, x.pd.length ≤ 10 := by
  unfold few31 at h
  rw [Bool.and_eq_true] at h
  exact ⟨of_decide_eq_true h.1, fun x hx => of_decide_eq_true (List.all_eq_true.1 h.2 x hx)⟩
theorem doL_pd {l : List Pc} {a : Ac} {q : Nat} (h : ∀ x ∈ l, x.pd.length ≤ q) : ∀ x ∈ doL l a, x.pd.length ≤ q := by
  intro x hx
  unfold doL chg at hx
  cases hp : pieceAt l a.pi with
  | none => rw [hp] at hx; exact h x hx
  | some y =>
    rw [hp] at hx
    dsimp only at hx
    rcases List.mem_or_eq_of_mem_set hx with hx | rfl
    · exact h x hx
    · obtain ⟨p, _, hy⟩ := pieceAt_some hp
      have := h y (mem_of_at hy)
      unfold doF
      split
      · show (y.pd.set a.co.toNat true).length ≤ q
        rw [List.length_set]; exact this
      · split
        · exact this
        · split <;> exact this
theorem k3_in (x : Int) : 0 ≤ bits .and .i64 x 3 ∧ bits .and .i64 x 3 ≤ 3 := by
  have h : ((BitVec.ofInt 64 x &&& BitVec.ofInt 64 3).toNat) ≤ 3 := by
    rw [BitVec.toNat_and]
    exact Nat.and_le_right
  have e : bits .and .i64 x 3 = IntKind.i64.wrap ((BitVec.ofInt 64 x &&& BitVec.ofInt 64 3).toNat : Int) := rfl
  rw [e, IntWalk.i64_in _ (by omega)]
  omega
section
variable {A B : Option Addr} {n cap m cap2 : Nat} {l : List Pc} {ks : List Ac} {is c : Int}
set_option maxRecDepth 100000 in
set_option maxHeartbeats 8000000 in
theorem tells_a (w : World) (hn : l.length = n) (hc : Pcl w A l) (hsz : ∀ x ∈ l, x.pd.length ≤ 9223372036854775807) (hbig : n ≤ 9223372036854775807) (hm : ks.length = m) (ha : Acl w B ks) (hmb : m ≤ 9223372036854775807) (hf : few31 l = false) :
    Calls Try.prog 3 #[.slice A n cap, .slice B m cap2, .int .i64 is, .int .i64 c] w fun e w' => e = .returned (.bool true) ∧ Below w.heap.size w w' := by
  have HF := Lib.hid hf
  clear hf
  go_enter Try.func3, Try.ntmps3
  go_wp2_with (fail)
  go_must (refine (small31_any _).mono ?_)
  rintro e w1 ⟨rfl, hb1⟩
  go_wp2_with (fail)
  go_must (refine (few31_any _ n cap l _ hn (hc.keep hb1) hbig).mono ?_)
  rintro e w2 ⟨rfl, rfl⟩
  rw [HF.out]
  clear hn
  go_wp2
  go_ret
  exact ⟨rfl, hb1⟩
set_option maxRecDepth 100000 in
set_option maxHeartbeats 8000000 in
theorem tells_b (w : World) (hn : l.length = n) (hc : Pcl w A l) (hsz : ∀ x ∈ l, x.pd.length ≤ 9223372036854775807) (hbig : n ≤ 9223372036854775807) (hm : ks.length = m) (ha : Acl w B ks) (hmb : m ≤ 9223372036854775807) (hf : few31 l = true) (h30 : 30 < m) :
    Calls Try.prog 3 #[.slice A n cap, .slice B m cap2, .int .i64 is, .int .i64 c] w fun e w' => e = .returned (.bool true) ∧ Below w.heap.size w w' := by
  have HF := Lib.hid hf
  clear hf
  have h30I : (30 : Int) < (m : Int) := by omega
  go_enter Try.func3, Try.ntmps3
  go_wp2_with (fail)
  go_must (refine (small31_any _).mono ?_)
  rintro e w1 ⟨rfl, hb1⟩
  go_wp2_with (fail)
  go_must (refine (few31_any _ n cap l _ hn (hc.keep hb1) hbig).mono ?_)
  rintro e w2 ⟨rfl, rfl⟩
  rw [HF.out]
  clear hn hm
  go_wp2
  go_ret
  exact ⟨rfl, hb1⟩
set_option maxRecDepth 100000 in
set_option maxHeartbeats 8000000 in
theorem tells_c (w : World) (hn : l.length = n) (hc : Pcl w A l) (hsz : ∀ x ∈ l, x.pd.length ≤ 9223372036854775807) (hbig : n ≤ 9223372036854775807) (hm : ks.length = m) (ha : Acl w B ks) (hmb : m ≤ 9223372036854775807) (hf : few31 l = true) (h30 : m ≤ 30) :
    Calls Try.prog 3 #[.slice A n cap, .slice B m cap2, .int .i64 is, .int .i64 c] w fun e w' => e = .returned (.bool true) ∧ Below w.heap.size w w' := by
  have HF := Lib.hid hf
  have H12 := Lib.hid (few_in hf)
  have hn12 : n ≤ 12 := by have := H12.out.1; omega
  have hn12I : (n : Int) ≤ 12 := by omega
  have HN := Lib.hid hn
  have HA := Lib.hid ha
  have HM := Lib.hid hm
  have HC := Lib.hid hc
  clear hf
  have h30I : (m : Int) ≤ 30 := by omega
  go_enter Try.func3, Try.ntmps3
  go_wp2_with (fail)
  go_must (refine (small31_any _).mono ?_)
  rintro e w1 ⟨rfl, hb1⟩
  go_wp2_with (fail)
  go_must (refine (few31_any _ n cap l _ hn (hc.keep hb1) hbig).mono ?_)
  rintro e w2 ⟨rfl, rfl⟩
  rw [HF.out]
  have HB1 := Lib.hid hb1
  have HC1 := Lib.hid (hc.keep hb1)
  clear hn hm hb1 hc ha hsz
  go_wp2
  go_loopw [10, 11] (fun cv iv wr => ∃ (k : Nat) (A1 : Option Addr) (c1 : Nat) (L : List Pc), k ≤ m ∧ iv = .int .i64 k ∧ cv = .slice A1 n c1 ∧ Hid (L.length = n) ∧ Hid (Pcl wr A1 L) ∧ Hid (∀ x ∈ L, x.pd.length ≤ 10) ∧ Hid (Below w.heap.size w wr)) (fun _ iv _ => m - (intOf iv).toNat)
  case atStart => exact ⟨0, A, cap, l, Nat.zero_le _, rfl, rfl, HN, HC1, Lib.hid H12.out.2, HB1⟩
  case round =>
    clear HB1 HC1
    obtain ⟨k, A1, c1, L, hk, rfl, rfl, HLN, HLP, HLS, HB⟩ := hrel
    have k0 : (0 : Int) ≤ (k : Int) := by omega
    have HSZ : Hid (∀ x ∈ L, x.pd.length ≤ 9223372036854775807) := Lib.hid fun x hx => by have := HLS.out x hx; omega
    by_cases hlt : k < m
    · have hltI : (k : Int) < (m : Int) := by omega
      obtain ⟨a, hak⟩ := at_ ks k (by rw [HM.out]; exact hlt)
      obtain ⟨b, off, hBe, hcell⟩ := (HA.out.keep HB.out) (by rw [HM.out]; omega)
      subst hBe
      obtain ⟨a0, a1, a2, a3, a4⟩ := hcell k a hak
      clear hcell hak
      obtain ⟨kd, q, co, wh, d⟩ := a
      dsimp only at a0 a1 a2 a3 a4
      have HK3 := Lib.hid (k3_in kd)
      go_upto_region 10 with (fail)
      obtain ⟨kq, hkq⟩ : ∃ v, bits .and .i64 kd 3 = v := ⟨_, rfl⟩
      have HK : Hid (0 ≤ kq ∧ kq ≤ 3) := Lib.hid (by rw [← hkq]; exact HK3.out)
      rw [hkq]
      have hB0 : Below wr.heap.size wr (wr.alloc (.cells #[.int .i64 kq, .int .i64 q, .int .i64 co, .int .i64 wh, .int .i64 d] 27)) := Gen.b_alloc (Below.refl _ _)
      have hr0 : Row (wr.alloc (.cells #[.int .i64 kq, .int .i64 q, .int .i64 co, .int .i64 wh, .int .i64 d] 27)) wr.heap.size 27 #[.int .i64 kq, .int .i64 q, .int .i64 co, .int .i64 wh, .int .i64 d] := Row.new _ _ _
      clear hkq HK3 a0 a1 a2 a3 a4
      go_wp2_with (fail)
      go_must (refine (do_any ⟨kq, q, co, wh, d⟩ HLN.out (HLP.out.keep hB0) HSZ.out (by omega)).mono ?_)
      rintro e w2 (⟨hE, rfl, hb2⟩ | ⟨hE, v, rfl, hO⟩)
      · have HE := Lib.hid hE
        have HP2 := Lib.hid ((HLP.out.keep hB0).keep hb2)
        have HB2 := Lib.hid (Gen.over hb2 (Gen.over hB0 HB.out))
        have r2 := hr0.keep hb2
        have f0 : w2.cell? ⟨wr.heap.size, 0, none⟩ = some (.int .i64 kq) := r2.cell 0
        have f1 : w2.cell? ⟨wr.heap.size, 1, none⟩ = some (.int .i64 q) := r2.cell 1
        have f2 : w2.cell? ⟨wr.heap.size, 2, none⟩ = some (.int .i64 co) := r2.cell 2
        have f3 : w2.cell? ⟨wr.heap.size, 3, none⟩ = some (.int .i64 wh) := r2.cell 3
        have f4 : w2.cell? ⟨wr.heap.size, 4, none⟩ = some (.int .i64 d) := r2.cell 4
        obtain ⟨E, hEE⟩ : ∃ E, doE L ⟨kq, q, co, wh, d⟩ = E := ⟨_, rfl⟩
        rw [hEE] at hE ⊢
        have HEE := Lib.hid hEE
        have hEf : (E != E) = false := by simp
        have hE0 : (E == 0) = false := by simpa using hE
        clear hEE hE hb2 r2 hB0 hr0
        go_wp2_with (fail)
        go_must (refine (rdo_any ⟨kq, q, co, wh, d⟩ HK.out HLN.out HP2.out HSZ.out (by omega)).mono ?_)
        rintro e w3 (⟨_, rfl, hb3⟩ | ⟨h0, _⟩)
        case inr => exact absurd h0 HE.out
        rw [HEE.out]
        have HP3 := Lib.hid (HP2.out.keep hb3)
        have HB3 := Lib.hid (Gen.over hb3 HB2.out)
        clear hb3 f0 f1 f2 f3 f4
        go_wp2_with (fail)
        go_must (refine (same_eq none none 0 0 0 [] _ rfl (fun h => absurd h (by simp)) (fun h => absurd h (by simp)) (by simp) (by omega)).mono ?_)
        rintro e w4 ⟨rfl, hb4⟩
        have HP4 := Lib.hid (HP3.out.keep hb4)
        have HB4 := Lib.hid (Gen.over hb4 HB3.out)
        clear hb4
        obtain ⟨o, ho⟩ : ∃ o, openL L is c = o := ⟨_, rfl⟩
        have HO := Lib.hid ho
        obtain ⟨rr, hrr⟩ : ∃ rr, rgtL L = rr := ⟨_, rfl⟩
        have HR := Lib.hid hrr
        have hoo : (o != o) = false := by simp
        have hrb : (rr != rr) = false := by simp
        clear ho hrr
        go_wp2_with (fail)
        go_must (refine (open_all is c _ n _ L _ HLN.out HP4.out HSZ.out (by omega)).mono ?_)
        rintro e w5 ⟨rfl, hb5⟩
        have HB5 := Lib.hid (Gen.over hb5 HB4.out)
        have HP5 := Lib.hid (HP4.out.keep hb5)
        rw [HO.out]
        clear hb5
        go_wp2_with (fail)
        go_must (refine (rOpen_all is c _ n _ L _ HLN.out HP5.out HSZ.out (by omega)).mono ?_)
        rintro e w6 ⟨rfl, hb6⟩
        have HB6 := Lib.hid (Gen.over hb6 HB5.out)
        have HP6 := Lib.hid (HP5.out.keep hb6)
        rw [HO.out]
        clear hb6
        go_wp2_with (fail)
        go_must (refine (Right_any _ n _ L _ HLN.out HP6.out HSZ.out (by omega)).mono ?_)
        rintro e w7 ⟨rfl, hb7⟩
        have HB7 := Lib.hid (Gen.over hb7 HB6.out)
        have HP7 := Lib.hid (HP6.out.keep hb7)
        rw [HR.out]
        clear hb7
        go_wp2_with (fail)
        go_must (refine (rRight_any _ n _ L _ HLN.out HP7.out HSZ.out (by omega)).mono ?_)
        rintro e w8 ⟨rfl, hb8⟩
        have HB8 := Lib.hid (Gen.over hb8 HB7.out)
        have HP8 := Lib.hid (HP7.out.keep hb8)
        rw [HR.out]
        clear hb8
        go_wp2
        go_roundw
        case rel => exact ⟨k + 1, A1, c1, L, by omega, by go_num, rfl, HLN, HP8, HLS, HB8⟩
        case measure => simp [intOf]; omega
      · have HE := Lib.hid hE
        obtain ⟨⟨g, c2, rfl, hp2⟩, hn2, hb2⟩ := hO
        have HP0 := Lib.hid ((HLP.out.keep hB0).keep hb2)
        have HB2 := Lib.hid (Gen.over hb2 (Gen.over hB0 HB.out))
        have HMS0 := Lib.hid (doL_pd (a := ⟨kq, q, co, wh, d⟩) HLS.out)
        have r2 := hr0.keep hb2
        have f0 : w2.cell? ⟨wr.heap.size, 0, none⟩ = some (.int .i64 kq) := r2.cell 0
        have f1 : w2.cell? ⟨wr.heap.size, 1, none⟩ = some (.int .i64 q) := r2.cell 1
        have f2 : w2.cell? ⟨wr.heap.size, 2, none⟩ = some (.int .i64 co) := r2.cell 2
        have f3 : w2.cell? ⟨wr.heap.size, 3, none⟩ = some (.int .i64 wh) := r2.cell 3
        have f4 : w2.cell? ⟨wr.heap.size, 4, none⟩ = some (.int .i64 d) := r2.cell 4
        obtain ⟨M, hM⟩ : ∃ M, doL L ⟨kq, q, co, wh, d⟩ = M := ⟨_, rfl⟩
        obtain ⟨N, hN⟩ : ∃ N, doN L ⟨kq, q, co, wh, d⟩ = N := ⟨_, rfl⟩
        rw [hN]
        rw [hM] at hp2 hn2
        have HMM := Lib.hid hM
        have HNN := Lib.hid hN
        have HP2 := Lib.hid hp2
        have HMN := Lib.hid hn2
        have HMS : Hid (∀ x ∈ M, x.pd.length ≤ 10) := Lib.hid (by rw [← hM]; exact HMS0.out)
        have HMZ : Hid (∀ x ∈ M, x.pd.length ≤ 9223372036854775807) := Lib.hid fun x hx => by have := HMS.out x hx; omega
        have HMQ : Hid (∀ x ∈ M, x.pd.length ≤ 400) := Lib.hid fun x hx => by have := HMS.out x hx; omega
        have hNf : (N != N) = false := by simp
        clear hM hN hp2 hn2 hb2 r2 hB0 hr0 hE
        go_wp2_with (fail)
        go_must (refine (rdo_any ⟨kq, q, co, wh, d⟩ HK.out HLN.out HP0.out HSZ.out (by omega)).mono ?_)
        rintro e w3 (⟨h0, _⟩ | ⟨_, v', rfl, hO'⟩)
        case inl => exact absurd HE.out h0
        obtain ⟨⟨g', c3, rfl, hp3⟩, _, hb3⟩ := hO'
        rw [HMM.out] at hp3
        rw [HNN.out]
        have HQ3 := Lib.hid hp3
        have HP3 := Lib.hid (HP2.out.keep hb3)
        have HB3 := Lib.hid (Gen.over hb3 HB2.out)
        clear hb3 hp3 f0 f1 f2 f3 f4
        go_wp2_with (fail)
        go_must (refine (same_eq _ _ n c2 c3 M _ HMN.out HP3.out HQ3.out HMQ.out (by omega)).mono ?_)
        rintro e w4 ⟨rfl, hb4⟩
        have HP4 := Lib.hid (HP3.out.keep hb4)
        have HB4 := Lib.hid (Gen.over hb4 HB3.out)
        clear hb4
        obtain ⟨o, ho⟩ : ∃ o, openL M is c = o := ⟨_, rfl⟩
        have HO := Lib.hid ho
        obtain ⟨rr, hrr⟩ : ∃ rr, rgtL M = rr := ⟨_, rfl⟩
        have HR := Lib.hid hrr
        have hoo : (o != o) = false := by simp
        have hrb : (rr != rr) = false := by simp
        clear ho hrr
        go_wp2_with (fail)
        go_must (refine (open_all is c _ n _ M _ HMN.out HP4.out HMZ.out (by omega)).mono ?_)
        rintro e w5 ⟨rfl, hb5⟩
        have HB5 := Lib.hid (Gen.over hb5 HB4.out)
        have HP5 := Lib.hid (HP4.out.keep hb5)
        rw [HO.out]
        clear hb5
        go_wp2_with (fail)
        go_must (refine (rOpen_all is c _ n _ M _ HMN.out HP5.out HMZ.out (by omega)).mono ?_)
        rintro e w6 ⟨rfl, hb6⟩
        have HB6 := Lib.hid (Gen.over hb6 HB5.out)
        have HP6 := Lib.hid (HP5.out.keep hb6)
        rw [HO.out]
        clear hb6
        go_wp2_with (fail)
        go_must (refine (Right_any _ n _ M _ HMN.out HP6.out HMZ.out (by omega)).mono ?_)
        rintro e w7 ⟨rfl, hb7⟩
        have HB7 := Lib.hid (Gen.over hb7 HB6.out)
        have HP7 := Lib.hid (HP6.out.keep hb7)
        rw [HR.out]
        clear hb7
        go_wp2_with (fail)
        go_must (refine (rRight_any _ n _ M _ HMN.out HP7.out HMZ.out (by omega)).mono ?_)
        rintro e w8 ⟨rfl, hb8⟩
        have HB8 := Lib.hid (Gen.over hb8 HB7.out)
        have HP8 := Lib.hid (HP7.out.keep hb8)
        rw [HR.out]
        clear hb8
        go_wp2
        go_roundw
        case rel => exact ⟨k + 1, _, c2, M, by omega, by go_num, rfl, HMN, HP8, HMS, HB8⟩
        case measure => simp [intOf]; omega
    · obtain rfl : k = m := by omega
      have HP4 := Lib.hid (HC.out.keep HB.out)
      have HB4 := HB
      have HNA : Hid (∀ x ∈ l, x.pd.length ≤ 9223372036854775807) := Lib.hid fun x hx => by have := H12.out.2 x hx; omega
      obtain ⟨o, ho⟩ : ∃ o, openL l is c = o := ⟨_, rfl⟩
      have HO := Lib.hid ho
      obtain ⟨rr, hrr⟩ : ∃ rr, rgtL l = rr := ⟨_, rfl⟩
      have HR := Lib.hid hrr
      have hoo : (o == o) = true := by simp
      have hrb : (rr == rr) = true := by simp
      clear ho hrr HB
      go_wp2_with (fail)
      go_must (refine (open_all is c _ n _ l _ HN.out HP4.out HNA.out (by omega)).mono ?_)
      rintro e w5 ⟨rfl, hb5⟩
      have HB5 := Lib.hid (Gen.over hb5 HB4.out)
      have HP5 := Lib.hid (HP4.out.keep hb5)
      rw [HO.out]
      clear hb5
      go_wp2_with (fail)
      go_must (refine (rOpen_all is c _ n _ l _ HN.out HP5.out HNA.out (by omega)).mono ?_)
      rintro e w6 ⟨rfl, hb6⟩
      have HB6 := Lib.hid (Gen.over hb6 HB5.out)
      have HP6 := Lib.hid (HP5.out.keep hb6)
      rw [HO.out]
      clear hb6
      go_wp2_with (fail)
      go_must (refine (Right_any _ n _ l _ HN.out HP6.out HNA.out (by omega)).mono ?_)
      rintro e w7 ⟨rfl, hb7⟩
      have HB7 := Lib.hid (Gen.over hb7 HB6.out)
      have HP7 := Lib.hid (HP6.out.keep hb7)
      rw [HR.out]
      clear hb7
      go_wp2_with (fail)
      go_must (refine (rRight_any _ n _ l _ HN.out HP7.out HNA.out (by omega)).mono ?_)
      rintro e w8 ⟨rfl, hb8⟩
      have HB8 := Lib.hid (Gen.over hb8 HB7.out)
      have HP8 := Lib.hid (HP7.out.keep hb8)
      rw [HR.out]
      clear hb8
      go_wp2
      go_ret
      exact ⟨rfl, HB8.out⟩
theorem tells_any (w : World) (hn : l.length = n) (hc : Pcl w A l) (hsz : ∀ x ∈ l, x.pd.length ≤ 9223372036854775807) (hbig : n ≤ 9223372036854775807) (hm : ks.length = m) (ha : Acl w B ks) (hmb : m ≤ 9223372036854775807) :
    Calls Try.prog 3 #[.slice A n cap, .slice B m cap2, .int .i64 is, .int .i64 c] w fun e w' => e = .returned (.bool true) ∧ Below w.heap.size w w' := by
  cases hf : few31 l
  · exact tells_a w hn hc hsz hbig hm ha hmb hf
  · by_cases h30 : m ≤ 30
    · exact tells_c w hn hc hsz hbig hm ha hmb hf h30
    · exact tells_b w hn hc hsz hbig hm ha hmb hf (by omega)
end
end Go.Proofs.Ythphlaijkknefaa.Bea
