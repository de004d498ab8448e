/- Wire: the reference's writing. -/
import Derived.Test.YtapcfnlononniaaDoorWrF
import Derived.Laws.IdiomStrings
namespace Go.Proofs.YtapcfnlononniaaDoor.Wr
open Go.Lib Go.ChangeShapes Go.WideShapes Go.ChangeAt Go.RowKit Go.Proofs.YtapcfnlononniaaDoor.Cell
set_option linter.unusedVariables false
set_option linter.unusedSimpArgs false
theorem conv_dig (W : World) {d : Nat} (h : d < 10) : (convert 64 9 (.slice (some ⟨W.heap.size, 0, none⟩) 1 1)).run Tryd.prog (W.alloc (.cells #[.int .u8 (48 + (d : Int))] 5)) = .ok (.string ⟨[UInt8.ofNat (48 + d)].toArray⟩) (W.alloc (.cells #[.int .u8 (48 + (d : Int))] 5)) :=
  run_convert_bytes_back (P := Tryd.prog) _ 64 9 5 ⟨W.heap.size, 0, none⟩ 1 [UInt8.ofNat (48 + d)] Tryd.underlying64 Tryd.underlying5 Tryd.underlying9 (fun j hj => by
    have hj0 : j = 0 := by simp at hj; omega
    subst hj0
    have hc := Row.cell (Row.new W 5 #[.int .u8 (48 + (d : Int))]) 0
    rw [List.getElem_cons_zero, dig_nat h]
    simp [Addr.add])
set_option maxRecDepth 100000 in
set_option maxHeartbeats 4000000 in
theorem digits_one {W : World} {u : Nat} (h : u < 10) : Calls Tryd.prog 45 #[.int .i64 (-(u : Int))] W fun e w' => e = .returned (.string ⟨(decDigits u).toArray⟩) ∧ Below W.heap.size W w' := by
  have hm : Int.tmod (-(u : Int)) 10 = -(u : Int) := by rw [Int.neg_tmod]; congr 1; exact Int.tmod_eq_of_lt (by omega) (by omega)
  have hw : IntKind.i64.wrap (48 - -(u : Int)) = 48 + (u : Int) := by rw [IntWalk.i64_in _ (by omega)]; omega
  have hgt : (-10 : Int) < -(u : Int) := by omega
  have kc := conv_dig W h
  have HE := Lib.hid (show decDigits u = [UInt8.ofNat (48 + u)] by rw [dec_step, if_pos h])
  obtain ⟨x, hx⟩ : ∃ x, UInt8.ofNat (48 + u) = x := ⟨_, rfl⟩
  rw [hx] at kc HE
  clear hx
  have HB := Lib.hid (Gen.b_alloc (x := .cells #[.int .u8 (48 + (u : Int))] 5) (Below.refl W.heap.size W))
  go_enter Tryd.func45, Tryd.ntmps45
  go_wp2
  go_ret
  exact ⟨by rw [HE.out]; rfl, HB.out⟩
set_option maxRecDepth 100000 in
set_option maxHeartbeats 4000000 in
theorem digits_any (k : Nat) : k ≤ 9223372036854775808 → ∀ W : World, Calls Tryd.prog 45 #[.int .i64 (-(k : Int))] W fun e w' => e = .returned (.string ⟨(decDigits k).toArray⟩) ∧ Below W.heap.size W w' := by
  induction k using dec_ind with
  | h0 u h => exact fun _ W => digits_one h
  | h1 u h ih =>
    intro hu W
    have IH := Lib.hid (ih (by omega))
    obtain ⟨d, hd⟩ : ∃ d, u % 10 = d := ⟨_, rfl⟩
    obtain ⟨q, hq⟩ : ∃ q, u / 10 = q := ⟨_, rfl⟩
    have hd10 : d < 10 := by omega
    have hm : Int.tmod (-(u : Int)) 10 = -(d : Int) := by rw [Int.neg_tmod, ← hd]; rfl
    have hdv : Int.tdiv (-(u : Int)) 10 = -(q : Int) := by rw [Int.neg_tdiv, ← hq]; rfl
    have hw : IntKind.i64.wrap (48 - -(d : Int)) = 48 + (d : Int) := by rw [IntWalk.i64_in _ (by omega)]; omega
    have hwq : IntKind.i64.wrap (-(q : Int)) = -(q : Int) := IntWalk.i64_in _ (by omega)
    have hlq := dec_len 18 q (by have : (10 : Nat) ^ (18 + 1) = 10000000000000000000 := by decide
                                 omega)
    have hgt : ¬ (-10 : Int) < -(u : Int) := by omega
    have kc := conv_dig W hd10
    have HE : Hid ((⟨(decDigits q).toArray⟩ : ByteArray) ++ ⟨[UInt8.ofNat (48 + d)].toArray⟩ = ⟨(decDigits u).toArray⟩) := Lib.hid (by rw [app_list, dec_step u, if_neg (by omega), hd, hq])
    have HB := Lib.hid (Gen.b_alloc (x := .cells #[.int .u8 (48 + (d : Int))] 5) (Below.refl W.heap.size W))
    rw [hq] at IH
    obtain ⟨x, hx⟩ : ∃ x, UInt8.ofNat (48 + d) = x := ⟨_, rfl⟩
    rw [hx] at kc HE
    clear ih hd hq hx
    go_enter Tryd.func45, Tryd.ntmps45
    go_wp2_with (fail)
    go_must (refine (IH.out _).mono ?_)
    rintro e w1 ⟨rfl, hb1⟩
    have HB1 := Lib.hid (Gen.over hb1 HB.out)
    clear hb1 kc
    dsimp only
    go_wp2
    go_ret
    exact ⟨by rw [← HE.out]; rfl, HB1.out⟩
theorem dec_len19 {k : Nat} (h : k ≤ 9223372036854775808) : (decDigits k).length ≤ 19 := dec_len 18 k (by have : (10 : Nat) ^ (18 + 1) = 10000000000000000000 := by decide
                                                                                                          omega)
set_option maxRecDepth 100000 in
set_option maxHeartbeats 4000000 in
theorem rint_any {W : World} {n : Int} (hn : I64 n) : Calls Tryd.prog 14 #[.int .i64 n] W fun e w' => e = .returned (.string ⟨(encI n).toArray⟩) ∧ Below W.heap.size W w' := by
  unfold I64 at hn
  by_cases h0 : n < 0
  · have HD := Lib.hid (digits_any n.natAbs (by omega))
    have hl := dec_len19 (k := n.natAbs) (by omega)
    have HE : Hid ((⟨#[45]⟩ : ByteArray) ++ ⟨(decDigits n.natAbs).toArray⟩ ++ ⟨#[59]⟩ = ⟨(encI n).toArray⟩) := Lib.hid (str_eq (by simp [encI, itoa, h0]))
    obtain ⟨k, hk⟩ : ∃ k, n.natAbs = k := ⟨_, rfl⟩
    rw [hk] at HD hl HE
    obtain ⟨m, hm⟩ : ∃ m : Int, -(k : Int) = m := ⟨_, rfl⟩
    rw [hm] at HD
    obtain rfl : m = n := by omega
    clear hk hm
    go_enter Tryd.func14, Tryd.ntmps14
    go_wp2_with (fail)
    go_must (refine (HD.out _).mono ?_)
    rintro e w1 ⟨rfl, hb⟩
    have HB := Lib.hid hb
    clear hb
    dsimp only
    go_wp2
    go_ret
    exact ⟨by rw [← HE.out]; rfl, HB.out⟩
  · obtain ⟨k, rfl⟩ : ∃ k : Nat, n = k := ⟨n.toNat, by omega⟩
    have HD := Lib.hid (digits_any k (by omega))
    have hl := dec_len19 (k := k) (by omega)
    have hwn : IntKind.i64.wrap (-(k : Int)) = -(k : Int) := IntWalk.i64_in _ (by omega)
    have HE : Hid ((⟨(decDigits k).toArray⟩ : ByteArray) ++ ⟨#[59]⟩ = ⟨(encI (k : Int)).toArray⟩) := Lib.hid (str_eq (by simp [encI, itoa]))
    go_enter Tryd.func14, Tryd.ntmps14
    go_wp2_with (fail)
    go_must (refine (HD.out _).mono ?_)
    rintro e w1 ⟨rfl, hb⟩
    have HB := Lib.hid hb
    clear hb
    dsimp only
    go_wp2
    go_ret
    exact ⟨by rw [← HE.out]; rfl, HB.out⟩
set_option maxRecDepth 100000 in
set_option maxHeartbeats 4000000 in
theorem rnum_any {W : World} {n : Int} (hn : I64 n) : Calls Tryd.prog 12 #[.int .i64 n] W fun e w' => e = .returned (.string ⟨(encN n).toArray⟩) ∧ Below W.heap.size W w' := by
  have HI := Lib.hid (rint_any (W := W) hn)
  clear hn
  by_cases h0 : n < 0
  · have HE := Lib.hid (show encN n = [] from if_pos h0)
    go_enter Tryd.func12, Tryd.ntmps12
    go_wp2
    go_ret
    exact ⟨by rw [HE.out]; rfl, Below.refl _ _⟩
  · have HE := Lib.hid (show encN n = encI n from if_neg h0)
    go_enter Tryd.func12, Tryd.ntmps12
    go_wp2_with (fail)
    go_must (refine HI.out.mono ?_)
    rintro e w1 ⟨rfl, hb⟩
    have HB := Lib.hid hb
    clear hb
    dsimp only
    go_wp2
    go_ret
    exact ⟨by rw [HE.out]; rfl, HB.out⟩
theorem itoa_nat (k : Nat) : itoa (k : Int) = decDigits k := by simp [itoa]
set_option maxRecDepth 100000 in
set_option maxHeartbeats 4000000 in
theorem rtext_any {W : World} {l : List UInt8} (hz : l.length ≤ 1000000000) : Calls Tryd.prog 16 #[.string ⟨l.toArray⟩] W fun e w' => e = .returned (.string ⟨(encT l).toArray⟩) ∧ Below W.heap.size W w' := by
  have HD := Lib.hid (digits_any l.length (by omega))
  have hl := dec_len19 (k := l.length) (by omega)
  have hwn : IntKind.i64.wrap (-(l.length : Int)) = -(l.length : Int) := IntWalk.i64_in _ (by omega)
  have HE : Hid ((⟨(decDigits l.length).toArray⟩ : ByteArray) ++ ⟨#[58]⟩ ++ ⟨l.toArray⟩ ++ ⟨#[44]⟩ = ⟨(encT l).toArray⟩) := Lib.hid (str_eq (by simp [encT, itoa_nat]))
  go_enter Tryd.func16, Tryd.ntmps16
  go_wp2_with (fail)
  go_must (refine (HD.out _).mono ?_)
  rintro e w1 ⟨rfl, hb⟩
  have HB := Lib.hid hb
  clear hb
  dsimp only
  go_wp2
  go_ret
  exact ⟨by rw [← HE.out]; rfl, HB.out⟩
set_option maxRecDepth 100000 in
set_option maxHeartbeats 8000000 in
theorem rnums_any {W : World} {A : Option Addr} {n cap : Nat} {l : List Int} (hn : l.length = n) (hc : Ints W A l) (hf : ∀ x ∈ l, (encI x).length ≤ 10000) (hy : ∀ x ∈ l, I64 x) (hbig : n ≤ 50000) :
    Calls Tryd.prog 18 #[.slice A n cap] W fun e w' => e = .returned (.string ⟨(encL encI l).toArray⟩) ∧ Below W.heap.size W w' := by
  have HD := Lib.hid (digits_any n (by omega))
  have hl := dec_len19 (k := n) (by omega)
  have hwn : IntKind.i64.wrap (-(n : Int)) = -(n : Int) := IntWalk.i64_in _ (by omega)
  have HN := Lib.hid hn
  have HC := Lib.hid hc
  have HF := Lib.hid hf
  have HY := Lib.hid hy
  have HE0 : Hid ((⟨(decDigits n).toArray⟩ : ByteArray) ++ ⟨#[91]⟩ = ⟨(decDigits n ++ 91 :: (l.take 0).flatMap encI).toArray⟩) := Lib.hid (str_eq (by simp))
  clear hn hc hf hy
  go_enter Tryd.func18, Tryd.ntmps18
  go_wp2_with (fail)
  go_must (refine (HD.out _).mono ?_)
  rintro e w1 ⟨rfl, hb⟩
  have HB := Lib.hid hb
  clear hb
  dsimp only
  go_wp2
  rw [HE0.out]
  go_loopw [3, 4] (fun sv iv wr => ∃ k : Nat, k ≤ n ∧ iv = .int .i64 k ∧ sv = .string ⟨(decDigits n ++ 91 :: (l.take k).flatMap encI).toArray⟩ ∧ Hid (Below W.heap.size W wr)) (fun _ iv _ => n - (RowKit.intOf iv).toNat)
  case atStart => exact ⟨0, Nat.zero_le _, rfl, rfl, HB⟩
  case round =>
    clear HB
    obtain ⟨k, hk, rfl, rfl, HB⟩ := hrel
    have k0 : (0 : Int) ≤ (k : Int) := by omega
    have hfl := flat_len (f := encI) (l := l.take k) (fun x hx => HF.out x (List.mem_of_mem_take hx))
    have htk : (l.take k).length = k := by rw [List.length_take, HN.out]; omega
    rw [htk] at hfl
    have hS : (decDigits n ++ 91 :: (l.take k).flatMap encI).length ≤ 500000020 := by
      simp only [List.length_append, List.length_cons]
      omega
    obtain ⟨S, hSS⟩ : ∃ S, decDigits n ++ 91 :: (l.take k).flatMap encI = S := ⟨_, rfl⟩
    rw [hSS] at hS ⊢
    have HSS := Lib.hid hSS
    clear hSS hfl htk
    by_cases hlt : k < n
    · have hltI : (k : Int) < (n : Int) := by omega
      obtain ⟨x, hx⟩ := at_ l k (by rw [HN.out]; exact hlt)
      have hxm := mem_of_at hx
      have hfx := HF.out x hxm
      have hyx := HY.out x hxm
      obtain ⟨b, off, rfl, hcell⟩ := (HC.out.keep HB.out) (by rw [HN.out]; omega)
      have c0 := hcell k x hx
      have HS : Hid ((⟨S.toArray⟩ : ByteArray) ++ ⟨(encI x).toArray⟩ = ⟨(decDigits n ++ 91 :: (l.take (k + 1)).flatMap encI).toArray⟩) := Lib.hid (str_eq (by
        show S ++ encI x = _
        rw [← HSS.out, flat_snoc (f := encI) hx]
        simp))
      have HYX := Lib.hid hyx
      clear hcell hx hxm hyx
      go_wp2_with (fail)
      go_must (refine (rint_any HYX.out).mono ?_)
      rintro e w5 ⟨rfl, hb5⟩
      have HB5 := Lib.hid (Gen.over hb5 HB.out)
      have hz2 : (⟨(encI x).toArray⟩ : ByteArray).size = (encI x).length := by simp [ByteArray.size]
      clear hb5 c0
      dsimp only
      go_wp2
      rw [HS.out]
      go_roundw
      case rel => exact ⟨k + 1, by omega, by go_num, rfl, HB5⟩
      case measure => simp [RowKit.intOf]; omega
    · obtain rfl : k = n := by omega
      have HX : Hid ((⟨S.toArray⟩ : ByteArray) ++ ⟨#[93]⟩ = ⟨(encL encI l).toArray⟩) := Lib.hid (str_eq (by
        show S ++ [93] = encL encI l
        unfold encL
        rw [← HSS.out, HN.out, List.take_of_length_le (by rw [HN.out]; exact Nat.le_refl _), itoa_nat]
        simp))
      go_wp2
      go_ret
      exact ⟨by rw [← HX.out]; rfl, HB.out⟩
set_option maxRecDepth 100000 in
set_option maxHeartbeats 8000000 in
theorem rtexts_any {W : World} {A : Option Addr} {n cap : Nat} {l : List (List UInt8)} (hn : l.length = n) (hc : Sts W A l) (hf : ∀ x ∈ l, (encT x).length ≤ 10000) (hy : ∀ x ∈ l, x.length ≤ 1000000000) (hbig : n ≤ 50000) :
    Calls Tryd.prog 20 #[.slice A n cap] W fun e w' => e = .returned (.string ⟨(encL encT l).toArray⟩) ∧ Below W.heap.size W w' := by
  have HD := Lib.hid (digits_any n (by omega))
  have hl := dec_len19 (k := n) (by omega)
  have hwn : IntKind.i64.wrap (-(n : Int)) = -(n : Int) := IntWalk.i64_in _ (by omega)
  have HN := Lib.hid hn
  have HC := Lib.hid hc
  have HF := Lib.hid hf
  have HY := Lib.hid hy
  have HE0 : Hid ((⟨(decDigits n).toArray⟩ : ByteArray) ++ ⟨#[91]⟩ = ⟨(decDigits n ++ 91 :: (l.take 0).flatMap encT).toArray⟩) := Lib.hid (str_eq (by simp))
  clear hn hc hf hy
  go_enter Tryd.func20, Tryd.ntmps20
  go_wp2_with (fail)
  go_must (refine (HD.out _).mono ?_)
  rintro e w1 ⟨rfl, hb⟩
  have HB := Lib.hid hb
  clear hb
  dsimp only
  go_wp2
  rw [HE0.out]
  go_loopw [3, 4] (fun sv iv wr => ∃ k : Nat, k ≤ n ∧ iv = .int .i64 k ∧ sv = .string ⟨(decDigits n ++ 91 :: (l.take k).flatMap encT).toArray⟩ ∧ Hid (Below W.heap.size W wr)) (fun _ iv _ => n - (RowKit.intOf iv).toNat)
  case atStart => exact ⟨0, Nat.zero_le _, rfl, rfl, HB⟩
  case round =>
    clear HB
    obtain ⟨k, hk, rfl, rfl, HB⟩ := hrel
    have k0 : (0 : Int) ≤ (k : Int) := by omega
    have hfl := flat_len (f := encT) (l := l.take k) (fun x hx => HF.out x (List.mem_of_mem_take hx))
    have htk : (l.take k).length = k := by rw [List.length_take, HN.out]; omega
    rw [htk] at hfl
    have hS : (decDigits n ++ 91 :: (l.take k).flatMap encT).length ≤ 500000020 := by
      simp only [List.length_append, List.length_cons]
      omega
    obtain ⟨S, hSS⟩ : ∃ S, decDigits n ++ 91 :: (l.take k).flatMap encT = S := ⟨_, rfl⟩
    rw [hSS] at hS ⊢
    have HSS := Lib.hid hSS
    clear hSS hfl htk
    by_cases hlt : k < n
    · have hltI : (k : Int) < (n : Int) := by omega
      obtain ⟨x, hx⟩ := at_ l k (by rw [HN.out]; exact hlt)
      have hxm := mem_of_at hx
      have hfx := HF.out x hxm
      have hyx := HY.out x hxm
      obtain ⟨b, off, rfl, hcell⟩ := (HC.out.keep HB.out) (by rw [HN.out]; omega)
      have c0 := hcell k x hx
      have HS : Hid ((⟨S.toArray⟩ : ByteArray) ++ ⟨(encT x).toArray⟩ = ⟨(decDigits n ++ 91 :: (l.take (k + 1)).flatMap encT).toArray⟩) := Lib.hid (str_eq (by
        show S ++ encT x = _
        rw [← HSS.out, flat_snoc (f := encT) hx]
        simp))
      have HYX := Lib.hid hyx
      clear hcell hx hxm hyx
      go_wp2_with (fail)
      go_must (refine (rtext_any HYX.out).mono ?_)
      rintro e w5 ⟨rfl, hb5⟩
      have HB5 := Lib.hid (Gen.over hb5 HB.out)
      have hz2 : (⟨(encT x).toArray⟩ : ByteArray).size = (encT x).length := by simp [ByteArray.size]
      clear hb5 c0
      dsimp only
      go_wp2
      rw [HS.out]
      go_roundw
      case rel => exact ⟨k + 1, by omega, by go_num, rfl, HB5⟩
      case measure => simp [RowKit.intOf]; omega
    · obtain rfl : k = n := by omega
      have HX : Hid ((⟨S.toArray⟩ : ByteArray) ++ ⟨#[93]⟩ = ⟨(encL encT l).toArray⟩) := Lib.hid (str_eq (by
        show S ++ [93] = encL encT l
        unfold encL
        rw [← HSS.out, HN.out, List.take_of_length_le (by rw [HN.out]; exact Nat.le_refl _), itoa_nat]
        simp))
      go_wp2
      go_ret
      exact ⟨by rw [← HX.out]; rfl, HB.out⟩
end Go.Proofs.YtapcfnlononniaaDoor.Wr
