/- Wire: encodings. -/
import Derived.Test.YtapcfnlononniaaDoorWrE
namespace Go.Proofs.YtapcfnlononniaaDoor.Wr
open Go.Lib Go.ChangeShapes Go.WideShapes Go.ChangeAt Go.RowKit Go.Proofs.YtapcfnlononniaaDoor.Cell
set_option linter.unusedVariables false
set_option linter.unusedSimpArgs false
def encI (n : Int) : List UInt8 := itoa n ++ [59]
def encN (n : Int) : List UInt8 := if n < 0 then [] else encI n
def encT (l : List UInt8) : List UInt8 := itoa (l.length : Int) ++ 58 :: (l ++ [44])
def encL {α : Type} (f : α → List UInt8) (vs : List α) : List UInt8 := itoa (vs.length : Int) ++ 91 :: (vs.flatMap f ++ [93])
theorem app_list (a b : List UInt8) : (⟨a.toArray⟩ : ByteArray) ++ (⟨b.toArray⟩ : ByteArray) = ⟨(a ++ b).toArray⟩ := str_eq (by simp)
section
variable {W : World}
set_option maxRecDepth 100000 in
set_option maxHeartbeats 4000000 in
theorem wint_any {n : Int} (hn : I64 n) (hT : PowTab W) : Calls Tryd.prog 13 #[.int .i64 n] W fun e w' => e = .returned (.string ⟨(encI n).toArray⟩) ∧ Below W.heap.size W w' := by
  have HI := Lib.hid (itoa_any hn W hT)
  have hl := itoa_len hn
  have e1 : (⟨(itoa n).toArray⟩ : ByteArray) ++ ⟨#[59]⟩ = ⟨(encI n).toArray⟩ := app_list (itoa n) [59]
  have HE := Lib.hid e1
  clear hn hT e1
  go_enter Tryd.func13, Tryd.ntmps13
  go_wp2_with (fail)
  go_must (refine HI.out.mono ?_)
  rintro e w1 ⟨rfl, hb⟩
  have HB := Lib.hid hb
  clear hb
  dsimp only
  go_wp2
  go_ret
  exact ⟨by rw [← HE.out]; rfl, HB.out⟩
set_option maxRecDepth 100000 in
set_option maxHeartbeats 4000000 in
theorem wnum_any {n : Int} (hn : I64 n) (hT : PowTab W) : Calls Tryd.prog 11 #[.int .i64 n] W fun e w' => e = .returned (.string ⟨(encN n).toArray⟩) ∧ Below W.heap.size W w' := by
  have HI := Lib.hid (wint_any hn hT)
  clear hn hT
  by_cases h0 : n < 0
  · have HE := Lib.hid (show encN n = [] from if_pos h0)
    go_enter Tryd.func11, Tryd.ntmps11
    go_wp2
    go_ret
    exact ⟨by rw [HE.out]; rfl, Below.refl _ _⟩
  · have HE := Lib.hid (show encN n = encI n from if_neg h0)
    go_enter Tryd.func11, Tryd.ntmps11
    go_wp2_with (fail)
    go_must (refine HI.out.mono ?_)
    rintro e w1 ⟨rfl, hb⟩
    have HB := Lib.hid hb
    clear hb
    dsimp only
    go_wp2
    go_ret
    exact ⟨by rw [HE.out]; rfl, HB.out⟩
set_option maxRecDepth 100000 in
set_option maxHeartbeats 4000000 in
theorem wtext_any {l : List UInt8} (hz : l.length ≤ 1000000000) (hT : PowTab W) : Calls Tryd.prog 15 #[.string ⟨l.toArray⟩] W fun e w' => e = .returned (.string ⟨(encT l).toArray⟩) ∧ Below W.heap.size W w' := by
  have hn : I64 (l.length : Int) := ⟨by omega, by omega⟩
  have HI := Lib.hid (itoa_any hn W hT)
  have hl := itoa_len hn
  have HE : Hid ((⟨(itoa (l.length : Int)).toArray⟩ : ByteArray) ++ ⟨#[58]⟩ ++ ⟨l.toArray⟩ ++ ⟨#[44]⟩ = ⟨(encT l).toArray⟩) := Lib.hid (str_eq (by simp [encT]))
  clear hn hT
  go_enter Tryd.func15, Tryd.ntmps15
  go_wp2_with (fail)
  go_must (refine HI.out.mono ?_)
  rintro e w1 ⟨rfl, hb⟩
  have HB := Lib.hid hb
  clear hb
  dsimp only
  go_wp2
  go_ret
  exact ⟨by rw [← HE.out]; rfl, HB.out⟩
end
theorem Bd.keep {W W' : World} {B b : Nat} {l : List UInt8} (h : Bd W B b l) (hb : Below W.heap.size W W') : Bd W' B b l := by
  obtain ⟨hlo, p, v, hr, hp, ho, hn⟩ := h
  exact ⟨hlo, p, v, hr.keep hb, hp, Gen.own_keep ho hb, hn⟩
/-- strings in memory -/
def Sts (W : World) (A : Option Addr) (l : List (List UInt8)) : Prop := 0 < l.length → ∃ b off, A = some ⟨b, off, none⟩ ∧ ∀ (j : Nat) x, l[j]? = some x → W.cell? ⟨b, off + j, none⟩ = some (.string ⟨x.toArray⟩)
theorem Sts.keep {w w1 : World} {A : Option Addr} {l : List (List UInt8)} (h : Sts w A l) (hb : Below w.heap.size w w1) : Sts w1 A l := fun h0 => by
  obtain ⟨b, off, e, hc⟩ := h h0
  exact ⟨b, off, e, fun j x hx => Gen.keep hb (hc j x hx)⟩
theorem flat_len {α : Type} {f : α → List UInt8} {l : List α} (h : ∀ x ∈ l, (f x).length ≤ 10000) : (l.flatMap f).length ≤ l.length * 10000 := by
  induction l with
  | nil => simp
  | cons x l ih =>
    have h1 := h x List.mem_cons_self
    have h2 := ih fun y hy => h y (List.mem_cons_of_mem _ hy)
    rw [List.flatMap_cons, List.length_append, List.length_cons]
    omega
theorem flat_snoc {α : Type} {f : α → List UInt8} {l : List α} {k : Nat} {x : α} (h : l[k]? = some x) : (l.take (k + 1)).flatMap f = (l.take k).flatMap f ++ f x := by
  rw [take_snoc h, List.flatMap_append]
  simp
set_option maxRecDepth 100000 in
set_option maxHeartbeats 8000000 in
theorem wint_list {w0 W : World} {A : Option Addr} {n cap : Nat} {l : List Int} (hn : l.length = n) (hc : Ints W A l) (hf : ∀ x ∈ l, (encI x).length ≤ 10000) (hy : ∀ x ∈ l, I64 x) (hbig : n ≤ 50000) (hE : En w0 W) :
    Calls Tryd.prog 46 #[.slice A n cap, .func (.func 13) #[] #[]] W fun e w' => e = .returned (.string ⟨(encL encI l).toArray⟩) ∧ Below W.heap.size W w' := by
  have hI : I64 (n : Int) := ⟨by omega, by omega⟩
  have hil := itoa_len hI
  have HN := Lib.hid hn
  have HC := Lib.hid hc
  have HF := Lib.hid hf
  have HY := Lib.hid hy
  have HE := Lib.hid hE
  have HI := Lib.hid hI
  have HD := Lib.hid (Bd.new (W := W) (Nat.le_refl _))
  have HB0 := Lib.hid (Gen.b_alloc (x := .cells #[.pointer none, .slice none 0 0] 67) (Below.refl W.heap.size W))
  have hnI : (n : Int) ≤ 50000 := by omega
  clear hn hc hf hy hE hI
  go_enter Tryd.func46, Tryd.ntmps46
  go_upto_region 2 with (fail)
  generalize W.alloc (.cells #[.pointer none, .slice none 0 0] 67) = W1 at *
  go_wp2_with (fail)
  go_must (refine (itoa_any HI.out _ (HE.out.keep HB0.out).pt).mono ?_)
  rintro e w2 ⟨rfl, hb2⟩
  have HD2 := Lib.hid (HD.out.keep hb2)
  have HB2 := Lib.hid (Gen.over hb2 HB0.out)
  have hz1 : (⟨(itoa (n : Int)).toArray⟩ : ByteArray).size = (itoa (n : Int)).length := by simp [ByteArray.size]
  clear hb2 HD
  dsimp only
  go_wp2_with (fail)
  go_must (refine (ws_any HD2.out HB2.out.size (by rw [hz1]; simp; omega)).mono ?_)
  rintro e w3 ⟨rfl, hd3, hb3⟩
  have HD3 := Lib.hid (show Bd w3 W.heap.size W.heap.size (itoa (n : Int)) from by simpa using hd3)
  have HB3 := Lib.hid (HB2.out.trans hb3)
  clear hd3 hb3 HD2
  dsimp only
  go_wp2_with (fail)
  go_must (refine (wb_any (x := 91) HD3.out HB3.out.size (by omega)).mono ?_)
  rintro e w4 ⟨rfl, hd4, hb4⟩
  have HD4 := Lib.hid hd4
  have HB4 := Lib.hid (HB3.out.trans hb4)
  clear hd4 hb4 HD3
  dsimp only
  go_wp2
  go_loopw [15] (fun iv wr => ∃ k : Nat, k ≤ n ∧ iv = .int .i64 k ∧ Hid (Bd wr W.heap.size W.heap.size (itoa (n : Int) ++ [91] ++ (l.take k).flatMap encI)) ∧ Hid (Below W.heap.size W wr)) (fun iv _ => n - (RowKit.intOf iv).toNat)
  case atStart => exact ⟨0, Nat.zero_le _, rfl, Lib.hid (by simpa using HD4.out), HB4⟩
  case round =>
    obtain ⟨k, hk, rfl, HDr, HBr⟩ := hrel
    have k0 : (0 : Int) ≤ (k : Int) := by omega
    have hfl := flat_len (f := encI) (l := l.take k) (fun x hx => HF.out x (List.mem_of_mem_take hx))
    have htk : (l.take k).length = k := by rw [List.length_take, HN.out]; omega
    rw [htk] at hfl
    by_cases hlt : k < n
    · have hltI : (k : Int) < (n : Int) := by omega
      obtain ⟨x, hx⟩ := at_ l k (by rw [HN.out]; exact hlt)
      have hxm := mem_of_at hx
      have hfx := HF.out x hxm
      have hyx := HY.out x hxm
      obtain ⟨b, off, rfl, hcell⟩ := (HC.out.keep HBr.out) (by rw [HN.out]; omega)
      have c0 := hcell k x hx
      have HS := Lib.hid (flat_snoc (f := encI) hx)
      have HYX := Lib.hid hyx
      clear hcell hx hxm hyx
      go_wp2_with (fail)
      go_must (refine (wint_any HYX.out (HE.out.keep HBr.out).pt).mono ?_)
      rintro e w5 ⟨rfl, hb5⟩
      have HD5 := Lib.hid (HDr.out.keep hb5)
      have HB5 := Lib.hid (Gen.over hb5 HBr.out)
      have hz2 : (⟨(encI x).toArray⟩ : ByteArray).size = (encI x).length := by simp [ByteArray.size]
      clear hb5 c0
      dsimp only
      go_wp2_with (fail)
      go_must (refine (ws_any HD5.out HB5.out.size (by rw [hz2]; simp only [List.length_append, List.length_cons, List.length_nil]; omega)).mono ?_)
      rintro e w6 ⟨rfl, hd6, hb6⟩
      have HD6 := Lib.hid (show Bd w6 W.heap.size W.heap.size (itoa (n : Int) ++ [91] ++ (l.take (k + 1)).flatMap encI) from by rw [HS.out, ← List.append_assoc]; exact hd6)
      have HB6 := Lib.hid (HB5.out.trans hb6)
      clear hd6 hb6 hz2 HS hfx hfl htk
      dsimp only
      go_wp2
      go_roundw
      case rel => exact ⟨k + 1, by omega, by go_num, HD6, HB6⟩
      case measure => simp [RowKit.intOf]; omega
    · obtain rfl : k = n := by omega
      go_wp2_with (fail)
      go_must (refine (wb_any (x := 93) HDr.out HBr.out.size (by simp only [List.length_append, List.length_cons, List.length_nil]; omega)).mono ?_)
      rintro e w5 ⟨rfl, hd5, hb5⟩
      have HD5 := Lib.hid hd5
      have HB5 := Lib.hid (HBr.out.trans hb5)
      clear hd5 hb5 hfl htk
      dsimp only
      go_wp2_with (fail)
      go_must (refine (str_any HD5.out HB5.out.size).mono ?_)
      rintro e w6 ⟨rfl, hb6⟩
      have HB6 := Lib.hid (HB5.out.trans hb6)
      have HX : Hid (itoa (k : Int) ++ [91] ++ (l.take k).flatMap encI ++ [93] = encL encI l) := Lib.hid (by
        unfold encL
        rw [HN.out, List.take_of_length_le (by rw [HN.out]; exact Nat.le_refl _)]
        simp)
      rw [HX.out]
      clear hb6
      dsimp only
      go_wp2
      go_ret
      exact ⟨rfl, HB6.out⟩
set_option maxRecDepth 100000 in
set_option maxHeartbeats 8000000 in
theorem wstring_list {w0 W : World} {A : Option Addr} {n cap : Nat} {l : List (List UInt8)} (hn : l.length = n) (hc : Sts W A l) (hf : ∀ x ∈ l, (encT x).length ≤ 10000) (hy : ∀ x ∈ l, x.length ≤ 1000000000) (hbig : n ≤ 50000) (hE : En w0 W) :
    Calls Tryd.prog 47 #[.slice A n cap, .func (.func 15) #[] #[]] W fun e w' => e = .returned (.string ⟨(encL encT l).toArray⟩) ∧ Below W.heap.size W w' := by
  have hI : I64 (n : Int) := ⟨by omega, by omega⟩
  have hil := itoa_len hI
  have HN := Lib.hid hn
  have HC := Lib.hid hc
  have HF := Lib.hid hf
  have HY := Lib.hid hy
  have HE := Lib.hid hE
  have HI := Lib.hid hI
  have HD := Lib.hid (Bd.new (W := W) (Nat.le_refl _))
  have HB0 := Lib.hid (Gen.b_alloc (x := .cells #[.pointer none, .slice none 0 0] 67) (Below.refl W.heap.size W))
  have hnI : (n : Int) ≤ 50000 := by omega
  clear hn hc hf hy hE hI
  go_enter Tryd.func47, Tryd.ntmps47
  go_upto_region 2 with (fail)
  generalize W.alloc (.cells #[.pointer none, .slice none 0 0] 67) = W1 at *
  go_wp2_with (fail)
  go_must (refine (itoa_any HI.out _ (HE.out.keep HB0.out).pt).mono ?_)
  rintro e w2 ⟨rfl, hb2⟩
  have HD2 := Lib.hid (HD.out.keep hb2)
  have HB2 := Lib.hid (Gen.over hb2 HB0.out)
  have hz1 : (⟨(itoa (n : Int)).toArray⟩ : ByteArray).size = (itoa (n : Int)).length := by simp [ByteArray.size]
  clear hb2 HD
  dsimp only
  go_wp2_with (fail)
  go_must (refine (ws_any HD2.out HB2.out.size (by rw [hz1]; simp; omega)).mono ?_)
  rintro e w3 ⟨rfl, hd3, hb3⟩
  have HD3 := Lib.hid (show Bd w3 W.heap.size W.heap.size (itoa (n : Int)) from by simpa using hd3)
  have HB3 := Lib.hid (HB2.out.trans hb3)
  clear hd3 hb3 HD2
  dsimp only
  go_wp2_with (fail)
  go_must (refine (wb_any (x := 91) HD3.out HB3.out.size (by omega)).mono ?_)
  rintro e w4 ⟨rfl, hd4, hb4⟩
  have HD4 := Lib.hid hd4
  have HB4 := Lib.hid (HB3.out.trans hb4)
  clear hd4 hb4 HD3
  dsimp only
  go_wp2
  go_loopw [15] (fun iv wr => ∃ k : Nat, k ≤ n ∧ iv = .int .i64 k ∧ Hid (Bd wr W.heap.size W.heap.size (itoa (n : Int) ++ [91] ++ (l.take k).flatMap encT)) ∧ Hid (Below W.heap.size W wr)) (fun iv _ => n - (RowKit.intOf iv).toNat)
  case atStart => exact ⟨0, Nat.zero_le _, rfl, Lib.hid (by simpa using HD4.out), HB4⟩
  case round =>
    obtain ⟨k, hk, rfl, HDr, HBr⟩ := hrel
    have k0 : (0 : Int) ≤ (k : Int) := by omega
    have hfl := flat_len (f := encT) (l := l.take k) (fun x hx => HF.out x (List.mem_of_mem_take hx))
    have htk : (l.take k).length = k := by rw [List.length_take, HN.out]; omega
    rw [htk] at hfl
    by_cases hlt : k < n
    · have hltI : (k : Int) < (n : Int) := by omega
      obtain ⟨x, hx⟩ := at_ l k (by rw [HN.out]; exact hlt)
      have hxm := mem_of_at hx
      have hfx := HF.out x hxm
      have hyx := HY.out x hxm
      obtain ⟨b, off, rfl, hcell⟩ := (HC.out.keep HBr.out) (by rw [HN.out]; omega)
      have c0 := hcell k x hx
      have HS := Lib.hid (flat_snoc (f := encT) hx)
      have HYX := Lib.hid hyx
      clear hcell hx hxm hyx
      go_wp2_with (fail)
      go_must (refine (wtext_any HYX.out (HE.out.keep HBr.out).pt).mono ?_)
      rintro e w5 ⟨rfl, hb5⟩
      have HD5 := Lib.hid (HDr.out.keep hb5)
      have HB5 := Lib.hid (Gen.over hb5 HBr.out)
      have hz2 : (⟨(encT x).toArray⟩ : ByteArray).size = (encT x).length := by simp [ByteArray.size]
      clear hb5 c0
      dsimp only
      go_wp2_with (fail)
      go_must (refine (ws_any HD5.out HB5.out.size (by rw [hz2]; simp only [List.length_append, List.length_cons, List.length_nil]; omega)).mono ?_)
      rintro e w6 ⟨rfl, hd6, hb6⟩
      have HD6 := Lib.hid (show Bd w6 W.heap.size W.heap.size (itoa (n : Int) ++ [91] ++ (l.take (k + 1)).flatMap encT) from by rw [HS.out, ← List.append_assoc]; exact hd6)
      have HB6 := Lib.hid (HB5.out.trans hb6)
      clear hd6 hb6 hz2 HS hfx hfl htk
      dsimp only
      go_wp2
      go_roundw
      case rel => exact ⟨k + 1, by omega, by go_num, HD6, HB6⟩
      case measure => simp [RowKit.intOf]; omega
    · obtain rfl : k = n := by omega
      go_wp2_with (fail)
      go_must (refine (wb_any (x := 93) HDr.out HBr.out.size (by simp only [List.length_append, List.length_cons, List.length_nil]; omega)).mono ?_)
      rintro e w5 ⟨rfl, hd5, hb5⟩
      have HD5 := Lib.hid hd5
      have HB5 := Lib.hid (HBr.out.trans hb5)
      clear hd5 hb5 hfl htk
      dsimp only
      go_wp2_with (fail)
      go_must (refine (str_any HD5.out HB5.out.size).mono ?_)
      rintro e w6 ⟨rfl, hb6⟩
      have HB6 := Lib.hid (HB5.out.trans hb6)
      have HX : Hid (itoa (k : Int) ++ [91] ++ (l.take k).flatMap encT ++ [93] = encL encT l) := Lib.hid (by
        unfold encL
        rw [HN.out, List.take_of_length_le (by rw [HN.out]; exact Nat.le_refl _)]
        simp)
      rw [HX.out]
      clear hb6
      dsimp only
      go_wp2
      go_ret
      exact ⟨rfl, HB6.out⟩
set_option maxRecDepth 100000 in
set_option maxHeartbeats 4000000 in
theorem wnums_any {w0 W : World} {A : Option Addr} {n cap : Nat} {l : List Int} (hn : l.length = n) (hc : Ints W A l) (hf : ∀ x ∈ l, (encI x).length ≤ 10000) (hy : ∀ x ∈ l, I64 x) (hbig : n ≤ 50000) (hE : En w0 W) :
    Calls Tryd.prog 17 #[.slice A n cap] W fun e w' => e = .returned (.string ⟨(encL encI l).toArray⟩) ∧ Below W.heap.size W w' := by
  have HU := Lib.hid (wint_list (cap := cap) hn hc hf hy hbig hE)
  clear hn hc hf hy hbig hE
  go_enter Tryd.func17, Tryd.ntmps17
  go_wp2_with (fail)
  go_must (refine HU.out.mono ?_)
  rintro e w1 ⟨rfl, hb⟩
  have HB := Lib.hid hb
  clear hb
  dsimp only
  go_wp2
  go_ret
  exact ⟨rfl, HB.out⟩
set_option maxRecDepth 100000 in
set_option maxHeartbeats 4000000 in
theorem wtexts_any {w0 W : World} {A : Option Addr} {n cap : Nat} {l : List (List UInt8)} (hn : l.length = n) (hc : Sts W A l) (hf : ∀ x ∈ l, (encT x).length ≤ 10000) (hy : ∀ x ∈ l, x.length ≤ 1000000000) (hbig : n ≤ 50000) (hE : En w0 W) :
    Calls Tryd.prog 19 #[.slice A n cap] W fun e w' => e = .returned (.string ⟨(encL encT l).toArray⟩) ∧ Below W.heap.size W w' := by
  have HU := Lib.hid (wstring_list (cap := cap) hn hc hf hy hbig hE)
  clear hn hc hf hy hbig hE
  go_enter Tryd.func19, Tryd.ntmps19
  go_wp2_with (fail)
  go_must (refine HU.out.mono ?_)
  rintro e w1 ⟨rfl, hb⟩
  have HB := Lib.hid hb
  clear hb
  dsimp only
  go_wp2
  go_ret
  exact ⟨rfl, HB.out⟩
end Go.Proofs.YtapcfnlononniaaDoor.Wr
