/- Package date: texts of days. -/
import Derived.Test.YtbfehelhedjgjaaDoorSchA
import Derived.Test.YtbfehelhedjgjaaDoorShelf
import Derived.WalkSpells
import Derived.Lib.SmallJoins
import Derived.Lib.AppendIntMem
import Derived.Lib.AtoiErrMem
import Derived.Lib.AtoiTie
import Derived.Lib.ItoaMem
namespace Go.Proofs.YtbfehelhedjgjaaDoor.Dat
open Go.ChangeShapes Go.WideShapes Go.ChangeAt Go.RowKit Go.Proofs.YtbfehelhedjgjaaDoor.Cell
set_option linter.unusedVariables false
set_option linter.unusedSimpArgs false

def str (l : List UInt8) : ByteArray := ⟨l.toArray⟩
theorem str_append (a b : List UInt8) : str a ++ str b = str (a ++ b) := by
  unfold str
  rw [ByteArray.mk_append_mk]
theorem str_size (l : List UInt8) : (str l).size = l.length := by
  show l.toArray.size = _
  simp
def dg (n : Nat) : UInt8 := UInt8.ofNat (48 + n)
def tw (n : Nat) : List UInt8 := [dg (n / 10), dg (n % 10)]
theorem dec_one {n : Nat} (h : n < 10) : Lib.decDigits n = [dg n] := by rw [Lib.decDigits, dif_pos h]; rfl
theorem dec_two {n : Nat} (h : 10 ≤ n) (h2 : n < 100) : Lib.decDigits n = tw n := by
  rw [Lib.decDigits, dif_neg (by omega), dec_one (by omega)]; rfl
theorem dec_four {n : Nat} (h : 1000 ≤ n) (h2 : n < 10000) : Lib.decDigits n = tw (n / 100) ++ tw (n % 100) := by
  rw [Lib.decDigits, dif_neg (by omega), Lib.decDigits, dif_neg (by omega), dec_two (by omega) (by omega)]
  unfold tw
  rw [show n / 10 / 10 = n / 100 by omega, show n / 10 % 10 = n % 100 / 10 by omega, show n % 100 % 10 = n % 10 by omega]
  rfl
theorem tw_length (n : Nat) : (tw n).length = 2 := rfl
theorem ret_str {a b : ByteArray} (h : a = b) : Ending.returned (.string a) = .returned (.string b) := by rw [h]
set_option maxHeartbeats 1000000 in
theorem two_any (n : Nat) (h : n < 100) (w : World) :
    Calls Tryd.prog 30 #[.int .i64 n] w fun e w' => e = .returned (.string (str (tw n))) ∧ w = w' := by
  by_cases h1 : n < 10
  · have HF := Lib.hid (show str [48] ++ str (Lib.decDigits n) = str (tw n) from by
      rw [str_append, dec_one h1]; unfold tw; rw [show n / 10 = 0 by omega, show n % 10 = n by omega]; rfl)
    have hl : 1 + (Lib.decDigits n).length ≤ 9 := by rw [dec_one h1]; show 1 + 1 ≤ 9; decide
    go_enter Tryd.func30, Tryd.ntmps30
    go_wp2_with (fail)
    go_must (refine (Tryd.strconv_Itoa_small n h _).mono ?_)
    rintro e w1 ⟨rfl, rfl⟩
    go_wp2
    go_ret
    exact ⟨ret_str HF.out, rfl⟩
  · have HF := Lib.hid (dec_two (by omega) h)
    have h1' : 10 ≤ n := by omega
    clear h1
    go_enter Tryd.func30, Tryd.ntmps30
    go_wp2_with (fail)
    go_must (refine (Tryd.strconv_Itoa_small n h _).mono ?_)
    rintro e w1 ⟨rfl, rfl⟩
    go_wp2
    go_ret
    exact ⟨ret_str (by rw [HF.out]; rfl), rfl⟩
abbrev PowTab (w : World) : Prop := Lib.TabIs Tryd.prog w "internal/strconv.uint64pow10" .u64 Lib.pow10Tab
theorem gPow : Tryd.prog.globalNamed "internal/strconv.uint64pow10" = some 2 := by kernel_rfl
theorem PowTab.keep {w w1 : World} (h : PowTab w) (hb : Below w.heap.size w w1) : PowTab w1 := Joins.tab_stays gPow h hb (Nat.le_refl _)
/-- the text of a date -/
def tx (y : Int) (m : Nat) (d : Int) : List UInt8 := tw (y.toNat / 100) ++ tw (y.toNat % 100) ++ [45] ++ tw m ++ [45] ++ tw d.toNat
theorem itoa_year {y : Int} (h0 : 1000 ≤ y) (h1 : y < 10000) : Lib.itoa y = tw (y.toNat / 100) ++ tw (y.toNat % 100) := by
  unfold Lib.itoa
  rw [if_neg (by omega), dec_four (by omega) (by omega)]
theorem pt_hi {day y : Int} {m : Nat} {d : Int} (h1 : day ≤ 200000) (hp : Pt day y m d) : y ≤ 2447 := by
  have hy1 := hp.in_
  by_cases c : y ≤ 2447
  · exact c
  · have := ny_mono (a := 2448) (b := y) (by omega) (by omega)
    have := ny_hi
    omega
theorem two_is {n : Nat} {s : ByteArray} (h : n < 100) (w : World) (hs : str (tw n) = s) :
    Calls Tryd.prog 30 #[.int .i64 n] w fun e w' => e = .returned (.string s) ∧ w = w' := by
  have hh := two_any n h w
  rw [hs] at hh
  exact hh
theorem itoa_is {y : Int} {s : ByteArray} (h0 : 1000 ≤ y) (h1 : y < 10000) (w : World) (hT : PowTab w) (hs : str (Lib.itoa y) = s) :
    Calls Tryd.prog 29 #[.int .i64 y] w fun e w' => e = .returned (.string s) ∧ Below w.heap.size w w' :=
  (Tryd.strconv_Itoa y (by omega) (by omega) w hT).mono fun e w' ⟨he, k, os, hw⟩ => ⟨by rw [he, ← hs]; rfl, by rw [hw]; exact Lib.below_grow _ _ (Nat.le_refl _) _ _⟩
set_option maxHeartbeats 2000000 in
theorem text_is {day y : Int} {m : Nat} {d : Int} (w : World) (h0 : 0 ≤ day) (h1 : day ≤ 200000) (hp : Pt day y m d) (hT : PowTab w) :
    Calls Tryd.prog 20 #[.int .i64 day] w fun e w' => e = .returned (.string (str (tx y m d))) ∧ Below w.heap.size w w' := by
  have y0 := hp.y0
  have y1 := pt_hi h1 hp
  have m0 := hp.m0
  have m1 := hp.m1
  have d0 := hp.d0
  have d31 := lst_in y m (by omega) (by omega)
  have d1 : d ≤ 31 := by have := hp.d1; omega
  have HP := Lib.hid hp
  have HT := Lib.hid hT
  obtain ⟨dn, rfl⟩ := Int.eq_ofNat_of_zero_le (show 0 ≤ d by omega)
  obtain ⟨sy, hy⟩ : ∃ s, str (Lib.itoa y) = s := ⟨_, rfl⟩
  obtain ⟨sm, hm⟩ : ∃ s, str (tw m) = s := ⟨_, rfl⟩
  obtain ⟨sd, hd⟩ : ∃ s, str (tw dn) = s := ⟨_, rfl⟩
  have ly : sy.size ≤ 4 := by rw [← hy, str_size, itoa_year (by omega) (by omega)]; exact Nat.le_refl _
  have lm : sm.size ≤ 2 := by rw [← hm, str_size]; exact Nat.le_refl _
  have ld : sd.size ≤ 2 := by rw [← hd, str_size]; exact Nat.le_refl _
  have HE := Lib.hid (show sy ++ (⟨#[45]⟩ : ByteArray) ++ sm ++ (⟨#[45]⟩ : ByteArray) ++ sd = str (tx y m dn) from by
    rw [← hy, ← hm, ← hd, itoa_year (by omega) (by omega)]
    show str _ ++ str [45] ++ str _ ++ str [45] ++ str _ = _
    rw [str_append, str_append, str_append, str_append]
    rfl)
  have HY := Lib.hid hy
  have HM := Lib.hid hm
  have HD := Lib.hid hd
  clear hp hT d31 hy hm hd
  go_enter Tryd.func20, Tryd.ntmps20
  go_wp2_with (fail)
  go_must (refine (parts_is _ h0 h1 HP.out).mono ?_)
  rintro e w1 ⟨rfl, rfl⟩
  go_wp2_with (fail)
  go_must (refine (itoa_is (by omega) (by omega) _ HT.out HY.out).mono ?_)
  rintro e w1 ⟨rfl, hB⟩
  go_wp2_with (fail)
  go_must (refine (two_is (by omega) _ HM.out).mono ?_)
  rintro e w2 ⟨rfl, rfl⟩
  go_wp2_with (fail)
  go_must (refine (two_is (by omega) _ HD.out).mono ?_)
  rintro e w2 ⟨rfl, rfl⟩
  go_wp2
  go_ret
  exact ⟨ret_str HE.out, hB⟩
set_option maxHeartbeats 1000000 in
theorem text_no {day : Int} (w : World) (h : ¬ (0 ≤ day ∧ day ≤ 200000)) :
    Calls Tryd.prog 20 #[.int .i64 day] w fun e w' => e = .returned (.string ⟨#[]⟩) ∧ w = w' := by
  go_enter Tryd.func20, Tryd.ntmps20
  go_wp2_with (fail)
  go_must (refine (parts_no _ _ h).mono ?_)
  rintro e w1 ⟨rfl, rfl⟩
  go_wp2
  go_ret
  exact ⟨rfl, rfl⟩
end Go.Proofs.YtbfehelhedjgjaaDoor.Dat
