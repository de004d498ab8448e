/- The examples of trade. -/
import Derived.Test.YtpekedhcnijgcaaTrdY
import Derived.Test.YtpekedhcnijgcaaEntS
namespace Go.Proofs.Ytpekedhcnijgcaa.Book
open Go.ChangeShapes Go.WideShapes Go.ChangeAt Go.RowKit Go.Proofs.Ytpekedhcnijgcaa.Cell
set_option linter.unusedVariables false
set_option linter.unusedSimpArgs false

def ts3 : List (Int × Int) := [(-1, -1), (-1, -1), (-1, -1)]
def us3 : List Int := [10, 0, 0]
def sm0 : List Tr := [⟨0, 1, 2, 5, 1, 3, -1, 0⟩, ⟨0, 0, 1, 6, 1, 4, -1, 0⟩, ⟨1, 0, 2, 4, 1, 4, -1, 9⟩]
def sm4 : List Tr := [⟨0, 1, 2, 5, 1, 3, 4, 0⟩, ⟨0, 0, 1, 6, 1, 4, 4, 0⟩, ⟨1, 0, 2, 4, 1, 4, 4, 9⟩, ⟨0, 2, 0, 4, 4, 9, -1, 0⟩]
def sm9 : List Tr := [⟨0, 1, 2, 5, 1, 3, 4, 0⟩, ⟨0, 0, 1, 6, 1, 4, 4, 0⟩, ⟨1, 0, 2, 4, 1, 4, 4, 9⟩, ⟨0, 2, 0, 4, 4, 9, 9, 0⟩]
theorem st_x3 : stO ts3 us3 sm0 3 = ((us3, sm0), 0) := by kernel_rfl
theorem st_x4 : stO ts3 us3 sm0 4 = (([0, 1, 9], sm4), 0) := by kernel_rfl
theorem st_x9 : stO ts3 [0, 1, 9] sm4 9 = (([4, 1, 5], sm9), 0) := by kernel_rfl
theorem op_x3 : opL 3 sm0 3 = [0] := by kernel_rfl
theorem rt_x4 : rtT ts3 sm4 = true := by kernel_rfl
set_option maxHeartbeats 1000000 in
theorem seats32_any (w : World) : Calls Try.prog 40 #[] w fun e w' => ∃ g, e = .returned (.slice (some ⟨g, 0, none⟩) 3 3) ∧ Below w.heap.size w w' ∧ Prs w' (some ⟨g, 0, none⟩) ts3 := by
  go_enter Try.func40, Try.ntmps40
  go_wp2
  go_ret
  exact ⟨w.heap.size, rfl, by go_grown, Row.prs (t := 57) (Row.new _ _ _)⟩
set_option maxHeartbeats 1000000 in
theorem some32_any (w : World) : Calls Try.prog 41 #[] w fun e w' => ∃ g, e = .returned (.slice (some ⟨g, 0, none⟩) 3 3) ∧ Below w.heap.size w w' ∧ Trs w' (some ⟨g, 0, none⟩) sm0 := by
  go_enter Try.func41, Try.ntmps41
  go_wp2
  go_ret
  exact ⟨w.heap.size, rfl, by go_grown, Row.trs (l := sm0) (t := 26) (Row.new _ _ _)⟩
theorem iEq_self (L : List Int) : iEq L L = true := decide_eq_true rfl
theorem ints_is {A : Option Addr} {n cap : Nat} {xs : List Int} {A' : Option Addr} {m cap' : Nat} {ys : List Int} (w : World) (hn : xs.length = n) (hc : Ints w A xs) (hbig : n ≤ 1000000) (hm : ys.length = m) (hc' : Ints w A' ys) (hbig' : m ≤ 1000000) (h : xs = ys) :
    Calls Try.prog 19 #[.slice A n cap, .slice A' m cap'] w fun e w' => e = .returned (.bool true) ∧ Below w.heap.size w w' := by
  have hh := ints_any A n cap xs A' m cap' ys w hn hc hbig hm hc' hbig'
  subst h
  rw [iEq_self] at hh
  exact hh
set_option maxRecDepth 100000 in
set_option maxHeartbeats 8000000 in
theorem small32_any (w : World) : Calls Try.prog 12 #[] w fun e w' => e = .returned (.bool true) ∧ Below w.heap.size w w' := by
  go_enter Try.func12, Try.ntmps12
  go_wp2_with (fail)
  go_must (refine (seats32_any _).mono ?_)
  rintro e w1 ⟨gs1, rfl, hb1, hp⟩
  have hB := hb1
  have HP := Lib.hid hp
  clear hp
  have hba : Below w1.heap.size w1 (w1.alloc (.cells #[.int .i64 10, .int .i64 0, .int .i64 0] 3)) := Gen.b_alloc (Below.refl _ _)
  have HI := Lib.hid (show Ints (w1.alloc (.cells #[.int .i64 10, .int .i64 0, .int .i64 0] 3)) (some ⟨w1.heap.size, 0, none⟩) us3 from (Row.new w1 3 (ics us3)).ints)
  replace HP := Lib.hid (HP.out.keep hba)
  replace hB := Gen.over hba hB
  clear hba
  go_wp2_with (fail)
  go_must (refine (some32_any _).mono ?_)
  rintro e w2 ⟨gt1, rfl, hb2, ht⟩
  replace hB := Gen.over hb2 hB
  replace HP := Lib.hid (HP.out.keep hb2)
  replace HI := Lib.hid (HI.out.keep hb2)
  have HT := Lib.hid ht
  clear ht
  go_wp2_with (fail)
  go_must (refine (settle_any _ (n := 3) (ss := ts3) (m := 3) (us := us3) (q := 3) (l := sm0) (day := 3) rfl HP.out (by omega) rfl HI.out (by omega) rfl HT.out (by omega) st_x3).mono ?_)
  rintro e w3 ⟨A1, c1, A2, c2, rfl, hb3, hi, ht⟩
  clear HP HI HT
  replace hB := Gen.over hb3 hB
  have HIA := Lib.hid hi
  have HTA := Lib.hid ht
  clear hi ht
  go_wp2_with (fail)
  go_must (refine (seats32_any _).mono ?_)
  rintro e w4 ⟨gs2, rfl, hb4, hp⟩
  replace hB := Gen.over hb4 hB
  replace HIA := Lib.hid (HIA.out.keep hb4)
  replace HTA := Lib.hid (HTA.out.keep hb4)
  have HP := Lib.hid hp
  clear hp
  have hba : Below w4.heap.size w4 (w4.alloc (.cells #[.int .i64 10, .int .i64 0, .int .i64 0] 3)) := Gen.b_alloc (Below.refl _ _)
  have HI := Lib.hid (show Ints (w4.alloc (.cells #[.int .i64 10, .int .i64 0, .int .i64 0] 3)) (some ⟨w4.heap.size, 0, none⟩) us3 from (Row.new w4 3 (ics us3)).ints)
  replace HIA := Lib.hid (HIA.out.keep hba)
  replace HTA := Lib.hid (HTA.out.keep hba)
  replace HP := Lib.hid (HP.out.keep hba)
  replace hB := Gen.over hba hB
  clear hba
  go_wp2_with (fail)
  go_must (refine (some32_any _).mono ?_)
  rintro e w5 ⟨gt2, rfl, hb5, ht⟩
  replace hB := Gen.over hb5 hB
  replace HIA := Lib.hid (HIA.out.keep hb5)
  replace HTA := Lib.hid (HTA.out.keep hb5)
  replace HP := Lib.hid (HP.out.keep hb5)
  replace HI := Lib.hid (HI.out.keep hb5)
  have HT := Lib.hid ht
  clear ht
  go_wp2_with (fail)
  go_must (refine (settle_any _ (n := 3) (ss := ts3) (m := 3) (us := us3) (q := 3) (l := sm0) (day := 4) rfl HP.out (by omega) rfl HI.out (by omega) rfl HT.out (by omega) st_x4).mono ?_)
  rintro e w6 ⟨A3, c3, A4, c4, rfl, hb6, hi, ht⟩
  clear HP HI HT
  replace hB := Gen.over hb6 hB
  replace HIA := Lib.hid (HIA.out.keep hb6)
  replace HTA := Lib.hid (HTA.out.keep hb6)
  have HIB := Lib.hid hi
  have HTB := Lib.hid ht
  clear hi ht
  go_wp2_with (fail)
  go_must (refine (seats32_any _).mono ?_)
  rintro e w7 ⟨gs3, rfl, hb7, hp⟩
  replace hB := Gen.over hb7 hB
  replace HIA := Lib.hid (HIA.out.keep hb7)
  replace HTA := Lib.hid (HTA.out.keep hb7)
  replace HIB := Lib.hid (HIB.out.keep hb7)
  replace HTB := Lib.hid (HTB.out.keep hb7)
  have HP := Lib.hid hp
  clear hp
  go_wp2_with (fail)
  go_must (refine (settle_any _ (n := 3) (ss := ts3) (m := 3) (us := [0, 1, 9]) (q := 4) (l := sm4) (day := 9) rfl HP.out (by omega) rfl HIB.out (by omega) rfl HTB.out (by omega) st_x9).mono ?_)
  rintro e w8 ⟨A5, c5, A6, c6, rfl, hb8, hi, ht⟩
  clear HP
  replace hB := Gen.over hb8 hB
  replace HIA := Lib.hid (HIA.out.keep hb8)
  replace HTA := Lib.hid (HTA.out.keep hb8)
  replace HIB := Lib.hid (HIB.out.keep hb8)
  replace HTB := Lib.hid (HTB.out.keep hb8)
  have HIC := Lib.hid hi
  clear hi ht
  have hba : Below w8.heap.size w8 (w8.alloc (.cells #[.int .i64 10, .int .i64 0, .int .i64 0] 3)) := Gen.b_alloc (Below.refl _ _)
  have HX := Lib.hid (show Ints (w8.alloc (.cells #[.int .i64 10, .int .i64 0, .int .i64 0] 3)) (some ⟨w8.heap.size, 0, none⟩) us3 from (Row.new w8 3 (ics us3)).ints)
  replace HIA := Lib.hid (HIA.out.keep hba)
  replace HTA := Lib.hid (HTA.out.keep hba)
  replace HIB := Lib.hid (HIB.out.keep hba)
  replace HTB := Lib.hid (HTB.out.keep hba)
  replace HIC := Lib.hid (HIC.out.keep hba)
  replace hB := Gen.over hba hB
  clear hba
  go_wp2_with (fail)
  go_must (refine (ints_is _ (xs := us3) (ys := us3) rfl HIA.out (by decide) rfl HX.out (by decide) rfl).mono ?_)
  rintro e w9 ⟨rfl, hb9⟩
  clear HX HIA
  replace hB := Gen.over hb9 hB
  replace HTA := Lib.hid (HTA.out.keep hb9)
  replace HIB := Lib.hid (HIB.out.keep hb9)
  replace HTB := Lib.hid (HTB.out.keep hb9)
  replace HIC := Lib.hid (HIC.out.keep hb9)
  go_wp2_with (fail)
  go_must (refine (some32_any _).mono ?_)
  rintro e w10 ⟨gt3, rfl, hb10, ht⟩
  replace hB := Gen.over hb10 hB
  replace HTA := Lib.hid (HTA.out.keep hb10)
  replace HIB := Lib.hid (HIB.out.keep hb10)
  replace HTB := Lib.hid (HTB.out.keep hb10)
  replace HIC := Lib.hid (HIC.out.keep hb10)
  have HT := Lib.hid ht
  clear ht
  go_wp2_with (fail)
  go_must (refine (tsame_is _ (xs := sm0) (ys := sm0) rfl HTA.out (by decide) rfl HT.out (by decide) rfl).mono ?_)
  rintro e w11 ⟨rfl, hb11⟩
  clear HT HTA
  replace hB := Gen.over hb11 hB
  replace HIB := Lib.hid (HIB.out.keep hb11)
  replace HTB := Lib.hid (HTB.out.keep hb11)
  replace HIC := Lib.hid (HIC.out.keep hb11)
  have hba : Below w11.heap.size w11 (w11.alloc (.cells #[.int .i64 0, .int .i64 1, .int .i64 9] 3)) := Gen.b_alloc (Below.refl _ _)
  have HX := Lib.hid (show Ints (w11.alloc (.cells #[.int .i64 0, .int .i64 1, .int .i64 9] 3)) (some ⟨w11.heap.size, 0, none⟩) [0, 1, 9] from (Row.new w11 3 (ics [0, 1, 9])).ints)
  replace HIB := Lib.hid (HIB.out.keep hba)
  replace HTB := Lib.hid (HTB.out.keep hba)
  replace HIC := Lib.hid (HIC.out.keep hba)
  replace hB := Gen.over hba hB
  clear hba
  go_wp2_with (fail)
  go_must (refine (ints_is _ (xs := [0, 1, 9]) (ys := [0, 1, 9]) rfl HIB.out (by decide) rfl HX.out (by decide) rfl).mono ?_)
  rintro e w12 ⟨rfl, hb12⟩
  clear HX HIB
  replace hB := Gen.over hb12 hB
  replace HTB := Lib.hid (HTB.out.keep hb12)
  replace HIC := Lib.hid (HIC.out.keep hb12)
  have hba : Below w12.heap.size w12 (w12.alloc (.cells #[.int .i64 4, .int .i64 1, .int .i64 5] 3)) := Gen.b_alloc (Below.refl _ _)
  have HX := Lib.hid (show Ints (w12.alloc (.cells #[.int .i64 4, .int .i64 1, .int .i64 5] 3)) (some ⟨w12.heap.size, 0, none⟩) [4, 1, 5] from (Row.new w12 3 (ics [4, 1, 5])).ints)
  replace HTB := Lib.hid (HTB.out.keep hba)
  replace HIC := Lib.hid (HIC.out.keep hba)
  replace hB := Gen.over hba hB
  clear hba
  go_wp2_with (fail)
  go_must (refine (ints_is _ (xs := [4, 1, 5]) (ys := [4, 1, 5]) rfl HIC.out (by decide) rfl HX.out (by decide) rfl).mono ?_)
  rintro e w13 ⟨rfl, hb13⟩
  clear HX HIC
  replace hB := Gen.over hb13 hB
  replace HTB := Lib.hid (HTB.out.keep hb13)
  obtain ⟨bm, om, rfl, hcell⟩ := HTB.out (by decide)
  obtain ⟨c30, c31, c32, c33, c34, c35, c36, c37⟩ := hcell 3 _ rfl
  obtain ⟨_, _, _, _, _, _, c06, _⟩ := hcell 0 _ rfl
  obtain ⟨_, _, _, _, _, _, c26, _⟩ := hcell 2 _ rfl
  dsimp only at c30 c31 c32 c33 c34 c35 c36 c37 c06 c26
  clear hcell
  go_wp2_with (fail)
  go_must (refine (some32_any _).mono ?_)
  rintro e w14 ⟨gt4, rfl, hb14, ht⟩
  replace hB := Gen.over hb14 hB
  replace HTB := Lib.hid (HTB.out.keep hb14)
  have HT := Lib.hid ht
  clear ht
  go_wp2_with (fail)
  go_must (refine (topenl_any _ 3 _ sm0 3 _ rfl HT.out (by omega)).mono ?_)
  rintro e w15 ⟨A7, c7, rfl, hb15, hi⟩
  rw [op_x3] at hi ⊢
  clear HT
  replace hB := Gen.over hb15 hB
  replace HTB := Lib.hid (HTB.out.keep hb15)
  have HIO := Lib.hid hi
  clear hi
  have hba : Below w15.heap.size w15 (w15.alloc (.cells #[.int .i64 0] 3)) := Gen.b_alloc (Below.refl _ _)
  have HX := Lib.hid (show Ints (w15.alloc (.cells #[.int .i64 0] 3)) (some ⟨w15.heap.size, 0, none⟩) [0] from (Row.new w15 3 (ics [0])).ints)
  replace HTB := Lib.hid (HTB.out.keep hba)
  replace HIO := Lib.hid (HIO.out.keep hba)
  replace hB := Gen.over hba hB
  clear hba
  go_wp2_with (fail)
  go_must (refine (ints_is _ (xs := [0]) (ys := [0]) rfl HIO.out (by decide) rfl HX.out (by decide) rfl).mono ?_)
  rintro e w16 ⟨rfl, hb16⟩
  clear HX HIO
  replace hB := Gen.over hb16 hB
  replace HTB := Lib.hid (HTB.out.keep hb16)
  go_wp2_with (fail)
  go_must (refine (seats32_any _).mono ?_)
  rintro e w17 ⟨gs4, rfl, hb17, hp⟩
  replace hB := Gen.over hb17 hB
  replace HTB := Lib.hid (HTB.out.keep hb17)
  have HP := Lib.hid hp
  clear hp
  go_wp2_with (fail)
  go_must (refine (tRight_is _ (ss := ts3) (l := sm4) rfl HP.out (by decide) rfl HTB.out (by decide) rt_x4).mono ?_)
  rintro e w18 ⟨rfl, hb18⟩
  replace hB := Gen.over hb18 hB
  go_wp2
  go_ret
  exact ⟨rfl, hB⟩
end Go.Proofs.Ytpekedhcnijgcaa.Book
