/- BookTells returns true: every list of seats and units, seats and numbers; no condition. -/
import Derived.Test.YtggheoppbghjeaaBookW
import Derived.Test.YtggheoppbghjeaaLSum
namespace Go.Proofs.Ytggheoppbghjeaa.Book
open Go.ChangeShapes Go.WideShapes Go.ChangeAt Go.RowKit Go.Proofs.Ytggheoppbghjeaa.Cell
set_option linter.unusedVariables false
set_option linter.unusedSimpArgs false

section
variable {A A' : Option Addr} {n cap m cap' q : Nat} {ss : List (Int × Int)} {us L : List Int} {f t x E : Int}
theorem mvR_len (hm : us.length = m) : (mvR ss us f t x).length ≤ m := by
  unfold mvR mvL
  split
  · simp [hm]
  · simp
theorem move_l (w : World) (hn : ss.length = n) (hc : Prs w A ss) (hbig : n ≤ 1000000) (hm : us.length = m) (hc' : Ints w A' us) (hbig' : m ≤ 1000000) (hE : mvE ss us f t x = E) (hL : mvR ss us f t x = L) (hk : L.length = q) :
    Calls Try.prog 10 #[.slice A n cap, .slice A' m cap', .int .i64 f, .int .i64 t, .int .i64 x] w fun e w' => ∃ A c, e = .returned (.tuple #[.slice A q c, .int .i64 E]) ∧ Below w.heap.size w w' ∧ Ints w' A L := by
  have h := move_any A n cap ss A' m cap' us f t x w hn hc hbig hm hc' hbig'
  unfold MovePost at h
  rw [hE, hL, hk] at h
  exact h
theorem rmove_l (w : World) (hn : ss.length = n) (hc : Prs w A ss) (hbig : n ≤ 1000000) (hm : us.length = m) (hc' : Ints w A' us) (hbig' : m ≤ 1000000) (hE : mvE ss us f t x = E) (hL : mvR ss us f t x = L) (hk : L.length = q) :
    Calls Try.prog 11 #[.slice A n cap, .slice A' m cap', .int .i64 f, .int .i64 t, .int .i64 x] w fun e w' => ∃ A c, e = .returned (.tuple #[.slice A q c, .int .i64 E]) ∧ Below w.heap.size w w' ∧ Ints w' A L := by
  have h := rmove_any A n cap ss A' m cap' us f t x w hn hc hbig hm hc' hbig'
  unfold MovePost at h
  rw [hE, hL, hk] at h
  exact h
theorem ints_is {xs ys : List Int} {b : Bool} (w : World) (hn : xs.length = n) (hc : Ints w A xs) (hbig : n ≤ 1000000) (hm : ys.length = m) (hc' : Ints w A' ys) (hbig' : m ≤ 1000000) (h : iEq xs ys = b) :
    Calls Try.prog 12 #[.slice A n cap, .slice A' m cap'] w fun e w' => e = .returned (.bool b) ∧ Below w.heap.size w w' := by
  have hh := ints_any A n cap xs A' m cap' ys w hn hc hbig hm hc' hbig'
  rw [h] at hh
  exact hh
end

set_option maxRecDepth 100000 in
set_option maxHeartbeats 1000000 in
theorem tells_a (A : Option Addr) (n cap : Nat) (A' : Option Addr) (m cap' : Nat) (f t x : Int) (w : World) (hn : n ≤ 9223372036854775807) (hm : m ≤ 9223372036854775807) (h : (decide (n ≤ 30) && decide (m ≤ 40)) = false) :
    Calls Try.prog 3 #[.slice A n cap, .slice A' m cap', .int .i64 f, .int .i64 t, .int .i64 x] w fun e w' => e = .returned (.bool true) ∧ Below w.heap.size w w' := by
  have HF := Lib.hid h
  clear h
  go_enter Try.func3, Try.ntmps3
  go_wp2_with (fail)
  refine (small_any _).mono ?_
  rintro e w1 ⟨rfl, hb⟩
  go_wp2_with (fail)
  go_must (refine (few_is _ hn hm HF.out).mono ?_)
  rintro e w2 ⟨rfl, hb2⟩
  have hB := Gen.over hb2 hb
  go_wp2
  go_ret
  exact ⟨rfl, hB⟩

set_option maxRecDepth 100000 in
set_option maxHeartbeats 4000000 in
theorem tells_b (A : Option Addr) (n cap : Nat) (ss : List (Int × Int)) (A' : Option Addr) (m cap' : Nat) (us : List Int) (f t x : Int) (w : World) (hn : ss.length = n) (hc : Prs w A ss) (hm : us.length = m) (hc' : Ints w A' us) (hf : (decide (n ≤ 30) && decide (m ≤ 40)) = true) :
    Calls Try.prog 3 #[.slice A n cap, .slice A' m cap', .int .i64 f, .int .i64 t, .int .i64 x] w fun e w' => e = .returned (.bool true) ∧ Below w.heap.size w w' := by
  obtain ⟨E, hE⟩ : ∃ E, mvE ss us f t x = E := ⟨_, rfl⟩
  obtain ⟨L, hL⟩ : ∃ L, mvR ss us f t x = L := ⟨_, rfl⟩
  obtain ⟨q, hq⟩ : ∃ q, L.length = q := ⟨_, rfl⟩
  obtain ⟨r, hr⟩ : ∃ r, rg ss = r := ⟨_, rfl⟩
  obtain ⟨lv, hlv⟩ : ∃ v, lvO ss f = v := ⟨_, rfl⟩
  obtain ⟨rt, hrt⟩ : ∃ v, rtO ss f = v := ⟨_, rfl⟩
  obtain ⟨l, hl⟩ : ∃ v, lfO ss t = v := ⟨_, rfl⟩
  obtain ⟨hd, hhd⟩ : ∃ v, hO ss us f = v := ⟨_, rfl⟩
  have hq4 : q ≤ 40 := by
    have := mvR_len (ss := ss) (f := f) (t := t) (x := x) hm
    rw [hL, hq] at this
    have := (few_in hf).2
    omega
  have HE := Lib.hid hE
  have HL := Lib.hid hL
  have HQ := Lib.hid hq
  have HR := Lib.hid hr
  have HLV := Lib.hid hlv
  have HRT := Lib.hid hrt
  have HLF := Lib.hid hl
  have HHD := Lib.hid hhd
  have HN := Lib.hid hn
  have HM := Lib.hid hm
  obtain ⟨f1, f2⟩ := few_in hf
  have HF := Lib.hid hf
  clear hn hm hf hE hL hq hr hlv hrt hl hhd
  go_enter Try.func3, Try.ntmps3
  go_wp2_with (fail)
  refine (small_any _).mono ?_
  rintro e w1 ⟨rfl, hB1⟩
  go_wp2_with (fail)
  go_must (refine (few_is _ (by omega) (by omega) HF.out).mono ?_)
  rintro e w2 ⟨rfl, hb2⟩
  have hB2 := Gen.over hb2 hB1
  go_wp2_with (fail)
  go_must (refine (move_l _ HN.out (hc.keep hB2) (by omega) HM.out (hc'.keep hB2) (by omega) HE.out HL.out HQ.out).mono ?_)
  rintro e w3 ⟨A1, c1, rfl, hb3, i1⟩
  have hB3 := Gen.over hb3 hB2
  go_wp2_with (fail)
  go_must (refine (rmove_l _ HN.out (hc.keep hB3) (by omega) HM.out (hc'.keep hB3) (by omega) HE.out HL.out HQ.out).mono ?_)
  rintro e w4 ⟨A2, c2, rfl, hb4, i2⟩
  have hB4 := Gen.over hb4 hB3
  replace i1 := i1.keep hb4
  go_wp2_with (fail)
  go_must (refine (ints_is _ HQ.out i1 (by omega) HQ.out i2 (by omega) (show iEq L L = true from decide_eq_true rfl)).mono ?_)
  rintro e w5 ⟨rfl, hb5⟩
  have hB5 := Gen.over hb5 hB4
  go_wp2_with (fail)
  go_must (refine (right_is _ HN.out (hc.keep hB5) (by omega) HR.out).mono ?_)
  rintro e w6 ⟨rfl, hb6⟩
  have hB6 := Gen.over hb6 hB5
  go_wp2_with (fail)
  go_must (refine (rright_is _ HN.out (hc.keep hB6) (by omega) HR.out).mono ?_)
  rintro e w7 ⟨rfl, hb7⟩
  have hB7 := Gen.over hb7 hB6
  go_wp2_with (fail)
  go_must (refine (level_is _ HN.out (hc.keep hB7) (by omega) HLV.out).mono ?_)
  rintro e w8 ⟨rfl, hb8⟩
  have hB8 := Gen.over hb8 hB7
  go_wp2_with (fail)
  go_must (refine (rlevel_is _ HN.out (hc.keep hB8) (by omega) HLV.out).mono ?_)
  rintro e w9 ⟨rfl, hb9⟩
  have hB9 := Gen.over hb9 hB8
  go_wp2_with (fail)
  go_must (refine (root_is _ HN.out (hc.keep hB9) (by omega) HRT.out).mono ?_)
  rintro e w10 ⟨rfl, hb10⟩
  have hB10 := Gen.over hb10 hB9
  go_wp2_with (fail)
  go_must (refine (rroot_is _ HN.out (hc.keep hB10) (by omega) HRT.out).mono ?_)
  rintro e w11 ⟨rfl, hb11⟩
  have hB11 := Gen.over hb11 hB10
  go_wp2_with (fail)
  go_must (refine (bleaf_is _ HN.out (hc.keep hB11) (by omega) HLF.out).mono ?_)
  rintro e w12 ⟨rfl, hb12⟩
  have hB12 := Gen.over hb12 hB11
  go_wp2_with (fail)
  go_must (refine (rleaf_is _ HN.out (hc.keep hB12) (by omega) HLF.out).mono ?_)
  rintro e w13 ⟨rfl, hb13⟩
  have hB13 := Gen.over hb13 hB12
  go_wp2_with (fail)
  go_must (refine (held_is _ HN.out (hc.keep hB13) (by omega) HM.out (hc'.keep hB13) (by omega) HHD.out).mono ?_)
  rintro e w14 ⟨rfl, hb14⟩
  have hB14 := Gen.over hb14 hB13
  go_wp2_with (fail)
  go_must (refine (rheld_is _ HN.out (hc.keep hB14) (by omega) HM.out (hc'.keep hB14) (by omega) HHD.out).mono ?_)
  rintro e w15 ⟨rfl, hb15⟩
  have hB15 := Gen.over hb15 hB14
  go_wp2
  go_ret
  exact ⟨rfl, hB15⟩
theorem tells_any (A : Option Addr) (cap : Nat) (ss : List (Int × Int)) (A' : Option Addr) (cap' : Nat) (us : List Int) (f t x : Int) (w : World) (hc : Prs w A ss) (hbig : ss.length ≤ 9223372036854775807) (hc' : Ints w A' us) (hbig' : us.length ≤ 9223372036854775807) :
    Calls Try.prog 3 #[.slice A ss.length cap, .slice A' us.length cap', .int .i64 f, .int .i64 t, .int .i64 x] w fun e w' => e = .returned (.bool true) ∧ Below w.heap.size w w' := by
  cases hf : (decide (ss.length ≤ 30) && decide (us.length ≤ 40))
  · exact tells_a A _ cap A' _ cap' f t x w hbig hbig' hf
  · exact tells_b A _ cap ss A' _ cap' us f t x w rfl hc rfl hc' hf
end Go.Proofs.Ytggheoppbghjeaa.Book
