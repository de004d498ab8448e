/- Law 33: the examples hold. -/
import Derived.Test.YtpekedhcnijgcaaEntE
namespace Go.Proofs.Ytpekedhcnijgcaa.Book
open Go.ChangeShapes Go.WideShapes Go.ChangeAt Go.RowKit Go.Proofs.Ytpekedhcnijgcaa.Cell
set_option linter.unusedVariables false
set_option linter.unusedSimpArgs false

def tv : List (Int × Int) := [(-1, -1), (-1, -1), (-1, 4)]
def uv3 : List Int := [10, 0, 5]
def l1 : List Tr := [⟨0, 0, 1, 4, 0, 18, -1, 0⟩]
def l2 : List Tr := [⟨1, 0, 2, 3, 0, 15, 15, 25⟩]
def l3 : List Tr := [⟨0, 1, 0, 2, 0, 19, 21, 0⟩]
theorem tcs_length (x : Tr) : (tcs x).length = 8 := rfl
theorem Row.trs {w : World} {g t : Nat} {l : List Tr} (h : Row w g t (l.flatMap tcs).toArray) : Trs w (some ⟨g, 0, none⟩) l := fun _ => ⟨g, 0, rfl, fun j x hj => by
  have a := fun i (hi : i < 8) => Gen.flat_at tcs_length l j x hj i hi
  have c := fun i (hi : i < 8) => (h.cell (j * 8 + i)).trans ((List.getElem?_toArray).trans (a i hi))
  rw [Nat.zero_add]
  exact ⟨c 0 (by omega), c 1 (by omega), c 2 (by omega), c 3 (by omega), c 4 (by omega), c 5 (by omega), c 6 (by omega), c 7 (by omega)⟩⟩
set_option maxHeartbeats 1000000 in
theorem three_any (w : World) : Calls Try.prog 60 #[] w fun e w' => ∃ g, e = .returned (.slice (some ⟨g, 0, none⟩) 3 3) ∧ Below w.heap.size w w' ∧ Prs w' (some ⟨g, 0, none⟩) tv := by
  go_enter Try.func60, Try.ntmps60
  go_wp2
  go_ret
  exact ⟨w.heap.size, rfl, by go_grown, Row.prs (t := 57) (Row.new _ _ _)⟩
set_option maxHeartbeats 1000000 in
theorem share_any (a b : Int) (w : World) : Calls Try.prog 39 #[.int .i64 a, .int .i64 b] w fun e w' => e = .returned (.agg #[.int .i64 a, .int .i64 b]) ∧ Below w.heap.size w w' := by
  go_enter Try.func39, Try.ntmps39
  go_wp2
  exact bodyPost_ret (v := .agg #[.int .i64 a, .int .i64 b]) (by simp [results, Try.results39, go_sem]) rfl ⟨rfl, by go_grown⟩
set_option maxRecDepth 100000 in
set_option maxHeartbeats 2000000 in
theorem paidx_any (A : Option Addr) (q cap : Nat) (l : List Tr) (A' : Option Addr) (m cap' : Nat) (L : List (Int × Int)) (w : World) (hl : l.length = q) (hc : Trs w A l) (hq : q ≤ 1000000) (hm : L.length = m) (hc' : Prs w A' L) (hm2 : m ≤ 1000000) (h : pdO tv uv3 l 20 = (L, 0)) :
    Calls Try.prog 61 #[.slice A q cap, .slice A' m cap'] w fun e w' => e = .returned (.bool true) ∧ Below w.heap.size w w' := by
  have H := Lib.hid h
  have HL := Lib.hid hl
  have HM := Lib.hid hm
  clear h hl hm
  go_enter Try.func61, Try.ntmps61
  go_wp2_with (fail)
  go_must (refine (three_any _).mono ?_)
  rintro e w1 ⟨g1, rfl, hb1, hp1⟩
  have hba : Below w1.heap.size w1 (w1.alloc (.cells #[.int .i64 10, .int .i64 0, .int .i64 5] 3)) := Gen.b_alloc (Below.refl _ _)
  have hB := Gen.over hba hb1
  have hI : Ints (w1.alloc (.cells #[.int .i64 10, .int .i64 0, .int .i64 5] 3)) (some ⟨w1.heap.size, 0, none⟩) uv3 := (Row.new w1 3 (ics uv3)).ints
  have HP1 := Lib.hid (hp1.keep hba)
  have HT := Lib.hid (hc.keep hB)
  have HI := Lib.hid hI
  clear hp1 hI hba
  go_wp2_with (fail)
  go_must (refine (paid_any _ 3 _ tv _ 3 _ uv3 _ _ _ l 20 L 0 _ rfl HP1.out (by omega) rfl HI.out (by omega) HL.out HT.out hq H.out).mono ?_)
  rintro e w2 ⟨A2, c2, rfl, hb2, hp2⟩
  have hB2 := Gen.over hb2 hB
  have HP2 := Lib.hid hp2
  clear hp2 hb2
  go_wp2_with (fail)
  go_must (refine (same_is (xs := L) (ys := L) _ rfl HP2.out (by have := HM.out; omega) HM.out (hc'.keep hB2) hm2 (decide_eq_true rfl)).mono ?_)
  rintro e w3 ⟨rfl, hb3⟩
  have hB3 := Gen.over hb3 hB2
  go_wp2
  go_ret
  exact ⟨rfl, hB3⟩
theorem vt_x : vtO tv uv3 4 = ([(0, 10)], 0) := by decide +kernel
theorem pd_x0 : pdO tv uv3 [] 20 = ([(0, 10), (2, 5)], 0) := by decide +kernel
theorem pd_x1 : pdO tv uv3 l1 20 = ([(0, 6), (1, 4), (2, 5)], 0) := by decide +kernel
theorem pd_x2 : pdO tv uv3 l2 20 = ([(0, 13), (2, 2)], 0) := by decide +kernel
theorem pd_x3 : pdO tv uv3 l3 20 = ([(0, 12), (1, -2), (2, 5)], 0) := by decide +kernel
theorem th_x0 : thO tv [(0, 10)] 0 = 10 := by decide +kernel
theorem th_x1 : thO tv [(0, 10)] 1 = 0 := by decide +kernel
theorem sml_x : Sml [(0, 10)] := ⟨by decide, by intro p hp; rw [List.mem_singleton.1 hp]; decide⟩
set_option maxRecDepth 100000 in
set_option maxHeartbeats 8000000 in
theorem small33_any (w : World) : Calls Try.prog 27 #[] w fun e w' => e = .returned (.bool true) ∧ Below w.heap.size w w' := by
  have a0 : Below w.heap.size w (((w.alloc (.cells #[.int .i64 0, .int .i64 0, .int .i64 1, .int .i64 4, .int .i64 0, .int .i64 18, .int .i64 (-1), .int .i64 0] 26)).alloc (.cells #[.int .i64 1, .int .i64 0, .int .i64 2, .int .i64 3, .int .i64 0, .int .i64 15, .int .i64 15, .int .i64 25] 26)).alloc (.cells #[.int .i64 0, .int .i64 1, .int .i64 0, .int .i64 2, .int .i64 0, .int .i64 19, .int .i64 21, .int .i64 0] 26)) := Gen.b_alloc (Gen.b_alloc (Gen.b_alloc (Below.refl _ _)))
  have t1 : Trs (((w.alloc (.cells #[.int .i64 0, .int .i64 0, .int .i64 1, .int .i64 4, .int .i64 0, .int .i64 18, .int .i64 (-1), .int .i64 0] 26)).alloc (.cells #[.int .i64 1, .int .i64 0, .int .i64 2, .int .i64 3, .int .i64 0, .int .i64 15, .int .i64 15, .int .i64 25] 26)).alloc (.cells #[.int .i64 0, .int .i64 1, .int .i64 0, .int .i64 2, .int .i64 0, .int .i64 19, .int .i64 21, .int .i64 0] 26)) (some ⟨w.heap.size, 0, none⟩) l1 := Row.trs (l := l1) (t := 26) (((Row.new w 26 #[.int .i64 0, .int .i64 0, .int .i64 1, .int .i64 4, .int .i64 0, .int .i64 18, .int .i64 (-1), .int .i64 0]).alloc _).alloc _)
  have t2 : Trs (((w.alloc (.cells #[.int .i64 0, .int .i64 0, .int .i64 1, .int .i64 4, .int .i64 0, .int .i64 18, .int .i64 (-1), .int .i64 0] 26)).alloc (.cells #[.int .i64 1, .int .i64 0, .int .i64 2, .int .i64 3, .int .i64 0, .int .i64 15, .int .i64 15, .int .i64 25] 26)).alloc (.cells #[.int .i64 0, .int .i64 1, .int .i64 0, .int .i64 2, .int .i64 0, .int .i64 19, .int .i64 21, .int .i64 0] 26)) (some ⟨w.heap.size + 1, 0, none⟩) l2 := Row.trs (l := l2) (t := 26) ((Gen.rowAt (w.alloc (.cells #[.int .i64 0, .int .i64 0, .int .i64 1, .int .i64 4, .int .i64 0, .int .i64 18, .int .i64 (-1), .int .i64 0] 26)) 26 #[.int .i64 1, .int .i64 0, .int .i64 2, .int .i64 3, .int .i64 0, .int .i64 15, .int .i64 15, .int .i64 25] (by simp)).alloc _)
  have t3 : Trs (((w.alloc (.cells #[.int .i64 0, .int .i64 0, .int .i64 1, .int .i64 4, .int .i64 0, .int .i64 18, .int .i64 (-1), .int .i64 0] 26)).alloc (.cells #[.int .i64 1, .int .i64 0, .int .i64 2, .int .i64 3, .int .i64 0, .int .i64 15, .int .i64 15, .int .i64 25] 26)).alloc (.cells #[.int .i64 0, .int .i64 1, .int .i64 0, .int .i64 2, .int .i64 0, .int .i64 19, .int .i64 21, .int .i64 0] 26)) (some ⟨w.heap.size + 1 + 1, 0, none⟩) l3 := Row.trs (l := l3) (t := 26) (Gen.rowAt ((w.alloc (.cells #[.int .i64 0, .int .i64 0, .int .i64 1, .int .i64 4, .int .i64 0, .int .i64 18, .int .i64 (-1), .int .i64 0] 26)).alloc (.cells #[.int .i64 1, .int .i64 0, .int .i64 2, .int .i64 3, .int .i64 0, .int .i64 15, .int .i64 15, .int .i64 25] 26)) 26 #[.int .i64 0, .int .i64 1, .int .i64 0, .int .i64 2, .int .i64 0, .int .i64 19, .int .i64 21, .int .i64 0] (by simp))
  have A0 := Lib.hid a0
  have T1 := Lib.hid t1
  have T2 := Lib.hid t2
  have T3 := Lib.hid t3
  clear a0 t1 t2 t3
  go_enter Try.func27, Try.ntmps27
  go_wp2_with (fail)
  go_must (refine (three_any _).mono ?_)
  rintro e w1 ⟨g1, rfl, hb, hp⟩
  have hT1 := Lib.hid (T1.out.keep hb)
  have hT2 := Lib.hid (T2.out.keep hb)
  have hT3 := Lib.hid (T3.out.keep hb)
  have hB0 := Lib.hid (Gen.over hb A0.out)
  clear hb A0 T1 T2 T3
  have hba : Below w1.heap.size w1 (w1.alloc (.cells #[.int .i64 10, .int .i64 0, .int .i64 5] 3)) := Gen.b_alloc (Below.refl _ _)
  have hI : Ints (w1.alloc (.cells #[.int .i64 10, .int .i64 0, .int .i64 5] 3)) (some ⟨w1.heap.size, 0, none⟩) uv3 := (Row.new w1 3 (ics uv3)).ints
  have HP := Lib.hid (hp.keep hba)
  have HI := Lib.hid hI
  have HBA := Lib.hid hba
  clear hp hI hba
  go_wp2_with (fail)
  go_must (refine (votes_any _ 3 _ tv _ 3 _ uv3 4 _ _ _ rfl HP.out (by omega) rfl HI.out (by omega) vt_x).mono ?_)
  rintro e w2 ⟨AV, cV, rfl, hb, hv⟩
  have HV := Lib.hid hv
  have hB := Gen.over hb HBA.out
  have hV2 : Below w2.heap.size w2 w2 := Below.refl _ _
  clear hb hv HP HI HBA
  go_wp2_with (fail)
  go_must (refine (share_any _ _ _).mono ?_)
  rintro e w3 ⟨rfl, hb⟩
  have hB := Gen.over hb hB
  have hV2 := Gen.over hb hV2
  clear hb
  go_wp2_with (fail)
  go_must (refine (share_any _ _ _).mono ?_)
  rintro e w4 ⟨rfl, hb⟩
  have hB := Gen.over hb hB
  have hV2 := Gen.over hb hV2
  clear hb
  have HS : Hid (Prs (w4.alloc (.cells #[.int .i64 0, .int .i64 10, .int .i64 2, .int .i64 5] 54)) (some ⟨w4.heap.size, 0, none⟩) [(0, 10), (2, 5)]) := Lib.hid (Row.prs (t := 54) (l := [(0, 10), (2, 5)]) (Row.new _ _ _))
  have HT := Lib.hid (Trs.nil (w := w4.alloc (.cells #[.int .i64 0, .int .i64 10, .int .i64 2, .int .i64 5] 54)) (A := none))
  go_wp2_with (fail)
  go_must (refine (paidx_any _ 0 _ [] _ 2 _ [(0, 10), (2, 5)] _ rfl HT.out (by omega) rfl HS.out (by omega) pd_x0).mono ?_)
  rintro e w5 ⟨rfl, hb⟩
  have hB := Gen.over hb (Gen.b_alloc hB)
  have hV2 := Gen.over hb (Gen.b_alloc hV2)
  clear HS HT
  clear hb
  go_wp2_with (fail)
  go_must (refine (share_any _ _ _).mono ?_)
  rintro e w6 ⟨rfl, hb⟩
  have hB := Gen.over hb hB
  have hV2 := Gen.over hb hV2
  clear hb
  go_wp2_with (fail)
  go_must (refine (share_any _ _ _).mono ?_)
  rintro e w7 ⟨rfl, hb⟩
  have hB := Gen.over hb hB
  have hV2 := Gen.over hb hV2
  clear hb
  go_wp2_with (fail)
  go_must (refine (share_any _ _ _).mono ?_)
  rintro e w8 ⟨rfl, hb⟩
  have hB := Gen.over hb hB
  have hV2 := Gen.over hb hV2
  clear hb
  have HS : Hid (Prs (w8.alloc (.cells #[.int .i64 0, .int .i64 6, .int .i64 1, .int .i64 4, .int .i64 2, .int .i64 5] 54)) (some ⟨w8.heap.size, 0, none⟩) [(0, 6), (1, 4), (2, 5)]) := Lib.hid (Row.prs (t := 54) (l := [(0, 6), (1, 4), (2, 5)]) (Row.new _ _ _))
  have HT := Lib.hid ((hT1.out.keep (Gen.b_alloc (x := .cells #[.int .i64 0, .int .i64 6, .int .i64 1, .int .i64 4, .int .i64 2, .int .i64 5] 54) hB)))
  go_wp2_with (fail)
  go_must (refine (paidx_any _ 1 _ l1 _ 3 _ [(0, 6), (1, 4), (2, 5)] _ rfl HT.out (by omega) rfl HS.out (by omega) pd_x1).mono ?_)
  rintro e w9 ⟨rfl, hb⟩
  have hB := Gen.over hb (Gen.b_alloc hB)
  have hV2 := Gen.over hb (Gen.b_alloc hV2)
  clear HS HT
  clear hb
  go_wp2_with (fail)
  go_must (refine (share_any _ _ _).mono ?_)
  rintro e w10 ⟨rfl, hb⟩
  have hB := Gen.over hb hB
  have hV2 := Gen.over hb hV2
  clear hb
  go_wp2_with (fail)
  go_must (refine (share_any _ _ _).mono ?_)
  rintro e w11 ⟨rfl, hb⟩
  have hB := Gen.over hb hB
  have hV2 := Gen.over hb hV2
  clear hb
  have HS : Hid (Prs (w11.alloc (.cells #[.int .i64 0, .int .i64 13, .int .i64 2, .int .i64 2] 54)) (some ⟨w11.heap.size, 0, none⟩) [(0, 13), (2, 2)]) := Lib.hid (Row.prs (t := 54) (l := [(0, 13), (2, 2)]) (Row.new _ _ _))
  have HT := Lib.hid ((hT2.out.keep (Gen.b_alloc (x := .cells #[.int .i64 0, .int .i64 13, .int .i64 2, .int .i64 2] 54) hB)))
  go_wp2_with (fail)
  go_must (refine (paidx_any _ 1 _ l2 _ 2 _ [(0, 13), (2, 2)] _ rfl HT.out (by omega) rfl HS.out (by omega) pd_x2).mono ?_)
  rintro e w12 ⟨rfl, hb⟩
  have hB := Gen.over hb (Gen.b_alloc hB)
  have hV2 := Gen.over hb (Gen.b_alloc hV2)
  clear HS HT
  clear hb
  go_wp2_with (fail)
  go_must (refine (share_any _ _ _).mono ?_)
  rintro e w13 ⟨rfl, hb⟩
  have hB := Gen.over hb hB
  have hV2 := Gen.over hb hV2
  clear hb
  go_wp2_with (fail)
  go_must (refine (share_any _ _ _).mono ?_)
  rintro e w14 ⟨rfl, hb⟩
  have hB := Gen.over hb hB
  have hV2 := Gen.over hb hV2
  clear hb
  go_wp2_with (fail)
  go_must (refine (share_any _ _ _).mono ?_)
  rintro e w15 ⟨rfl, hb⟩
  have hB := Gen.over hb hB
  have hV2 := Gen.over hb hV2
  clear hb
  have HS : Hid (Prs (w15.alloc (.cells #[.int .i64 0, .int .i64 12, .int .i64 1, .int .i64 (-2), .int .i64 2, .int .i64 5] 54)) (some ⟨w15.heap.size, 0, none⟩) [(0, 12), (1, -2), (2, 5)]) := Lib.hid (Row.prs (t := 54) (l := [(0, 12), (1, -2), (2, 5)]) (Row.new _ _ _))
  have HT := Lib.hid ((hT3.out.keep (Gen.b_alloc (x := .cells #[.int .i64 0, .int .i64 12, .int .i64 1, .int .i64 (-2), .int .i64 2, .int .i64 5] 54) hB)))
  go_wp2_with (fail)
  go_must (refine (paidx_any _ 1 _ l3 _ 3 _ [(0, 12), (1, -2), (2, 5)] _ rfl HT.out (by omega) rfl HS.out (by omega) pd_x3).mono ?_)
  rintro e w16 ⟨rfl, hb⟩
  have hB := Gen.over hb (Gen.b_alloc hB)
  have hV2 := Gen.over hb (Gen.b_alloc hV2)
  clear HS HT
  clear hb
  go_wp2_with (fail)
  go_must (refine (share_any _ _ _).mono ?_)
  rintro e w17 ⟨rfl, hb⟩
  have hB := Gen.over hb hB
  have hV2 := Gen.over hb hV2
  clear hb
  have HS : Hid (Prs (w17.alloc (.cells #[.int .i64 0, .int .i64 10] 54)) (some ⟨w17.heap.size, 0, none⟩) [(0, 10)]) := Lib.hid (Row.prs (t := 54) (l := [(0, 10)]) (Row.new _ _ _))
  have HVV := Lib.hid (HV.out.keep (Gen.b_alloc (x := .cells #[.int .i64 0, .int .i64 10] 54) hV2))
  go_wp2_with (fail)
  go_must (refine (same_is (xs := [(0, 10)]) (ys := [(0, 10)]) _ rfl HVV.out (by simp) rfl HS.out (by simp) (decide_eq_true rfl)).mono ?_)
  rintro e x1 ⟨rfl, hb⟩
  have hB := Gen.over hb (Gen.b_alloc hB)
  have hV2 := Gen.over hb (Gen.b_alloc hV2)
  clear hb HS HVV
  go_wp2_with (fail)
  go_must (refine (three_any _).mono ?_)
  rintro e x2 ⟨g2, rfl, hb, hp⟩
  have hB := Gen.over hb hB
  have hV2 := Gen.over hb hV2
  have HP := Lib.hid hp
  have HVV := Lib.hid (HV.out.keep hV2)
  clear hb hp
  go_wp2_with (fail)
  go_must (refine (thro_any _ 3 _ tv _ 1 _ [(0, 10)] 0 10 _ rfl HP.out (by omega) rfl HVV.out sml_x th_x0).mono ?_)
  rintro e x3 ⟨rfl, hb⟩
  have hB := Gen.over hb hB
  have hV2 := Gen.over hb hV2
  clear hb HP HVV
  go_wp2_with (fail)
  go_must (refine (three_any _).mono ?_)
  rintro e x4 ⟨g3, rfl, hb, hp⟩
  have hB := Gen.over hb hB
  have hV2 := Gen.over hb hV2
  have HP := Lib.hid hp
  have HVV := Lib.hid (HV.out.keep hV2)
  clear hb hp
  go_wp2_with (fail)
  go_must (refine (thro_any _ 3 _ tv _ 1 _ [(0, 10)] 1 0 _ rfl HP.out (by omega) rfl HVV.out sml_x th_x1).mono ?_)
  rintro e x5 ⟨rfl, hb⟩
  have hB := Gen.over hb hB
  have hE := Gen.over hB hB0.out
  clear hb HP HVV
  go_wp2
  go_ret
  exact ⟨rfl, hE⟩
end Go.Proofs.Ytpekedhcnijgcaa.Book
