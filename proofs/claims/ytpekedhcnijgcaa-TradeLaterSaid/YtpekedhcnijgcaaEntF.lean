/- The reference of trade and entitle: the contracts of Right, For. -/
import Derived.Test.YtpekedhcnijgcaaTrdR
import Derived.Test.YtpekedhcnijgcaaEntE
namespace Go.Proofs.Ytpekedhcnijgcaa.Book
open Go.ChangeShapes Go.WideShapes Go.ChangeAt Go.RowKit Go.Proofs.Ytpekedhcnijgcaa.Cell
set_option linter.unusedVariables false
set_option linter.unusedSimpArgs false

theorem rtT_off {ss : List (Int × Int)} {l : List Tr} {k : Nat} {x : Tr} (hx : l[k]? = some x) (h : okT ss x = false) : rtT ss l = false := by
  unfold rtT
  rw [show l.all (okT ss) = false from by rw [List.all_eq_false]; exact ⟨x, mem_of_at hx, by rw [h]; simp⟩, Bool.and_false]
theorem rtT_on {ss : List (Int × Int)} {l : List Tr} (hr : rg ss = true) (hl : l.length ≤ 10000) (h : ∀ x ∈ l, okT ss x = true) : rtT ss l = true := by
  unfold rtT
  rw [hr, decide_eq_true hl, Bool.true_and, Bool.true_and, List.all_eq_true]
  exact h
set_option maxRecDepth 100000 in
set_option maxHeartbeats 4000000 in
theorem rtRight_any (A : Option Addr) (n cap : Nat) (ss : List (Int × Int)) (A' : Option Addr) (m cap' : Nat) (l : List Tr) (w : World) (hn : ss.length = n) (hc : Prs w A ss) (hbig : n ≤ 1000000) (hm : l.length = m) (hc' : Trs w A' l) (hbig' : m ≤ 9223372036854775807) :
    Calls Try.prog 21 #[.slice A n cap, .slice A' m cap'] w fun e w' => e = .returned (.bool (rtT ss l)) ∧ Below w.heap.size w w' := by
  have HN := Lib.hid hn
  have HM := Lib.hid hm
  clear hn hm
  cases hr : rg ss
  · have HF := Lib.hid (show rtT ss l = false by unfold rtT; rw [hr]; rfl)
    have HR := Lib.hid hr
    clear hr
    go_enter Try.func21, Try.ntmps21
    go_wp2_with (fail)
    go_must (refine (rright_is _ HN.out hc hbig HR.out).mono ?_)
    rintro e w1 ⟨rfl, hb⟩
    go_wp2
    go_ret
    exact ⟨ret_bool HF.out.symm, hb⟩
  · have HR := Lib.hid hr
    clear hr
    by_cases h1 : m ≤ 10000
    · go_enter Try.func21, Try.ntmps21
      go_wp2_with (fail)
      go_must (refine (rright_is _ HN.out hc hbig HR.out).mono ?_)
      rintro e w1 ⟨rfl, hb⟩
      replace hc := hc.keep hb
      replace hc' := hc'.keep hb
      go_wp2_with (fail)
      go_loopw [5] (fun iv wr => ∃ k : Nat, k ≤ m ∧ iv = .int .i64 k ∧ Hid (∀ y ∈ l.take k, okT ss y = true) ∧ Below w1.heap.size w1 wr) (fun iv _ => m - (intOf iv).toNat)
      case atStart => exact ⟨0, Nat.zero_le _, rfl, Lib.hid (by simp), Below.refl _ _⟩
      case round =>
        obtain ⟨k, hk, rfl, HA, hW⟩ := hrel
        have hcr := hc.keep hW
        have hBW := Gen.over hW hb
        by_cases hlt : k < m
        · obtain ⟨b, off, rfl, hcell⟩ := (hc'.keep hW) (by rw [HM.out]; omega)
          obtain ⟨x, hx⟩ := at_ l k (by rw [HM.out]; exact hlt)
          obtain ⟨c0, c1, c2, c3, c4, c5, c6, c7⟩ := hcell k x hx
          have HX := Lib.hid hx
          have HO := Lib.hid (okO_T HR.out x)
          clear hcell hx
          obtain ⟨z, hz⟩ : ∃ z, okT ss x = z := ⟨_, rfl⟩
          have HZ := Lib.hid hz
          have HL := Lib.hid (rone_is (x := x) (cap := cap) (z := z) wr HN.out hcr hbig (by rw [HO.out]; exact hz))
          clear hz hcr
          obtain ⟨xk, xf, xt, xu, xm, xd, xo, xb⟩ := x
          dsimp only at c0 c1 c2 c3 c4 c5 c6 c7
          have HL2 : Hid (Calls Try.prog 45 #[.slice A n cap, .agg #[.int .i64 xk, .int .i64 xf, .int .i64 xt, .int .i64 xu, .int .i64 xm, .int .i64 xd, .int .i64 xo, .int .i64 xb]] wr fun e w' => e = .returned (.bool z) ∧ Below wr.heap.size wr w') := Lib.hid HL.out
          clear HL
          go_wp2_with (fail)
          go_must (refine (HL2.out).mono ?_)
          rintro e w2 ⟨rfl, hb2⟩
          have hB2 := Gen.over hb2 hBW
          have hW2 := Gen.over hb2 hW
          clear hb2 hBW HL2
          cases z
          · have HF := Lib.hid (rtT_off HX.out HZ.out)
            go_wp2
            go_ret
            exact ⟨ret_bool HF.out.symm, hB2⟩
          · have HF : Hid (∀ y ∈ l.take (k + 1), okT ss y = true) := Lib.hid (fun y hy => by
              rw [take_snoc HX.out, List.mem_append] at hy
              rcases hy with hy | hy
              · exact HA.out y hy
              · rw [List.mem_singleton.1 hy]; exact HZ.out)
            go_wp2
            go_roundw
            case rel => first | exact ⟨k + 1, by omega, by go_num, HF, hW2⟩ | exact ⟨k + 1, by omega, by go_num, HF⟩
            case measure => simp [intOf]; omega
        · obtain rfl : k = m := by omega
          have HF := Lib.hid (rtT_on (l := l) HR.out (by rw [HM.out]; exact h1) (fun y hy => HA.out y (by rw [List.take_of_length_le (by rw [HM.out]; exact Nat.le_refl _)]; exact hy)))
          go_wp2
          go_ret
          exact ⟨ret_bool HF.out.symm, hBW⟩
    · have HF := Lib.hid (show rtT ss l = false by unfold rtT; rw [HM.out, decide_eq_false h1, Bool.and_false]; rfl)
      have h1' : 10000 < (m : Int) := by omega
      clear h1
      go_enter Try.func21, Try.ntmps21
      go_wp2_with (fail)
      go_must (refine (rright_is _ HN.out hc hbig HR.out).mono ?_)
      rintro e w1 ⟨rfl, hb⟩
      go_wp2
      go_ret
      exact ⟨ret_bool HF.out.symm, hb⟩
theorem rtRight_is {A : Option Addr} {n cap : Nat} {ss : List (Int × Int)} {A' : Option Addr} {m cap' : Nat} {l : List Tr} {b : Bool} (w : World) (hn : ss.length = n) (hc : Prs w A ss) (hbig : n ≤ 1000000) (hm : l.length = m) (hc' : Trs w A' l) (hbig' : m ≤ 9223372036854775807) (h : rtT ss l = b) :
    Calls Try.prog 21 #[.slice A n cap, .slice A' m cap'] w fun e w' => e = .returned (.bool b) ∧ Below w.heap.size w w' := by
  have hh := rtRight_any A n cap ss A' m cap' l w hn hc hbig hm hc' hbig'
  rw [h] at hh
  exact hh
/-- what a seat is paid for after k trades -/
def fr (day : Int) (us : List Int) (l : List Tr) (i : Nat) (k : Nat) : Int := (sums day us (l.take k)).getD i 0
theorem fr_step {ss : List (Int × Int)} {us : List Int} {l : List Tr} (h : Rt ss us l) (day : Int) {i k : Nat} {x : Tr} (hx : l[k]? = some x) : fr day us l i (k + 1) = fr day us l i k + dlt day x i := by
  obtain ⟨m1, m2, _, _, _⟩ := h.mem hx
  unfold fr
  rw [take_snoc hx, sums_snoc]
  have := stp_at (day := day) (us := sums day us (l.take k)) (x := x) (j := (i : Int)) (by rw [sums_length]; exact m1) (by rw [sums_length]; exact m2) (by omega)
  rw [Int.toNat_natCast] at this
  exact this
set_option maxRecDepth 100000 in
set_option maxHeartbeats 8000000 in
theorem rfor_any (A : Option Addr) (m cap : Nat) (ss : List (Int × Int)) (us : List Int) (A3 : Option Addr) (q cap3 : Nat) (l : List Tr) (day : Int) (i : Nat) (w : World) (hr : Rt ss us l) (hm : us.length = m) (hc : Ints w A us) (hi : i < m) (hbig : m ≤ 1000000)
    (hl : l.length = q) (hl' : Trs w A3 l) :
    Calls Try.prog 65 #[.slice A m cap, .slice A3 q cap3, .int .i64 day, .int .i64 i] w fun e w' => e = .returned (.int .i64 (fr day us l i q)) ∧ Below w.heap.size w w' := by
  have HM := Lib.hid hm
  have HL := Lib.hid hl
  have HR := Lib.hid hr
  have hq4 := (rtT_in hr.r).2.1
  rw [hl] at hq4
  obtain ⟨b, off, rfl, hcell⟩ := hc (by omega)
  obtain ⟨u, hu⟩ := at_ us i (by omega)
  have c0 := hcell i u hu
  have HU := Lib.hid (show fr day us l i 0 = u from by unfold fr; rw [List.take_zero]; unfold sums; rw [List.foldl_nil, List.getD_eq_getElem?_getD, hu]; rfl)
  have HBD := Lib.hid (fun k (hk : k ≤ q) => sums_in hr day k (by rw [hl]; exact hk) i (by rw [hm]; exact hi))
  clear hcell hu hm hl hr hc
  go_enter Try.func65, Try.ntmps65
  go_wp2
  go_loopw [9, 10] (fun nv iv wr => ∃ k : Nat, k ≤ q ∧ iv = .int .i64 k ∧ nv = .int .i64 (fr day us l i k) ∧ Below w.heap.size w wr) (fun _ iv _ => q - (intOf iv).toNat)
  case atStart => exact ⟨0, Nat.zero_le _, rfl, by rw [HU.out], by first | exact Below.refl _ _ | go_grown⟩
  case round =>
    obtain ⟨k, hk, rfl, rfl, hW⟩ := hrel
    by_cases hlt : k < q
    · obtain ⟨b2, off2, rfl, hcell⟩ := (hl'.keep hW) (by rw [HL.out]; omega)
      obtain ⟨x, hx⟩ := at_ l k (by rw [HL.out]; exact hlt)
      obtain ⟨e0, e1, e2, e3, e4, e5, e6, e7⟩ := hcell k x hx
      have HST := Lib.hid (fr_step (i := i) HR.out day hx)
      obtain ⟨_, _, m3, _, _⟩ := HR.out.mem hx
      obtain ⟨u0, u1, une⟩ := okD_u m3
      have hbd := HBD.out k hk
      obtain ⟨T, hT⟩ : ∃ T, fr day us l i k = T := ⟨_, rfl⟩
      have HT := Lib.hid hT
      unfold fr at hT
      rw [hT] at hbd
      rw [HT.out]
      obtain ⟨b0, b1⟩ := hbd
      clear hcell hx hT m3
      obtain ⟨xk, xf, xt, xu, xm, xd, xo, xb⟩ := x
      dsimp only at e0 e1 e2 e3 e4 e5 e6 e7 u0 u1 une
      have kb : (k : Int) ≤ 10000 := by omega
      obtain ⟨g8, hg8⟩ : ∃ g8, wr.heap.size = g8 := ⟨_, rfl⟩
      have hBX : Row (wr.alloc (.cells #[.int .i64 xk, .int .i64 xf, .int .i64 xt, .int .i64 xu, .int .i64 xm, .int .i64 xd, .int .i64 xo, .int .i64 xb] 26)) g8 26 #[.int .i64 xk, .int .i64 xf, .int .i64 xt, .int .i64 xu, .int .i64 xm, .int .i64 xd, .int .i64 xo, .int .i64 xb] := Gen.rowAt _ _ _ hg8.symm
      have hBB : Below w.heap.size w (wr.alloc (.cells #[.int .i64 xk, .int .i64 xf, .int .i64 xt, .int .i64 xu, .int .i64 xm, .int .i64 xd, .int .i64 xo, .int .i64 xb] 26)) := Gen.b_alloc hW
      have HG8 := Lib.hid hg8
      clear hg8 hW
      have d0 := hBX.cell 0
      have d1 := hBX.cell 1
      have d2 := hBX.cell 2
      have d3 := hBX.cell 3
      have d4 := hBX.cell 4
      have d5 := hBX.cell 5
      have d6 := hBX.cell 6
      have d7 := hBX.cell 7
      have hne : xf ≠ xt := une
      clear une
      cases hla : late day ⟨xk, xf, xt, xu, xm, xd, xo, xb⟩
      · cases hru : runs day ⟨xk, xf, xt, xu, xm, xd, xo, xb⟩
        · skip
          have HLT := Lib.hid hla
          have HRU := Lib.hid hru
          have HD := Lib.hid (show fr day us l i (k + 1) = T from by
            rw [HST.out, HT.out]
            unfold dlt
            simp only [hla, hru, Bool.false_eq_true, if_false, if_true, reduceIte]
            (repeat' split) <;> omega)
          clear hla hru HST HT
          go_wp2_with (fail)
          rw [HG8.out]
          go_must (refine (rlate_is _ HLT.out).mono ?_)
          rintro e wx ⟨rfl, hbx⟩
          replace hBB := Gen.over hbx hBB
          replace hBX := hBX.keep hbx
          clear d0 d1 d2 d3 d4 d5 d6 d7 hbx
          have d0 := hBX.cell 0
          have d1 := hBX.cell 1
          have d2 := hBX.cell 2
          have d3 := hBX.cell 3
          have d4 := hBX.cell 4
          have d5 := hBX.cell 5
          have d6 := hBX.cell 6
          have d7 := hBX.cell 7
          go_wp2_with (fail)
          go_must (refine (rruns_is _ HRU.out).mono ?_)
          rintro e wx ⟨rfl, hbx⟩
          replace hBB := Gen.over hbx hBB
          replace hBX := hBX.keep hbx
          clear d0 d1 d2 d3 d4 d5 d6 d7 hbx
          have d0 := hBX.cell 0
          have d1 := hBX.cell 1
          have d2 := hBX.cell 2
          have d3 := hBX.cell 3
          have d4 := hBX.cell 4
          have d5 := hBX.cell 5
          have d6 := hBX.cell 6
          have d7 := hBX.cell 7
          go_wp2_with (fail)
          go_must (refine (rlate_is _ HLT.out).mono ?_)
          rintro e wx ⟨rfl, hbx⟩
          replace hBB := Gen.over hbx hBB
          replace hBX := hBX.keep hbx
          clear d0 d1 d2 d3 d4 d5 d6 d7 hbx
          have d0 := hBX.cell 0
          have d1 := hBX.cell 1
          have d2 := hBX.cell 2
          have d3 := hBX.cell 3
          have d4 := hBX.cell 4
          have d5 := hBX.cell 5
          have d6 := hBX.cell 6
          have d7 := hBX.cell 7
          go_wp2_with (fail)
          go_must (refine (rruns_is _ HRU.out).mono ?_)
          rintro e wx ⟨rfl, hbx⟩
          replace hBB := Gen.over hbx hBB
          replace hBX := hBX.keep hbx
          clear d0 d1 d2 d3 d4 d5 d6 d7 hbx
          have d0 := hBX.cell 0
          have d1 := hBX.cell 1
          have d2 := hBX.cell 2
          have d3 := hBX.cell 3
          have d4 := hBX.cell 4
          have d5 := hBX.cell 5
          have d6 := hBX.cell 6
          have d7 := hBX.cell 7
          go_wp2
          go_roundw
          case rel => first | exact ⟨k + 1, by omega, by go_num, by rw [HD.out], hBB⟩ | exact ⟨k + 1, by omega, by go_num, by rw [HD.out]⟩
          case measure => simp [intOf]; omega
        · by_cases hf : xf = (i : Int)
          · have ht : ¬ xt = (i : Int) := by omega
            have HLT := Lib.hid hla
            have HRU := Lib.hid hru
            have HD := Lib.hid (show fr day us l i (k + 1) = T + xu from by
              rw [HST.out, HT.out]
              unfold dlt
              simp only [hla, hru, Bool.false_eq_true, if_false, if_true, reduceIte]
              (repeat' split) <;> omega)
            clear hla hru HST HT
            subst hf
            have z2 : (xt == (i : Int)) = false := by rw [beq_eq_false_iff_ne]; exact ht
            go_wp2_with (fail)
            rw [HG8.out]
            go_must (refine (rlate_is _ HLT.out).mono ?_)
            rintro e wx ⟨rfl, hbx⟩
            replace hBB := Gen.over hbx hBB
            replace hBX := hBX.keep hbx
            clear d0 d1 d2 d3 d4 d5 d6 d7 hbx
            have d0 := hBX.cell 0
            have d1 := hBX.cell 1
            have d2 := hBX.cell 2
            have d3 := hBX.cell 3
            have d4 := hBX.cell 4
            have d5 := hBX.cell 5
            have d6 := hBX.cell 6
            have d7 := hBX.cell 7
            go_wp2_with (fail)
            go_must (refine (rruns_is _ HRU.out).mono ?_)
            rintro e wx ⟨rfl, hbx⟩
            replace hBB := Gen.over hbx hBB
            replace hBX := hBX.keep hbx
            clear d0 d1 d2 d3 d4 d5 d6 d7 hbx
            have d0 := hBX.cell 0
            have d1 := hBX.cell 1
            have d2 := hBX.cell 2
            have d3 := hBX.cell 3
            have d4 := hBX.cell 4
            have d5 := hBX.cell 5
            have d6 := hBX.cell 6
            have d7 := hBX.cell 7
            go_wp2_with (fail)
            go_must (refine (rlate_is _ HLT.out).mono ?_)
            rintro e wx ⟨rfl, hbx⟩
            replace hBB := Gen.over hbx hBB
            replace hBX := hBX.keep hbx
            clear d0 d1 d2 d3 d4 d5 d6 d7 hbx
            have d0 := hBX.cell 0
            have d1 := hBX.cell 1
            have d2 := hBX.cell 2
            have d3 := hBX.cell 3
            have d4 := hBX.cell 4
            have d5 := hBX.cell 5
            have d6 := hBX.cell 6
            have d7 := hBX.cell 7
            go_wp2_with (fail)
            go_must (refine (rruns_is _ HRU.out).mono ?_)
            rintro e wx ⟨rfl, hbx⟩
            replace hBB := Gen.over hbx hBB
            replace hBX := hBX.keep hbx
            clear d0 d1 d2 d3 d4 d5 d6 d7 hbx
            have d0 := hBX.cell 0
            have d1 := hBX.cell 1
            have d2 := hBX.cell 2
            have d3 := hBX.cell 3
            have d4 := hBX.cell 4
            have d5 := hBX.cell 5
            have d6 := hBX.cell 6
            have d7 := hBX.cell 7
            go_wp2
            go_roundw
            case rel => first | exact ⟨k + 1, by omega, by go_num, by rw [HD.out], hBB⟩ | exact ⟨k + 1, by omega, by go_num, by rw [HD.out]⟩
            case measure => simp [intOf]; omega
          by_cases ht : xt = (i : Int)
          · skip
            have HLT := Lib.hid hla
            have HRU := Lib.hid hru
            have HD := Lib.hid (show fr day us l i (k + 1) = T - xu from by
              rw [HST.out, HT.out]
              unfold dlt
              simp only [hla, hru, Bool.false_eq_true, if_false, if_true, reduceIte]
              (repeat' split) <;> omega)
            clear hla hru HST HT
            subst ht
            have z1 : (xf == (i : Int)) = false := by rw [beq_eq_false_iff_ne]; exact hf
            go_wp2_with (fail)
            rw [HG8.out]
            go_must (refine (rlate_is _ HLT.out).mono ?_)
            rintro e wx ⟨rfl, hbx⟩
            replace hBB := Gen.over hbx hBB
            replace hBX := hBX.keep hbx
            clear d0 d1 d2 d3 d4 d5 d6 d7 hbx
            have d0 := hBX.cell 0
            have d1 := hBX.cell 1
            have d2 := hBX.cell 2
            have d3 := hBX.cell 3
            have d4 := hBX.cell 4
            have d5 := hBX.cell 5
            have d6 := hBX.cell 6
            have d7 := hBX.cell 7
            go_wp2_with (fail)
            go_must (refine (rruns_is _ HRU.out).mono ?_)
            rintro e wx ⟨rfl, hbx⟩
            replace hBB := Gen.over hbx hBB
            replace hBX := hBX.keep hbx
            clear d0 d1 d2 d3 d4 d5 d6 d7 hbx
            have d0 := hBX.cell 0
            have d1 := hBX.cell 1
            have d2 := hBX.cell 2
            have d3 := hBX.cell 3
            have d4 := hBX.cell 4
            have d5 := hBX.cell 5
            have d6 := hBX.cell 6
            have d7 := hBX.cell 7
            go_wp2_with (fail)
            go_must (refine (rlate_is _ HLT.out).mono ?_)
            rintro e wx ⟨rfl, hbx⟩
            replace hBB := Gen.over hbx hBB
            replace hBX := hBX.keep hbx
            clear d0 d1 d2 d3 d4 d5 d6 d7 hbx
            have d0 := hBX.cell 0
            have d1 := hBX.cell 1
            have d2 := hBX.cell 2
            have d3 := hBX.cell 3
            have d4 := hBX.cell 4
            have d5 := hBX.cell 5
            have d6 := hBX.cell 6
            have d7 := hBX.cell 7
            go_wp2_with (fail)
            go_must (refine (rruns_is _ HRU.out).mono ?_)
            rintro e wx ⟨rfl, hbx⟩
            replace hBB := Gen.over hbx hBB
            replace hBX := hBX.keep hbx
            clear d0 d1 d2 d3 d4 d5 d6 d7 hbx
            have d0 := hBX.cell 0
            have d1 := hBX.cell 1
            have d2 := hBX.cell 2
            have d3 := hBX.cell 3
            have d4 := hBX.cell 4
            have d5 := hBX.cell 5
            have d6 := hBX.cell 6
            have d7 := hBX.cell 7
            go_wp2
            go_roundw
            case rel => first | exact ⟨k + 1, by omega, by go_num, by rw [HD.out], hBB⟩ | exact ⟨k + 1, by omega, by go_num, by rw [HD.out]⟩
            case measure => simp [intOf]; omega
          have HLT := Lib.hid hla
          have HRU := Lib.hid hru
          have HD := Lib.hid (show fr day us l i (k + 1) = T from by
            rw [HST.out, HT.out]
            unfold dlt
            simp only [hla, hru, Bool.false_eq_true, if_false, if_true, reduceIte]
            (repeat' split) <;> omega)
          clear hla hru HST HT
          have z1 : (xf == (i : Int)) = false := by rw [beq_eq_false_iff_ne]; exact hf
          have z2 : (xt == (i : Int)) = false := by rw [beq_eq_false_iff_ne]; exact ht
          go_wp2_with (fail)
          rw [HG8.out]
          go_must (refine (rlate_is _ HLT.out).mono ?_)
          rintro e wx ⟨rfl, hbx⟩
          replace hBB := Gen.over hbx hBB
          replace hBX := hBX.keep hbx
          clear d0 d1 d2 d3 d4 d5 d6 d7 hbx
          have d0 := hBX.cell 0
          have d1 := hBX.cell 1
          have d2 := hBX.cell 2
          have d3 := hBX.cell 3
          have d4 := hBX.cell 4
          have d5 := hBX.cell 5
          have d6 := hBX.cell 6
          have d7 := hBX.cell 7
          go_wp2_with (fail)
          go_must (refine (rruns_is _ HRU.out).mono ?_)
          rintro e wx ⟨rfl, hbx⟩
          replace hBB := Gen.over hbx hBB
          replace hBX := hBX.keep hbx
          clear d0 d1 d2 d3 d4 d5 d6 d7 hbx
          have d0 := hBX.cell 0
          have d1 := hBX.cell 1
          have d2 := hBX.cell 2
          have d3 := hBX.cell 3
          have d4 := hBX.cell 4
          have d5 := hBX.cell 5
          have d6 := hBX.cell 6
          have d7 := hBX.cell 7
          go_wp2_with (fail)
          go_must (refine (rlate_is _ HLT.out).mono ?_)
          rintro e wx ⟨rfl, hbx⟩
          replace hBB := Gen.over hbx hBB
          replace hBX := hBX.keep hbx
          clear d0 d1 d2 d3 d4 d5 d6 d7 hbx
          have d0 := hBX.cell 0
          have d1 := hBX.cell 1
          have d2 := hBX.cell 2
          have d3 := hBX.cell 3
          have d4 := hBX.cell 4
          have d5 := hBX.cell 5
          have d6 := hBX.cell 6
          have d7 := hBX.cell 7
          go_wp2_with (fail)
          go_must (refine (rruns_is _ HRU.out).mono ?_)
          rintro e wx ⟨rfl, hbx⟩
          replace hBB := Gen.over hbx hBB
          replace hBX := hBX.keep hbx
          clear d0 d1 d2 d3 d4 d5 d6 d7 hbx
          have d0 := hBX.cell 0
          have d1 := hBX.cell 1
          have d2 := hBX.cell 2
          have d3 := hBX.cell 3
          have d4 := hBX.cell 4
          have d5 := hBX.cell 5
          have d6 := hBX.cell 6
          have d7 := hBX.cell 7
          go_wp2
          go_roundw
          case rel => first | exact ⟨k + 1, by omega, by go_num, by rw [HD.out], hBB⟩ | exact ⟨k + 1, by omega, by go_num, by rw [HD.out]⟩
          case measure => simp [intOf]; omega
      · have hru := late_runs hla
        by_cases hf : xf = (i : Int)
        · have ht : ¬ xt = (i : Int) := by omega
          have HLT := Lib.hid hla
          have HRU := Lib.hid hru
          have HD := Lib.hid (show fr day us l i (k + 1) = T - xu from by
            rw [HST.out, HT.out]
            unfold dlt
            simp only [hla, hru, Bool.false_eq_true, if_false, if_true, reduceIte]
            (repeat' split) <;> omega)
          clear hla hru HST HT
          subst hf
          have z2 : (xt == (i : Int)) = false := by rw [beq_eq_false_iff_ne]; exact ht
          go_wp2_with (fail)
          rw [HG8.out]
          go_must (refine (rlate_is _ HLT.out).mono ?_)
          rintro e wx ⟨rfl, hbx⟩
          replace hBB := Gen.over hbx hBB
          replace hBX := hBX.keep hbx
          clear d0 d1 d2 d3 d4 d5 d6 d7 hbx
          have d0 := hBX.cell 0
          have d1 := hBX.cell 1
          have d2 := hBX.cell 2
          have d3 := hBX.cell 3
          have d4 := hBX.cell 4
          have d5 := hBX.cell 5
          have d6 := hBX.cell 6
          have d7 := hBX.cell 7
          go_wp2_with (fail)
          go_must (refine (rlate_is _ HLT.out).mono ?_)
          rintro e wx ⟨rfl, hbx⟩
          replace hBB := Gen.over hbx hBB
          replace hBX := hBX.keep hbx
          clear d0 d1 d2 d3 d4 d5 d6 d7 hbx
          have d0 := hBX.cell 0
          have d1 := hBX.cell 1
          have d2 := hBX.cell 2
          have d3 := hBX.cell 3
          have d4 := hBX.cell 4
          have d5 := hBX.cell 5
          have d6 := hBX.cell 6
          have d7 := hBX.cell 7
          go_wp2_with (fail)
          go_must (refine (rruns_is _ HRU.out).mono ?_)
          rintro e wx ⟨rfl, hbx⟩
          replace hBB := Gen.over hbx hBB
          replace hBX := hBX.keep hbx
          clear d0 d1 d2 d3 d4 d5 d6 d7 hbx
          have d0 := hBX.cell 0
          have d1 := hBX.cell 1
          have d2 := hBX.cell 2
          have d3 := hBX.cell 3
          have d4 := hBX.cell 4
          have d5 := hBX.cell 5
          have d6 := hBX.cell 6
          have d7 := hBX.cell 7
          go_wp2
          go_roundw
          case rel => first | exact ⟨k + 1, by omega, by go_num, by rw [HD.out], hBB⟩ | exact ⟨k + 1, by omega, by go_num, by rw [HD.out]⟩
          case measure => simp [intOf]; omega
        · by_cases ht : xt = (i : Int)
          · skip
            have HLT := Lib.hid hla
            have HRU := Lib.hid hru
            have HD := Lib.hid (show fr day us l i (k + 1) = T + xu from by
              rw [HST.out, HT.out]
              unfold dlt
              simp only [hla, hru, Bool.false_eq_true, if_false, if_true, reduceIte]
              (repeat' split) <;> omega)
            clear hla hru HST HT
            subst ht
            have z1 : (xf == (i : Int)) = false := by rw [beq_eq_false_iff_ne]; exact hf
            go_wp2_with (fail)
            rw [HG8.out]
            go_must (refine (rlate_is _ HLT.out).mono ?_)
            rintro e wx ⟨rfl, hbx⟩
            replace hBB := Gen.over hbx hBB
            replace hBX := hBX.keep hbx
            clear d0 d1 d2 d3 d4 d5 d6 d7 hbx
            have d0 := hBX.cell 0
            have d1 := hBX.cell 1
            have d2 := hBX.cell 2
            have d3 := hBX.cell 3
            have d4 := hBX.cell 4
            have d5 := hBX.cell 5
            have d6 := hBX.cell 6
            have d7 := hBX.cell 7
            go_wp2_with (fail)
            go_must (refine (rruns_is _ HRU.out).mono ?_)
            rintro e wx ⟨rfl, hbx⟩
            replace hBB := Gen.over hbx hBB
            replace hBX := hBX.keep hbx
            clear d0 d1 d2 d3 d4 d5 d6 d7 hbx
            have d0 := hBX.cell 0
            have d1 := hBX.cell 1
            have d2 := hBX.cell 2
            have d3 := hBX.cell 3
            have d4 := hBX.cell 4
            have d5 := hBX.cell 5
            have d6 := hBX.cell 6
            have d7 := hBX.cell 7
            go_wp2_with (fail)
            go_must (refine (rlate_is _ HLT.out).mono ?_)
            rintro e wx ⟨rfl, hbx⟩
            replace hBB := Gen.over hbx hBB
            replace hBX := hBX.keep hbx
            clear d0 d1 d2 d3 d4 d5 d6 d7 hbx
            have d0 := hBX.cell 0
            have d1 := hBX.cell 1
            have d2 := hBX.cell 2
            have d3 := hBX.cell 3
            have d4 := hBX.cell 4
            have d5 := hBX.cell 5
            have d6 := hBX.cell 6
            have d7 := hBX.cell 7
            go_wp2
            go_roundw
            case rel => first | exact ⟨k + 1, by omega, by go_num, by rw [HD.out], hBB⟩ | exact ⟨k + 1, by omega, by go_num, by rw [HD.out]⟩
            case measure => simp [intOf]; omega
          have HLT := Lib.hid hla
          have HRU := Lib.hid hru
          have HD := Lib.hid (show fr day us l i (k + 1) = T from by
            rw [HST.out, HT.out]
            unfold dlt
            simp only [hla, hru, Bool.false_eq_true, if_false, if_true, reduceIte]
            (repeat' split) <;> omega)
          clear hla hru HST HT
          have z1 : (xf == (i : Int)) = false := by rw [beq_eq_false_iff_ne]; exact hf
          have z2 : (xt == (i : Int)) = false := by rw [beq_eq_false_iff_ne]; exact ht
          go_wp2_with (fail)
          rw [HG8.out]
          go_must (refine (rlate_is _ HLT.out).mono ?_)
          rintro e wx ⟨rfl, hbx⟩
          replace hBB := Gen.over hbx hBB
          replace hBX := hBX.keep hbx
          clear d0 d1 d2 d3 d4 d5 d6 d7 hbx
          have d0 := hBX.cell 0
          have d1 := hBX.cell 1
          have d2 := hBX.cell 2
          have d3 := hBX.cell 3
          have d4 := hBX.cell 4
          have d5 := hBX.cell 5
          have d6 := hBX.cell 6
          have d7 := hBX.cell 7
          go_wp2_with (fail)
          go_must (refine (rruns_is _ HRU.out).mono ?_)
          rintro e wx ⟨rfl, hbx⟩
          replace hBB := Gen.over hbx hBB
          replace hBX := hBX.keep hbx
          clear d0 d1 d2 d3 d4 d5 d6 d7 hbx
          have d0 := hBX.cell 0
          have d1 := hBX.cell 1
          have d2 := hBX.cell 2
          have d3 := hBX.cell 3
          have d4 := hBX.cell 4
          have d5 := hBX.cell 5
          have d6 := hBX.cell 6
          have d7 := hBX.cell 7
          go_wp2_with (fail)
          go_must (refine (rlate_is _ HLT.out).mono ?_)
          rintro e wx ⟨rfl, hbx⟩
          replace hBB := Gen.over hbx hBB
          replace hBX := hBX.keep hbx
          clear d0 d1 d2 d3 d4 d5 d6 d7 hbx
          have d0 := hBX.cell 0
          have d1 := hBX.cell 1
          have d2 := hBX.cell 2
          have d3 := hBX.cell 3
          have d4 := hBX.cell 4
          have d5 := hBX.cell 5
          have d6 := hBX.cell 6
          have d7 := hBX.cell 7
          go_wp2_with (fail)
          go_must (refine (rruns_is _ HRU.out).mono ?_)
          rintro e wx ⟨rfl, hbx⟩
          replace hBB := Gen.over hbx hBB
          replace hBX := hBX.keep hbx
          clear d0 d1 d2 d3 d4 d5 d6 d7 hbx
          have d0 := hBX.cell 0
          have d1 := hBX.cell 1
          have d2 := hBX.cell 2
          have d3 := hBX.cell 3
          have d4 := hBX.cell 4
          have d5 := hBX.cell 5
          have d6 := hBX.cell 6
          have d7 := hBX.cell 7
          go_wp2
          go_roundw
          case rel => first | exact ⟨k + 1, by omega, by go_num, by rw [HD.out], hBB⟩ | exact ⟨k + 1, by omega, by go_num, by rw [HD.out]⟩
          case measure => simp [intOf]; omega
    · obtain rfl : k = q := by omega
      go_wp2
      go_ret
      exact ⟨rfl, hW⟩
end Go.Proofs.Ytpekedhcnijgcaa.Book
