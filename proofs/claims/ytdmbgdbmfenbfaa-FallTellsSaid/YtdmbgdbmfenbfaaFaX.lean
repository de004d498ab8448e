/- Fall: the reference's Right, tested, Passed. -/
import Derived.Test.YtdmbgdbmfenbfaaFaT
import Derived.BigQuiet
namespace Go.Proofs.Ytdmbgdbmfenbfaa.Fa
open Go.ChangeShapes Go.WideShapes Go.ChangeAt Go.RowKit Go.Proofs.Ytdmbgdbmfenbfaa.Cell
set_option linter.unusedVariables false
set_option linter.unusedSimpArgs false
theorem rgb_no2 {d : Dl} (h : ¬ Rgt d) : rgb d = false := by
  rw [Bool.eq_false_iff]
  exact fun c => h (rgb_iff.1 c)
section
variable (c r t e : Int) (tr : List Tr) (te : List Te) (st : List St) (A1 A2 A3 : Option Addr) (c1 c2 c3 q v z : Nat) (w : World)
set_option maxRecDepth 100000 in
set_option maxHeartbeats 16000000 in
theorem rright_lit (hq : tr.length = q) (hv : te.length = v) (hz : st.length = z) (h : Dm w ⟨c, r, t, e, tr, te, st⟩ ⟨A1, c1, A2, c2, A3, c3⟩) (bq : q ≤ 1000000) (bv : v ≤ 1000000) (bz : z ≤ 1000000) :
    Calls Try.prog 13 #[.agg #[.int .i64 c, .int .i64 r, .int .i64 t, .int .i64 e, .slice A1 q c1, .slice A2 v c2, .slice A3 z c3]] w fun e' w' => e' = .returned (.bool (rgb ⟨c, r, t, e, tr, te, st⟩)) ∧ Below w.heap.size w w' := by
  have hB : Below w.heap.size w (w.alloc (.cells #[.int .i64 c, .int .i64 r, .int .i64 t, .int .i64 e, .slice A1 q c1, .slice A2 v c2, .slice A3 z c3] 26)) := Gen.b_alloc (Below.refl _ _)
  have HM := Lib.hid (h.keep hB)
  have HR := Lib.hid (show Row (w.alloc (.cells #[.int .i64 c, .int .i64 r, .int .i64 t, .int .i64 e, .slice A1 q c1, .slice A2 v c2, .slice A3 z c3] 26)) w.heap.size 26 #[.int .i64 c, .int .i64 r, .int .i64 t, .int .i64 e, .slice A1 q c1, .slice A2 v c2, .slice A3 z c3] from Row.new _ _ _)
  have HB := Lib.hid hB
  have HQ := Lib.hid hq
  have HV := Lib.hid hv
  have HZ := Lib.hid hz
  obtain ⟨rg, hrg⟩ : ∃ b, rgb ⟨c, r, t, e, tr, te, st⟩ = b := ⟨_, rfl⟩
  rw [hrg]
  have HG := Lib.hid hrg
  have HN : Hid (¬ Rgt ⟨c, r, t, e, tr, te, st⟩ → rg = false) := Lib.hid (fun hh => by rw [← hrg]; exact rgb_no2 hh)
  have HY : Hid (Rgt ⟨c, r, t, e, tr, te, st⟩ → rg = true) := Lib.hid (fun hh => by rw [← hrg]; exact rgb_iff.2 hh)
  clear hB h hq hv hz hrg
  go_enter Try.func13, Try.ntmps13
  go_wp2_with (fail)
  go_must (refine (rmoney_any _ _).mono ?_)
  rintro e1 w1 ⟨rfl, rfl⟩
  by_cases hc : mon c
  case neg =>
    rw [decide_eq_false hc]
    obtain rfl : rg = false := HN.out (fun hh => hc hh.c)
    go_wp2
    go_ret
    exact ⟨rfl, HB.out⟩
  rw [decide_eq_true hc]
  have Hcc := Lib.hid hc
  clear hc
  go_wp2_with (fail)
  go_must (refine (rmoney_any _ _).mono ?_)
  rintro e1 w1 ⟨rfl, rfl⟩
  by_cases hr : mon r
  case neg =>
    rw [decide_eq_false hr]
    obtain rfl : rg = false := HN.out (fun hh => hr hh.r)
    go_wp2
    go_ret
    exact ⟨rfl, HB.out⟩
  rw [decide_eq_true hr]
  have Hrr := Lib.hid hr
  clear hr
  go_wp2_with (fail)
  go_must (refine (rmoney_any _ _).mono ?_)
  rintro e1 w1 ⟨rfl, rfl⟩
  by_cases ht : mon t
  case neg =>
    rw [decide_eq_false ht]
    obtain rfl : rg = false := HN.out (fun hh => ht hh.t)
    go_wp2
    go_ret
    exact ⟨rfl, HB.out⟩
  rw [decide_eq_true ht]
  have Htt := Lib.hid ht
  clear ht
  go_wp2_with (fail)
  go_must (refine (rmoney_any _ _).mono ?_)
  rintro e1 w1 ⟨rfl, rfl⟩
  by_cases he : mon e
  case neg =>
    rw [decide_eq_false he]
    obtain rfl : rg = false := HN.out (fun hh => he hh.e)
    go_wp2
    go_ret
    exact ⟨rfl, HB.out⟩
  rw [decide_eq_true he]
  have Hee := Lib.hid he
  clear he
  by_cases lq : q ≤ 40
  case neg =>
    have iq : (40 : Int) < (q : Int) := by omega
    obtain rfl : rg = false := HN.out (fun hh => lq (by have := hh.l1; dsimp only at this; rw [HQ.out] at this; exact this))
    go_wp2
    go_ret
    exact ⟨rfl, HB.out⟩
  have iq : ¬ ((40 : Int) < (q : Int)) := by omega
  by_cases lv : v ≤ 40
  case neg =>
    have iv : (40 : Int) < (v : Int) := by omega
    obtain rfl : rg = false := HN.out (fun hh => lv (by have := hh.l2; dsimp only at this; rw [HV.out] at this; exact this))
    go_wp2
    go_ret
    exact ⟨rfl, HB.out⟩
  have iv : ¬ ((40 : Int) < (v : Int)) := by omega
  by_cases lz : z ≤ 40
  case neg =>
    have iz : (40 : Int) < (z : Int) := by omega
    obtain rfl : rg = false := HN.out (fun hh => lz (by have := hh.l3; dsimp only at this; rw [HZ.out] at this; exact this))
    go_wp2
    go_ret
    exact ⟨rfl, HB.out⟩
  have iz : ¬ ((40 : Int) < (z : Int)) := by omega
  go_wp2_with (fail)
  clear iq iv iz
  obtain ⟨W1, hW1⟩ : ∃ W, W = (w.alloc (.cells #[.int .i64 c, .int .i64 r, .int .i64 t, .int .i64 e, .slice A1 q c1, .slice A2 v c2, .slice A3 z c3] 26)) := ⟨_, rfl⟩
  rw [← hW1] at HM HR HB
  rw [← hW1]
  clear hW1
  go_loopw [3] (fun iv wr => ∃ i : Nat, i ≤ q ∧ iv = .int .i64 i ∧ Hid (∀ x ∈ tr.take i, trOk x) ∧ Hid (Below W1.heap.size W1 wr)) (fun iv _ => q - (intOf iv).toNat)
  case atStart => exact ⟨0, Nat.zero_le _, rfl, Lib.hid (fun x hx => by simp at hx), Lib.hid (Below.refl _ _)⟩
  case round =>
    obtain ⟨i, hi, rfl, HP, HW⟩ := hrel
    have ii0 : (0 : Int) ≤ (i : Int) := by omega
    have k4 : wr.cell? ⟨w.heap.size, 4, none⟩ = some (.slice A1 q c1) := (HR.out.keep HW.out).cell 4
    have HB9 := Lib.hid (Gen.over HW.out HB.out)
    by_cases hlt : i < q
    case pos =>
      have hltI : (i : Int) < (q : Int) := by omega
      obtain ⟨⟨xb, xu⟩, hx⟩ := at_ tr i (by rw [HQ.out]; exact hlt)
      obtain ⟨b, off, rfl, hcell⟩ := (HM.out.keep HW.out).t1 (by dsimp only; rw [HQ.out]; omega)
      have m0 := hcell i _ hx 0 _ rfl
      have m1 := hcell i _ hx 1 _ rfl
      rw [Nat.add_zero] at m0
      dsimp only at m0 m1
      have HBAD : Hid (¬ trOk (⟨xb, xu⟩ : Tr) → rg = false) := Lib.hid (fun hh => HN.out (fun hr => hh (by have := hr.tr _ (mem_of_at hx); (try dsimp only at this); exact this)))
      have HGO : Hid (trOk (⟨xb, xu⟩ : Tr) → ∀ x ∈ tr.take (i + 1), trOk x) := Lib.hid (fun hh y hy => by
        rw [take_snoc hx] at hy
        rcases List.mem_append.1 hy with hy | hy
        · exact HP.out y hy
        · rw [List.mem_singleton.1 hy]; exact hh)
      clear hcell hx hlt
      go_wp2_with (fail)
      go_must (refine (rmoney_any _ _).mono ?_)
      rintro e1 w1 ⟨rfl, rfl⟩
      by_cases hxb : mon xb
      case neg =>
        rw [decide_eq_false hxb]
        obtain rfl : rg = false := HBAD.out (fun hh => hxb hh.1)
        go_wp2
        go_ret
        exact ⟨rfl, HB9.out⟩
      rw [decide_eq_true hxb]
      go_wp2_with (fail)
      go_must (refine (rmoney_any _ _).mono ?_)
      rintro e1 w1 ⟨rfl, rfl⟩
      by_cases hxu : mon xu
      case neg =>
        rw [decide_eq_false hxu]
        obtain rfl : rg = false := HBAD.out (fun hh => hxu hh.2)
        go_wp2
        go_ret
        exact ⟨rfl, HB9.out⟩
      rw [decide_eq_true hxu]
      have HX := Lib.hid (And.intro hxb hxu)
      clear hxb hxu
      have HG2 := Lib.hid (HGO.out (HX.out))
      clear HGO HBAD
      go_wp2
      go_roundw
      case rel => first | exact ⟨i + 1, by omega, by go_num, HG2, HW⟩ | exact ⟨i + 1, by omega, by go_num, HG2, Lib.hid (Gen.dN HW.out _)⟩ | exact ⟨i + 1, by omega, by go_num, HG2, HW7⟩
      case measure => simp [intOf]; omega
    case neg =>
      obtain rfl : q = i := by omega
      have HA1 : Hid (∀ x ∈ tr, trOk x) := Lib.hid (by have := HP.out; rw [List.take_of_length_le (by rw [HQ.out]; exact Nat.le_refl _)] at this; exact this)
      have HM := Lib.hid (HM.out.keep HW.out)
      have HR := Lib.hid (HR.out.keep HW.out)
      have HB := HB9
      clear HB9 HP hlt hi ii0
      go_wp2_with (fail)
      clear k4
      obtain ⟨W2, hW2⟩ : ∃ W, W = wr := ⟨_, rfl⟩
      rw [← hW2]
      rw [← hW2] at HM HR HB
      clear hW2 HW
      go_loopw [4] (fun iv wr => ∃ i : Nat, i ≤ v ∧ iv = .int .i64 i ∧ Hid (∀ x ∈ te.take i, teOk q x) ∧ Hid (Below W2.heap.size W2 wr)) (fun iv _ => v - (intOf iv).toNat)
      case atStart => exact ⟨0, Nat.zero_le _, rfl, Lib.hid (fun x hx => by simp at hx), Lib.hid (Below.refl _ _)⟩
      case round =>
        obtain ⟨i, hi, rfl, HP, HW⟩ := hrel
        have ii0 : (0 : Int) ≤ (i : Int) := by omega
        have k4 : wr.cell? ⟨w.heap.size, 5, none⟩ = some (.slice A2 v c2) := (HR.out.keep HW.out).cell 5
        have HB9 := Lib.hid (Gen.over HW.out HB.out)
        by_cases hlt : i < v
        case pos =>
          have hltI : (i : Int) < (v : Int) := by omega
          obtain ⟨⟨xo, xm⟩, hx⟩ := at_ te i (by rw [HV.out]; exact hlt)
          obtain ⟨b, off, rfl, hcell⟩ := (HM.out.keep HW.out).t2 (by dsimp only; rw [HV.out]; omega)
          have m0 := hcell i _ hx 0 _ rfl
          have m1 := hcell i _ hx 1 _ rfl
          rw [Nat.add_zero] at m0
          dsimp only at m0 m1
          have HBAD : Hid (¬ teOk q (⟨xo, xm⟩ : Te) → rg = false) := Lib.hid (fun hh => HN.out (fun hr => hh (by have := hr.te _ (mem_of_at hx); (try dsimp only at this); rw [HQ.out] at this; exact this)))
          have HGO : Hid (teOk q (⟨xo, xm⟩ : Te) → ∀ x ∈ te.take (i + 1), teOk q x) := Lib.hid (fun hh y hy => by
            rw [take_snoc hx] at hy
            rcases List.mem_append.1 hy with hy | hy
            · exact HP.out y hy
            · rw [List.mem_singleton.1 hy]; exact hh)
          clear hcell hx hlt
          have k4q : wr.cell? ⟨w.heap.size, 4, none⟩ = some (.slice A1 q c1) := (HR.out.keep HW.out).cell 4
          by_cases g0 : xo < 1
          case pos =>
            have f0 : decide (xo < 1) = true := decide_eq_true g0
            obtain rfl : rg = false := HBAD.out (fun hh => by unfold teOk at hh; dsimp only at hh; omega)
            go_wp2
            go_quiet (fail)
            go_wp2
            go_ret
            exact ⟨rfl, Gen.dN HB9.out _⟩
          have f0 : decide (xo < 1) = false := decide_eq_false g0
          by_cases g1 : (q : Int) < xo
          case pos =>
            have f1 : decide ((q : Int) < xo) = true := decide_eq_true g1
            obtain rfl : rg = false := HBAD.out (fun hh => by unfold teOk at hh; dsimp only at hh; omega)
            go_wp2
            go_quiet (fail)
            go_wp2
            go_ret
            exact ⟨rfl, Gen.dN HB9.out _⟩
          have f1 : decide ((q : Int) < xo) = false := decide_eq_false g1
          by_cases g2 : xm < 0
          case pos =>
            have f2 : decide (xm < 0) = true := decide_eq_true g2
            obtain rfl : rg = false := HBAD.out (fun hh => by unfold teOk at hh; dsimp only at hh; omega)
            go_wp2
            go_quiet (fail)
            go_wp2
            go_ret
            exact ⟨rfl, Gen.dN HB9.out _⟩
          have f2 : decide (xm < 0) = false := decide_eq_false g2
          by_cases g3 : 2000 < xm
          case pos =>
            have f3 : decide (2000 < xm) = true := decide_eq_true g3
            obtain rfl : rg = false := HBAD.out (fun hh => by unfold teOk at hh; dsimp only at hh; omega)
            go_wp2
            go_quiet (fail)
            go_wp2
            go_ret
            exact ⟨rfl, Gen.dN HB9.out _⟩
          have f3 : decide (2000 < xm) = false := decide_eq_false g3
          have HX : Hid (teOk q (⟨xo, xm⟩ : Te)) := Lib.hid (by unfold teOk; dsimp only; omega)
          clear g0 g1 g2 g3
          have HG2 := Lib.hid (HGO.out (HX.out))
          clear HGO HBAD
          go_wp2
          go_quiet (fail)
          go_wp2
          go_roundw
          case rel => first | exact ⟨i + 1, by omega, by go_num, HG2, HW⟩ | exact ⟨i + 1, by omega, by go_num, HG2, Lib.hid (Gen.dN HW.out _)⟩ | exact ⟨i + 1, by omega, by go_num, HG2, HW7⟩
          case measure => simp [intOf]; omega
        case neg =>
          obtain rfl : v = i := by omega
          have HA2 : Hid (∀ x ∈ te, teOk q x) := Lib.hid (by have := HP.out; rw [List.take_of_length_le (by rw [HV.out]; exact Nat.le_refl _)] at this; exact this)
          have HM := Lib.hid (HM.out.keep HW.out)
          have HR := Lib.hid (HR.out.keep HW.out)
          have HB := HB9
          clear HB9 HP hlt hi ii0
          go_wp2_with (fail)
          clear k4
          obtain ⟨W3, hW3⟩ : ∃ W, W = wr := ⟨_, rfl⟩
          rw [← hW3]
          rw [← hW3] at HM HR HB
          clear hW3 HW
          go_loopw [5] (fun iv wr => ∃ i : Nat, i ≤ z ∧ iv = .int .i64 i ∧ Hid (∀ x ∈ st.take i, stOk q v x) ∧ Hid (Below W3.heap.size W3 wr)) (fun iv _ => z - (intOf iv).toNat)
          case atStart => exact ⟨0, Nat.zero_le _, rfl, Lib.hid (fun x hx => by simp at hx), Lib.hid (Below.refl _ _)⟩
          case round =>
            obtain ⟨i, hi, rfl, HP, HW⟩ := hrel
            have ii0 : (0 : Int) ≤ (i : Int) := by omega
            have k4 : wr.cell? ⟨w.heap.size, 6, none⟩ = some (.slice A3 z c3) := (HR.out.keep HW.out).cell 6
            have HB9 := Lib.hid (Gen.over HW.out HB.out)
            by_cases hlt : i < z
            case pos =>
              have hltI : (i : Int) < (z : Int) := by omega
              obtain ⟨⟨xk, xn, xa⟩, hx⟩ := at_ st i (by rw [HZ.out]; exact hlt)
              obtain ⟨b, off, rfl, hcell⟩ := (HM.out.keep HW.out).t3 (by dsimp only; rw [HZ.out]; omega)
              have m0 := hcell i _ hx 0 _ rfl
              have m1 := hcell i _ hx 1 _ rfl
              have m2 := hcell i _ hx 2 _ rfl
              rw [Nat.add_zero] at m0
              dsimp only at m0 m1 m2
              have HBAD : Hid (¬ stOk q v (⟨xk, xn, xa⟩ : St) → rg = false) := Lib.hid (fun hh => HN.out (fun hr => hh (by have := hr.st _ (mem_of_at hx); (try dsimp only at this); rw [HQ.out, HV.out] at this; exact this)))
              have HGO : Hid (stOk q v (⟨xk, xn, xa⟩ : St) → ∀ x ∈ st.take (i + 1), stOk q v x) := Lib.hid (fun hh y hy => by
                rw [take_snoc hx] at hy
                rcases List.mem_append.1 hy with hy | hy
                · exact HP.out y hy
                · rw [List.mem_singleton.1 hy]; exact hh)
              clear hcell hx hlt
              have HS : Hid (stOk q v ⟨xk, xn, xa⟩ ↔ stOk q v ⟨xk, xn, xa⟩) := Lib.hid Iff.rfl
              have hB7 : Below wr.heap.size wr (wr.alloc (.cells #[.int .i64 xk, .int .i64 xn, .int .i64 xa] 42)) := Gen.b_alloc (Below.refl _ _)
              have HW7 := Lib.hid (Gen.over hB7 HW.out)
              have HB7 := Lib.hid (Gen.over hB7 HB9.out)
              have k4q : (wr.alloc (.cells #[.int .i64 xk, .int .i64 xn, .int .i64 xa] 42)).cell? ⟨w.heap.size, 4, none⟩ = some (.slice A1 q c1) := ((HR.out.keep HW.out).keep hB7).cell 4
              have k5q : (wr.alloc (.cells #[.int .i64 xk, .int .i64 xn, .int .i64 xa] 42)).cell? ⟨w.heap.size, 5, none⟩ = some (.slice A2 v c2) := ((HR.out.keep HW.out).keep hB7).cell 5
              clear hB7
              by_cases hk : xk = 0 ∨ xk = 1 ∨ xk = 2 ∨ xk = 3 ∨ xk = 4
              case neg =>
                have f0 : (xk == 0) = false := by rw [beq_eq_false_iff_ne]; omega
                have f1 : (xk == 1) = false := by rw [beq_eq_false_iff_ne]; omega
                have f3 : (xk == 3) = false := by rw [beq_eq_false_iff_ne]; omega
                have hf : ¬ stOk q v ⟨xk, xn, xa⟩ := fun hh => by unfold stOk at hh; dsimp only at hh; omega
                have HF := Lib.hid hf
                clear hf
                by_cases g1 : xk < 0
                case pos =>
                  clear hk
                  obtain rfl : rg = false := HBAD.out (HF.out)
                  go_wp2
                  go_ret
                  exact ⟨rfl, HB7.out⟩
                have g2 : 5 ≤ xk := by omega
                clear hk
                obtain rfl : rg = false := HBAD.out (HF.out)
                go_wp2
                go_ret
                exact ⟨rfl, HB7.out⟩
              rcases hk with rfl | rfl | rfl | rfl | rfl
              · skip
                by_cases g1 : xn < 0
                case pos =>
                  obtain rfl : rg = false := HBAD.out (fun hh => by unfold stOk at hh; dsimp only at hh; omega)
                  go_wp2
                  go_ret
                  exact ⟨rfl, HB7.out⟩
                by_cases g2 : (q : Int) ≤ xn
                case pos =>
                  obtain rfl : rg = false := HBAD.out (fun hh => by unfold stOk at hh; dsimp only at hh; omega)
                  go_wp2
                  go_ret
                  exact ⟨rfl, HB7.out⟩
                by_cases g3 : xa = 0
                case neg =>
                  have f3 : (xa != 0) = true := by rw [bne_iff_ne]; exact g3
                  have hf : ¬ stOk q v ⟨0, xn, xa⟩ := fun hh => by unfold stOk at hh; dsimp only at hh; omega
                  have HF := Lib.hid hf
                  clear hf g3
                  obtain rfl : rg = false := HBAD.out (HF.out)
                  go_wp2
                  go_ret
                  exact ⟨rfl, HB7.out⟩
                subst g3
                have HX : Hid (stOk q v ⟨0, xn, 0⟩) := Lib.hid (by unfold stOk; dsimp only; omega)
                go_wp2_with (fail)
                go_must (refine (rmoney_any _ _).mono ?_)
                rintro e1 w1 ⟨rfl, rfl⟩
                rw [show decide (mon 0) = true from by decide]
                have HG2 := Lib.hid (HGO.out (HX.out))
                clear HGO HBAD
                go_wp2
                go_roundw
                case rel => first | exact ⟨i + 1, by omega, by go_num, HG2, HW⟩ | exact ⟨i + 1, by omega, by go_num, HG2, Lib.hid (Gen.dN HW.out _)⟩ | exact ⟨i + 1, by omega, by go_num, HG2, HW7⟩
                case measure => simp [intOf]; omega
              · skip
                by_cases g1 : xn < 0
                case pos =>
                  obtain rfl : rg = false := HBAD.out (fun hh => by unfold stOk at hh; dsimp only at hh; omega)
                  go_wp2
                  go_ret
                  exact ⟨rfl, HB7.out⟩
                by_cases g2 : (q : Int) ≤ xn
                case pos =>
                  obtain rfl : rg = false := HBAD.out (fun hh => by unfold stOk at hh; dsimp only at hh; omega)
                  go_wp2
                  go_ret
                  exact ⟨rfl, HB7.out⟩
                by_cases g3 : xa = 0
                case neg =>
                  have f3 : (xa != 0) = true := by rw [bne_iff_ne]; exact g3
                  have hf : ¬ stOk q v ⟨1, xn, xa⟩ := fun hh => by unfold stOk at hh; dsimp only at hh; omega
                  have HF := Lib.hid hf
                  clear hf g3
                  obtain rfl : rg = false := HBAD.out (HF.out)
                  go_wp2
                  go_ret
                  exact ⟨rfl, HB7.out⟩
                subst g3
                have HX : Hid (stOk q v ⟨1, xn, 0⟩) := Lib.hid (by unfold stOk; dsimp only; omega)
                go_wp2_with (fail)
                go_must (refine (rmoney_any _ _).mono ?_)
                rintro e1 w1 ⟨rfl, rfl⟩
                rw [show decide (mon 0) = true from by decide]
                have HG2 := Lib.hid (HGO.out (HX.out))
                clear HGO HBAD
                go_wp2
                go_roundw
                case rel => first | exact ⟨i + 1, by omega, by go_num, HG2, HW⟩ | exact ⟨i + 1, by omega, by go_num, HG2, Lib.hid (Gen.dN HW.out _)⟩ | exact ⟨i + 1, by omega, by go_num, HG2, HW7⟩
                case measure => simp [intOf]; omega
              · skip
                by_cases g1 : xn < 0
                case pos =>
                  obtain rfl : rg = false := HBAD.out (fun hh => by unfold stOk at hh; dsimp only at hh; omega)
                  go_wp2
                  go_ret
                  exact ⟨rfl, HB7.out⟩
                by_cases g2 : (1 : Int) ≤ xn
                case pos =>
                  obtain rfl : rg = false := HBAD.out (fun hh => by unfold stOk at hh; dsimp only at hh; omega)
                  go_wp2
                  go_ret
                  exact ⟨rfl, HB7.out⟩
                go_wp2_with (fail)
                go_must (refine (rmoney_any _ _).mono ?_)
                rintro e1 w1 ⟨rfl, rfl⟩
                by_cases g3 : mon xa
                case neg =>
                  rw [decide_eq_false g3]
                  have hf : ¬ stOk q v ⟨2, xn, xa⟩ := fun hh => by unfold stOk mon at hh; dsimp only at hh; unfold mon at g3; omega
                  have HF := Lib.hid hf
                  clear hf g3
                  obtain rfl : rg = false := HBAD.out (HF.out)
                  go_wp2
                  go_ret
                  exact ⟨rfl, HB7.out⟩
                rw [decide_eq_true g3]
                have HX : Hid (stOk q v ⟨2, xn, xa⟩) := Lib.hid (by unfold stOk mon; dsimp only; unfold mon at g3; omega)
                clear g3
                have HG2 := Lib.hid (HGO.out (HX.out))
                clear HGO HBAD
                go_wp2
                go_roundw
                case rel => first | exact ⟨i + 1, by omega, by go_num, HG2, HW⟩ | exact ⟨i + 1, by omega, by go_num, HG2, Lib.hid (Gen.dN HW.out _)⟩ | exact ⟨i + 1, by omega, by go_num, HG2, HW7⟩
                case measure => simp [intOf]; omega
              · skip
                by_cases g1 : xn < 0
                case pos =>
                  obtain rfl : rg = false := HBAD.out (fun hh => by unfold stOk at hh; dsimp only at hh; omega)
                  go_wp2
                  go_ret
                  exact ⟨rfl, HB7.out⟩
                by_cases g2 : (v : Int) ≤ xn
                case pos =>
                  obtain rfl : rg = false := HBAD.out (fun hh => by unfold stOk at hh; dsimp only at hh; omega)
                  go_wp2
                  go_ret
                  exact ⟨rfl, HB7.out⟩
                by_cases g3 : xa = 0
                case neg =>
                  have f3 : (xa != 0) = true := by rw [bne_iff_ne]; exact g3
                  have hf : ¬ stOk q v ⟨3, xn, xa⟩ := fun hh => by unfold stOk at hh; dsimp only at hh; omega
                  have HF := Lib.hid hf
                  clear hf g3
                  obtain rfl : rg = false := HBAD.out (HF.out)
                  go_wp2
                  go_ret
                  exact ⟨rfl, HB7.out⟩
                subst g3
                have HX : Hid (stOk q v ⟨3, xn, 0⟩) := Lib.hid (by unfold stOk; dsimp only; omega)
                go_wp2_with (fail)
                go_must (refine (rmoney_any _ _).mono ?_)
                rintro e1 w1 ⟨rfl, rfl⟩
                rw [show decide (mon 0) = true from by decide]
                have HG2 := Lib.hid (HGO.out (HX.out))
                clear HGO HBAD
                go_wp2
                go_roundw
                case rel => first | exact ⟨i + 1, by omega, by go_num, HG2, HW⟩ | exact ⟨i + 1, by omega, by go_num, HG2, Lib.hid (Gen.dN HW.out _)⟩ | exact ⟨i + 1, by omega, by go_num, HG2, HW7⟩
                case measure => simp [intOf]; omega
              · skip
                by_cases g1 : xn < 0
                case pos =>
                  obtain rfl : rg = false := HBAD.out (fun hh => by unfold stOk at hh; dsimp only at hh; omega)
                  go_wp2
                  go_ret
                  exact ⟨rfl, HB7.out⟩
                by_cases g2 : (1 : Int) ≤ xn
                case pos =>
                  obtain rfl : rg = false := HBAD.out (fun hh => by unfold stOk at hh; dsimp only at hh; omega)
                  go_wp2
                  go_ret
                  exact ⟨rfl, HB7.out⟩
                by_cases g3 : xa = 0
                case neg =>
                  have f3 : (xa != 0) = true := by rw [bne_iff_ne]; exact g3
                  have hf : ¬ stOk q v ⟨4, xn, xa⟩ := fun hh => by unfold stOk at hh; dsimp only at hh; omega
                  have HF := Lib.hid hf
                  clear hf g3
                  obtain rfl : rg = false := HBAD.out (HF.out)
                  go_wp2
                  go_ret
                  exact ⟨rfl, HB7.out⟩
                subst g3
                have HX : Hid (stOk q v ⟨4, xn, 0⟩) := Lib.hid (by unfold stOk; dsimp only; omega)
                go_wp2_with (fail)
                go_must (refine (rmoney_any _ _).mono ?_)
                rintro e1 w1 ⟨rfl, rfl⟩
                rw [show decide (mon 0) = true from by decide]
                have HG2 := Lib.hid (HGO.out (HX.out))
                clear HGO HBAD
                go_wp2
                go_roundw
                case rel => first | exact ⟨i + 1, by omega, by go_num, HG2, HW⟩ | exact ⟨i + 1, by omega, by go_num, HG2, Lib.hid (Gen.dN HW.out _)⟩ | exact ⟨i + 1, by omega, by go_num, HG2, HW7⟩
                case measure => simp [intOf]; omega
            case neg =>
              obtain rfl : z = i := by omega
              have HA3 : Hid (∀ x ∈ st, stOk q v x) := Lib.hid (by have := HP.out; rw [List.take_of_length_le (by rw [HZ.out]; exact Nat.le_refl _)] at this; exact this)
              obtain rfl : rg = true := HY.out ⟨Hcc.out, Hrr.out, Htt.out, Hee.out, by dsimp only; rw [HQ.out]; exact lq, by dsimp only; rw [HV.out]; exact lv, by dsimp only; rw [HZ.out]; exact lz, HA1.out, by dsimp only; rw [HQ.out]; exact HA2.out, by dsimp only; rw [HQ.out, HV.out]; exact HA3.out⟩
              go_wp2
              go_ret
              exact ⟨rfl, HB9.out⟩
end
end Go.Proofs.Ytdmbgdbmfenbfaa.Fa
