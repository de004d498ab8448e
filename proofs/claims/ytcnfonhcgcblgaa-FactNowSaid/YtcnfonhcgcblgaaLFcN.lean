/- Facts: FactNow. -/
import Derived.Test.YtcnfonhcgcblgaaFcH
namespace Go.Proofs.Ytcnfonhcgcblgaa.Fc
open Go.Lib Go.ChangeShapes Go.WideShapes Go.ChangeAt Go.RowKit Go.Maps Go.Proofs.Ytcnfonhcgcblgaa.Cell Go.Proofs.Ytcnfonhcgcblgaa.Wd Go.Proofs.Ytcnfonhcgcblgaa.Rk
set_option linter.unusedVariables false
set_option linter.unusedSimpArgs false
theorem FA.new (w : World) (f : Fa) : FA (w.alloc (fobj f)) w.heap.size f := fun r v hv => by
  refine ((Row.new w 24 (fcs f).toArray).cell r).trans ?_
  simpa using hv
theorem ownF_eq (fi fp fv fd xi xp xv xd : Int) (fn xn : List UInt8) : ownF ⟨fi, fn, fp, fv, fd⟩ ⟨xi, xn, xp, xv, xd⟩ = (decide (xi = fi) && decide (xn = fn)) := rfl
theorem btwE_eq (fi fp fv fd xi xp xv xd p : Int) (fn xn : List UInt8) : btwE ⟨fi, fn, fp, fv, fd⟩ p ⟨xi, xn, xp, xv, xd⟩ = (decide (xi = fi) && decide (xn = fn) && decide (fp < xp) && decide (xp ≤ p)) := rfl
set_option maxRecDepth 100000 in
set_option maxHeartbeats 16000000 in
theorem now_any {w : World} {A : Option Addr} {n c : Nat} {l : List Fa} (hn : l.length = n) (hc : Rs fcs 5 w A l) (hbig : n ≤ 9223372036854775807) (hin : ∀ x ∈ l, x.nm.length ≤ 9223372036854775807) (f : Fa) (period day : Int) :
    Calls Try.prog 4 #[.slice A n c, .agg #[.int .i64 f.is, .string ⟨f.nm.toArray⟩, .int .i64 f.pe, .int .i64 f.va, .int .i64 f.dy], .int .i64 period, .int .i64 day] w fun e w' => e = .returned (.bool true) ∧ Below w.heap.size w w' := by
  have hb0 : Below w.heap.size w (w.alloc (fobj f)) := Gen.b_alloc (Below.refl _ _)
  have HB0 := Lib.hid hb0
  have HF0 := Lib.hid (FA.new w f)
  have HC0 := Lib.hid (hc.keep hb0)
  have HN := Lib.hid hn
  have HIN := Lib.hid hin
  clear hb0 hc hn hin
  obtain ⟨w0, hw0⟩ : ∃ w0, w.alloc (fobj f) = w0 := ⟨_, rfl⟩
  obtain ⟨g, hg⟩ : ∃ g, w.heap.size = g := ⟨_, rfl⟩
  rw [hw0] at HB0 HF0 HC0
  rw [hg] at HF0
  have HS := Lib.hid (small_any w0)
  obtain ⟨fi, fn, fp, fv, fd⟩ := f
  go_enter Try.func4, Try.ntmps4
  go_upto_region 1 with (fail)
  try rw [hw0]
  try rw [hg]
  clear hw0 hg
  go_wp2_with (fail)
  go_must (refine (HS.out).mono ?_)
  rintro e w1 ⟨rfl, hb⟩
  have HB1 := Lib.hid (Gen.over hb HB0.out)
  have HF1 := Lib.hid (HF0.out.keep hb)
  have HC1 := Lib.hid (HC0.out.keep hb)
  clear hb HB0 HF0 HC0 HS
  have HFEW := Lib.hid (rFew_any (c := c) (m := 20) HN.out HC1.out hbig (by omega) HIN.out)
  go_wp2_with (fail)
  go_must (refine (HFEW.out).mono ?_)
  rintro e w2 ⟨rfl, rfl⟩
  clear HFEW
  cases hfew : fewF l 20 with
  | false =>
    clear hfew
    go_wp2
    go_ret
    exact ⟨rfl, HB1.out⟩
  | true =>
    obtain ⟨hl20, hnm⟩ := fewF_out hfew
    rw [HN.out] at hl20
    have HNM := Lib.hid (show ∀ x ∈ l, x.nm.length ≤ 1000000000 from fun x hx => Nat.le_trans (hnm x hx) (by decide))
    clear hfew hnm HIN hbig
    have b0 := HF1.out 0 _ rfl
    have b1 := HF1.out 1 _ rfl
    have b2 := HF1.out 2 _ rfl
    have b3 := HF1.out 3 _ rfl
    have b4 := HF1.out 4 _ rfl
    dsimp only at b0 b1 b2 b3 b4
    by_cases hfl : fn.length ≤ 40
    case neg =>
      have h1 : (40 : Int) < (fn.length : Int) := by omega
      go_wp2
      go_ret
      exact ⟨rfl, HB1.out⟩
    have h1 : ¬ (40 : Int) < (fn.length : Int) := by omega
    have HADD := Lib.hid (fAdd_any (c := c) HN.out HC1.out (by omega) HNM.out ⟨fi, fn, fp, fv, fd⟩ (by show fn.length ≤ _; omega))
    go_wp2_with (fail)
    go_must (refine (HADD.out).mono ?_)
    rintro e w3 ⟨A2, c2, rfl, hr3, hb⟩
    have HB3 := Lib.hid (Gen.over hb HB1.out)
    have HF3 := Lib.hid (HF1.out.keep hb)
    have HC3 := Lib.hid (HC1.out.keep hb)
    have HR3 := Lib.hid hr3
    clear hb hr3 HADD HB1 HF1 HC1 b0 b1 b2 b3 b4 h1
    have b0 := HF3.out 0 _ rfl
    have b1 := HF3.out 1 _ rfl
    have b2 := HF3.out 2 _ rfl
    have b3 := HF3.out 3 _ rfl
    have b4 := HF3.out 4 _ rfl
    dsimp only at b0 b1 b2 b3 b4
    by_cases hE : addE l ⟨fi, fn, fp, fv, fd⟩ = 0
    case neg =>
      have h1 : (addE l ⟨fi, fn, fp, fv, fd⟩ != 0) = true := by simp [hE]
      go_wp2
      go_ret
      exact ⟨rfl, HB3.out⟩
    have h1 : (addE l ⟨fi, fn, fp, fv, fd⟩ != 0) = false := by simp [hE]
    by_cases hd : day < fd
    · go_wp2
      go_ret
      exact ⟨rfl, HB3.out⟩
    by_cases hp : period < fp
    · go_wp2
      go_ret
      exact ⟨rfl, HB3.out⟩
    obtain ⟨hrg, hok, hrg2, hL⟩ := add_out hE (by rw [HN.out]; omega)
    have hko := okF_out hok
    dsimp only at hko
    obtain ⟨y, hy, hyf⟩ := now_2 (p := period) (d := day) hE (by rw [HN.out]; omega) (by show fp ≤ period; omega) (by show fd ≤ day; omega)
    have HV1 := Lib.hid (now_1 (d := day) hE (by rw [HN.out]; omega) (by show fd ≤ day; omega))
    have HV3 := Lib.hid (now_3 hE (by rw [HN.out]; omega))
    have HV2 := Lib.hid hy
    have HYF := Lib.hid hyf
    rw [hL] at HR3
    have hLn : (addL l ⟨fi, fn, fp, fv, fd⟩).length = n + 1 := by rw [hL]; simp [HN.out]
    rw [hLn]
    have HLN := Lib.hid (show (l ++ [(⟨fi, fn, fp, fv, fd⟩ : Fa)]).length = n + 1 from by simp [HN.out])
    have HNM2 := Lib.hid (show ∀ x ∈ l ++ [(⟨fi, fn, fp, fv, fd⟩ : Fa)], x.nm.length ≤ 1000000000 from fun x hx => by
      rcases List.mem_append.1 hx with hx | hx
      · exact HNM.out x hx
      · obtain rfl : x = ⟨fi, fn, fp, fv, fd⟩ := by simpa using hx
        show fn.length ≤ _
        omega)
    have hwd : IntKind.i64.wrap (fd - 1) = fd - 1 := IntWalk.i64_in _ (by omega)
    obtain ⟨yi, yn, yp, yv, yd⟩ := y
    clear hy hyf hL hLn hrg hok hrg2
    have HVAL := Lib.hid (fun (W : World) (hb : Below w3.heap.size w3 W) (p d : Int) => fValue_any (c := c2) fi p d (nm := fn) HLN.out (HR3.out.keep hb) (by omega) HNM2.out (by omega))
    have HVALo := Lib.hid (fun (W : World) (hb : Below w3.heap.size w3 W) (p d : Int) => fValue_any (c := c) fi p d (nm := fn) HN.out (HC3.out.keep hb) (by omega) HNM.out (by omega))
    have HW := Lib.hid hwd
    clear hwd hE
    go_wp2_with (fail)
    go_must (refine (HVAL.out _ (Below.refl _ _) fp day).mono ?_)
    rintro e w4 ⟨rfl, hb4⟩
    rw [show valF (l ++ [⟨fi, fn, fp, fv, fd⟩]) fi fn fp day = some ⟨fi, fn, fp, fv, fd⟩ from HV1.out]
    have HF4 := Lib.hid (HF3.out.keep hb4)
    clear b0 b1 b2 b3 b4
    have b0 := HF4.out 0 _ rfl
    have b1 := HF4.out 1 _ rfl
    have b2 := HF4.out 2 _ rfl
    have b3 := HF4.out 3 _ rfl
    have b4 := HF4.out 4 _ rfl
    dsimp only at b0 b1 b2 b3 b4
    go_wp2_with (fail)
    go_must (refine (HVAL.out _ hb4 period day).mono ?_)
    rintro e w5 ⟨rfl, hb5⟩
    rw [show valF (l ++ [⟨fi, fn, fp, fv, fd⟩]) fi fn period day = some ⟨yi, yn, yp, yv, yd⟩ from HV2.out]
    have HF5 := Lib.hid (HF4.out.keep hb5)
    have HB5 := Lib.hid (Gen.over hb5 hb4)
    clear b0 b1 b2 b3 b4 hb4 hb5 HF4 HF3 h1
    have HPD : Hid (¬ day < fd ∧ ¬ period < fp) := Lib.hid ⟨by omega, by omega⟩
    clear hd hp
    simp only [Option.isSome_some, vI]
    go_wp2_with (fail)
    go_loopw [16, 17, 18] (fun av bv iv wr => ∃ (k : Nat) (z1 z2 : Bool), k ≤ n ∧ iv = .int .i64 k ∧ av = .bool z1 ∧ bv = .bool z2 ∧ Hid (btw (l.take k) ⟨fi, fn, fp, fv, fd⟩ period = z1) ∧ Hid (rst (l.take k) ⟨fi, fn, fp, fv, fd⟩ = z2) ∧ Hid (Below w5.heap.size w5 wr)) (fun _ _ iv _ => n - (RowKit.intOf iv).toNat)
    case atStart => exact ⟨0, false, false, Nat.zero_le _, rfl, rfl, rfl, Lib.hid rfl, Lib.hid rfl, Lib.hid (Below.refl _ _)⟩
    case round =>
      obtain ⟨k, z1, z2, hk, rfl, rfl, rfl, H1, H2, HBr⟩ := hrel
      have k0 : (0 : Int) ≤ (k : Int) := by omega
      have HFr := Lib.hid (HF5.out.keep HBr.out)
      have b0 := HFr.out 0 _ rfl
      have b1 := HFr.out 1 _ rfl
      have b2 := HFr.out 2 _ rfl
      have b3 := HFr.out 3 _ rfl
      have b4 := HFr.out 4 _ rfl
      dsimp only at b0 b1 b2 b3 b4
      by_cases hlt : k < n
      · have hltI : (k : Int) < (n : Int) := by omega
        obtain ⟨⟨xi, xn, xp, xv, xd⟩, hx⟩ := at_ l k (by rw [HN.out]; exact hlt)
        have HT1 := Lib.hid (any_take (p := btwE ⟨fi, fn, fp, fv, fd⟩ period) hx)
        have HT2 := Lib.hid (any_take (p := lk3 ⟨fi, fn, fp, fv, fd⟩) hx)
        have HT1 : Hid (btw (l.take (k + 1)) ⟨fi, fn, fp, fv, fd⟩ period = (btw (l.take k) ⟨fi, fn, fp, fv, fd⟩ period || btwE ⟨fi, fn, fp, fv, fd⟩ period ⟨xi, xn, xp, xv, xd⟩)) := HT1
        have HT2 : Hid (rst (l.take (k + 1)) ⟨fi, fn, fp, fv, fd⟩ = (rst (l.take k) ⟨fi, fn, fp, fv, fd⟩ || lk3 ⟨fi, fn, fp, fv, fd⟩ ⟨xi, xn, xp, xv, xd⟩)) := HT2
        obtain ⟨b, off, rfl, hcell⟩ := ((HC3.out.keep HB5.out).keep HBr.out) (by rw [HN.out]; omega)
        have c0 := hcell k _ hx 0 _ rfl
        have c1 := hcell k _ hx 1 _ rfl
        have c2 := hcell k _ hx 2 _ rfl
        dsimp only at c0 c1 c2
        rw [Nat.add_zero] at c0
        clear hcell hx hlt
        by_cases q1 : xi = fi
        case neg =>
          cases z1 <;> cases z2
          · have e1 : (xi == fi) = false := by simp [q1]
            have HZ1 : Hid (btw (l.take (k + 1)) ⟨fi, fn, fp, fv, fd⟩ period = false) := Lib.hid (by rw [HT1.out, H1.out, btwE_eq]; first | (simp [q1]; done) | (simp [q1, q2]; done) | (simp [q1, q2]; omega))
            have HZ2 : Hid (rst (l.take (k + 1)) ⟨fi, fn, fp, fv, fd⟩ = false) := Lib.hid (by rw [HT2.out, H2.out, lk3_eq]; first | (simp [q1]; done) | (simp [q1, q2]; done) | (simp [q1, q2]; omega))
            clear H1 H2 HT1 HT2
            go_wp2
            go_quiet (fail)
            go_wp2
            go_quiet (fail)
            go_wp2
            go_quiet (fail)
            go_wp2
            go_roundw
            case rel => exact ⟨k + 1, false, false, by omega, by go_num, rfl, rfl, HZ1, HZ2, Lib.hid (by first | exact Gen.dN HBr.out _ | exact Gen.dN (Gen.dN HBr.out _) _ | exact Gen.dN (Gen.dN (Gen.dN HBr.out _) _) _)⟩
            case measure => simp [RowKit.intOf]; omega
          · have e1 : (xi == fi) = false := by simp [q1]
            have HZ1 : Hid (btw (l.take (k + 1)) ⟨fi, fn, fp, fv, fd⟩ period = false) := Lib.hid (by rw [HT1.out, H1.out, btwE_eq]; first | (simp [q1]; done) | (simp [q1, q2]; done) | (simp [q1, q2]; omega))
            have HZ2 : Hid (rst (l.take (k + 1)) ⟨fi, fn, fp, fv, fd⟩ = true) := Lib.hid (by rw [HT2.out, H2.out, lk3_eq]; first | (simp [q1]; done) | (simp [q1, q2]; done) | (simp [q1, q2]; omega))
            clear H1 H2 HT1 HT2
            go_wp2
            go_quiet (fail)
            go_wp2
            go_quiet (fail)
            go_wp2
            go_quiet (fail)
            go_wp2
            go_roundw
            case rel => exact ⟨k + 1, false, true, by omega, by go_num, rfl, rfl, HZ1, HZ2, Lib.hid (by first | exact Gen.dN HBr.out _ | exact Gen.dN (Gen.dN HBr.out _) _ | exact Gen.dN (Gen.dN (Gen.dN HBr.out _) _) _)⟩
            case measure => simp [RowKit.intOf]; omega
          · have e1 : (xi == fi) = false := by simp [q1]
            have HZ1 : Hid (btw (l.take (k + 1)) ⟨fi, fn, fp, fv, fd⟩ period = true) := Lib.hid (by rw [HT1.out, H1.out, btwE_eq]; first | (simp [q1]; done) | (simp [q1, q2]; done) | (simp [q1, q2]; omega))
            have HZ2 : Hid (rst (l.take (k + 1)) ⟨fi, fn, fp, fv, fd⟩ = false) := Lib.hid (by rw [HT2.out, H2.out, lk3_eq]; first | (simp [q1]; done) | (simp [q1, q2]; done) | (simp [q1, q2]; omega))
            clear H1 H2 HT1 HT2
            go_wp2
            go_quiet (fail)
            go_wp2
            go_quiet (fail)
            go_wp2
            go_quiet (fail)
            go_wp2
            go_roundw
            case rel => exact ⟨k + 1, true, false, by omega, by go_num, rfl, rfl, HZ1, HZ2, Lib.hid (by first | exact Gen.dN HBr.out _ | exact Gen.dN (Gen.dN HBr.out _) _ | exact Gen.dN (Gen.dN (Gen.dN HBr.out _) _) _)⟩
            case measure => simp [RowKit.intOf]; omega
          · have e1 : (xi == fi) = false := by simp [q1]
            have HZ1 : Hid (btw (l.take (k + 1)) ⟨fi, fn, fp, fv, fd⟩ period = true) := Lib.hid (by rw [HT1.out, H1.out, btwE_eq]; first | (simp [q1]; done) | (simp [q1, q2]; done) | (simp [q1, q2]; omega))
            have HZ2 : Hid (rst (l.take (k + 1)) ⟨fi, fn, fp, fv, fd⟩ = true) := Lib.hid (by rw [HT2.out, H2.out, lk3_eq]; first | (simp [q1]; done) | (simp [q1, q2]; done) | (simp [q1, q2]; omega))
            clear H1 H2 HT1 HT2
            go_wp2
            go_quiet (fail)
            go_wp2
            go_quiet (fail)
            go_wp2
            go_quiet (fail)
            go_wp2
            go_roundw
            case rel => exact ⟨k + 1, true, true, by omega, by go_num, rfl, rfl, HZ1, HZ2, Lib.hid (by first | exact Gen.dN HBr.out _ | exact Gen.dN (Gen.dN HBr.out _) _ | exact Gen.dN (Gen.dN (Gen.dN HBr.out _) _) _)⟩
            case measure => simp [RowKit.intOf]; omega
        by_cases q2 : xn = fn
        case neg =>
          cases z1 <;> cases z2
          · have e1 : (xi == fi) = true := by simp [q1]
            have e2 : (xn == fn) = false := by simp [q2]
            have HZ1 : Hid (btw (l.take (k + 1)) ⟨fi, fn, fp, fv, fd⟩ period = false) := Lib.hid (by rw [HT1.out, H1.out, btwE_eq]; first | (simp [q1]; done) | (simp [q1, q2]; done) | (simp [q1, q2]; omega))
            have HZ2 : Hid (rst (l.take (k + 1)) ⟨fi, fn, fp, fv, fd⟩ = false) := Lib.hid (by rw [HT2.out, H2.out, lk3_eq]; first | (simp [q1]; done) | (simp [q1, q2]; done) | (simp [q1, q2]; omega))
            clear H1 H2 HT1 HT2
            go_wp2
            go_quiet (fail)
            go_wp2
            go_quiet (fail)
            go_wp2
            go_quiet (fail)
            go_wp2
            go_roundw
            case rel => exact ⟨k + 1, false, false, by omega, by go_num, rfl, rfl, HZ1, HZ2, Lib.hid (by first | exact Gen.dN HBr.out _ | exact Gen.dN (Gen.dN HBr.out _) _ | exact Gen.dN (Gen.dN (Gen.dN HBr.out _) _) _)⟩
            case measure => simp [RowKit.intOf]; omega
          · have e1 : (xi == fi) = true := by simp [q1]
            have e2 : (xn == fn) = false := by simp [q2]
            have HZ1 : Hid (btw (l.take (k + 1)) ⟨fi, fn, fp, fv, fd⟩ period = false) := Lib.hid (by rw [HT1.out, H1.out, btwE_eq]; first | (simp [q1]; done) | (simp [q1, q2]; done) | (simp [q1, q2]; omega))
            have HZ2 : Hid (rst (l.take (k + 1)) ⟨fi, fn, fp, fv, fd⟩ = true) := Lib.hid (by rw [HT2.out, H2.out, lk3_eq]; first | (simp [q1]; done) | (simp [q1, q2]; done) | (simp [q1, q2]; omega))
            clear H1 H2 HT1 HT2
            go_wp2
            go_quiet (fail)
            go_wp2
            go_quiet (fail)
            go_wp2
            go_quiet (fail)
            go_wp2
            go_roundw
            case rel => exact ⟨k + 1, false, true, by omega, by go_num, rfl, rfl, HZ1, HZ2, Lib.hid (by first | exact Gen.dN HBr.out _ | exact Gen.dN (Gen.dN HBr.out _) _ | exact Gen.dN (Gen.dN (Gen.dN HBr.out _) _) _)⟩
            case measure => simp [RowKit.intOf]; omega
          · have e1 : (xi == fi) = true := by simp [q1]
            have e2 : (xn == fn) = false := by simp [q2]
            have HZ1 : Hid (btw (l.take (k + 1)) ⟨fi, fn, fp, fv, fd⟩ period = true) := Lib.hid (by rw [HT1.out, H1.out, btwE_eq]; first | (simp [q1]; done) | (simp [q1, q2]; done) | (simp [q1, q2]; omega))
            have HZ2 : Hid (rst (l.take (k + 1)) ⟨fi, fn, fp, fv, fd⟩ = false) := Lib.hid (by rw [HT2.out, H2.out, lk3_eq]; first | (simp [q1]; done) | (simp [q1, q2]; done) | (simp [q1, q2]; omega))
            clear H1 H2 HT1 HT2
            go_wp2
            go_quiet (fail)
            go_wp2
            go_quiet (fail)
            go_wp2
            go_quiet (fail)
            go_wp2
            go_roundw
            case rel => exact ⟨k + 1, true, false, by omega, by go_num, rfl, rfl, HZ1, HZ2, Lib.hid (by first | exact Gen.dN HBr.out _ | exact Gen.dN (Gen.dN HBr.out _) _ | exact Gen.dN (Gen.dN (Gen.dN HBr.out _) _) _)⟩
            case measure => simp [RowKit.intOf]; omega
          · have e1 : (xi == fi) = true := by simp [q1]
            have e2 : (xn == fn) = false := by simp [q2]
            have HZ1 : Hid (btw (l.take (k + 1)) ⟨fi, fn, fp, fv, fd⟩ period = true) := Lib.hid (by rw [HT1.out, H1.out, btwE_eq]; first | (simp [q1]; done) | (simp [q1, q2]; done) | (simp [q1, q2]; omega))
            have HZ2 : Hid (rst (l.take (k + 1)) ⟨fi, fn, fp, fv, fd⟩ = true) := Lib.hid (by rw [HT2.out, H2.out, lk3_eq]; first | (simp [q1]; done) | (simp [q1, q2]; done) | (simp [q1, q2]; omega))
            clear H1 H2 HT1 HT2
            go_wp2
            go_quiet (fail)
            go_wp2
            go_quiet (fail)
            go_wp2
            go_quiet (fail)
            go_wp2
            go_roundw
            case rel => exact ⟨k + 1, true, true, by omega, by go_num, rfl, rfl, HZ1, HZ2, Lib.hid (by first | exact Gen.dN HBr.out _ | exact Gen.dN (Gen.dN HBr.out _) _ | exact Gen.dN (Gen.dN (Gen.dN HBr.out _) _) _)⟩
            case measure => simp [RowKit.intOf]; omega
        by_cases q_lt : xp < fp
        · cases z1 <;> cases z2
          · have e1 : (xi == fi) = true := by simp [q1]
            have e2 : (xn == fn) = true := by simp [q2]
            have e3 : decide (fp < xp) = false := decide_eq_false (by omega)
            have e4 : (xp == fp) = false := by simp; omega
            have HZ1 : Hid (btw (l.take (k + 1)) ⟨fi, fn, fp, fv, fd⟩ period = false) := Lib.hid (by rw [HT1.out, H1.out, btwE_eq]; first | (simp [q1]; done) | (simp [q1, q2]; done) | (simp [q1, q2]; omega))
            have HZ2 : Hid (rst (l.take (k + 1)) ⟨fi, fn, fp, fv, fd⟩ = false) := Lib.hid (by rw [HT2.out, H2.out, lk3_eq]; first | (simp [q1]; done) | (simp [q1, q2]; done) | (simp [q1, q2]; omega))
            clear H1 H2 HT1 HT2
            go_wp2
            go_quiet (fail)
            go_wp2
            go_quiet (fail)
            go_wp2
            go_quiet (fail)
            go_wp2
            go_roundw
            case rel => exact ⟨k + 1, false, false, by omega, by go_num, rfl, rfl, HZ1, HZ2, Lib.hid (by first | exact Gen.dN HBr.out _ | exact Gen.dN (Gen.dN HBr.out _) _ | exact Gen.dN (Gen.dN (Gen.dN HBr.out _) _) _)⟩
            case measure => simp [RowKit.intOf]; omega
          · have e1 : (xi == fi) = true := by simp [q1]
            have e2 : (xn == fn) = true := by simp [q2]
            have e3 : decide (fp < xp) = false := decide_eq_false (by omega)
            have e4 : (xp == fp) = false := by simp; omega
            have HZ1 : Hid (btw (l.take (k + 1)) ⟨fi, fn, fp, fv, fd⟩ period = false) := Lib.hid (by rw [HT1.out, H1.out, btwE_eq]; first | (simp [q1]; done) | (simp [q1, q2]; done) | (simp [q1, q2]; omega))
            have HZ2 : Hid (rst (l.take (k + 1)) ⟨fi, fn, fp, fv, fd⟩ = true) := Lib.hid (by rw [HT2.out, H2.out, lk3_eq]; first | (simp [q1]; done) | (simp [q1, q2]; done) | (simp [q1, q2]; omega))
            clear H1 H2 HT1 HT2
            go_wp2
            go_quiet (fail)
            go_wp2
            go_quiet (fail)
            go_wp2
            go_quiet (fail)
            go_wp2
            go_roundw
            case rel => exact ⟨k + 1, false, true, by omega, by go_num, rfl, rfl, HZ1, HZ2, Lib.hid (by first | exact Gen.dN HBr.out _ | exact Gen.dN (Gen.dN HBr.out _) _ | exact Gen.dN (Gen.dN (Gen.dN HBr.out _) _) _)⟩
            case measure => simp [RowKit.intOf]; omega
          · have e1 : (xi == fi) = true := by simp [q1]
            have e2 : (xn == fn) = true := by simp [q2]
            have e3 : decide (fp < xp) = false := decide_eq_false (by omega)
            have e4 : (xp == fp) = false := by simp; omega
            have HZ1 : Hid (btw (l.take (k + 1)) ⟨fi, fn, fp, fv, fd⟩ period = true) := Lib.hid (by rw [HT1.out, H1.out, btwE_eq]; first | (simp [q1]; done) | (simp [q1, q2]; done) | (simp [q1, q2]; omega))
            have HZ2 : Hid (rst (l.take (k + 1)) ⟨fi, fn, fp, fv, fd⟩ = false) := Lib.hid (by rw [HT2.out, H2.out, lk3_eq]; first | (simp [q1]; done) | (simp [q1, q2]; done) | (simp [q1, q2]; omega))
            clear H1 H2 HT1 HT2
            go_wp2
            go_quiet (fail)
            go_wp2
            go_quiet (fail)
            go_wp2
            go_quiet (fail)
            go_wp2
            go_roundw
            case rel => exact ⟨k + 1, true, false, by omega, by go_num, rfl, rfl, HZ1, HZ2, Lib.hid (by first | exact Gen.dN HBr.out _ | exact Gen.dN (Gen.dN HBr.out _) _ | exact Gen.dN (Gen.dN (Gen.dN HBr.out _) _) _)⟩
            case measure => simp [RowKit.intOf]; omega
          · have e1 : (xi == fi) = true := by simp [q1]
            have e2 : (xn == fn) = true := by simp [q2]
            have e3 : decide (fp < xp) = false := decide_eq_false (by omega)
            have e4 : (xp == fp) = false := by simp; omega
            have HZ1 : Hid (btw (l.take (k + 1)) ⟨fi, fn, fp, fv, fd⟩ period = true) := Lib.hid (by rw [HT1.out, H1.out, btwE_eq]; first | (simp [q1]; done) | (simp [q1, q2]; done) | (simp [q1, q2]; omega))
            have HZ2 : Hid (rst (l.take (k + 1)) ⟨fi, fn, fp, fv, fd⟩ = true) := Lib.hid (by rw [HT2.out, H2.out, lk3_eq]; first | (simp [q1]; done) | (simp [q1, q2]; done) | (simp [q1, q2]; omega))
            clear H1 H2 HT1 HT2
            go_wp2
            go_quiet (fail)
            go_wp2
            go_quiet (fail)
            go_wp2
            go_quiet (fail)
            go_wp2
            go_roundw
            case rel => exact ⟨k + 1, true, true, by omega, by go_num, rfl, rfl, HZ1, HZ2, Lib.hid (by first | exact Gen.dN HBr.out _ | exact Gen.dN (Gen.dN HBr.out _) _ | exact Gen.dN (Gen.dN (Gen.dN HBr.out _) _) _)⟩
            case measure => simp [RowKit.intOf]; omega
        by_cases q_eq : xp = fp
        · cases z1 <;> cases z2
          · have e1 : (xi == fi) = true := by simp [q1]
            have e2 : (xn == fn) = true := by simp [q2]
            have e3 : decide (fp < xp) = false := decide_eq_false (by omega)
            have e4 : (xp == fp) = true := by simp; omega
            have HZ1 : Hid (btw (l.take (k + 1)) ⟨fi, fn, fp, fv, fd⟩ period = false) := Lib.hid (by rw [HT1.out, H1.out, btwE_eq]; first | (simp [q1]; done) | (simp [q1, q2]; done) | (simp [q1, q2]; omega))
            have HZ2 : Hid (rst (l.take (k + 1)) ⟨fi, fn, fp, fv, fd⟩ = true) := Lib.hid (by rw [HT2.out, H2.out, lk3_eq]; first | (simp [q1]; done) | (simp [q1, q2]; done) | (simp [q1, q2]; omega))
            clear H1 H2 HT1 HT2
            go_wp2
            go_quiet (fail)
            go_wp2
            go_quiet (fail)
            go_wp2
            go_quiet (fail)
            go_wp2
            go_roundw
            case rel => exact ⟨k + 1, false, true, by omega, by go_num, rfl, rfl, HZ1, HZ2, Lib.hid (by first | exact Gen.dN HBr.out _ | exact Gen.dN (Gen.dN HBr.out _) _ | exact Gen.dN (Gen.dN (Gen.dN HBr.out _) _) _)⟩
            case measure => simp [RowKit.intOf]; omega
          · have e1 : (xi == fi) = true := by simp [q1]
            have e2 : (xn == fn) = true := by simp [q2]
            have e3 : decide (fp < xp) = false := decide_eq_false (by omega)
            have e4 : (xp == fp) = true := by simp; omega
            have HZ1 : Hid (btw (l.take (k + 1)) ⟨fi, fn, fp, fv, fd⟩ period = false) := Lib.hid (by rw [HT1.out, H1.out, btwE_eq]; first | (simp [q1]; done) | (simp [q1, q2]; done) | (simp [q1, q2]; omega))
            have HZ2 : Hid (rst (l.take (k + 1)) ⟨fi, fn, fp, fv, fd⟩ = true) := Lib.hid (by rw [HT2.out, H2.out, lk3_eq]; first | (simp [q1]; done) | (simp [q1, q2]; done) | (simp [q1, q2]; omega))
            clear H1 H2 HT1 HT2
            go_wp2
            go_quiet (fail)
            go_wp2
            go_quiet (fail)
            go_wp2
            go_quiet (fail)
            go_wp2
            go_roundw
            case rel => exact ⟨k + 1, false, true, by omega, by go_num, rfl, rfl, HZ1, HZ2, Lib.hid (by first | exact Gen.dN HBr.out _ | exact Gen.dN (Gen.dN HBr.out _) _ | exact Gen.dN (Gen.dN (Gen.dN HBr.out _) _) _)⟩
            case measure => simp [RowKit.intOf]; omega
          · have e1 : (xi == fi) = true := by simp [q1]
            have e2 : (xn == fn) = true := by simp [q2]
            have e3 : decide (fp < xp) = false := decide_eq_false (by omega)
            have e4 : (xp == fp) = true := by simp; omega
            have HZ1 : Hid (btw (l.take (k + 1)) ⟨fi, fn, fp, fv, fd⟩ period = true) := Lib.hid (by rw [HT1.out, H1.out, btwE_eq]; first | (simp [q1]; done) | (simp [q1, q2]; done) | (simp [q1, q2]; omega))
            have HZ2 : Hid (rst (l.take (k + 1)) ⟨fi, fn, fp, fv, fd⟩ = true) := Lib.hid (by rw [HT2.out, H2.out, lk3_eq]; first | (simp [q1]; done) | (simp [q1, q2]; done) | (simp [q1, q2]; omega))
            clear H1 H2 HT1 HT2
            go_wp2
            go_quiet (fail)
            go_wp2
            go_quiet (fail)
            go_wp2
            go_quiet (fail)
            go_wp2
            go_roundw
            case rel => exact ⟨k + 1, true, true, by omega, by go_num, rfl, rfl, HZ1, HZ2, Lib.hid (by first | exact Gen.dN HBr.out _ | exact Gen.dN (Gen.dN HBr.out _) _ | exact Gen.dN (Gen.dN (Gen.dN HBr.out _) _) _)⟩
            case measure => simp [RowKit.intOf]; omega
          · have e1 : (xi == fi) = true := by simp [q1]
            have e2 : (xn == fn) = true := by simp [q2]
            have e3 : decide (fp < xp) = false := decide_eq_false (by omega)
            have e4 : (xp == fp) = true := by simp; omega
            have HZ1 : Hid (btw (l.take (k + 1)) ⟨fi, fn, fp, fv, fd⟩ period = true) := Lib.hid (by rw [HT1.out, H1.out, btwE_eq]; first | (simp [q1]; done) | (simp [q1, q2]; done) | (simp [q1, q2]; omega))
            have HZ2 : Hid (rst (l.take (k + 1)) ⟨fi, fn, fp, fv, fd⟩ = true) := Lib.hid (by rw [HT2.out, H2.out, lk3_eq]; first | (simp [q1]; done) | (simp [q1, q2]; done) | (simp [q1, q2]; omega))
            clear H1 H2 HT1 HT2
            go_wp2
            go_quiet (fail)
            go_wp2
            go_quiet (fail)
            go_wp2
            go_quiet (fail)
            go_wp2
            go_roundw
            case rel => exact ⟨k + 1, true, true, by omega, by go_num, rfl, rfl, HZ1, HZ2, Lib.hid (by first | exact Gen.dN HBr.out _ | exact Gen.dN (Gen.dN HBr.out _) _ | exact Gen.dN (Gen.dN (Gen.dN HBr.out _) _) _)⟩
            case measure => simp [RowKit.intOf]; omega
        by_cases q_mid : xp ≤ period
        · cases z1 <;> cases z2
          · have e1 : (xi == fi) = true := by simp [q1]
            have e2 : (xn == fn) = true := by simp [q2]
            have e3 : decide (fp < xp) = true := decide_eq_true (by omega)
            have e5 : decide (xp ≤ period) = true := decide_eq_true (by omega)
            have e4 : (xp == fp) = false := by simp; omega
            have HZ1 : Hid (btw (l.take (k + 1)) ⟨fi, fn, fp, fv, fd⟩ period = true) := Lib.hid (by rw [HT1.out, H1.out, btwE_eq]; first | (simp [q1]; done) | (simp [q1, q2]; done) | (simp [q1, q2]; omega))
            have HZ2 : Hid (rst (l.take (k + 1)) ⟨fi, fn, fp, fv, fd⟩ = false) := Lib.hid (by rw [HT2.out, H2.out, lk3_eq]; first | (simp [q1]; done) | (simp [q1, q2]; done) | (simp [q1, q2]; omega))
            clear H1 H2 HT1 HT2
            go_wp2
            go_quiet (fail)
            go_wp2
            go_quiet (fail)
            go_wp2
            go_quiet (fail)
            go_wp2
            go_roundw
            case rel => exact ⟨k + 1, true, false, by omega, by go_num, rfl, rfl, HZ1, HZ2, Lib.hid (by first | exact Gen.dN HBr.out _ | exact Gen.dN (Gen.dN HBr.out _) _ | exact Gen.dN (Gen.dN (Gen.dN HBr.out _) _) _)⟩
            case measure => simp [RowKit.intOf]; omega
          · have e1 : (xi == fi) = true := by simp [q1]
            have e2 : (xn == fn) = true := by simp [q2]
            have e3 : decide (fp < xp) = true := decide_eq_true (by omega)
            have e5 : decide (xp ≤ period) = true := decide_eq_true (by omega)
            have e4 : (xp == fp) = false := by simp; omega
            have HZ1 : Hid (btw (l.take (k + 1)) ⟨fi, fn, fp, fv, fd⟩ period = true) := Lib.hid (by rw [HT1.out, H1.out, btwE_eq]; first | (simp [q1]; done) | (simp [q1, q2]; done) | (simp [q1, q2]; omega))
            have HZ2 : Hid (rst (l.take (k + 1)) ⟨fi, fn, fp, fv, fd⟩ = true) := Lib.hid (by rw [HT2.out, H2.out, lk3_eq]; first | (simp [q1]; done) | (simp [q1, q2]; done) | (simp [q1, q2]; omega))
            clear H1 H2 HT1 HT2
            go_wp2
            go_quiet (fail)
            go_wp2
            go_quiet (fail)
            go_wp2
            go_quiet (fail)
            go_wp2
            go_roundw
            case rel => exact ⟨k + 1, true, true, by omega, by go_num, rfl, rfl, HZ1, HZ2, Lib.hid (by first | exact Gen.dN HBr.out _ | exact Gen.dN (Gen.dN HBr.out _) _ | exact Gen.dN (Gen.dN (Gen.dN HBr.out _) _) _)⟩
            case measure => simp [RowKit.intOf]; omega
          · have e1 : (xi == fi) = true := by simp [q1]
            have e2 : (xn == fn) = true := by simp [q2]
            have e3 : decide (fp < xp) = true := decide_eq_true (by omega)
            have e5 : decide (xp ≤ period) = true := decide_eq_true (by omega)
            have e4 : (xp == fp) = false := by simp; omega
            have HZ1 : Hid (btw (l.take (k + 1)) ⟨fi, fn, fp, fv, fd⟩ period = true) := Lib.hid (by rw [HT1.out, H1.out, btwE_eq]; first | (simp [q1]; done) | (simp [q1, q2]; done) | (simp [q1, q2]; omega))
            have HZ2 : Hid (rst (l.take (k + 1)) ⟨fi, fn, fp, fv, fd⟩ = false) := Lib.hid (by rw [HT2.out, H2.out, lk3_eq]; first | (simp [q1]; done) | (simp [q1, q2]; done) | (simp [q1, q2]; omega))
            clear H1 H2 HT1 HT2
            go_wp2
            go_quiet (fail)
            go_wp2
            go_quiet (fail)
            go_wp2
            go_quiet (fail)
            go_wp2
            go_roundw
            case rel => exact ⟨k + 1, true, false, by omega, by go_num, rfl, rfl, HZ1, HZ2, Lib.hid (by first | exact Gen.dN HBr.out _ | exact Gen.dN (Gen.dN HBr.out _) _ | exact Gen.dN (Gen.dN (Gen.dN HBr.out _) _) _)⟩
            case measure => simp [RowKit.intOf]; omega
          · have e1 : (xi == fi) = true := by simp [q1]
            have e2 : (xn == fn) = true := by simp [q2]
            have e3 : decide (fp < xp) = true := decide_eq_true (by omega)
            have e5 : decide (xp ≤ period) = true := decide_eq_true (by omega)
            have e4 : (xp == fp) = false := by simp; omega
            have HZ1 : Hid (btw (l.take (k + 1)) ⟨fi, fn, fp, fv, fd⟩ period = true) := Lib.hid (by rw [HT1.out, H1.out, btwE_eq]; first | (simp [q1]; done) | (simp [q1, q2]; done) | (simp [q1, q2]; omega))
            have HZ2 : Hid (rst (l.take (k + 1)) ⟨fi, fn, fp, fv, fd⟩ = true) := Lib.hid (by rw [HT2.out, H2.out, lk3_eq]; first | (simp [q1]; done) | (simp [q1, q2]; done) | (simp [q1, q2]; omega))
            clear H1 H2 HT1 HT2
            go_wp2
            go_quiet (fail)
            go_wp2
            go_quiet (fail)
            go_wp2
            go_quiet (fail)
            go_wp2
            go_roundw
            case rel => exact ⟨k + 1, true, true, by omega, by go_num, rfl, rfl, HZ1, HZ2, Lib.hid (by first | exact Gen.dN HBr.out _ | exact Gen.dN (Gen.dN HBr.out _) _ | exact Gen.dN (Gen.dN (Gen.dN HBr.out _) _) _)⟩
            case measure => simp [RowKit.intOf]; omega
        cases z1 <;> cases z2
        · have e1 : (xi == fi) = true := by simp [q1]
          have e2 : (xn == fn) = true := by simp [q2]
          have e3 : decide (fp < xp) = true := decide_eq_true (by omega)
          have e5 : decide (xp ≤ period) = false := decide_eq_false (by omega)
          have e4 : (xp == fp) = false := by simp; omega
          have HZ1 : Hid (btw (l.take (k + 1)) ⟨fi, fn, fp, fv, fd⟩ period = false) := Lib.hid (by rw [HT1.out, H1.out, btwE_eq]; first | (simp [q1]; done) | (simp [q1, q2]; done) | (simp [q1, q2]; omega))
          have HZ2 : Hid (rst (l.take (k + 1)) ⟨fi, fn, fp, fv, fd⟩ = false) := Lib.hid (by rw [HT2.out, H2.out, lk3_eq]; first | (simp [q1]; done) | (simp [q1, q2]; done) | (simp [q1, q2]; omega))
          clear H1 H2 HT1 HT2
          go_wp2
          go_quiet (fail)
          go_wp2
          go_quiet (fail)
          go_wp2
          go_quiet (fail)
          go_wp2
          go_roundw
          case rel => exact ⟨k + 1, false, false, by omega, by go_num, rfl, rfl, HZ1, HZ2, Lib.hid (by first | exact Gen.dN HBr.out _ | exact Gen.dN (Gen.dN HBr.out _) _ | exact Gen.dN (Gen.dN (Gen.dN HBr.out _) _) _)⟩
          case measure => simp [RowKit.intOf]; omega
        · have e1 : (xi == fi) = true := by simp [q1]
          have e2 : (xn == fn) = true := by simp [q2]
          have e3 : decide (fp < xp) = true := decide_eq_true (by omega)
          have e5 : decide (xp ≤ period) = false := decide_eq_false (by omega)
          have e4 : (xp == fp) = false := by simp; omega
          have HZ1 : Hid (btw (l.take (k + 1)) ⟨fi, fn, fp, fv, fd⟩ period = false) := Lib.hid (by rw [HT1.out, H1.out, btwE_eq]; first | (simp [q1]; done) | (simp [q1, q2]; done) | (simp [q1, q2]; omega))
          have HZ2 : Hid (rst (l.take (k + 1)) ⟨fi, fn, fp, fv, fd⟩ = true) := Lib.hid (by rw [HT2.out, H2.out, lk3_eq]; first | (simp [q1]; done) | (simp [q1, q2]; done) | (simp [q1, q2]; omega))
          clear H1 H2 HT1 HT2
          go_wp2
          go_quiet (fail)
          go_wp2
          go_quiet (fail)
          go_wp2
          go_quiet (fail)
          go_wp2
          go_roundw
          case rel => exact ⟨k + 1, false, true, by omega, by go_num, rfl, rfl, HZ1, HZ2, Lib.hid (by first | exact Gen.dN HBr.out _ | exact Gen.dN (Gen.dN HBr.out _) _ | exact Gen.dN (Gen.dN (Gen.dN HBr.out _) _) _)⟩
          case measure => simp [RowKit.intOf]; omega
        · have e1 : (xi == fi) = true := by simp [q1]
          have e2 : (xn == fn) = true := by simp [q2]
          have e3 : decide (fp < xp) = true := decide_eq_true (by omega)
          have e5 : decide (xp ≤ period) = false := decide_eq_false (by omega)
          have e4 : (xp == fp) = false := by simp; omega
          have HZ1 : Hid (btw (l.take (k + 1)) ⟨fi, fn, fp, fv, fd⟩ period = true) := Lib.hid (by rw [HT1.out, H1.out, btwE_eq]; first | (simp [q1]; done) | (simp [q1, q2]; done) | (simp [q1, q2]; omega))
          have HZ2 : Hid (rst (l.take (k + 1)) ⟨fi, fn, fp, fv, fd⟩ = false) := Lib.hid (by rw [HT2.out, H2.out, lk3_eq]; first | (simp [q1]; done) | (simp [q1, q2]; done) | (simp [q1, q2]; omega))
          clear H1 H2 HT1 HT2
          go_wp2
          go_quiet (fail)
          go_wp2
          go_quiet (fail)
          go_wp2
          go_quiet (fail)
          go_wp2
          go_roundw
          case rel => exact ⟨k + 1, true, false, by omega, by go_num, rfl, rfl, HZ1, HZ2, Lib.hid (by first | exact Gen.dN HBr.out _ | exact Gen.dN (Gen.dN HBr.out _) _ | exact Gen.dN (Gen.dN (Gen.dN HBr.out _) _) _)⟩
          case measure => simp [RowKit.intOf]; omega
        · have e1 : (xi == fi) = true := by simp [q1]
          have e2 : (xn == fn) = true := by simp [q2]
          have e3 : decide (fp < xp) = true := decide_eq_true (by omega)
          have e5 : decide (xp ≤ period) = false := decide_eq_false (by omega)
          have e4 : (xp == fp) = false := by simp; omega
          have HZ1 : Hid (btw (l.take (k + 1)) ⟨fi, fn, fp, fv, fd⟩ period = true) := Lib.hid (by rw [HT1.out, H1.out, btwE_eq]; first | (simp [q1]; done) | (simp [q1, q2]; done) | (simp [q1, q2]; omega))
          have HZ2 : Hid (rst (l.take (k + 1)) ⟨fi, fn, fp, fv, fd⟩ = true) := Lib.hid (by rw [HT2.out, H2.out, lk3_eq]; first | (simp [q1]; done) | (simp [q1, q2]; done) | (simp [q1, q2]; omega))
          clear H1 H2 HT1 HT2
          go_wp2
          go_quiet (fail)
          go_wp2
          go_quiet (fail)
          go_wp2
          go_quiet (fail)
          go_wp2
          go_roundw
          case rel => exact ⟨k + 1, true, true, by omega, by go_num, rfl, rfl, HZ1, HZ2, Lib.hid (by first | exact Gen.dN HBr.out _ | exact Gen.dN (Gen.dN HBr.out _) _ | exact Gen.dN (Gen.dN (Gen.dN HBr.out _) _) _)⟩
          case measure => simp [RowKit.intOf]; omega
      · obtain rfl : n = k := by omega
        have hz1 := H1.out
        have hz2 := H2.out
        rw [List.take_of_length_le (by rw [HN.out]; exact Nat.le_refl _)] at hz1 hz2
        clear hlt H1 H2
        obtain ⟨hd, hp⟩ := HPD.out
        have HBw := Lib.hid (Gen.over HBr.out HB5.out)
        have HRS := Lib.hid (fun (W : World) (hb : Below w3.heap.size w3 W) => fRestated_any (c := c) HN.out (HC3.out.keep hb) (by omega) ⟨fi, fn, fp, fv, fd⟩)
        have HRS2 := Lib.hid (fun (W : World) (hb : Below w3.heap.size w3 W) => fRestated_any (c := c2) HLN.out (HR3.out.keep hb) (by omega) ⟨fi, fn, fp, fv, fd⟩)
        rw [hz2] at HRS
        rw [rst_new] at HRS2
        have hv : z1 = false → yv = fv := fun h => by have := HYF.out (hz1.trans h); injection this
        clear hz1 hz2 HV1 HV2 HYF
        have e0 : (fv != fv) = false := by simp
        cases z1
        · obtain rfl : yv = fv := hv rfl
          go_wp2_with (fail)
          go_must (refine (HRS.out _ HBw.out).mono ?_)
          rintro e w6 ⟨rfl, hb6⟩
          have hB6 := Gen.over hb6 HBw.out
          have HF6 := Lib.hid (HFr.out.keep hb6)
          have e2 : (z2 != z2) = false := by simp
          clear hb6 b0 b1 b2 b3 b4
          have b0 := HF6.out 0 _ rfl
          have b1 := HF6.out 1 _ rfl
          have b2 := HF6.out 2 _ rfl
          have b3 := HF6.out 3 _ rfl
          have b4 := HF6.out 4 _ rfl
          dsimp only at b0 b1 b2 b3 b4
          go_wp2_with (fail)
          go_must (refine (HRS2.out _ hB6).mono ?_)
          rintro e w7 ⟨rfl, hb7⟩
          have hB7 := Gen.over hb7 hB6
          have HF7 := Lib.hid (HF6.out.keep hb7)
          have hwd := HW.out
          clear hb7 b0 b1 b2 b3 b4 hB6 HF6 e2
          have b0 := HF7.out 0 _ rfl
          have b1 := HF7.out 1 _ rfl
          have b2 := HF7.out 2 _ rfl
          have b3 := HF7.out 3 _ rfl
          have b4 := HF7.out 4 _ rfl
          dsimp only at b0 b1 b2 b3 b4
          go_wp2_with (fail)
          go_must (refine (HVALo.out _ hB7 fp (fd - 1)).mono ?_)
          rintro e w8 ⟨rfl, hb8⟩
          have hB8 := Gen.over hb8 hB7
          have HF8 := Lib.hid (HF7.out.keep hb8)
          clear hb8 b0 b1 b2 b3 b4 hB7 HF7
          have b0 := HF8.out 0 _ rfl
          have b1 := HF8.out 1 _ rfl
          have b2 := HF8.out 2 _ rfl
          have b3 := HF8.out 3 _ rfl
          have b4 := HF8.out 4 _ rfl
          dsimp only at b0 b1 b2 b3 b4
          go_wp2_with (fail)
          go_must (refine (HVAL.out _ hB8 fp (fd - 1)).mono ?_)
          rintro e w9 ⟨rfl, hb9⟩
          have hB9 := Gen.over hb9 hB8
          rw [show valF (l ++ [⟨fi, fn, fp, yv, fd⟩]) fi fn fp (fd - 1) = valF l fi fn fp (fd - 1) from HV3.out]
          obtain ⟨o, ho⟩ : ∃ o, valF l fi fn fp (fd - 1) = o := ⟨_, rfl⟩
          obtain ⟨v, hvv⟩ : ∃ v, vI o = v := ⟨_, rfl⟩
          obtain ⟨z, hz⟩ : ∃ z, o.isSome = z := ⟨_, rfl⟩
          simp only [ho, hvv, hz]
          have e4 : (v == v) = true := by simp
          have e5 : (z == z) = true := by simp
          clear ho hvv hz hb9
          go_wp2
          go_ret
          exact ⟨rfl, Gen.over hB9 HB3.out⟩
        · clear hv
          go_wp2_with (fail)
          go_must (refine (HRS.out _ HBw.out).mono ?_)
          rintro e w6 ⟨rfl, hb6⟩
          have hB6 := Gen.over hb6 HBw.out
          have HF6 := Lib.hid (HFr.out.keep hb6)
          have e2 : (z2 != z2) = false := by simp
          clear hb6 b0 b1 b2 b3 b4
          have b0 := HF6.out 0 _ rfl
          have b1 := HF6.out 1 _ rfl
          have b2 := HF6.out 2 _ rfl
          have b3 := HF6.out 3 _ rfl
          have b4 := HF6.out 4 _ rfl
          dsimp only at b0 b1 b2 b3 b4
          go_wp2_with (fail)
          go_must (refine (HRS2.out _ hB6).mono ?_)
          rintro e w7 ⟨rfl, hb7⟩
          have hB7 := Gen.over hb7 hB6
          have HF7 := Lib.hid (HF6.out.keep hb7)
          have hwd := HW.out
          clear hb7 b0 b1 b2 b3 b4 hB6 HF6 e2
          have b0 := HF7.out 0 _ rfl
          have b1 := HF7.out 1 _ rfl
          have b2 := HF7.out 2 _ rfl
          have b3 := HF7.out 3 _ rfl
          have b4 := HF7.out 4 _ rfl
          dsimp only at b0 b1 b2 b3 b4
          go_wp2_with (fail)
          go_must (refine (HVALo.out _ hB7 fp (fd - 1)).mono ?_)
          rintro e w8 ⟨rfl, hb8⟩
          have hB8 := Gen.over hb8 hB7
          have HF8 := Lib.hid (HF7.out.keep hb8)
          clear hb8 b0 b1 b2 b3 b4 hB7 HF7
          have b0 := HF8.out 0 _ rfl
          have b1 := HF8.out 1 _ rfl
          have b2 := HF8.out 2 _ rfl
          have b3 := HF8.out 3 _ rfl
          have b4 := HF8.out 4 _ rfl
          dsimp only at b0 b1 b2 b3 b4
          go_wp2_with (fail)
          go_must (refine (HVAL.out _ hB8 fp (fd - 1)).mono ?_)
          rintro e w9 ⟨rfl, hb9⟩
          have hB9 := Gen.over hb9 hB8
          rw [show valF (l ++ [⟨fi, fn, fp, fv, fd⟩]) fi fn fp (fd - 1) = valF l fi fn fp (fd - 1) from HV3.out]
          obtain ⟨o, ho⟩ : ∃ o, valF l fi fn fp (fd - 1) = o := ⟨_, rfl⟩
          obtain ⟨v, hvv⟩ : ∃ v, vI o = v := ⟨_, rfl⟩
          obtain ⟨z, hz⟩ : ∃ z, o.isSome = z := ⟨_, rfl⟩
          simp only [ho, hvv, hz]
          have e4 : (v == v) = true := by simp
          have e5 : (z == z) = true := by simp
          clear ho hvv hz hb9
          go_wp2
          go_ret
          exact ⟨rfl, Gen.over hB9 HB3.out⟩
end Go.Proofs.Ytcnfonhcgcblgaa.Fc
