/- LexPlaces returns true: every string; no condition. -/
import Derived.Test.YtmineoilmmifiaaDoorLLxW
namespace Go.Proofs.YtmineoilmmifiaaDoor.Lx
open Go.Lib Go.ChangeShapes Go.WideShapes Go.ChangeAt Go.RowKit Go.Proofs.YtmineoilmmifiaaDoor.Cell
set_option linter.unusedVariables false
set_option linter.unusedSimpArgs false
set_option maxRecDepth 100000 in
set_option maxHeartbeats 2000000 in
theorem rblank_any : Kd 21 blk := by
  intro c W
  obtain ⟨X, hX⟩ : ∃ X, c.toNat = X := ⟨_, rfl⟩
  have HB : Hid (blk c = (decide (X = 9) || decide (X = 10) || decide (X = 32))) := Lib.hid (by
    unfold blk
    rw [show (9 : UInt8) = UInt8.ofNat 9 from rfl, show (10 : UInt8) = UInt8.ofNat 10 from rfl, show (32 : UInt8) = UInt8.ofNat 32 from rfl, eq_u8 (by decide), eq_u8 (by decide), eq_u8 (by decide), hX])
  rw [hX]
  clear hX
  go_enter Tryd.func21, Tryd.ntmps21
  by_cases h1 : X = 9
  · subst h1
    go_wp2
    go_ret
    exact ⟨by rw [HB.out]; rfl, rfl⟩
  · have h1I : ¬ (X : Int) = 9 := by omega
    by_cases h2 : X = 10
    · subst h2
      go_wp2
      go_ret
      exact ⟨by rw [HB.out]; rfl, rfl⟩
    · have h2I : ¬ (X : Int) = 10 := by omega
      by_cases h3 : X = 32
      · subst h3
        go_wp2
        go_ret
        exact ⟨by rw [HB.out]; rfl, rfl⟩
      · have h3I : ¬ (X : Int) = 32 := by omega
        go_wp2
        go_ret
        exact ⟨by rw [HB.out]; simp [h1, h2, h3]; omega, rfl⟩
theorem PlC.step {w : List UInt8} {E k : Nat} {ts : List Tk} {x : Tk} (h : PlC w E (ts.drop k)) (hx : ts[k]? = some x) : E ≤ x.p ∧ x.p + x.t.length ≤ w.length ∧ (∀ k c, E ≤ k → k < x.p → w[k]? = some c → blk c = true) ∧ (w.drop x.p).take x.t.length = x.t ∧ 0 < x.t.length ∧ (x.k = 0 ∨ x.k = 1 ∨ x.k = 2) ∧ (x.k ≠ 1 → x.n = 0) ∧ PlC w (x.p + x.t.length) (ts.drop (k + 1)) := by
  have hl := (List.getElem?_eq_some_iff.1 hx).1
  rw [List.drop_eq_getElem_cons hl, (List.getElem?_eq_some_iff.1 hx).2] at h
  exact h
section
variable {w : World} {l : List UInt8}
set_option maxRecDepth 100000 in
set_option maxHeartbeats 16000000 in
theorem places_any (hE : Ev w w) : Calls Tryd.prog 5 #[.string ⟨l.toArray⟩] w fun e w' => e = .returned (.bool true) ∧ Below w.heap.size w w' := by
  obtain ⟨s, hs⟩ : ∃ s, l.take 900 = s := ⟨_, rfl⟩
  have hsl : s.length ≤ 900 := by rw [← hs, List.length_take]; omega
  obtain ⟨ts, o, hx⟩ := lx_ex s.length 0 s (Nat.le_refl _)
  have HE := Lib.hid hE
  have HCut := Lib.hid (fun W => cut_any (W := W) (l := l))
  rw [hs] at HCut
  have HX := Lib.hid hx
  have hlen := lx_len hx
  have hz : (⟨s.toArray⟩ : ByteArray).size = s.length := by simp [ByteArray.size]
  clear hE hs hx
  go_enter Tryd.func5, Tryd.ntmps5
  go_wp2_with (fail)
  go_must (refine (small_any HE.out).mono ?_)
  rintro e w1 ⟨rfl, hb⟩
  have HB := Lib.hid hb
  clear hb
  dsimp only
  go_wp2_with (fail)
  go_must (refine (HCut.out _).mono ?_)
  rintro e w2 ⟨rfl, hw⟩
  have hw := hw.symm
  subst hw
  dsimp only
  go_wp2_with (fail)
  go_must (refine (lex_any (HE.out.keep HB.out) (by omega)).mono ?_)
  intro e w2 h
  cases o with
  | some y =>
    obtain ⟨q, x⟩ := y
    have hx3 := lx_errx HX.out q x rfl
    have hx0 : ¬ x = 0 := by omega
    obtain ⟨rfl, hb⟩ := lexP_err HX.out h
    replace HB := Lib.hid (Gen.over hb HB.out)
    obtain ⟨_, hq, _, _⟩ := lx_take HX.out rfl
    have q0 : (0 : Int) ≤ (q : Int) := by omega
    have q1 : (q : Int) < (s.length : Int) := by omega
    clear h hb hx3
    dsimp only
    go_wp2
    go_ret
    exact ⟨rfl, HB.out⟩
  | none =>
    obtain ⟨⟨A, c, rfl, ho⟩, hb⟩ := lexP_ok HX.out h
    replace HB := Lib.hid (Gen.over hb HB.out)
    have HT1 := Lib.hid (own_tgs ho (by rw [List.length_append]; rfl))
    have HP := Lib.hid (lx_plc (w := s) HX.out rfl (by rw [List.drop_zero]) (Nat.zero_le _))
    obtain ⟨n, hn⟩ : ∃ n, ts.length = n := ⟨_, rfl⟩
    have HN := Lib.hid hn
    rw [hn]
    have hn9 : n ≤ 900 := by omega
    clear h hb ho hn hlen
    dsimp only
    go_wp2
    go_loopw [8, 9] (fun ev iv wr => ∃ (k E : Nat), k ≤ n + 1 ∧ iv = .int .i64 (k : Int) ∧ ev = .int .i64 (E : Int) ∧ E ≤ s.length ∧ Hid (k ≤ n → PlC s E (ts.drop k)) ∧ (k = n + 1 → E = s.length) ∧ Hid (Below w2.heap.size w2 wr)) (fun _ iv _ => n + 1 - (RowKit.intOf iv).toNat)
    case atStart => exact ⟨0, 0, Nat.zero_le _, rfl, rfl, Nat.zero_le _, Lib.hid (fun _ => HP.out), fun h => absurd h (by omega), Lib.hid (Below.refl _ _)⟩
    case round =>
      obtain ⟨k, E, hk, rfl, rfl, hE, HC, hkE, HQ⟩ := hrel
      have k0 : (0 : Int) ≤ (k : Int) := by omega
      have e0 : (0 : Int) ≤ (E : Int) := by omega
      by_cases hlt : k < n + 1
      · have hltI : (k : Int) < (n : Int) + 1 := by omega
        have hw1 : IntKind.i64.wrap ((n : Int) + 1 - 1) = (n : Int) := by rw [IntWalk.i64_in _ (by omega)]; omega
        clear hkE
        by_cases hkn : k < n
        · have hknI : ¬ (k : Int) = (n : Int) := by omega
          obtain ⟨x, hx⟩ := at_ ts k (by rw [HN.out]; exact hkn)
          have hxa : ((ts ++ [endT s.length]).map tg)[k]? = some (tg x) := by
            rw [List.getElem?_map, List.getElem?_append_left (by rw [HN.out]; exact hkn), hx]
            rfl
          obtain ⟨p1, p2, p3, p4, p5, p6, p7, p8⟩ := (HC.out (by omega)).step hx
          obtain ⟨K, T, N, P⟩ := x
          dsimp only at p1 p2 p3 p4 p5 p6 p7 p8
          rcases p6 with rfl | rfl | rfl
          · have hN0 := p7 (by decide)
            subst hN0
            have HXA := Lib.hid hxa
            obtain ⟨b, off, rfl, hcell⟩ := (HT1.out.keep HQ.out) (by simp)
            obtain ⟨d0, d1, d2, d3⟩ := hcell k _ hxa
            simp only [tg] at d0 d1 d2 d3
            have HP3 := Lib.hid p3
            have HQa := Lib.hid (show Below w2.heap.size w2 (wr.alloc (.cells #[.int .i64 0, .string ⟨T.toArray⟩, .int .i64 0, .int .i64 (P : Int)] 25)) from Gen.b_alloc HQ.out)
            have hra := Row.new wr 25 #[.int .i64 0, .string ⟨T.toArray⟩, .int .i64 0, .int .i64 (P : Int)]
            have HRa := Lib.hid hra
            have hzT : (⟨T.toArray⟩ : ByteArray).size = T.length := by simp [ByteArray.size]
            have hwT : IntKind.i64.wrap ((s.length : Int) - (T.length : Int)) = ((s.length - T.length : Nat) : Int) := by rw [IntWalk.i64_in _ (by omega)]; omega
            have i1 : ¬ (P : Int) < (E : Int) := by omega
            obtain ⟨D, hD⟩ : ∃ D, s.length - T.length = D := ⟨_, rfl⟩
            rw [hD] at hwT
            have i2 : ¬ ((D : Int) < (P : Int)) := by omega
            have hTe : T.isEmpty = false := by
              cases T with
              | nil => exact absurd p5 (by decide)
              | cons _ _ => rfl
            have hke : ((k : Int) == (n : Int)) = false := by rw [beq_eq_false_iff_ne]; omega
            have hT0 : ¬ T = [] := fun h => by rw [h] at p5; exact absurd p5 (by decide)
            obtain ⟨R, hR⟩ : ∃ R, P + T.length = R := ⟨_, rfl⟩
            have hwR : IntKind.i64.wrap ((P : Int) + (T.length : Int)) = (R : Int) := by rw [IntWalk.i64_in _ (by omega)]; omega
            have r0 : (0 : Int) ≤ (P : Int) := by omega
            have r1 : (P : Int) ≤ (R : Int) := by omega
            have r2 : (R : Int) ≤ (s.length : Int) := by omega
            have hAl : ((⟨s.toArray⟩ : ByteArray).extract P R).toList = T := by
              rw [Lib.toList_data, Lib.extract_data]
              show (s.drop P).take (R - P) = T
              rw [show R - P = T.length by omega]
              exact p4
            have hself : (T == T) = true := beq_self_eq_true _
            rw [hR] at p8
            have HP8 := Lib.hid p8
            clear p8 hD
            clear hra hcell hxa p3
            go_upto_region 11 with (fail)
            generalize wr.alloc (.cells #[.int .i64 0, .string ⟨T.toArray⟩, .int .i64 0, .int .i64 (P : Int)] 25) = wa at *
            clear d0 d1 d2 d3
            have f0 := Row.cell HRa.out 0
            have f1 := Row.cell HRa.out 1
            have f2 := Row.cell HRa.out 2
            have f3 := Row.cell HRa.out 3
            go_wp2
            go_quiet (fail)
            have HQb := Lib.hid (show Below w2.heap.size w2 (wa.drewN nq) from Gen.dN HQa.out nq)
            have HRb := Lib.hid (HRa.out.keep (Gen.dN (Below.refl _ _) nq))
            clear f0 f1 f2 f3
            generalize wa.drewN nq = wb at *
            have f0 := Row.cell HRb.out 0
            have f1 := Row.cell HRb.out 1
            have f2 := Row.cell HRb.out 2
            have f3 := Row.cell HRb.out 3
            go_wp2
            go_loopw [11] (fun kv wq => ∃ m : Nat, E ≤ m ∧ m ≤ P ∧ kv = .int .i64 (m : Int) ∧ wq = wb) (fun kv _ => P - (RowKit.intOf kv).toNat)
            case atStart => exact ⟨E, Nat.le_refl _, p1, rfl, rfl⟩
            case round =>
              obtain ⟨m, hm1, hm2, rfl, hw⟩ := hrel
              have hw := hw.symm
              subst hw
              have m0 : (0 : Int) ≤ (m : Int) := by omega
              by_cases hmp : m < P
              · have hmI : (m : Int) < (P : Int) := by omega
                have hms : m < s.length := by omega
                have hmsI : (m : Int) < (s.length : Int) := by omega
                obtain ⟨y, hy⟩ := at_ s m hms
                have hgc : (⟨s.toArray⟩ : ByteArray)[m]'(by rw [hz]; exact hms) = y := by
                  have h1 := at_str (s := ⟨s.toArray⟩) (l := s) (k := m) rfl (by rw [hz]; exact hms)
                  rw [hy] at h1
                  injection h1 with h1
                  exact h1.symm
                have hyb : blk y = true := HP3.out m y hm1 hmp hy
                clear hy
                go_wp2_with (fail)
                go_must (refine (rblank_any y _).mono ?_)
                rintro e w9 ⟨rfl, hw⟩
                have hw := hw.symm
                subst hw
                rw [hyb]
                dsimp only
                go_wp2
                go_roundw
                case rel => exact ⟨m + 1, by omega, by omega, by go_num, by first | rfl | trivial⟩
                case measure => simp [RowKit.intOf]; omega
              · obtain rfl : m = P := by omega
                go_wp2
                go_roundw
                case rel => exact ⟨k + 1, R, by omega, by go_num, by go_num, by omega, Lib.hid (fun _ => HP8.out), fun h => by omega, HQb⟩
                case measure => simp [RowKit.intOf]; omega
          · have HXA := Lib.hid hxa
            obtain ⟨b, off, rfl, hcell⟩ := (HT1.out.keep HQ.out) (by simp)
            obtain ⟨d0, d1, d2, d3⟩ := hcell k _ hxa
            simp only [tg] at d0 d1 d2 d3
            have HP3 := Lib.hid p3
            have HQa := Lib.hid (show Below w2.heap.size w2 (wr.alloc (.cells #[.int .i64 1, .string ⟨T.toArray⟩, .int .i64 N, .int .i64 (P : Int)] 25)) from Gen.b_alloc HQ.out)
            have hra := Row.new wr 25 #[.int .i64 1, .string ⟨T.toArray⟩, .int .i64 N, .int .i64 (P : Int)]
            have HRa := Lib.hid hra
            have hzT : (⟨T.toArray⟩ : ByteArray).size = T.length := by simp [ByteArray.size]
            have hwT : IntKind.i64.wrap ((s.length : Int) - (T.length : Int)) = ((s.length - T.length : Nat) : Int) := by rw [IntWalk.i64_in _ (by omega)]; omega
            have i1 : ¬ (P : Int) < (E : Int) := by omega
            obtain ⟨D, hD⟩ : ∃ D, s.length - T.length = D := ⟨_, rfl⟩
            rw [hD] at hwT
            have i2 : ¬ ((D : Int) < (P : Int)) := by omega
            have hTe : T.isEmpty = false := by
              cases T with
              | nil => exact absurd p5 (by decide)
              | cons _ _ => rfl
            have hke : ((k : Int) == (n : Int)) = false := by rw [beq_eq_false_iff_ne]; omega
            have hT0 : ¬ T = [] := fun h => by rw [h] at p5; exact absurd p5 (by decide)
            obtain ⟨R, hR⟩ : ∃ R, P + T.length = R := ⟨_, rfl⟩
            have hwR : IntKind.i64.wrap ((P : Int) + (T.length : Int)) = (R : Int) := by rw [IntWalk.i64_in _ (by omega)]; omega
            have r0 : (0 : Int) ≤ (P : Int) := by omega
            have r1 : (P : Int) ≤ (R : Int) := by omega
            have r2 : (R : Int) ≤ (s.length : Int) := by omega
            have hAl : ((⟨s.toArray⟩ : ByteArray).extract P R).toList = T := by
              rw [Lib.toList_data, Lib.extract_data]
              show (s.drop P).take (R - P) = T
              rw [show R - P = T.length by omega]
              exact p4
            have hself : (T == T) = true := beq_self_eq_true _
            rw [hR] at p8
            have HP8 := Lib.hid p8
            clear p8 hD
            clear hra hcell hxa p3
            go_upto_region 11 with (fail)
            generalize wr.alloc (.cells #[.int .i64 1, .string ⟨T.toArray⟩, .int .i64 N, .int .i64 (P : Int)] 25) = wa at *
            clear d0 d1 d2 d3
            have f0 := Row.cell HRa.out 0
            have f1 := Row.cell HRa.out 1
            have f2 := Row.cell HRa.out 2
            have f3 := Row.cell HRa.out 3
            go_wp2
            go_quiet (fail)
            have HQb := Lib.hid (show Below w2.heap.size w2 (wa.drewN nq) from Gen.dN HQa.out nq)
            have HRb := Lib.hid (HRa.out.keep (Gen.dN (Below.refl _ _) nq))
            clear f0 f1 f2 f3
            generalize wa.drewN nq = wb at *
            have f0 := Row.cell HRb.out 0
            have f1 := Row.cell HRb.out 1
            have f2 := Row.cell HRb.out 2
            have f3 := Row.cell HRb.out 3
            go_wp2
            go_loopw [11] (fun kv wq => ∃ m : Nat, E ≤ m ∧ m ≤ P ∧ kv = .int .i64 (m : Int) ∧ wq = wb) (fun kv _ => P - (RowKit.intOf kv).toNat)
            case atStart => exact ⟨E, Nat.le_refl _, p1, rfl, rfl⟩
            case round =>
              obtain ⟨m, hm1, hm2, rfl, hw⟩ := hrel
              have hw := hw.symm
              subst hw
              have m0 : (0 : Int) ≤ (m : Int) := by omega
              by_cases hmp : m < P
              · have hmI : (m : Int) < (P : Int) := by omega
                have hms : m < s.length := by omega
                have hmsI : (m : Int) < (s.length : Int) := by omega
                obtain ⟨y, hy⟩ := at_ s m hms
                have hgc : (⟨s.toArray⟩ : ByteArray)[m]'(by rw [hz]; exact hms) = y := by
                  have h1 := at_str (s := ⟨s.toArray⟩) (l := s) (k := m) rfl (by rw [hz]; exact hms)
                  rw [hy] at h1
                  injection h1 with h1
                  exact h1.symm
                have hyb : blk y = true := HP3.out m y hm1 hmp hy
                clear hy
                go_wp2_with (fail)
                go_must (refine (rblank_any y _).mono ?_)
                rintro e w9 ⟨rfl, hw⟩
                have hw := hw.symm
                subst hw
                rw [hyb]
                dsimp only
                go_wp2
                go_roundw
                case rel => exact ⟨m + 1, by omega, by omega, by go_num, by first | rfl | trivial⟩
                case measure => simp [RowKit.intOf]; omega
              · obtain rfl : m = P := by omega
                go_wp2
                go_roundw
                case rel => exact ⟨k + 1, R, by omega, by go_num, by go_num, by omega, Lib.hid (fun _ => HP8.out), fun h => by omega, HQb⟩
                case measure => simp [RowKit.intOf]; omega
          · have hN0 := p7 (by decide)
            subst hN0
            have HXA := Lib.hid hxa
            obtain ⟨b, off, rfl, hcell⟩ := (HT1.out.keep HQ.out) (by simp)
            obtain ⟨d0, d1, d2, d3⟩ := hcell k _ hxa
            simp only [tg] at d0 d1 d2 d3
            have HP3 := Lib.hid p3
            have HQa := Lib.hid (show Below w2.heap.size w2 (wr.alloc (.cells #[.int .i64 2, .string ⟨T.toArray⟩, .int .i64 0, .int .i64 (P : Int)] 25)) from Gen.b_alloc HQ.out)
            have hra := Row.new wr 25 #[.int .i64 2, .string ⟨T.toArray⟩, .int .i64 0, .int .i64 (P : Int)]
            have HRa := Lib.hid hra
            have hzT : (⟨T.toArray⟩ : ByteArray).size = T.length := by simp [ByteArray.size]
            have hwT : IntKind.i64.wrap ((s.length : Int) - (T.length : Int)) = ((s.length - T.length : Nat) : Int) := by rw [IntWalk.i64_in _ (by omega)]; omega
            have i1 : ¬ (P : Int) < (E : Int) := by omega
            obtain ⟨D, hD⟩ : ∃ D, s.length - T.length = D := ⟨_, rfl⟩
            rw [hD] at hwT
            have i2 : ¬ ((D : Int) < (P : Int)) := by omega
            have hTe : T.isEmpty = false := by
              cases T with
              | nil => exact absurd p5 (by decide)
              | cons _ _ => rfl
            have hke : ((k : Int) == (n : Int)) = false := by rw [beq_eq_false_iff_ne]; omega
            have hT0 : ¬ T = [] := fun h => by rw [h] at p5; exact absurd p5 (by decide)
            obtain ⟨R, hR⟩ : ∃ R, P + T.length = R := ⟨_, rfl⟩
            have hwR : IntKind.i64.wrap ((P : Int) + (T.length : Int)) = (R : Int) := by rw [IntWalk.i64_in _ (by omega)]; omega
            have r0 : (0 : Int) ≤ (P : Int) := by omega
            have r1 : (P : Int) ≤ (R : Int) := by omega
            have r2 : (R : Int) ≤ (s.length : Int) := by omega
            have hAl : ((⟨s.toArray⟩ : ByteArray).extract P R).toList = T := by
              rw [Lib.toList_data, Lib.extract_data]
              show (s.drop P).take (R - P) = T
              rw [show R - P = T.length by omega]
              exact p4
            have hself : (T == T) = true := beq_self_eq_true _
            rw [hR] at p8
            have HP8 := Lib.hid p8
            clear p8 hD
            clear hra hcell hxa p3
            go_upto_region 11 with (fail)
            generalize wr.alloc (.cells #[.int .i64 2, .string ⟨T.toArray⟩, .int .i64 0, .int .i64 (P : Int)] 25) = wa at *
            clear d0 d1 d2 d3
            have f0 := Row.cell HRa.out 0
            have f1 := Row.cell HRa.out 1
            have f2 := Row.cell HRa.out 2
            have f3 := Row.cell HRa.out 3
            go_wp2
            go_quiet (fail)
            have HQb := Lib.hid (show Below w2.heap.size w2 (wa.drewN nq) from Gen.dN HQa.out nq)
            have HRb := Lib.hid (HRa.out.keep (Gen.dN (Below.refl _ _) nq))
            clear f0 f1 f2 f3
            generalize wa.drewN nq = wb at *
            have f0 := Row.cell HRb.out 0
            have f1 := Row.cell HRb.out 1
            have f2 := Row.cell HRb.out 2
            have f3 := Row.cell HRb.out 3
            go_wp2
            go_loopw [11] (fun kv wq => ∃ m : Nat, E ≤ m ∧ m ≤ P ∧ kv = .int .i64 (m : Int) ∧ wq = wb) (fun kv _ => P - (RowKit.intOf kv).toNat)
            case atStart => exact ⟨E, Nat.le_refl _, p1, rfl, rfl⟩
            case round =>
              obtain ⟨m, hm1, hm2, rfl, hw⟩ := hrel
              have hw := hw.symm
              subst hw
              have m0 : (0 : Int) ≤ (m : Int) := by omega
              by_cases hmp : m < P
              · have hmI : (m : Int) < (P : Int) := by omega
                have hms : m < s.length := by omega
                have hmsI : (m : Int) < (s.length : Int) := by omega
                obtain ⟨y, hy⟩ := at_ s m hms
                have hgc : (⟨s.toArray⟩ : ByteArray)[m]'(by rw [hz]; exact hms) = y := by
                  have h1 := at_str (s := ⟨s.toArray⟩) (l := s) (k := m) rfl (by rw [hz]; exact hms)
                  rw [hy] at h1
                  injection h1 with h1
                  exact h1.symm
                have hyb : blk y = true := HP3.out m y hm1 hmp hy
                clear hy
                go_wp2_with (fail)
                go_must (refine (rblank_any y _).mono ?_)
                rintro e w9 ⟨rfl, hw⟩
                have hw := hw.symm
                subst hw
                rw [hyb]
                dsimp only
                go_wp2
                go_roundw
                case rel => exact ⟨m + 1, by omega, by omega, by go_num, by first | rfl | trivial⟩
                case measure => simp [RowKit.intOf]; omega
              · obtain rfl : m = P := by omega
                go_wp2
                go_roundw
                case rel => exact ⟨k + 1, R, by omega, by go_num, by go_num, by omega, Lib.hid (fun _ => HP8.out), fun h => by omega, HQb⟩
                case measure => simp [RowKit.intOf]; omega
        · obtain rfl : k = n := by omega
          have hknI : (k : Int) = (k : Int) := rfl
          have hxa : ((ts ++ [endT s.length]).map tg)[k]? = some (tg (endT s.length)) := by
            rw [List.getElem?_map, List.getElem?_append_right (by rw [HN.out]; exact Nat.le_refl _), HN.out, Nat.sub_self]
            rfl
          have hpl : PlC s E [] := by
            have h := HC.out (by omega)
            rw [List.drop_of_length_le (by rw [HN.out]; exact Nat.le_refl _)] at h
            exact h
          obtain ⟨_, p3'⟩ := hpl
          have p3 : ∀ m y, E ≤ m → m < s.length → s[m]? = some y → blk y = true := fun m y h1 _ h2 => p3' m y h1 h2
          have HXA := Lib.hid hxa
          obtain ⟨b, off, rfl, hcell⟩ := (HT1.out.keep HQ.out) (by simp)
          obtain ⟨d0, d1, d2, d3⟩ := hcell k _ hxa
          simp only [tg, endT] at d0 d1 d2 d3
          have HP3 := Lib.hid p3
          have HQa := Lib.hid (show Below w2.heap.size w2 (wr.alloc (.cells #[.int .i64 3, .string ⟨#[]⟩, .int .i64 0, .int .i64 (s.length : Int)] 25)) from Gen.b_alloc HQ.out)
          have hra := Row.new wr 25 #[.int .i64 3, .string ⟨#[]⟩, .int .i64 0, .int .i64 (s.length : Int)]
          have HRa := Lib.hid hra
          have i1 : ¬ (s.length : Int) < (E : Int) := by omega
          have hkk : ((k : Int) == (k : Int)) = true := by simp
          have r0 : (0 : Int) ≤ (s.length : Int) := by omega
          have hwS : IntKind.i64.wrap (s.length : Int) = (s.length : Int) := IntWalk.i64_in _ (by omega)
          have hAl : ((⟨s.toArray⟩ : ByteArray).extract s.length s.length).toList = [] := by
            rw [Lib.toList_data, Lib.extract_data, Nat.sub_self, List.take_zero]
          have hself : (([] : List UInt8) == ([] : List UInt8)) = true := rfl
          clear hra hcell hxa p3
          go_upto_region 11 with (fail)
          generalize wr.alloc (.cells #[.int .i64 3, .string ⟨#[]⟩, .int .i64 0, .int .i64 (s.length : Int)] 25) = wa at *
          clear d0 d1 d2 d3
          have f0 := Row.cell HRa.out 0
          have f1 := Row.cell HRa.out 1
          have f2 := Row.cell HRa.out 2
          have f3 := Row.cell HRa.out 3
          go_wp2
          go_quiet (fail)
          have HQb := Lib.hid (show Below w2.heap.size w2 (wa.drewN nq) from Gen.dN HQa.out nq)
          have HRb := Lib.hid (HRa.out.keep (Gen.dN (Below.refl _ _) nq))
          clear f0 f1 f2 f3
          generalize wa.drewN nq = wb at *
          have f0 := Row.cell HRb.out 0
          have f1 := Row.cell HRb.out 1
          have f2 := Row.cell HRb.out 2
          have f3 := Row.cell HRb.out 3
          go_wp2
          go_loopw [11] (fun kv wq => ∃ m : Nat, E ≤ m ∧ m ≤ s.length ∧ kv = .int .i64 (m : Int) ∧ wq = wb) (fun kv _ => s.length - (RowKit.intOf kv).toNat)
          case atStart => exact ⟨E, Nat.le_refl _, hE, rfl, rfl⟩
          case round =>
            obtain ⟨m, hm1, hm2, rfl, hw⟩ := hrel
            have hw := hw.symm
            subst hw
            have m0 : (0 : Int) ≤ (m : Int) := by omega
            by_cases hmp : m < s.length
            · have hmI : (m : Int) < (s.length : Int) := by omega
              have hms : m < s.length := by omega
              have hmsI : (m : Int) < (s.length : Int) := by omega
              obtain ⟨y, hy⟩ := at_ s m hms
              have hgc : (⟨s.toArray⟩ : ByteArray)[m]'(by rw [hz]; exact hms) = y := by
                have h1 := at_str (s := ⟨s.toArray⟩) (l := s) (k := m) rfl (by rw [hz]; exact hms)
                rw [hy] at h1
                injection h1 with h1
                exact h1.symm
              have hyb : blk y = true := HP3.out m y hm1 hmp hy
              clear hy
              go_wp2_with (fail)
              go_must (refine (rblank_any y _).mono ?_)
              rintro e w9 ⟨rfl, hw⟩
              have hw := hw.symm
              subst hw
              rw [hyb]
              dsimp only
              go_wp2
              go_roundw
              case rel => exact ⟨m + 1, by omega, by omega, by go_num, by first | rfl | trivial⟩
              case measure => simp [RowKit.intOf]; omega
            · obtain rfl : m = s.length := by omega
              go_wp2
              go_roundw
              case rel => exact ⟨k + 1, s.length, by omega, by go_num, by go_num, Nat.le_refl _, Lib.hid (fun h => absurd h (by omega)), fun _ => rfl, HQb⟩
              case measure => simp [RowKit.intOf]
      · obtain rfl : k = n + 1 := by omega
        have hEs := hkE rfl
        subst hEs
        have HBz := Lib.hid (Gen.over HQ.out HB.out)
        go_wp2
        go_ret
        exact ⟨rfl, HBz.out⟩
end
end Go.Proofs.YtmineoilmmifiaaDoor.Lx
