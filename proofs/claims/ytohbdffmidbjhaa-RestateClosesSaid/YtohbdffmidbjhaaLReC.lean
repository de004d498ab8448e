/- Restatements: RestateCloses. -/
import Derived.Test.YtohbdffmidbjhaaLReCl
import Derived.BigRegion
namespace Go.Proofs.Ytohbdffmidbjhaa.Re
open Go.ChangeShapes Go.WideShapes Go.ChangeAt Go.RowKit Go.Maps Go.Proofs.Ytohbdffmidbjhaa.Cell Go.Proofs.Ytohbdffmidbjhaa.Rk
set_option linter.unusedVariables false
set_option linter.unusedSimpArgs false
set_option maxRecDepth 100000 in
set_option maxHeartbeats 16000000 in
theorem closes_any {w : World} {A Af As : Option Addr} {n c nf cf ns cs : Nat} {l : List Dv} {facts set : List Int} (hn : l.length = n) (hc : Dvs w A l) (hnf : facts.length = nf) (hcf : Ints w Af facts) (hns : set.length = ns) (hcs : Ints w As set)
    (hbig : n ≤ 9223372036854775807) (hbf : nf ≤ 9223372036854775807) (hbs : ns ≤ 9223372036854775807) (hin : ∀ d ∈ l, d.fr.length ≤ 9223372036854775807 ∧ d.fa.length ≤ 9223372036854775807) (hwf : ∀ x ∈ facts, wfI x) (hwd : ∀ d ∈ l, ∀ x ∈ d.fa, wfI x) :
    Calls Try.prog 4 #[.slice A n c, .slice Af nf cf, .slice As ns cs] w fun e w' => e = .returned (.bool true) ∧ Below w.heap.size w w' := by
  have HN := Lib.hid hn
  have HC := Lib.hid hc
  have HNF := Lib.hid hnf
  have HCF := Lib.hid hcf
  have HNS := Lib.hid hns
  have HCS := Lib.hid hcs
  have HIN := Lib.hid hin
  have HWF := Lib.hid hwf
  have HWD := Lib.hid hwd
  clear hn hc hnf hcf hns hcs hin hwf hwd
  go_enter Try.func4, Try.ntmps4
  go_wp2_with (fail)
  go_must (refine (small_any _).mono ?_)
  rintro e w1 ⟨rfl, hb⟩
  have HB1 := Lib.hid hb
  have HC := Lib.hid (HC.out.keep hb)
  have HCF := Lib.hid (HCF.out.keep hb)
  have HCS := Lib.hid (HCS.out.keep hb)
  clear hb
  go_wp2_with (fail)
  go_must (refine (few_any (m := 30) HN.out HC.out hbig (by omega) HIN.out).mono ?_)
  rintro e w2 ⟨rfl, rfl⟩
  cases hfew : fewB l 30
  · clear hfew
    go_wp2
    go_ret
    exact ⟨rfl, HB1.out⟩
  have hfw := hfew
  unfold fewB at hfw
  rw [Bool.and_eq_true, decide_eq_true_eq, HN.out] at hfw
  have HSH : Hid (∀ d ∈ l, d.fr.length ≤ 20 ∧ d.fa.length ≤ 20) := Lib.hid (fun d hd => by
    have := List.all_eq_true.1 hfw.2 d hd
    unfold shB at this
    simpa using this)
  have hn30 : n ≤ 30 := hfw.1
  clear hfw hfew hbig
  by_cases hf20 : nf ≤ 20
  case neg =>
    have h1 : (20 : Int) < (nf : Int) := by omega
    clear hf20
    go_wp2
    go_ret
    exact ⟨rfl, HB1.out⟩
  have hf20I : ¬ ((20 : Int) < (nf : Int)) := by omega
  by_cases hs40 : ns ≤ 40
  case neg =>
    have h1 : (40 : Int) < (ns : Int) := by omega
    clear hs40
    go_wp2
    go_ret
    exact ⟨rfl, HB1.out⟩
  have hs40I : ¬ ((40 : Int) < (ns : Int)) := by omega
  clear hbf hbs
  go_wp2_with (fail)
  go_must (refine (right_any HN.out HC.out (by omega) HIN.out).mono ?_)
  rintro e w3 ⟨rfl, hb⟩
  have HB3 := Lib.hid (Gen.over hb HB1.out)
  have HC := Lib.hid (HC.out.keep hb)
  have HCF := Lib.hid (HCF.out.keep hb)
  have HCS := Lib.hid (HCS.out.keep hb)
  clear hb HB1
  cases hrg : rgB l
  · clear hrg
    go_wp2
    go_ret
    exact ⟨rfl, HB3.out⟩
  have HRG := Lib.hid hrg
  clear hrg hf20I hs40I
  go_wp2_with (fail)
  go_must (refine (changed_l HN.out HC.out HNF.out HCF.out (by omega) (by omega) (fun d hd => by have := HSH.out d hd; omega) HWF.out HWD.out).mono ?_)
  rintro e w2 ⟨B8, m, d8, hm, rfl, hi, hb⟩
  have hml := chg_le facts l
  rw [← hm, HN.out] at hml
  rw [chg_yes HRG.out] at hm hi
  have hasc := ch_asc facts l l.length
  rw [HN.out] at hasc
  obtain ⟨I, hI⟩ : ∃ I, ch facts l l.length = I := ⟨_, rfl⟩
  rw [HN.out] at hI
  rw [HN.out, hI] at hm hi
  rw [hI] at hasc
  have HII : Hid (ch facts l l.length = I) := Lib.hid (by rw [HN.out]; exact hI)
  have HM := Lib.hid hm.symm
  have HI := Lib.hid hi
  have HASC := Lib.hid hasc
  have HB2 := Lib.hid (Gen.over hb HB3.out)
  have HC := Lib.hid (HC.out.keep hb)
  have HF2 := Lib.hid (HCF.out.keep hb)
  have HS9 := Lib.hid (HCS.out.keep hb)
  clear hm hi hb HB3 hI hasc HCF HCS HIN
  have HIN := HSH
  go_wp2_with (fail)
  go_loopw [9, 10] (fun cv iv wr => ∃ (k : Nat) (cl : Bool), k ≤ n ∧ iv = .int .i64 k ∧ cv = .bool cl ∧ Hid (cl = clB facts set l k) ∧ w2 = wr) (fun _ iv _ => n - (intOf iv).toNat)
  case atStart => exact ⟨0, true, Nat.zero_le _, rfl, rfl, Lib.hid rfl, rfl⟩
  case round =>
    obtain ⟨k, cl, hk, rfl, rfl, HCB, rfl⟩ := hrel
    have k0 : (0 : Int) ≤ (k : Int) := by omega
    by_cases hlt : k < n
    · have hltI : (k : Int) < (n : Int) := by omega
      obtain ⟨⟨fr, fa⟩, hx⟩ := at_ l k (by rw [HN.out]; exact hlt)
      obtain ⟨g, off, rfl, hcell⟩ := HC.out (by rw [HN.out]; omega)
      obtain ⟨A1, c1, A2, c2, hd⟩ := hcell k _ hx
      obtain ⟨L1, L2⟩ := HIN.out _ (mem_of_at hx)
      dsimp only at L1 L2
      have d0 := hd.k0
      have d1 := hd.k1
      dsimp only at d0 d1
      obtain ⟨n1, hn1⟩ : ∃ n1, fr.length = n1 := ⟨_, rfl⟩
      obtain ⟨n2, hn2⟩ : ∃ n2, fa.length = n2 := ⟨_, rfl⟩
      rw [hn1] at d0 L1
      rw [hn2] at d1 L2
      have HN1 := Lib.hid hn1
      have HN2 := Lib.hid hn2
      have HFR := Lib.hid hd.fr
      have HFA := Lib.hid hd.fa
      have HX := Lib.hid hx
      have HEQ := Lib.hid (ch_eq (facts := facts) HRG.out hx)
      have HCL := Lib.hid (clB_next (facts := facts) (set := set) hx)
      clear hcell hx hd hn1 hn2 hlt
      go_wp2_with (fail)
      go_loopw [11, 14] (fun ov jv wr => ∃ (j : Nat) (o : Bool), j ≤ n2 ∧ jv = .int .i64 j ∧ ov = .bool o ∧ Hid (o = (fa.take j).any fun f => facts.contains f) ∧ w2 = wr) (fun _ jv _ => n2 - (intOf jv).toNat)
      case atStart => exact ⟨0, false, Nat.zero_le _, rfl, rfl, Lib.hid (by simp), rfl⟩
      case round =>
        obtain ⟨j, o, hj, rfl, rfl, HO, rfl⟩ := hrel
        have j0 : (0 : Int) ≤ (j : Int) := by omega
        by_cases hlt : j < n2
        · have hltJ : (j : Int) < (n2 : Int) := by omega
          obtain ⟨x, hx⟩ := at_ fa j (by rw [HN2.out]; exact hlt)
          obtain ⟨b, of2, rfl, hcell⟩ := HFA.out (by rw [HN2.out]; omega)
          have c0 := hcell j x hx
          have HS := Lib.hid (any_snoc (p := fun f => facts.contains f) hx)
          clear hcell hx hlt
          cases o
          · go_wp2_with (fail)
            go_must (refine (has_any HNF.out HF2.out (by omega) x).mono ?_)
            rintro e w3 ⟨rfl, rfl⟩
            have HO2 : Hid (facts.contains x = (fa.take (j + 1)).any fun f => facts.contains f) := Lib.hid (by rw [HS.out, ← HO.out, Bool.false_or])
            obtain ⟨z, hz⟩ : ∃ z, facts.contains x = z := ⟨_, rfl⟩
            rw [hz] at HO2 ⊢
            clear hz
            go_wp2
            go_roundw
            case rel => first | exact ⟨j + 1, z, by omega, by go_num, rfl, HO2, rfl⟩ | exact ⟨j + 1, z, by omega, by go_num, rfl, HO2, trivial⟩ | exact ⟨j + 1, z, by omega, by go_num, rfl, HO2⟩
            case measure => simp [intOf]; omega
          · have HO2 : Hid (true = (fa.take (j + 1)).any fun f => facts.contains f) := Lib.hid (by rw [HS.out, ← HO.out, Bool.true_or])
            go_wp2
            go_roundw
            case rel => first | exact ⟨j + 1, true, by omega, by go_num, rfl, HO2, rfl⟩ | exact ⟨j + 1, true, by omega, by go_num, rfl, HO2, trivial⟩ | exact ⟨j + 1, true, by omega, by go_num, rfl, HO2⟩ | exact ⟨j + 1, true, by omega, by go_num, HO2⟩
            case measure => simp [intOf]; omega
        · obtain rfl : n2 = j := by omega
          have HOW : Hid (o = ow facts ⟨fr, fa⟩) := Lib.hid (by rw [HO.out, any_take HN2.out]; rfl)
          clear hlt HO
          go_wp2_with (fail)
          go_loopw [12, 13, 15] (fun tv sv jv wr => ∃ (j : Nat) (t s : Bool), j ≤ n1 ∧ jv = .int .i64 j ∧ tv = .bool t ∧ sv = .bool s ∧ Hid (t = (fr.take j).any fun x => I.contains x) ∧ Hid (s = (fr.take j).any fun x => set.contains x) ∧ w2 = wr) (fun _ _ jv _ => n1 - (intOf jv).toNat)
          case atStart => exact ⟨0, false, false, Nat.zero_le _, rfl, rfl, rfl, Lib.hid (by simp), Lib.hid (by simp), rfl⟩
          case round =>
            obtain ⟨j, t, s, hj, rfl, rfl, rfl, HT, HS, rfl⟩ := hrel
            have j0 : (0 : Int) ≤ (j : Int) := by omega
            by_cases hlt : j < n1
            · have hltJ : (j : Int) < (n1 : Int) := by omega
              obtain ⟨x, hx⟩ := at_ fr j (by rw [HN1.out]; exact hlt)
              obtain ⟨b, of2, rfl, hcell⟩ := HFR.out (by rw [HN1.out]; omega)
              have c0 := hcell j x hx
              have HT2 := Lib.hid (any_snoc (p := fun x => I.contains x) hx)
              have HS2 := Lib.hid (any_snoc (p := fun x => set.contains x) hx)
              rw [← HT.out] at HT2
              rw [← HS.out] at HS2
              clear hcell hx hlt HT HS
              obtain ⟨z, hz⟩ : ∃ z, I.contains x = z := ⟨_, rfl⟩
              obtain ⟨y, hy⟩ : ∃ y, set.contains x = y := ⟨_, rfl⟩
              have HH1 := Lib.hid (has_any (c := d8) HM.out HI.out (by omega) x)
              have HH2 := Lib.hid (has_any (c := cs) HNS.out HS9.out (by omega) x)
              rw [hz] at HH1 HT2
              rw [hy] at HH2 HS2
              clear hz hy
              cases t <;> cases s
              · have HT3 : Hid (z = (fr.take (j + 1)).any fun x => I.contains x) := Lib.hid (by rw [HT2.out]; cases z <;> rfl)
                have HS3 : Hid (y = (fr.take (j + 1)).any fun x => set.contains x) := Lib.hid (by rw [HS2.out]; cases y <;> rfl)
                go_wp2_with (fail)
                go_must (refine (HH1.out).mono ?_)
                rintro e w3 ⟨rfl, rfl⟩
                go_wp2_with (fail)
                go_must (refine (HH2.out).mono ?_)
                rintro e w3 ⟨rfl, rfl⟩
                go_wp2
                go_roundw
                case rel => first | exact ⟨j + 1, _, _, by omega, by go_num, rfl, rfl, HT3, HS3, rfl⟩ | exact ⟨j + 1, _, _, by omega, by go_num, rfl, rfl, HT3, HS3, trivial⟩ | exact ⟨j + 1, _, _, by omega, by go_num, rfl, rfl, HT3, HS3⟩
                case measure => simp [intOf]; omega
              · have HT3 : Hid (z = (fr.take (j + 1)).any fun x => I.contains x) := Lib.hid (by rw [HT2.out]; cases z <;> rfl)
                have HS3 : Hid (true = (fr.take (j + 1)).any fun x => set.contains x) := Lib.hid (by rw [HS2.out]; cases y <;> rfl)
                go_wp2_with (fail)
                go_must (refine (HH1.out).mono ?_)
                rintro e w3 ⟨rfl, rfl⟩
                go_wp2
                go_roundw
                case rel => first | exact ⟨j + 1, _, _, by omega, by go_num, rfl, rfl, HT3, HS3, rfl⟩ | exact ⟨j + 1, _, _, by omega, by go_num, rfl, rfl, HT3, HS3, trivial⟩ | exact ⟨j + 1, _, _, by omega, by go_num, rfl, rfl, HT3, HS3⟩
                case measure => simp [intOf]; omega
              · have HT3 : Hid (true = (fr.take (j + 1)).any fun x => I.contains x) := Lib.hid (by rw [HT2.out]; cases z <;> rfl)
                have HS3 : Hid (y = (fr.take (j + 1)).any fun x => set.contains x) := Lib.hid (by rw [HS2.out]; cases y <;> rfl)
                go_wp2_with (fail)
                go_must (refine (HH2.out).mono ?_)
                rintro e w3 ⟨rfl, rfl⟩
                go_wp2
                go_roundw
                case rel => first | exact ⟨j + 1, _, _, by omega, by go_num, rfl, rfl, HT3, HS3, rfl⟩ | exact ⟨j + 1, _, _, by omega, by go_num, rfl, rfl, HT3, HS3, trivial⟩ | exact ⟨j + 1, _, _, by omega, by go_num, rfl, rfl, HT3, HS3⟩
                case measure => simp [intOf]; omega
              · have HT3 : Hid (true = (fr.take (j + 1)).any fun x => I.contains x) := Lib.hid (by rw [HT2.out]; cases z <;> rfl)
                have HS3 : Hid (true = (fr.take (j + 1)).any fun x => set.contains x) := Lib.hid (by rw [HS2.out]; cases y <;> rfl)
                go_wp2
                go_roundw
                case rel => first | exact ⟨j + 1, _, _, by omega, by go_num, rfl, rfl, HT3, HS3, rfl⟩ | exact ⟨j + 1, _, _, by omega, by go_num, rfl, rfl, HT3, HS3, trivial⟩ | exact ⟨j + 1, _, _, by omega, by go_num, rfl, rfl, HT3, HS3⟩
                case measure => simp [intOf]; omega
            · obtain rfl : n1 = j := by omega
              have HTT : Hid (t = thr I ⟨fr, fa⟩) := Lib.hid (by rw [HT.out, any_take HN1.out]; rfl)
              have HSS : Hid (s = thr set ⟨fr, fa⟩) := Lib.hid (by rw [HS.out, any_take HN1.out]; rfl)
              have HCV : Hid (clV facts set k ⟨fr, fa⟩ = ((!o && !s) || set.contains (k : Int))) := Lib.hid (by unfold clV; rw [← HOW.out, ← HSS.out])
              rw [← HOW.out, HII.out, ← HTT.out] at HEQ
              rw [HCV.out] at HCL
              obtain ⟨y, hy⟩ : ∃ y, set.contains (k : Int) = y := ⟨_, rfl⟩
              have HH2 := Lib.hid (has_any (c := cs) HNS.out HS9.out (by omega) (k : Int))
              rw [hy] at HH2 HCL
              have HH1 := Lib.hid (has_any (c := d8) HM.out HI.out (by omega) (k : Int))
              rw [HEQ.out] at HH1
              clear hlt HT HS HCV HOW HTT HSS hy HEQ
              go_wp2_with (fail)
              go_must (refine (HH1.out).mono ?_)
              rintro e w3 ⟨rfl, rfl⟩
              cases o <;> cases t <;> cases cl <;> cases s
              · have HC3 : Hid (false = clB facts set l (k + 1)) := Lib.hid (by rw [HCL.out, ← HCB.out]; first | rfl | (cases y <;> rfl))
                clear HCL
                go_wp2
                go_roundw
                case rel => first | exact ⟨k + 1, _, by omega, by go_num, rfl, HC3, rfl⟩ | exact ⟨k + 1, _, by omega, by go_num, rfl, HC3, trivial⟩ | exact ⟨k + 1, _, by omega, by go_num, rfl, HC3⟩
                case measure => simp [intOf]; omega
              · have HC3 : Hid (false = clB facts set l (k + 1)) := Lib.hid (by rw [HCL.out, ← HCB.out]; first | rfl | (cases y <;> rfl))
                clear HCL
                go_wp2
                go_roundw
                case rel => first | exact ⟨k + 1, _, by omega, by go_num, rfl, HC3, rfl⟩ | exact ⟨k + 1, _, by omega, by go_num, rfl, HC3, trivial⟩ | exact ⟨k + 1, _, by omega, by go_num, rfl, HC3⟩
                case measure => simp [intOf]; omega
              · have HC3 : Hid (true = clB facts set l (k + 1)) := Lib.hid (by rw [HCL.out, ← HCB.out]; first | rfl | (cases y <;> rfl))
                clear HCL
                go_wp2
                go_roundw
                case rel => first | exact ⟨k + 1, _, by omega, by go_num, rfl, HC3, rfl⟩ | exact ⟨k + 1, _, by omega, by go_num, rfl, HC3, trivial⟩ | exact ⟨k + 1, _, by omega, by go_num, rfl, HC3⟩
                case measure => simp [intOf]; omega
              · have HC3 : Hid (y = clB facts set l (k + 1)) := Lib.hid (by rw [HCL.out, ← HCB.out]; first | rfl | (cases y <;> rfl))
                clear HCL
                go_wp2_with (fail)
                go_must (refine (HH2.out).mono ?_)
                rintro e w3 ⟨rfl, rfl⟩
                go_wp2
                go_roundw
                case rel => first | exact ⟨k + 1, _, by omega, by go_num, rfl, HC3, rfl⟩ | exact ⟨k + 1, _, by omega, by go_num, rfl, HC3, trivial⟩ | exact ⟨k + 1, _, by omega, by go_num, rfl, HC3⟩
                case measure => simp [intOf]; omega
              · have HC3 : Hid (false = clB facts set l (k + 1)) := Lib.hid (by rw [HCL.out, ← HCB.out]; first | rfl | (cases y <;> rfl))
                clear HCL
                go_wp2
                go_roundw
                case rel => first | exact ⟨k + 1, _, by omega, by go_num, rfl, HC3, rfl⟩ | exact ⟨k + 1, _, by omega, by go_num, rfl, HC3, trivial⟩ | exact ⟨k + 1, _, by omega, by go_num, rfl, HC3⟩
                case measure => simp [intOf]; omega
              · have HC3 : Hid (false = clB facts set l (k + 1)) := Lib.hid (by rw [HCL.out, ← HCB.out]; first | rfl | (cases y <;> rfl))
                clear HCL
                go_wp2
                go_roundw
                case rel => first | exact ⟨k + 1, _, by omega, by go_num, rfl, HC3, rfl⟩ | exact ⟨k + 1, _, by omega, by go_num, rfl, HC3, trivial⟩ | exact ⟨k + 1, _, by omega, by go_num, rfl, HC3⟩
                case measure => simp [intOf]; omega
              · have HC3 : Hid (true = clB facts set l (k + 1)) := Lib.hid (by rw [HCL.out, ← HCB.out]; first | rfl | (cases y <;> rfl))
                clear HCL
                go_wp2
                go_roundw
                case rel => first | exact ⟨k + 1, _, by omega, by go_num, rfl, HC3, rfl⟩ | exact ⟨k + 1, _, by omega, by go_num, rfl, HC3, trivial⟩ | exact ⟨k + 1, _, by omega, by go_num, rfl, HC3⟩
                case measure => simp [intOf]; omega
              · have HC3 : Hid (y = clB facts set l (k + 1)) := Lib.hid (by rw [HCL.out, ← HCB.out]; first | rfl | (cases y <;> rfl))
                clear HCL
                go_wp2_with (fail)
                go_must (refine (HH2.out).mono ?_)
                rintro e w3 ⟨rfl, rfl⟩
                go_wp2
                go_roundw
                case rel => first | exact ⟨k + 1, _, by omega, by go_num, rfl, HC3, rfl⟩ | exact ⟨k + 1, _, by omega, by go_num, rfl, HC3, trivial⟩ | exact ⟨k + 1, _, by omega, by go_num, rfl, HC3⟩
                case measure => simp [intOf]; omega
              · have HC3 : Hid (false = clB facts set l (k + 1)) := Lib.hid (by rw [HCL.out, ← HCB.out]; first | rfl | (cases y <;> rfl))
                clear HCL
                go_wp2
                go_roundw
                case rel => first | exact ⟨k + 1, _, by omega, by go_num, rfl, HC3, rfl⟩ | exact ⟨k + 1, _, by omega, by go_num, rfl, HC3, trivial⟩ | exact ⟨k + 1, _, by omega, by go_num, rfl, HC3⟩
                case measure => simp [intOf]; omega
              · have HC3 : Hid (false = clB facts set l (k + 1)) := Lib.hid (by rw [HCL.out, ← HCB.out]; first | rfl | (cases y <;> rfl))
                clear HCL
                go_wp2
                go_roundw
                case rel => first | exact ⟨k + 1, _, by omega, by go_num, rfl, HC3, rfl⟩ | exact ⟨k + 1, _, by omega, by go_num, rfl, HC3, trivial⟩ | exact ⟨k + 1, _, by omega, by go_num, rfl, HC3⟩
                case measure => simp [intOf]; omega
              · have HC3 : Hid (y = clB facts set l (k + 1)) := Lib.hid (by rw [HCL.out, ← HCB.out]; first | rfl | (cases y <;> rfl))
                clear HCL
                go_wp2_with (fail)
                go_must (refine (HH2.out).mono ?_)
                rintro e w3 ⟨rfl, rfl⟩
                go_wp2
                go_roundw
                case rel => first | exact ⟨k + 1, _, by omega, by go_num, rfl, HC3, rfl⟩ | exact ⟨k + 1, _, by omega, by go_num, rfl, HC3, trivial⟩ | exact ⟨k + 1, _, by omega, by go_num, rfl, HC3⟩
                case measure => simp [intOf]; omega
              · have HC3 : Hid (y = clB facts set l (k + 1)) := Lib.hid (by rw [HCL.out, ← HCB.out]; first | rfl | (cases y <;> rfl))
                clear HCL
                go_wp2_with (fail)
                go_must (refine (HH2.out).mono ?_)
                rintro e w3 ⟨rfl, rfl⟩
                go_wp2
                go_roundw
                case rel => first | exact ⟨k + 1, _, by omega, by go_num, rfl, HC3, rfl⟩ | exact ⟨k + 1, _, by omega, by go_num, rfl, HC3, trivial⟩ | exact ⟨k + 1, _, by omega, by go_num, rfl, HC3⟩
                case measure => simp [intOf]; omega
              · have HC3 : Hid (false = clB facts set l (k + 1)) := Lib.hid (by rw [HCL.out, ← HCB.out]; first | rfl | (cases y <;> rfl))
                clear HCL
                go_wp2
                go_roundw
                case rel => first | exact ⟨k + 1, _, by omega, by go_num, rfl, HC3, rfl⟩ | exact ⟨k + 1, _, by omega, by go_num, rfl, HC3, trivial⟩ | exact ⟨k + 1, _, by omega, by go_num, rfl, HC3⟩
                case measure => simp [intOf]; omega
              · have HC3 : Hid (false = clB facts set l (k + 1)) := Lib.hid (by rw [HCL.out, ← HCB.out]; first | rfl | (cases y <;> rfl))
                clear HCL
                go_wp2
                go_roundw
                case rel => first | exact ⟨k + 1, _, by omega, by go_num, rfl, HC3, rfl⟩ | exact ⟨k + 1, _, by omega, by go_num, rfl, HC3, trivial⟩ | exact ⟨k + 1, _, by omega, by go_num, rfl, HC3⟩
                case measure => simp [intOf]; omega
              · have HC3 : Hid (y = clB facts set l (k + 1)) := Lib.hid (by rw [HCL.out, ← HCB.out]; first | rfl | (cases y <;> rfl))
                clear HCL
                go_wp2_with (fail)
                go_must (refine (HH2.out).mono ?_)
                rintro e w3 ⟨rfl, rfl⟩
                go_wp2
                go_roundw
                case rel => first | exact ⟨k + 1, _, by omega, by go_num, rfl, HC3, rfl⟩ | exact ⟨k + 1, _, by omega, by go_num, rfl, HC3, trivial⟩ | exact ⟨k + 1, _, by omega, by go_num, rfl, HC3⟩
                case measure => simp [intOf]; omega
              · have HC3 : Hid (y = clB facts set l (k + 1)) := Lib.hid (by rw [HCL.out, ← HCB.out]; first | rfl | (cases y <;> rfl))
                clear HCL
                go_wp2_with (fail)
                go_must (refine (HH2.out).mono ?_)
                rintro e w3 ⟨rfl, rfl⟩
                go_wp2
                go_roundw
                case rel => first | exact ⟨k + 1, _, by omega, by go_num, rfl, HC3, rfl⟩ | exact ⟨k + 1, _, by omega, by go_num, rfl, HC3, trivial⟩ | exact ⟨k + 1, _, by omega, by go_num, rfl, HC3⟩
                case measure => simp [intOf]; omega
    · obtain rfl : n = k := by omega
      clear hlt
      have HALL : Hid (cl = true → ∀ x ∈ I, set.contains x = true) := Lib.hid (fun h => by rw [← HII.out]; rw [← HN.out] at HCB; exact cl_all HRG.out (by rw [← HCB.out]; exact h))
      go_upto_region 24 with (fail)
      exact cl_last HN HNS HM HI HS9 HB2 HASC HALL hn30 hs40 hml (by assumption) (by assumption)
end Go.Proofs.Ytohbdffmidbjhaa.Re
