/- Facts: FactKnown. -/
import Derived.Test.YtcnfonhcgcblgaaFcL
namespace Go.Proofs.Ytcnfonhcgcblgaa.Fc
open Go.Lib Go.ChangeShapes Go.WideShapes Go.ChangeAt Go.RowKit Go.Maps Go.Proofs.Ytcnfonhcgcblgaa.Cell Go.Proofs.Ytcnfonhcgcblgaa.Wd Go.Proofs.Ytcnfonhcgcblgaa.Rk
set_option linter.unusedVariables false
set_option linter.unusedSimpArgs false
theorem val_nm {l : List Fa} {i p d : Int} {x : List UInt8} (h : (valF l i x p d).isSome = true) : ∃ y ∈ l, y.nm = x := by
  unfold valF at h
  split at h
  · obtain ⟨y, hy⟩ := Option.isSome_iff_exists.1 h
    obtain ⟨h1, _, h3⟩ := lat_in hy
    exact ⟨y, h1, h3⟩
  · cases h
theorem take_any {ks : List (List UInt8)} {k : Nat} {x y : List UInt8} (h : ks[k]? = some x) : (ks.take (k + 1)).any (· == y) = ((ks.take k).any (· == y) || (x == y)) := by
  rw [take_snoc h, List.any_append]
  simp
theorem any_mem {ks : List (List UInt8)} {y : List UInt8} : ks.any (· == y) = decide (y ∈ ks) := by
  rw [Bool.eq_iff_iff, List.any_eq_true, decide_eq_true_eq]
  constructor
  · rintro ⟨x, h1, h2⟩
    rw [beq_iff_eq] at h2
    exact h2 ▸ h1
  · exact fun h => ⟨y, h, by simp⟩
theorem geq_no (t : TypeId) {x x' : List UInt8} (h : x' < x) (W : World) : (binOp .geq t (.string ⟨x'.toArray⟩) (.string ⟨x.toArray⟩)).run Try.prog W = .ok (.bool false) W := by
  have : Op.bytesLess x' x = true := by rw [bytesLess_eq]; exact decide_eq_true h
  simp [binOp, Op.stringOp, go_sem, this]
set_option maxRecDepth 100000 in
set_option maxHeartbeats 16000000 in
theorem known_any {w : World} {A : Option Addr} {n c : Nat} {l : List Fa} (hn : l.length = n) (hc : Rs fcs 5 w A l) (hbig : n ≤ 9223372036854775807) (hin : ∀ x ∈ l, x.nm.length ≤ 9223372036854775807) (i p d : Int) :
    Calls Try.prog 5 #[.slice A n c, .int .i64 i, .int .i64 p, .int .i64 d] w fun e w' => e = .returned (.bool true) ∧ Below w.heap.size w w' := by
  have HC0 := Lib.hid hc
  have HN := Lib.hid hn
  have HIN := Lib.hid hin
  have HS := Lib.hid (small_any w)
  clear hc hn hin
  go_enter Try.func5, Try.ntmps5
  go_wp2_with (fail)
  go_must (refine (HS.out).mono ?_)
  rintro e w1 ⟨rfl, hb⟩
  have HB1 := Lib.hid hb
  have HC1 := Lib.hid (HC0.out.keep hb)
  clear hb HC0 HS
  have HFEW := Lib.hid (rFew_any (c := c) (m := 20) HN.out HC1.out hbig (by omega) HIN.out)
  go_wp2_with (fail)
  go_must (refine (HFEW.out).mono ?_)
  rintro e w2 ⟨rfl, rfl⟩
  clear HFEW
  cases hfew : fewF l 20 with
  | false =>
    clear hfew
    go_wp2
    go_ret
    exact ⟨rfl, HB1.out⟩
  | true =>
    obtain ⟨hl20, hnm⟩ := fewF_out hfew
    rw [HN.out] at hl20
    have HNM := Lib.hid (show ∀ x ∈ l, x.nm.length ≤ 1000000000 from fun x hx => Nat.le_trans (hnm x hx) (by decide))
    clear hfew hnm HIN hbig
    have HKN := Lib.hid (fKnown_any (c := c) i p d HN.out HC1.out (by omega) HNM.out)
    go_wp2_with (fail)
    go_must (refine (HKN.out).mono ?_)
    rintro e w3 ⟨A2, B2, c2, c3, ks, rfl, hp, hmem, hlen, hrA, hrB, hb⟩
    have HB3 := Lib.hid (Gen.over hb HB1.out)
    have HC3 := Lib.hid (HC1.out.keep hb)
    have HA := Lib.hid hrA
    have HBB := Lib.hid hrB
    have HP := Lib.hid hp
    have HMEM := Lib.hid hmem
    rw [HN.out] at hlen
    obtain ⟨q, hq⟩ : ∃ q, ks.length = q := ⟨_, rfl⟩
    simp only [hq] at hlen ⊢
    have HQ := Lib.hid hq
    have hq20 : q ≤ 20 := by omega
    have HXL := Lib.hid (show ∀ x ∈ ks, x.length ≤ 1000000000 from fun x hx => by
      obtain ⟨y, hy, rfl⟩ := val_nm ((hmem x).1 hx).2
      exact HNM.out y hy)
    have HVAL := Lib.hid (fun (W : World) (hb : Below w3.heap.size w3 W) (x : List UInt8) (hx : x.length ≤ 1000000000) => fValue_any (c := c) i p d (nm := x) HN.out (HC3.out.keep hb) (by omega) HNM.out hx)
    have h1 : ((q : Int) != (q : Int)) = false := by simp
    clear hb hp hmem hlen hrA hrB hq HKN HB1 HC1
    go_wp2_with (fail)
    clear h1
    go_loopw [12] (fun iv wr => ∃ k : Nat, k ≤ q ∧ iv = .int .i64 k ∧ Hid (Below w3.heap.size w3 wr)) (fun iv _ => q - (RowKit.intOf iv).toNat)
    case atStart => exact ⟨0, Nat.zero_le _, rfl, Lib.hid (Below.refl _ _)⟩
    case round =>
      obtain ⟨k, hk, rfl, HBr⟩ := hrel
      have k0 : (0 : Int) ≤ (k : Int) := by omega
      by_cases hlt : k < q
      · have hltI : (k : Int) < (q : Int) := by omega
        obtain ⟨x, hx⟩ := at_ ks k (by rw [HQ.out]; exact hlt)
        have hxm := mem_of_at hx
        have hv : (vals l i p d ks)[k]? = some (vI (valF l i x p d)) := by unfold vals; rw [List.getElem?_map, hx]; rfl
        have hs : (valF l i x p d).isSome = true := ((HMEM.out x).1 hxm).2
        obtain ⟨g, off, rfl, hcell⟩ := (HA.out) (by rw [HQ.out]; omega)
        obtain ⟨g2, off2, rfl, hcell2⟩ := (HBB.out) (by unfold vals; rw [List.length_map, HQ.out]; omega)
        have n0 := keep0 HBr.out _ _ _ (hcell k x hx 0 _ rfl)
        have v0 := hcell2 k _ hv 0 _ rfl
        have n0' := hcell k x hx 0 _ rfl
        simp only [Nat.mul_one, Nat.add_zero] at n0 n0' v0
        have HV := Lib.hid (HVAL.out wr HBr.out x (HXL.out x hxm))
        have HSS := Lib.hid hs
        have HX := Lib.hid hx
        clear hxm hv hs hx
        go_wp2_with (fail)
        go_must (refine (HV.out).mono ?_)
        rintro e w5 ⟨rfl, hb5⟩
        have HB5 := Lib.hid (Gen.over hb5 HBr.out)
        rw [HSS.out]
        obtain ⟨v, hv⟩ : ∃ v, vI (valF l i x p d) = v := ⟨_, rfl⟩
        rw [hv] at v0 ⊢
        have n1 := keep0 HB5.out _ _ _ n0'
        have v1 := keep0 HB5.out _ _ _ v0
        have e0 : (v != v) = false := by simp
        clear n0 n0' v0 hb5 HV hv HBr
        by_cases hk0 : k = 0
        · subst hk0
          clear hcell hcell2
          simp only [Nat.add_zero] at n1 v1
          have z1 : (0 : Int) < (q : Int) := by omega
          have z2 : 0 < q := by omega
          go_wp2
          go_quiet (fail)
          go_wp2
          go_roundw
          case rel => exact ⟨1, by omega, by go_num, Lib.hid (by first | exact Gen.dN HB5.out _ | exact HB5.out)⟩
          case measure => simp [RowKit.intOf]; omega
        · obtain ⟨j, hj⟩ : ∃ j, k = j + 1 := ⟨k - 1, by omega⟩
          obtain ⟨x', hx'⟩ := at_ ks j (by rw [HQ.out]; omega)
          have m0 := keep0 HB5.out _ _ _ (hcell j x' hx' 0 _ rfl)
          simp only [Nat.mul_one, Nat.add_zero] at m0
          have hxx : x' < x := by
            obtain ⟨g1, g2⟩ := List.getElem?_eq_some_iff.1 hx'
            obtain ⟨g3, g4⟩ := List.getElem?_eq_some_iff.1 HX.out
            rw [← g2, ← g4]
            exact List.pairwise_iff_getElem.1 HP.out j k g1 g3 (by omega)
          have j0 : (0 : Int) < (k : Int) := by omega
          have j2 : 0 < k := by omega
          have j3 : decide (0 < k) = true := decide_eq_true j2
          have jI : (j : Int) < (q : Int) := by omega
          have j1 : (0 : Int) ≤ (j : Int) := by omega
          have hw : IntKind.i64.wrap ((k : Int) - 1) = (j : Int) := by rw [IntWalk.i64_in _ (by omega)]; omega
          have hge := fun W : World => geq_no 9 hxx W
          have HJ := Lib.hid hj
          clear hcell hcell2 hx' hxx hk0 hj
          go_wp2
          go_quiet (fail)
          go_wp2
          go_roundw
          case rel => exact ⟨k + 1, by omega, by go_num, Lib.hid (by first | exact Gen.dN HB5.out _ | exact HB5.out)⟩
          case measure => simp [RowKit.intOf]; omega
      · obtain rfl : k = q := by omega
        clear hlt
        go_wp2_with (fail)
        go_loopw [15] (fun iv ws => ∃ k2 : Nat, k2 ≤ n ∧ iv = .int .i64 k2 ∧ Hid (Below w3.heap.size w3 ws)) (fun iv _ => n - (RowKit.intOf iv).toNat)
        case atStart => exact ⟨0, Nat.zero_le _, rfl, HBr⟩
        case round =>
          clear HBr
          obtain ⟨m, hm, rfl, HBr⟩ := hrel
          have m0 : (0 : Int) ≤ (m : Int) := by omega
          by_cases hlt : m < n
          · have hltI : (m : Int) < (n : Int) := by omega
            obtain ⟨⟨yi, yn, yp, yv, yd⟩, hy⟩ := at_ l m (by rw [HN.out]; exact hlt)
            have hym := mem_of_at hy
            obtain ⟨g, off, rfl, hcell⟩ := (HC3.out) (by rw [HN.out]; omega)
            have c1 := keep0 HBr.out _ _ _ (hcell m _ hy 1 _ rfl)
            have c1' := hcell m _ hy 1 _ rfl
            dsimp only at c1 c1'
            have HV := Lib.hid (HVAL.out wr HBr.out yn (HNM.out _ hym))
            have hyl := HNM.out _ hym
            dsimp only at hyl
            have HIS := Lib.hid (show ks.any (· == yn) = (valF l i yn p d).isSome from by
              rw [any_mem, Bool.eq_iff_iff, decide_eq_true_eq, HMEM.out]
              exact ⟨fun h => h.2, fun h => ⟨by simp only [maxLen]; omega, h⟩⟩)
            have HC1' := Lib.hid c1'
            clear hcell hy hym c1' hyl
            go_wp2_with (fail)
            go_must (refine (HV.out).mono ?_)
            rintro e w6 ⟨rfl, hb6⟩
            have HB6 := Lib.hid (Gen.over hb6 HBr.out)
            obtain ⟨s, hs⟩ : ∃ s, (valF l i yn p d).isSome = s := ⟨_, rfl⟩
            rw [hs] at HIS
            rw [hs]
            clear hb6 hs HV HBr c1
            go_wp2_with (fail)
            go_loopw [18, 19] (fun zv jv wt => ∃ (j : Nat) (z : Bool), j ≤ k ∧ jv = .int .i64 j ∧ zv = .bool z ∧ Hid ((ks.take j).any (· == yn) = z) ∧ Hid (Below w3.heap.size w3 wt)) (fun _ jv _ => k - (RowKit.intOf jv).toNat)
            case atStart => exact ⟨0, false, Nat.zero_le _, rfl, rfl, Lib.hid rfl, HB6⟩
            case round =>
              clear HB6
              obtain ⟨j, z, hj, rfl, rfl, HZ, HBr⟩ := hrel
              have j0 : (0 : Int) ≤ (j : Int) := by omega
              by_cases hjt : j < k
              · have hjtI : (j : Int) < (k : Int) := by omega
                obtain ⟨x, hx⟩ := at_ ks j (by rw [HQ.out]; exact hjt)
                obtain ⟨g2, off2, rfl, hcell2⟩ := (HA.out) (by rw [HQ.out]; omega)
                have n0 := keep0 HBr.out _ _ _ (hcell2 j x hx 0 _ rfl)
                simp only [Nat.mul_one, Nat.add_zero] at n0
                have c1 := keep0 HBr.out _ _ _ HC1'.out
                have hT := take_any (y := yn) hx
                rw [HZ.out] at hT
                clear hcell2 hx HZ
                cases z with
                | true =>
                  have HZ2 : Hid ((ks.take (j + 1)).any (· == yn) = true) := Lib.hid (by rw [hT]; rfl)
                  clear hT
                  go_wp2
                  go_quiet (fail)
                  go_wp2
                  go_roundw
                  case rel => exact ⟨j + 1, true, by omega, by go_num, rfl, HZ2, Lib.hid (by first | exact Gen.dN HBr.out _ | exact HBr.out)⟩
                  case measure => simp [RowKit.intOf]; omega
                | false =>
                  by_cases hxy : x = yn
                  · have e1 : (x == yn) = true := by simp [hxy]
                    have HZ2 : Hid ((ks.take (j + 1)).any (· == yn) = true) := Lib.hid (by rw [hT, e1]; rfl)
                    clear hT hxy
                    go_wp2
                    go_quiet (fail)
                    go_wp2
                    go_roundw
                    case rel => exact ⟨j + 1, true, by omega, by go_num, rfl, HZ2, Lib.hid (by first | exact Gen.dN HBr.out _ | exact HBr.out)⟩
                    case measure => simp [RowKit.intOf]; omega
                  · have e1 : (x == yn) = false := by simp [hxy]
                    have HZ2 : Hid ((ks.take (j + 1)).any (· == yn) = false) := Lib.hid (by rw [hT, e1]; rfl)
                    clear hT hxy
                    go_wp2
                    go_quiet (fail)
                    go_wp2
                    go_roundw
                    case rel => exact ⟨j + 1, false, by omega, by go_num, rfl, HZ2, Lib.hid (by first | exact Gen.dN HBr.out _ | exact HBr.out)⟩
                    case measure => simp [RowKit.intOf]; omega
              · obtain rfl : j = k := by omega
                have hz := HZ.out
                rw [List.take_of_length_le (by rw [HQ.out]; exact Nat.le_refl _), HIS.out] at hz
                subst hz
                have e1 : (s != s) = false := by simp
                clear hjt HZ HIS
                go_wp2
                go_roundw
                case rel => exact ⟨m + 1, by omega, by go_num, HBr⟩
                case measure => simp [RowKit.intOf]; omega
          · obtain rfl : m = n := by omega
            clear hlt
            go_wp2
            go_ret
            exact ⟨rfl, Gen.over HBr.out HB3.out⟩
end Go.Proofs.Ytcnfonhcgcblgaa.Fc
