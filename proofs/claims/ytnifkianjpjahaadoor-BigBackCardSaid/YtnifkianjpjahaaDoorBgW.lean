/- Big integers: long division. -/
import Derived.Test.YtnifkianjpjahaaDoorBgV
import Derived.Deep.DeepCutAuto
namespace Go.Proofs.YtnifkianjpjahaaDoor.Bg
open Go.ChangeShapes Go.WideShapes Go.ChangeAt Go.RowKit Go.Proofs.YtnifkianjpjahaaDoor.Cell
set_option linter.unusedVariables false
set_option linter.unusedSimpArgs false

/-- the divisor, shifted -/
theorem norm_len {b L : List Int} {P : Int} {n n1 : Nat} {x : Int} (db : Dg b) (tb : Tr b) (hn : b.length = n) (h1 : n = n1 + 1) (hx : b[n1]? = some x) (hP : 1 ≤ P) (hxP : x < 1048576 / P) (hPd : P * (1048576 / P) = 1048576) (dL : Dg L) (lL : L.length = n + 1) (hv : val L = val b * P) {k : Nat} (hk : k ≤ n + 1) (tk : Tr (L.take k)) (hvk : val (L.take k) = val L) :
    k = n ∧ pw n1 ≤ val b ∧ val b * P < pw n := by
  have hb0 : b ≠ [] := by intro e; subst e; simp at hn; omega
  have h2 := val_ge db tb hb0
  rw [hn, h1, Nat.add_sub_cancel] at h2
  have h3 : val b * P < pw n := by
    have e := val_take_succ hx
    rw [List.take_of_length_le (by omega)] at e
    have h4 := val_lt (db.take n1)
    rw [List.length_take, Nat.min_eq_left (by omega)] at h4
    have h5 : val b < pw n1 * (x + 1) := by rw [Int.mul_add, Int.mul_one]; omega
    have h6 : val b * P < (pw n1 * (x + 1)) * P := Int.mul_lt_mul_of_pos_right h5 (by omega)
    have h7 : pw n1 * (x + 1) ≤ pw n1 * (1048576 / P) := Int.mul_le_mul_of_nonneg_left (by omega) (by have := pw_pos n1; omega)
    have h8 : (pw n1 * (x + 1)) * P ≤ (pw n1 * (1048576 / P)) * P := Int.mul_le_mul_of_nonneg_right h7 (by omega)
    have h9 : (pw n1 * (1048576 / P)) * P = pw n1 * 1048576 := by rw [Int.mul_assoc, Int.mul_comm _ P, hPd]
    rw [h1, pw_succ]
    omega
  have h4 : val b * 1 ≤ val b * P := Int.mul_le_mul_of_nonneg_left hP (val_nonneg db)
  have hN : Nm (L.take k) (val b * P) := ⟨dL.take k, tk, hvk.trans hv⟩
  have hlen : (L.take k).length = k := by rw [List.length_take]; omega
  have a1 := (hN.len n).2 h3
  have a2 : ¬ ((L.take k).length ≤ n1) := fun h => by
    have := (hN.len n1).1 h
    omega
  rw [hlen] at a1 a2
  exact ⟨by omega, h2, h3⟩
theorem pow_div {s : Nat} (h : s ≤ 20) : (1048576 : Int) / 2 ^ s = 2 ^ (20 - s) ∧ (2 : Int) ^ s * (1048576 / 2 ^ s) = 1048576 := by
  obtain ⟨p1, p2, p3⟩ := pow_in h
  have e : (1048576 : Int) / 2 ^ s = 2 ^ (20 - s) := Int.ediv_eq_of_eq_mul_right (by omega) p3.symm
  exact ⟨e, by rw [e]; exact p3⟩
theorem seg_take {U out R : List Int} {j : Nat} (h : (U.take j).length = j) : (U.take j ++ out ++ R).take j = U.take j := by
  rw [List.append_assoc, List.take_append, h, Nat.sub_self, List.take_zero, List.append_nil, List.take_of_length_le (by omega)]
theorem seg_drop {U out R : List Int} {j n : Nat} (h : (U.take j).length = j) (ho : out.length = n) : (U.take j ++ out ++ R).drop (j + n) = R := by
  rw [List.drop_append, List.length_append, h, ho, Nat.sub_self, List.drop_zero, List.drop_of_length_le (by rw [List.length_append]; omega), List.nil_append]
theorem seg_mid {U out R : List Int} {j n : Nat} (h : (U.take j).length = j) (ho : out.length = n) : ((U.take j ++ out ++ R).drop j).take n = out := by
  rw [List.append_assoc, List.drop_append, h, Nat.sub_self, List.drop_zero, List.drop_of_length_le (by omega), List.nil_append, List.take_append, ho, Nat.sub_self, List.take_zero, List.append_nil, List.take_of_length_le (by omega)]
theorem seg_len {U out : List Int} {j n : Nat} (h : j + n ≤ U.length) (ho : out.length = n) : (U.take j ++ out ++ U.drop (j + n)).length = U.length := by
  rw [List.length_append, List.length_append, List.length_take, List.length_drop]
  omega
set_option maxRecDepth 100000 in
set_option maxHeartbeats 8000000 in
theorem divLong_any {A A' : Option Addr} {m n c c' : Nat} {a b : List Int} (w : World) (hm : a.length = m) (hn : b.length = n) (ha : Ints w A a) (hb : Ints w A' b) (da : Dg a) (db : Dg b) (tb : Tr b) (h2 : 2 ≤ n) (hle : n ≤ m) (hbig : m ≤ 100) :
    Calls Tryd.prog 48 #[.slice A m c, .slice A' n c'] w fun e w' => ∃ A1 c1 lq A2 c2 lr, e = .returned (.tuple #[.slice A1 (List.length lq) c1, .slice A2 (List.length lr) c2]) ∧ Ints w' A1 lq ∧ Ints w' A2 lr ∧ Nm lq (val a / val b) ∧ Nm lr (val a % val b) ∧ Below w.heap.size w w' := by
  obtain ⟨p, hp⟩ : ∃ p, n = p + 2 := ⟨n - 2, by omega⟩
  obtain ⟨n1, hn1⟩ : ∃ n1, n = n1 + 1 := ⟨n - 1, by omega⟩
  obtain ⟨x, hx⟩ := at_ b n1 (by omega)
  obtain ⟨bb, ob, rfl, hcb⟩ := hb (by omega)
  have cx := hcb n1 x hx
  have hxd := db.at_ hx
  have hxu : IntKind.u64.wrap x = x := IntWalk.u64_in _ (by omega)
  have hn1I : (n : Int) - 1 = (n1 : Int) := by omega
  have hn1w : IntKind.i64.wrap (n1 : Int) = (n1 : Int) := IntWalk.i64_in _ (by omega)
  have hn1l : (n1 : Int) < (n : Int) := by omega
  have n10 : (0 : Int) ≤ (n1 : Int) := by omega
  have hnb : n ≤ 100 := by omega
  have HM := Lib.hid hm
  have HN := Lib.hid hn
  have HDA := Lib.hid da
  have HDB := Lib.hid db
  have HTB := Lib.hid tb
  have HX := Lib.hid hx
  have HBB := Lib.hid hb
  have HP := Lib.hid hp
  have HN1 := Lib.hid hn1
  clear hm hn da db tb hx hb hcb hp hn1
  go_enter Tryd.func48, Tryd.ntmps48
  go_wp2_with (fail)
  go_must (refine (lenb_any x _ hxd.1 hxd.2).mono ?_)
  rintro e w1 ⟨k, rfl, hk, hxk, rfl⟩
  obtain ⟨s, hs⟩ : ∃ s : Nat, (20 : Int) - (k : Int) = (s : Int) := ⟨20 - k, by omega⟩
  have hsw : IntKind.i64.wrap (s : Int) = (s : Int) := IntWalk.i64_in _ (by omega)
  have hs20 : s ≤ 20 := by omega
  have HXP : Hid (x < 1048576 / 2 ^ s) := Lib.hid (by
    rw [(pow_div hs20).1, show 20 - s = k by omega]
    exact hxk)
  clear hxk
  go_wp2_with (fail)
  go_must (refine (shl_any _ HM.out ha HDA.out (by omega) hs20).mono ?_)
  rintro e w2 ⟨gU, U0, rfl, hRU, hgU, hDU, hLU, hVU, hb2⟩
  have hRUlt0 := hRU.lt
  have HRU := Lib.hid hRU
  have HDU := Lib.hid hDU
  have HLU := Lib.hid hLU
  have HVU := Lib.hid hVU
  clear hRU hDU hLU hVU
  go_wp2_with (fail)
  go_must (refine (shl_any _ HN.out (HBB.out.keep hb2) HDB.out (by omega) hs20).mono ?_)
  rintro e w3 ⟨gV, V0, rfl, hRV, hgV, hDV, hLV, hVV, hb3⟩
  have HRV := Lib.hid hRV
  have HDV := Lib.hid hDV
  have HLV := Lib.hid hLV
  have HVV := Lib.hid hVV
  replace HRU := Lib.hid (HRU.out.keep hb3)
  have hRUlt : gU < gV := by omega
  clear hRV hDV hLV hVV
  go_wp2_with (fail)
  go_must (refine (trim_any _ (n + 1) (n + 1) V0 _ HLV.out HRV.out.ints (Nat.le_refl _) (by omega)).mono ?_)
  rintro e w4 ⟨k2, hk2, rfl, hT2, hv2, rfl⟩
  obtain ⟨hk2e, hge, hlt⟩ := norm_len HDB.out HTB.out HN.out HN1.out HX.out (pow_in hs20).1 HXP.out (pow_div hs20).2 HDV.out HLV.out HVV.out hk2 hT2 hv2
  obtain rfl : n = k2 := hk2e.symm
  obtain ⟨d, hd⟩ : ∃ d : Nat, d + n = m := ⟨m - n, by omega⟩
  have hdI : (m : Int) - (n : Int) = (d : Int) := by omega
  have hdw : IntKind.i64.wrap (d : Int) = (d : Int) := IntWalk.i64_in _ (by omega)
  obtain ⟨K, hK⟩ : ∃ K : Nat, K = d + 1 := ⟨_, rfl⟩
  have hKI : (d : Int) + 1 = (K : Int) := by omega
  have hKw : IntKind.i64.wrap (K : Int) = (K : Int) := IntWalk.i64_in _ (by omega)
  have hKb : K ≤ 101 := by omega
  have hKk : (K : Int) - 1 = km K := rfl
  have hKkw := wrap_km K (by omega)
  obtain ⟨v, hvE⟩ : ∃ v, V0.take n = v := ⟨_, rfl⟩
  have HVL : Hid (v.length = n) := Lib.hid (by rw [← hvE, List.length_take, HLV.out]; omega)
  have HVD : Hid (Dg v) := Lib.hid (by rw [← hvE]; exact HDV.out.take n)
  have HVX : Hid (val v = val b * 2 ^ s) := Lib.hid (by rw [← hvE, hv2]; exact HVV.out)
  have HVT : Hid (Tr v) := Lib.hid (by rw [← hvE]; exact hT2)
  obtain ⟨r, hr⟩ : ∃ r, V0 = v ++ r := ⟨V0.drop n, by rw [← hvE, List.take_append_drop]⟩
  have HVR : Hid (Row w4 gV 3 (ics (v ++ r))) := Lib.hid (by rw [← hr]; exact HRV.out)
  have HLT : Hid (val b * 2 ^ s < pw n) := Lib.hid hlt
  have HGE : Hid (pw n1 ≤ val b) := Lib.hid hge
  have hUV : gU ≠ gV := by have := HRU.out.lt; have := hRUlt; omega
  obtain ⟨iI, hiI, hzI, hyI, hxI⟩ := info_parts infoI
  have hmk : ∀ W : World, (Instr.makeSlice 22 (.int .i64 (K : Int)) (.int .i64 (K : Int))).run Tryd.prog W = .ok (.slice (some ⟨W.heap.size, 0, none⟩) K K) (W.alloc (.cells (ics (List.replicate K 0)) 3)) := fun W => by
    have hr := run_make (P := Tryd.prog) W 22 3 iI (.int .i64 0) Tryd.underlying22 hiI hzI .i64 .i64 K K (by omega) (Int.le_refl _) (by rw [hxI]; omega) (by omega)
    rw [hyI, Int.toNat_natCast, made_ints] at hr
    exact hr
  have HDV0 : Hid (Dv (val a * 2 ^ s) (val b * 2 ^ s) n U0 (List.replicate K 0) K) := Lib.hid (by
    rw [hK, show d = m - n by omega]
    refine Dv.start HDU.out hle (by omega) HLU.out HVU.out ?_ (by rw [HN1.out]; exact hge) (pow_in hs20).1
    have := val_lt HDA.out
    rwa [HM.out] at this)
  have HKK := Lib.hid hK
  have HDD := Lib.hid hd
  have hUlt := HRU.out.lt
  have hVlt := HVR.out.lt
  have HB3 := Lib.hid (Gen.over hb3 hb2)
  clear hk2 hT2 hv2 hk2e hge hlt hvE hr HRV hK hd hiI hzI hyI hxI hb2 hb3 cx hxd hxu ha HBB
  go_wp2
  clear hmk hdI hdw hKI hKw hKk hKkw
  obtain ⟨gQ, hgQ⟩ : ∃ g, g = w4.heap.size := ⟨_, rfl⟩
  have hQU : gQ ≠ gU := by omega
  have hQV : gQ ≠ gV := by omega
  have HQ0 : Hid (Row (w4.alloc (.cells (ics (List.replicate K 0)) 3)) gQ 3 (ics (List.replicate K 0))) := Lib.hid (by rw [hgQ]; exact Row.new _ _ _)
  have HU0 := Lib.hid (HRU.out.alloc (.cells (ics (List.replicate K 0)) 3))
  have HV0 := Lib.hid (HVR.out.alloc (.cells (ics (List.replicate K 0)) 3))
  have HBA := Lib.hid (Gen.b_alloc (x := .cells (ics (List.replicate K 0)) 3) HB3.out)
  have HQL : Hid ((List.replicate K (0 : Int)).length = K) := Lib.hid List.length_replicate
  have HGL := Lib.hid (show w1.heap.size ≤ gU ∧ w1.heap.size ≤ gV ∧ w1.heap.size ≤ gQ by have := HB3.out.size; omega)
  rw [← hgQ]
  clear HRU HVR HB3 hgQ hgU hgV hRUlt0 hRUlt hUlt hVlt
  go_loopw [11] (fun iv wr => ∃ (k : Nat) (U Q : List Int), k ≤ K ∧ iv = .int .i64 (km k) ∧ Hid (Row wr gU 3 (ics U)) ∧ Hid (Row wr gV 3 (ics (v ++ r))) ∧ Hid (Row wr gQ 3 (ics Q)) ∧ Hid (Q.length = K) ∧ Hid (Dv (val a * 2 ^ s) (val b * 2 ^ s) n U Q k) ∧ Hid (Below w1.heap.size w1 wr)) (fun iv _ => (intOf iv + 1).toNat)
  case atStart => exact ⟨K, U0, _, Nat.le_refl _, rfl, HU0, HV0, HQ0, HQL, HDV0, HBA⟩
  case round =>
    clear HU0 HV0 HQ0 HQL HDV0 HBA
    obtain ⟨k, U, Q, hk', rfl, HU, HV, HQ, HQL, HD, HB⟩ := hrel
    cases k with
    | zero =>
      rw [km_zero]
      obtain ⟨e1, e2, e3, e4⟩ := HD.out.done HLT.out
      have hPp := (pow_in hs20).1
      have HQD := Lib.hid HD.out.dQ
      have HUD := Lib.hid (HD.out.dU.take n)
      have HUL : Hid ((U.take n).length = n) := Lib.hid (by rw [List.length_take]; have := HD.out.lu; omega)
      have HUI : Hid (Ints wr (some ⟨gU, 0, none⟩) (U.take n)) := Lib.hid (ints_take HU.out.ints n)
      have HQI : Hid (Ints wr (some ⟨gQ, 0, none⟩) Q) := Lib.hid HQ.out.ints
      have HQV : Hid (val Q = val a / val b ∧ val (U.take n) / 2 ^ s = val a % val b) := Lib.hid (by
        have hb1 : 0 < val b := by have := HGE.out; have := pw_pos n1; omega
        have f1 : val U = 2 ^ s * (val a - val Q * val b) := by
          have : val Q * (val b * 2 ^ s) = 2 ^ s * (val Q * val b) := by grind
          rw [Int.mul_sub]
          have h2 : val a * 2 ^ s = 2 ^ s * val a := Int.mul_comm _ _
          omega
        have f2 : val (U.take n) / 2 ^ s = val a - val Q * val b := by
          rw [e1, f1, Int.mul_ediv_cancel_left _ (by omega)]
        have f3 : 0 ≤ val a - val Q * val b := by
          rw [← f2]
          exact Int.ediv_nonneg (by rw [e1]; exact e2) (by omega)
        have f4 : val a - val Q * val b < val b := by
          rw [f1] at e3
          have h3 : 2 ^ s * (val a - val Q * val b) < 2 ^ s * val b := by rw [Int.mul_comm (2 ^ s) (val b)]; exact e3
          exact Int.lt_of_mul_lt_mul_left h3 (by omega)
        have f5 := (Int.ediv_emod_unique (a := val a) (b := val b) (r := val a - val Q * val b) (q := val Q) hb1).2 ⟨by rw [Int.mul_comm (val b)]; omega, f3, f4⟩
        exact ⟨f5.1.symm, by rw [f2]; exact f5.2.symm⟩)
      have hnm : (n : Int) ≤ (m : Int) + 1 := by omega
      have hKb2 : K ≤ 9223372036854775807 := by omega
      clear e1 e2 e3 e4 HU HV HQ HD hPp
      go_wp2_with (fail)
      go_region_held3 (fun W' : World => Below wr.heap.size wr W')
        (first | exact (Below.refl _ _).drew | assumption | exact Gen.over (by assumption) (by assumption))
        (first
          | (go_at_call 39; (with_reducible refine (trim_any (some ⟨gQ, 0, none⟩) K K Q _ HQL.out (Ints.keep HQI.out (by assumption)) (Nat.le_refl _) hKb2).mono ?_); rintro e' w' ⟨k1, hk1, rfl, hT1, hv1, rfl⟩)
          | (go_at_call 65; refine (shr_any _ HUL.out (Ints.keep HUI.out (by assumption)) HUD.out (by omega) hs20).mono ?_; rintro e' w' ⟨A2, c2, L, rfl, hLc, hLI, hLD, hLL, hLV, hbL⟩)
          | (go_at_call 39; refine (trim_any A2 n c2 L _ hLL hLI hLc (by omega)).mono ?_; rintro e' w' ⟨k3, hk3, rfl, hT3, hv3, rfl⟩))
      all_goals
        go_wp2
        refine bodyPost_ret (v := .tuple #[.slice (some ⟨gQ, 0, none⟩) k1 K, .slice A2 k3 c2]) ?_ rfl ⟨some ⟨gQ, 0, none⟩, K, Q.take k1, A2, c2, L.take k3, ?_, ints_take (HQI.out.keep (by assumption)) k1, ints_take hLI k3, ⟨HQD.out.take k1, hT1, hv1.trans HQV.out.1⟩, ⟨hLD.take k3, hT3, (hv3.trans hLV).trans HQV.out.2⟩, Gen.over (by assumption) HB.out⟩
        · simp [results, Tryd.results48, go_sem]
        · rw [List.length_take, List.length_take, HQL.out, hLL, Nat.min_eq_left hk1, Nat.min_eq_left hk3]
    | succ j =>
      rw [km_succ]
      have hul : U.length = K + n := by have := HD.out.lu; rw [HQL.out] at this; exact this
      have hmK : m + 1 = K + n := by have := HKK.out; have := HDD.out; omega
      obtain ⟨jn, hjn⟩ : ∃ jn, jn = j + n := ⟨_, rfl⟩
      obtain ⟨jm, hjm⟩ : ∃ jm, jm + 1 = jn := ⟨j + n1, by have := HN1.out; omega⟩
      obtain ⟨jp, hjp⟩ : ∃ jp, jp + 2 = jn := ⟨j + p, by have := HP.out; omega⟩
      obtain ⟨x3, hx3⟩ := at_ U jn (by omega)
      obtain ⟨x2, hx2⟩ := at_ U jm (by omega)
      obtain ⟨x1, hx1⟩ := at_ U jp (by omega)
      obtain ⟨v1, hv1⟩ := at_ v (p + 1) (by rw [HVL.out, HP.out]; omega)
      obtain ⟨v2, hv2⟩ := at_ v p (by rw [HVL.out, HP.out]; omega)
      have hn1p : n1 = p + 1 := by have := HP.out; have := HN1.out; omega
      have u3 : wr.cell? ⟨gU, jn, none⟩ = some (.int .i64 x3) := HU.out.intAt hx3
      have u2 : wr.cell? ⟨gU, jm, none⟩ = some (.int .i64 x2) := HU.out.intAt hx2
      have u1 : wr.cell? ⟨gU, jp, none⟩ = some (.int .i64 x1) := HU.out.intAt hx1
      have q1 : wr.cell? ⟨gV, n1, none⟩ = some (.int .i64 v1) := HV.out.intAt (by rw [hn1p, List.getElem?_append_left (lt_of_at hv1)]; exact hv1)
      have q2 : wr.cell? ⟨gV, p, none⟩ = some (.int .i64 v2) := HV.out.intAt (by rw [List.getElem?_append_left (lt_of_at hv2)]; exact hv2)
      have hxd3 := HD.out.dU.at_ hx3
      have hxd2 := HD.out.dU.at_ hx2
      have hxd1 := HD.out.dU.at_ hx1
      have hvd1 := HVD.out.at_ hv1
      have hvd2 := HVD.out.at_ hv2
      have hv10 : v1 ≠ 0 := fun e => HVT.out (by rw [List.getLast?_eq_getElem?, HVL.out, HP.out, ← e]; exact hv1)
      have HK := Lib.hid (by
        have h := HD.out
        rw [HP.out] at h
        exact h.kn HVD.out (by rw [HVL.out, HP.out]) HVX.out hv1 hv2 hv10 (by rw [show j + p = jp by have := HP.out; omega]; exact hx1) (by rw [show j + (p + 1) = jm by have := HP.out; omega]; exact hx2) (by rw [show j + (p + 2) = jn by have := HP.out; omega]; exact hx3))
      have i1 : (j : Int) + (n : Int) = (jn : Int) := by omega
      have i2 : IntKind.i64.wrap (jn : Int) = (jn : Int) := IntWalk.i64_in _ (by omega)
      have i3 : (jn : Int) - 1 = (jm : Int) := by omega
      have i4 : IntKind.i64.wrap (jm : Int) = (jm : Int) := IntWalk.i64_in _ (by omega)
      have i5 : (jn : Int) - 2 = (jp : Int) := by omega
      have i6 : IntKind.i64.wrap (jp : Int) = (jp : Int) := IntWalk.i64_in _ (by omega)
      have i7 : (jn : Int) < (m : Int) + 1 := by omega
      have i8 : (jm : Int) < (m : Int) + 1 := by omega
      have i9 : (jp : Int) < (m : Int) + 1 := by omega
      have ia : (0 : Int) ≤ (jn : Int) := by omega
      have ib : (0 : Int) ≤ (jm : Int) := by omega
      have ic : (0 : Int) ≤ (jp : Int) := by omega
      have id : (0 : Int) ≤ (j : Int) := by omega
      have ie : (n : Int) - 2 = (p : Int) := by have := HP.out; omega
      have ig : IntKind.i64.wrap (p : Int) = (p : Int) := IntWalk.i64_in _ (by have := HP.out; omega)
      have ih : (p : Int) < (n : Int) := by have := HP.out; omega
      have ii : (0 : Int) ≤ (p : Int) := by omega
      have hw3 : IntKind.i64.wrap (x3 * 1048576) = x3 * 1048576 := IntWalk.i64_in _ (by omega)
      have hor := or_join x3 x2 (by omega) hxd2
      obtain ⟨top, htop⟩ : ∃ t, x3 * 1048576 + x2 = t := ⟨_, rfl⟩
      rw [htop] at HK hor
      have htb : 0 ≤ top ∧ top < 1099511627776 := by omega
      have HJN := Lib.hid hjn
      have HJM := Lib.hid hjm
      have HJP := Lib.hid hjp
      have HMK := Lib.hid hmK
      have HUL := Lib.hid hul
      obtain ⟨g0, hg0⟩ : ∃ g, min (top / v1) 1048575 = g := ⟨_, rfl⟩
      obtain ⟨hG0, hG1, hG2⟩ := HK.out.init hg0.symm
      have hgv := mul_small' hG1 hvd1
      have hw4 : IntKind.i64.wrap (g0 * v1) = g0 * v1 := IntWalk.i64_in _ (by omega)
      have hw5 : IntKind.i64.wrap (top - g0 * v1) = top - g0 * v1 := IntWalk.i64_in _ (by omega)
      obtain ⟨r0, hr0⟩ : ∃ r, top - g0 * v1 = r := ⟨_, rfl⟩
      rw [hr0] at hw5 hG2
      have HG0 := Lib.hid hG0
      have HR0 := Lib.hid hr0
      clear hul hmK hjn hjm hjp hx3 hx2 hx1 hv1 hv2 hn1p htop hG0 hgv
      go_wp2
      go_quiet (fail)
      go_wp2
      clear hw4 hw5 hr0 hg0 hor hw3
      have HUz : Hid (Row (wr.drewN nq) gU 3 (ics U)) := HU
      have HVz : Hid (Row (wr.drewN nq) gV 3 (ics (v ++ r))) := HV
      have HQz : Hid (Row (wr.drewN nq) gQ 3 (ics Q)) := HQ
      have HBz := Lib.hid (Gen.dN HB.out nq)
      have C1 : Hid ((wr.drewN nq).cell? ⟨gU, jp, none⟩ = some (.int .i64 x1)) := Lib.hid u1
      have C2 : Hid ((wr.drewN nq).cell? ⟨gV, n1, none⟩ = some (.int .i64 v1)) := Lib.hid q1
      have C3 : Hid ((wr.drewN nq).cell? ⟨gV, p, none⟩ = some (.int .i64 v2)) := Lib.hid q2
      generalize wr.drewN nq = wz at HUz HVz HQz HBz C1 C2 C3 ⊢
      clear HU HV HQ HB u1 u2 u3 q1 q2
      go_loopw [13, 14] (fun gv rv wq => ∃ (g rr : Int), gv = .int .i64 g ∧ rv = .int .i64 rr ∧ (0 ≤ g ∧ g ≤ 1048575) ∧ (0 ≤ rr ∧ rr ≤ top) ∧ Hid (top - g * v1 = rr) ∧ Hid (val ((U.drop j).take (p + 3)) < (g + 1) * (val b * 2 ^ s)) ∧ ∃ q, wq = wz.drewN q) (fun gv _ _ => (intOf gv).toNat)
      case atStart => exact ⟨g0, r0, rfl, rfl, hG1, ⟨hG2, by have := HR0.out; have := shl_in (x := v1) (P := 1) hvd1 (by omega); have : 0 ≤ g0 * v1 := Int.mul_nonneg hG1.1 hvd1.1; omega⟩, HR0, HG0, 0, rfl⟩
      case round =>
        clear hG1 hG2 HG0 HR0
        obtain ⟨g, rr, rfl, rfl, hg1, hr1, HRR, HGG, q, rfl⟩ := hrel
        have u1 := C1.out
        have q1 := C2.out
        have q2 := C3.out
        have hgv2 := mul_small' hg1 hvd2
        have hw6 : IntKind.i64.wrap (g * v2) = g * v2 := IntWalk.i64_in _ (by omega)
        have hout : ∀ (hx : 1048575 < rr ∨ g * v2 ≤ rr * 1048576 + x1), Hid (g * (val b * 2 ^ s) ≤ val ((U.drop j).take (p + 3)) + val b * 2 ^ s) := fun hx => Lib.hid (HK.out.exit hg1 HRR.out.symm hx)
        have HOUT := Lib.hid hout
        clear hout
        by_cases ht0 : rr ≤ 1048575 ∧ rr * 1048576 + x1 < g * v2
        · obtain ⟨hr2, ht⟩ := ht0
          have hw7 : IntKind.i64.wrap (rr * 1048576) = rr * 1048576 := IntWalk.i64_in _ (by omega)
          have hor2 := or_join rr x1 (by omega) hxd1
          obtain ⟨hd1, hd2⟩ := HK.out.dec hg1.1 HRR.out.symm hr1.1 ht
          have hw8 : IntKind.i64.wrap (g - 1) = g - 1 := IntWalk.i64_in _ (by omega)
          have hw9 : IntKind.i64.wrap (rr + v1) = rr + v1 := IntWalk.i64_in _ (by omega)
          have HR2 : Hid (top - (g - 1) * v1 = rr + v1) := Lib.hid (by have := HRR.out; rw [Int.sub_mul, Int.one_mul]; omega)
          have HG2 : Hid (val ((U.drop j).take (p + 3)) < (g - 1 + 1) * (val b * 2 ^ s)) := Lib.hid (by rw [Int.sub_add_cancel]; exact hd1)
          have hrt : rr + v1 ≤ top := by
            have h := HR2.out
            have : 0 ≤ (g - 1) * v1 := Int.mul_nonneg (by omega) hvd1.1
            omega
          obtain ⟨gg, hgg⟩ : ∃ x, g * v2 = x := ⟨_, rfl⟩
          rw [hgg] at ht hw6
          clear hd1 HOUT hgv2
          go_wp2
          go_quiet (fail)
          go_wp2
          go_roundw
          case rel => exact ⟨g - 1, rr + v1, rfl, rfl, by omega, by omega, HR2, HG2, _, rfl⟩
          case measure => simp [intOf]; omega
        · have HE := HOUT.out (by omega)
          obtain ⟨gg, hgg⟩ : ∃ x, g * v2 = x := ⟨_, rfl⟩
          rw [hgg] at ht0 hw6
          have HGV := Lib.hid hgg
          have HT0 := Lib.hid ht0
          clear HOUT hgv2 HRR ht0
          go_upto_region 11 with (fail)
          go_cut [99] (fun c wx => c = .bool false ∧ ∃ q', wx = wz.drewN q')
          case first =>
            by_cases hr2 : rr ≤ 1048575
            · have hw7 : IntKind.i64.wrap (rr * 1048576) = rr * 1048576 := IntWalk.i64_in _ (by omega)
              have hor2 := or_join rr x1 (by omega) hxd1
              have ht : ¬ (rr * 1048576 + x1 < gg) := fun h => HT0.out ⟨hr2, h⟩
              go_quiet (fail)
              go_wp2
              go_meet
              exact ⟨rfl, _, rfl⟩
            · have hdec : decide (rr ≤ 1048575) = false := decide_eq_false hr2
              go_quiet (fail)
              go_wp2
              go_meet
              exact ⟨rfl, _, rfl⟩
          case rest =>
            obtain ⟨rfl, q', rfl⟩ := hcut
            clear hw6 hgg HGV HT0
            have HU5 : Hid (Row (wz.drewN q') gU 3 (ics U)) := HUz
            have HV5 : Hid (Row (wz.drewN q') gV 3 (ics (v ++ r))) := HVz
            have HQ5 : Hid (Row (wz.drewN q') gQ 3 (ics Q)) := HQz
            have HB5 := Lib.hid (Gen.dN HBz.out q')
            generalize wz.drewN q' = w5 at HU5 HV5 HQ5 HB5 ⊢
            clear HUz HVz HQz HBz C1 C2 C3 u1 q1 q2
            have j1 : IntKind.i64.wrap ((jn : Int) + 1) = (jn : Int) + 1 := IntWalk.i64_in _ (by have := HUL.out; have := HMK.out; omega)
            have j2 : (j : Int) ≤ (jn : Int) + 1 := by have := HJN.out; omega
            have j3 : (jn : Int) + 1 ≤ (m : Int) + 1 := by have := HJN.out; have := HMK.out; omega
            have j4 : ((jn : Int) + 1).toNat = jn + 1 := by omega
            have j5 : (m + 1 = j) = False := by simp; have := HJN.out; have := HMK.out; omega
            obtain ⟨N1, hN1⟩ : ∃ N1, N1 = n + 1 := ⟨_, rfl⟩
            have j6 : jn + 1 - j = N1 := by have := HJN.out; omega
            have HNN := Lib.hid hN1
            clear hN1
            have htj : Hid ((U.take j).length = j) := Lib.hid (by rw [List.length_take]; have := HUL.out; have := HMK.out; have := HJN.out; omega)
            have hjN : Hid (j + N1 ≤ U.length) := Lib.hid (by have := HNN.out; have := HUL.out; have := HQL.out; omega)
            go_wp2_with (fail)
            go_must (refine (subT_any _ HU5.out hjN.out HD.out.dU (fun e => hUV e.symm) HV5.out HVL.out HVD.out hg1 (by rw [HUL.out]; omega) (by omega)).mono ?_)
            rintro e w6 ⟨out, cy, rfl, hO, hRU, hS⟩
            have HS := Lib.hid hS
            have HU6 := Lib.hid hRU
            have HV6 := Lib.hid (hO.row gV _ _ (fun e => hUV e.symm) HV5.out)
            have HQ6 := Lib.hid (hO.row gQ _ _ hQU HQ5.out)
            have HB6 := Lib.hid (hO.bl w1 HB5.out HGL.out.1)
            have HVlt : Hid (val b * 2 ^ s < pw N1) := Lib.hid (by rw [HNN.out, pw_succ]; have := HLT.out; have := pw_pos n; omega)
            have HEQ : Hid (val out + pw N1 * cy = val ((U.drop j).take (p + 3)) - g * (val b * 2 ^ s)) := Lib.hid (by
              have h := HS.out.eq
              rw [List.take_of_length_le (show v.length ≤ N1 by rw [HVL.out, HNN.out]; omega), HVX.out, show N1 = p + 3 by have := HNN.out; have := HP.out; omega] at h
              rw [show N1 = p + 3 by have := HNN.out; have := HP.out; omega]
              exact h)
            have HO := Lib.hid (And.intro (val_nonneg HS.out.dg) (show val out < pw N1 by have := val_lt HS.out.dg; rwa [HS.out.len] at this))
            clear hO hRU hS HU5 HV5 HQ5 HB5 j1 j2 j3 j4 j5 j6
            by_cases hcy : cy < 0
            · obtain ⟨hc1, hc2, hc3⟩ := neg_one HEQ.out HO.out HE.out HVlt.out hcy
              have HC2 := Lib.hid hc2
              have HC3 := Lib.hid hc3
              clear hc1 hc2 hc3
              have hw8 : IntKind.i64.wrap (g - 1) = g - 1 := IntWalk.i64_in _ (by omega)
              have j1 : IntKind.i64.wrap ((jn : Int) + 1) = (jn : Int) + 1 := IntWalk.i64_in _ (by have := HUL.out; have := HMK.out; omega)
              have j2 : (j : Int) ≤ (jn : Int) + 1 := by have := HJN.out; omega
              have j3 : (jn : Int) + 1 ≤ (m : Int) + 1 := by have := HJN.out; have := HMK.out; omega
              have j4 : ((jn : Int) + 1).toNat = jn + 1 := by omega
              have j5 : (m + 1 = j) = False := by simp; have := HJN.out; have := HMK.out; omega
              have j6 : jn + 1 - j = N1 := by have := HJN.out; have := HNN.out; omega
              have HUL2 := Lib.hid (seg_len hjN.out HS.out.len)
              go_wp2_with (fail)
              go_must (refine (addB_any _ HU6.out (by rw [HUL2.out]; exact hjN.out) (((HD.out.dU.take j).append HS.out.dg).append (HD.out.dU.drop _)) (fun e => hUV e.symm) HV6.out HVL.out HVD.out (by rw [HUL2.out, HUL.out]; omega) (by omega)).mono ?_)
              rintro e w7 ⟨out2, c2, rfl, hO, hRU, hS⟩
              rw [seg_take htj.out, seg_drop htj.out HS.out.len] at hRU
              have HS2 := Lib.hid hS
              have HU7 := Lib.hid hRU
              have HV7 := Lib.hid (hO.row gV _ _ (fun e => hUV e.symm) HV6.out)
              have HQ7 := Lib.hid (hO.row gQ _ _ hQU HQ6.out)
              have HB7 := Lib.hid (hO.bl w1 HB6.out HGL.out.1)
              clear hO hRU hS HU6 HV6 HQ6 HB6 j1 j2 j3 j4 j5 j6
              have HR7 : Hid (val out2 = val ((U.drop j).take (p + 3)) - (g - 1) * (val b * 2 ^ s)) := Lib.hid (by
                have h := HS2.out.eq
                rw [seg_mid htj.out HS.out.len, List.take_of_length_le (show v.length ≤ N1 by rw [HVL.out, HNN.out]; omega), HVX.out, HC2.out] at h
                have h1 := HS2.out.rng
                have h2 := val_lt HS2.out.dg
                rw [HS2.out.len] at h2
                have h3 := HE.out
                have e : (g - 1) * (val b * 2 ^ s) = g * (val b * 2 ^ s) - val b * 2 ^ s := by rw [Int.sub_mul, Int.one_mul]
                have h4 : c2 = 0 ∨ c2 = 1 := by omega
                rcases h4 with h4 | h4
                · rw [h4, Int.mul_zero] at h; omega
                · rw [h4, Int.mul_one] at h; omega)
              have hg10 : 0 ≤ g - 1 := by
                by_cases h : 0 ≤ g - 1
                · exact h
                · have hg00 : g = 0 := by omega
                  have h3 := HC3.out
                  rw [hg00, Int.zero_mul] at h3
                  have := val_nonneg ((HD.out.dU.drop j).take (p + 3))
                  omega
              have HDN : Hid (Dv (val a * 2 ^ s) (val b * 2 ^ s) n (U.take j ++ out2 ++ U.drop (j + N1)) (Q.set j (g - 1)) j) := Lib.hid (by
                rw [HNN.out]
                refine HD.out.step HLT.out HS2.out.dg (by rw [HS2.out.len, HNN.out]) (by omega) (by rw [HR7.out, HP.out]) ?_
                rw [HR7.out]
                have e : (g - 1) * (val b * 2 ^ s) = g * (val b * 2 ^ s) - val b * 2 ^ s := by rw [Int.sub_mul, Int.one_mul]
                have := HC3.out
                omega)
              have jK : (j : Int) < (K : Int) := by omega
              obtain ⟨y, hy⟩ := at_ Q j (by rw [HQL.out]; omega)
              have l1 : w7.cell? ⟨gQ, j, none⟩ = some (.int .i64 y) := HQ7.out.intAt hy
              have hf := HQ7.out.frozen j
              have hgl := HQ7.out.lt
              have HQ8 : Hid (Row (w7.setCell ⟨gQ, j, none⟩ (.int .i64 (g - 1))) gQ 3 (ics (Q.set j (g - 1)))) := Lib.hid (by rw [← ics_set]; exact HQ7.out.set _ _)
              have HX8 := Lib.hid ((Only.refl gQ w7).set j (.int .i64 (g - 1)))
              clear hy
              go_wp2
              go_roundw
              case rel => exact ⟨j, _, _, by omega, rfl, HX8.out.row gU _ _ hQU.symm HU7.out, Lib.hid (HX8.out.row gV _ _ hQV.symm HV7.out), HQ8, Lib.hid (by rw [List.length_set]; exact HQL.out), HDN, Lib.hid (HX8.out.bl w1 HB7.out HGL.out.2.2)⟩
              case measure => simp [intOf, km]
            · have hcy0 : cy = 0 := by have := HS.out.rng; omega
              have HR7 : Hid (val out = val ((U.drop j).take (p + 3)) - g * (val b * 2 ^ s)) := Lib.hid (by
                have h := HEQ.out
                rw [hcy0, Int.mul_zero] at h
                omega)
              have HDN : Hid (Dv (val a * 2 ^ s) (val b * 2 ^ s) n (U.take j ++ out ++ U.drop (j + N1)) (Q.set j g) j) := Lib.hid (by
                rw [HNN.out]
                refine HD.out.step HLT.out HS.out.dg (by rw [HS.out.len, HNN.out]) (by omega) (by rw [HR7.out, HP.out]) ?_
                rw [HR7.out]
                have e : (g + 1) * (val b * 2 ^ s) = g * (val b * 2 ^ s) + val b * 2 ^ s := by rw [Int.add_mul, Int.one_mul]
                have := HGG.out
                omega)
              have jK : (j : Int) < (K : Int) := by omega
              obtain ⟨y, hy⟩ := at_ Q j (by rw [HQL.out]; omega)
              have l1 : w6.cell? ⟨gQ, j, none⟩ = some (.int .i64 y) := HQ6.out.intAt hy
              have hf := HQ6.out.frozen j
              have hgl := HQ6.out.lt
              have HQ8 : Hid (Row (w6.setCell ⟨gQ, j, none⟩ (.int .i64 g)) gQ 3 (ics (Q.set j g))) := Lib.hid (by rw [← ics_set]; exact HQ6.out.set _ _)
              have HX8 := Lib.hid ((Only.refl gQ w6).set j (.int .i64 g))
              clear hy hcy0
              go_wp2
              go_roundw
              case rel => exact ⟨j, _, _, by omega, rfl, HX8.out.row gU _ _ hQU.symm HU6.out, Lib.hid (HX8.out.row gV _ _ hQV.symm HV6.out), HQ8, Lib.hid (by rw [List.length_set]; exact HQL.out), HDN, Lib.hid (HX8.out.bl w1 HB6.out HGL.out.2.2)⟩
              case measure => simp [intOf, km]
end Go.Proofs.YtnifkianjpjahaaDoor.Bg
