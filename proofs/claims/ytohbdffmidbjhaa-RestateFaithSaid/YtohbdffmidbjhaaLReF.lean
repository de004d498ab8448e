/- Restatements: RestateFaith. -/
import Derived.Test.YtohbdffmidbjhaaReY
import Derived.Test.YtohbdffmidbjhaaTlK
namespace Go.Proofs.Ytohbdffmidbjhaa.Re
open Go.ChangeShapes Go.WideShapes Go.ChangeAt Go.RowKit Go.Maps Go.Proofs.Ytohbdffmidbjhaa.Cell Go.Proofs.Ytohbdffmidbjhaa.Rk
set_option linter.unusedVariables false
set_option linter.unusedSimpArgs false
theorem b1_one (l : List Bool) : ∀ u ∈ l.flatMap b1, u.oneCell' = true := fun u hu => by
  obtain ⟨x, _, hx⟩ := List.mem_flatMap.1 hu
  simp [b1] at hx
  subst hx
  rfl
theorem bos_to {w : World} {A : Option Addr} {l : List Bool} (h : Bos w A l) : Rs b1 1 w A l := fun h0 => by
  obtain ⟨b, off, e, hc⟩ := h h0
  refine ⟨b, off, e, fun j x hx r v hv => ?_⟩
  have h1 := hc j x hx
  cases r with
  | zero =>
    have hv : Value.bool x = v := by simpa [b1] using hv
    rw [Nat.mul_one, Nat.add_zero, ← hv]
    exact h1
  | succ r => simp [b1] at hv
/-- a list of bools of one's own, one of them written into -/
theorem bos_set {W : World} {B g n c k : Nat} {good : List Bool} (ho : W.ownsRow B 4 1 (.slice (some ⟨g, 0, none⟩) n c) n (good.flatMap b1)) (hg : good.length = n) (hk : k < n) :
    (∃ v0, W.cell? ⟨g, k, none⟩ = some (.bool v0)) ∧ W.frozen? ⟨g, k, none⟩ = false ∧ Bos (W.setCell ⟨g, k, none⟩ (.bool true)) (some ⟨g, 0, none⟩) (good.set k true) ∧ B ≤ g := by
  have hrs := rs_own (f := b1) (K := 1) (fun _ => rfl) hg ho
  obtain ⟨g', off', e, hc⟩ := hrs (by omega)
  injection e with e
  injection e with e1 e2
  subst e1 e2
  obtain ⟨v0, hv0⟩ := at_ good k (by omega)
  have c0 := hc k v0 hv0 0 _ rfl
  rw [Nat.zero_add, Nat.mul_one, Nat.add_zero] at c0
  rcases ho.2 with ⟨h1, _⟩ | ⟨g2, cap, cur, hv, hB, hrow, _⟩
  · cases h1
  · injection hv with e
    injection e with e
    injection e with e
    subst e
    have hrow : Row W g 4 cur := hrow
    refine ⟨⟨v0, c0⟩, hrow.frozen k, fun h0 => ⟨g, 0, rfl, fun j x hx => ?_⟩, hB⟩
    rw [Nat.zero_add]
    have hrs2 := hrow.set k (.bool true)
    rw [List.getElem?_set] at hx
    by_cases hj : k = j
    · subst hj
      rw [if_pos rfl] at hx
      have hx2 : true = x := by
        split at hx
        · exact Option.some.inj hx
        · cases hx
      have hlt : k < cur.size := by
        have := hrow.cell k
        rw [c0] at this
        exact (Array.getElem?_eq_some_iff.1 this.symm).1
      rw [hrs2.cell k, ← hx2]
      simp [Array.getElem?_setIfInBounds, hlt]
    · rw [if_neg hj] at hx
      have cj := hc j x hx 0 _ rfl
      rw [Nat.zero_add, Nat.mul_one, Nat.add_zero] at cj
      rw [World.cell?_setCell_other _ _ _ _ (by intro e; injection e with _ e; exact hj e)]
      exact cj
theorem bk_better {l : List Py} {due : List Int} {good : List Bool} {k : Nat} (h : bkOk l due good = true) : bkOk l due (good.set k true) = true := by
  unfold bkOk at h ⊢
  rw [List.length_set]
  exact h
set_option maxRecDepth 100000 in
set_option maxHeartbeats 16000000 in
theorem faith_any {w : World} {A A1 A2 : Option Addr} {n n1 n2 c c1 c2 : Nat} {l : List Py} {due : List Int} {good : List Bool} (hn : l.length = n) (hn1 : due.length = n1) (hn2 : good.length = n2) (hc : Pys w A l) (hd : Ints w A1 due) (hg : Bos w A2 good) (hbig : n ≤ 9223372036854775807) (hbig1 : n1 ≤ 9223372036854775807) (hbig2 : n2 ≤ 9223372036854775807) (hwf : ∀ x ∈ l, wfI x.se) (at' : Int) (ha0 : 0 ≤ at') (ha1 : at' ≤ 255) :
    Calls Try.prog 7 #[.slice A n c, .slice A1 n1 c1, .slice A2 n2 c2, .int .u8 at'] w fun e w' => e = .returned (.bool true) ∧ Below w.heap.size w w' := by
  obtain ⟨iB, hiB, hzB, hyB, hxB⟩ := info_parts' infoB
  have HN := Lib.hid hn
  have HN1 := Lib.hid hn1
  have HN2 := Lib.hid hn2
  have HC := Lib.hid hc
  have HD := Lib.hid hd
  have HG := Lib.hid hg
  have HWF := Lib.hid hwf
  clear hn hn1 hn2 hc hd hg hwf
  go_enter Try.func7, Try.ntmps7
  go_wp2_with (fail)
  go_must (refine (small_any _).mono ?_)
  rintro e w1 ⟨rfl, hb⟩
  have HB1 := Lib.hid hb
  have HC := Lib.hid (HC.out.keep hb)
  have HD := Lib.hid (HD.out.keep hb)
  have HG := Lib.hid (HG.out.keep hb)
  clear hb
  by_cases h20 : n ≤ 20
  case neg =>
    have h1 : (20 : Int) < (n : Int) := by omega
    clear h20
    go_wp2
    go_ret
    exact ⟨rfl, HB1.out⟩
  have h20I : ¬ ((20 : Int) < (n : Int)) := by omega
  by_cases h0 : n = 0
  · have h1 : ((n : Int) == 0) = true := by simp [h0]
    have HH := Lib.hid h0
    clear h0 h20
    go_wp2
    go_ret
    exact ⟨rfl, HB1.out⟩
  have h0I : ((n : Int) == 0) = false := by simp [h0]
  by_cases h2 : n2 = n
  case neg =>
    have h1 : ((n2 : Int) != (n : Int)) = true := by simp; omega
    clear h0 h20 h2
    go_wp2
    go_ret
    exact ⟨rfl, HB1.out⟩
  subst h2
  have h2I : ((n2 : Int) != (n2 : Int)) = false := by simp
  clear hbig hbig2
  go_wp2_with (fail)
  go_must (refine (back_l HN.out HN1.out HN2.out HC.out HD.out HG.out (by omega) hbig1 (by omega) HWF.out).mono ?_)
  rintro e w2 ⟨hb, hq⟩
  have HB2 := Lib.hid (Gen.over hb HB1.out)
  have HC := Lib.hid (HC.out.keep hb)
  have HD := Lib.hid (HD.out.keep hb)
  have HG := Lib.hid (HG.out.keep hb)
  have HSZ := Lib.hid hb.size
  clear hb HB1 h0I h20I h2I
  rcases hq with ⟨hok, rfl⟩ | ⟨hok, hov, rfl⟩ | ⟨hok, hov, v1, v2, rfl, hl1, ho1, hl2, ho2⟩
  · clear hok
    go_wp2
    go_ret
    exact ⟨rfl, HB2.out⟩
  · clear hok hov
    go_wp2
    go_ret
    exact ⟨rfl, HB2.out⟩
  obtain ⟨L, hL⟩ : ∃ L, rL l due good l.length = L := ⟨_, rfl⟩
  rw [hL] at hov hl1 ho1 hl2 ho2
  obtain ⟨B1, d1, rfl, _⟩ := Gen.own_slice ho1
  obtain ⟨B2, d2, rfl, _⟩ := Gen.own_slice ho2
  obtain ⟨m1, hm1⟩ : ∃ m1, L.1.length = m1 := ⟨_, rfl⟩
  obtain ⟨m2, hm2⟩ : ∃ m2, L.2.length = m2 := ⟨_, rfl⟩
  have HS1 := Lib.hid (rs_own (f := p2) (K := 2) (fun _ => rfl) rfl ho1)
  have HS2 := Lib.hid (rs_own (f := p2) (K := 2) (fun _ => rfl) rfl ho2)
  rw [HN.out] at hl1 hl2
  simp only [hm1, hm2] at hl1 hl2 ⊢
  have HM1 := Lib.hid hm1
  have HM2 := Lib.hid hm2
  have HL := Lib.hid hL
  have HOV := Lib.hid hov
  have HOK := Lib.hid hok
  clear hL ho1 ho2 hm1 hm2 hov hok
  have hr0 : 0 ≤ at'.tmod (n2 : Int) ∧ at'.tmod (n2 : Int) < (n2 : Int) := ⟨Int.tmod_nonneg _ ha0, Int.tmod_lt_of_pos _ (by omega)⟩
  obtain ⟨r, hr⟩ : ∃ r, at'.tmod (n2 : Int) = r := ⟨_, rfl⟩
  rw [hr] at hr0
  obtain ⟨k, rfl⟩ : ∃ k : Nat, r = (k : Int) := ⟨r.toNat, by omega⟩
  have hk : k < n2 := by omega
  have hkI : (k : Int) < (n2 : Int) := by omega
  have k0 : (0 : Int) ≤ (k : Int) := by omega
  have hwr : IntKind.i64.wrap (k : Int) = (k : Int) := IntWalk.i64_in _ (by omega)
  have hwa : IntKind.i64.wrap at' = at' := IntWalk.i64_in _ (by omega)
  have hz0 : ((n2 : Int) == 0) = false := by simp [h0]
  have N1 := Lib.hid (show 0 + n2 ≤ maxLen by simp only [maxLen]; omega)
  have N2 := Lib.hid (show (0 + n2) * 1 ≤ 140737488355328 by omega)
  have hx0 : Below w2.heap.size w2 (w2.alloc (.cells #[] 4)) := Gen.b_alloc (Below.refl _ _)
  have HRE := Lib.hid (rs_reads (f := b1) (K := 1) (fun _ => rfl) (by omega) HN2.out (bos_to (HG.out.keep hx0)))
  have HO0 := Lib.hid (row_own (K := 1) (n := 0) (show Row (w2.alloc (.cells #[] 4)) w2.heap.size 4 #[] from Row.new _ _ _) rfl (by simp [maxLen]))
  clear hx0
  go_wp2_with (first
    | (at_builtin
       go_must (refine App.wpList_append_any _ rfl (.tmp 54) (.tmp 55) _ rfl w2.heap.size 4 iB _ 1 1 Try.underlying25 hiB hzB hyB hxB rfl (by omega) (.slice (some ⟨w2.heap.size, 0, none⟩) 0 0) 0 [] rfl HO0.out _ A2 n2 c2 (good.flatMap b1) rfl HRE.out (b1_one _) N1.out N2.out (Gen.b_alloc (Below.refl _ _)).size ?_
                intro v7 w7 ho7 hg7 ha7
                rw [Nat.zero_add, List.nil_append] at ho7
                have HB7 := Lib.hid (Gen.g_below (w := w2) HO0.out hg7 (Gen.b_alloc (Below.refl _ _)) (Nat.le_refl _))
                obtain ⟨g7, cap7, rfl, _, _⟩ := ho7.form (by omega)
                have hst := bos_set ho7 HN2.out hk
                obtain ⟨⟨z0, s0⟩, s1, s2, s3⟩ := hst
                have HG8 := Lib.hid s2
                have HB8 := Lib.hid (Gen.b_set (p := ⟨g7, k, none⟩) (u := .bool true) HB7.out s3)
                clear ho7 hg7 ha7 s2))
    | fail)
  have HC := Lib.hid (HC.out.keep HB8.out)
  have HD := Lib.hid (HD.out.keep HB8.out)
  have HS1 := Lib.hid (HS1.out.keep HB8.out)
  have HS2 := Lib.hid (HS2.out.keep HB8.out)
  have HB9 := Lib.hid (Gen.over HB8.out HB2.out)
  clear HB2 HB7 HB8 HG HRE HO0
  go_must (refine (back_l (good := good.set k true) HN.out HN1.out (by rw [List.length_set]; exact HN2.out) HC.out HD.out HG8.out (by omega) hbig1 (by omega) HWF.out).mono ?_)
  rintro e w3 ⟨hb, hq⟩
  have HB3 := Lib.hid (Gen.over hb HB9.out)
  have HC := Lib.hid (HC.out.keep hb)
  have HS1 := Lib.hid (HS1.out.keep hb)
  have HS2 := Lib.hid (HS2.out.keep hb)
  obtain ⟨xk, hxk⟩ := at_ l k (by rw [HN.out]; exact hk)
  have hfr := fr_all (due := due) (good := good) hxk l.length
  rw [HL.out] at hfr
  have hov := Bool.or_eq_false_iff.1 HOV.out
  have hov2 : (ovr (rL l due (good.set k true) l.length).1 || ovr (rL l due (good.set k true) l.length).2) = false := by rw [hfr.ovr hov.1, hfr.d, hov.2]; rfl
  have hok2 := bk_better (k := k) HOK.out
  clear hb HB9 HG8 s0 s1
  rcases hq with ⟨hok, _⟩ | ⟨hok, hov3, _⟩ | ⟨hok, hov3, v3, v4, rfl, hl3, ho3, hl4, ho4⟩
  · rw [hok2] at hok; cases hok
  · rw [hov2] at hov3; cases hov3
  obtain ⟨L', hL'⟩ : ∃ L', rL l due (good.set k true) l.length = L' := ⟨_, rfl⟩
  rw [hL'] at hl3 ho3 hl4 ho4 hfr
  obtain ⟨B3, d3, rfl, _⟩ := Gen.own_slice ho3
  obtain ⟨B4, d4, rfl, _⟩ := Gen.own_slice ho4
  have HS3 := Lib.hid (rs_own (f := p2) (K := 2) (fun _ => rfl) rfl ho3)
  have HS4 := Lib.hid (rs_own (f := p2) (K := 2) (fun _ => rfl) rfl ho4)
  have hm4 : L'.2.length = m2 := by rw [hfr.d]; exact HM2.out
  have hm34 := hfr.len
  rw [HM1.out] at hm34
  obtain ⟨m3, hm3⟩ : ∃ m3, L'.1.length = m3 := ⟨_, rfl⟩
  simp only [hm3, hm4] at hm34 ⊢
  rw [hfr.d] at HS4
  have HM3 := Lib.hid hm3
  have HFR := Lib.hid hfr
  have HXK := Lib.hid hxk
  have hlen : (m3 : Int) ≤ (m1 : Int) := by omega
  clear hok hov hov2 hok2 hov3 hL' ho3 ho4 hl3 hl4 hm3 hm4 hm34 hfr hxk hwr hwa hz0 hr HOV HOK
  go_wp2_with (fail)
  go_must (refine (same_any HM2.out HM2.out HS2.out HS4.out (by omega) (by omega)).mono ?_)
  rintro e w4 ⟨rfl, hb⟩
  rw [decide_eq_true rfl]
  have HB4 := Lib.hid (Gen.over hb HB3.out)
  have HC := Lib.hid (HC.out.keep hb)
  have HS1 := Lib.hid (HS1.out.keep hb)
  have HS3 := Lib.hid (HS3.out.keep hb)
  clear hb HB3 HS2 HS4
  go_wp2_with (fail)
  go_loopw [18] (fun iv wr => ∃ (i : Nat), i ≤ n2 ∧ iv = .int .i64 i ∧ Hid (Below w4.heap.size w4 wr)) (fun iv _ => n2 - (intOf iv).toNat)
  case atStart => exact ⟨0, Nat.zero_le _, rfl, Lib.hid (Below.refl _ _)⟩
  case round =>
    obtain ⟨i, hi, rfl, HBI⟩ := hrel
    have i0 : (0 : Int) ≤ (i : Int) := by omega
    by_cases hlt : i < n2
    · have hltI : (i : Int) < (n2 : Int) := by omega
      obtain ⟨⟨xi, xs, xd, xu, xp, xe⟩, hx⟩ := at_ l i (by rw [HN.out]; exact hlt)
      obtain ⟨⟨ki, ks, kd, ku, kp, ke⟩, hxk⟩ : ∃ z, l[k]? = some z := ⟨_, HXK.out⟩
      obtain ⟨b, off, rfl, hcell⟩ := (HC.out.keep HBI.out) (by rw [HN.out]; omega)
      obtain ⟨m0, e1, _, _, _, _⟩ := hcell i _ hx
      obtain ⟨q0, f1, _, _, _, _⟩ := hcell k _ hxk
      dsimp only at e1 f1
      have hse : xk.se = ks := by have h := HXK.out; rw [hxk] at h; rw [← Option.some.inj h]
      have hle := ofA_le HFR.out xs
      have heq : xs ≠ ks → ofA L'.1 xs = ofA L.1 xs := fun h => ofA_eq HFR.out (by rw [hse]; exact h)
      obtain ⟨za, hza⟩ : ∃ za, ofA L.1 xs = za := ⟨_, rfl⟩
      obtain ⟨zb, hzb⟩ : ∃ zb, ofA L'.1 xs = zb := ⟨_, rfl⟩
      have HH1 := Lib.hid (of_any (c := d1) HM1.out (HS1.out.keep HBI.out) (by omega) xs)
      have HH2 := Lib.hid (of_any (c := d3) HM3.out (HS3.out.keep HBI.out) (by omega) xs)
      rw [hza] at HH1 hle heq
      rw [hzb] at HH2 hle heq
      clear hcell hx hxk hza hzb m0 q0 hse hlt
      go_wp2_with (fail)
      go_must (refine (HH1.out).mono ?_)
      rintro e w5 ⟨rfl, hw5⟩
      subst hw5
      go_wp2_with (fail)
      go_must (refine (HH2.out).mono ?_)
      rintro e w5 ⟨rfl, hw5⟩
      subst hw5
      have hgt : ¬ (za < zb) := by omega
      by_cases hab : zb = za
      · subst hab
        have hne : (zb != zb) = false := by simp
        clear heq hle hgt
        have hgt : ¬ (zb < zb) := by omega
        go_wp2
        go_quiet (fail)
        go_wp2
        go_roundw
        case rel => exact ⟨i + 1, by omega, by go_num, Lib.hid (Gen.dN HBI.out _)⟩
        case measure => simp [intOf]; omega
      · have hxs : xs = ks := Classical.byContradiction fun h => hab (heq h)
        subst hxs
        have hne : (zb != za) = true := by simp [hab]
        have hne2 : (xs != xs) = false := by simp
        clear heq hle
        go_wp2
        go_quiet (fail)
        go_wp2
        go_roundw
        case rel => exact ⟨i + 1, by omega, by go_num, Lib.hid (Gen.dN HBI.out _)⟩
        case measure => simp [intOf]; omega
    · obtain rfl : n2 = i := by omega
      have HBE := Lib.hid (Gen.over HBI.out HB4.out)
      clear hlt
      go_wp2
      go_ret
      exact ⟨rfl, HBE.out⟩
end Go.Proofs.Ytohbdffmidbjhaa.Re
