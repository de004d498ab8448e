/- Wire: what a reader reads compared with a value. -/
import Derived.Test.YtapcfnlononniaaDoorWrI
import Derived.Deep.RegionHeld3
namespace Go.Proofs.YtapcfnlononniaaDoor.Wr
open Go.Lib Go.ChangeShapes Go.WideShapes Go.ChangeAt Go.RowKit Go.Proofs.YtapcfnlononniaaDoor.Cell
set_option linter.unusedVariables false
set_option linter.unusedSimpArgs false
theorem rdp_yes {α : Type} {W w' : World} {g : Nat} {o : Option (α × List UInt8)} {val : α → Value} {z : Value} {e : Ending} {v : α} {t : List UInt8} (ho : o = some (v, t)) (h : RdP W g false o val z e w') : e = .returned (val v) ∧ Rd w' g ⟨t.toArray⟩ false ∧ Only W w' (fun x => x = g) := by
  rcases h with ⟨v', t', h1, h2, h3, h4⟩ | ⟨h1, _⟩
  · rw [ho] at h1
    injection h1 with h1
    injection h1 with e1 e2
    subst e1 e2
    exact ⟨h2, h3, h4⟩
  · rw [ho] at h1; cases h1
theorem own_one {W : World} {B n c : Nat} {e : TypeId} {A : Option Addr} {xs : List Value} (h : W.ownsRow B e 1 (.slice A n c) n xs) (h0 : 0 < n) : ∃ b, A = some ⟨b, 0, none⟩ ∧ ∀ (j : Nat) x, xs[j]? = some x → W.cell? ⟨b, j, none⟩ = some x := by
  obtain ⟨g, cap, hv, hb, hlt⟩ := h.form h0
  obtain rfl : A = some ⟨g, 0, none⟩ := by injection hv
  refine ⟨g, rfl, fun j x hx => ?_⟩
  have hj : j < n := by
    have := (List.getElem?_eq_some_iff.1 hx).1
    have h1 := h.1
    omega
  rw [h.cellAt j (by omega), hx]
theorem own_ints {W : World} {B c : Nat} {e : TypeId} {A : Option Addr} {vs : List Int} (h : W.ownsRow B e 1 (.slice A vs.length c) vs.length (vs.map fun n => Value.int .i64 n)) : Ints W A vs := fun h0 => by
  obtain ⟨b, e1, hc⟩ := own_one h h0
  exact ⟨b, 0, e1, fun j x hx => by rw [Nat.zero_add]; exact hc j _ (by rw [List.getElem?_map, hx]; rfl)⟩
theorem own_sts {W : World} {B c : Nat} {e : TypeId} {A : Option Addr} {vs : List (List UInt8)} (h : W.ownsRow B e 1 (.slice A vs.length c) vs.length (vs.map fun l => Value.string ⟨l.toArray⟩)) : Sts W A vs := fun h0 => by
  obtain ⟨b, e1, hc⟩ := own_one h h0
  exact ⟨b, 0, e1, fun j x hx => by rw [Nat.zero_add]; exact hc j _ (by rw [List.getElem?_map, hx]; rfl)⟩
section
variable {w0 W : World} {v : Vl} {A A' : Option Addr} {c c' g : Nat} {t : List UInt8}
set_option maxRecDepth 100000 in
set_option maxHeartbeats 8000000 in
theorem equal_yes (h : Sm v) (hL : Ints w0 A v.L) (hT : Sts w0 A' v.T) (hE : En w0 W) (hg0 : w0.heap.size ≤ g) (hr : Rd W g ⟨(encV v ++ t).toArray⟩ false) (hz : (encV v ++ t).length ≤ 1000000000) :
    Calls Tryd.prog 43 #[.pointer (some ⟨g, 0, none⟩), .agg (vcs v A c A' c')] W fun e w' => e = .returned (.bool true) ∧ Rd w' g ⟨t.toArray⟩ false ∧ Only W w' (fun x => x = g) := by
  have HH := Lib.hid h
  have HLL := Lib.hid hL
  have HLT := Lib.hid hT
  have HK := Lib.hid (kdv_in v.kd)
  have HG0 := Lib.hid hg0
  have hgl := Row.lt hr
  have hB : Below W.heap.size W (W.alloc (.cells (vcs v A c A' c') 25)) := Gen.b_alloc (Below.refl _ _)
  have hR : Row (W.alloc (.cells (vcs v A c A' c') 25)) W.heap.size 25 (vcs v A c A' c') := Row.new _ _ _
  have hC := fun W' => kind_any (v := v) (A := A) (c := c) (A' := A') (c' := c') (W := W') HH.out.k
  have HE := Lib.hid hE
  have HR := Lib.hid hr
  unfold vcs at hB hR hC ⊢
  have HC := Lib.hid hC
  clear hC h hL hT hE hr hg0
  have hzz : (⟨(encV v ++ t).toArray⟩ : ByteArray).size ≤ 1000000000 := by simpa [ByteArray.size] using hz
  have HZ := Lib.hid hzz
  clear hzz hz
  go_enter Tryd.func43, Tryd.ntmps43
  go_wp2_with (fail)
  go_must (refine (HC.out _).mono ?_)
  rintro e w1 ⟨rfl, hb1⟩
  have HB1 := Lib.hid (Gen.over hb1 hB)
  have HV1 := Lib.hid (hR.keep hb1)
  have HE1 := Lib.hid (HE.out.keep HB1.out)
  have HR1 := Lib.hid (HR.out.keep HB1.out)
  clear hb1 hB hR
  obtain ⟨K, hK⟩ : ∃ K, kdv v.kd = K := ⟨_, rfl⟩
  have HKd := Lib.hid hK
  rw [hK]
  have hKi : 0 ≤ K ∧ K ≤ 4 := hK ▸ HK.out
  clear hK
  dsimp only
  have r1 := HV1.out.cell 1
  have r2 := HV1.out.cell 2
  have r3 := HV1.out.cell 3
  have r4 := HV1.out.cell 4
  have hne : W.heap.size ≠ g := by omega
  rcases (show K = 0 ∨ K = 1 ∨ K = 2 ∨ K = 3 ∨ K = 4 by omega) with rfl | rfl | rfl | rfl | rfl
  · have HX : Hid (encV v = encI (nbr v.n)) := Lib.hid (by unfold encV; rw [HKd.out, if_pos rfl])
    obtain ⟨N, hN⟩ : ∃ N : Nat, nbr v.n = N := ⟨(nbr v.n).toNat, by have := (nbr_in HH.out.n).2; omega⟩
    have HNb := Lib.hid hN
    have hN9 : N ≤ 9223372036854775807 := by have := (nbr_in HH.out.n).1.2; omega
    clear hN
    have HN : Hid (Calls Tryd.prog 24 #[.pointer (some ⟨g, 0, none⟩)] w1.drew fun e w' => e = .returned (.int .i64 (N : Int)) ∧ Rd w' g ⟨t.toArray⟩ false ∧ Only w1 w' (fun x => x = g) ∧ w'.cell? ⟨W.heap.size, 1, none⟩ = some (.int .i64 v.n)) := Lib.hid (by
      refine (num_any (show Rd w1.drew g _ false from HR1.out) HZ.out HE1.out.pt HE1.out.e2 HE1.out.e3).mono ?_
      intro e w' h
      obtain ⟨h1, h2, h3⟩ := rdp_yes (show siz 59 (⟨(encV v ++ t).toArray⟩ : ByteArray).data.toList = some (N, t) from by rw [HX.out, HNb.out]; exact num_back hN9 t) h
      have h4 : Only w1 w' (fun x => x = g) := (Only.of_below (show Below w1.heap.size w1 w1.drew from (Below.refl _ _).drew) _).then h3
      exact ⟨h1, h2, h4, Only.cell h4 r1 hne⟩)
    have HS := Lib.hid (show Only w1 w1.drew (fun x => x = g) ∧ w1.drew.cell? ⟨W.heap.size, 1, none⟩ = some (.int .i64 v.n) from ⟨Only.of_below (Below.refl _ _).drew _, r1⟩)
    go_upto_region 3 with (fail)
    go_region_held3 (fun W' : World => Only w1 W' (fun x => x = g) ∧ W'.cell? ⟨W.heap.size, 1, none⟩ = some (.int .i64 v.n))
      (first | assumption | exact HS.out | exact hS1 | fail "keep")
      (first
        | (go_at_call 24; with_reducible refine HN.out.mono ?_; rintro e' z1 ⟨rfl, hrd, ho1, hc1⟩; have hS1 := And.intro ho1 hc1)
        | (go_at_call 57; with_reducible refine (number_any HH.out.n).mono ?_; rintro e' z2 ⟨rfl, hz2⟩; have hz2 := hz2.symm; subst hz2; rw [HNb.out])
        | fail "arm")
    all_goals
      have HRD := Lib.hid hrd
      have HO := Lib.hid (show Only W z1 (fun x => x = g) from (Only.of_below HB1.out _).then ho1)
      go_wp2
      go_ret
      exact ⟨rfl, HRD.out, HO.out⟩
  · have HX : Hid (encV v = encI v.n) := Lib.hid (by unfold encV; rw [HKd.out, if_neg (by decide), if_pos rfl])
    have HN : Hid (Calls Tryd.prog 26 #[.pointer (some ⟨g, 0, none⟩)] w1.drew fun e w' => e = .returned (.int .i64 v.n) ∧ Rd w' g ⟨t.toArray⟩ false ∧ Only w1 w' (fun x => x = g) ∧ w'.cell? ⟨W.heap.size, 1, none⟩ = some (.int .i64 v.n)) := Lib.hid (by
      refine (int_any (show Rd w1.drew g _ false from HR1.out) HZ.out HE1.out.pt HE1.out.e2 HE1.out.e3).mono ?_
      intro e w' h
      obtain ⟨h1, h2, h3⟩ := rdp_yes (show untl 59 (⟨(encV v ++ t).toArray⟩ : ByteArray).data.toList = some (v.n, t) from by rw [HX.out]; exact int_back HH.out.n t) h
      have h4 : Only w1 w' (fun x => x = g) := (Only.of_below (show Below w1.heap.size w1 w1.drew from (Below.refl _ _).drew) _).then h3
      exact ⟨h1, h2, h4, Only.cell h4 r1 hne⟩)
    have HS := Lib.hid (show Only w1 w1.drew (fun x => x = g) ∧ w1.drew.cell? ⟨W.heap.size, 1, none⟩ = some (.int .i64 v.n) from ⟨Only.of_below (Below.refl _ _).drew _, r1⟩)
    go_upto_region 5 with (fail)
    go_region_held3 (fun W' : World => Only w1 W' (fun x => x = g) ∧ W'.cell? ⟨W.heap.size, 1, none⟩ = some (.int .i64 v.n))
      (first | assumption | exact HS.out | exact hS1 | fail "keep")
      (first
        | (go_at_call 26; with_reducible refine HN.out.mono ?_; rintro e' z1 ⟨rfl, hrd, ho1, hc1⟩; have hS1 := And.intro ho1 hc1)
        | fail "arm")
    all_goals
      have HRD := Lib.hid hrd
      have HO := Lib.hid (show Only W z1 (fun x => x = g) from (Only.of_below HB1.out _).then ho1)
      go_wp2
      go_ret
      exact ⟨rfl, HRD.out, HO.out⟩
  · have HX : Hid (encV v = encT v.s) := Lib.hid (by unfold encV; rw [HKd.out, if_neg (by decide), if_neg (by decide), if_pos rfl])
    have hs9 : v.s.length ≤ 9223372036854775807 := by have := HH.out.s; omega
    have HN : Hid (Calls Tryd.prog 28 #[.pointer (some ⟨g, 0, none⟩)] w1.drew fun e w' => e = .returned (.string ⟨v.s.toArray⟩) ∧ Rd w' g ⟨t.toArray⟩ false ∧ Only w1 w' (fun x => x = g) ∧ w'.cell? ⟨W.heap.size, 2, none⟩ = some (.string ⟨v.s.toArray⟩)) := Lib.hid (by
      refine (text_any (show Rd w1.drew g _ false from HR1.out) HZ.out HE1.out.pt HE1.out.e2 HE1.out.e3).mono ?_
      intro e w' h
      obtain ⟨h1, h2, h3⟩ := rdp_yes (show txr (⟨(encV v ++ t).toArray⟩ : ByteArray).data.toList = some (v.s, t) from by rw [HX.out]; exact text_back hs9 t) h
      have h4 : Only w1 w' (fun x => x = g) := (Only.of_below (show Below w1.heap.size w1 w1.drew from (Below.refl _ _).drew) _).then h3
      exact ⟨h1, h2, h4, Only.cell h4 r2 hne⟩)
    have HS := Lib.hid (show Only w1 w1.drew (fun x => x = g) ∧ w1.drew.cell? ⟨W.heap.size, 2, none⟩ = some (.string ⟨v.s.toArray⟩) from ⟨Only.of_below (Below.refl _ _).drew _, r2⟩)
    go_upto_region 7 with (fail)
    go_region_held3 (fun W' : World => Only w1 W' (fun x => x = g) ∧ W'.cell? ⟨W.heap.size, 2, none⟩ = some (.string ⟨v.s.toArray⟩))
      (first | assumption | exact HS.out | exact hS1 | fail "keep")
      (first
        | (go_at_call 28; with_reducible refine HN.out.mono ?_; rintro e' z1 ⟨rfl, hrd, ho1, hc1⟩; have hS1 := And.intro ho1 hc1)
        | fail "arm")
    all_goals
      have HRD := Lib.hid hrd
      have HO := Lib.hid (show Only W z1 (fun x => x = g) from (Only.of_below HB1.out _).then ho1)
      go_wp2
      go_ret
      exact ⟨rfl, HRD.out, HO.out⟩
  · have HX : Hid (encV v = encL encI v.L) := Lib.hid (by unfold encV; rw [HKd.out, if_neg (by decide), if_neg (by decide), if_neg (by decide), if_pos rfl])
    have hl9 : v.L.length ≤ 1000000000 := by have := HH.out.L; omega
    have HN : Hid (Calls Tryd.prog 31 #[.pointer (some ⟨g, 0, none⟩)] w1.drew fun e w' => ∃ A9 c9, e = .returned (.slice A9 v.L.length c9) ∧ Rd w' g ⟨t.toArray⟩ false ∧ Only w1 w' (fun x => x = g) ∧ w'.cell? ⟨W.heap.size, 3, none⟩ = some (.slice A v.L.length c) ∧ Ints w' A9 v.L) := Lib.hid (by
      refine (nums_any (show Rd w1.drew g _ false from HR1.out) (fun h => by cases h) HZ.out (HE1.out.keep (show Below w1.heap.size w1 w1.drew from (Below.refl _ _).drew)) HG0.out).mono ?_
      have hback : lsr (untl 59) (⟨(encV v ++ t).toArray⟩ : ByteArray).data.toList = some (v.L, t) := by rw [HX.out]; exact nums_back (by omega) HH.out.Li t
      rintro e w' (⟨vs, t', A9, c9, h1, rfl, h2, h3, h4⟩ | ⟨h1, _⟩)
      · rw [hback] at h1
        injection h1 with h1
        injection h1 with e1 e2
        subst e1 e2
        have h5 : Only w1 w' (fun x => x = g) := (Only.of_below (show Below w1.heap.size w1 w1.drew from (Below.refl _ _).drew) _).then h4
        exact ⟨A9, c9, rfl, h2, h5, Only.cell h5 r3 hne, own_ints h3⟩
      · rw [hback] at h1; cases h1)
    have HS := Lib.hid (show Only w1 w1.drew (fun x => x = g) ∧ w1.drew.cell? ⟨W.heap.size, 3, none⟩ = some (.slice A v.L.length c) from ⟨Only.of_below (Below.refl _ _).drew _, r3⟩)
    go_upto_region 9 with (fail)
    go_region_held3 (fun W' : World => Only w1 W' (fun x => x = g) ∧ W'.cell? ⟨W.heap.size, 3, none⟩ = some (.slice A v.L.length c))
      (first | assumption | exact HS.out | exact hS1 | exact hS2 | fail "keep")
      (first
        | (go_at_call 31; with_reducible refine HN.out.mono ?_; rintro e' z1 ⟨A9, c9, rfl, hrd, ho1, hc1, hm1⟩; have hS1 := And.intro ho1 hc1)
        | (go_at_call 30; with_reducible refine (SameNums_eq (l := v.L) rfl hm1 (HLL.out.keep (HE1.out.only ho1 HG0.out).b) hl9).mono ?_; rintro e' z2 ⟨rfl, hz2⟩; have hS2 := And.intro (Only.more ho1 hz2) (Gen.keep hz2 hc1))
        | fail "arm")
    all_goals
      have HRD := Lib.hid (hrd.keep hz2)
      have HO := Lib.hid (show Only W z2 (fun x => x = g) from (Only.of_below HB1.out _).then hS2.1)
      go_wp2
      go_ret
      exact ⟨rfl, HRD.out, HO.out⟩
  · have HX : Hid (encV v = encL encT v.T) := Lib.hid (by unfold encV; rw [HKd.out, if_neg (by decide), if_neg (by decide), if_neg (by decide), if_neg (by decide)])
    have hl9 : v.T.length ≤ 1000000000 := by have := HH.out.T; omega
    have HN : Hid (Calls Tryd.prog 34 #[.pointer (some ⟨g, 0, none⟩)] w1.drew fun e w' => ∃ A9 c9, e = .returned (.slice A9 v.T.length c9) ∧ Rd w' g ⟨t.toArray⟩ false ∧ Only w1 w' (fun x => x = g) ∧ w'.cell? ⟨W.heap.size, 4, none⟩ = some (.slice A' v.T.length c') ∧ Sts w' A9 v.T) := Lib.hid (by
      refine (texts_any (show Rd w1.drew g _ false from HR1.out) (fun h => by cases h) HZ.out (HE1.out.keep (show Below w1.heap.size w1 w1.drew from (Below.refl _ _).drew)) HG0.out).mono ?_
      have hback : lsr txr (⟨(encV v ++ t).toArray⟩ : ByteArray).data.toList = some (v.T, t) := by rw [HX.out]; exact texts_back (by omega) (fun x hx => by have := HH.out.Ts x hx; omega) t
      rintro e w' (⟨vs, t', A9, c9, h1, rfl, h2, h3, h4⟩ | ⟨h1, _⟩)
      · rw [hback] at h1
        injection h1 with h1
        injection h1 with e1 e2
        subst e1 e2
        have h5 : Only w1 w' (fun x => x = g) := (Only.of_below (show Below w1.heap.size w1 w1.drew from (Below.refl _ _).drew) _).then h4
        exact ⟨A9, c9, rfl, h2, h5, Only.cell h5 r4 hne, own_sts h3⟩
      · rw [hback] at h1; cases h1)
    have HS := Lib.hid (show Only w1 w1.drew (fun x => x = g) ∧ w1.drew.cell? ⟨W.heap.size, 4, none⟩ = some (.slice A' v.T.length c') from ⟨Only.of_below (Below.refl _ _).drew _, r4⟩)
    go_upto_region 10 with (fail)
    go_region_held3 (fun W' : World => Only w1 W' (fun x => x = g) ∧ W'.cell? ⟨W.heap.size, 4, none⟩ = some (.slice A' v.T.length c'))
      (first | assumption | exact HS.out | exact hS1 | exact hS2 | fail "keep")
      (first
        | (go_at_call 34; with_reducible refine HN.out.mono ?_; rintro e' z1 ⟨A9, c9, rfl, hrd, ho1, hc1, hm1⟩; have hS1 := And.intro ho1 hc1)
        | (go_at_call 33; with_reducible refine (SameTexts_eq (l := v.T) rfl hm1 (HLT.out.keep (HE1.out.only ho1 HG0.out).b) hl9).mono ?_; rintro e' z2 ⟨rfl, hz2⟩; have hS2 := And.intro (Only.more ho1 hz2) (Gen.keep hz2 hc1))
        | fail "arm")
    all_goals
      have HRD := Lib.hid (hrd.keep hz2)
      have HO := Lib.hid (show Only W z2 (fun x => x = g) from (Only.of_below HB1.out _).then hS2.1)
      go_wp2
      go_ret
      exact ⟨rfl, HRD.out, HO.out⟩
end
end Go.Proofs.YtapcfnlononniaaDoor.Wr
