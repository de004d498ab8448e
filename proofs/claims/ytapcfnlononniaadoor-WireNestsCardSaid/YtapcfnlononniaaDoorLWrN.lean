/- WireNests returns true: every list of values; no condition. -/
import Derived.Test.YtapcfnlononniaaDoorLWrB
namespace Go.Proofs.YtapcfnlononniaaDoor.Wr
open Go.Lib Go.ChangeShapes Go.WideShapes Go.ChangeAt Go.RowKit Go.Proofs.YtapcfnlononniaaDoor.Cell
set_option linter.unusedVariables false
set_option linter.unusedSimpArgs false
theorem encT_len2 {l : List UInt8} {b : Nat} (h : l.length ≤ b) (hb : b ≤ 1000000000) : (encT l).length ≤ b + 22 := by
  have := itoa_len (n := (l.length : Int)) ⟨by omega, by omega⟩
  unfold encT
  simp only [List.length_append, List.length_cons, List.length_nil]
  omega
theorem flat_T : ∀ {T : List (List UInt8)}, (∀ x ∈ T, x.length ≤ 400) → (T.flatMap encT).length ≤ T.length * 22 + lens T
  | [], _ => by simp
  | x :: T, h => by
    have h1 := encT_len2 (l := x) (b := x.length) (Nat.le_refl _) (by have := h x List.mem_cons_self; omega)
    have h2 := flat_T fun y hy => h y (List.mem_cons_of_mem _ hy)
    have h3 : lens (x :: T) = x.length + lens T := by unfold lens; simp
    rw [List.flatMap_cons, List.length_append, List.length_cons, h3]
    omega
theorem encV_small {v : Vl} (h : Sm v) (ht : tot v ≤ 400) : (encV v).length ≤ 9500 := by
  unfold tot at ht
  unfold encV
  have h1 := encI_len h.n
  have h2 := encI_len (nbr_in h.n).1
  have h3 := encT_len h.s
  have h4 := flat_le (f := encI) (b := 21) (l := v.L) fun x hx => encI_len (h.Li x hx)
  have h5 := flat_T h.Ts
  have h6 := itoa_len (n := (v.L.length : Int)) ⟨by omega, by have := h.L; omega⟩
  have h7 := itoa_len (n := (v.T.length : Int)) ⟨by omega, by have := h.T; omega⟩
  have h8 := h.L
  have h9 := h.T
  split
  · omega
  · split
    · omega
    · split
      · omega
      · split
        · unfold encL
          simp only [List.length_append, List.length_cons, List.length_nil]
          omega
        · unfold encL
          simp only [List.length_append, List.length_cons, List.length_nil]
          omega
theorem tot_mem {l : List Vl} {v : Vl} (h : v ∈ l) : tot v ≤ tots l := by
  unfold tots
  induction l with
  | nil => cases h
  | cons x l ih =>
    rw [List.map_cons, List.sum_cons]
    rcases List.mem_cons.1 h with rfl | h
    · omega
    · have := ih h
      omega
section
variable {A : Option Addr} {m cap : Nat} {l : List Vl}
set_option maxRecDepth 100000 in
set_option maxHeartbeats 4000000 in
theorem nests_no (w : World) (hm : l.length = m) (hc : Vll w A l) (hbig : m ≤ 9223372036854775807) (hE : En w w) (hf : ¬ fewP l) :
    Calls Tryd.prog 8 #[.slice A m cap] w fun e w' => e = .returned (.bool true) ∧ Below w.heap.size w w' := by
  have HM := Lib.hid hm
  have HC := Lib.hid hc
  have HE := Lib.hid hE
  have HF := Lib.hid hf
  clear hm hc hE hf
  go_enter Tryd.func8, Tryd.ntmps8
  go_wp2_with (fail)
  go_must (refine (small_any HE.out).mono ?_)
  rintro e w1 ⟨rfl, hb⟩
  have HB := Lib.hid hb
  clear hb
  dsimp only
  go_wp2_with (fail)
  go_must (refine (few_any HM.out (HC.out.keep HB.out) hbig).mono ?_)
  rintro e w2 ⟨hor, hb⟩
  replace HB := Lib.hid (Gen.over hb HB.out)
  clear hb
  rcases hor with ⟨hp, rfl⟩ | ⟨hp, rfl⟩
  · exact absurd hp HF.out
  · clear hp
    dsimp only
    go_wp2
    go_ret
    exact ⟨rfl, HB.out⟩
set_option maxRecDepth 100000 in
set_option maxHeartbeats 16000000 in
theorem nests_yes (w : World) (hm : l.length = m) (hc : Vll w A l) (hwf : ∀ v ∈ l, Wv v) (hE : En w w) (hp : fewP l) :
    Calls Tryd.prog 8 #[.slice A m cap] w fun e w' => e = .returned (.bool true) ∧ Below w.heap.size w w' := by
  have HSM : Hid (∀ v ∈ l, Sm v) := Lib.hid fun v hv => sm_of (hwf v hv) (hp.2.1 v hv)
  have HEL : Hid (∀ v ∈ l, (encV v).length ≤ 9500) := Lib.hid fun v hv => encV_small (HSM.out v hv) (by have := tot_mem hv; have := hp.2.2; omega)
  have hm20 : m ≤ 20 := by have := hp.1; omega
  have hm20I : (m : Int) ≤ 20 := by omega
  have HM := Lib.hid hm
  have HC := Lib.hid hc
  have HE := Lib.hid hE
  have HP := Lib.hid hp
  obtain ⟨i0, hi0, hz0, hz1, hz2⟩ := info_parts' infoS
  clear hm hc hE hp hwf
  go_enter Tryd.func8, Tryd.ntmps8
  go_wp2_with (fail)
  go_must (refine (small_any HE.out).mono ?_)
  rintro e w1 ⟨rfl, hb⟩
  have HB := Lib.hid hb
  clear hb
  dsimp only
  go_wp2_with (fail)
  go_must (refine (few_any HM.out (HC.out.keep HB.out) (by omega)).mono ?_)
  rintro e w2 ⟨hor, hb⟩
  replace HB := Lib.hid (Gen.over hb HB.out)
  clear hb
  rcases hor with ⟨hp, rfl⟩ | ⟨hp, rfl⟩
  · clear hp
    dsimp only
    go_wp2
    go_loopw [4, 5] (fun pv iv wr => ∃ (k : Nat) (Al : Option Addr) (cl : Nat), k ≤ m ∧ iv = .int .i64 k ∧ pv = .slice Al k cl ∧ Hid (wr.ownsRow w.heap.size 9 1 (.slice Al k cl) k ((l.take k).map fun v => Value.string ⟨(encV v).toArray⟩)) ∧ Hid (Below w.heap.size w wr)) (fun _ iv _ => m - (RowKit.intOf iv).toNat)
    case atStart => exact ⟨0, none, 0, Nat.zero_le _, rfl, rfl, Lib.hid (own_nil _ _ _), HB⟩
    case round =>
      clear HB
      obtain ⟨k, Al, cl, hk, rfl, rfl, HW, HB⟩ := hrel
      have k0 : (0 : Int) ≤ (k : Int) := by omega
      by_cases hlt : k < m
      · have hltI : (k : Int) < (m : Int) := by omega
        obtain ⟨v, hv⟩ := at_ l k (by rw [HM.out]; exact hlt)
        obtain ⟨b, off, rfl, hcell⟩ := (HC.out.keep HB.out) (by rw [HM.out]; omega)
        obtain ⟨d0, d1, d2, ⟨A3, c3, d3, hI⟩, ⟨A4, c4, d4, hS⟩⟩ := hcell k v hv
        have HS := Lib.hid (HSM.out v (mem_of_at hv))
        have HI := Lib.hid hI
        have HST := Lib.hid hS
        have HTK := Lib.hid (take_snoc hv)
        clear hcell hv hI hS
        go_wp2_with (fail)
        go_must (refine (write_any (v := v) (A := A3) (c := c3) (A' := A4) (c' := c4) (w := w) HS.out HI.out HST.out (HE.out.keep HB.out)).mono ?_)
        rintro e w5 ⟨rfl, hb5⟩
        have HB5 := Lib.hid (Gen.over hb5 HB.out)
        have HW5 := Lib.hid (Gen.own_keep HW.out hb5)
        have hWs := HB5.out.size
        clear hb5 d0 d1 d2 d3 d4
        dsimp only
        go_wp2_with (first
          | (at_builtin
             go_must (refine App.wpList_append_any _ rfl (.tmp 22) (.tmp 28) _ rfl w.heap.size 9 i0 _ 1 16 Tryd.underlying23 hi0 hz0 hz1 hz2 rfl (by omega) (.slice Al k cl) k ((l.take k).map fun v => Value.string ⟨(encV v).toArray⟩) rfl (Gen.own_keep HW5.out (Gen.b_alloc (Below.refl _ _))) (w5.heap.size + 1) (some ⟨w5.heap.size, 0, none⟩) 1 1 [Value.string ⟨(encV v).toArray⟩] rfl (Gen.reads_blk rfl rfl) (by simp [Value.oneCell']) (by simp only [maxLen]; omega) (by omega) (by simp; omega) ?_
                      intro v6 w6 hown6 hg6 hat6
                      have ho6 : w6.ownsRow w.heap.size 9 1 v6 (k + 1) ((l.take (k + 1)).map fun v => Value.string ⟨(encV v).toArray⟩) := by
                        rw [HTK.out, List.map_append]; exact hown6
                      have hb6 : Below w.heap.size w w6 := Below.grown (Gen.b_alloc HB5.out) hg6 (Gen.b_alloc HB5.out).size (fun q hq => (HW5.out.lt q hq).1)
                      obtain ⟨A6, c6, rfl, _⟩ := Gen.own_slice ho6
                      have HO6 := Lib.hid ho6
                      have HB6 := Lib.hid hb6
                      clear hown6 hg6 hat6 hb6 ho6))
          | fail)
        go_roundw
        case rel => exact ⟨k + 1, A6, c6, by omega, by go_num, rfl, HO6, HB6⟩
        case measure => simp [RowKit.intOf]; omega
      · obtain rfl : k = m := by omega
        obtain ⟨P, hP⟩ : ∃ P, l.map encV = P := ⟨_, rfl⟩
        have hPl : P.length = k := by rw [← hP, List.length_map, HM.out]
        have HPl := Lib.hid hPl
        have HPA : Hid (∀ (j : Nat) v, l[j]? = some v → P[j]? = some (encV v)) := Lib.hid fun j v h => by rw [← hP, List.getElem?_map, h]; rfl
        have HPE : Hid (∀ x ∈ P, x.length ≤ 9500) := Lib.hid fun x hx => by
          rw [← hP] at hx
          obtain ⟨v, hv, rfl⟩ := List.mem_map.1 hx
          exact HEL.out v hv
        have HSP : Hid (Sts wr Al P) := Lib.hid (by
          have h := HW.out
          rw [List.take_of_length_le (by rw [HM.out]; exact Nat.le_refl _)] at h
          rw [← hPl] at h
          refine own_sts (B := w.heap.size) (e := 9) (c := cl) ?_
          rw [← hP, List.map_map]
          rw [← hP] at h
          exact h)
        have hEL := flat_le (f := encT) (b := 9522) (l := P) fun x hx => encT_len2 (HPE.out x hx) (by omega)
        have hX0 : (encL encT P).length ≤ 200000 := by
          have h6 := itoa_len (n := (P.length : Int)) ⟨by omega, by omega⟩
          unfold encL
          simp only [List.length_append, List.length_cons, List.length_nil]
          rw [hPl] at hEL
          omega
        clear hP hPl hEL
        go_wp2_with (fail)
        go_must (refine (wtexts_any (l := P) HPl.out HSP.out (fun x hx => by have := encT_len2 (HPE.out x hx) (by omega); omega) (fun x hx => by have := HPE.out x hx; omega) (by omega) (HE.out.keep HB.out)).mono ?_)
        rintro e w5 ⟨rfl, hb5⟩
        replace HB := Lib.hid (Gen.over hb5 HB.out)
        clear hb5
        have HXB : Hid (lsr txr (encL encT P) = some (P, [])) := Lib.hid (by
          have h := texts_back (vs := P) (by rw [HPl.out]; omega) (fun x hx => by have := HPE.out x hx; omega) []
          rwa [List.append_nil] at h)
        obtain ⟨X, hX⟩ : ∃ X, encL encT P = X := ⟨_, rfl⟩
        rw [hX] at hX0
        have HX := Lib.hid hX
        rw [hX]
        clear hX
        dsimp only
        go_wp2_with (fail)
        go_must (refine (wtext_any (l := X) (by omega) (HE.out.keep HB.out).pt).mono ?_)
        rintro e w6 ⟨rfl, hb6⟩
        replace HB := Lib.hid (Gen.over hb6 HB.out)
        clear hb6
        dsimp only
        go_wp2_with (fail)
        go_must (refine wopen_any.mono ?_)
        rintro e w7 ⟨g, rfl, hg, hr, hb7⟩
        have HG : Hid (w.heap.size ≤ g) := Lib.hid (by have := HB.out.size; omega)
        replace HB := Lib.hid (Gen.over hb7 HB.out)
        have HR := Lib.hid hr
        clear hb7 hr hg
        have hTX := encT_len2 (l := X) hX0 (by omega)
        have hzT : (⟨(encT X).toArray⟩ : ByteArray).size = (encT X).length := by simp [ByteArray.size]
        have HEn := Lib.hid (HE.out.keep HB.out)
        dsimp only
        go_wp2_with (fail)
        go_must (refine (text_any HR.out (by rw [hzT]; omega) HEn.out.pt HEn.out.e2 HEn.out.e3).mono ?_)
        intro e w8 hh
        obtain ⟨rfl, hr8, ho8⟩ := rdp_yes (show txr (⟨(encT X).toArray⟩ : ByteArray).data.toList = some (X, []) from by
          have h := text_back (l := X) (by omega) []
          rwa [List.append_nil] at h) hh
        have HR8 := Lib.hid hr8
        have HB8 := Lib.hid (Only.below HB.out ho8 (fun b e => by subst e; exact HG.out))
        clear hh hr8 ho8 hTX hzT
        dsimp only
        go_wp2_with (fail)
        go_must (refine wopen_any.mono ?_)
        rintro e w9 ⟨g2, rfl, hg2, hr9, hb9⟩
        have HG2 : Hid (w.heap.size ≤ g2) := Lib.hid (by have := HB8.out.size; omega)
        have HB9 := Lib.hid (Gen.over hb9 HB8.out)
        have HR9 := Lib.hid hr9
        have HR8' := Lib.hid (HR8.out.keep hb9)
        clear hb9 hr9 hg2
        dsimp only
        go_wp2_with (fail)
        go_must (refine (done_any (l := []) HR8'.out).mono ?_)
        rintro e w10 ⟨rfl, hw⟩
        have hw := hw.symm
        subst hw
        dsimp only
        have hzX : (⟨X.toArray⟩ : ByteArray).size = X.length := by simp [ByteArray.size]
        go_wp2_with (fail)
        go_must (refine (texts_any HR9.out (fun h => by cases h) (by rw [hzX]; omega) (HE.out.keep HB9.out) HG2.out).mono ?_)
        rintro e w11 (⟨vs, t', A9, c9, h1, rfl, h2, h3, h4⟩ | ⟨h1, _⟩)
        · have h1' : lsr txr X = some (vs, t') := h1
          rw [← HX.out, HXB.out] at h1'
          injection h1' with h1'
          injection h1' with e1 e2
          subst e1 e2
          have HR11 := Lib.hid h2
          have HB11 := Lib.hid (Only.below HB9.out h4 (fun b e => by subst e; exact HG2.out))
          have HS11 := Lib.hid (own_sts h3)
          rw [HPl.out]
          have hkk : ((k : Int) != (k : Int)) = false := by simp
          clear h1 h2 h3 h4
          dsimp only
          go_wp2_with (fail)
          go_must (refine (done_any (l := []) HR11.out).mono ?_)
          rintro e w12 ⟨rfl, hw⟩
          have hw := hw.symm
          subst hw
          dsimp only
          go_wp2
          go_loopw [9] (fun iv wr => ∃ j : Nat, j ≤ k ∧ iv = .int .i64 j ∧ Hid (Below w11.heap.size w11 wr)) (fun iv _ => k - (RowKit.intOf iv).toNat)
          case atStart => exact ⟨0, Nat.zero_le _, rfl, Lib.hid (Below.refl _ _)⟩
          case round =>
            clear HB HB8 HB9 HW HR HR8 HR8' HR9 HR11
            obtain ⟨j, hj, rfl, HQ⟩ := hrel
            have j0 : (0 : Int) ≤ (j : Int) := by omega
            have HBr := Lib.hid (Gen.over HQ.out HB11.out)
            by_cases hjt : j < k
            · have hjtI : (j : Int) < (k : Int) := by omega
              obtain ⟨v, hv⟩ := at_ l j (by rw [HM.out]; exact hjt)
              obtain ⟨b9, o9, rfl, hc9⟩ := (HS11.out.keep HQ.out) (by rw [HPl.out]; omega)
              have f0 := hc9 j _ (HPA.out j v hv)
              have HS := Lib.hid (HSM.out v (mem_of_at hv))
              have HV := Lib.hid hv
              have hlen2 := HEL.out v (mem_of_at hv)
              clear hc9 hv
              go_wp2_with (fail)
              go_must (refine wopen_any.mono ?_)
              rintro e w13 ⟨g3, rfl, hg3, hr3, hb3⟩
              have HG3 : Hid (w.heap.size ≤ g3) := Lib.hid (by have := HBr.out.size; omega)
              have HB3 := Lib.hid (Gen.over hb3 HBr.out)
              have HQ3 := Lib.hid (HQ.out.trans (hb3.mono HQ.out.size))
              have HR3 := Lib.hid (show Rd w13 g3 ⟨(encV v ++ []).toArray⟩ false from by rw [List.append_nil]; exact hr3)
              have HG9 : Hid (w11.heap.size ≤ g3) := Lib.hid (by have := HQ.out.size; omega)
              clear hb3 hr3 hg3 f0
              obtain ⟨b, off, hA, hcell0⟩ := HC.out (by rw [HM.out]; omega)
              subst hA
              have hcw := hcell0 j v HV.out
              obtain ⟨A3, c3, d3w, hI⟩ := hcw.c3
              obtain ⟨A4, c4, d4w, hS⟩ := hcw.c4
              have d0 := Gen.keep HB3.out hcw.c0
              have d1 := Gen.keep HB3.out hcw.c1
              have d2 := Gen.keep HB3.out hcw.c2
              have d3 := Gen.keep HB3.out d3w
              have d4 := Gen.keep HB3.out d4w
              have HI := Lib.hid hI
              have HST := Lib.hid hS
              clear hcell0 hcw hI hS d3w d4w
              dsimp only
              go_wp2_with (fail)
              go_must (refine (equal_yes (v := v) (A := A3) (c := c3) (A' := A4) (c' := c4) (w0 := w) (t := []) HS.out HI.out HST.out (HE.out.keep HB3.out) HG3.out HR3.out (by rw [List.append_nil]; omega)).mono ?_)
              rintro e w14 ⟨rfl, hr14, ho14⟩
              have HR14 := Lib.hid hr14
              have HQ14 := Lib.hid (Only.below HQ3.out ho14 (fun b e => by subst e; exact HG9.out))
              clear hr14 ho14 d0 d1 d2 d3 d4
              dsimp only
              go_wp2_with (fail)
              go_must (refine (done_any (l := []) HR14.out).mono ?_)
              rintro e w15 ⟨rfl, hw⟩
              have hw := hw.symm
              subst hw
              dsimp only
              go_wp2
              go_roundw
              case rel => exact ⟨j + 1, by omega, by go_num, HQ14⟩
              case measure => simp [RowKit.intOf]; omega
            · obtain rfl : j = k := by omega
              go_wp2
              go_ret
              exact ⟨rfl, HBr.out⟩
        · have h1' : lsr txr X = none := h1
          rw [← HX.out, HXB.out] at h1'
          cases h1'
  · exact absurd HP.out hp
theorem nests_any (w : World) (hm : l.length = m) (hc : Vll w A l) (hwf : ∀ v ∈ l, Wv v) (hbig : m ≤ 9223372036854775807) (hE : En w w) :
    Calls Tryd.prog 8 #[.slice A m cap] w fun e w' => e = .returned (.bool true) ∧ Below w.heap.size w w' := by
  by_cases h : fewP l
  · exact nests_yes w hm hc hwf hE h
  · exact nests_no w hm hc hbig hE h
end
end Go.Proofs.YtapcfnlononniaaDoor.Wr
