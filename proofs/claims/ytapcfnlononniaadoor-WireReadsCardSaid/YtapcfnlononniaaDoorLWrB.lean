/- WireBack returns true: every list of values, every string that follows; no condition. -/
import Derived.Test.YtapcfnlononniaaDoorWrL
namespace Go.Proofs.YtapcfnlononniaaDoor.Wr
open Go.Lib Go.ChangeShapes Go.WideShapes Go.ChangeAt Go.RowKit Go.Proofs.YtapcfnlononniaaDoor.Cell
set_option linter.unusedVariables false
set_option linter.unusedSimpArgs false
/-- a value whose ints are ints -/
def Wv (v : Vl) : Prop := I64 v.kd ∧ I64 v.n ∧ ∀ x ∈ v.L, I64 x
theorem sm_of {v : Vl} (h : Wv v) (k : okv v) : Sm v := ⟨h.1, h.2.1, k.2.2.1, k.1, h.2.2, k.2.1, k.2.2.2⟩
theorem flat_le {α : Type} {f : α → List UInt8} {b : Nat} {l : List α} (h : ∀ x ∈ l, (f x).length ≤ b) : (l.flatMap f).length ≤ l.length * b := by
  induction l with
  | nil => simp
  | cons x l ih =>
    have h1 := h x List.mem_cons_self
    have h2 := ih fun y hy => h y (List.mem_cons_of_mem _ hy)
    rw [List.flatMap_cons, List.length_append, List.length_cons, Nat.succ_mul]
    omega
theorem encV_len {v : Vl} (h : Sm v) : (encV v).length ≤ 500000 := by
  unfold encV
  have h1 := encI_len h.n
  have h2 := encI_len (nbr_in h.n).1
  have h3 := encT_len h.s
  have h4 := flat_le (f := encI) (b := 21) (l := v.L) fun x hx => encI_len (h.Li x hx)
  have h5 := flat_le (f := encT) (b := 1000) (l := v.T) fun x hx => encT_len (h.Ts x hx)
  have h6 := itoa_len (n := (v.L.length : Int)) ⟨by omega, by have := h.L; omega⟩
  have h7 := itoa_len (n := (v.T.length : Int)) ⟨by omega, by have := h.T; omega⟩
  have h8 := h.L
  have h9 := h.T
  split
  · omega
  · split
    · omega
    · split
      · omega
      · split
        · unfold encL
          simp only [List.length_append, List.length_cons, List.length_nil]
          omega
        · unfold encL
          simp only [List.length_append, List.length_cons, List.length_nil]
          omega
section
variable {A : Option Addr} {m cap : Nat} {l : List Vl} {tl : List UInt8}
set_option maxRecDepth 100000 in
set_option maxHeartbeats 8000000 in
theorem back_no (w : World) (hm : l.length = m) (hc : Vll w A l) (hbig : m ≤ 9223372036854775807) (htb : tl.length ≤ 9223372036854775807) (hE : En w w) (hf : ¬ (fewP l ∧ tl.length ≤ 400)) :
    Calls Tryd.prog 5 #[.slice A m cap, .string ⟨tl.toArray⟩] w fun e w' => e = .returned (.bool true) ∧ Below w.heap.size w w' := by
  have HM := Lib.hid hm
  have HC := Lib.hid hc
  have HE := Lib.hid hE
  have HF := Lib.hid hf
  clear hm hc hE hf
  go_enter Tryd.func5, Tryd.ntmps5
  go_wp2_with (fail)
  go_must (refine (small_any HE.out).mono ?_)
  rintro e w1 ⟨rfl, hb⟩
  have HB := Lib.hid hb
  clear hb
  dsimp only
  go_wp2_with (fail)
  go_must (refine (few_any HM.out (HC.out.keep HB.out) hbig).mono ?_)
  rintro e w2 ⟨hor, hb⟩
  replace HB := Lib.hid (Gen.over hb HB.out)
  clear hb
  rcases hor with ⟨hp, rfl⟩ | ⟨hp, rfl⟩
  · have ht : 400 < tl.length := by
      have h := HF.out
      by_cases h4 : tl.length ≤ 400
      · exact absurd ⟨hp, h4⟩ h
      · omega
    have htI : (400 : Int) < (tl.length : Int) := by omega
    clear hp
    dsimp only
    go_wp2
    go_ret
    exact ⟨rfl, HB.out⟩
  · clear hp
    dsimp only
    go_wp2
    go_ret
    exact ⟨rfl, HB.out⟩
set_option maxRecDepth 100000 in
set_option maxHeartbeats 16000000 in
theorem back_yes (w : World) (hm : l.length = m) (hc : Vll w A l) (hwf : ∀ v ∈ l, Wv v) (hbig : m ≤ 9223372036854775807) (hE : En w w) (hp : fewP l) (ht : tl.length ≤ 400) :
    Calls Tryd.prog 5 #[.slice A m cap, .string ⟨tl.toArray⟩] w fun e w' => e = .returned (.bool true) ∧ Below w.heap.size w w' := by
  have HSM : Hid (∀ v ∈ l, Sm v) := Lib.hid fun v hv => sm_of (hwf v hv) (hp.2.1 v hv)
  have hm20 : m ≤ 20 := by have := hp.1; omega
  have hm20I : (m : Int) ≤ 20 := by omega
  have HM := Lib.hid hm
  have HC := Lib.hid hc
  have HE := Lib.hid hE
  have HP := Lib.hid hp
  have htI : (tl.length : Int) ≤ 400 := by omega
  clear hm hc hE hp hwf
  go_enter Tryd.func5, Tryd.ntmps5
  go_wp2_with (fail)
  go_must (refine (small_any HE.out).mono ?_)
  rintro e w1 ⟨rfl, hb⟩
  have HB := Lib.hid hb
  clear hb
  dsimp only
  go_wp2_with (fail)
  go_must (refine (few_any HM.out (HC.out.keep HB.out) hbig).mono ?_)
  rintro e w2 ⟨hor, hb⟩
  replace HB := Lib.hid (Gen.over hb HB.out)
  clear hb
  rcases hor with ⟨_, rfl⟩ | ⟨hp, rfl⟩
  · dsimp only
    go_wp2
    go_loopw [6, 7] (fun sv iv wr => ∃ k : Nat, k ≤ m ∧ iv = .int .i64 k ∧ sv = .string ⟨((l.take k).flatMap encV).toArray⟩ ∧ Hid (Below w.heap.size w wr)) (fun _ iv _ => m - (RowKit.intOf iv).toNat)
    case atStart => exact ⟨0, Nat.zero_le _, rfl, by simp, HB⟩
    case round =>
      clear HB
      obtain ⟨k, hk, rfl, rfl, HB⟩ := hrel
      have k0 : (0 : Int) ≤ (k : Int) := by omega
      have hlen := flat_le (f := encV) (b := 500000) (l := l.take k) fun x hx => encV_len (HSM.out x (List.mem_of_mem_take hx))
      have htk : (l.take k).length = k := by rw [List.length_take, HM.out]; omega
      rw [htk] at hlen
      have hlen1 : ((l.take k).flatMap encV).length ≤ 10000000 := by omega
      have hz1 : (⟨((l.take k).flatMap encV).toArray⟩ : ByteArray).size = ((l.take k).flatMap encV).length := by simp [ByteArray.size]
      clear hlen htk
      by_cases hlt : k < m
      · have hltI : (k : Int) < (m : Int) := by omega
        obtain ⟨v, hv⟩ := at_ l k (by rw [HM.out]; exact hlt)
        obtain ⟨b, off, rfl, hcell⟩ := (HC.out.keep HB.out) (by rw [HM.out]; omega)
        obtain ⟨d0, d1, d2, ⟨A3, c3, d3, hI⟩, ⟨A4, c4, d4, hS⟩⟩ := hcell k v hv
        have HS := Lib.hid (HSM.out v (mem_of_at hv))
        have hlen2 := encV_len HS.out
        have hz2 : (⟨(encV v).toArray⟩ : ByteArray).size = (encV v).length := by simp [ByteArray.size]
        have HI := Lib.hid hI
        have HST := Lib.hid hS
        have HFS : Hid ((⟨((l.take k).flatMap encV).toArray⟩ : ByteArray) ++ ⟨(encV v).toArray⟩ = ⟨((l.take (k + 1)).flatMap encV).toArray⟩) := Lib.hid (by rw [app_list, flat_snoc hv])
        clear hcell hv hI hS
        go_wp2_with (fail)
        go_must (refine (write_any (v := v) (A := A3) (c := c3) (A' := A4) (c' := c4) (w := w) HS.out HI.out HST.out (HE.out.keep HB.out)).mono ?_)
        rintro e w5 ⟨rfl, hb5⟩
        have HB5 := Lib.hid (Gen.over hb5 HB.out)
        clear hb5 d0 d1 d2 d3 d4
        dsimp only
        go_wp2
        rw [HFS.out]
        go_roundw
        case rel => exact ⟨k + 1, by omega, by go_num, rfl, HB5⟩
        case measure => simp [RowKit.intOf]; omega
      · obtain rfl : k = m := by omega
        have HT : Hid (l.take k = l) := Lib.hid (List.take_of_length_le (by rw [HM.out]; exact Nat.le_refl _))
        have HFS : Hid ((⟨((l.take k).flatMap encV).toArray⟩ : ByteArray) ++ ⟨tl.toArray⟩ = ⟨(l.flatMap encV ++ tl).toArray⟩) := Lib.hid (by rw [app_list, HT.out])
        have hz3 : (⟨tl.toArray⟩ : ByteArray).size = tl.length := by simp [ByteArray.size]
        have hlenT : (l.flatMap encV).length ≤ 10000000 := by have := hlen1; rw [HT.out] at this; exact this
        go_wp2_with (fail)
        rw [HFS.out]
        go_must (refine wopen_any.mono ?_)
        rintro e w5 ⟨g, rfl, hg, hr, hb5⟩
        have HG : Hid (w.heap.size ≤ g) := Lib.hid (by have := HB.out.size; omega)
        have HB5 := Lib.hid (Gen.over hb5 HB.out)
        have HR5 := Lib.hid hr
        clear hb5 hr hg hz1 hz3 hlen1
        dsimp only
        go_wp2
        go_loopw [9] (fun iv wr => ∃ j : Nat, j ≤ k ∧ iv = .int .i64 j ∧ Hid (Rd wr g ⟨((l.drop j).flatMap encV ++ tl).toArray⟩ false) ∧ Hid (Below w.heap.size w wr)) (fun iv _ => k - (RowKit.intOf iv).toNat)
        case atStart => exact ⟨0, Nat.zero_le _, rfl, Lib.hid (by simpa using HR5.out), HB5⟩
        case round =>
          clear HB5 HR5 HB
          obtain ⟨j, hj, rfl, HR, HB⟩ := hrel
          have j0 : (0 : Int) ≤ (j : Int) := by omega
          by_cases hjt : j < k
          · have hjtI : (j : Int) < (k : Int) := by omega
            obtain ⟨v, hv⟩ := at_ l j (by rw [HM.out]; exact hjt)
            obtain ⟨b, off, hA, hcell0⟩ := HC.out (by rw [HM.out]; omega)
            subst hA
            have hcw := hcell0 j v hv
            obtain ⟨A3, c3, d3w, hI⟩ := hcw.c3
            obtain ⟨A4, c4, d4w, hS⟩ := hcw.c4
            have d0 := Gen.keep HB.out hcw.c0
            have d1 := Gen.keep HB.out hcw.c1
            have d2 := Gen.keep HB.out hcw.c2
            have d3 := Gen.keep HB.out d3w
            have d4 := Gen.keep HB.out d4w
            have HS := Lib.hid (HSM.out v (mem_of_at hv))
            have HI := Lib.hid hI
            have HST := Lib.hid hS
            have HDR : Hid ((l.drop j).flatMap encV ++ tl = encV v ++ ((l.drop (j + 1)).flatMap encV ++ tl)) := Lib.hid (by
              have hjl := (List.getElem?_eq_some_iff.1 hv).1
              rw [List.drop_eq_getElem_cons hjl, List.flatMap_cons, List.append_assoc, (List.getElem?_eq_some_iff.1 hv).2])
            have HRv := Lib.hid (show Rd _ g ⟨(encV v ++ ((l.drop (j + 1)).flatMap encV ++ tl)).toArray⟩ false from by rw [← HDR.out]; exact HR.out)
            have HLZ : Hid ((encV v ++ ((l.drop (j + 1)).flatMap encV ++ tl)).length ≤ 1000000000) := Lib.hid (by
              have h1 := flat_le (f := encV) (b := 500000) (l := l.drop (j + 1)) fun x hx => encV_len (HSM.out x (List.mem_of_mem_drop hx))
              have h2 := encV_len HS.out
              rw [List.length_drop, HM.out] at h1
              simp only [List.length_append]
              omega)
            clear hcell0 hcw hv hI hS d3w d4w
            go_wp2_with (fail)
            go_must (refine (equal_yes (v := v) (A := A3) (c := c3) (A' := A4) (c' := c4) (w0 := w) HS.out HI.out HST.out (HE.out.keep HB.out) HG.out HRv.out HLZ.out).mono ?_)
            rintro e w6 ⟨rfl, hr6, ho6⟩
            have HR6 := Lib.hid hr6
            have HB6 := Lib.hid (Only.below HB.out ho6 (fun b e => by subst e; exact HG.out))
            clear hr6 ho6 d0 d1 d2 d3 d4
            dsimp only
            go_wp2
            go_roundw
            case rel => exact ⟨j + 1, by omega, by go_num, HR6, HB6⟩
            case measure => simp [RowKit.intOf]; omega
          · obtain rfl : j = k := by omega
            have HRt := Lib.hid (show Rd _ g ⟨tl.toArray⟩ false from by
              have h := HR.out
              rw [List.drop_of_length_le (by rw [HM.out]; exact Nat.le_refl _)] at h
              simpa using h)
            have hz3 : (⟨tl.toArray⟩ : ByteArray).size = tl.length := by simp [ByteArray.size]
            go_wp2_with (fail)
            go_must (refine (left_any HRt.out).mono ?_)
            rintro e w6 ⟨rfl, hw⟩
            have hw := hw.symm
            subst hw
            dsimp only
            go_wp2_with (fail)
            go_must (refine (done_any HRt.out).mono ?_)
            rintro e w6 ⟨rfl, hw⟩
            have hw := hw.symm
            subst hw
            dsimp only
            cases tl with
            | nil =>
              go_wp2_with (fail)
              go_must (refine (rest_any HRt.out).mono ?_)
              rintro e w6 ⟨rfl, hr6, ho6⟩
              have HR6 := Lib.hid hr6
              have HB6 := Lib.hid (Only.below HB.out ho6 (fun b e => by subst e; exact HG.out))
              clear hr6 ho6
              dsimp only
              go_wp2_with (fail)
              go_must (refine (done_any (l := []) HR6.out).mono ?_)
              rintro e w7 ⟨rfl, hw⟩
              have hw := hw.symm
              subst hw
              dsimp only
              go_wp2_with (fail)
              go_must (refine (left_any HR6.out).mono ?_)
              rintro e w7 ⟨rfl, hw⟩
              have hw := hw.symm
              subst hw
              dsimp only
              go_wp2
              go_ret
              exact ⟨rfl, HB6.out⟩
            | cons c t =>
              go_wp2_with (fail)
              go_must (refine (rest_any HRt.out).mono ?_)
              rintro e w6 ⟨rfl, hr6, ho6⟩
              have HR6 := Lib.hid hr6
              have HB6 := Lib.hid (Only.below HB.out ho6 (fun b e => by subst e; exact HG.out))
              clear hr6 ho6
              dsimp only
              go_wp2_with (fail)
              go_must (refine (done_any (l := []) HR6.out).mono ?_)
              rintro e w7 ⟨rfl, hw⟩
              have hw := hw.symm
              subst hw
              dsimp only
              go_wp2_with (fail)
              go_must (refine (left_any HR6.out).mono ?_)
              rintro e w7 ⟨rfl, hw⟩
              have hw := hw.symm
              subst hw
              dsimp only
              go_wp2
              go_ret
              exact ⟨rfl, HB6.out⟩
  · exact absurd HP.out hp
theorem back_any (w : World) (hm : l.length = m) (hc : Vll w A l) (hwf : ∀ v ∈ l, Wv v) (hbig : m ≤ 9223372036854775807) (htb : tl.length ≤ 9223372036854775807) (hE : En w w) :
    Calls Tryd.prog 5 #[.slice A m cap, .string ⟨tl.toArray⟩] w fun e w' => e = .returned (.bool true) ∧ Below w.heap.size w w' := by
  by_cases h : fewP l ∧ tl.length ≤ 400
  · exact back_yes w hm hc hwf hbig hE h.1 h.2
  · exact back_no w hm hc hbig htb hE h
end
end Go.Proofs.YtapcfnlononniaaDoor.Wr
