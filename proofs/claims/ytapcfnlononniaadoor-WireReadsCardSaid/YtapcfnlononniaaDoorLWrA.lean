/- WireAgain returns true: every string, every kind; no condition. -/
import Derived.Test.YtapcfnlononniaaDoorLWrB
namespace Go.Proofs.YtapcfnlononniaaDoor.Wr
open Go.Lib Go.ChangeShapes Go.WideShapes Go.ChangeAt Go.RowKit Go.Proofs.YtapcfnlononniaaDoor.Cell
set_option linter.unusedVariables false
set_option linter.unusedSimpArgs false
theorem flat_ge {α : Type} {f : α → List UInt8} (hf : ∀ x, 1 ≤ (f x).length) : ∀ vs : List α, vs.length ≤ (vs.flatMap f).length
  | [] => Nat.le_refl _
  | x :: vs => by
    have h1 := hf x
    have h2 := flat_ge hf vs
    rw [List.flatMap_cons, List.length_append, List.length_cons]
    omega
theorem flat_mem {α : Type} {f : α → List UInt8} {x : α} : ∀ {vs : List α}, x ∈ vs → (f x).length ≤ (vs.flatMap f).length
  | y :: vs, h => by
    rw [List.flatMap_cons, List.length_append]
    rcases List.mem_cons.1 h with rfl | h
    · omega
    · have := flat_mem (f := f) h
      omega
theorem rdl_all {α : Type} {one : List UInt8 → Option (α × List UInt8)} {Q : α → Prop} (h : ∀ l v t, one l = some (v, t) → Q v) : ∀ (n : Nat) (l : List UInt8) (vs : List α) (t : List UInt8), rdl one n l = some (vs, t) → ∀ v ∈ vs, Q v
  | 0, l, vs, t, hr => by
    simp only [rdl] at hr
    injection hr with hr
    injection hr with e1 e2
    subst e1
    intro v hv
    cases hv
  | n + 1, l, vs, t, hr => by
    simp only [rdl] at hr
    cases ho : one l with
    | none => rw [ho] at hr; cases hr
    | some y =>
      obtain ⟨v, t1⟩ := y
      rw [ho] at hr
      dsimp only at hr
      cases hq : rdl one n t1 with
      | none => rw [hq] at hr; cases hr
      | some z =>
        obtain ⟨vs', t2⟩ := z
        rw [hq] at hr
        dsimp only at hr
        injection hr with hr
        injection hr with e1 e2
        subst e1
        intro x hx
        rcases List.mem_cons.1 hx with rfl | hx
        · exact h l _ t1 ho
        · exact rdl_all h n t1 vs' t2 hq x hx
theorem lsr_all {α : Type} {one : List UInt8 → Option (α × List UInt8)} {Q : α → Prop} (h : ∀ l v t, one l = some (v, t) → Q v) {l t : List UInt8} {vs : List α} (hr : lsr one l = some (vs, t)) : ∀ v ∈ vs, Q v := by
  unfold lsr at hr
  cases hs : siz 91 l with
  | none => rw [hs] at hr; cases hr
  | some y =>
    obtain ⟨n, t1⟩ := y
    rw [hs] at hr
    dsimp only at hr
    split at hr
    · rename_i vs' t' hq
      injection hr with hr
      injection hr with e1 e2
      subst e1
      exact rdl_all h _ _ _ _ hq
    · cases hr
theorem encI_pos (n : Int) : 1 ≤ (encI n).length := by unfold encI; simp
theorem encT_pos (l : List UInt8) : 1 ≤ (encT l).length := by unfold encT; simp; omega
section
variable {l : List UInt8} {what : Int}
set_option maxRecDepth 100000 in
set_option maxHeartbeats 4000000 in
theorem again_no (w : World) (hE : En w w) (hl : 400 < l.length) (hb : l.length ≤ 9223372036854775807) :
    Calls Tryd.prog 6 #[.string ⟨l.toArray⟩, .int .i64 what] w fun e w' => e = .returned (.bool true) ∧ Below w.heap.size w w' := by
  have HE := Lib.hid hE
  have hlI : (400 : Int) < (l.length : Int) := by omega
  clear hE
  go_enter Tryd.func6, Tryd.ntmps6
  go_wp2_with (fail)
  go_must (refine (small_any HE.out).mono ?_)
  rintro e w1 ⟨rfl, hb⟩
  have HB := Lib.hid hb
  clear hb
  dsimp only
  go_wp2
  go_ret
  exact ⟨rfl, HB.out⟩
set_option maxRecDepth 100000 in
set_option maxHeartbeats 16000000 in
theorem again_yes (w : World) (hE : En w w) (hl : l.length ≤ 400) (hk : I64 what) :
    Calls Tryd.prog 6 #[.string ⟨l.toArray⟩, .int .i64 what] w fun e w' => e = .returned (.bool true) ∧ Below w.heap.size w w' := by
  have HE := Lib.hid hE
  have HK := Lib.hid (kdv_in what)
  have HC := Lib.hid (fun W' => kind_any (v := ⟨what, 0, [], [], []⟩) (A := none) (c := 0) (A' := none) (c' := 0) (W := W') hk)
  have hlI : (l.length : Int) ≤ 400 := by omega
  have hzl : (⟨l.toArray⟩ : ByteArray).size = l.length := by simp [ByteArray.size]
  have HZ : Hid ((⟨l.toArray⟩ : ByteArray).size ≤ 1000000000) := Lib.hid (by rw [hzl]; omega)
  clear hE hk
  go_enter Tryd.func6, Tryd.ntmps6
  go_wp2_with (fail)
  go_must (refine (small_any HE.out).mono ?_)
  rintro e w1 ⟨rfl, hb⟩
  have HB := Lib.hid hb
  clear hb
  dsimp only
  go_wp2_with (fail)
  go_must (refine wopen_any.mono ?_)
  rintro e w2 ⟨g, rfl, hg, hr, hb⟩
  have HG : Hid (w.heap.size ≤ g) := Lib.hid (by have := HB.out.size; omega)
  replace HB := Lib.hid (Gen.over hb HB.out)
  have HR := Lib.hid hr
  clear hb hr hg
  dsimp only
  go_wp2_with (fail)
  go_must (refine (HC.out _).mono ?_)
  rintro e w3 ⟨rfl, hb⟩
  replace HB := Lib.hid (Gen.over hb HB.out)
  replace HR := Lib.hid (HR.out.keep hb)
  clear hb
  obtain ⟨K, hK⟩ : ∃ K, kdv what = K := ⟨_, rfl⟩
  rw [show kdv (⟨what, 0, [], [], []⟩ : Vl).kd = K from hK]
  have hKi : 0 ≤ K ∧ K ≤ 4 := hK ▸ HK.out
  clear hK
  dsimp only
  have HEn := Lib.hid (HE.out.keep HB.out)
  rcases (show K = 0 ∨ K = 1 ∨ K = 2 ∨ K = 3 ∨ K = 4 by omega) with rfl | rfl | rfl | rfl | rfl
  · go_wp2_with (fail)
    go_must (refine (num_any HR.out HZ.out HEn.out.pt HEn.out.e2 HEn.out.e3).mono ?_)
    rintro e w4 (⟨v, t, hq, rfl, hr4, ho4⟩ | ⟨hq, rfl, hr4, ho4⟩)
    · have HS : Hid (l = encI (v : Int) ++ t) := Lib.hid (num_again hq)
      have hi : I64 (v : Int) := ⟨by omega, by have := (siz_some hq).2; omega⟩
      have hen : encN (v : Int) = encI (v : Int) := if_neg (by omega)
      clear hq
      have HR4 := Lib.hid hr4
      have HB4 := Lib.hid (Only.below HB.out ho4 (fun b e => by subst e; exact HG.out))
      have HE4 := Lib.hid (HE.out.keep HB4.out)
      clear hr4 ho4
      dsimp only
      go_wp2_with (fail)
      go_must (refine (wnum_any hi HE4.out.pt).mono ?_)
      rintro e w5 ⟨rfl, hb5⟩
      have HB5 := Lib.hid (Gen.over hb5 HB4.out)
      replace HR4 := Lib.hid (HR4.out.keep hb5)
      clear hb5
      dsimp only
      rw [hen]
      obtain ⟨E, hE9⟩ : ∃ E : Nat, (encI (v : Int)).length = E := ⟨_, rfl⟩
      have hlen : l.length = E + t.length := by rw [HS.out, List.length_append, hE9]
      have hzt : (⟨t.toArray⟩ : ByteArray).size = t.length := by simp [ByteArray.size]
      have hwr : IntKind.i64.wrap ((l.length : Int) - (t.length : Int)) = (E : Int) := by rw [IntWalk.i64_in _ (by omega)]; omega
      have hmin : min (E : Int) (l.length : Int) = (E : Int) := by omega
      have hmax : max (0 : Int) (E : Int) = (E : Int) := by omega
      have hE0 : (0 : Int) ≤ (E : Int) := by omega
      have hE1 : (E : Int) ≤ (l.length : Int) := by omega
      have hAl : ((⟨l.toArray⟩ : ByteArray).extract 0 E).toList = encI (v : Int) := by
        rw [Lib.toList_data, Lib.extract_data, List.drop_zero, Nat.sub_zero]
        show l.take E = _
        rw [HS.out, ← hE9, List.take_left]
      have hself : ((encI (v : Int)) == (encI (v : Int))) = true := beq_self_eq_true _
      cases t with
      | nil =>
        go_wp2_with (fail)
        go_must (refine (left_any HR4.out).mono ?_)
        rintro e w6 ⟨rfl, hw⟩
        have hw := hw.symm
        subst hw
        dsimp only
        go_wp2_with (fail)
        go_must (refine (done_any (l := []) HR4.out).mono ?_)
        rintro e w6 ⟨rfl, hw⟩
        have hw := hw.symm
        subst hw
        dsimp only
        go_wp2_with (fail)
        go_must (refine (left_any HR4.out).mono ?_)
        rintro e w6 ⟨rfl, hw⟩
        have hw := hw.symm
        subst hw
        dsimp only
        go_wp2
        go_ret
        exact ⟨rfl, HB5.out⟩
      | cons c t =>
        have hne : (((c :: t).length : Int) == 0) = false := by simp; omega
        have hwr2 : IntKind.i64.wrap ((l.length : Int) - ((t.length : Int) + 1)) = (E : Int) := by rw [IntWalk.i64_in _ (by simp at hlen; omega)]; simp at hlen; omega
        clear hlen hwr
        go_wp2_with (fail)
        go_must (refine (left_any HR4.out).mono ?_)
        rintro e w6 ⟨rfl, hw⟩
        have hw := hw.symm
        subst hw
        dsimp only
        go_wp2_with (fail)
        go_must (refine (left_any HR4.out).mono ?_)
        rintro e w6 ⟨rfl, hw⟩
        have hw := hw.symm
        subst hw
        dsimp only
        go_wp2
        go_ret
        exact ⟨rfl, HB5.out⟩
    · clear hq
      have HR4 := Lib.hid hr4
      have HB4 := Lib.hid (Only.below HB.out ho4 (fun b e => by subst e; exact HG.out))
      have HE4 := Lib.hid (HE.out.keep HB4.out)
      clear hr4 ho4
      dsimp only
      go_wp2_with (fail)
      go_must (refine (wnum_any (n := 0) ⟨by decide, by decide⟩ HE4.out.pt).mono ?_)
      rintro e w5 ⟨rfl, hb5⟩
      have HB5 := Lib.hid (Gen.over hb5 HB4.out)
      replace HR4 := Lib.hid (HR4.out.keep hb5)
      clear hb5
      dsimp only
      go_wp2_with (fail)
      go_must (refine (left_any HR4.out).mono ?_)
      rintro e w6 ⟨rfl, hw⟩
      have hw := hw.symm
      subst hw
      dsimp only
      go_wp2_with (fail)
      go_must (refine (done_any (l := []) HR4.out).mono ?_)
      rintro e w6 ⟨rfl, hw⟩
      have hw := hw.symm
      subst hw
      dsimp only
      go_wp2
      go_ret
      exact ⟨rfl, HB5.out⟩
  · go_wp2_with (fail)
    go_must (refine (int_any HR.out HZ.out HEn.out.pt HEn.out.e2 HEn.out.e3).mono ?_)
    rintro e w4 (⟨v, t, hq, rfl, hr4, ho4⟩ | ⟨hq, rfl, hr4, ho4⟩)
    · have HS : Hid (l = encI v ++ t) := Lib.hid (int_again hq)
      have hi := (untl_some hq).2
      clear hq
      have HR4 := Lib.hid hr4
      have HB4 := Lib.hid (Only.below HB.out ho4 (fun b e => by subst e; exact HG.out))
      have HE4 := Lib.hid (HE.out.keep HB4.out)
      clear hr4 ho4
      dsimp only
      go_wp2_with (fail)
      go_must (refine (wint_any hi HE4.out.pt).mono ?_)
      rintro e w5 ⟨rfl, hb5⟩
      have HB5 := Lib.hid (Gen.over hb5 HB4.out)
      replace HR4 := Lib.hid (HR4.out.keep hb5)
      clear hb5
      dsimp only
      obtain ⟨E, hE9⟩ : ∃ E : Nat, (encI v).length = E := ⟨_, rfl⟩
      have hlen : l.length = E + t.length := by rw [HS.out, List.length_append, hE9]
      have hzt : (⟨t.toArray⟩ : ByteArray).size = t.length := by simp [ByteArray.size]
      have hwr : IntKind.i64.wrap ((l.length : Int) - (t.length : Int)) = (E : Int) := by rw [IntWalk.i64_in _ (by omega)]; omega
      have hmin : min (E : Int) (l.length : Int) = (E : Int) := by omega
      have hmax : max (0 : Int) (E : Int) = (E : Int) := by omega
      have hE0 : (0 : Int) ≤ (E : Int) := by omega
      have hE1 : (E : Int) ≤ (l.length : Int) := by omega
      have hAl : ((⟨l.toArray⟩ : ByteArray).extract 0 E).toList = encI v := by
        rw [Lib.toList_data, Lib.extract_data, List.drop_zero, Nat.sub_zero]
        show l.take E = _
        rw [HS.out, ← hE9, List.take_left]
      have hself : ((encI v) == (encI v)) = true := beq_self_eq_true _
      cases t with
      | nil =>
        go_wp2_with (fail)
        go_must (refine (left_any HR4.out).mono ?_)
        rintro e w6 ⟨rfl, hw⟩
        have hw := hw.symm
        subst hw
        dsimp only
        go_wp2_with (fail)
        go_must (refine (done_any (l := []) HR4.out).mono ?_)
        rintro e w6 ⟨rfl, hw⟩
        have hw := hw.symm
        subst hw
        dsimp only
        go_wp2_with (fail)
        go_must (refine (left_any HR4.out).mono ?_)
        rintro e w6 ⟨rfl, hw⟩
        have hw := hw.symm
        subst hw
        dsimp only
        go_wp2
        go_ret
        exact ⟨rfl, HB5.out⟩
      | cons c t =>
        have hne : (((c :: t).length : Int) == 0) = false := by simp; omega
        have hwr2 : IntKind.i64.wrap ((l.length : Int) - ((t.length : Int) + 1)) = (E : Int) := by rw [IntWalk.i64_in _ (by simp at hlen; omega)]; simp at hlen; omega
        clear hlen hwr
        go_wp2_with (fail)
        go_must (refine (left_any HR4.out).mono ?_)
        rintro e w6 ⟨rfl, hw⟩
        have hw := hw.symm
        subst hw
        dsimp only
        go_wp2_with (fail)
        go_must (refine (left_any HR4.out).mono ?_)
        rintro e w6 ⟨rfl, hw⟩
        have hw := hw.symm
        subst hw
        dsimp only
        go_wp2
        go_ret
        exact ⟨rfl, HB5.out⟩
    · clear hq
      have HR4 := Lib.hid hr4
      have HB4 := Lib.hid (Only.below HB.out ho4 (fun b e => by subst e; exact HG.out))
      have HE4 := Lib.hid (HE.out.keep HB4.out)
      clear hr4 ho4
      dsimp only
      go_wp2_with (fail)
      go_must (refine (wint_any (n := 0) ⟨by decide, by decide⟩ HE4.out.pt).mono ?_)
      rintro e w5 ⟨rfl, hb5⟩
      have HB5 := Lib.hid (Gen.over hb5 HB4.out)
      replace HR4 := Lib.hid (HR4.out.keep hb5)
      clear hb5
      dsimp only
      go_wp2_with (fail)
      go_must (refine (left_any HR4.out).mono ?_)
      rintro e w6 ⟨rfl, hw⟩
      have hw := hw.symm
      subst hw
      dsimp only
      go_wp2_with (fail)
      go_must (refine (done_any (l := []) HR4.out).mono ?_)
      rintro e w6 ⟨rfl, hw⟩
      have hw := hw.symm
      subst hw
      dsimp only
      go_wp2
      go_ret
      exact ⟨rfl, HB5.out⟩
  · go_wp2_with (fail)
    go_must (refine (text_any HR.out HZ.out HEn.out.pt HEn.out.e2 HEn.out.e3).mono ?_)
    rintro e w4 (⟨v, t, hq, rfl, hr4, ho4⟩ | ⟨hq, rfl, hr4, ho4⟩)
    · have HS : Hid (l = encT v ++ t) := Lib.hid (text_again hq)
      have hi : v.length ≤ 1000000000 := by have := text_again hq; have h2 := congrArg List.length this; unfold encT at h2; simp only [List.length_append, List.length_cons, List.length_nil] at h2; have h3 : l.length = (⟨l.toArray⟩ : ByteArray).data.toList.length := rfl; omega
      clear hq
      have HR4 := Lib.hid hr4
      have HB4 := Lib.hid (Only.below HB.out ho4 (fun b e => by subst e; exact HG.out))
      have HE4 := Lib.hid (HE.out.keep HB4.out)
      clear hr4 ho4
      dsimp only
      go_wp2_with (fail)
      go_must (refine (wtext_any hi HE4.out.pt).mono ?_)
      rintro e w5 ⟨rfl, hb5⟩
      have HB5 := Lib.hid (Gen.over hb5 HB4.out)
      replace HR4 := Lib.hid (HR4.out.keep hb5)
      clear hb5
      dsimp only
      obtain ⟨E, hE9⟩ : ∃ E : Nat, (encT v).length = E := ⟨_, rfl⟩
      have hlen : l.length = E + t.length := by rw [HS.out, List.length_append, hE9]
      have hzt : (⟨t.toArray⟩ : ByteArray).size = t.length := by simp [ByteArray.size]
      have hwr : IntKind.i64.wrap ((l.length : Int) - (t.length : Int)) = (E : Int) := by rw [IntWalk.i64_in _ (by omega)]; omega
      have hmin : min (E : Int) (l.length : Int) = (E : Int) := by omega
      have hmax : max (0 : Int) (E : Int) = (E : Int) := by omega
      have hE0 : (0 : Int) ≤ (E : Int) := by omega
      have hE1 : (E : Int) ≤ (l.length : Int) := by omega
      have hAl : ((⟨l.toArray⟩ : ByteArray).extract 0 E).toList = encT v := by
        rw [Lib.toList_data, Lib.extract_data, List.drop_zero, Nat.sub_zero]
        show l.take E = _
        rw [HS.out, ← hE9, List.take_left]
      have hself : ((encT v) == (encT v)) = true := beq_self_eq_true _
      cases t with
      | nil =>
        go_wp2_with (fail)
        go_must (refine (left_any HR4.out).mono ?_)
        rintro e w6 ⟨rfl, hw⟩
        have hw := hw.symm
        subst hw
        dsimp only
        go_wp2_with (fail)
        go_must (refine (done_any (l := []) HR4.out).mono ?_)
        rintro e w6 ⟨rfl, hw⟩
        have hw := hw.symm
        subst hw
        dsimp only
        go_wp2_with (fail)
        go_must (refine (left_any HR4.out).mono ?_)
        rintro e w6 ⟨rfl, hw⟩
        have hw := hw.symm
        subst hw
        dsimp only
        go_wp2
        go_ret
        exact ⟨rfl, HB5.out⟩
      | cons c t =>
        have hne : (((c :: t).length : Int) == 0) = false := by simp; omega
        have hwr2 : IntKind.i64.wrap ((l.length : Int) - ((t.length : Int) + 1)) = (E : Int) := by rw [IntWalk.i64_in _ (by simp at hlen; omega)]; simp at hlen; omega
        clear hlen hwr
        go_wp2_with (fail)
        go_must (refine (left_any HR4.out).mono ?_)
        rintro e w6 ⟨rfl, hw⟩
        have hw := hw.symm
        subst hw
        dsimp only
        go_wp2_with (fail)
        go_must (refine (left_any HR4.out).mono ?_)
        rintro e w6 ⟨rfl, hw⟩
        have hw := hw.symm
        subst hw
        dsimp only
        go_wp2
        go_ret
        exact ⟨rfl, HB5.out⟩
    · clear hq
      have HR4 := Lib.hid hr4
      have HB4 := Lib.hid (Only.below HB.out ho4 (fun b e => by subst e; exact HG.out))
      have HE4 := Lib.hid (HE.out.keep HB4.out)
      clear hr4 ho4
      dsimp only
      go_wp2_with (fail)
      go_must (refine (wtext_any (l := []) (by decide) HE4.out.pt).mono ?_)
      rintro e w5 ⟨rfl, hb5⟩
      have HB5 := Lib.hid (Gen.over hb5 HB4.out)
      replace HR4 := Lib.hid (HR4.out.keep hb5)
      clear hb5
      dsimp only
      go_wp2_with (fail)
      go_must (refine (left_any HR4.out).mono ?_)
      rintro e w6 ⟨rfl, hw⟩
      have hw := hw.symm
      subst hw
      dsimp only
      go_wp2_with (fail)
      go_must (refine (done_any (l := []) HR4.out).mono ?_)
      rintro e w6 ⟨rfl, hw⟩
      have hw := hw.symm
      subst hw
      dsimp only
      go_wp2
      go_ret
      exact ⟨rfl, HB5.out⟩
  · go_wp2_with (fail)
    go_must (refine (nums_any HR.out (fun h => by cases h) HZ.out HEn.out HG.out).mono ?_)
    rintro e w4 (⟨v, t, A9, c9, hq, rfl, hr4, hown, ho4⟩ | ⟨hq, rfl, hr4, ho4⟩)
    · have hq : lsr (untl 59) l = some (v, t) := hq
      have HS : Hid (l = encL encI v ++ t) := Lib.hid (list_again (fun l v t h => int_again h) hq)
      have hfl : (v.flatMap encI).length ≤ 400 := by
        have h2 := congrArg List.length HS.out
        unfold encL at h2
        simp only [List.length_append, List.length_cons] at h2
        omega
      have hvl : v.length ≤ 400 := Nat.le_trans (flat_ge encI_pos v) hfl
      have hi := lsr_all (Q := I64) (fun l v t h => (untl_some h).2) hq
      have HO9 := Lib.hid (own_ints hown)
      clear hq hown
      have HR4 := Lib.hid hr4
      have HB4 := Lib.hid (Only.below HB.out ho4 (fun b e => by subst e; exact HG.out))
      have HE4 := Lib.hid (HE.out.keep HB4.out)
      clear hr4 ho4
      dsimp only
      go_wp2_with (fail)
      go_must (refine (wnums_any rfl HO9.out (fun x hx => by have := encI_len (hi x hx); omega) hi (by omega) HE4.out).mono ?_)
      rintro e w5 ⟨rfl, hb5⟩
      have HB5 := Lib.hid (Gen.over hb5 HB4.out)
      replace HR4 := Lib.hid (HR4.out.keep hb5)
      clear hb5
      dsimp only
      obtain ⟨E, hE9⟩ : ∃ E : Nat, (encL encI v).length = E := ⟨_, rfl⟩
      have hlen : l.length = E + t.length := by rw [HS.out, List.length_append, hE9]
      have hzt : (⟨t.toArray⟩ : ByteArray).size = t.length := by simp [ByteArray.size]
      have hwr : IntKind.i64.wrap ((l.length : Int) - (t.length : Int)) = (E : Int) := by rw [IntWalk.i64_in _ (by omega)]; omega
      have hmin : min (E : Int) (l.length : Int) = (E : Int) := by omega
      have hmax : max (0 : Int) (E : Int) = (E : Int) := by omega
      have hE0 : (0 : Int) ≤ (E : Int) := by omega
      have hE1 : (E : Int) ≤ (l.length : Int) := by omega
      have hAl : ((⟨l.toArray⟩ : ByteArray).extract 0 E).toList = encL encI v := by
        rw [Lib.toList_data, Lib.extract_data, List.drop_zero, Nat.sub_zero]
        show l.take E = _
        rw [HS.out, ← hE9, List.take_left]
      have hself : ((encL encI v) == (encL encI v)) = true := beq_self_eq_true _
      cases t with
      | nil =>
        go_wp2_with (fail)
        go_must (refine (left_any HR4.out).mono ?_)
        rintro e w6 ⟨rfl, hw⟩
        have hw := hw.symm
        subst hw
        dsimp only
        go_wp2_with (fail)
        go_must (refine (done_any (l := []) HR4.out).mono ?_)
        rintro e w6 ⟨rfl, hw⟩
        have hw := hw.symm
        subst hw
        dsimp only
        go_wp2_with (fail)
        go_must (refine (left_any HR4.out).mono ?_)
        rintro e w6 ⟨rfl, hw⟩
        have hw := hw.symm
        subst hw
        dsimp only
        go_wp2
        go_ret
        exact ⟨rfl, HB5.out⟩
      | cons c t =>
        have hne : (((c :: t).length : Int) == 0) = false := by simp; omega
        have hwr2 : IntKind.i64.wrap ((l.length : Int) - ((t.length : Int) + 1)) = (E : Int) := by rw [IntWalk.i64_in _ (by simp at hlen; omega)]; simp at hlen; omega
        clear hlen hwr
        go_wp2_with (fail)
        go_must (refine (left_any HR4.out).mono ?_)
        rintro e w6 ⟨rfl, hw⟩
        have hw := hw.symm
        subst hw
        dsimp only
        go_wp2_with (fail)
        go_must (refine (left_any HR4.out).mono ?_)
        rintro e w6 ⟨rfl, hw⟩
        have hw := hw.symm
        subst hw
        dsimp only
        go_wp2
        go_ret
        exact ⟨rfl, HB5.out⟩
    · clear hq
      have HR4 := Lib.hid hr4
      have HB4 := Lib.hid (Only.below HB.out ho4 (fun b e => by subst e; exact HG.out))
      have HE4 := Lib.hid (HE.out.keep HB4.out)
      clear hr4 ho4
      dsimp only
      go_wp2_with (fail)
      go_must (refine (wnums_any (A := none) (l := []) rfl (fun h => absurd h (by simp)) (by simp) (by simp) (by decide) HE4.out).mono ?_)
      rintro e w5 ⟨rfl, hb5⟩
      have HB5 := Lib.hid (Gen.over hb5 HB4.out)
      replace HR4 := Lib.hid (HR4.out.keep hb5)
      clear hb5
      dsimp only
      go_wp2_with (fail)
      go_must (refine (left_any HR4.out).mono ?_)
      rintro e w6 ⟨rfl, hw⟩
      have hw := hw.symm
      subst hw
      dsimp only
      go_wp2_with (fail)
      go_must (refine (done_any (l := []) HR4.out).mono ?_)
      rintro e w6 ⟨rfl, hw⟩
      have hw := hw.symm
      subst hw
      dsimp only
      go_wp2
      go_ret
      exact ⟨rfl, HB5.out⟩
  · go_wp2_with (fail)
    go_must (refine (texts_any HR.out (fun h => by cases h) HZ.out HEn.out HG.out).mono ?_)
    rintro e w4 (⟨v, t, A9, c9, hq, rfl, hr4, hown, ho4⟩ | ⟨hq, rfl, hr4, ho4⟩)
    · have hq : lsr txr l = some (v, t) := hq
      have HS : Hid (l = encL encT v ++ t) := Lib.hid (list_again (fun l v t h => text_again h) hq)
      have hfl : (v.flatMap encT).length ≤ 400 := by
        have h2 := congrArg List.length HS.out
        unfold encL at h2
        simp only [List.length_append, List.length_cons] at h2
        omega
      have hvl : v.length ≤ 400 := Nat.le_trans (flat_ge encT_pos v) hfl
      have hi : ∀ x ∈ v, (encT x).length ≤ 400 := fun x hx => Nat.le_trans (flat_mem hx) hfl
      have HO9 := Lib.hid (own_sts hown)
      clear hq hown
      have HR4 := Lib.hid hr4
      have HB4 := Lib.hid (Only.below HB.out ho4 (fun b e => by subst e; exact HG.out))
      have HE4 := Lib.hid (HE.out.keep HB4.out)
      clear hr4 ho4
      dsimp only
      go_wp2_with (fail)
      go_must (refine (wtexts_any rfl HO9.out (fun x hx => by have := hi x hx; omega) (fun x hx => by have h := hi x hx; unfold encT at h; simp only [List.length_append, List.length_cons, List.length_nil] at h; omega) (by omega) HE4.out).mono ?_)
      rintro e w5 ⟨rfl, hb5⟩
      have HB5 := Lib.hid (Gen.over hb5 HB4.out)
      replace HR4 := Lib.hid (HR4.out.keep hb5)
      clear hb5
      dsimp only
      obtain ⟨E, hE9⟩ : ∃ E : Nat, (encL encT v).length = E := ⟨_, rfl⟩
      have hlen : l.length = E + t.length := by rw [HS.out, List.length_append, hE9]
      have hzt : (⟨t.toArray⟩ : ByteArray).size = t.length := by simp [ByteArray.size]
      have hwr : IntKind.i64.wrap ((l.length : Int) - (t.length : Int)) = (E : Int) := by rw [IntWalk.i64_in _ (by omega)]; omega
      have hmin : min (E : Int) (l.length : Int) = (E : Int) := by omega
      have hmax : max (0 : Int) (E : Int) = (E : Int) := by omega
      have hE0 : (0 : Int) ≤ (E : Int) := by omega
      have hE1 : (E : Int) ≤ (l.length : Int) := by omega
      have hAl : ((⟨l.toArray⟩ : ByteArray).extract 0 E).toList = encL encT v := by
        rw [Lib.toList_data, Lib.extract_data, List.drop_zero, Nat.sub_zero]
        show l.take E = _
        rw [HS.out, ← hE9, List.take_left]
      have hself : ((encL encT v) == (encL encT v)) = true := beq_self_eq_true _
      cases t with
      | nil =>
        go_wp2_with (fail)
        go_must (refine (left_any HR4.out).mono ?_)
        rintro e w6 ⟨rfl, hw⟩
        have hw := hw.symm
        subst hw
        dsimp only
        go_wp2_with (fail)
        go_must (refine (done_any (l := []) HR4.out).mono ?_)
        rintro e w6 ⟨rfl, hw⟩
        have hw := hw.symm
        subst hw
        dsimp only
        go_wp2_with (fail)
        go_must (refine (left_any HR4.out).mono ?_)
        rintro e w6 ⟨rfl, hw⟩
        have hw := hw.symm
        subst hw
        dsimp only
        go_wp2
        go_ret
        exact ⟨rfl, HB5.out⟩
      | cons c t =>
        have hne : (((c :: t).length : Int) == 0) = false := by simp; omega
        have hwr2 : IntKind.i64.wrap ((l.length : Int) - ((t.length : Int) + 1)) = (E : Int) := by rw [IntWalk.i64_in _ (by simp at hlen; omega)]; simp at hlen; omega
        clear hlen hwr
        go_wp2_with (fail)
        go_must (refine (left_any HR4.out).mono ?_)
        rintro e w6 ⟨rfl, hw⟩
        have hw := hw.symm
        subst hw
        dsimp only
        go_wp2_with (fail)
        go_must (refine (left_any HR4.out).mono ?_)
        rintro e w6 ⟨rfl, hw⟩
        have hw := hw.symm
        subst hw
        dsimp only
        go_wp2
        go_ret
        exact ⟨rfl, HB5.out⟩
    · clear hq
      have HR4 := Lib.hid hr4
      have HB4 := Lib.hid (Only.below HB.out ho4 (fun b e => by subst e; exact HG.out))
      have HE4 := Lib.hid (HE.out.keep HB4.out)
      clear hr4 ho4
      dsimp only
      go_wp2_with (fail)
      go_must (refine (wtexts_any (A := none) (l := []) rfl (fun h => absurd h (by simp)) (by simp) (by simp) (by decide) HE4.out).mono ?_)
      rintro e w5 ⟨rfl, hb5⟩
      have HB5 := Lib.hid (Gen.over hb5 HB4.out)
      replace HR4 := Lib.hid (HR4.out.keep hb5)
      clear hb5
      dsimp only
      go_wp2_with (fail)
      go_must (refine (left_any HR4.out).mono ?_)
      rintro e w6 ⟨rfl, hw⟩
      have hw := hw.symm
      subst hw
      dsimp only
      go_wp2_with (fail)
      go_must (refine (done_any (l := []) HR4.out).mono ?_)
      rintro e w6 ⟨rfl, hw⟩
      have hw := hw.symm
      subst hw
      dsimp only
      go_wp2
      go_ret
      exact ⟨rfl, HB5.out⟩
theorem again_any (w : World) (hE : En w w) (hb : l.length ≤ 9223372036854775807) (hk : I64 what) :
    Calls Tryd.prog 6 #[.string ⟨l.toArray⟩, .int .i64 what] w fun e w' => e = .returned (.bool true) ∧ Below w.heap.size w w' := by
  by_cases h : l.length ≤ 400
  · exact again_yes w hE h hk
  · exact again_no w hE (by omega) hb
end
end Go.Proofs.YtapcfnlononniaaDoor.Wr
