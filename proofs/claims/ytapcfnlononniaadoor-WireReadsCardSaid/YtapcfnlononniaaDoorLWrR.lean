/- WireReads returns true: every string, every list of calls; no condition. -/
import Derived.Test.YtapcfnlononniaaDoorOpnW
import Derived.Test.YtapcfnlononniaaDoorWrQ
import Derived.Test.YtapcfnlononniaaDoorLWrA
namespace Go.Proofs.YtapcfnlononniaaDoor.Wr
open Go.Lib Go.ChangeShapes Go.WideShapes Go.ChangeAt Go.RowKit Go.Proofs.YtapcfnlononniaaDoor.Cell
set_option linter.unusedVariables false
set_option linter.unusedSimpArgs false
theorem siz_less {e : UInt8} {l t : List UInt8} {n : Nat} (h : siz e l = some (n, t)) : t.length ≤ l.length := by
  have := congrArg List.length (siz_some h).1
  rw [List.length_append, List.length_cons] at this
  omega
theorem lsr_less {α : Type} {one : List UInt8 → Option (α × List UInt8)} {f : α → List UInt8} (h : ∀ l v t, one l = some (v, t) → l = f v ++ t) {l t : List UInt8} {vs : List α} (hr : lsr one l = some (vs, t)) : t.length ≤ l.length := by
  have := congrArg List.length (list_again h hr)
  rw [List.length_append] at this
  omega
/-- both readers, side by side -/
structure Bo (w wr : World) (g q : Nat) (t : List UInt8) (f : Bool) : Prop where
  ft : f = true → t = []
  rd : Rd wr g ⟨t.toArray⟩ f
  rr : Rr wr q t f
  b : Below w.heap.size w wr
theorem Bo.step {w wr w1 w2 : World} {g q : Nat} {t t2 : List UInt8} {f f2 : Bool} (h : Bo w wr g q t f) (hg : w.heap.size ≤ g) (hq : w.heap.size ≤ q) (hgq : g ≠ q) (ho1 : Only wr w1 (fun x => x = g)) (h1 : Rd w1 g ⟨t2.toArray⟩ f2) (ho2 : Only w1 w2 (fun x => x = q)) (h2 : Rr w2 q t2 f2) (hf : f2 = true → t2 = []) : Bo w w2 g q t2 f2 :=
  ⟨hf, Only.row ho2 h1 hgq, h2, Only.below (Only.below h.b ho1 (fun b e => by subst e; exact hg)) ho2 (fun b e => by subst e; exact hq)⟩
theorem Bo.keep {w wr w1 : World} {g q : Nat} {t : List UInt8} {f : Bool} (h : Bo w wr g q t f) (hb : Below wr.heap.size wr w1) : Bo w w1 g q t f :=
  ⟨h.ft, h.rd.keep hb, h.rr.keep hb, Gen.over hb h.b⟩
section
variable {l : List UInt8} {A : Option Addr} {m cap : Nat} {cs : List Int}
set_option maxRecDepth 100000 in
set_option maxHeartbeats 4000000 in
theorem reads_no (w : World) (hE : En w w) (hm : cs.length = m) (hf : ¬ (l.length ≤ 400 ∧ m ≤ 20)) :
    Calls Tryd.prog 4 #[.string ⟨l.toArray⟩, .slice A m cap] w fun e w' => e = .returned (.bool true) ∧ Below w.heap.size w w' := by
  have HE := Lib.hid hE
  clear hE hm
  by_cases hl : l.length ≤ 400
  · have hlI : (l.length : Int) ≤ 400 := by omega
    have hmI : (20 : Int) < (m : Int) := by
      by_cases hm : m ≤ 20
      · exact absurd ⟨hl, hm⟩ hf
      · omega
    clear hf
    go_enter Tryd.func4, Tryd.ntmps4
    go_wp2_with (fail)
    go_must (refine (small_any HE.out).mono ?_)
    rintro e w1 ⟨rfl, hb⟩
    have HB := Lib.hid hb
    clear hb
    dsimp only
    go_wp2
    go_ret
    exact ⟨rfl, HB.out⟩
  · have hlI : (400 : Int) < (l.length : Int) := by omega
    clear hf
    go_enter Tryd.func4, Tryd.ntmps4
    go_wp2_with (fail)
    go_must (refine (small_any HE.out).mono ?_)
    rintro e w1 ⟨rfl, hb⟩
    have HB := Lib.hid hb
    clear hb
    dsimp only
    go_wp2
    go_ret
    exact ⟨rfl, HB.out⟩
set_option maxRecDepth 100000 in
set_option maxHeartbeats 16000000 in
theorem reads_yes (w : World) (hE : En w w) (hm : cs.length = m) (hc : Ints w A cs) (hcs : ∀ z ∈ cs, I64 z) (hl : l.length ≤ 400) (hm20 : m ≤ 20) :
    Calls Tryd.prog 4 #[.string ⟨l.toArray⟩, .slice A m cap] w fun e w' => e = .returned (.bool true) ∧ Below w.heap.size w w' := by
  have HE := Lib.hid hE
  have HM := Lib.hid hm
  have HC := Lib.hid hc
  have HCS := Lib.hid hcs
  have hlI : (l.length : Int) ≤ 400 := by omega
  have hmI : (m : Int) ≤ 20 := by omega
  clear hE hm hc hcs
  go_enter Tryd.func4, Tryd.ntmps4
  go_wp2_with (fail)
  go_must (refine (small_any HE.out).mono ?_)
  rintro e w1 ⟨rfl, hb⟩
  have HB := Lib.hid hb
  clear hb
  dsimp only
  go_wp2_with (fail)
  go_must (refine wopen_any.mono ?_)
  rintro e w2 ⟨g, rfl, hg, hr, hb⟩
  have HG : Hid (w.heap.size ≤ g) := Lib.hid (by have := HB.out.size; omega)
  have HGl : Hid (g < w2.heap.size) := Lib.hid (Row.lt hr)
  replace HB := Lib.hid (Gen.over hb HB.out)
  have HR := Lib.hid hr
  clear hb hr hg
  dsimp only
  go_wp2_with (fail)
  go_must (refine ropen_any.mono ?_)
  rintro e w3 ⟨q, rfl, hq, hr, hb⟩
  have HQ : Hid (w.heap.size ≤ q) := Lib.hid (by have := HB.out.size; omega)
  have HGQ : Hid (g ≠ q) := Lib.hid (by have := HGl.out; omega)
  have HBo : Hid (Bo w w3 g q l false) := Lib.hid ⟨(fun h => by cases h), HR.out.keep hb, hr, Gen.over hb HB.out⟩
  clear hb hr hq HR HB HGl
  dsimp only
  go_wp2
  go_loopw [8] (fun iv wr => ∃ (k : Nat) (t : List UInt8) (f : Bool), k ≤ m ∧ iv = .int .i64 k ∧ t.length ≤ 400 ∧ Hid (Bo w wr g q t f)) (fun iv _ => m - (RowKit.intOf iv).toNat)
  case atStart => exact ⟨0, l, false, Nat.zero_le _, rfl, hl, HBo⟩
  case round =>
    clear HBo
    obtain ⟨k, t, f, hk, rfl, ht4, HBo⟩ := hrel
    have k0 : (0 : Int) ≤ (k : Int) := by omega
    by_cases hlt : k < m
    · have hltI : (k : Int) < (m : Int) := by omega
      obtain ⟨z, hz⟩ := at_ cs k (by rw [HM.out]; exact hlt)
      obtain ⟨b, off, rfl, hcell⟩ := (HC.out.keep HBo.out.b) (by rw [HM.out]; omega)
      have d0 := hcell k z hz
      have hzI := HCS.out z (mem_of_at hz)
      have HKI := Lib.hid (kdv_in z)
      have HKC := Lib.hid (fun W' => kind_any (v := ⟨z, 0, [], [], []⟩) (A := none) (c := 0) (A' := none) (c' := 0) (W := W') hzI)
      clear hcell hz hzI
      go_wp2_with (fail)
      go_must (refine (HKC.out _).mono ?_)
      rintro e w4 ⟨rfl, hb⟩
      have HB4 := Lib.hid (HBo.out.keep hb)
      have HEn := Lib.hid (HE.out.keep HB4.out.b)
      clear hb d0 HBo
      obtain ⟨K, hK⟩ : ∃ K, kdv z = K := ⟨_, rfl⟩
      rw [show kdv (⟨z, 0, [], [], []⟩ : Vl).kd = K from hK]
      have hKi : 0 ≤ K ∧ K ≤ 4 := hK ▸ HKI.out
      clear hK
      dsimp only
      have hzt : (⟨t.toArray⟩ : ByteArray).size = t.length := by simp [ByteArray.size]
      have HZ : Hid ((⟨t.toArray⟩ : ByteArray).size ≤ 1000000000) := Lib.hid (by rw [hzt]; omega)
      have HZ2 : Hid (t.length ≤ 1000000000) := Lib.hid (by omega)
      clear hzt
      rcases (show K = 0 ∨ K = 1 ∨ K = 2 ∨ K = 3 ∨ K = 4 by omega) with rfl | rfl | rfl | rfl | rfl
      · go_wp2_with (fail)
        go_must (refine (num_any HB4.out.rd HZ.out HEn.out.pt HEn.out.e2 HEn.out.e3).mono ?_)
        rintro e w5 (⟨v, t2, hs, rfl, hr5, ho5⟩ | ⟨hs, rfl, hr5, ho5⟩)
        · have hs : siz 59 t = some (v, t2) := hs
          have ht2 : t2.length ≤ 400 := Nat.le_trans (siz_less hs) ht4
          have HR5 : Hid (Rr w5 q t f) := Lib.hid (Only.row ho5 HB4.out.rr (fun h => HGQ.out h.symm))
          have HO5 := Lib.hid ho5
          have HD5 := Lib.hid hr5
          clear hr5 ho5
          dsimp only
          go_wp2_with (fail)
          go_must (refine (rrnum_any HR5.out HZ2.out).mono ?_)
          rintro e w6 (⟨v', t3, hs', rfl, hr6, ho6⟩ | ⟨hs', _⟩)
          · have hs' : siz 59 t = some (v', t3) := hs'
            rw [hs] at hs'
            injection hs' with hs'
            injection hs' with e1 e2
            subst e1 e2
            have hff : f = true → t2 = [] := fun h => by
              have := HB4.out.ft h
              rw [this] at hs
              cases hs
            have HBn : Hid (Bo w w6 g q t2 f) := Lib.hid (HB4.out.step HG.out HQ.out HGQ.out HO5.out HD5.out ho6 hr6 hff)
            clear hr6 ho6 hff hs
            dsimp only
            go_wp2_with (fail)
            go_must (refine (left_any HBn.out.rd).mono ?_)
            rintro e w7 ⟨rfl, hw⟩
            have hw := hw.symm
            subst hw
            dsimp only
            have hzt : (⟨(t2).toArray⟩ : ByteArray).size = (t2).length := by simp [ByteArray.size]
            rw [hzt]
            go_wp2_with (fail)
            go_must (refine (rleft_any HBn.out.rr).mono ?_)
            rintro e w7 ⟨rfl, hw⟩
            have hw := hw.symm
            subst hw
            dsimp only
            have hnn : ((((t2).length : Nat) : Int) != (((t2).length : Nat) : Int)) = false := by simp
            go_wp2_with (fail)
            go_must (refine (done_any (l := t2) HBn.out.rd).mono ?_)
            rintro e w7 ⟨rfl, hw⟩
            have hw := hw.symm
            subst hw
            dsimp only
            go_wp2_with (fail)
            go_must (refine (rdone_any (l := t2) HBn.out.rr).mono ?_)
            rintro e w7 ⟨rfl, hw⟩
            have hw := hw.symm
            subst hw
            dsimp only
            obtain ⟨dn, hdn⟩ : ∃ b, (!f && (t2).isEmpty) = b := ⟨_, rfl⟩
            try rw [hdn]
            have hdd : (dn != dn) = false := by simp
            go_wp2
            go_roundw
            case rel => exact ⟨k + 1, t2, f, by omega, by go_num, ht2, HBn⟩
            case measure => simp [RowKit.intOf]; omega
          · have hs' : siz 59 t = none := hs'
            rw [hs] at hs'
            cases hs'
        · have hs : siz 59 t = none := hs
          have ht2 : ([] : List UInt8).length ≤ 400 := by simp
          have HR5 : Hid (Rr w5 q t f) := Lib.hid (Only.row ho5 HB4.out.rr (fun h => HGQ.out h.symm))
          have HO5 := Lib.hid ho5
          have HD5 := Lib.hid hr5
          clear hr5 ho5
          dsimp only
          go_wp2_with (fail)
          go_must (refine (rrnum_any HR5.out HZ2.out).mono ?_)
          rintro e w6 (⟨v', t3, hs', _⟩ | ⟨hs', rfl, hr6, ho6⟩)
          · have hs' : siz 59 t = some (v', t3) := hs'
            rw [hs] at hs'
            cases hs'
          · have HBn : Hid (Bo w w6 g q [] true) := Lib.hid (HB4.out.step (t2 := []) HG.out HQ.out HGQ.out HO5.out HD5.out ho6 hr6 (fun _ => rfl))
            clear hr6 ho6 hs
            dsimp only
            go_wp2_with (fail)
            go_must (refine (left_any HBn.out.rd).mono ?_)
            rintro e w7 ⟨rfl, hw⟩
            have hw := hw.symm
            subst hw
            dsimp only
            go_wp2_with (fail)
            go_must (refine (rleft_any HBn.out.rr).mono ?_)
            rintro e w7 ⟨rfl, hw⟩
            have hw := hw.symm
            subst hw
            dsimp only
            go_wp2_with (fail)
            go_must (refine (done_any (l := []) HBn.out.rd).mono ?_)
            rintro e w7 ⟨rfl, hw⟩
            have hw := hw.symm
            subst hw
            dsimp only
            go_wp2_with (fail)
            go_must (refine (rdone_any (l := []) HBn.out.rr).mono ?_)
            rintro e w7 ⟨rfl, hw⟩
            have hw := hw.symm
            subst hw
            dsimp only
            go_wp2
            go_roundw
            case rel => exact ⟨k + 1, ([] : List UInt8), true, by omega, by go_num, ht2, HBn⟩
            case measure => simp [RowKit.intOf]; omega
      · go_wp2_with (fail)
        go_must (refine (int_any HB4.out.rd HZ.out HEn.out.pt HEn.out.e2 HEn.out.e3).mono ?_)
        rintro e w5 (⟨v, t2, hs, rfl, hr5, ho5⟩ | ⟨hs, rfl, hr5, ho5⟩)
        · have hs : untl 59 t = some (v, t2) := hs
          have ht2 : t2.length ≤ 400 := Nat.le_trans (Nat.le_of_lt (untl_short hs)) ht4
          have HR5 : Hid (Rr w5 q t f) := Lib.hid (Only.row ho5 HB4.out.rr (fun h => HGQ.out h.symm))
          have HO5 := Lib.hid ho5
          have HD5 := Lib.hid hr5
          clear hr5 ho5
          dsimp only
          go_wp2_with (fail)
          go_must (refine (rrint_any HR5.out HZ2.out).mono ?_)
          rintro e w6 (⟨v', t3, hs', rfl, hr6, ho6⟩ | ⟨hs', _⟩)
          · have hs' : untl 59 t = some (v', t3) := hs'
            rw [hs] at hs'
            injection hs' with hs'
            injection hs' with e1 e2
            subst e1 e2
            have hff : f = true → t2 = [] := fun h => by
              have := HB4.out.ft h
              rw [this] at hs
              cases hs
            have HBn : Hid (Bo w w6 g q t2 f) := Lib.hid (HB4.out.step HG.out HQ.out HGQ.out HO5.out HD5.out ho6 hr6 hff)
            clear hr6 ho6 hff hs
            dsimp only
            go_wp2_with (fail)
            go_must (refine (left_any HBn.out.rd).mono ?_)
            rintro e w7 ⟨rfl, hw⟩
            have hw := hw.symm
            subst hw
            dsimp only
            have hzt : (⟨(t2).toArray⟩ : ByteArray).size = (t2).length := by simp [ByteArray.size]
            rw [hzt]
            go_wp2_with (fail)
            go_must (refine (rleft_any HBn.out.rr).mono ?_)
            rintro e w7 ⟨rfl, hw⟩
            have hw := hw.symm
            subst hw
            dsimp only
            have hnn : ((((t2).length : Nat) : Int) != (((t2).length : Nat) : Int)) = false := by simp
            go_wp2_with (fail)
            go_must (refine (done_any (l := t2) HBn.out.rd).mono ?_)
            rintro e w7 ⟨rfl, hw⟩
            have hw := hw.symm
            subst hw
            dsimp only
            go_wp2_with (fail)
            go_must (refine (rdone_any (l := t2) HBn.out.rr).mono ?_)
            rintro e w7 ⟨rfl, hw⟩
            have hw := hw.symm
            subst hw
            dsimp only
            obtain ⟨dn, hdn⟩ : ∃ b, (!f && (t2).isEmpty) = b := ⟨_, rfl⟩
            try rw [hdn]
            have hdd : (dn != dn) = false := by simp
            go_wp2
            go_roundw
            case rel => exact ⟨k + 1, t2, f, by omega, by go_num, ht2, HBn⟩
            case measure => simp [RowKit.intOf]; omega
          · have hs' : untl 59 t = none := hs'
            rw [hs] at hs'
            cases hs'
        · have hs : untl 59 t = none := hs
          have ht2 : ([] : List UInt8).length ≤ 400 := by simp
          have HR5 : Hid (Rr w5 q t f) := Lib.hid (Only.row ho5 HB4.out.rr (fun h => HGQ.out h.symm))
          have HO5 := Lib.hid ho5
          have HD5 := Lib.hid hr5
          clear hr5 ho5
          dsimp only
          go_wp2_with (fail)
          go_must (refine (rrint_any HR5.out HZ2.out).mono ?_)
          rintro e w6 (⟨v', t3, hs', _⟩ | ⟨hs', rfl, hr6, ho6⟩)
          · have hs' : untl 59 t = some (v', t3) := hs'
            rw [hs] at hs'
            cases hs'
          · have HBn : Hid (Bo w w6 g q [] true) := Lib.hid (HB4.out.step (t2 := []) HG.out HQ.out HGQ.out HO5.out HD5.out ho6 hr6 (fun _ => rfl))
            clear hr6 ho6 hs
            dsimp only
            go_wp2_with (fail)
            go_must (refine (left_any HBn.out.rd).mono ?_)
            rintro e w7 ⟨rfl, hw⟩
            have hw := hw.symm
            subst hw
            dsimp only
            go_wp2_with (fail)
            go_must (refine (rleft_any HBn.out.rr).mono ?_)
            rintro e w7 ⟨rfl, hw⟩
            have hw := hw.symm
            subst hw
            dsimp only
            go_wp2_with (fail)
            go_must (refine (done_any (l := []) HBn.out.rd).mono ?_)
            rintro e w7 ⟨rfl, hw⟩
            have hw := hw.symm
            subst hw
            dsimp only
            go_wp2_with (fail)
            go_must (refine (rdone_any (l := []) HBn.out.rr).mono ?_)
            rintro e w7 ⟨rfl, hw⟩
            have hw := hw.symm
            subst hw
            dsimp only
            go_wp2
            go_roundw
            case rel => exact ⟨k + 1, ([] : List UInt8), true, by omega, by go_num, ht2, HBn⟩
            case measure => simp [RowKit.intOf]; omega
      · go_wp2_with (fail)
        go_must (refine (text_any HB4.out.rd HZ.out HEn.out.pt HEn.out.e2 HEn.out.e3).mono ?_)
        rintro e w5 (⟨v, t2, hs, rfl, hr5, ho5⟩ | ⟨hs, rfl, hr5, ho5⟩)
        · have hs : txr t = some (v, t2) := hs
          have ht2 : t2.length ≤ 400 := Nat.le_trans (Nat.le_of_lt (txr_short hs)) ht4
          have HR5 : Hid (Rr w5 q t f) := Lib.hid (Only.row ho5 HB4.out.rr (fun h => HGQ.out h.symm))
          have HO5 := Lib.hid ho5
          have HD5 := Lib.hid hr5
          clear hr5 ho5
          dsimp only
          go_wp2_with (fail)
          go_must (refine (rrtext_any HR5.out HB4.out.ft HZ2.out).mono ?_)
          rintro e w6 (⟨v', t3, hs', rfl, hr6, ho6⟩ | ⟨hs', _⟩)
          · have hs' : txr t = some (v', t3) := hs'
            rw [hs] at hs'
            injection hs' with hs'
            injection hs' with e1 e2
            subst e1 e2
            have hff : f = true → t2 = [] := fun h => by
              have := HB4.out.ft h
              rw [this] at hs
              cases hs
            have HBn : Hid (Bo w w6 g q t2 f) := Lib.hid (HB4.out.step HG.out HQ.out HGQ.out HO5.out HD5.out ho6 hr6 hff)
            clear hr6 ho6 hff hs
            dsimp only
            go_wp2_with (fail)
            go_must (refine (left_any HBn.out.rd).mono ?_)
            rintro e w7 ⟨rfl, hw⟩
            have hw := hw.symm
            subst hw
            dsimp only
            have hzt : (⟨(t2).toArray⟩ : ByteArray).size = (t2).length := by simp [ByteArray.size]
            rw [hzt]
            go_wp2_with (fail)
            go_must (refine (rleft_any HBn.out.rr).mono ?_)
            rintro e w7 ⟨rfl, hw⟩
            have hw := hw.symm
            subst hw
            dsimp only
            have hnn : ((((t2).length : Nat) : Int) != (((t2).length : Nat) : Int)) = false := by simp
            go_wp2_with (fail)
            go_must (refine (done_any (l := t2) HBn.out.rd).mono ?_)
            rintro e w7 ⟨rfl, hw⟩
            have hw := hw.symm
            subst hw
            dsimp only
            go_wp2_with (fail)
            go_must (refine (rdone_any (l := t2) HBn.out.rr).mono ?_)
            rintro e w7 ⟨rfl, hw⟩
            have hw := hw.symm
            subst hw
            dsimp only
            obtain ⟨dn, hdn⟩ : ∃ b, (!f && (t2).isEmpty) = b := ⟨_, rfl⟩
            try rw [hdn]
            have hdd : (dn != dn) = false := by simp
            go_wp2
            go_roundw
            case rel => exact ⟨k + 1, t2, f, by omega, by go_num, ht2, HBn⟩
            case measure => simp [RowKit.intOf]; omega
          · have hs' : txr t = none := hs'
            rw [hs] at hs'
            cases hs'
        · have hs : txr t = none := hs
          have ht2 : ([] : List UInt8).length ≤ 400 := by simp
          have HR5 : Hid (Rr w5 q t f) := Lib.hid (Only.row ho5 HB4.out.rr (fun h => HGQ.out h.symm))
          have HO5 := Lib.hid ho5
          have HD5 := Lib.hid hr5
          clear hr5 ho5
          dsimp only
          go_wp2_with (fail)
          go_must (refine (rrtext_any HR5.out HB4.out.ft HZ2.out).mono ?_)
          rintro e w6 (⟨v', t3, hs', _⟩ | ⟨hs', rfl, hr6, ho6⟩)
          · have hs' : txr t = some (v', t3) := hs'
            rw [hs] at hs'
            cases hs'
          · have HBn : Hid (Bo w w6 g q [] true) := Lib.hid (HB4.out.step (t2 := []) HG.out HQ.out HGQ.out HO5.out HD5.out ho6 hr6 (fun _ => rfl))
            clear hr6 ho6 hs
            dsimp only
            go_wp2_with (fail)
            go_must (refine (left_any HBn.out.rd).mono ?_)
            rintro e w7 ⟨rfl, hw⟩
            have hw := hw.symm
            subst hw
            dsimp only
            go_wp2_with (fail)
            go_must (refine (rleft_any HBn.out.rr).mono ?_)
            rintro e w7 ⟨rfl, hw⟩
            have hw := hw.symm
            subst hw
            dsimp only
            go_wp2_with (fail)
            go_must (refine (done_any (l := []) HBn.out.rd).mono ?_)
            rintro e w7 ⟨rfl, hw⟩
            have hw := hw.symm
            subst hw
            dsimp only
            go_wp2_with (fail)
            go_must (refine (rdone_any (l := []) HBn.out.rr).mono ?_)
            rintro e w7 ⟨rfl, hw⟩
            have hw := hw.symm
            subst hw
            dsimp only
            go_wp2
            go_roundw
            case rel => exact ⟨k + 1, ([] : List UInt8), true, by omega, by go_num, ht2, HBn⟩
            case measure => simp [RowKit.intOf]; omega
      · go_wp2_with (fail)
        go_must (refine (nums_any HB4.out.rd (fun h => by rw [HB4.out.ft h]) HZ.out HEn.out HG.out).mono ?_)
        rintro e w5 (⟨v, t2, A2, c2, hs, rfl, hr5, hw5, ho5⟩ | ⟨hs, rfl, hr5, ho5⟩)
        · have hs : lsr (untl 59) t = some (v, t2) := hs
          have ht2 : t2.length ≤ 400 := Nat.le_trans (lsr_less (fun _ _ _ => int_again) hs) ht4
          have hvl : v.length ≤ 1000000000 := by have h1 := congrArg List.length (list_again (fun _ _ _ => int_again) hs); unfold encL at h1; simp only [List.length_append, List.length_cons, List.length_nil] at h1; have h2 := flat_ge (f := encI) encI_pos v; omega
          have HR5 : Hid (Rr w5 q t f) := Lib.hid (Only.row ho5 HB4.out.rr (fun h => HGQ.out h.symm))
          have HO5 := Lib.hid ho5
          have HD5 := Lib.hid hr5
          have HW5 := Lib.hid hw5
          clear hr5 ho5 hw5
          dsimp only
          go_wp2_with (fail)
          go_must (refine (rrnums_any HR5.out HB4.out.ft HZ2.out).mono ?_)
          rintro e w6 (⟨v', t3, A3, c3, hs', rfl, hr6, hw6, ho6⟩ | ⟨hs', _⟩)
          · have hs' : lsr (untl 59) t = some (v', t3) := hs'
            rw [hs] at hs'
            injection hs' with hs'
            injection hs' with e1 e2
            subst e1 e2
            have hff : f = true → t2 = [] := fun h => by
              have := HB4.out.ft h
              rw [this] at hs
              cases hs
            have HBo6 : Hid (Bo w w6 g q t2 f) := Lib.hid (HB4.out.step HG.out HQ.out HGQ.out HO5.out HD5.out ho6 hr6 hff)
            have HW6 := Lib.hid (own_ints (Only.own HW5.out ho6 (Row.lt HB4.out.rr)))
            have HV6 := Lib.hid (own_ints hw6)
            clear hr6 ho6 hff hs hw6
            dsimp only
            go_wp2_with (fail)
            go_must (refine (SameNums_eq (l := v) rfl HW6.out HV6.out hvl).mono ?_)
            rintro e w8 ⟨rfl, hb8⟩
            have HBn := Lib.hid (HBo6.out.keep hb8)
            clear hb8
            dsimp only
            go_wp2_with (fail)
            go_must (refine (left_any HBn.out.rd).mono ?_)
            rintro e w7 ⟨rfl, hw⟩
            have hw := hw.symm
            subst hw
            dsimp only
            have hzt : (⟨(t2).toArray⟩ : ByteArray).size = (t2).length := by simp [ByteArray.size]
            rw [hzt]
            go_wp2_with (fail)
            go_must (refine (rleft_any HBn.out.rr).mono ?_)
            rintro e w7 ⟨rfl, hw⟩
            have hw := hw.symm
            subst hw
            dsimp only
            have hnn : ((((t2).length : Nat) : Int) != (((t2).length : Nat) : Int)) = false := by simp
            go_wp2_with (fail)
            go_must (refine (done_any (l := t2) HBn.out.rd).mono ?_)
            rintro e w7 ⟨rfl, hw⟩
            have hw := hw.symm
            subst hw
            dsimp only
            go_wp2_with (fail)
            go_must (refine (rdone_any (l := t2) HBn.out.rr).mono ?_)
            rintro e w7 ⟨rfl, hw⟩
            have hw := hw.symm
            subst hw
            dsimp only
            obtain ⟨dn, hdn⟩ : ∃ b, (!f && (t2).isEmpty) = b := ⟨_, rfl⟩
            try rw [hdn]
            have hdd : (dn != dn) = false := by simp
            go_wp2
            go_roundw
            case rel => exact ⟨k + 1, t2, f, by omega, by go_num, ht2, HBn⟩
            case measure => simp [RowKit.intOf]; omega
          · have hs' : lsr (untl 59) t = none := hs'
            rw [hs] at hs'
            cases hs'
        · have hs : lsr (untl 59) t = none := hs
          have ht2 : ([] : List UInt8).length ≤ 400 := by simp
          have HR5 : Hid (Rr w5 q t f) := Lib.hid (Only.row ho5 HB4.out.rr (fun h => HGQ.out h.symm))
          have HO5 := Lib.hid ho5
          have HD5 := Lib.hid hr5
          clear hr5 ho5
          dsimp only
          go_wp2_with (fail)
          go_must (refine (rrnums_any HR5.out HB4.out.ft HZ2.out).mono ?_)
          rintro e w6 (⟨v', t3, A3, c3, hs', _⟩ | ⟨hs', rfl, hr6, ho6⟩)
          · have hs' : lsr (untl 59) t = some (v', t3) := hs'
            rw [hs] at hs'
            cases hs'
          · have HBo6 : Hid (Bo w w6 g q [] true) := Lib.hid (HB4.out.step (t2 := []) HG.out HQ.out HGQ.out HO5.out HD5.out ho6 hr6 (fun _ => rfl))
            clear hr6 ho6 hs
            dsimp only
            go_wp2_with (fail)
            go_must (refine (SameNums_eq (A := none) (A' := none) (n := 0) (l := []) rfl (fun h => absurd h (by simp)) (fun h => absurd h (by simp)) (by decide)).mono ?_)
            rintro e w8 ⟨rfl, hb8⟩
            have HBn := Lib.hid (HBo6.out.keep hb8)
            clear hb8
            dsimp only
            go_wp2_with (fail)
            go_must (refine (left_any HBn.out.rd).mono ?_)
            rintro e w7 ⟨rfl, hw⟩
            have hw := hw.symm
            subst hw
            dsimp only
            go_wp2_with (fail)
            go_must (refine (rleft_any HBn.out.rr).mono ?_)
            rintro e w7 ⟨rfl, hw⟩
            have hw := hw.symm
            subst hw
            dsimp only
            go_wp2_with (fail)
            go_must (refine (done_any (l := []) HBn.out.rd).mono ?_)
            rintro e w7 ⟨rfl, hw⟩
            have hw := hw.symm
            subst hw
            dsimp only
            go_wp2_with (fail)
            go_must (refine (rdone_any (l := []) HBn.out.rr).mono ?_)
            rintro e w7 ⟨rfl, hw⟩
            have hw := hw.symm
            subst hw
            dsimp only
            go_wp2
            go_roundw
            case rel => exact ⟨k + 1, ([] : List UInt8), true, by omega, by go_num, ht2, HBn⟩
            case measure => simp [RowKit.intOf]; omega
      · go_wp2_with (fail)
        go_must (refine (texts_any HB4.out.rd (fun h => by rw [HB4.out.ft h]) HZ.out HEn.out HG.out).mono ?_)
        rintro e w5 (⟨v, t2, A2, c2, hs, rfl, hr5, hw5, ho5⟩ | ⟨hs, rfl, hr5, ho5⟩)
        · have hs : lsr txr t = some (v, t2) := hs
          have ht2 : t2.length ≤ 400 := Nat.le_trans (lsr_less (fun _ _ _ => text_again) hs) ht4
          have hvl : v.length ≤ 1000000000 := by have h1 := congrArg List.length (list_again (fun _ _ _ => text_again) hs); unfold encL at h1; simp only [List.length_append, List.length_cons, List.length_nil] at h1; have h2 := flat_ge (f := encT) encT_pos v; omega
          have HR5 : Hid (Rr w5 q t f) := Lib.hid (Only.row ho5 HB4.out.rr (fun h => HGQ.out h.symm))
          have HO5 := Lib.hid ho5
          have HD5 := Lib.hid hr5
          have HW5 := Lib.hid hw5
          clear hr5 ho5 hw5
          dsimp only
          go_wp2_with (fail)
          go_must (refine (rrtexts_any HR5.out HB4.out.ft HZ2.out).mono ?_)
          rintro e w6 (⟨v', t3, A3, c3, hs', rfl, hr6, hw6, ho6⟩ | ⟨hs', _⟩)
          · have hs' : lsr txr t = some (v', t3) := hs'
            rw [hs] at hs'
            injection hs' with hs'
            injection hs' with e1 e2
            subst e1 e2
            have hff : f = true → t2 = [] := fun h => by
              have := HB4.out.ft h
              rw [this] at hs
              cases hs
            have HBo6 : Hid (Bo w w6 g q t2 f) := Lib.hid (HB4.out.step HG.out HQ.out HGQ.out HO5.out HD5.out ho6 hr6 hff)
            have HW6 := Lib.hid (own_sts (Only.own HW5.out ho6 (Row.lt HB4.out.rr)))
            have HV6 := Lib.hid (own_sts hw6)
            clear hr6 ho6 hff hs hw6
            dsimp only
            go_wp2_with (fail)
            go_must (refine (SameTexts_eq (l := v) rfl HW6.out HV6.out hvl).mono ?_)
            rintro e w8 ⟨rfl, hb8⟩
            have HBn := Lib.hid (HBo6.out.keep hb8)
            clear hb8
            dsimp only
            go_wp2_with (fail)
            go_must (refine (left_any HBn.out.rd).mono ?_)
            rintro e w7 ⟨rfl, hw⟩
            have hw := hw.symm
            subst hw
            dsimp only
            have hzt : (⟨(t2).toArray⟩ : ByteArray).size = (t2).length := by simp [ByteArray.size]
            rw [hzt]
            go_wp2_with (fail)
            go_must (refine (rleft_any HBn.out.rr).mono ?_)
            rintro e w7 ⟨rfl, hw⟩
            have hw := hw.symm
            subst hw
            dsimp only
            have hnn : ((((t2).length : Nat) : Int) != (((t2).length : Nat) : Int)) = false := by simp
            go_wp2_with (fail)
            go_must (refine (done_any (l := t2) HBn.out.rd).mono ?_)
            rintro e w7 ⟨rfl, hw⟩
            have hw := hw.symm
            subst hw
            dsimp only
            go_wp2_with (fail)
            go_must (refine (rdone_any (l := t2) HBn.out.rr).mono ?_)
            rintro e w7 ⟨rfl, hw⟩
            have hw := hw.symm
            subst hw
            dsimp only
            obtain ⟨dn, hdn⟩ : ∃ b, (!f && (t2).isEmpty) = b := ⟨_, rfl⟩
            try rw [hdn]
            have hdd : (dn != dn) = false := by simp
            go_wp2
            go_roundw
            case rel => exact ⟨k + 1, t2, f, by omega, by go_num, ht2, HBn⟩
            case measure => simp [RowKit.intOf]; omega
          · have hs' : lsr txr t = none := hs'
            rw [hs] at hs'
            cases hs'
        · have hs : lsr txr t = none := hs
          have ht2 : ([] : List UInt8).length ≤ 400 := by simp
          have HR5 : Hid (Rr w5 q t f) := Lib.hid (Only.row ho5 HB4.out.rr (fun h => HGQ.out h.symm))
          have HO5 := Lib.hid ho5
          have HD5 := Lib.hid hr5
          clear hr5 ho5
          dsimp only
          go_wp2_with (fail)
          go_must (refine (rrtexts_any HR5.out HB4.out.ft HZ2.out).mono ?_)
          rintro e w6 (⟨v', t3, A3, c3, hs', _⟩ | ⟨hs', rfl, hr6, ho6⟩)
          · have hs' : lsr txr t = some (v', t3) := hs'
            rw [hs] at hs'
            cases hs'
          · have HBo6 : Hid (Bo w w6 g q [] true) := Lib.hid (HB4.out.step (t2 := []) HG.out HQ.out HGQ.out HO5.out HD5.out ho6 hr6 (fun _ => rfl))
            clear hr6 ho6 hs
            dsimp only
            go_wp2_with (fail)
            go_must (refine (SameTexts_eq (A := none) (A' := none) (n := 0) (l := []) rfl (fun h => absurd h (by simp)) (fun h => absurd h (by simp)) (by decide)).mono ?_)
            rintro e w8 ⟨rfl, hb8⟩
            have HBn := Lib.hid (HBo6.out.keep hb8)
            clear hb8
            dsimp only
            go_wp2_with (fail)
            go_must (refine (left_any HBn.out.rd).mono ?_)
            rintro e w7 ⟨rfl, hw⟩
            have hw := hw.symm
            subst hw
            dsimp only
            go_wp2_with (fail)
            go_must (refine (rleft_any HBn.out.rr).mono ?_)
            rintro e w7 ⟨rfl, hw⟩
            have hw := hw.symm
            subst hw
            dsimp only
            go_wp2_with (fail)
            go_must (refine (done_any (l := []) HBn.out.rd).mono ?_)
            rintro e w7 ⟨rfl, hw⟩
            have hw := hw.symm
            subst hw
            dsimp only
            go_wp2_with (fail)
            go_must (refine (rdone_any (l := []) HBn.out.rr).mono ?_)
            rintro e w7 ⟨rfl, hw⟩
            have hw := hw.symm
            subst hw
            dsimp only
            go_wp2
            go_roundw
            case rel => exact ⟨k + 1, ([] : List UInt8), true, by omega, by go_num, ht2, HBn⟩
            case measure => simp [RowKit.intOf]; omega
    · obtain rfl : k = m := by omega
      go_wp2_with (fail)
      go_must (refine (rest_any HBo.out.rd).mono ?_)
      rintro e w5 ⟨rfl, hr5, ho5⟩
      have HR5 : Hid (Rr w5 q t f) := Lib.hid (Only.row ho5 HBo.out.rr (fun h => HGQ.out h.symm))
      have HO5 := Lib.hid ho5
      have HD5 := Lib.hid hr5
      clear hr5 ho5
      dsimp only
      go_wp2_with (fail)
      go_must (refine (rtail_any HR5.out).mono ?_)
      rintro e w6 ⟨rfl, hr6, ho6⟩
      have HB6 : Hid (Bo w w6 g q [] f) := Lib.hid (HBo.out.step (t2 := []) (f2 := f) HG.out HQ.out HGQ.out HO5.out HD5.out ho6 hr6 (fun _ => rfl))
      clear hr6 ho6
      dsimp only
      go_wp2_with (fail)
      go_must (refine (left_any HB6.out.rd).mono ?_)
      rintro e w7 ⟨rfl, hw⟩
      have hw := hw.symm
      subst hw
      dsimp only
      go_wp2_with (fail)
      go_must (refine (rleft_any HB6.out.rr).mono ?_)
      rintro e w7 ⟨rfl, hw⟩
      have hw := hw.symm
      subst hw
      dsimp only
      go_wp2_with (fail)
      go_must (refine (done_any (l := []) HB6.out.rd).mono ?_)
      rintro e w7 ⟨rfl, hw⟩
      have hw := hw.symm
      subst hw
      dsimp only
      go_wp2_with (fail)
      go_must (refine (rdone_any (l := []) HB6.out.rr).mono ?_)
      rintro e w7 ⟨rfl, hw⟩
      have hw := hw.symm
      subst hw
      dsimp only
      go_wp2
      go_ret
      exact ⟨rfl, HB6.out.b⟩
theorem reads_any (w : World) (hE : En w w) (hm : cs.length = m) (hc : Ints w A cs) (hcs : ∀ z ∈ cs, I64 z) :
    Calls Tryd.prog 4 #[.string ⟨l.toArray⟩, .slice A m cap] w fun e w' => e = .returned (.bool true) ∧ Below w.heap.size w w' := by
  by_cases h : l.length ≤ 400 ∧ m ≤ 20
  · exact reads_yes w hE hm hc hcs h.1 h.2
  · exact reads_no w hE hm h
end
theorem reads_law (w : World) (s : ByteArray) {A : Option Addr} {m cap : Nat} {cs : List Int} (hE : En w w) (hm : cs.length = m) (hc : Ints w A cs) (hcs : ∀ z ∈ cs, I64 z) :
    Calls Tryd.prog 4 #[.string s, .slice A m cap] w fun e w' => e = .returned (.bool true) ∧ Below w.heap.size w w' := by
  rw [str_list s]
  exact reads_any w hE hm hc hcs
section
open Go.Proofs.YtapcfnlononniaaDoor.Opened
set_option maxRecDepth 100000 in
theorem open_il {H : Type} {enc : TypeId × Value → H} {W : World} {b0 : Nat} {r : Reach} {v : Value} {d : DataW H} {p : List MemPlace} (hv : Value.okWide Tryd.prog W r b0 22 v) (h : DataW.Trod enc Tryd.prog W 0 (fun _ => true) true 22 v d p) :
    ∃ (A : Option Addr) (cap : Nat) (zs : List Int), v = .slice A zs.length cap ∧ Ints W A zs ∧ ∀ z ∈ zs, I64 z := by
  obtain ⟨a0, len, cap, rfl⟩ := okWide_slice Tryd.underlying22 hv
  obtain ⟨fuel, hf⟩ := h
  exact ints_of (show DataW.trod enc Tryd.prog W 0 (fun _ => true) true fuel 22 [.slice a0 len cap] = some _ from hf)
end
end Go.Proofs.YtapcfnlononniaaDoor.Wr
