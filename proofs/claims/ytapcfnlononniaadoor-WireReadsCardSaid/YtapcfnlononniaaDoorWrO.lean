/- Wire: the reference's reader. -/
import Derived.Test.YtapcfnlononniaaDoorWrN
import Derived.Test.YtapcfnlononniaaDoorWrH
namespace Go.Proofs.YtapcfnlononniaaDoor.Wr
open Go.Lib Go.ChangeShapes Go.WideShapes Go.ChangeAt Go.RowKit Go.Proofs.YtapcfnlononniaaDoor.Cell
set_option linter.unusedVariables false
set_option linter.unusedSimpArgs false
/-- a reader of the reference in memory -/
def Rr (W : World) (g : Nat) (l : List UInt8) (f : Bool) : Prop := Row W g 56 #[.string ⟨l.toArray⟩, .bool f]
theorem Rr.keep {W W' : World} {g : Nat} {l : List UInt8} {f : Bool} (h : Rr W g l f) (hb : Below W.heap.size W W') : Rr W' g l f := Row.keep h hb
/-- what reading does to a reader of the reference -/
def RrP {α : Type} (W : World) (g : Nat) (f : Bool) (o : Option (α × List UInt8)) (val : α → Value) (z : Value) (e : Ending) (w' : World) : Prop :=
  (∃ v t, o = some (v, t) ∧ e = .returned (val v) ∧ Rr w' g t f ∧ Only W w' (fun x => x = g)) ∨
  (o = none ∧ e = .returned z ∧ Rr w' g [] true ∧ Only W w' (fun x => x = g))
section
variable {e : UInt8} {l t : List UInt8} {n : Nat} {v : Int}
theorem un_at (h : untl e l = some (v, t)) : l[(itoa v).length]? = some e ∧ (itoa v).length ≤ 20 := by
  obtain ⟨h1, hv⟩ := untl_some h
  exact ⟨by rw [h1]; simp, itoa_len hv⟩
theorem un_1 (hn : ∀ j, j < n → l[j]? ≠ some e) (hl : l.length ≤ n) : untl e l = none := by
  cases hu : untl e l with
  | none => rfl
  | some y =>
    obtain ⟨v, t⟩ := y
    have h := (un_at hu).1
    have h2 := (List.getElem?_eq_some_iff.1 h).1
    exact absurd h (hn _ (by omega))
theorem un_2 (hn : ∀ j, j < n → l[j]? ≠ some e) (hl : 21 ≤ n) : untl e l = none := by
  cases hu : untl e l with
  | none => rfl
  | some y =>
    obtain ⟨v, t⟩ := y
    have h := un_at hu
    exact absurd h.1 (hn _ (by omega))
theorem un_3 (he : ¬ Nb e) (hn : ∀ j, j < n → l[j]? ≠ some e) (h : l[n]? = some e) (hb : ∀ v, I64 v → itoa v ≠ l.take n) : untl e l = none := by
  cases hu : untl e l with
  | none => rfl
  | some y =>
    obtain ⟨v, t⟩ := y
    obtain ⟨h1, hv⟩ := untl_some hu
    have h2 := (un_at hu).1
    have h3 : n ≤ (itoa v).length := by
      by_cases hh : (itoa v).length < n
      · exact absurd h2 (hn _ hh)
      · omega
    have h4 : n = (itoa v).length := by
      by_cases hh : n < (itoa v).length
      · have h5 : (itoa v)[n]? = some e := by
          rw [h1, List.getElem?_append_left hh] at h
          exact h
        exact absurd (itoa_bytes v e (List.mem_of_getElem? h5)) he
      · omega
    exact absurd (by rw [h4]; conv => rhs; rw [h1]
                     rw [List.take_left]) (hb v hv)
theorem un_4 (he : ¬ Nb e) (h : l[n]? = some e) (hv : I64 v) (hb : itoa v = l.take n) : untl e l = some (v, l.drop (n + 1)) := by
  have h1 : l = itoa v ++ e :: l.drop (n + 1) := by
    have hl := (List.getElem?_eq_some_iff.1 h).1
    have hx := (List.getElem?_eq_some_iff.1 h).2
    rw [hb]
    conv => lhs; rw [← List.take_append_drop n l, List.drop_eq_getElem_cons hl, hx]
  conv => lhs; rw [h1]
  exact untl_enc hv he _
end
section
variable {W : World} {g : Nat} {l : List UInt8} {f : Bool}
set_option maxRecDepth 100000 in
set_option maxHeartbeats 2000000 in
theorem rfail_any (h : Rr W g l f) :
    Calls Tryd.prog 53 #[.pointer (some ⟨g, 0, none⟩)] W fun e w' => e = .returned (.int .i64 0) ∧ Rr w' g [] true ∧ Only W w' (fun x => x = g) := by
  have d0 := Row.cell h 0
  have d1 := Row.cell h 1
  have f0 := Row.frozen h 0
  have f1 := Row.frozen h 1
  have HX := Lib.hid (show Rr ((W.setCell ⟨g, 0, none⟩ (.string ⟨#[]⟩)).setCell ⟨g, 1, none⟩ (.bool true)) g [] true ∧ Only W ((W.setCell ⟨g, 0, none⟩ (.string ⟨#[]⟩)).setCell ⟨g, 1, none⟩ (.bool true)) (fun x => x = g) from
    ⟨(Row.set h 0 _).set 1 _, Only.set (R := fun b => b = g) (p := ⟨g, 1, none⟩) (Only.set (R := fun b => b = g) (p := ⟨g, 0, none⟩) (Only.refl W _) (.inl rfl) _) (.inl rfl) _⟩)
  clear h
  go_enter Tryd.func53, Tryd.ntmps53
  go_wp2
  go_ret
  exact ⟨rfl, HX.out⟩
set_option maxRecDepth 100000 in
set_option maxHeartbeats 8000000 in
theorem ahead_any {e : UInt8} (he : ¬ Nb e) (h : Rr W g l f) (hl : l.length ≤ 1000000000) :
    Calls Tryd.prog 51 #[.pointer (some ⟨g, 0, none⟩), .int .u8 (e.toNat : Int)] W (RrP W g f (untl e l) (fun n => .int .i64 n) (.int .i64 0)) := by
  have hz : (⟨l.toArray⟩ : ByteArray).size = l.length := by simp [ByteArray.size]
  have d0 := Row.cell h 0
  have f0 := Row.frozen h 0
  have HR := Lib.hid h
  have HNb := Lib.hid he
  have hFail : untl e l = none → Calls Tryd.prog 53 #[.pointer (some ⟨g, 0, none⟩)] W fun e' w' => e' = .returned (.int .i64 0) ∧ RrP W g f (untl e l) (fun n => .int .i64 n) (.int .i64 0) (.returned (.int .i64 0)) w' := fun hn =>
    (rfail_any h).mono fun e' w' ⟨hv, hr, ho⟩ => ⟨hv, .inr ⟨hn, rfl, hr, ho⟩⟩
  have HF := Lib.hid hFail
  obtain ⟨E, hE⟩ : ∃ E, e.toNat = E := ⟨_, rfl⟩
  have HE := Lib.hid hE
  rw [hE]
  clear h he hFail hE
  go_enter Tryd.func51, Tryd.ntmps51
  go_wp2
  go_loopw [5] (fun nv wr => ∃ k : Nat, k ≤ 21 ∧ k ≤ l.length ∧ nv = .int .i64 k ∧ Hid (∀ j, j < k → l[j]? ≠ some e) ∧ wr = W) (fun nv _ => 21 - (RowKit.intOf nv).toNat)
  case atStart => exact ⟨0, by omega, Nat.zero_le _, rfl, Lib.hid (fun j hj => absurd hj (by omega)), rfl⟩
  case round =>
    obtain ⟨k, hk, hkl, rfl, HJ, hw⟩ := hrel
    have hw := hw.symm
    subst hw
    have k0 : (0 : Int) ≤ (k : Int) := by omega
    by_cases hlt : k < l.length
    · have hltI : (k : Int) < (l.length : Int) := by omega
      have hltI2 : ¬ (l.length : Int) ≤ (k : Int) := by omega
      obtain ⟨x, hx⟩ := at_ l k hlt
      have hgc : (⟨l.toArray⟩ : ByteArray)[k]'(by rw [hz]; exact hlt) = x := by
        have h1 := at_str (s := ⟨l.toArray⟩) (l := l) (k := k) rfl (by rw [hz]; exact hlt)
        rw [hx] at h1
        injection h1 with h1
        exact h1.symm
      have HX := Lib.hid hx
      clear hx
      obtain ⟨X, hX⟩ : ∃ X, x.toNat = X := ⟨_, rfl⟩
      have HXX := Lib.hid hX
      have kle : (k : Int) ≤ (l.length : Int) := by omega
      have k1 : (k : Int) + 1 ≤ (l.length : Int) := by omega
      have k2 : (0 : Int) ≤ (k : Int) + 1 := by omega
      have k3 : ((k : Int) + 1).toNat = k + 1 := by omega
      have hwk : IntKind.i64.wrap ((k : Int) + 1) = (k : Int) + 1 := IntWalk.i64_in _ (by omega)
      by_cases h21 : k < 21
      · have h21I : (k : Int) < 21 := by omega
        by_cases hxe : X = E
        · have hxeI : (X : Int) = (E : Int) := by omega
          have HA : Hid (l[k]? = some e) := Lib.hid (by rw [HX.out]; exact congrArg some (UInt8.toNat_inj.1 (by rw [HXX.out, HE.out]; exact hxe)))
          have HTK : Hid ((⟨l.toArray⟩ : ByteArray).extract 0 k = ⟨(l.take k).toArray⟩) := Lib.hid (str_eq (by rw [Lib.extract_data, List.drop_zero, Nat.sub_zero]))
          have HDK : Hid ((⟨l.toArray⟩ : ByteArray).extract (k + 1) (⟨l.toArray⟩ : ByteArray).size = ⟨(l.drop (k + 1)).toArray⟩) := Lib.hid (str_eq (by rw [ext_end]))
          have HBK := Lib.hid (rback_any (W := W) (l := l.take k) (by rw [List.length_take]; omega))
          go_wp2_with (fail)
          rw [HTK.out]
          go_must (refine HBK.out.mono ?_)
          rintro e' w2 ⟨⟨v, hv, hi, rfl⟩ | ⟨hno, v, rfl⟩, hb2⟩
          · have HU := Lib.hid (un_4 HNb.out HA.out hv hi)
            have HR2 := Lib.hid (HR.out.keep hb2)
            have d02 := Row.cell HR2.out 0
            have f02 := Row.frozen HR2.out 0
            have HY : Hid (RrP W g f (untl e l) (fun n => .int .i64 n) (.int .i64 0) (.returned (.int .i64 v)) (w2.setCell ⟨g, 0, none⟩ (.string ((⟨l.toArray⟩ : ByteArray).extract (k + 1) (⟨l.toArray⟩ : ByteArray).size)))) := Lib.hid (.inl ⟨v, _, HU.out, rfl, by rw [HDK.out]; exact Row.set HR2.out 0 _, Only.set (R := fun b => b = g) (p := ⟨g, 0, none⟩) (Only.of_below hb2 _) (.inl rfl) _⟩)
            clear hb2 hi
            dsimp only
            go_wp2
            go_ret
            exact HY.out
          · have HN := Lib.hid (un_3 HNb.out HJ.out HA.out hno)
            have HR2 := Lib.hid (HR.out.keep hb2)
            have HO2 := Lib.hid (Only.of_below hb2 (fun x => x = g))
            clear hb2 hno
            dsimp only
            go_wp2_with (fail)
            go_must (refine (rfail_any HR2.out).mono ?_)
            rintro e' w3 ⟨rfl, hr3, ho3⟩
            have HY : Hid (RrP W g f (untl e l) (fun n => .int .i64 n) (.int .i64 0) (.returned (.int .i64 0)) w3) := Lib.hid (.inr ⟨HN.out, rfl, hr3, HO2.out.then ho3⟩)
            clear hr3 ho3
            dsimp only
            go_wp2
            go_ret
            exact HY.out
        · have hxeI : ¬ (X : Int) = (E : Int) := by omega
          have HJ2 : Hid (∀ j, j < k + 1 → l[j]? ≠ some e) := Lib.hid fun j hj => by
            by_cases hjk : j < k
            · exact HJ.out j hjk
            · obtain rfl : j = k := by omega
              rw [HX.out]
              intro h
              injection h with h
              exact hxe (by rw [← HXX.out, ← HE.out, h])
          go_wp2
          go_roundw
          case rel => exact ⟨k + 1, by omega, by omega, by go_num, HJ2, by first | rfl | trivial⟩
          case measure => simp [RowKit.intOf]; omega
      · have h21I : ¬ (k : Int) < 21 := by omega
        by_cases hxe : X = E
        · have hxeI : (X : Int) = (E : Int) := by omega
          have HA : Hid (l[k]? = some e) := Lib.hid (by rw [HX.out]; exact congrArg some (UInt8.toNat_inj.1 (by rw [HXX.out, HE.out]; exact hxe)))
          have HTK : Hid ((⟨l.toArray⟩ : ByteArray).extract 0 k = ⟨(l.take k).toArray⟩) := Lib.hid (str_eq (by rw [Lib.extract_data, List.drop_zero, Nat.sub_zero]))
          have HDK : Hid ((⟨l.toArray⟩ : ByteArray).extract (k + 1) (⟨l.toArray⟩ : ByteArray).size = ⟨(l.drop (k + 1)).toArray⟩) := Lib.hid (str_eq (by rw [ext_end]))
          have HBK := Lib.hid (rback_any (W := W) (l := l.take k) (by rw [List.length_take]; omega))
          go_wp2_with (fail)
          rw [HTK.out]
          go_must (refine HBK.out.mono ?_)
          rintro e' w2 ⟨⟨v, hv, hi, rfl⟩ | ⟨hno, v, rfl⟩, hb2⟩
          · have HU := Lib.hid (un_4 HNb.out HA.out hv hi)
            have HR2 := Lib.hid (HR.out.keep hb2)
            have d02 := Row.cell HR2.out 0
            have f02 := Row.frozen HR2.out 0
            have HY : Hid (RrP W g f (untl e l) (fun n => .int .i64 n) (.int .i64 0) (.returned (.int .i64 v)) (w2.setCell ⟨g, 0, none⟩ (.string ((⟨l.toArray⟩ : ByteArray).extract (k + 1) (⟨l.toArray⟩ : ByteArray).size)))) := Lib.hid (.inl ⟨v, _, HU.out, rfl, by rw [HDK.out]; exact Row.set HR2.out 0 _, Only.set (R := fun b => b = g) (p := ⟨g, 0, none⟩) (Only.of_below hb2 _) (.inl rfl) _⟩)
            clear hb2 hi
            dsimp only
            go_wp2
            go_ret
            exact HY.out
          · have HN := Lib.hid (un_3 HNb.out HJ.out HA.out hno)
            have HR2 := Lib.hid (HR.out.keep hb2)
            have HO2 := Lib.hid (Only.of_below hb2 (fun x => x = g))
            clear hb2 hno
            dsimp only
            go_wp2_with (fail)
            go_must (refine (rfail_any HR2.out).mono ?_)
            rintro e' w3 ⟨rfl, hr3, ho3⟩
            have HY : Hid (RrP W g f (untl e l) (fun n => .int .i64 n) (.int .i64 0) (.returned (.int .i64 0)) w3) := Lib.hid (.inr ⟨HN.out, rfl, hr3, HO2.out.then ho3⟩)
            clear hr3 ho3
            dsimp only
            go_wp2
            go_ret
            exact HY.out
        · have hxeI : ¬ (X : Int) = (E : Int) := by omega
          have HN := Lib.hid (un_2 HJ.out (by omega))
          go_wp2_with (fail)
          go_must (refine (HF.out HN.out).mono ?_)
          rintro e w2 ⟨rfl, hY⟩
          have HY := Lib.hid hY
          clear hY
          dsimp only
          go_wp2
          go_ret
          exact HY.out
    · have hltI : ¬ (k : Int) < (l.length : Int) := by omega
      have hltI2 : (l.length : Int) ≤ (k : Int) := by omega
      have HN := Lib.hid (un_1 HJ.out (by omega))
      go_wp2_with (fail)
      go_must (refine (HF.out HN.out).mono ?_)
      rintro e w2 ⟨rfl, hY⟩
      have HY := Lib.hid hY
      clear hY
      dsimp only
      go_wp2
      go_ret
      exact HY.out
set_option maxRecDepth 100000 in
set_option maxHeartbeats 4000000 in
theorem number_r {e : UInt8} (he : ¬ Nb e) (h : Rr W g l f) (hl : l.length ≤ 1000000000) :
    Calls Tryd.prog 49 #[.pointer (some ⟨g, 0, none⟩), .int .u8 (e.toNat : Int)] W (RrP W g f (siz e l) (fun n => .int .i64 (n : Int)) (.int .i64 0)) := by
  have HU := Lib.hid (ahead_any he h hl)
  clear h hl he
  obtain ⟨E, hE⟩ : ∃ E, e.toNat = E := ⟨_, rfl⟩
  rw [hE] at HU ⊢
  clear hE
  go_enter Tryd.func49, Tryd.ntmps49
  go_wp2_with (fail)
  go_must (refine HU.out.mono ?_)
  rintro e' w1 (⟨v, t, hu, rfl, hr, ho⟩ | ⟨hu, rfl, hr, ho⟩)
  · by_cases h0 : v < 0
    · have HX := Lib.hid (show siz e l = none by unfold siz; rw [hu]; exact if_pos h0)
      have HR := Lib.hid hr
      have HO := Lib.hid ho
      clear hr ho hu
      dsimp only
      go_wp2_with (fail)
      go_must (refine (rfail_any HR.out).mono ?_)
      rintro e' w2 ⟨rfl, hr2, ho2⟩
      have HY := Lib.hid (show RrP W g f (siz e l) (fun n => .int .i64 (n : Int)) (.int .i64 0) (.returned (.int .i64 0)) w2 from .inr ⟨HX.out, rfl, hr2, HO.out.then ho2⟩)
      clear hr2 ho2
      dsimp only
      go_wp2
      go_ret
      exact HY.out
    · obtain ⟨n, rfl⟩ : ∃ n : Nat, v = n := ⟨v.toNat, by omega⟩
      have HY := Lib.hid (show RrP W g f (siz e l) (fun n => .int .i64 (n : Int)) (.int .i64 0) (.returned (.int .i64 (n : Int))) w1 from .inl ⟨n, t, by unfold siz; rw [hu]; exact (if_neg h0).trans rfl, rfl, hr, ho⟩)
      clear hr ho hu
      dsimp only
      go_wp2
      go_ret
      exact HY.out
  · have HY := Lib.hid (show RrP W g f (siz e l) (fun n => .int .i64 (n : Int)) (.int .i64 0) (.returned (.int .i64 0)) w1 from .inr ⟨by unfold siz; rw [hu], rfl, hr, ho⟩)
    clear hr ho hu
    dsimp only
    go_wp2
    go_ret
    exact HY.out
set_option maxRecDepth 100000 in
set_option maxHeartbeats 4000000 in
theorem rrnum_any (h : Rr W g l f) (hl : l.length ≤ 1000000000) :
    Calls Tryd.prog 25 #[.pointer (some ⟨g, 0, none⟩)] W (RrP W g f (siz 59 l) (fun n => .int .i64 (n : Int)) (.int .i64 0)) := by
  have HU := Lib.hid (number_r (e := 59) nb59 h hl)
  clear h hl
  go_enter Tryd.func25, Tryd.ntmps25
  go_wp2_with (fail)
  go_must (refine HU.out.mono ?_)
  rintro e' w1 (⟨v, t, hu, rfl, hr, ho⟩ | ⟨hu, rfl, hr, ho⟩)
  · have HY := Lib.hid (show RrP W g f (siz 59 l) (fun n => .int .i64 (n : Int)) (.int .i64 0) (.returned (.int .i64 (v : Int))) w1 from .inl ⟨v, t, hu, rfl, hr, ho⟩)
    clear hr ho hu
    dsimp only
    go_wp2
    go_ret
    exact HY.out
  · have HY := Lib.hid (show RrP W g f (siz 59 l) (fun n => .int .i64 (n : Int)) (.int .i64 0) (.returned (.int .i64 0)) w1 from .inr ⟨hu, rfl, hr, ho⟩)
    clear hr ho hu
    dsimp only
    go_wp2
    go_ret
    exact HY.out
set_option maxRecDepth 100000 in
set_option maxHeartbeats 4000000 in
theorem rrint_any (h : Rr W g l f) (hl : l.length ≤ 1000000000) :
    Calls Tryd.prog 27 #[.pointer (some ⟨g, 0, none⟩)] W (RrP W g f (untl 59 l) (fun n => .int .i64 n) (.int .i64 0)) := by
  have HU := Lib.hid (ahead_any (e := 59) nb59 h hl)
  clear h hl
  go_enter Tryd.func27, Tryd.ntmps27
  go_wp2_with (fail)
  go_must (refine HU.out.mono ?_)
  rintro e' w1 (⟨v, t, hu, rfl, hr, ho⟩ | ⟨hu, rfl, hr, ho⟩)
  · have HY := Lib.hid (show RrP W g f (untl 59 l) (fun n => .int .i64 n) (.int .i64 0) (.returned (.int .i64 v)) w1 from .inl ⟨v, t, hu, rfl, hr, ho⟩)
    clear hr ho hu
    dsimp only
    go_wp2
    go_ret
    exact HY.out
  · have HY := Lib.hid (show RrP W g f (untl 59 l) (fun n => .int .i64 n) (.int .i64 0) (.returned (.int .i64 0)) w1 from .inr ⟨hu, rfl, hr, ho⟩)
    clear hr ho hu
    dsimp only
    go_wp2
    go_ret
    exact HY.out
set_option maxRecDepth 100000 in
set_option maxHeartbeats 4000000 in
theorem close_any {e : UInt8} (h : Rr W g l f) (hl : l.length ≤ 1000000000) :
    Calls Tryd.prog 54 #[.pointer (some ⟨g, 0, none⟩), .int .u8 (e.toNat : Int)] W fun e' w' =>
      (∃ t, l = e :: t ∧ e' = .returned (.bool true) ∧ Rr w' g t f ∧ Only W w' (fun x => x = g)) ∨ ((∀ t, l ≠ e :: t) ∧ e' = .returned (.bool false) ∧ Rr w' g [] true ∧ Only W w' (fun x => x = g)) := by
  have d0 := Row.cell h 0
  have f0 := Row.frozen h 0
  have HR := Lib.hid h
  obtain ⟨E, hE⟩ : ∃ E, e.toNat = E := ⟨_, rfl⟩
  have HE := Lib.hid hE
  rw [hE]
  clear h hE
  cases l with
  | nil =>
    have HN : Hid (∀ t, ([] : List UInt8) ≠ e :: t) := Lib.hid fun t h => by cases h
    go_enter Tryd.func54, Tryd.ntmps54
    go_wp2_with (fail)
    go_must (refine (rfail_any HR.out).mono ?_)
    rintro e' w2 ⟨rfl, hr2, ho2⟩
    have HY := Lib.hid (And.intro hr2 ho2)
    clear hr2 ho2
    dsimp only
    go_wp2
    go_ret
    exact .inr ⟨HN.out, rfl, HY.out⟩
  | cons x t =>
    have hz : (⟨(x :: t).toArray⟩ : ByteArray).size = t.length + 1 := by simp [ByteArray.size]
    have hgc : (⟨(x :: t).toArray⟩ : ByteArray)[0]'(by rw [hz]; omega) = x := rfl
    obtain ⟨X, hX⟩ : ∃ X, x.toNat = X := ⟨_, rfl⟩
    have HX := Lib.hid hX
    have h0 : ¬ ((t.length : Int) + 1 = 0) := by omega
    have h1 : (1 : Int) ≤ (t.length : Int) + 1 := by omega
    have hDK : (⟨(x :: t).toArray⟩ : ByteArray).extract 1 (t.length + 1) = ⟨t.toArray⟩ := str_eq (by rw [← hz, ext_end]; rfl)
    by_cases hxe : X = E
    · have hxeI : (X : Int) = (E : Int) := by omega
      have HXE : Hid (x = e) := Lib.hid (UInt8.toNat_inj.1 (by rw [HX.out, HE.out]; exact hxe))
      have HY : Hid (Rr (W.setCell ⟨g, 0, none⟩ (.string ⟨t.toArray⟩)) g t f ∧ Only W (W.setCell ⟨g, 0, none⟩ (.string ⟨t.toArray⟩)) (fun x => x = g)) := Lib.hid ⟨Row.set HR.out 0 _, Only.set (R := fun b => b = g) (p := ⟨g, 0, none⟩) (Only.refl W _) (.inl rfl) _⟩
      go_enter Tryd.func54, Tryd.ntmps54
      go_wp2
      go_ret
      exact .inl ⟨t, by rw [HXE.out], rfl, HY.out⟩
    · have hxeI : ¬ (X : Int) = (E : Int) := by omega
      have HN : Hid (∀ t', x :: t ≠ e :: t') := Lib.hid fun t' h => by
        injection h with h _
        exact hxe (by rw [← HX.out, ← HE.out, h])
      go_enter Tryd.func54, Tryd.ntmps54
      go_wp2_with (fail)
      go_must (refine (rfail_any HR.out).mono ?_)
      rintro e' w2 ⟨rfl, hr2, ho2⟩
      have HY := Lib.hid (And.intro hr2 ho2)
      clear hr2 ho2
      dsimp only
      go_wp2
      go_ret
      exact .inr ⟨HN.out, rfl, HY.out⟩
set_option maxRecDepth 100000 in
set_option maxHeartbeats 4000000 in
theorem rtail_any (h : Rr W g l f) :
    Calls Tryd.prog 41 #[.pointer (some ⟨g, 0, none⟩)] W fun e w' => e = .returned (.string ⟨l.toArray⟩) ∧ Rr w' g [] f ∧ Only W w' (fun x => x = g) := by
  have d0 := Row.cell h 0
  have f0 := Row.frozen h 0
  have HX := Lib.hid (show Rr (W.setCell ⟨g, 0, none⟩ (.string ⟨#[]⟩)) g [] f ∧ Only W (W.setCell ⟨g, 0, none⟩ (.string ⟨#[]⟩)) (fun x => x = g) from ⟨Row.set h 0 _, Only.set (R := fun b => b = g) (p := ⟨g, 0, none⟩) (Only.refl W _) (.inl rfl) _⟩)
  clear h
  go_enter Tryd.func41, Tryd.ntmps41
  go_wp2
  go_ret
  exact ⟨rfl, HX.out⟩
set_option maxRecDepth 100000 in
set_option maxHeartbeats 4000000 in
theorem rleft_any (h : Rr W g l f) :
    Calls Tryd.prog 37 #[.pointer (some ⟨g, 0, none⟩)] W fun e w' => e = .returned (.int .i64 (l.length : Int)) ∧ w' = W := by
  have d0 := Row.cell h 0
  clear h
  go_enter Tryd.func37, Tryd.ntmps37
  go_wp2
  go_ret
  exact ⟨rfl, rfl⟩
set_option maxRecDepth 100000 in
set_option maxHeartbeats 4000000 in
theorem rdone_any (h : Rr W g l f) :
    Calls Tryd.prog 39 #[.pointer (some ⟨g, 0, none⟩)] W fun e w' => e = .returned (.bool (!f && l.isEmpty)) ∧ w' = W := by
  have d0 := Row.cell h 0
  have d1 := Row.cell h 1
  clear h
  go_enter Tryd.func39, Tryd.ntmps39
  cases f <;> cases l
  all_goals
    go_wp2
    go_ret
    exact ⟨rfl, rfl⟩
set_option maxRecDepth 100000 in
set_option maxHeartbeats 4000000 in
theorem ropen_any :
    Calls Tryd.prog 22 #[.string ⟨l.toArray⟩] W fun e w' => ∃ g, e = .returned (.pointer (some ⟨g, 0, none⟩)) ∧ W.heap.size ≤ g ∧ Rr w' g l false ∧ Below W.heap.size W w' := by
  go_enter Tryd.func22, Tryd.ntmps22
  go_wp2
  go_ret
  exact ⟨W.heap.size, rfl, Nat.le_refl _, Row.new _ _ _, Gen.b_alloc (Below.refl _ _)⟩
end
end Go.Proofs.YtapcfnlononniaaDoor.Wr
