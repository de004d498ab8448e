/- Wire: the reader: size, Num, Int, Text. -/
import Derived.Test.YtapcfnlononniaaDoorWrB
namespace Go.Proofs.YtapcfnlononniaaDoor.Wr
open Go.Lib Go.ChangeShapes Go.WideShapes Go.ChangeAt Go.RowKit Go.Proofs.YtapcfnlononniaaDoor.Cell
set_option linter.unusedVariables false
set_option linter.unusedSimpArgs false
/-- what reading does to a reader -/
def RdP {α : Type} (W : World) (g : Nat) (f : Bool) (o : Option (α × List UInt8)) (val : α → Value) (z : Value) (e : Ending) (w' : World) : Prop :=
  (∃ v t, o = some (v, t) ∧ e = .returned (val v) ∧ Rd w' g ⟨t.toArray⟩ f ∧ Only W w' (fun x => x = g)) ∨
  (o = none ∧ e = .returned z ∧ Rd w' g ⟨#[]⟩ true ∧ Only W w' (fun x => x = g))
/-- a number that is not negative, and the byte behind it -/
def siz (b : UInt8) (l : List UInt8) : Option (Nat × List UInt8) := match untl b l with
  | some (v, t) => if v < 0 then none else some (v.toNat, t)
  | none => none
theorem siz_enc {e : UInt8} {n : Nat} (hn : n ≤ 9223372036854775807) (he : ¬ Nb e) (t : List UInt8) : siz e (itoa (n : Int) ++ e :: t) = some (n, t) := by
  unfold siz
  rw [untl_enc ⟨by omega, by omega⟩ he]
  dsimp only
  rw [if_neg (by omega)]
  rfl
theorem siz_some {e : UInt8} {l t : List UInt8} {n : Nat} (h : siz e l = some (n, t)) : l = itoa (n : Int) ++ e :: t ∧ n ≤ 9223372036854775807 := by
  unfold siz at h
  cases hu : untl e l with
  | none => rw [hu] at h; cases h
  | some y =>
    obtain ⟨v, t'⟩ := y
    rw [hu] at h
    dsimp only at h
    split at h
    · cases h
    · injection h with h
      injection h with e1 e2
      obtain ⟨h1, h2⟩ := untl_some hu
      have e3 : (n : Int) = v := by omega
      rw [e3, ← e2]
      exact ⟨h1, by have := h2.2; omega⟩
section
variable {W : World} {g : Nat} {s : ByteArray} {f : Bool}
set_option maxRecDepth 100000 in
set_option maxHeartbeats 4000000 in
theorem size_any {c : Int} (h : Rd W g s f) (hs : s.size ≤ 1000000000) (hT : PowTab W) (h2 : Sent W 2) (h3 : Sent W 3) :
    Calls Tryd.prog 48 #[.pointer (some ⟨g, 0, none⟩), .int .u8 c] W (RdP W g f (siz c.toNat.toUInt8 s.data.toList) (fun n => .tuple #[.int .i64 (n : Int), .bool true]) (.tuple #[.int .i64 0, .bool false])) := by
  have HU := Lib.hid (until_any (c := c) h hs hT h2 h3)
  clear h hs hT h2 h3
  go_enter Tryd.func48, Tryd.ntmps48
  go_wp2_with (fail)
  go_must (refine HU.out.mono ?_)
  rintro e w1 (⟨v, t, hu, rfl, hr, ho⟩ | ⟨hu, rfl, hr, ho⟩)
  · by_cases h0 : v < 0
    · have HX := Lib.hid (show siz c.toNat.toUInt8 s.data.toList = none by unfold siz; rw [hu]; exact if_pos h0)
      have HR := Lib.hid hr
      have HO := Lib.hid ho
      clear hr ho hu
      dsimp only
      go_wp2_with (fail)
      go_must (refine (fail_any HR.out).mono ?_)
      rintro e w2 ⟨⟨v', rfl⟩, hr2, ho2⟩
      have HY := Lib.hid (show RdP W g f (siz c.toNat.toUInt8 s.data.toList) (fun n => .tuple #[.int .i64 (n : Int), .bool true]) (.tuple #[.int .i64 0, .bool false]) (.returned (.tuple #[.int .i64 0, .bool false])) w2 from .inr ⟨HX.out, rfl, hr2, HO.out.then ho2⟩)
      clear hr2 ho2
      go_wp2
      exact bodyPost_ret (v := .tuple #[.int .i64 0, .bool false]) (by simp [results, Tryd.results48, go_sem]) rfl HY.out
    · obtain ⟨n, rfl⟩ : ∃ n : Nat, v = n := ⟨v.toNat, by omega⟩
      have HY := Lib.hid (show RdP W g f (siz c.toNat.toUInt8 s.data.toList) (fun n => .tuple #[.int .i64 (n : Int), .bool true]) (.tuple #[.int .i64 0, .bool false]) (.returned (.tuple #[.int .i64 (n : Int), .bool true])) w1 from .inl ⟨n, t, by unfold siz; rw [hu]; exact (if_neg h0).trans rfl, rfl, hr, ho⟩)
      clear hr ho hu
      dsimp only
      go_wp2
      exact bodyPost_ret (v := .tuple #[.int .i64 (n : Int), .bool true]) (by simp [results, Tryd.results48, go_sem]) rfl HY.out
  · have HY := Lib.hid (show RdP W g f (siz c.toNat.toUInt8 s.data.toList) (fun n => .tuple #[.int .i64 (n : Int), .bool true]) (.tuple #[.int .i64 0, .bool false]) (.returned (.tuple #[.int .i64 0, .bool false])) w1 from .inr ⟨by unfold siz; rw [hu], rfl, hr, ho⟩)
    clear hr ho hu
    dsimp only
    go_wp2
    exact bodyPost_ret (v := .tuple #[.int .i64 0, .bool false]) (by simp [results, Tryd.results48, go_sem]) rfl HY.out
set_option maxRecDepth 100000 in
set_option maxHeartbeats 4000000 in
theorem num_any (h : Rd W g s f) (hs : s.size ≤ 1000000000) (hT : PowTab W) (h2 : Sent W 2) (h3 : Sent W 3) :
    Calls Tryd.prog 24 #[.pointer (some ⟨g, 0, none⟩)] W (RdP W g f (siz 59 s.data.toList) (fun n => .int .i64 (n : Int)) (.int .i64 0)) := by
  have HU := Lib.hid (size_any (c := 59) h hs hT h2 h3)
  clear h hs hT h2 h3
  go_enter Tryd.func24, Tryd.ntmps24
  go_wp2_with (fail)
  go_must (refine HU.out.mono ?_)
  rintro e w1 (⟨v, t, hu, rfl, hr, ho⟩ | ⟨hu, rfl, hr, ho⟩)
  · have HY := Lib.hid (show RdP W g f (siz 59 s.data.toList) (fun n => .int .i64 (n : Int)) (.int .i64 0) (.returned (.int .i64 (v : Int))) w1 from .inl ⟨v, t, hu, rfl, hr, ho⟩)
    clear hr ho hu
    dsimp only
    go_wp2
    go_ret
    exact HY.out
  · have HY := Lib.hid (show RdP W g f (siz 59 s.data.toList) (fun n => .int .i64 (n : Int)) (.int .i64 0) (.returned (.int .i64 0)) w1 from .inr ⟨hu, rfl, hr, ho⟩)
    clear hr ho hu
    dsimp only
    go_wp2
    go_ret
    exact HY.out
set_option maxRecDepth 100000 in
set_option maxHeartbeats 4000000 in
theorem int_any (h : Rd W g s f) (hs : s.size ≤ 1000000000) (hT : PowTab W) (h2 : Sent W 2) (h3 : Sent W 3) :
    Calls Tryd.prog 26 #[.pointer (some ⟨g, 0, none⟩)] W (RdP W g f (untl 59 s.data.toList) (fun n => .int .i64 n) (.int .i64 0)) := by
  have HU := Lib.hid (until_any (c := 59) h hs hT h2 h3)
  clear h hs hT h2 h3
  go_enter Tryd.func26, Tryd.ntmps26
  go_wp2_with (fail)
  go_must (refine HU.out.mono ?_)
  rintro e w1 (⟨v, t, hu, rfl, hr, ho⟩ | ⟨hu, rfl, hr, ho⟩)
  · have HY := Lib.hid (show RdP W g f (untl 59 s.data.toList) (fun n => .int .i64 n) (.int .i64 0) (.returned (.int .i64 v)) w1 from .inl ⟨v, t, hu, rfl, hr, ho⟩)
    clear hr ho hu
    dsimp only
    go_wp2
    go_ret
    exact HY.out
  · have HY := Lib.hid (show RdP W g f (untl 59 s.data.toList) (fun n => .int .i64 n) (.int .i64 0) (.returned (.int .i64 0)) w1 from .inr ⟨hu, rfl, hr, ho⟩)
    clear hr ho hu
    dsimp only
    go_wp2
    go_ret
    exact HY.out
theorem at_str {s : ByteArray} {l : List UInt8} {k : Nat} (hs : s.data.toList = l) (h : k < s.size) : l[k]? = some s[k] := by
  subst hs
  rw [Array.getElem?_toList]
  exact Array.getElem?_eq_getElem h
theorem byte_is {t : List UInt8} {n : Nat} (h : n < (⟨t.toArray⟩ : ByteArray).size) (c : UInt8) : ((((⟨t.toArray⟩ : ByteArray)[n]'h).toNat : Int) != (c.toNat : Int)) = false ↔ t[n]? = some c := by
  have h1 := at_str (s := ⟨t.toArray⟩) (l := t) rfl h
  rw [h1, bne_eq_false_iff_eq]
  constructor
  · intro e
    congr 1
    exact UInt8.toNat_inj.1 (by omega)
  · intro e
    injection e with e
    rw [e]
/-- a string, read -/
def txr (l : List UInt8) : Option (List UInt8 × List UInt8) := match siz 58 l with
  | some (n, t) => if t[n]? = some 44 then some (t.take n, t.drop (n + 1)) else none
  | none => none
set_option maxRecDepth 100000 in
set_option maxHeartbeats 4000000 in
theorem text_any (h : Rd W g s f) (hs : s.size ≤ 1000000000) (hT : PowTab W) (h2 : Sent W 2) (h3 : Sent W 3) :
    Calls Tryd.prog 28 #[.pointer (some ⟨g, 0, none⟩)] W (RdP W g f (txr s.data.toList) (fun l => .string ⟨l.toArray⟩) (.string ⟨#[]⟩)) := by
  have HU := Lib.hid (size_any (c := 58) h hs hT h2 h3)
  have hlen : s.data.toList.length ≤ 1000000000 := hs
  clear h hs hT h2 h3
  go_enter Tryd.func28, Tryd.ntmps28
  go_wp2_with (fail)
  go_must (refine HU.out.mono ?_)
  rintro e w1 (⟨n, t, hu, rfl, hr, ho⟩ | ⟨hu, rfl, hr, ho⟩)
  · have hu : siz 58 s.data.toList = some (n, t) := hu
    obtain ⟨hsp, hn⟩ := siz_some hu
    have htl : t.length ≤ 1000000000 := by rw [hsp, List.length_append, List.length_cons] at hlen; omega
    have HU1 := Lib.hid hu
    have HR := Lib.hid hr
    have HO := Lib.hid ho
    have d0 := Row.cell hr 0
    have f0 := Row.frozen hr 0
    have hz : (⟨t.toArray⟩ : ByteArray).size = t.length := by simp [ByteArray.size]
    clear hr ho hu hsp hlen
    dsimp only
    have n0 : (0 : Int) ≤ (n : Int) := by omega
    have hFail : txr s.data.toList = none → Calls Tryd.prog 52 #[.pointer (some ⟨g, 0, none⟩)] w1 fun e w' => (∃ v, e = .returned v) ∧ RdP W g f (txr s.data.toList) (fun l => .string ⟨l.toArray⟩) (.string ⟨#[]⟩) (.returned (.string ⟨#[]⟩)) w' := fun hn =>
      (fail_any HR.out).mono fun e w' ⟨hv, hr, ho⟩ => ⟨hv, .inr ⟨hn, rfl, hr, HO.out.then ho⟩⟩
    have HF := Lib.hid hFail
    clear hFail
    by_cases hnt : n < t.length
    · obtain ⟨b, hb⟩ : ∃ b, t[n]? = some b := ⟨_, List.getElem?_eq_getElem hnt⟩
      have n1 : (n : Int) < (t.length : Int) := by omega
      have n2 : (n : Int) ≤ (t.length : Int) := by omega
      have n3 : (n : Int) + 1 ≤ (t.length : Int) := by omega
      have n4 : (0 : Int) ≤ (n : Int) + 1 := by omega
      have n5 : ((n : Int) + 1).toNat = n + 1 := by omega
      have hwn : IntKind.i64.wrap ((n : Int) + 1) = (n : Int) + 1 := IntWalk.i64_in _ (by omega)
      have hb44 := byte_is (show n < (⟨t.toArray⟩ : ByteArray).size by rw [hz]; exact hnt) 44
      by_cases h44 : t[n]? = some 44
      · have hbf : ((((⟨t.toArray⟩ : ByteArray)[n]'(by rw [hz]; exact hnt)).toNat : Int) != 44) = false := hb44.2 h44
        have HX := Lib.hid (show RdP W g f (txr s.data.toList) (fun l => .string ⟨l.toArray⟩) (.string ⟨#[]⟩) (.returned (.string ((⟨t.toArray⟩ : ByteArray).extract 0 n))) (w1.setCell ⟨g, 0, none⟩ (.string ((⟨t.toArray⟩ : ByteArray).extract (n + 1) (⟨t.toArray⟩ : ByteArray).size))) from
          .inl ⟨t.take n, t.drop (n + 1), by unfold txr; rw [HU1.out]; exact if_pos h44, by
            dsimp only
            rw [show (⟨(t.take n).toArray⟩ : ByteArray) = (⟨t.toArray⟩ : ByteArray).extract 0 n from str_eq (by rw [Lib.extract_data, List.drop_zero, Nat.sub_zero])], by
            rw [show (⟨(t.drop (n + 1)).toArray⟩ : ByteArray) = (⟨t.toArray⟩ : ByteArray).extract (n + 1) (⟨t.toArray⟩ : ByteArray).size from str_eq (by rw [ext_end])]
            exact Row.set HR.out 0 _, HO.out.set (p := ⟨g, 0, none⟩) (.inl rfl) _⟩)
        clear hb44 hb h44
        go_wp2
        go_ret
        exact HX.out
      · have hbt : ((((⟨t.toArray⟩ : ByteArray)[n]'(by rw [hz]; exact hnt)).toNat : Int) != 44) = true := by
          cases hx : ((((⟨t.toArray⟩ : ByteArray)[n]'(by rw [hz]; exact hnt)).toNat : Int) != 44)
          · exact absurd (hb44.1 hx) h44
          · rfl
        have HN : Hid (txr s.data.toList = none) := Lib.hid (by
          unfold txr
          rw [HU1.out]
          exact if_neg h44)
        clear hb44 hb h44
        go_wp2_with (fail)
        go_must (refine (HF.out HN.out).mono ?_)
        rintro e w2 ⟨⟨v', rfl⟩, hY⟩
        have HY := Lib.hid hY
        clear hY
        go_wp2
        go_ret
        exact HY.out
    · have HN : Hid (txr s.data.toList = none) := Lib.hid (by
        unfold txr
        rw [HU1.out]
        dsimp only
        rw [List.getElem?_eq_none (by omega), if_neg (by simp)])
      have n1 : (t.length : Int) ≤ (n : Int) := by omega
      go_wp2_with (fail)
      go_must (refine (HF.out HN.out).mono ?_)
      rintro e w2 ⟨⟨v', rfl⟩, hY⟩
      have HY := Lib.hid hY
      clear hY
      go_wp2
      go_ret
      exact HY.out
  · have HY := Lib.hid (show RdP W g f (txr s.data.toList) (fun l => .string ⟨l.toArray⟩) (.string ⟨#[]⟩) (.returned (.string ⟨#[]⟩)) w1 from .inr ⟨by unfold txr; rw [show siz 58 s.data.toList = none from hu], rfl, hr, ho⟩)
    clear hr ho hu
    dsimp only
    go_wp2
    go_ret
    exact HY.out
end
end Go.Proofs.YtapcfnlononniaaDoor.Wr
