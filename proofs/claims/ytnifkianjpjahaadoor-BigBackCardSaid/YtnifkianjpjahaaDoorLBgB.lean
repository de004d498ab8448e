/- BigBack returns true: all big integers, right or not, and strings; the table of powers of ten as the text lays it. -/
import Derived.Test.YtnifkianjpjahaaDoorLBgBA
import Derived.Test.YtnifkianjpjahaaDoorLBgBB
import Derived.Test.YtnifkianjpjahaaDoorLBgBC
namespace Go.Proofs.YtnifkianjpjahaaDoor.Bg
open Go.ChangeShapes Go.WideShapes Go.ChangeAt Go.RowKit Go.Proofs.YtnifkianjpjahaaDoor.Cell
set_option linter.unusedVariables false
set_option linter.unusedSimpArgs false

set_option maxRecDepth 100000 in
theorem back_long {s0 : Int} {A0 : Option Addr} {n0 c0 : Nat} {l0 : List Int} (s : List UInt8) (w : World) (hT : PowTab w) (h400 : 400 < s.length) :
    Calls Tryd.prog 8 #[bigV s0 A0 n0 c0, .string ⟨s.toArray⟩] w fun e w' => e = .returned (.bool true) ∧ Below w.heap.size w w' := by
  have HT := Lib.hid (hT.keep (Gen.b_alloc (x := (.cells #[.int .i64 s0, .slice A0 n0 c0] 24)) (Below.refl _ _)))
  have HB := Lib.hid (Gen.b_alloc (x := (.cells #[.int .i64 s0, .slice A0 n0 c0] 24)) (Below.refl w.heap.size w))
  have h4 : (400 : Int) < (s.length : Int) := by omega
  clear hT h400
  go_enter Tryd.func8, Tryd.ntmps8
  go_wp2_with (fail)
  go_must (refine (small_yes _ HT.out).mono ?_)
  rintro e W1 ⟨rfl, hb1⟩
  replace HB := Lib.hid (Gen.over hb1 HB.out)
  clear hb1
  go_wp2
  go_ret
  exact ⟨rfl, HB.out⟩
theorem back_list {s0 : Int} {A0 : Option Addr} {n0 c0 : Nat} {l0 : List Int} (w : World) (hT : PowTab w) (b0 : Arg w (bigV s0 A0 n0 c0) n0 s0 l0) (s : List UInt8) :
    Calls Tryd.prog 8 #[bigV s0 A0 n0 c0, .string ⟨s.toArray⟩] w fun e w' => e = .returned (.bool true) ∧ Below w.heap.size w w' := by
  by_cases h400 : 400 < s.length
  · exact back_long (l0 := []) s w hT h400
  have h4 : s.length ≤ 400 := by omega
  cases hr : rgtB s0 l0
  · cases hf : rd s with
    | none => exact back_AN (x := 0) (zs := 0) s w hT h4 hf b0 hr
    | some zs =>
      by_cases hfit : Fit zs
      · exact back_BN (x := 0) s w hT h4 hf hfit b0 hr
      · exact back_CN (x := 0) s w hT h4 hf hfit b0 hr
  · obtain ⟨x, hx, hs, _⟩ := b0.big hr
    by_cases h0 : x = 0
    · subst h0
      cases hf : rd s with
      | none => exact back_AZ (x := 0) (zs := 0) (l0 := []) s w hT h4 hf hx
      | some zs =>
        by_cases hfit : Fit zs
        · exact back_BZ (x := 0) (l0 := []) s w hT h4 hf hfit hx
        · exact back_CZ (x := 0) (l0 := []) s w hT h4 hf hfit hx
    · by_cases h1 : Fit (x * 10)
      · by_cases h2 : Fit (x * 10 + 7 * s0)
        · cases hf : rd s with
          | none => exact back_AD (zs := 0) (l0 := []) s w hT h4 hf hx h0 h2
          | some zs =>
            by_cases hfit : Fit zs
            · exact back_BD (l0 := []) s w hT h4 hf hfit hx h0 h2
            · exact back_CD (l0 := []) s w hT h4 hf hfit hx h0 h2
        · cases hf : rd s with
          | none => exact back_AF (zs := 0) (l0 := []) s w hT h4 hf hx h0 h1 h2
          | some zs =>
            by_cases hfit : Fit zs
            · exact back_BF (l0 := []) s w hT h4 hf hfit hx h0 h1 h2
            · exact back_CF (l0 := []) s w hT h4 hf hfit hx h0 h1 h2
      · cases hf : rd s with
        | none => exact back_AE (zs := 0) (l0 := []) s w hT h4 hf hx h0 h1
        | some zs =>
          by_cases hfit : Fit zs
          · exact back_BE (l0 := []) s w hT h4 hf hfit hx h0 h1
          · exact back_CE (l0 := []) s w hT h4 hf hfit hx h0 h1
theorem back_any {s0 : Int} {A0 : Option Addr} {n0 c0 : Nat} {l0 : List Int} (w : World) (hT : PowTab w) (b0 : Arg w (bigV s0 A0 n0 c0) n0 s0 l0) (s : ByteArray) :
    Calls Tryd.prog 8 #[bigV s0 A0 n0 c0, .string s] w fun e w' => e = .returned (.bool true) ∧ Below w.heap.size w w' := by
  have h := back_list w hT b0 s.data.toList
  have e : (ByteArray.mk s.data.toList.toArray) = s := by simp
  rwa [e] at h
end Go.Proofs.YtnifkianjpjahaaDoor.Bg
