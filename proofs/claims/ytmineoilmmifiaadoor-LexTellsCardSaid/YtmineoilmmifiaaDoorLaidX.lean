/- What the list gives: the error ErrRange, and the signs. -/
import Derived.Test.YtmineoilmmifiaaDoorLaidW
import Derived.Test.YtmineoilmmifiaaDoorLxR
import Derived.Stop.LaidErr
import Derived.Lib.LaidTab
import Derived.ChangeBears2
import Derived.LaidLaws
namespace Go.Proofs.YtmineoilmmifiaaDoor.LaidP
open Go.ChangeShapes Go.WideShapes Go.ChangeAt Go.RowKit
set_option linter.unusedVariables false
theorem cells_of_strs {H : Type} {enc : TypeId × Value → H} {P : Program} {w : World} {base : Nat} {sp : Nat → Bool} {held : Bool} {fuel : Nat} {t e : TypeId} {n : Nat} {cs : List Value} {zs : List (List UInt8)} {p : List MemPlace}
    (ht : P.underlying t = some (.array n e)) (he : P.underlying e = some .string) (hce : P.cellsOf e = 1) (hct : P.cellsOf t = n)
    (h : DataW.trod enc P w base sp held fuel t cs = some (.agg (zs.map fun z => .lit (.string z)), p)) : ∀ (j : Nat) x, zs[j]? = some x → cs[j]? = some (.string ⟨x.toArray⟩) := by
  cases fuel with
  | zero => simp [DataW.trod] at h
  | succ fuel =>
    simp only [DataW.trod, ht, hce, hct, Nat.mul_one] at h
    split at h
    · rename_i hl
      obtain ⟨xs, hm, hx⟩ := Option.map_eq_some_iff.1 h
      have hxs : xs.map (·.1) = zs.map fun z => (DataW.lit (.string z) : DataW H) := by
        have := congrArg Prod.fst hx
        simpa using this
      have hxl : xs.length = n := by simpa using Lib.mapM_length hm
      have hzl : zs.length = n := by
        have := congrArg List.length hxs
        simp at this
        omega
      intro i z hz
      have hi : i < n := by have := (List.getElem?_eq_some_iff.1 hz).1; omega
      obtain ⟨b, hb, hf⟩ := Lib.mapM_at hm i i (by simp [hi])
      obtain ⟨s, hc, rfl, _⟩ := DataW.trod_string he hf
      have h1 : cs[i]? = some (.string s) := by
        have := congrArg (·[0]?) hc
        simpa [List.getElem?_take, List.getElem?_drop] using this
      have h2 : (xs.map (·.1))[i]? = some (DataW.lit (.string s.data.toList) : DataW H) := by simp [hb]
      rw [hxs, List.getElem?_map, hz] at h2
      simp only [Option.map_some, Option.some.injEq, DataW.lit.injEq, Lit.string.injEq] at h2
      rw [h1, h2]
    · cases h
theorem gR : Tryd.prog.globalNamed "strconv.ErrRange" = some 2 := by kernel_rfl
theorem tR : (Tryd.prog.globals[2]?).map (·.type) = some 43 := by kernel_rfl
theorem star : "*" ++ "errors.errorString" = "*errors.errorString" := by decide
theorem rowE (u : TypeId) (h : Tryd.prog.typeName? 3 u = some "*errors.errorString") : u = 77 :=
  typeName_ptr_named (nm := "errors.errorString") (by rw [star]; kernel_rfl) (by kernel_rfl) (by decide) u (by rw [star]; exact h)
theorem cE : Tryd.prog.cellsOf 79 = 1 := by kernel_rfl
theorem cS : Tryd.prog.cellsOf 9 = 1 := by kernel_rfl
theorem c11 : Tryd.prog.cellsOf 48 = 11 := by kernel_rfl
theorem sentR {W : World} (h : laidMet Tryd.prog LaidW.laidL W) : ∃ ev, W.cell? ⟨2, 0, none⟩ = some ev ∧ (ev = .nilIface ∨ ∃ te pe, ev = .iface te pe) := by
  obtain ⟨a, s, hv, _⟩ := laid_sentinel (Go.laidMet.tail (Go.laidMet.tail (Go.laidMet.tail h))) gR tR Tryd.underlying43 rowE Tryd.underlying77 Tryd.underlying79 rfl rfl Tryd.underlying9 cE cS
  exact ⟨_, World.var?_cell gR hv 0, .inr ⟨_, _, rfl⟩⟩
theorem gS : Tryd.prog.globalNamed "consol/lex.signs" = some 0 := by kernel_rfl
theorem tS : (Tryd.prog.globals[0]?).map (·.type) = some 48 := by kernel_rfl
theorem signsAt {W : World} (h : laidMet Tryd.prog LaidW.laidL W) : ∀ (j : Nat) x, Lx.signs[j]? = some x → W.cell? ⟨0, j, none⟩ = some (.string ⟨x.toArray⟩) := by
  obtain ⟨ps, ⟨g', t', cs, fuel, p, q, hg', ht', hvar, hd, _, _⟩, _⟩ := Go.laidMet.tail (Go.laidMet.tail (Go.laidMet.tail (Go.laidMet.tail (Go.laidMet.tail h))))
  obtain rfl := Option.some.inj (gS.symm.trans hg')
  obtain rfl := Option.some.inj (tS.symm.trans ht')
  intro j x hx
  have h1 := cells_of_strs (zs := Lx.signs) Tryd.underlying48 Tryd.underlying9 cS c11 hd j x hx
  have h2 := World.var?_cell gS hvar j
  rw [h2, ← h1, Array.getElem?_toList]
theorem en {W : World} (h : laidMet Tryd.prog LaidW.laidL W) : Lx.Ev W W := ⟨Below.refl _ _, signsAt h, sentR h⟩
end Go.Proofs.YtmineoilmmifiaaDoor.LaidP
