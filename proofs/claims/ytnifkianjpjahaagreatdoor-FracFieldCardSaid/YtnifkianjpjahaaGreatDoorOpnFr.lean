/- Fractions, opened; what the list and the world's shape give. -/
import Derived.Test.YtnifkianjpjahaaGreatDoorOpn
import Derived.Test.YtnifkianjpjahaaGreatDoorFmC
import Derived.Test.YtnifkianjpjahaaGreatDoorLaidW
import Derived.Handed
import Derived.Shelf.Vars
import Derived.Stop.LaidErr
import Derived.Lib.LaidTab
namespace Go.Proofs.YtnifkianjpjahaaGreatDoor.Bg
open Go.ChangeShapes Go.WideShapes Go.ChangeAt Go.RowKit Go.Deep Go.Proofs.YtnifkianjpjahaaGreatDoor.Opened Go.Proofs.YtnifkianjpjahaaGreatDoor.Cell
set_option linter.unusedVariables false
theorem i64_in {a : Int} (h : (Lit.int .i64 a).wf = true) : I64 a := by
  simp [Lit.wf, IntKind.min, IntKind.max, IntKind.signed, IntKind.bits] at h
  unfold I64
  omega
theorem cellsBg : Tryz.prog.cellsOf 24 = 2 := by kernel_rfl
theorem cellsFr : Tryz.prog.cellsOf 43 = 4 := by kernel_rfl
section
variable {H : Type} {enc : TypeId × Value → H} {W : World} {b0 : Nat} {r : Reach}
set_option maxRecDepth 100000 in
theorem frac_part {n : Nat} {v0 v1 : Value} {y : DataW H × List MemPlace} (h : DataW.trod enc Tryz.prog W 0 (fun _ => true) true n 24 [v0, v1] = some y) :
    ∃ (s : Int) (A : Option Addr) (c : Nat) (l : List Int), v0 = .int .i64 s ∧ v1 = .slice A l.length c ∧ Arg W.heap.size W (bigV s A l.length c) l.length s l := by
  obtain ⟨y0, y1, m, _, _, h0, h1⟩ := trod_struct2 Tryz.underlying24 h
  obtain ⟨s, e0, _, _⟩ := DataW.trod_int Tryz.underlying3 (cs := [v0]) h0
  obtain ⟨A, c, l, rfl, i, k⟩ := ints_of (v := v1) h1
  simp at e0
  subst e0
  exact ⟨s, A, c, l, rfl, rfl, A, c, rfl, rfl, Ints.old i (Nat.le_refl _), k⟩
set_option maxRecDepth 100000 in
theorem open_big {v : Value} {d : DataW H} {p : List MemPlace} (hv : Value.okWide Tryz.prog W r b0 24 v) (h : DataW.Trod enc Tryz.prog W 0 (fun _ => true) true 24 v d p) :
    ∃ (s : Int) (A : Option Addr) (c : Nat) (l : List Int), v = .agg #[.int .i64 s, .slice A l.length c] ∧ Arg W.heap.size W v l.length s l := by
  obtain ⟨cs, rfl, hsz⟩ := okWide_struct Tryz.underlying24 hv
  rw [cellsBg] at hsz
  obtain ⟨c0, c1, rfl⟩ := Joins.array2 hsz
  obtain ⟨fuel, hf⟩ := h
  obtain ⟨s, A, c, l, rfl, rfl, h1⟩ := frac_part (v0 := c0) (v1 := c1) hf
  exact ⟨s, A, c, l, rfl, h1⟩
set_option maxRecDepth 100000 in
theorem open_frac {v : Value} {d : DataW H} {p : List MemPlace} (hv : Value.okWide Tryz.prog W r b0 43 v) (h : DataW.Trod enc Tryz.prog W 0 (fun _ => true) true 43 v d p) :
    ∃ (s : Int) (A : Option Addr) (c : Nat) (s' : Int) (A' : Option Addr) (c' : Nat) (l l' : List Int), v = frV s A l.length c s' A' l'.length c' ∧ ArgF W.heap.size W v l.length l'.length s s' l l' := by
  obtain ⟨cs, rfl, hsz⟩ := okWide_struct Tryz.underlying43 hv
  rw [cellsFr] at hsz
  obtain ⟨c0, c1, c2, c3, rfl⟩ := Joins.array4 hsz
  obtain ⟨fuel, hf⟩ := h
  obtain ⟨y0, y1, n, _, _, h0, h1⟩ := trod_struct2 Tryz.underlying43 hf
  obtain ⟨s, A, c, l, rfl, rfl, a1⟩ := frac_part (v0 := c0) (v1 := c1) h0
  obtain ⟨s', A', c', l', rfl, rfl, a2⟩ := frac_part (v0 := c2) (v1 := c3) h1
  exact ⟨s, A, c, s', A', c', l, l', rfl, A, c, A', c', rfl, a1, a2⟩
end
end Go.Proofs.YtnifkianjpjahaaGreatDoor.Bg
namespace Go.Proofs.YtnifkianjpjahaaGreatDoor.LaidP
open Go.ChangeShapes Go.WideShapes Go.ChangeAt Go.RowKit
variable {H : Type} {enc : TypeId × Value → H}
theorem gty : (Tryz.prog.globals[1]?).map (·.type) = some 140 := by kernel_rfl
theorem c1 : Tryz.prog.cellsOf 70 = 1 := by kernel_rfl
theorem c20 : Tryz.prog.cellsOf 140 = 20 := by kernel_rfl
theorem powtab {W : World} (h : laidMet Tryz.prog LaidW.laidL W) : Bg.PowTab W :=
  Lib.tabIs_of_head Bg.gPow gty Tryz.underlying140 Tryz.underlying70 c1 c20 (Go.laidMet.tail (Go.laidMet.tail h))
theorem maxl {W : World} (h : W.ShapedOpen Tryz.prog) : Bg.MaxL W :=
  cell_of_shapedOpen_int (zero := #[.int .i64 0]) (t := 3) h (of_decide_eq_true (by kernel_rfl)) (by kernel_rfl) rfl (by kernel_rfl) (by kernel_rfl) Tryz.underlying3
/-- from a contract that wants the listed variables and the world's shape to what a row says -/
theorem handed_both {a : Assume} {C : Checked} {os : Os} {f : FuncId} {fn : Func} {s : ChangeSpec} {conds : List PathCond} {apart fresh handsOn again : Bool} {X : World → Array Value → Prop}
    (hX : ∀ (w w' : World) (args : Array Value), w.heap = w'.heap → X w args → X w' args) (own : ownKnob C.prog.godebug = none) (started : os.Started) (noInit : C.prog.inits.idxOf? f = none) (hfn : C.prog.funcs[f]? = some fn)
    (wit : ∃ (w : World) (tape : Tape) (i : Input), w.os = os ∧ (w.forCall tape i).Shaped C.prog ∧ i.vars = [] ∧ Input.okWide C.prog (w.forCall tape i) .any w.heap.size f i ∧
      ((s.pre enc C.prog fn conds apart (w.forCall tape i).memory i.args ∧ X (w.forCall tape i).memory i.args) ∧ sizedMet enc C.prog fn (OpenSpec.ofChange s) apart (w.forCall tape i).memory i.args) ∧ a.holds C.prog (lone (Frame.enter C.prog f i.args .normal) [] (w.forCall tape i)))
    (main : ∀ (W : World) (base : Nat) (args : Array Value) (ds gs : List (DataW H)) (before : List MemPlace), (∀ (j : Nat) t v, fn.params[j]? = some t → args[j]? = some v → Value.okWide C.prog W .any base t v) →
      DataW.Whole enc C.prog fn.params.toList s.vars apart W args.toList ds gs before → X W args → W.ShapedOpen C.prog → Calls C.prog f args W fun e W' => ∃ v, e = .returned v ∧ s.post enc C.prog fn apart fresh handsOn again W args v W') :
    ReturnsInHanded a C os f .any (fun w args => (s.pre enc C.prog fn conds apart w args ∧ X w args) ∧ sizedMet enc C.prog fn (OpenSpec.ofChange s) apart w args) (s.post enc C.prog fn apart fresh handsOn again) :=
  returnsInHanded_of_calls own started noInit wit fun w tape i _ hs _ hok hp _ => by
    obtain ⟨_, _, _, g, hg, _, _, _, _, hval⟩ := hok
    obtain rfl : g = fn := Option.some.inj (hg.symm.trans hfn)
    obtain ⟨⟨⟨ds, gs, before, hw, _⟩, hx⟩, _⟩ := hp
    refine (main (w.forCall tape i) w.heap.size i.args ds gs before hval (DataW.Whole.of_heap (by rfl) hw) (hX _ _ _ (by rfl) hx) hs).mono fun e W' ⟨v, he, hpost⟩ => ?_
    subst he
    exact ChangeSpec.post_blind hpost
end Go.Proofs.YtnifkianjpjahaaGreatDoor.LaidP
