/- Rings of signatures, in plain words: what their map reads as. -/
import Derived.Test.YtblegaclcpoonabBase
import Derived.Maps.OwnSet
import Derived.Maps.OwnOps
import Derived.Maps.Views
import Derived.DeepKeys4
import Derived.MapViews
import Derived.Lib.SmallJoins
namespace Go.Proofs.Ytblegaclcpoonab.Seal
open Go.ChangeShapes Go.WideShapes Go.ChangeAt Go.RowKit Go.Joins Go.Maps Go.WideMaps Go.Proofs.Ytblegaclcpoonab.Cell
set_option linter.unusedVariables false

abbrev En := Int × ByteArray
def ev (x : En) : Value := .agg #[.int .i64 x.1, .string x.2]
theorem laidOut : laidOutB Try.prog = true := by kernel_rfl
theorem rowE : (24 : TypeId) < Try.prog.types.size := of_decide_eq_true (by kernel_rfl)
theorem deepE : Try.prog.keyTypeAt (Try.prog.types.size + 1) 24 = true := by kernel_rfl
theorem wideE : (match Try.prog.underlying 24 with | some (.array _ _) | some (.struct _) => true | _ => false) = true := by kernel_rfl
theorem lawE : KeyLaw Try.prog 24 := deep_law_laid laidOut (m := 3) (by omega) rowE (by kernel_rfl) wideE
theorem keyedE : Keyed Try.prog 24 := Keyed.of_law lawE
theorem cellsE : Try.prog.cellsOf 24 = 2 := by kernel_rfl
def okE (x : En) : Prop := (Lit.int .i64 x.1).wf = true ∧ x.2.size ≤ maxLen
def dE (x : En) : DataW Unit := .agg [.lit (.int .i64 x.1), .lit (.string x.2.data.toList)]
def kl (x : En) : Lit := (dE x).asKey
theorem trodE {x : En} (h : okE x) (W : World) : DataW.Trod (fun _ => ()) Try.prog W 0 (fun _ => true) true 24 (ev x) (dE x) [] :=
  shut_agg2 (y0 := (.lit (.int .i64 x.1), [])) (y1 := (.lit (.string x.2.data.toList), [])) Try.underlying24 (by kernel_rfl) cellsE
    ⟨1, by simp [DataW.trod, Try.underlying3, h.1]⟩ ⟨1, by simp [DataW.trod, Try.underlying9, h.2]⟩
theorem formedE (x : En) : (ev x).formed Try.prog 24 = true := by
  have := cellsE
  simp [ev, Value.formed, Try.underlying24, this]
theorem keyE {x : En} (h : okE x) : keyOf Try.prog 24 (ev x) = some (kl x) :=
  (keyOf_asKey (w := default) deepE wideE (formedE x) (trodE h default)).1
theorem kl_inj {x y : En} (hx : okE x) (hy : okE y) (h : kl x = kl y) : x = y := by
  have a := keyE hx
  have b := keyE hy
  rw [h] at a
  have := lawE.inj a b
  obtain ⟨x1, x2⟩ := x
  obtain ⟨y1, y2⟩ := y
  simp [ev] at this
  rw [this.1, this.2]
theorem kl_key {x : En} (hx : okE x) : WideAt.IsKeyLit (kl x) := keyedE.key (keyE hx)
/-- what the map of a ring reads as: of the entries, the last one first -/
def mR : List En → DataW Unit
  | [] => .map []
  | x :: r => (mR r).put (kl x) (.lit (.int .i64 r.length))
def mD (L : List En) : DataW Unit := mR L.reverse
theorem mD_snoc (L : List En) (x : En) : mD (L ++ [x]) = (mD L).put (kl x) (.lit (.int .i64 L.length)) := by
  unfold mD
  rw [List.reverse_append]
  show mR (x :: L.reverse) = _
  rw [mR, List.length_reverse]
theorem mR_map : ∀ r : List En, IsMap (mR r)
  | [] => isMap_empty
  | x :: r => by
    obtain ⟨es, h⟩ := mR_map r
    rw [mR, h]
    exact ⟨_, rfl⟩
theorem has_mR {x : En} (hx : okE x) : ∀ r : List En, (∀ y ∈ r, okE y) → (Maps.has (mR r) (kl x) = true ↔ x ∈ r)
  | [], _ => by simp [mR, Maps.has]
  | y :: r, h => by
    have ih := has_mR hx r fun z hz => h z (by simp [hz])
    by_cases e : x = y
    · subst e
      rw [mR, has_put_same (mR_map r) (kl_key hx)]; simp
    · rw [mR, has_put_other (fun c => e (kl_inj hx (h y (by simp)) c)), ih, List.mem_cons]
      exact ⟨.inr, fun h => h.resolve_left e⟩
theorem at_mR {x : En} (hx : okE x) : ∀ (r : List En) (i : Nat) (z : DataW Unit), (∀ y ∈ r, okE y) → r.Nodup → r[i]? = some x → (mR r).atKey (kl x) z = .lit (.int .i64 ((r.length - 1 - i : Nat) : Int))
  | [], i, z, _, _, h => by simp at h
  | y :: r, 0, z, h, _, he => by
    simp at he
    subst he
    rw [mR, atKey_put_same (mR_map r) (kl_key hx)]
    simp
  | y :: r, i + 1, z, h, hn, he => by
    simp at he
    have hn' := List.nodup_cons.1 hn
    have hm : x ∈ r := List.mem_of_getElem? he
    have e : x ≠ y := fun c => hn'.1 (c ▸ hm)
    rw [mR, atKey_put_other (fun c => e (kl_inj hx (h y (by simp)) c)), at_mR hx r i z (fun w hw => h w (by simp [hw])) hn'.2 he]
    have : i < r.length := by have := (List.getElem?_eq_some_iff.1 he).1; exact this
    congr 3
    simp; omega
theorem has_mD {x : En} (hx : okE x) {L : List En} (h : ∀ y ∈ L, okE y) : Maps.has (mD L) (kl x) = true ↔ x ∈ L := by
  unfold mD
  rw [has_mR hx _ fun y hy => h y (by simpa using hy)]
  simp
theorem at_mD {x : En} (hx : okE x) {L : List En} {i : Nat} (z : DataW Unit) (h : ∀ y ∈ L, okE y) (hn : L.Nodup) (he : L[i]? = some x) : (mD L).atKey (kl x) z = .lit (.int .i64 (i : Int)) := by
  have hi := (List.getElem?_eq_some_iff.1 he).1
  unfold mD
  rw [at_mR hx L.reverse (L.length - 1 - i) z (fun y hy => h y (by simpa using hy)) (List.pairwise_reverse.2 (List.Pairwise.imp (fun h => Ne.symm h) hn)) (by rw [List.getElem?_reverse (by omega)]; rw [show L.length - 1 - (L.length - 1 - i) = i by omega]; exact he)]
  congr 3
  simp; omega
end Go.Proofs.Ytblegaclcpoonab.Seal
