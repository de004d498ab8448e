/- What a list of pairs that are signed one after the other leaves. -/
import Derived.Test.YtblegaclcpoonabSelI
namespace Go.Proofs.Ytblegaclcpoonab.Seal
open Go.ChangeShapes Go.WideShapes Go.ChangeAt Go.RowKit Go.Joins Go.Maps Go.WideMaps Go.Proofs.Ytblegaclcpoonab.Cell
set_option linter.unusedVariables false
set_option linter.unusedSimpArgs false

theorem infoG : (Try.prog.info? 31).map (fun i => (i.zero, i.size, i.bytes)) = some (some (.agg #[.int .i64 0, .string ByteArray.empty, .int .i64 0]), 3, 32) := by kernel_rfl
theorem own_same {W W' : World} {base n size : Nat} {e : TypeId} {v : Value} {xs : List Value} (h : W.ownsRow base e size v n xs) (hk : ∀ q, v.ownBlock = some q → W'.heap[q]? = W.heap[q]?) : W'.ownsRow base e size v n xs := by
  refine ⟨h.1, ?_⟩
  rcases h.2 with hn | ⟨g, cap, cur, rfl, hb, hgg, rest⟩
  · exact .inl hn
  · exact .inr ⟨g, cap, cur, rfl, hb, (hk g rfl).trans hgg, rest⟩
structure Sm (w0 : World) (B g gm : Nat) (l : List En) (W : World) (i : Nat) (v5 v6 : Value) (L : List En) (M : List Sg) (eb : Option Nat) : Prop where
  r : Rg W g gm eb L
  o5 : W.ownsRow B 24 2 v5 L.length (L.flatMap ecs)
  o6 : W.ownsRow B 31 3 v6 i (M.flatMap scs)
  ml : M.length = i
  ms : ∀ (j : Nat) x m, l[j]? = some x → M[j]? = some m → (isK x.1 = false ∧ m = sg0) ∨ (isK x.1 = true ∧ ∃ p : Nat, L[p]? = some x ∧ m = ⟨x.1, x.2, p⟩)
  d56 : ∀ q, v5.ownBlock = some q → v6.ownBlock ≠ some q
  d5 : ∀ q, v5.ownBlock = some q → eb ≠ some q
  d6 : ∀ q, v6.ownBlock = some q → eb ≠ some q
  bl : Below w0.heap.size w0 W
  gB : g < B
  w0g : w0.heap.size ≤ gm
  ll : L.length ≤ i
  sB : B ≤ W.heap.size
theorem Sm.keep {w0 W W' : World} {B g gm i : Nat} {l L : List En} {M : List Sg} {v5 v6 : Value} {eb : Option Nat} (h : Sm w0 B g gm l W i v5 v6 L M eb) (hb : Below W.heap.size W W') : Sm w0 B g gm l W' i v5 v6 L M eb :=
  ⟨h.r.keep hb, Gen.own_keep h.o5 hb, Gen.own_keep h.o6 hb, h.ml, h.ms, h.d56, h.d5, h.d6, Gen.over hb h.bl, h.gB, h.w0g, h.ll, Nat.le_trans h.sB hb.size⟩
theorem new_ex (W : World) : Calls Try.prog 9 #[] W fun e w' => ∃ g gm, e = .returned (.pointer (some ⟨g, 0, none⟩)) ∧ Rg w' g gm none [] ∧ W.heap.size ≤ gm ∧ g < w'.heap.size ∧ Below W.heap.size W w' := by
  refine (new_any W).mono ?_
  rintro e w' ⟨rfl, h, hb⟩
  refine ⟨_, _, rfl, h, Nat.le_refl _, ?_, hb⟩
  obtain ⟨_, _, hr, _⟩ := h.x
  exact hr.lt
/-- after a signature, before anything is noted -/
structure Mid (w0 wr : World) (g gm : Nat) (L : List En) (eb : Option Nat) (x : En) (wx : World) (gx : Nat) (m : Sg) (L' : List En) (eb' : Option Nat) : Prop where
  row : Row wx gx 31 #[.int .i64 m.k, .string m.s, .int .i64 m.m]
  s : SgnR L x L' m
  r : Rg wx g gm eb' L'
  e : eb' = eb ∨ ∃ b, eb' = some b ∧ wr.heap.size ≤ b
  bl : Below w0.heap.size w0 wx
  sz : wr.heap.size ≤ wx.heap.size
  up : wr.heap.size ≤ gx
  ne : eb' ≠ some gx
  kp : ∀ q, q < wr.heap.size → q ≠ g → q ≠ gm → eb ≠ some q → wx.heap[q]? = wr.heap[q]?
section
variable {w0 wr : World} {g gm : Nat} {L : List En} {eb : Option Nat} {x : En} {w5 : World} {m : Sg} {L' : List En} {eb' : Option Nat}
theorem Mid.late {W : World} (hW : W.heap.size = wr.heap.size) (hS : SgnR L x L' m) (hR : Rg w5 g gm eb' L') (hE : eb' = eb ∨ ∃ b, eb' = some b ∧ W.heap.size ≤ b) (hB : Below w0.heap.size w0 w5) (hs : W.heap.size ≤ w5.heap.size) (hK : ∀ q, q < W.heap.size → q ≠ g → q ≠ gm → eb ≠ some q → w5.heap[q]? = W.heap[q]?) (hWK : ∀ q, q < wr.heap.size → W.heap[q]? = wr.heap[q]?) :
    Mid w0 wr g gm L eb x (w5.alloc (.cells #[.int .i64 m.k, .string m.s, .int .i64 m.m] 31)) w5.heap.size m L' eb' := by
  have hb : Below w5.heap.size w5 (w5.alloc (.cells #[.int .i64 m.k, .string m.s, .int .i64 m.m] 31)) := Gen.b_alloc (Below.refl _ _)
  refine ⟨Row.new _ _ _, hS, hR.keep hb, ?_, Gen.over hb hB, by rw [World.size_alloc]; omega, by omega, hR.eb_lt (Nat.le_refl _), fun q hq a b c => ?_⟩
  · rcases hE with e | ⟨b, e, h⟩
    · exact .inl e
    · exact .inr ⟨b, e, by omega⟩
  · exact (hb.block q (by omega)).trans ((hK q (by omega) a b c).trans (hWK q hq))
theorem Mid.early {W : World} (h : Rg wr g gm eb L) (hW : W.heap.size = wr.heap.size + 1) (hZ : Row W wr.heap.size 31 #[.int .i64 0, .string ⟨#[]⟩, .int .i64 0]) (hS : SgnR L x L' m) (hR : Rg w5 g gm eb' L') (hE : eb' = eb ∨ ∃ b, eb' = some b ∧ W.heap.size ≤ b) (hB : Below w0.heap.size w0 w5) (hs : W.heap.size ≤ w5.heap.size) (hK : ∀ q, q < W.heap.size → q ≠ g → q ≠ gm → eb ≠ some q → w5.heap[q]? = W.heap[q]?) (hWK : ∀ q, q < wr.heap.size → W.heap[q]? = wr.heap[q]?) (hw : w0.heap.size ≤ wr.heap.size) :
    Row w5 wr.heap.size 31 #[.int .i64 0, .string ⟨#[]⟩, .int .i64 0] ∧
    Mid w0 wr g gm L eb x (((w5.setCell ⟨wr.heap.size, 0, none⟩ (.int .i64 m.k)).setCell ⟨wr.heap.size, 1, none⟩ (.string m.s)).setCell ⟨wr.heap.size, 2, none⟩ (.int .i64 m.m)) wr.heap.size m L' eb' := by
  obtain ⟨A, c, hr, _⟩ := h.x
  have z1 := hr.lt
  have z2 := h.lt
  have r5 : Row w5 wr.heap.size 31 #[.int .i64 0, .string ⟨#[]⟩, .int .i64 0] := (hK wr.heap.size (by omega) (by omega) (by omega) (h.eb_lt (Nat.le_refl _))).trans hZ
  have z4 : eb' ≠ some wr.heap.size := by
    rcases hE with e | ⟨b, e, hbb⟩
    · rw [e]; exact h.eb_lt (Nat.le_refl _)
    · rw [e]; intro c; injection c with c; omega
  refine ⟨r5, ((r5.set 0 _).set 1 _).set 2 _, hS, ((hR.setC (by omega) (by omega) z4 _ _).setC (by omega) (by omega) z4 _ _).setC (by omega) (by omega) z4 _ _, ?_, ((hB.setCell (by exact hw) _).setCell (by exact hw) _).setCell (by exact hw) _, by simp; omega, Nat.le_refl _, z4, fun q hq a b c => ?_⟩
  · rcases hE with e | ⟨b, e, h⟩
    · exact .inl e
    · exact .inr ⟨b, e, by omega⟩
  · have a1 : w5.heap[q]? = wr.heap[q]? := (hK q (by omega) a b c).trans (hWK q hq)
    exact ((Below.heap_setCell _ ⟨wr.heap.size, 2, none⟩ _ q (by show q ≠ wr.heap.size; omega)).trans ((Below.heap_setCell _ ⟨wr.heap.size, 1, none⟩ _ q (by show q ≠ wr.heap.size; omega)).trans (Below.heap_setCell _ ⟨wr.heap.size, 0, none⟩ _ q (by show q ≠ wr.heap.size; omega)))).trans a1
end
end Go.Proofs.Ytblegaclcpoonab.Seal
