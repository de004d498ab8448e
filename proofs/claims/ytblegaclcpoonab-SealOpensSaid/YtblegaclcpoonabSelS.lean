/- Rings of signatures: Copy. -/
import Derived.Test.YtblegaclcpoonabSelR
import Derived.Shelf.Lay
import Derived.Shelf.SlMaps.Clone
import Derived.Deep.RegionHeld3
import Derived.Deep.DeepCutAuto
namespace Go.Proofs.Ytblegaclcpoonab
open Go.Shelf
shelf_lay_g SlLaysW.n5 Slmc 5 at Try 38 as Try.cloneM
end Go.Proofs.Ytblegaclcpoonab
namespace Go.Proofs.Ytblegaclcpoonab.Seal
open Go.ChangeShapes Go.WideShapes Go.ChangeAt Go.RowKit Go.Joins Go.Maps Go.WideMaps Go.Proofs.Ytblegaclcpoonab.Cell
set_option linter.unusedVariables false
set_option linter.unusedSimpArgs false

theorem own_base {w : World} {B B' n size : Nat} {e : TypeId} {v : Value} {xs : List Value} (h : w.ownsRow B e size v n xs) (hb : B' ≤ B) : w.ownsRow B' e size v n xs := by
  refine ⟨h.1, ?_⟩
  rcases h.2 with hn | ⟨g, cap, cur, rfl, hbb, rest⟩
  · exact .inl hn
  · exact .inr ⟨g, cap, cur, rfl, Nat.le_trans hb hbb, rest⟩
theorem mclone {W : World} {gm n : Nat} {D : DataW Unit} (h : W.ownsMap (H := Unit) Try.prog 24 (plainElem Try.prog 3) gm n D) :
    Calls Try.prog 38 #[.map (some gm)] W fun e w' => e = .returned (.map (some W.heap.size)) ∧ w'.ownsMap (H := Unit) Try.prog 24 (plainElem Try.prog 3) W.heap.size n D ∧ Below W.heap.size W w' := by
  have hc := AnyW.maps_Clone_owns Try.cloneM 24 (plainElem Try.prog 3) gm n D W h
  refine Calls.mono hc ?_
  rintro e w' ⟨a, b, _, c⟩
  exact ⟨a, b, c⟩
theorem rl_of {W W2 : World} {gm2 c : Nat} {A : Option Addr} {L : List En} (hb : Below W.heap.size W W2) (ho : W2.ownsRow W.heap.size 24 2 (.slice A L.length c) L.length (L.flatMap ecs))
    (hm : W2.ownsMap (H := Unit) Try.prog 24 (plainElem Try.prog 3) gm2 L.length (mD L)) (hne : (Value.slice A L.length c).ownBlock ≠ some gm2) (hg : W.heap.size ≤ gm2) (hnd : L.Nodup) (hok : ∀ y ∈ L, okE y) :
    Rl W.heap.size (W2.alloc (.cells #[.slice A L.length c, .map (some gm2)] 62)) W2.heap.size gm2 (Value.slice A L.length c).ownBlock L := by
  have hB : Below W2.heap.size W2 (W2.alloc (.cells #[.slice A L.length c, .map (some gm2)] 62)) := Gen.b_alloc (Below.refl _ _)
  exact ⟨⟨A, c, Row.new _ _ _, Gen.own_keep ho hB, rfl⟩, map_keep hm hB, hnd, hok, hm.lt, hg, fun e => by have := (ho.lt _ e).2; omega, hne⟩
set_option maxRecDepth 100000 in
set_option maxHeartbeats 4000000 in
theorem copy_any {W : World} {g gm : Nat} {eb : Option Nat} {L : List En} (h : Rg W g gm eb L) (hL : L.length ≤ 1000) :
    Calls Try.prog 16 #[.pointer (some ⟨g, 0, none⟩)] W fun e w' => ∃ g2 gm2 eb2, e = .returned (.pointer (some ⟨g2, 0, none⟩)) ∧ Rl W.heap.size w' g2 gm2 eb2 L ∧ Below W.heap.size W w' ∧ g2 < w'.heap.size := by
  obtain ⟨A, c, hr, ho, _⟩ := h.x
  have rr := App.Reads.of_own ho
  have HM := Lib.hid h.m
  have c0 : W.cell? ⟨g, 0, none⟩ = some (.slice A L.length c) := hr.cell 0
  have c1 : W.cell? ⟨g, 1, none⟩ = some (.map (some gm)) := hr.cell 1
  have hSS : ∀ W' : World, Below W.heap.size W W' → Below W.heap.size W W' ∧ W'.cell? ⟨g, 0, none⟩ = some (.slice A L.length c) ∧ W'.cell? ⟨g, 1, none⟩ = some (.map (some gm)) := fun W' hB => ⟨hB, Gen.keep hB c0, Gen.keep hB c1⟩
  have HSS := Lib.hid hSS
  have HRR := Lib.hid rr
  have HND := Lib.hid h.nd
  have HOK := Lib.hid h.ok
  clear hSS c0 c1 hr ho rr
  go_enter Try.func16, Try.ntmps16
  go_upto_region 1 with (fail)
  go_region_held3 (fun W' : World => Below W.heap.size W W' ∧ W'.cell? ⟨g, 0, none⟩ = some (.slice A L.length c) ∧ W'.cell? ⟨g, 1, none⟩ = some (.map (some gm)))
    (first | exact HSS.out _ (Below.refl _ _).drew | exact HSS.out _ (Gen.over (by assumption) (And.left (by assumption))) | exact HSS.out _ (Gen.b_alloc (And.left (by assumption))))
    (first
      | (go_at_call 35; refine (clone_any A L.length c L rfl (HRR.out.below (And.left (by assumption))) (Below.size (And.left (by assumption))) (by omega)).mono ?_; rintro e' w8 ⟨A8, c8, rfl, ho8, hB8⟩)
      | (go_at_call 38; refine (mclone (map_keep HM.out (And.left (by assumption)))).mono ?_; rintro e' w9 ⟨rfl, hm9, hB9⟩))
  all_goals
    have HB2 : Below W.heap.size W w9 := Gen.over hB9 (Gen.over hB8 (Below.refl W.heap.size W).drew)
    have HL := Lib.hid (rl_of HB2 (Gen.own_keep ho8 hB9) hm9 (fun e => by have := (ho8.lt _ e).2; omega) hB8.size HND.out HOK.out)
    have HB3 := Lib.hid (Gen.b_alloc (x := .cells #[.slice A8 L.length c8, .map (some w8.heap.size)] 62) HB2)
    clear HB2 ho8 hB8 hm9 hB9
    go_wp2
    go_ret
    exact ⟨_, _, _, rfl, HL.out, HB3.out, by simp⟩
end Go.Proofs.Ytblegaclcpoonab.Seal
