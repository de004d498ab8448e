/- Big integers: pair. -/
import Derived.Test.YtnifkianjpjahaaDoorBhH
namespace Go.Proofs.YtnifkianjpjahaaDoor.Bg
open Go.ChangeShapes Go.WideShapes Go.ChangeAt Go.RowKit Go.Proofs.YtnifkianjpjahaaDoor.Cell
set_option linter.unusedVariables false
set_option linter.unusedSimpArgs false

section
variable {x : Int} {va vb : Value}
theorem same_yes (w : World) (hx : IsBig w va x) (hy : IsBig w vb x) : Calls Tryd.prog 18 #[va, vb] w fun e w' => e = .returned (.bool true) ∧ Below w.heap.size w w' :=
  (same_val w hx hy).mono fun e w' ⟨h1, h2⟩ => ⟨by rw [h1, decide_eq_true rfl], h2⟩
set_option maxRecDepth 100000 in
set_option maxHeartbeats 8000000 in
theorem pair_yes {q r : Int} (w : World) (hx : IsBig w va q) (hy : IsBig w vb r) (hq : I64 q) (hr : I64 r) :
    Calls Tryd.prog 25 #[va, vb, .int .i64 0, .int .i64 q, .int .i64 r] w fun e w' => e = .returned (.bool true) ∧ Below w.heap.size w w' := by
  obtain ⟨A, c, a, rfl, ha, na, h60⟩ := hx.ex
  obtain ⟨A', c', b, rfl, hb, nb, h60'⟩ := hy.ex
  obtain ⟨n, hn⟩ : ∃ n, a.length = n := ⟨_, rfl⟩
  obtain ⟨n', hn'⟩ : ∃ n, b.length = n := ⟨_, rfl⟩
  rw [hn] at hx ⊢
  rw [hn'] at hy ⊢
  have HX := Lib.hid hx
  have HY := Lib.hid hy
  have hb2 : Below w.heap.size w (box2 w (sg q) A n c (sg r) A' n' c') := box2_bl
  have r0 := (box2_r0 (w := w) (s := sg q) (A := A) (n := n) (c := c) (s' := sg r) (A' := A') (n' := n') (c' := c'))
  have r1 := (box2_r1 (w := w) (s := sg q) (A := A) (n := n) (c := c) (s' := sg r) (A' := A') (n' := n') (c' := c'))
  have HS0 := Lib.hid (show (Below w.heap.size w (box2 w (sg q) A n c (sg r) A' n' c') ∧ (box2 w (sg q) A n c (sg r) A' n' c').cell? ⟨w.heap.size, 0, none⟩ = some (.int .i64 (sg q)) ∧ (box2 w (sg q) A n c (sg r) A' n' c').cell? ⟨w.heap.size, 1, none⟩ = some (.slice A n c) ∧ (box2 w (sg q) A n c (sg r) A' n' c').cell? ⟨w.heap.size + 1, 0, none⟩ = some (.int .i64 (sg r)) ∧ (box2 w (sg q) A n c (sg r) A' n' c').cell? ⟨w.heap.size + 1, 1, none⟩ = some (.slice A' n' c')) from ⟨hb2, r0.cell 0, r0.cell 1, r1.cell 0, r1.cell 1⟩)
  unfold box2 at HS0
  clear hx hy ha hb na nb h60 h60' hn hn' hb2 r0 r1
  go_enter Tryd.func25, Tryd.ntmps25
  go_wp2_with (fail)
  have c0 := HS0.out.2.1
  have c1 := HS0.out.2.2.1
  have c2 := HS0.out.2.2.2.1
  have c3 := HS0.out.2.2.2.2
  go_region_held3 (fun W' : World => Below w.heap.size w W' ∧ W'.cell? ⟨w.heap.size, 0, none⟩ = some (.int .i64 (sg q)) ∧ W'.cell? ⟨w.heap.size, 1, none⟩ = some (.slice A n c) ∧ W'.cell? ⟨w.heap.size + 1, 0, none⟩ = some (.int .i64 (sg r)) ∧ W'.cell? ⟨w.heap.size + 1, 1, none⟩ = some (.slice A' n' c'))
    (first | exact hS5 | exact ⟨HS0.out.1.drew, HS0.out.2⟩ | fail "keep")
    (first
      | (go_at_call 16; (with_reducible refine (of_val q _ hq).mono ?_); rintro e' w' ⟨v1, rfl, hv1, hb1⟩; have hS5 := (show (Below w.heap.size w w' ∧ w'.cell? ⟨w.heap.size, 0, none⟩ = some (.int .i64 (sg q)) ∧ w'.cell? ⟨w.heap.size, 1, none⟩ = some (.slice A n c) ∧ w'.cell? ⟨w.heap.size + 1, 0, none⟩ = some (.int .i64 (sg r)) ∧ w'.cell? ⟨w.heap.size + 1, 1, none⟩ = some (.slice A' n' c')) from ⟨Gen.over hb1 (And.left (by assumption)), Gen.keep hb1 (And.left (And.right (by assumption))), Gen.keep hb1 (And.left (And.right (And.right (by assumption)))), Gen.keep hb1 (And.left (And.right (And.right (And.right (by assumption))))), Gen.keep hb1 (And.right (And.right (And.right (And.right (by assumption)))))⟩))
      | (go_at_call 16; (with_reducible refine (of_val r _ hr).mono ?_); rintro e' w' ⟨v2, rfl, hv2, hb3⟩; have hS5 := (show (Below w.heap.size w w' ∧ w'.cell? ⟨w.heap.size, 0, none⟩ = some (.int .i64 (sg q)) ∧ w'.cell? ⟨w.heap.size, 1, none⟩ = some (.slice A n c) ∧ w'.cell? ⟨w.heap.size + 1, 0, none⟩ = some (.int .i64 (sg r)) ∧ w'.cell? ⟨w.heap.size + 1, 1, none⟩ = some (.slice A' n' c')) from ⟨Gen.over hb3 (And.left (by assumption)), Gen.keep hb3 (And.left (And.right (by assumption))), Gen.keep hb3 (And.left (And.right (And.right (by assumption)))), Gen.keep hb3 (And.left (And.right (And.right (And.right (by assumption))))), Gen.keep hb3 (And.right (And.right (And.right (And.right (by assumption)))))⟩))
      | (go_at_call 18; (with_reducible refine (same_yes _ (HX.out.keep (And.left (by assumption))) hv1).mono ?_); rintro e' w' ⟨rfl, hb2⟩; have hS5 := (show (Below w.heap.size w w' ∧ w'.cell? ⟨w.heap.size, 0, none⟩ = some (.int .i64 (sg q)) ∧ w'.cell? ⟨w.heap.size, 1, none⟩ = some (.slice A n c) ∧ w'.cell? ⟨w.heap.size + 1, 0, none⟩ = some (.int .i64 (sg r)) ∧ w'.cell? ⟨w.heap.size + 1, 1, none⟩ = some (.slice A' n' c')) from ⟨Gen.over hb2 (And.left (by assumption)), Gen.keep hb2 (And.left (And.right (by assumption))), Gen.keep hb2 (And.left (And.right (And.right (by assumption)))), Gen.keep hb2 (And.left (And.right (And.right (And.right (by assumption))))), Gen.keep hb2 (And.right (And.right (And.right (And.right (by assumption)))))⟩))
      | (go_at_call 18; (with_reducible refine (same_yes _ (HY.out.keep (And.left (by assumption))) hv2).mono ?_); rintro e' w' ⟨rfl, hb4⟩; have hS5 := (show (Below w.heap.size w w' ∧ w'.cell? ⟨w.heap.size, 0, none⟩ = some (.int .i64 (sg q)) ∧ w'.cell? ⟨w.heap.size, 1, none⟩ = some (.slice A n c) ∧ w'.cell? ⟨w.heap.size + 1, 0, none⟩ = some (.int .i64 (sg r)) ∧ w'.cell? ⟨w.heap.size + 1, 1, none⟩ = some (.slice A' n' c')) from ⟨Gen.over hb4 (And.left (by assumption)), Gen.keep hb4 (And.left (And.right (by assumption))), Gen.keep hb4 (And.left (And.right (And.right (by assumption)))), Gen.keep hb4 (And.left (And.right (And.right (And.right (by assumption))))), Gen.keep hb4 (And.right (And.right (And.right (And.right (by assumption)))))⟩))
      | fail "arm")
  all_goals
    have HF := Lib.hid hS5.1
    go_wp2
    go_ret
    exact ⟨rfl, HF.out⟩
end
end Go.Proofs.YtnifkianjpjahaaDoor.Bg
