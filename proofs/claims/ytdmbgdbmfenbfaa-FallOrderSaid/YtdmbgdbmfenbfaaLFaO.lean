/- Fall: FallOrder. -/
import Derived.Test.YtdmbgdbmfenbfaaLFaK
import Derived.Test.YtdmbgdbmfenbfaaFaS
import Derived.Deep.DeepCutAuto
import Derived.Deep.Cut
namespace Go.Proofs.Ytdmbgdbmfenbfaa.Fa
open Go.ChangeShapes Go.WideShapes Go.ChangeAt Go.RowKit Go.Proofs.Ytdmbgdbmfenbfaa.Cell
set_option linter.unusedVariables false
set_option linter.unusedSimpArgs false

theorem three_lit (c r t e m : Int) (tr : List Tr) (te : List Te) (st : List St) (A1 A2 A3 : Option Addr) (c1 c2 c3 q v z : Nat) (w : World) (hq : tr.length = q) (hv : te.length = v) (hz : st.length = z) (h : Dm w ⟨c, r, t, e, tr, te, st⟩ ⟨A1, c1, A2, c2, A3, c3⟩) (hg : rgb ⟨c, r, t, e, tr, te, st⟩ = true) : Calls Try.prog 8 #[.agg #[.int .i64 c, .int .i64 r, .int .i64 t, .int .i64 e, .slice A1 q c1, .slice A2 v c2, .slice A3 z c3], .int .i64 m] w fun e' w' =>
    (∃ n, (n = 1 ∨ n = 3) ∧ e' = .returned (errv n) ∧ Below w.heap.size w w') ∨ (mon m ∧ m + t ≤ 1000000000000000 ∧ ∃ xs fp fr ft fe ftr B1 d1 B2 d2 B3 d3 At ct, dwn ⟨c, r, t, e, tr, te, st⟩ m = (xs, ⟨fp, fr, ft, fe, ftr⟩) ∧ fe ≤ 1000000000000000 ∧
      e' = .returned (.tuple #[.agg #[.int .i64 c, .int .i64 fr, .int .i64 (ft + fp), .int .i64 fe, .slice B1 q d1, .slice B2 v d2, .slice B3 z d3], .slice At z ct, .int .i64 0]) ∧ Dm w' ⟨c, fr, ft + fp, fe, ftr, te, st⟩ ⟨B1, d1, B2, d2, B3, d3⟩ ∧ Ints w' At xs ∧ Below w.heap.size w w' ∧ ftr.length = q ∧ xs.length = z ∧ q ≤ d1) := by
  by_cases hm : mon m
  · refine (two_lit c r t e m tr te st A1 A2 A3 c1 c2 c3 q v z w hq hv hz h hg hm).mono ?_
    rintro e' w' (⟨h1, h2, h3⟩ | ⟨h1, h2⟩)
    · exact .inl ⟨3, .inr rfl, h1, h3⟩
    · exact .inr ⟨hm, h1, h2⟩
  · refine (run_mon c r t e m tr te st A1 A2 A3 c1 c2 c3 q v z w hq hv hz h hg hm).mono ?_
    rintro e' w' ⟨h1, h2⟩
    exact .inl ⟨1, .inl rfl, h1, h2⟩
def EmptyAt (d : Dl) (m : Int) (i : Nat) (b : Bool) : Prop := b = true → (fl d m i).p = 0 ∧ (fl d m i).r = 0
def ShutAt (d : Dl) (m : Int) (i : Nat) (b : Bool) : Prop := b = true → (fl d m i).p = 0
/-- what a round of FallOrder wants -/
structure Rnd (d : Dl) (m : Int) (i : Nat) (s : St) (x : Int) : Prop where
  emp : ∀ b, EmptyAt d m i b → (b = true → x = 0) ∧ EmptyAt d m (i + 1) b
  shu : ∀ b, ShutAt d m i b → (b = true → s.k ≠ 0 → x = 0) ∧ ShutAt d m (i + 1) b
  trp : s.k = 3 → 0 < x → ShutAt d m (i + 1) true
  rst : s.k = 4 → ShutAt d m (i + 1) true
  pay : s.k = 0 → noMore d.st s.n i d.st.length = true → ∀ u, dueAt (dwn d m).2 s.n.toNat = some u → 0 < u → EmptyAt d m (i + 1) true
theorem rnd_of {d : Dl} (h : Rgt d) {m : Int} (hm : mon m) (hb : m + d.t ≤ 1000000000000000) {i : Nat} {s : St} {x : Int} (hs : d.st[i]? = some s) (hx : (dwn d m).1[i]? = some x) : Rnd d m i s x := by
  rw [fl_at hs] at hx
  injection hx with hx
  subst hx
  obtain ⟨h1, h2⟩ := fl_ok h hm hb i
  have hso := h.st s (List.mem_of_getElem? hs)
  refine ⟨fun b he => ⟨fun hb => ?_, fun hb => ?_⟩, fun b he => ⟨fun hb k0 => ?_, fun hb => ?_⟩, fun k3 hx _ => ?_, fun k4 _ => ?_, fun k0 hl u hd hu _ => ?_⟩
  · exact (dry1 (c := d.c) h1 hso h2 (he hb).1 (he hb).2).2.2
  · rw [fl_succ hs]
    have := dry1 (c := d.c) h1 hso h2 (he hb).1 (he hb).2
    exact ⟨this.1, this.2.1⟩
  · exact (dry0 (c := d.c) h1 hso h2 (he hb)).2 k0
  · rw [fl_succ hs]
    exact (dry0 (c := d.c) h1 hso h2 (he hb)).1
  · rw [fl_succ hs]
    exact shuts (.inl ⟨k3, hx⟩)
  · rw [fl_succ hs]
    exact shuts (.inr k4)
  · exact last_pay h hm hb hs k0 hl hd hu
section
variable (c r t e m : Int) (tr : List Tr) (te : List Te) (st : List St) (A1 A2 A3 : Option Addr) (c1 c2 c3 q v z : Nat) (w : World)
set_option maxRecDepth 100000 in
set_option maxHeartbeats 8000000 in
theorem order_no (hq : tr.length = q) (hv : te.length = v) (hz : st.length = z) (h : Dm w ⟨c, r, t, e, tr, te, st⟩ ⟨A1, c1, A2, c2, A3, c3⟩) (hg : rgb ⟨c, r, t, e, tr, te, st⟩ = false) :
    Calls Try.prog 5 #[.agg #[.int .i64 c, .int .i64 r, .int .i64 t, .int .i64 e, .slice A1 q c1, .slice A2 v c2, .slice A3 z c3], .int .i64 m] w fun e' w' => e' = .returned (.bool true) ∧ Below w.heap.size w w' := by
  have hB0 : Below w.heap.size w (w.alloc (.cells #[.int .i64 c, .int .i64 r, .int .i64 t, .int .i64 e, .slice A1 q c1, .slice A2 v c2, .slice A3 z c3] 26)) := Gen.b_alloc (Below.refl _ _)
  have HD0 := Lib.hid (show Row (w.alloc (.cells #[.int .i64 c, .int .i64 r, .int .i64 t, .int .i64 e, .slice A1 q c1, .slice A2 v c2, .slice A3 z c3] 26)) w.heap.size 26 #[.int .i64 c, .int .i64 r, .int .i64 t, .int .i64 e, .slice A1 q c1, .slice A2 v c2, .slice A3 z c3] from Row.new _ _ _)
  have HM0 := Lib.hid (h.keep hB0)
  have HB0 := Lib.hid hB0
  have HQ := Lib.hid hq
  have HV := Lib.hid hv
  have HZ := Lib.hid hz
  have HG := Lib.hid hg
  clear hg
  clear hB0 h hq hv hz
  go_enter Try.func5, Try.ntmps5
  go_wp2_with (fail)
  go_must (refine (small_any _).mono ?_)
  rintro e1 w1 ⟨rfl, hb⟩
  have HB1 := Lib.hid (Gen.over hb HB0.out)
  have HD1 := Lib.hid (HD0.out.keep hb)
  have HM1 := Lib.hid (HM0.out.keep hb)
  have k0 : w1.cell? ⟨w.heap.size, 0, none⟩ = some (.int .i64 c) := HD1.out.cell 0
  have k1 : w1.cell? ⟨w.heap.size, 1, none⟩ = some (.int .i64 r) := HD1.out.cell 1
  have k2 : w1.cell? ⟨w.heap.size, 2, none⟩ = some (.int .i64 t) := HD1.out.cell 2
  have k3 : w1.cell? ⟨w.heap.size, 3, none⟩ = some (.int .i64 e) := HD1.out.cell 3
  have k4 : w1.cell? ⟨w.heap.size, 4, none⟩ = some (.slice A1 q c1) := HD1.out.cell 4
  have k5 : w1.cell? ⟨w.heap.size, 5, none⟩ = some (.slice A2 v c2) := HD1.out.cell 5
  have k6 : w1.cell? ⟨w.heap.size, 6, none⟩ = some (.slice A3 z c3) := HD1.out.cell 6
  clear hb
  go_wp2_with (fail)
  go_must (refine (right_lit c r t e tr te st _ _ _ _ _ _ _ _ _ _ HQ.out HV.out HZ.out HM1.out).mono ?_)
  rintro e2 w2 ⟨rfl, hb⟩
  rw [HG.out]
  have HB2 := Lib.hid (Gen.over hb HB1.out)
  have HD2 := Lib.hid (HD1.out.keep hb)
  have HM2 := Lib.hid (HM1.out.keep hb)
  clear hb k0 k1 k2 k3 k4 k5 k6
  go_wp2
  go_ret
  exact ⟨rfl, HB2.out⟩
end
section
variable (c r t e m : Int) (tr : List Tr) (te : List Te) (st : List St) (A1 A2 A3 : Option Addr) (c1 c2 c3 q v z : Nat) (w : World)
set_option maxRecDepth 100000 in
set_option maxHeartbeats 8000000 in
theorem order_yes (hq : tr.length = q) (hv : te.length = v) (hz : st.length = z) (h : Dm w ⟨c, r, t, e, tr, te, st⟩ ⟨A1, c1, A2, c2, A3, c3⟩) (hg : rgb ⟨c, r, t, e, tr, te, st⟩ = true) :
    Calls Try.prog 5 #[.agg #[.int .i64 c, .int .i64 r, .int .i64 t, .int .i64 e, .slice A1 q c1, .slice A2 v c2, .slice A3 z c3], .int .i64 m] w fun e' w' => e' = .returned (.bool true) ∧ Below w.heap.size w w' := by
  have hB0 : Below w.heap.size w (w.alloc (.cells #[.int .i64 c, .int .i64 r, .int .i64 t, .int .i64 e, .slice A1 q c1, .slice A2 v c2, .slice A3 z c3] 26)) := Gen.b_alloc (Below.refl _ _)
  have HD0 := Lib.hid (show Row (w.alloc (.cells #[.int .i64 c, .int .i64 r, .int .i64 t, .int .i64 e, .slice A1 q c1, .slice A2 v c2, .slice A3 z c3] 26)) w.heap.size 26 #[.int .i64 c, .int .i64 r, .int .i64 t, .int .i64 e, .slice A1 q c1, .slice A2 v c2, .slice A3 z c3] from Row.new _ _ _)
  have HM0 := Lib.hid (h.keep hB0)
  have HB0 := Lib.hid hB0
  have HQ := Lib.hid hq
  have HV := Lib.hid hv
  have HZ := Lib.hid hz
  have HG := Lib.hid hg
  clear hg
  clear hB0 h hq hv hz
  go_enter Try.func5, Try.ntmps5
  go_wp2_with (fail)
  go_must (refine (small_any _).mono ?_)
  rintro e1 w1 ⟨rfl, hb⟩
  have HB1 := Lib.hid (Gen.over hb HB0.out)
  have HD1 := Lib.hid (HD0.out.keep hb)
  have HM1 := Lib.hid (HM0.out.keep hb)
  have k0 : w1.cell? ⟨w.heap.size, 0, none⟩ = some (.int .i64 c) := HD1.out.cell 0
  have k1 : w1.cell? ⟨w.heap.size, 1, none⟩ = some (.int .i64 r) := HD1.out.cell 1
  have k2 : w1.cell? ⟨w.heap.size, 2, none⟩ = some (.int .i64 t) := HD1.out.cell 2
  have k3 : w1.cell? ⟨w.heap.size, 3, none⟩ = some (.int .i64 e) := HD1.out.cell 3
  have k4 : w1.cell? ⟨w.heap.size, 4, none⟩ = some (.slice A1 q c1) := HD1.out.cell 4
  have k5 : w1.cell? ⟨w.heap.size, 5, none⟩ = some (.slice A2 v c2) := HD1.out.cell 5
  have k6 : w1.cell? ⟨w.heap.size, 6, none⟩ = some (.slice A3 z c3) := HD1.out.cell 6
  clear hb
  go_wp2_with (fail)
  go_must (refine (right_lit c r t e tr te st _ _ _ _ _ _ _ _ _ _ HQ.out HV.out HZ.out HM1.out).mono ?_)
  rintro e2 w2 ⟨rfl, hb⟩
  rw [HG.out]
  have HB2 := Lib.hid (Gen.over hb HB1.out)
  have HD2 := Lib.hid (HD1.out.keep hb)
  have HM2 := Lib.hid (HM1.out.keep hb)
  clear hb k0 k1 k2 k3 k4 k5 k6
  have k0 : w2.cell? ⟨w.heap.size, 0, none⟩ = some (.int .i64 c) := HD2.out.cell 0
  have k1 : w2.cell? ⟨w.heap.size, 1, none⟩ = some (.int .i64 r) := HD2.out.cell 1
  have k2 : w2.cell? ⟨w.heap.size, 2, none⟩ = some (.int .i64 t) := HD2.out.cell 2
  have k3 : w2.cell? ⟨w.heap.size, 3, none⟩ = some (.int .i64 e) := HD2.out.cell 3
  have k4 : w2.cell? ⟨w.heap.size, 4, none⟩ = some (.slice A1 q c1) := HD2.out.cell 4
  have k5 : w2.cell? ⟨w.heap.size, 5, none⟩ = some (.slice A2 v c2) := HD2.out.cell 5
  have k6 : w2.cell? ⟨w.heap.size, 6, none⟩ = some (.slice A3 z c3) := HD2.out.cell 6
  go_wp2_with (fail)
  go_must (refine (three_lit c r t e m tr te st _ _ _ _ _ _ _ _ _ _ HQ.out HV.out HZ.out HM2.out HG.out).mono ?_)
  intro e3 w3 hcase
  have HRG := Lib.hid (rgb_iff.1 HG.out)
  have hl1 : q ≤ 40 := by rw [← HQ.out]; exact HRG.out.l1
  have hl3 : z ≤ 40 := by rw [← HZ.out]; exact HRG.out.l3
  clear k0 k1 k2 k3 k4 k5 k6
  rcases hcase with ⟨n, hn, rfl, hb⟩ | ⟨hm, hs, xs, fp, fr, ft, fe, ftr, B1, d1, B2, d2, B3, d3, At, ct, hd, he, rfl, hM3, hI3, hb, hfl, hxl, hqd⟩
  · have HB3 := Lib.hid (Gen.over hb HB2.out)
    have HB4 := Lib.hid (Gen.b_alloc (x := .cells #[.int .i64 0, .int .i64 0, .int .i64 0, .int .i64 0, .slice none 0 0, .slice none 0 0, .slice none 0 0] 26) HB3.out)
    clear hb
    dsimp only [errv]
    rcases hn with rfl | rfl
    all_goals
      go_wp2
      go_ret
      exact ⟨rfl, HB4.out⟩
  · dsimp only
    have HFL := Lib.hid hfl
    have HXL := Lib.hid hxl
    have hx : Below w3.heap.size w3 (w3.alloc (.cells #[.int .i64 c, .int .i64 fr, .int .i64 (ft + fp), .int .i64 fe, .slice B1 q d1, .slice B2 v d2, .slice B3 z d3] 26)) := Gen.b_alloc (Below.refl _ _)
    have HB4 := Lib.hid (Gen.over hx (Gen.over hb HB2.out))
    have HD4 := Lib.hid ((HD2.out.keep hb).keep hx)
    have HM4 := Lib.hid ((HM2.out.keep hb).keep hx)
    have HA4 := Lib.hid (show Row (w3.alloc (.cells #[.int .i64 c, .int .i64 fr, .int .i64 (ft + fp), .int .i64 fe, .slice B1 q d1, .slice B2 v d2, .slice B3 z d3] 26)) w3.heap.size 26 #[.int .i64 c, .int .i64 fr, .int .i64 (ft + fp), .int .i64 fe, .slice B1 q d1, .slice B2 v d2, .slice B3 z d3] from Row.new _ _ _)
    have HN4 := Lib.hid (hM3.keep hx)
    have HI4 := Lib.hid (hI3.keep hx)
    have hgt : ¬ (w3.heap.size = w.heap.size) := by have := (HD2.out.keep hb).lt; omega
    have HRN : Hid (∀ (i : Nat) s x, st[i]? = some s → xs[i]? = some x → Rnd ⟨c, r, t, e, tr, te, st⟩ m i s x) := Lib.hid (fun i s x h1 h2 => rnd_of HRG.out hm hs h1 (by rw [hd]; exact h2))
    have HST : Hid (∀ s ∈ st, stOk q v s) := Lib.hid (by rw [← HQ.out, ← HV.out]; exact HRG.out.st)
    have HDU : Hid (∀ (n : Nat) y, ftr[n]? = some y → dueAt (dwn ⟨c, r, t, e, tr, te, st⟩ m).2 n = some y.u) := Lib.hid (fun n y hy => by rw [hd]; unfold dueAt; dsimp only; rw [hy]; rfl)
    have HEND : Hid (∀ b, EmptyAt ⟨c, r, t, e, tr, te, st⟩ m z b → b = true → fr = 0) := Lib.hid (fun b hb1 hb2 => by
      have := (hb1 hb2).2
      rw [← HZ.out] at this
      have h9 := fl_all ⟨c, r, t, e, tr, te, st⟩ m
      dsimp only at h9
      rw [h9, hd] at this
      exact this)
    have k0 : (w3.alloc (.cells #[.int .i64 c, .int .i64 fr, .int .i64 (ft + fp), .int .i64 fe, .slice B1 q d1, .slice B2 v d2, .slice B3 z d3] 26)).cell? ⟨w.heap.size, 0, none⟩ = some (.int .i64 c) := HD4.out.cell 0
    have k1 : (w3.alloc (.cells #[.int .i64 c, .int .i64 fr, .int .i64 (ft + fp), .int .i64 fe, .slice B1 q d1, .slice B2 v d2, .slice B3 z d3] 26)).cell? ⟨w.heap.size, 1, none⟩ = some (.int .i64 r) := HD4.out.cell 1
    have k2 : (w3.alloc (.cells #[.int .i64 c, .int .i64 fr, .int .i64 (ft + fp), .int .i64 fe, .slice B1 q d1, .slice B2 v d2, .slice B3 z d3] 26)).cell? ⟨w.heap.size, 2, none⟩ = some (.int .i64 t) := HD4.out.cell 2
    have k3 : (w3.alloc (.cells #[.int .i64 c, .int .i64 fr, .int .i64 (ft + fp), .int .i64 fe, .slice B1 q d1, .slice B2 v d2, .slice B3 z d3] 26)).cell? ⟨w.heap.size, 3, none⟩ = some (.int .i64 e) := HD4.out.cell 3
    have k4 : (w3.alloc (.cells #[.int .i64 c, .int .i64 fr, .int .i64 (ft + fp), .int .i64 fe, .slice B1 q d1, .slice B2 v d2, .slice B3 z d3] 26)).cell? ⟨w.heap.size, 4, none⟩ = some (.slice A1 q c1) := HD4.out.cell 4
    have k5 : (w3.alloc (.cells #[.int .i64 c, .int .i64 fr, .int .i64 (ft + fp), .int .i64 fe, .slice B1 q d1, .slice B2 v d2, .slice B3 z d3] 26)).cell? ⟨w.heap.size, 5, none⟩ = some (.slice A2 v c2) := HD4.out.cell 5
    have k6 : (w3.alloc (.cells #[.int .i64 c, .int .i64 fr, .int .i64 (ft + fp), .int .i64 fe, .slice B1 q d1, .slice B2 v d2, .slice B3 z d3] 26)).cell? ⟨w.heap.size, 6, none⟩ = some (.slice A3 z c3) := HD4.out.cell 6
    have a0 : (w3.alloc (.cells #[.int .i64 c, .int .i64 fr, .int .i64 (ft + fp), .int .i64 fe, .slice B1 q d1, .slice B2 v d2, .slice B3 z d3] 26)).cell? ⟨w3.heap.size, 0, none⟩ = some (.int .i64 c) := HA4.out.cell 0
    have a1 : (w3.alloc (.cells #[.int .i64 c, .int .i64 fr, .int .i64 (ft + fp), .int .i64 fe, .slice B1 q d1, .slice B2 v d2, .slice B3 z d3] 26)).cell? ⟨w3.heap.size, 1, none⟩ = some (.int .i64 fr) := HA4.out.cell 1
    have a2 : (w3.alloc (.cells #[.int .i64 c, .int .i64 fr, .int .i64 (ft + fp), .int .i64 fe, .slice B1 q d1, .slice B2 v d2, .slice B3 z d3] 26)).cell? ⟨w3.heap.size, 2, none⟩ = some (.int .i64 (ft + fp)) := HA4.out.cell 2
    have a3 : (w3.alloc (.cells #[.int .i64 c, .int .i64 fr, .int .i64 (ft + fp), .int .i64 fe, .slice B1 q d1, .slice B2 v d2, .slice B3 z d3] 26)).cell? ⟨w3.heap.size, 3, none⟩ = some (.int .i64 fe) := HA4.out.cell 3
    have a4 : (w3.alloc (.cells #[.int .i64 c, .int .i64 fr, .int .i64 (ft + fp), .int .i64 fe, .slice B1 q d1, .slice B2 v d2, .slice B3 z d3] 26)).cell? ⟨w3.heap.size, 4, none⟩ = some (.slice B1 q d1) := HA4.out.cell 4
    have a5 : (w3.alloc (.cells #[.int .i64 c, .int .i64 fr, .int .i64 (ft + fp), .int .i64 fe, .slice B1 q d1, .slice B2 v d2, .slice B3 z d3] 26)).cell? ⟨w3.heap.size, 5, none⟩ = some (.slice B2 v d2) := HA4.out.cell 5
    have a6 : (w3.alloc (.cells #[.int .i64 c, .int .i64 fr, .int .i64 (ft + fp), .int .i64 fe, .slice B1 q d1, .slice B2 v d2, .slice B3 z d3] 26)).cell? ⟨w3.heap.size, 6, none⟩ = some (.slice B3 z d3) := HA4.out.cell 6
    clear hd hx hb hM3 hI3 hfl hxl HB1 HD1 HM1 HB2 HD2 HM2 HB0 HD0 HM0 hs hm
    go_wp2_with (fail)
    clear k0 k1 k2 k3 k4 k5 k6 a0 a1 a2 a3 a4 a5 a6
    obtain ⟨W4, hW4⟩ : ∃ W, W = (w3.alloc (.cells #[.int .i64 c, .int .i64 fr, .int .i64 (ft + fp), .int .i64 fe, .slice B1 q d1, .slice B2 v d2, .slice B3 z d3] 26)) := ⟨_, rfl⟩
    rw [← hW4] at HB4 HD4 HM4 HA4 HN4 HI4
    rw [← hW4]
    clear hW4
    go_loopw [9, 10, 11] (fun ev sv iv wr => ∃ (i : Nat) (ee ss : Bool), i ≤ z ∧ iv = .int .i64 i ∧ ev = .bool ee ∧ sv = .bool ss ∧ Hid (EmptyAt ⟨c, r, t, e, tr, te, st⟩ m i ee) ∧ Hid (ShutAt ⟨c, r, t, e, tr, te, st⟩ m i ss) ∧ Below W4.heap.size W4 wr) (fun _ _ iv _ => z - (intOf iv).toNat)
    case atStart => exact ⟨0, false, false, Nat.zero_le _, rfl, rfl, rfl, Lib.hid (fun h => by cases h), Lib.hid (fun h => by cases h), Below.refl _ _⟩
    case round =>
      obtain ⟨i, ee, ss, hi, rfl, rfl, rfl, HEE, HSS, hW⟩ := hrel
      have ii0 : (0 : Int) ≤ (i : Int) := by omega
      by_cases hlt : i < z
      · have hM := HM4.out.keep hW
        have hIx := HI4.out.keep hW
        obtain ⟨⟨sk, sn, sa⟩, hx⟩ := at_ st i (by rw [HZ.out]; exact hlt)
        obtain ⟨x, hxx⟩ := at_ xs i (by rw [HXL.out]; exact hlt)
        have HR := Lib.hid (HRN.out i _ x hx hxx)
        have hso := HST.out _ (mem_of_at hx)
        obtain ⟨b, off, rfl, hcell⟩ := hM.t3 (by dsimp only; rw [HZ.out]; omega)
        obtain ⟨bx, ox, rfl, hcx⟩ := hIx (by rw [HXL.out]; omega)
        have d0 := hcell i _ hx 0 _ rfl
        have d1 := hcell i _ hx 1 _ rfl
        have d2 := hcell i _ hx 2 _ rfl
        rw [Nat.add_zero] at d0
        dsimp only at d0 d1 d2
        have k6 : wr.cell? ⟨w.heap.size, 6, none⟩ = some (.slice (some ⟨b, off, none⟩) z c3) := (HD4.out.keep hW).cell 6
        have hB0 : Below wr.heap.size wr (wr.alloc (.cells #[.int .i64 sk, .int .i64 sn, .int .i64 sa] 42)) := Gen.b_alloc (Below.refl _ _)
        have cx : (wr.alloc (.cells #[.int .i64 sk, .int .i64 sn, .int .i64 sa] 42)).cell? ⟨bx, ox + i, none⟩ = some (.int .i64 x) := Gen.keep hB0 (hcx i x hxx)
        have HRW := Lib.hid (show Row (wr.alloc (.cells #[.int .i64 sk, .int .i64 sn, .int .i64 sa] 42)) wr.heap.size 42 #[.int .i64 sk, .int .i64 sn, .int .i64 sa] from Row.new _ _ _)
        have e0 : (wr.alloc (.cells #[.int .i64 sk, .int .i64 sn, .int .i64 sa] 42)).cell? ⟨wr.heap.size, 0, none⟩ = some (.int .i64 sk) := HRW.out.cell 0
        have HW0 := Lib.hid (Gen.over hB0 hW)
        have hltI : (i : Int) < (z : Int) := by omega
        have HX := Lib.hid hx
        clear hM hIx hcell hcx hxx hx hB0 hW
        unfold stOk at hso
        dsimp only at hso
        go_upto_region 15 with (fail)
        clear d0 d1 d2 k6
        go_cut [79] (fun cv wx => cv = .bool false ∧ wx = (wr.alloc (.cells #[.int .i64 sk, .int .i64 sn, .int .i64 sa] 42)))
        case first =>
          have NE := (HR.out.emp ee HEE.out).1
          have NS := (HR.out.shu ss HSS.out).1
          dsimp only at NS
          cases ee
          · cases ss
            · clear NE NS
              go_wp2
              go_meet
              exact ⟨rfl, rfl⟩
            · by_cases k0 : sk = 0
              · have b0 : (sk != 0) = false := by rw [k0]; rfl
                clear NE NS hso k0
                go_wp2
                go_meet
                exact ⟨rfl, rfl⟩
              · have b0 : (sk != 0) = true := by rw [bne_iff_ne]; exact k0
                obtain rfl : x = 0 := NS rfl k0
                clear NE NS hso k0
                go_wp2
                go_meet
                exact ⟨rfl, rfl⟩
          · obtain rfl : x = 0 := NE rfl
            by_cases k0 : sk = 0
            · have b0 : (sk != 0) = false := by rw [k0]; rfl
              clear NE NS hso k0
              cases ss
              all_goals
                go_wp2
                go_meet
                exact ⟨rfl, rfl⟩
            · have b0 : (sk != 0) = true := by rw [bne_iff_ne]; exact k0
              clear NE NS hso k0
              cases ss
              all_goals
                go_wp2
                go_meet
                exact ⟨rfl, rfl⟩
        case rest =>
          obtain ⟨rfl, rfl⟩ := hcut
          have HCX := Lib.hid cx
          rcases hso with ⟨hkk, hn1, hn2, ha⟩ | ⟨rfl, ha, hn⟩ | ⟨rfl, hn1, hn2, ha⟩ | ⟨rfl, hn, ha⟩
          · rcases hkk with rfl | rfl
            · clear ha
              have k6x := ((HD4.out.keep HW0.out).cell 6 : (wr.alloc (.cells #[.int .i64 0, .int .i64 sn, .int .i64 sa] 42)).cell? ⟨w.heap.size, 6, none⟩ = some (.slice (some ⟨b, off, none⟩) z c3))
              go_wp2_with (fail)
              clear k6x cx e0
              obtain ⟨wo, rfl⟩ : ∃ wo : World, wo = wr := ⟨_, rfl⟩
              obtain ⟨W7, hW7⟩ : ∃ W, W = (wo.alloc (.cells #[.int .i64 0, .int .i64 sn, .int .i64 sa] 42)) := ⟨_, rfl⟩
              rw [← hW7]
              rw [← hW7] at HW0 HRW HCX
              clear hW7
              go_loopw [13, 14] (fun lv kv wr => ∃ j : Nat, i + 1 ≤ j ∧ j ≤ z ∧ kv = .int .i64 j ∧ lv = .bool (noMore st sn i j) ∧ Below W7.heap.size W7 wr) (fun _ kv _ => z - (intOf kv).toNat)
              case atStart => exact ⟨i + 1, Nat.le_refl _, by omega, by go_num, by rw [noMore_start]; try rfl, Below.refl _ _⟩
              case round =>
                obtain ⟨j, hj1, hj, rfl, rfl, hW⟩ := hrel
                have jj0 : (0 : Int) ≤ (j : Int) := by omega
                have k6 : wr.cell? ⟨w.heap.size, 6, none⟩ = some (.slice (some ⟨b, off, none⟩) z c3) := ((HD4.out.keep HW0.out).keep hW).cell 6
                by_cases hlt2 : j < z
                · have hltJ : (j : Int) < (z : Int) := by omega
                  have HW8 := Lib.hid hW
                  obtain ⟨⟨yk, yn, ya⟩, hy⟩ := at_ st j (by rw [HZ.out]; exact hlt2)
                  have hM := (HM4.out.keep HW0.out).keep hW
                  have g0 := hM.t3.at hy (r := 0) rfl
                  have g1 := hM.t3.at hy (r := 1) rfl
                  rw [Nat.add_zero] at g0
                  dsimp only at g0 g1
                  have e1 : wr.cell? ⟨wo.heap.size, 1, none⟩ = some (.int .i64 sn) := (HRW.out.keep hW).cell 1
                  have HSN := Lib.hid (noMore_snoc (n := sn) hy (show i < j by omega))
                  clear hM hy hW
                  cases hlb : noMore st sn i j
                  · have HV : Hid (noMore st sn i (j + 1) = false) := Lib.hid (by rw [HSN.out, hlb]; rfl)
                    clear hlb HSN
                    go_wp2
                    go_quiet (fail)
                    go_wp2
                    go_roundw
                    case rel => first | exact ⟨j + 1, by omega, by omega, by go_num, by rw [HV.out], Gen.dN HW8.out _⟩ | exact ⟨j + 1, by omega, by omega, by go_num, by rw [HV.out]; rfl, Gen.dN HW8.out _⟩
                    case measure => simp [intOf]; omega
                  · by_cases y0 : yk = 0
                    · subst y0
                      by_cases yn0 : yn = sn
                      · have HV : Hid (noMore st sn i (j + 1) = false) := Lib.hid (by rw [HSN.out, hlb]; simp [yn0])
                        have bb : (yn != sn) = false := by rw [yn0]; simp
                        clear hlb HSN yn0
                        go_wp2
                        go_quiet (fail)
                        go_wp2
                        go_roundw
                        case rel => first | exact ⟨j + 1, by omega, by omega, by go_num, by rw [HV.out], Gen.dN HW8.out _⟩ | exact ⟨j + 1, by omega, by omega, by go_num, by rw [HV.out]; rfl, Gen.dN HW8.out _⟩
                        case measure => simp [intOf]; omega
                      · have HV : Hid (noMore st sn i (j + 1) = true) := Lib.hid (by rw [HSN.out, hlb]; simp [yn0])
                        have bb : (yn != sn) = true := by rw [bne_iff_ne]; exact yn0
                        clear hlb HSN yn0
                        go_wp2
                        go_quiet (fail)
                        go_wp2
                        go_roundw
                        case rel => first | exact ⟨j + 1, by omega, by omega, by go_num, by rw [HV.out], Gen.dN HW8.out _⟩ | exact ⟨j + 1, by omega, by omega, by go_num, by rw [HV.out]; rfl, Gen.dN HW8.out _⟩
                        case measure => simp [intOf]; omega
                    · have HV : Hid (noMore st sn i (j + 1) = true) := Lib.hid (by rw [HSN.out, hlb]; simp [y0])
                      have bb : (yk != 0) = true := by rw [bne_iff_ne]; exact y0
                      clear hlb HSN y0
                      go_wp2
                      go_quiet (fail)
                      go_wp2
                      go_roundw
                      case rel => first | exact ⟨j + 1, by omega, by omega, by go_num, by rw [HV.out], Gen.dN HW8.out _⟩ | exact ⟨j + 1, by omega, by omega, by go_num, by rw [HV.out]; rfl, Gen.dN HW8.out _⟩
                      case measure => simp [intOf]; omega
                · obtain rfl : j = z := by omega
                  have e0 : wr.cell? ⟨wo.heap.size, 0, none⟩ = some (.int .i64 0) := (HRW.out.keep hW).cell 0
                  have e1 : wr.cell? ⟨wo.heap.size, 1, none⟩ = some (.int .i64 sn) := (HRW.out.keep hW).cell 1
                  have cx : wr.cell? ⟨bx, ox + i, none⟩ = some (.int .i64 x) := Gen.keep hW HCX.out
                  have HW9 := Lib.hid (Gen.over hW HW0.out)
                  have hE := (HR.out.emp ee HEE.out).2
                  have hS := (HR.out.shu ss HSS.out).2
                  have HE := Lib.hid hE
                  have HS := Lib.hid hS
                  obtain ⟨n, rfl⟩ := Int.eq_ofNat_of_zero_le hn1
                  obtain ⟨⟨yb, yu⟩, hy⟩ := at_ ftr n (by rw [HFL.out]; omega)
                  obtain ⟨bb, ob, rfl, hcb⟩ := ((HN4.out.keep HW0.out).keep hW).t1 (by dsimp only; rw [HFL.out]; omega)
                  have g1 := hcb n _ hy 1 _ rfl
                  have a4 : wr.cell? ⟨w3.heap.size, 4, none⟩ = some (.slice (some ⟨bb, ob, none⟩) q d1) := ((HA4.out.keep HW0.out).keep hW).cell 4
                  dsimp only at g1
                  have HDU1 := Lib.hid (HDU.out n _ hy)
                  have hn3 : (n : Int) < (q : Int) := hn2
                  have hn0 : (0 : Int) ≤ (n : Int) := by omega
                  clear hcb hy hW hE hS hn1 hn2
                  cases hlb : noMore st (n : Int) i j
                  · clear hlb
                    cases ss
                    all_goals
                      go_wp2
                      go_roundw
                      case rel => first | exact ⟨i + 1, ee, _, by omega, by go_num, rfl, rfl, HE, HS, HW9.out⟩ | exact ⟨i + 1, ee, _, by omega, by go_num, HE, HS, HW9.out⟩
                      case measure => simp [intOf]; omega
                  · by_cases hu : 0 < yu
                    · have HE2 := Lib.hid (HR.out.pay rfl (by rw [HZ.out]; exact hlb) yu (by rw [Int.toNat_natCast]; exact HDU1.out) hu)
                      have bu : decide (0 < yu) = true := decide_eq_true hu
                      clear hlb
                      cases ss
                      all_goals
                        go_wp2
                        go_roundw
                        case rel => first | exact ⟨i + 1, true, _, by omega, by go_num, rfl, rfl, HE2, HS, HW9.out⟩ | exact ⟨i + 1, true, _, by omega, by go_num, HE2, HS, HW9.out⟩
                        case measure => simp [intOf]; omega
                    · have bu : decide (0 < yu) = false := decide_eq_false hu
                      clear hlb
                      cases ss
                      all_goals
                        go_wp2
                        go_roundw
                        case rel => first | exact ⟨i + 1, ee, _, by omega, by go_num, rfl, rfl, HE, HS, HW9.out⟩ | exact ⟨i + 1, ee, _, by omega, by go_num, HE, HS, HW9.out⟩
                        case measure => simp [intOf]; omega
            · clear ha hn1 hn2
              have k6x := ((HD4.out.keep HW0.out).cell 6 : (wr.alloc (.cells #[.int .i64 1, .int .i64 sn, .int .i64 sa] 42)).cell? ⟨w.heap.size, 6, none⟩ = some (.slice (some ⟨b, off, none⟩) z c3))
              go_wp2_with (fail)
              clear k6x cx e0
              obtain ⟨wo, rfl⟩ : ∃ wo : World, wo = wr := ⟨_, rfl⟩
              obtain ⟨W7, hW7⟩ : ∃ W, W = (wo.alloc (.cells #[.int .i64 1, .int .i64 sn, .int .i64 sa] 42)) := ⟨_, rfl⟩
              rw [← hW7]
              rw [← hW7] at HW0 HRW HCX
              clear hW7
              go_loopw [13, 14] (fun lv kv wr => ∃ j : Nat, i + 1 ≤ j ∧ j ≤ z ∧ kv = .int .i64 j ∧ lv = .bool (false) ∧ Below W7.heap.size W7 wr) (fun _ kv _ => z - (intOf kv).toNat)
              case atStart => exact ⟨i + 1, Nat.le_refl _, by omega, by go_num, by try rfl, Below.refl _ _⟩
              case round =>
                obtain ⟨j, hj1, hj, rfl, rfl, hW⟩ := hrel
                have jj0 : (0 : Int) ≤ (j : Int) := by omega
                have k6 : wr.cell? ⟨w.heap.size, 6, none⟩ = some (.slice (some ⟨b, off, none⟩) z c3) := ((HD4.out.keep HW0.out).keep hW).cell 6
                by_cases hlt2 : j < z
                · have hltJ : (j : Int) < (z : Int) := by omega
                  have HW8 := Lib.hid hW
                  clear hW
                  go_wp2
                  go_quiet (fail)
                  go_wp2
                  go_roundw
                  case rel => exact ⟨j + 1, by omega, by omega, by go_num, by try rfl, Gen.dN HW8.out _⟩
                  case measure => simp [intOf]; omega
                · obtain rfl : j = z := by omega
                  have e0 : wr.cell? ⟨wo.heap.size, 0, none⟩ = some (.int .i64 1) := (HRW.out.keep hW).cell 0
                  have e1 : wr.cell? ⟨wo.heap.size, 1, none⟩ = some (.int .i64 sn) := (HRW.out.keep hW).cell 1
                  have cx : wr.cell? ⟨bx, ox + i, none⟩ = some (.int .i64 x) := Gen.keep hW HCX.out
                  have HW9 := Lib.hid (Gen.over hW HW0.out)
                  have hE := (HR.out.emp ee HEE.out).2
                  have hS := (HR.out.shu ss HSS.out).2
                  have HE := Lib.hid hE
                  have HS := Lib.hid hS
                  clear hW hE hS
                  cases ss
                  all_goals
                    go_wp2
                    go_roundw
                    case rel => first | exact ⟨i + 1, ee, _, by omega, by go_num, rfl, rfl, HE, HS, HW9.out⟩ | exact ⟨i + 1, ee, _, by omega, by go_num, HE, HS, HW9.out⟩
                    case measure => simp [intOf]; omega
          · clear ha hn
            have k6x := ((HD4.out.keep HW0.out).cell 6 : (wr.alloc (.cells #[.int .i64 2, .int .i64 sn, .int .i64 sa] 42)).cell? ⟨w.heap.size, 6, none⟩ = some (.slice (some ⟨b, off, none⟩) z c3))
            go_wp2_with (fail)
            clear k6x cx e0
            obtain ⟨wo, rfl⟩ : ∃ wo : World, wo = wr := ⟨_, rfl⟩
            obtain ⟨W7, hW7⟩ : ∃ W, W = (wo.alloc (.cells #[.int .i64 2, .int .i64 sn, .int .i64 sa] 42)) := ⟨_, rfl⟩
            rw [← hW7]
            rw [← hW7] at HW0 HRW HCX
            clear hW7
            go_loopw [13, 14] (fun lv kv wr => ∃ j : Nat, i + 1 ≤ j ∧ j ≤ z ∧ kv = .int .i64 j ∧ lv = .bool (false) ∧ Below W7.heap.size W7 wr) (fun _ kv _ => z - (intOf kv).toNat)
            case atStart => exact ⟨i + 1, Nat.le_refl _, by omega, by go_num, by try rfl, Below.refl _ _⟩
            case round =>
              obtain ⟨j, hj1, hj, rfl, rfl, hW⟩ := hrel
              have jj0 : (0 : Int) ≤ (j : Int) := by omega
              have k6 : wr.cell? ⟨w.heap.size, 6, none⟩ = some (.slice (some ⟨b, off, none⟩) z c3) := ((HD4.out.keep HW0.out).keep hW).cell 6
              by_cases hlt2 : j < z
              · have hltJ : (j : Int) < (z : Int) := by omega
                have HW8 := Lib.hid hW
                clear hW
                go_wp2
                go_quiet (fail)
                go_wp2
                go_roundw
                case rel => exact ⟨j + 1, by omega, by omega, by go_num, by try rfl, Gen.dN HW8.out _⟩
                case measure => simp [intOf]; omega
              · obtain rfl : j = z := by omega
                have e0 : wr.cell? ⟨wo.heap.size, 0, none⟩ = some (.int .i64 2) := (HRW.out.keep hW).cell 0
                have e1 : wr.cell? ⟨wo.heap.size, 1, none⟩ = some (.int .i64 sn) := (HRW.out.keep hW).cell 1
                have cx : wr.cell? ⟨bx, ox + i, none⟩ = some (.int .i64 x) := Gen.keep hW HCX.out
                have HW9 := Lib.hid (Gen.over hW HW0.out)
                have hE := (HR.out.emp ee HEE.out).2
                have hS := (HR.out.shu ss HSS.out).2
                have HE := Lib.hid hE
                have HS := Lib.hid hS
                clear hW hE hS
                cases ss
                all_goals
                  go_wp2
                  go_roundw
                  case rel => first | exact ⟨i + 1, ee, _, by omega, by go_num, rfl, rfl, HE, HS, HW9.out⟩ | exact ⟨i + 1, ee, _, by omega, by go_num, HE, HS, HW9.out⟩
                  case measure => simp [intOf]; omega
          · clear ha hn1 hn2
            have k6x := ((HD4.out.keep HW0.out).cell 6 : (wr.alloc (.cells #[.int .i64 3, .int .i64 sn, .int .i64 sa] 42)).cell? ⟨w.heap.size, 6, none⟩ = some (.slice (some ⟨b, off, none⟩) z c3))
            go_wp2_with (fail)
            clear k6x cx e0
            obtain ⟨wo, rfl⟩ : ∃ wo : World, wo = wr := ⟨_, rfl⟩
            obtain ⟨W7, hW7⟩ : ∃ W, W = (wo.alloc (.cells #[.int .i64 3, .int .i64 sn, .int .i64 sa] 42)) := ⟨_, rfl⟩
            rw [← hW7]
            rw [← hW7] at HW0 HRW HCX
            clear hW7
            go_loopw [13, 14] (fun lv kv wr => ∃ j : Nat, i + 1 ≤ j ∧ j ≤ z ∧ kv = .int .i64 j ∧ lv = .bool (false) ∧ Below W7.heap.size W7 wr) (fun _ kv _ => z - (intOf kv).toNat)
            case atStart => exact ⟨i + 1, Nat.le_refl _, by omega, by go_num, by try rfl, Below.refl _ _⟩
            case round =>
              obtain ⟨j, hj1, hj, rfl, rfl, hW⟩ := hrel
              have jj0 : (0 : Int) ≤ (j : Int) := by omega
              have k6 : wr.cell? ⟨w.heap.size, 6, none⟩ = some (.slice (some ⟨b, off, none⟩) z c3) := ((HD4.out.keep HW0.out).keep hW).cell 6
              by_cases hlt2 : j < z
              · have hltJ : (j : Int) < (z : Int) := by omega
                have HW8 := Lib.hid hW
                clear hW
                go_wp2
                go_quiet (fail)
                go_wp2
                go_roundw
                case rel => exact ⟨j + 1, by omega, by omega, by go_num, by try rfl, Gen.dN HW8.out _⟩
                case measure => simp [intOf]; omega
              · obtain rfl : j = z := by omega
                have e0 : wr.cell? ⟨wo.heap.size, 0, none⟩ = some (.int .i64 3) := (HRW.out.keep hW).cell 0
                have e1 : wr.cell? ⟨wo.heap.size, 1, none⟩ = some (.int .i64 sn) := (HRW.out.keep hW).cell 1
                have cx : wr.cell? ⟨bx, ox + i, none⟩ = some (.int .i64 x) := Gen.keep hW HCX.out
                have HW9 := Lib.hid (Gen.over hW HW0.out)
                have hE := (HR.out.emp ee HEE.out).2
                have hS := (HR.out.shu ss HSS.out).2
                have HE := Lib.hid hE
                have HS := Lib.hid hS
                clear hW hE hS
                by_cases hu : 0 < x
                · have HS2 := Lib.hid (HR.out.trp rfl hu)
                  have bu : decide (0 < x) = true := decide_eq_true hu
                  cases ss
                  all_goals
                    go_wp2
                    go_roundw
                    case rel => first | exact ⟨i + 1, ee, true, by omega, by go_num, rfl, rfl, HE, HS2, HW9.out⟩ | exact ⟨i + 1, ee, true, by omega, by go_num, HE, HS2, HW9.out⟩
                    case measure => simp [intOf]; omega
                · have bu : decide (0 < x) = false := decide_eq_false hu
                  cases ss
                  all_goals
                    go_wp2
                    go_roundw
                    case rel => first | exact ⟨i + 1, ee, _, by omega, by go_num, rfl, rfl, HE, HS, HW9.out⟩ | exact ⟨i + 1, ee, _, by omega, by go_num, HE, HS, HW9.out⟩
                    case measure => simp [intOf]; omega
          · clear ha hn
            have k6x := ((HD4.out.keep HW0.out).cell 6 : (wr.alloc (.cells #[.int .i64 4, .int .i64 sn, .int .i64 sa] 42)).cell? ⟨w.heap.size, 6, none⟩ = some (.slice (some ⟨b, off, none⟩) z c3))
            go_wp2_with (fail)
            clear k6x cx e0
            obtain ⟨wo, rfl⟩ : ∃ wo : World, wo = wr := ⟨_, rfl⟩
            obtain ⟨W7, hW7⟩ : ∃ W, W = (wo.alloc (.cells #[.int .i64 4, .int .i64 sn, .int .i64 sa] 42)) := ⟨_, rfl⟩
            rw [← hW7]
            rw [← hW7] at HW0 HRW HCX
            clear hW7
            go_loopw [13, 14] (fun lv kv wr => ∃ j : Nat, i + 1 ≤ j ∧ j ≤ z ∧ kv = .int .i64 j ∧ lv = .bool (false) ∧ Below W7.heap.size W7 wr) (fun _ kv _ => z - (intOf kv).toNat)
            case atStart => exact ⟨i + 1, Nat.le_refl _, by omega, by go_num, by try rfl, Below.refl _ _⟩
            case round =>
              obtain ⟨j, hj1, hj, rfl, rfl, hW⟩ := hrel
              have jj0 : (0 : Int) ≤ (j : Int) := by omega
              have k6 : wr.cell? ⟨w.heap.size, 6, none⟩ = some (.slice (some ⟨b, off, none⟩) z c3) := ((HD4.out.keep HW0.out).keep hW).cell 6
              by_cases hlt2 : j < z
              · have hltJ : (j : Int) < (z : Int) := by omega
                have HW8 := Lib.hid hW
                clear hW
                go_wp2
                go_quiet (fail)
                go_wp2
                go_roundw
                case rel => exact ⟨j + 1, by omega, by omega, by go_num, by try rfl, Gen.dN HW8.out _⟩
                case measure => simp [intOf]; omega
              · obtain rfl : j = z := by omega
                have e0 : wr.cell? ⟨wo.heap.size, 0, none⟩ = some (.int .i64 4) := (HRW.out.keep hW).cell 0
                have e1 : wr.cell? ⟨wo.heap.size, 1, none⟩ = some (.int .i64 sn) := (HRW.out.keep hW).cell 1
                have cx : wr.cell? ⟨bx, ox + i, none⟩ = some (.int .i64 x) := Gen.keep hW HCX.out
                have HW9 := Lib.hid (Gen.over hW HW0.out)
                have hE := (HR.out.emp ee HEE.out).2
                have hS := (HR.out.shu ss HSS.out).2
                have HE := Lib.hid hE
                have HS := Lib.hid hS
                clear hW hE hS
                have HS2 := Lib.hid (HR.out.rst rfl)
                cases ss
                all_goals
                  go_wp2
                  go_roundw
                  case rel => first | exact ⟨i + 1, ee, true, by omega, by go_num, rfl, rfl, HE, HS2, HW9.out⟩ | exact ⟨i + 1, ee, true, by omega, by go_num, HE, HS2, HW9.out⟩
                  case measure => simp [intOf]; omega
      · obtain rfl : i = z := by omega
        have k1 : wr.cell? ⟨w3.heap.size, 1, none⟩ = some (.int .i64 fr) := (HA4.out.keep hW).cell 1
        have HB9 := Lib.hid (Gen.over hW HB4.out)
        clear hW
        cases ee
        · go_wp2
          go_ret
          exact ⟨rfl, HB9.out⟩
        · obtain rfl : fr = 0 := HEND.out true HEE.out rfl
          go_wp2
          go_ret
          exact ⟨rfl, HB9.out⟩
end
theorem order_any (d : Dl) (p : Pl) (m : Int) (w : World) (h : Dm w d p) : Calls Try.prog 5 #[dval d p, .int .i64 m] w fun e' w' => e' = .returned (.bool true) ∧ Below w.heap.size w w' := by
  obtain ⟨c, r, t, e, tr, te, st⟩ := d
  obtain ⟨A1, c1, A2, c2, A3, c3⟩ := p
  by_cases hg : rgb ⟨c, r, t, e, tr, te, st⟩ = true
  · exact order_yes c r t e m tr te st A1 A2 A3 c1 c2 c3 _ _ _ w rfl rfl rfl h hg
  · exact order_no c r t e m tr te st A1 A2 A3 c1 c2 c3 _ _ _ w rfl rfl rfl h (by simpa using hg)
end Go.Proofs.Ytdmbgdbmfenbfaa.Fa
