/- Restatements: the law's values; small. -/
import Derived.Test.YtohbdffmidbjhaaReW
namespace Go.Proofs.Ytohbdffmidbjhaa.Re
open Go.ChangeShapes Go.WideShapes Go.ChangeAt Go.RowKit Go.Maps Go.Proofs.Ytohbdffmidbjhaa.Cell Go.Proofs.Ytohbdffmidbjhaa.Rk
set_option linter.unusedVariables false
set_option linter.unusedSimpArgs false
/-- Changed, its result as a list in memory -/
theorem changed_l {w : World} {A Af : Option Addr} {n c nf cf : Nat} {l : List Dv} {facts : List Int} (hn : l.length = n) (hc : Dvs w A l) (hnf : facts.length = nf) (hcf : Ints w Af facts) (hbig : n ≤ 1000000) (hbf : nf ≤ 1000000)
    (hin : ∀ d ∈ l, d.fr.length ≤ 1000000 ∧ d.fa.length ≤ 1000000) (hwf : ∀ x ∈ facts, wfI x) (hwd : ∀ d ∈ l, ∀ x ∈ d.fa, wfI x) :
    Calls Try.prog 15 #[.slice A n c, .slice Af nf cf] w fun e w' => ∃ B m d, m = (chg facts l).length ∧ e = .returned (.slice B m d) ∧ Ints w' B (chg facts l) ∧ Below w.heap.size w w' := by
  refine (changed_any hn hc hnf hcf hbig hbf hin hwf hwd).mono ?_
  rintro e w' ⟨v, m, rfl, hb, ho⟩
  obtain ⟨B, d, rfl, _⟩ := Gen.own_slice ho
  have hm : m = (chg facts l).length := by have := ho.1; unfold ils at this; rw [List.length_map] at this; omega
  exact ⟨B, m, d, hm, rfl, ints_own ho, hb⟩
theorem chg_le (facts : List Int) (l : List Dv) : (chg facts l).length ≤ l.length := by
  unfold chg
  split
  · have : ∀ k, (ch facts l k).length ≤ k := fun k => by
      unfold ch
      have := List.length_filterMap_le (fun (i : Nat) => if (us facts l l.length)[i]?.getD false = true then some (Int.ofNat i) else none) (List.range k)
      rwa [List.length_range] at this
    exact this _
  · simp
theorem row_ints {w : World} {g : Nat} {t : TypeId} {l : List Int} (h : Row w g t ⟨ils l⟩) : Ints w (some ⟨g, 0, none⟩) l := fun h0 => ⟨g, 0, rfl, fun j z hz => by
  rw [Nat.zero_add, h.cell j]
  unfold ils
  simp [hz]⟩
/-- the law's values -/
def VL : List Dv := [⟨[], [7]⟩, ⟨[], [8]⟩, ⟨[0, 1], []⟩, ⟨[1], []⟩]
theorem vl_rows {W : World} {s : Nat} (r0 : Row W s 3 #[.int .i64 7]) (r1 : Row W (s + 1) 3 #[.int .i64 8]) (r2 : Row W (s + 2) 3 #[.int .i64 0, .int .i64 1]) (r3 : Row W (s + 3) 3 #[.int .i64 1])
    (r4 : Row W (s + 4) 38 #[.slice none 0 0, .slice (some ⟨s, 0, none⟩) 1 1, .slice none 0 0, .slice (some ⟨s + 1, 0, none⟩) 1 1, .slice (some ⟨s + 2, 0, none⟩) 2 2, .slice none 0 0, .slice (some ⟨s + 3, 0, none⟩) 1 1, .slice none 0 0]) :
    Dvs W (some ⟨s + 4, 0, none⟩) VL := fun h0 => by
  have i0 : Ints W (some ⟨s, 0, none⟩) [7] := row_ints (t := 3) r0
  have i1 : Ints W (some ⟨s + 1, 0, none⟩) [8] := row_ints (t := 3) r1
  have i2 : Ints W (some ⟨s + 2, 0, none⟩) [0, 1] := row_ints (t := 3) r2
  have i3 : Ints W (some ⟨s + 3, 0, none⟩) [1] := row_ints (t := 3) r3
  have nl : ∀ A, Ints W A [] := fun A h => by simp at h
  refine ⟨s + 4, 0, rfl, fun j d hd => ?_⟩
  match j with
  | 0 => obtain rfl : (⟨[], [7]⟩ : Dv) = d := by simpa [VL] using hd
         exact ⟨none, 0, some ⟨s, 0, none⟩, 1, r4.cell 0, r4.cell 1, nl _, i0⟩
  | 1 => obtain rfl : (⟨[], [8]⟩ : Dv) = d := by simpa [VL] using hd
         exact ⟨none, 0, some ⟨s + 1, 0, none⟩, 1, r4.cell 2, r4.cell 3, nl _, i1⟩
  | 2 => obtain rfl : (⟨[0, 1], []⟩ : Dv) = d := by simpa [VL] using hd
         exact ⟨some ⟨s + 2, 0, none⟩, 2, none, 0, r4.cell 4, r4.cell 5, i2, nl _⟩
  | 3 => obtain rfl : (⟨[1], []⟩ : Dv) = d := by simpa [VL] using hd
         exact ⟨some ⟨s + 3, 0, none⟩, 1, none, 0, r4.cell 6, r4.cell 7, i3, nl _⟩
  | j + 4 => simp [VL] at hd
set_option maxRecDepth 100000 in
set_option maxHeartbeats 4000000 in
theorem values_any (w : World) : Calls Try.prog 21 #[] w fun e w' => ∃ g, e = .returned (.slice (some ⟨g, 0, none⟩) 4 4) ∧ Dvs w' (some ⟨g, 0, none⟩) VL ∧ Below w.heap.size w w' := by
  go_enter Try.func21, Try.ntmps21
  go_wp2
  refine bodyPost_ret (v := .slice (some ⟨w.heap.size + 1 + 1 + 1 + 1, 0, none⟩) 4 4) (by simp [results, Try.results21, go_sem]) rfl ?_
  refine ⟨w.heap.size + 1 + 1 + 1 + 1, rfl, ?_, by go_grown⟩
  refine vl_rows (s := w.heap.size) ?_ ?_ ?_ ?_ ?_
  · exact ((((Gen.rowAt _ _ _ (by simp)).alloc _).alloc _).alloc _).alloc _
  · exact (((Gen.rowAt _ _ _ (by simp)).alloc _).alloc _).alloc _
  · exact ((Gen.rowAt _ _ _ (by simp)).alloc _).alloc _
  · exact (Gen.rowAt _ _ _ (by simp)).alloc _
  · exact Gen.rowAt _ _ _ (by simp)
/-- the law's payments -/
def PL : List Py := [⟨0, 4, 0, 0, 10, 0⟩, ⟨0, 4, 0, 0, 5, 0⟩, ⟨0, 6, 0, 0, 2, 0⟩]
def py6 (x : Py) : List Value := [.int .i64 x.is, .int .i64 x.se, .int .i64 x.dy, .int .i64 x.du, .int .i64 x.pa, .int .i64 x.pe]
theorem pys_rs {w : World} {A : Option Addr} {l : List Py} (h : Rs py6 6 w A l) : Pys w A l := fun h0 => by
  obtain ⟨b, off, e, hc⟩ := h h0
  refine ⟨b, off, e, fun j x hx => ?_⟩
  have h1 := hc j x hx
  exact ⟨h1 0 _ rfl, h1 1 _ rfl, h1 2 _ rfl, h1 3 _ rfl, h1 4 _ rfl, h1 5 _ rfl⟩
def b1 (x : Bool) : List Value := [.bool x]
theorem bos_rs {w : World} {A : Option Addr} {l : List Bool} (h : Rs b1 1 w A l) : Bos w A l := fun h0 => by
  obtain ⟨b, off, e, hc⟩ := h h0
  refine ⟨b, off, e, fun j x hx => ?_⟩
  have h1 := hc j x hx 0 _ rfl
  rwa [Nat.mul_one, Nat.add_zero] at h1
theorem pl_wf : ∀ x ∈ PL, wfI x.se := fun x hx => by
  unfold PL at hx
  simp at hx
  rcases hx with rfl | rfl | rfl <;> exact wf_of (by decide) (by decide)
theorem back_1 {w : World} {A : Option Addr} {s : Nat} (h : Pys w A PL) (hs : w.heap.size = s) : Calls Try.prog 10 #[.slice A 3 3, .slice (some ⟨s, 0, none⟩) 3 3, .slice (some ⟨s + 1, 0, none⟩) 3 3] ((w.alloc (.cells #[.int .i64 7, .int .i64 5, .int .i64 9] 3)).alloc (.cells #[.bool false, .bool false, .bool false] 4)) fun e w' =>
    ∃ B1 c1 B2 c2, e = .returned (.tuple #[.slice B1 1 c1, .slice B2 1 c2, .int .i64 0]) ∧ Rs p2 2 w' B1 [(4, 3)] ∧ Rs p2 2 w' B2 [(6, 7)] ∧ Below w.heap.size w w' := by
  subst hs
  have hb : Below w.heap.size w ((w.alloc (.cells #[.int .i64 7, .int .i64 5, .int .i64 9] 3)).alloc (.cells #[.bool false, .bool false, .bool false] 4)) := Gen.b_alloc (Gen.b_alloc (Below.refl _ _))
  refine (back_l (l := PL) (due := [7, 5, 9]) (good := [false, false, false]) rfl rfl rfl (h.keep hb) (row_ints (t := 3) ((Gen.rowAt _ _ _ (by simp)).alloc _)) (bos_rs (rs_row (f := b1) (K := 1) (n := 3) (fun _ => rfl) (t := 4) (Gen.rowAt _ _ _ (by simp)) rfl rfl (by simp [maxLen]))) (by decide) (by decide) (by decide) pl_wf).mono ?_
  rintro e w' ⟨hB, h⟩
  have hB1 := Gen.over hB hb
  rw [show rL PL [7, 5, 9] [false, false, false] PL.length = ([(4, 3)], [(6, 7)]) by rfl, show bkOk PL [7, 5, 9] [false, false, false] = true by decide] at h
  rcases h with ⟨h1, _⟩ | ⟨_, h1, _⟩ | ⟨_, _, v1, v2, rfl, _, o1, _, o2⟩
  · cases h1
  · exact absurd h1 (by decide)
  · obtain ⟨B1, d1, rfl, _⟩ := Gen.own_slice o1
    obtain ⟨B2, d2, rfl, _⟩ := Gen.own_slice o2
    exact ⟨B1, d1, B2, d2, rfl, rs_own (f := p2) (l := [(4, 3)]) (fun _ => rfl) rfl o1, rs_own (f := p2) (l := [(6, 7)]) (fun _ => rfl) rfl o2, hB1⟩
theorem back_2 {w : World} {A : Option Addr} {s : Nat} (h : Pys w A PL) (hs : w.heap.size = s) : Calls Try.prog 10 #[.slice A 3 3, .slice (some ⟨s, 0, none⟩) 3 3, .slice (some ⟨s + 1, 0, none⟩) 3 3] ((w.alloc (.cells #[.int .i64 7, .int .i64 5, .int .i64 9] 3)).alloc (.cells #[.bool true, .bool false, .bool false] 4)) fun e w' =>
    ∃ B1 c1 B2 c2, e = .returned (.tuple #[.slice B1 0 c1, .slice B2 1 c2, .int .i64 0]) ∧ Rs p2 2 w' B2 [(6, 7)] ∧ Below w.heap.size w w' := by
  subst hs
  have hb : Below w.heap.size w ((w.alloc (.cells #[.int .i64 7, .int .i64 5, .int .i64 9] 3)).alloc (.cells #[.bool true, .bool false, .bool false] 4)) := Gen.b_alloc (Gen.b_alloc (Below.refl _ _))
  refine (back_l (l := PL) (due := [7, 5, 9]) (good := [true, false, false]) rfl rfl rfl (h.keep hb) (row_ints (t := 3) ((Gen.rowAt _ _ _ (by simp)).alloc _)) (bos_rs (rs_row (f := b1) (K := 1) (n := 3) (fun _ => rfl) (t := 4) (Gen.rowAt _ _ _ (by simp)) rfl rfl (by simp [maxLen]))) (by decide) (by decide) (by decide) pl_wf).mono ?_
  rintro e w' ⟨hB, h⟩
  have hB1 := Gen.over hB hb
  rw [show rL PL [7, 5, 9] [true, false, false] PL.length = ([], [(6, 7)]) by rfl, show bkOk PL [7, 5, 9] [true, false, false] = true by decide] at h
  rcases h with ⟨h1, _⟩ | ⟨_, h1, _⟩ | ⟨_, _, v1, v2, rfl, _, o1, _, o2⟩
  · cases h1
  · exact absurd h1 (by decide)
  · obtain ⟨B1, d1, rfl, _⟩ := Gen.own_slice o1
    obtain ⟨B2, d2, rfl, _⟩ := Gen.own_slice o2
    exact ⟨B1, d1, B2, d2, rfl, rs_own (f := p2) (l := [(6, 7)]) (fun _ => rfl) rfl o2, hB1⟩
theorem vl_in : ∀ d ∈ VL, d.fr.length ≤ 1000000 ∧ d.fa.length ≤ 1000000 := fun d hd => by
  unfold VL at hd
  simp at hd
  rcases hd with rfl | rfl | rfl | rfl <;> decide
theorem vl_wf : ∀ d ∈ VL, ∀ x ∈ d.fa, wfI x := fun d hd x hx => by
  unfold VL at hd
  simp at hd
  rcases hd with rfl | rfl | rfl | rfl <;> simp at hx <;> subst hx <;> exact wf_of (by decide) (by decide)
theorem changed_v {w : World} {A : Option Addr} {s : Nat} (h : Dvs w A VL) (hs : w.heap.size = s) (f : Int) (hf : wfI f) {r : List Int} (hr : chg [f] VL = r) {m : Nat} (hm : r.length = m) : Calls Try.prog 15 #[.slice A 4 4, .slice (some ⟨s, 0, none⟩) 1 1] (w.alloc (.cells #[.int .i64 f] 3)) fun e w' =>
    ∃ B c, e = .returned (.slice B m c) ∧ Ints w' B r ∧ Below w.heap.size w w' := by
  subst hs
  have hb : Below w.heap.size w (w.alloc (.cells #[.int .i64 f] 3)) := Gen.b_alloc (Below.refl _ _)
  refine (changed_l (l := VL) (facts := [f]) rfl (h.keep hb) rfl (row_ints (t := 3) (Gen.rowAt _ _ _ (by simp))) (by decide) (by simp) vl_in (fun x hx => by simp at hx; subst hx; exact hf) vl_wf).mono ?_
  rintro e w' ⟨B, m', d, hm', rfl, hi, hB⟩
  rw [hr] at hi hm'
  obtain rfl : m = m' := by omega
  exact ⟨B, d, rfl, hi, Gen.over hB hb⟩
theorem ints_v {w : World} {B : Option Addr} {m c s : Nat} {r : List Int} (h : Ints w B r) (hz : w.heap.size = s) (hm : r.length = m) (hs : m ≤ 1000) : Calls Try.prog 14 #[.slice B m c, .slice (some ⟨s, 0, none⟩) m m] (w.alloc (.cells ⟨ils r⟩ 3)) fun e w' => e = .returned (.bool true) ∧ Below w.heap.size w w' := by
  subst hz
  have hb : Below w.heap.size w (w.alloc (.cells ⟨ils r⟩ 3)) := Gen.b_alloc (Below.refl _ _)
  refine (ints_any hm hm (h.keep hb) (row_ints (t := 3) (Gen.rowAt _ _ _ (by simp))) (by omega) (by omega)).mono ?_
  rintro e w' ⟨rfl, hB⟩
  exact ⟨by rw [decide_eq_true rfl], Gen.over hB hb⟩
theorem same_v {w : World} {B : Option Addr} {c s : Nat} {p : Int × Int} (h : Rs p2 2 w B [p]) (hs : w.heap.size = s) : Calls Try.prog 17 #[.slice B 1 c, .slice (some ⟨s, 0, none⟩) 1 1] (w.alloc (.cells #[.int .i64 p.1, .int .i64 p.2] 48)) fun e w' => e = .returned (.bool true) ∧ Below w.heap.size w w' := by
  subst hs
  have hb : Below w.heap.size w (w.alloc (.cells #[.int .i64 p.1, .int .i64 p.2] 48)) := Gen.b_alloc (Below.refl _ _)
  refine (same_any (l := [p]) (l' := [p]) rfl rfl (h.keep hb) (rs_row (f := p2) (K := 2) (n := 1) (fun _ => rfl) (t := 48) (Gen.rowAt _ _ _ (by simp)) rfl rfl (by simp [maxLen])) (by simp) (by simp)).mono ?_
  rintro e w' ⟨rfl, hB⟩
  exact ⟨by rw [decide_eq_true rfl], Gen.over hB hb⟩
theorem same_w {w : World} {A B : Option Addr} {c d : Nat} {p : Int × Int} (h : Rs p2 2 w A [p]) (h' : Rs p2 2 w B [p]) : Calls Try.prog 17 #[.slice A 1 c, .slice B 1 d] w fun e w' => e = .returned (.bool true) ∧ Below w.heap.size w w' := by
  refine (same_any (l := [p]) (l' := [p]) rfl rfl h h' (by simp) (by simp)).mono ?_
  rintro e w' ⟨rfl, hB⟩
  exact ⟨by rw [decide_eq_true rfl], hB⟩
set_option maxRecDepth 100000 in
set_option maxHeartbeats 8000000 in
theorem small_any (w : World) : Calls Try.prog 8 #[] w fun e w' => e = .returned (.bool true) ∧ Below w.heap.size w w' := by
  have HB := Lib.hid (Below.refl w.heap.size w)
  go_enter Try.func8, Try.ntmps8
  have HX := Lib.hid (show Pys (w.alloc (.cells #[.int .i64 0, .int .i64 4, .int .i64 0, .int .i64 0, .int .i64 10, .int .i64 0, .int .i64 0, .int .i64 4, .int .i64 0, .int .i64 0, .int .i64 5, .int .i64 0, .int .i64 0, .int .i64 6, .int .i64 0, .int .i64 0, .int .i64 2, .int .i64 0] 44)) (some ⟨w.heap.size, 0, none⟩) PL from pys_rs (rs_row (f := py6) (K := 6) (n := 3) (fun _ => rfl) (t := 44) (Gen.rowAt _ _ _ (by simp)) rfl rfl (by simp [maxLen])))
  have HB := Lib.hid (Gen.over (show Below w.heap.size w (w.alloc (.cells #[.int .i64 0, .int .i64 4, .int .i64 0, .int .i64 0, .int .i64 10, .int .i64 0, .int .i64 0, .int .i64 4, .int .i64 0, .int .i64 0, .int .i64 5, .int .i64 0, .int .i64 0, .int .i64 6, .int .i64 0, .int .i64 0, .int .i64 2, .int .i64 0] 44)) from Gen.b_alloc (Below.refl _ _)) HB.out)
  go_wp2_with (fail)
  go_must (refine (back_1 HX.out (by first | with_reducible rfl | exact World.size_alloc _ _)).mono ?_)
  rintro e w1 ⟨B1, d1, B2, d2, rfl, x1, x2, hb⟩
  have HX := Lib.hid (HX.out.keep hb)
  have HB := Lib.hid (Gen.over hb HB.out)
  have S1 := Lib.hid x1
  have S2 := Lib.hid x2
  clear hb x1 x2
  go_wp2_with (fail)
  go_must (refine (back_2 HX.out (by first | with_reducible rfl | exact World.size_alloc _ _)).mono ?_)
  rintro e w2 ⟨B3, d3, B4, d4, rfl, x3, hb⟩
  have HX := Lib.hid (HX.out.keep hb)
  have S1 := Lib.hid (S1.out.keep hb)
  have S2 := Lib.hid (S2.out.keep hb)
  have HB := Lib.hid (Gen.over hb HB.out)
  have S4 := Lib.hid x3
  clear hb x3
  go_wp2_with (fail)
  go_must (refine (values_any _).mono ?_)
  rintro e w3 ⟨g, rfl, x4, hb⟩
  have S1 := Lib.hid (S1.out.keep hb)
  have S2 := Lib.hid (S2.out.keep hb)
  have S4 := Lib.hid (S4.out.keep hb)
  have HB := Lib.hid (Gen.over hb HB.out)
  have V1 := Lib.hid x4
  clear hb x4
  go_wp2_with (fail)
  go_must (refine (right_any (l := VL) rfl V1.out (by decide) (fun d hd => by have := vl_in d hd; omega)).mono ?_)
  rintro e w4 ⟨rfl, hb⟩
  have S1 := Lib.hid (S1.out.keep hb)
  have S2 := Lib.hid (S2.out.keep hb)
  have S4 := Lib.hid (S4.out.keep hb)
  have HB := Lib.hid (Gen.over hb HB.out)
  clear hb
  rw [show rgB VL = true by decide]
  go_wp2_with (fail)
  go_must (refine (values_any _).mono ?_)
  rintro e w5 ⟨g, rfl, x4, hb⟩
  have S1 := Lib.hid (S1.out.keep hb)
  have S2 := Lib.hid (S2.out.keep hb)
  have S4 := Lib.hid (S4.out.keep hb)
  have HB := Lib.hid (Gen.over hb HB.out)
  have V1 := Lib.hid x4
  clear hb x4
  go_wp2_with (fail)
  go_must (refine (changed_v V1.out (by first | with_reducible rfl | exact World.size_alloc _ _) 7 (wf_of (by decide) (by decide)) (r := [0, 2]) (by decide) rfl).mono ?_)
  rintro e w6 ⟨C, c5, rfl, x5, hb⟩
  have S1 := Lib.hid (S1.out.keep hb)
  have S2 := Lib.hid (S2.out.keep hb)
  have S4 := Lib.hid (S4.out.keep hb)
  have HB := Lib.hid (Gen.over hb HB.out)
  have I1 := Lib.hid x5
  clear hb x5
  go_wp2_with (fail)
  go_must (refine (ints_v (r := [0, 2]) I1.out (by first | with_reducible rfl | exact World.size_alloc _ _) rfl (by decide)).mono ?_)
  rintro e w7 ⟨rfl, hb⟩
  have S1 := Lib.hid (S1.out.keep hb)
  have S2 := Lib.hid (S2.out.keep hb)
  have S4 := Lib.hid (S4.out.keep hb)
  have HB := Lib.hid (Gen.over hb HB.out)
  clear hb
  go_wp2_with (fail)
  go_must (refine (values_any _).mono ?_)
  rintro e w8 ⟨g, rfl, x4, hb⟩
  have S1 := Lib.hid (S1.out.keep hb)
  have S2 := Lib.hid (S2.out.keep hb)
  have S4 := Lib.hid (S4.out.keep hb)
  have HB := Lib.hid (Gen.over hb HB.out)
  have V1 := Lib.hid x4
  clear hb x4
  go_wp2_with (fail)
  go_must (refine (changed_v V1.out (by first | with_reducible rfl | exact World.size_alloc _ _) 8 (wf_of (by decide) (by decide)) (r := [1, 2, 3]) (by decide) rfl).mono ?_)
  rintro e w9 ⟨C, c5, rfl, x5, hb⟩
  have S1 := Lib.hid (S1.out.keep hb)
  have S2 := Lib.hid (S2.out.keep hb)
  have S4 := Lib.hid (S4.out.keep hb)
  have HB := Lib.hid (Gen.over hb HB.out)
  have I1 := Lib.hid x5
  clear hb x5
  go_wp2_with (fail)
  go_must (refine (ints_v (r := [1, 2, 3]) I1.out (by first | with_reducible rfl | exact World.size_alloc _ _) rfl (by decide)).mono ?_)
  rintro e w10 ⟨rfl, hb⟩
  have S1 := Lib.hid (S1.out.keep hb)
  have S2 := Lib.hid (S2.out.keep hb)
  have S4 := Lib.hid (S4.out.keep hb)
  have HB := Lib.hid (Gen.over hb HB.out)
  clear hb
  go_wp2_with (fail)
  go_must (refine (values_any _).mono ?_)
  rintro e w11 ⟨g, rfl, x4, hb⟩
  have S1 := Lib.hid (S1.out.keep hb)
  have S2 := Lib.hid (S2.out.keep hb)
  have S4 := Lib.hid (S4.out.keep hb)
  have HB := Lib.hid (Gen.over hb HB.out)
  have V1 := Lib.hid x4
  clear hb x4
  go_wp2_with (fail)
  go_must (refine (changed_v V1.out (by first | with_reducible rfl | exact World.size_alloc _ _) 9 (wf_of (by decide) (by decide)) (r := []) (by decide) rfl).mono ?_)
  rintro e w12 ⟨C, c5, rfl, x5, hb⟩
  have S1 := Lib.hid (S1.out.keep hb)
  have S2 := Lib.hid (S2.out.keep hb)
  have S4 := Lib.hid (S4.out.keep hb)
  have HB := Lib.hid (Gen.over hb HB.out)
  have I1 := Lib.hid x5
  clear hb x5
  obtain ⟨wv, hwv⟩ : ∃ wv, wv = w12 := ⟨_, rfl⟩
  have S3 := Lib.hid (show Rs p2 2 (w12.alloc (.cells #[.int .i64 6, .int .i64 7] 48)) (some ⟨w12.heap.size, 0, none⟩) [(6, 7)] from rs_row (f := p2) (K := 2) (n := 1) (fun _ => rfl) (t := 48) (Gen.rowAt _ _ _ (by simp)) rfl rfl (by simp [maxLen]))
  have hbs : Below w12.heap.size w12 (w12.alloc (.cells #[.int .i64 6, .int .i64 7] 48)) := Gen.b_alloc (Below.refl _ _)
  have S1 := Lib.hid (S1.out.keep hbs)
  have S2 := Lib.hid (S2.out.keep hbs)
  have S4 := Lib.hid (S4.out.keep hbs)
  have HB := Lib.hid (Gen.over hbs HB.out)
  clear hbs hwv wv
  go_wp2_with (fail)
  go_must (refine (same_v (p := (4, 3)) S1.out (by first | with_reducible rfl | exact World.size_alloc _ _)).mono ?_)
  rintro e w13 ⟨rfl, hb⟩
  have S2 := Lib.hid (S2.out.keep hb)
  have S4 := Lib.hid (S4.out.keep hb)
  have S3 := Lib.hid (S3.out.keep hb)
  have HB := Lib.hid (Gen.over hb HB.out)
  clear hb
  go_wp2_with (fail)
  go_must (refine (same_w S2.out S3.out).mono ?_)
  rintro e w14 ⟨rfl, hb⟩
  have S4 := Lib.hid (S4.out.keep hb)
  have S3 := Lib.hid (S3.out.keep hb)
  have HB := Lib.hid (Gen.over hb HB.out)
  clear hb
  go_wp2_with (fail)
  go_must (refine (same_w S4.out S3.out).mono ?_)
  rintro e w15 ⟨rfl, hb⟩
  have HB := Lib.hid (Gen.over hb HB.out)
  clear hb
  go_wp2
  go_ret
  exact ⟨rfl, HB.out⟩
end Go.Proofs.Ytohbdffmidbjhaa.Re
