/- Fall: the law's sample; small. -/
import Derived.Test.YtdmbgdbmfenbfaaFaN
import Derived.BigQuiet
namespace Go.Proofs.Ytdmbgdbmfenbfaa.Fa
open Go.ChangeShapes Go.WideShapes Go.ChangeAt Go.RowKit Go.Proofs.Ytdmbgdbmfenbfaa.Cell
set_option linter.unusedVariables false
set_option linter.unusedSimpArgs false

theorem row_own {w : World} {g n K : Nat} {t : TypeId} {cs : Array Value} (h : Row w g t cs) (hs : cs.size = n * K) (hn : n ≤ maxLen) : w.ownsRow g t K (.slice (some ⟨g, 0, none⟩) n n) n cs.toList :=
  ⟨by rw [Array.length_toList, hs], .inr ⟨g, n, cs, rfl, Nat.le_refl _, h, Nat.le_refl _, hn, hs, by rw [List.take_of_length_le]; rw [Array.length_toList, hs]; exact Nat.le_refl _⟩⟩
def T1 : Array Value := #[.int .i64 600, .int .i64 30, .int .i64 300, .int .i64 20]
def Q1 : Array Value := #[.int .i64 2, .int .i64 880]
def S1 : Array Value := #[.int .i64 0, .int .i64 0, .int .i64 0, .int .i64 0, .int .i64 1, .int .i64 0, .int .i64 2, .int .i64 0, .int .i64 15, .int .i64 3, .int .i64 0, .int .i64 0, .int .i64 4, .int .i64 0, .int .i64 0]
def sS : List St := [⟨0, 0, 0⟩, ⟨0, 1, 0⟩, ⟨2, 0, 15⟩, ⟨3, 0, 0⟩, ⟨4, 0, 0⟩]
def dS : Dl := ⟨1000, 10, 0, 0, [⟨600, 30⟩, ⟨300, 20⟩], [⟨2, 880⟩], sS⟩
def dB : Dl := ⟨1000, 10, 0, 0, [⟨600, 30⟩, ⟨200, 20⟩], [⟨2, 880⟩], sS⟩
def plS (g : Nat) : Pl := ⟨some ⟨g, 0, none⟩, 2, some ⟨g + 1, 0, none⟩, 1, some ⟨g + 2, 0, none⟩, 5⟩
def SV (g : Nat) : Value := .agg #[.int .i64 1000, .int .i64 10, .int .i64 0, .int .i64 0, .slice (some ⟨g, 0, none⟩) 2 2, .slice (some ⟨g + 1, 0, none⟩) 1 1, .slice (some ⟨g + 2, 0, none⟩) 5 5]
/-- the rows of a sample -/
structure Sm (w : World) (g : Nat) (T : Array Value) : Prop where
  t : Row w g 39 T
  q : Row w (g + 1) 50 Q1
  s : Row w (g + 2) 42 S1
theorem Sm.keep {w w' : World} {g : Nat} {T : Array Value} (h : Sm w g T) (hb : Below w.heap.size w w') : Sm w' g T := ⟨h.t.keep hb, h.q.keep hb, h.s.keep hb⟩
theorem rs_row {α : Type} {f : α → List Value} {K n : Nat} (hf : ∀ x, (f x).length = K) {w : World} {g : Nat} {t : TypeId} {cs : Array Value} {l : List α} (h : Row w g t cs) (hl : l.length = n) (he : cs.toList = l.flatMap f) (hn : n ≤ maxLen) : Rs f K w (some ⟨g, 0, none⟩) l := by
  have hs : cs.size = n * K := by rw [← Array.length_toList, he, Gen.flat_length (K := K) hf, hl]
  have := row_own (K := K) h hs hn
  rw [he] at this
  exact rs_own hf hl this
theorem Sm.dmS {w : World} {g : Nat} (h : Sm w g T1) : Dm w dS (plS g) :=
  ⟨rs_row (f := tcs) (K := 2) (n := 2) (fun _ => rfl) h.t rfl rfl (by simp [maxLen]), rs_row (f := qcs) (K := 2) (n := 1) (fun _ => rfl) h.q rfl rfl (by simp [maxLen]), rs_row (f := scs) (K := 3) (n := 5) (fun _ => rfl) h.s rfl rfl (by simp [maxLen])⟩
theorem Sm.dmB {w : World} {g : Nat} (h : Sm w g (T1.setIfInBounds 2 (.int .i64 200))) : Dm w dB (plS g) :=
  ⟨rs_row (f := tcs) (K := 2) (n := 2) (fun _ => rfl) h.t rfl rfl (by simp [maxLen]), rs_row (f := qcs) (K := 2) (n := 1) (fun _ => rfl) h.q rfl rfl (by simp [maxLen]), rs_row (f := scs) (K := 3) (n := 5) (fun _ => rfl) h.s rfl rfl (by simp [maxLen])⟩
set_option maxRecDepth 100000 in
set_option maxHeartbeats 4000000 in
theorem sample_any (w : World) : Calls Try.prog 18 #[] w fun e w' => ∃ g, w.heap.size ≤ g ∧ e = .returned (.agg #[.int .i64 1000, .int .i64 10, .int .i64 0, .int .i64 0, .slice (some ⟨g, 0, none⟩) 2 2, .slice (some ⟨g + 1, 0, none⟩) 1 1, .slice (some ⟨g + 2, 0, none⟩) 5 5]) ∧ Sm w' g T1 ∧ Below w.heap.size w w' := by
  go_enter Try.func18, Try.ntmps18
  go_wp2
  refine bodyPost_ret (v := .agg #[.int .i64 1000, .int .i64 10, .int .i64 0, .int .i64 0, .slice (some ⟨w.heap.size + 1, 0, none⟩) 2 2, .slice (some ⟨w.heap.size + 1 + 1, 0, none⟩) 1 1, .slice (some ⟨w.heap.size + 1 + 1 + 1, 0, none⟩) 5 5]) (by simp [results, Try.results18, go_sem]) rfl ?_
  refine ⟨w.heap.size + 1, by omega, rfl, ⟨?_, ?_, ?_⟩, by go_grown⟩
  · exact ((Gen.rowAt _ _ _ (by simp)).alloc _).alloc _
  · exact (Gen.rowAt _ _ _ (by simp)).alloc _
  · exact Gen.rowAt _ _ _ (by simp)
instance : DecidableEq Tr := fun a b => decidable_of_iff (a.b = b.b ∧ a.u = b.u) (by cases a; cases b; simp)
instance : DecidableEq Fl := fun a b => decidable_of_iff (a.p = b.p ∧ a.r = b.r ∧ a.t = b.t ∧ a.e = b.e ∧ a.tr = b.tr) (by cases a; cases b; simp)
theorem run_s1 (w : World) (g : Nat) (h : Sm w g T1) : Calls Try.prog 8 #[.agg #[.int .i64 1000, .int .i64 10, .int .i64 0, .int .i64 0, .slice (some ⟨g, 0, none⟩) 2 2, .slice (some ⟨g + 1, 0, none⟩) 1 1, .slice (some ⟨g + 2, 0, none⟩) 5 5], .int .i64 100] w fun e w' => ∃ B1 d1 B2 d2 B3 d3 At ct, e = .returned (.tuple #[.agg #[.int .i64 1000, .int .i64 15, .int .i64 45, .int .i64 0, .slice B1 2 d1, .slice B2 1 d2, .slice B3 5 d3], .slice At 5 ct, .int .i64 0]) ∧
    w'.ownsRow w.heap.size 39 2 (.slice B1 2 d1) 2 [.int .i64 600, .int .i64 0, .int .i64 300, .int .i64 0] ∧ Ints w' At [30, 20, 5, 45, 0] ∧ Below w.heap.size w w' := by
  have hd : dwn dS 100 = ([30, 20, 5, 45, 0], ⟨0, 15, 45, 0, [⟨600, 0⟩, ⟨300, 0⟩]⟩) := by decide
  refine (run_any dS (plS g) 100 w h.dmS (by decide) (by decide) (by decide)).mono ?_
  intro e w' h'
  unfold RunQ at h'
  rw [hd, if_pos (by decide)] at h'
  obtain ⟨⟨B1, d1, B2, d2, B3, d3⟩, At, ct, he, h1, h2, h3, h4, hb⟩ := h'
  rw [hd] at he h1 h4
  exact ⟨B1, d1, B2, d2, B3, d3, At, ct, he, h1, ints_own h4, hb⟩
theorem run_s2 (w : World) (g : Nat) (h : Sm w g T1) : Calls Try.prog 8 #[.agg #[.int .i64 1000, .int .i64 10, .int .i64 0, .int .i64 0, .slice (some ⟨g, 0, none⟩) 2 2, .slice (some ⟨g + 1, 0, none⟩) 1 1, .slice (some ⟨g + 2, 0, none⟩) 5 5], .int .i64 35] w fun e w' => ∃ B1 d1 B2 d2 B3 d3 At ct, e = .returned (.tuple #[.agg #[.int .i64 1000, .int .i64 0, .int .i64 0, .int .i64 0, .slice B1 2 d1, .slice B2 1 d2, .slice B3 5 d3], .slice At 5 ct, .int .i64 0]) ∧
    w'.ownsRow w.heap.size 39 2 (.slice B1 2 d1) 2 [.int .i64 600, .int .i64 0, .int .i64 300, .int .i64 5] ∧ Ints w' At [30, 15, 0, 0, 0] ∧ Below w.heap.size w w' := by
  have hd : dwn dS 35 = ([30, 15, 0, 0, 0], ⟨0, 0, 0, 0, [⟨600, 0⟩, ⟨300, 5⟩]⟩) := by decide
  refine (run_any dS (plS g) 35 w h.dmS (by decide) (by decide) (by decide)).mono ?_
  intro e w' h'
  unfold RunQ at h'
  rw [hd, if_pos (by decide)] at h'
  obtain ⟨⟨B1, d1, B2, d2, B3, d3⟩, At, ct, he, h1, h2, h3, h4, hb⟩ := h'
  rw [hd] at he h1 h4
  exact ⟨B1, d1, B2, d2, B3, d3, At, ct, he, h1, ints_own h4, hb⟩
theorem run_s3 (w : World) (g : Nat) (h : Sm w g (T1.setIfInBounds 2 (.int .i64 200))) : Calls Try.prog 8 #[.agg #[.int .i64 1000, .int .i64 10, .int .i64 0, .int .i64 0, .slice (some ⟨g, 0, none⟩) 2 2, .slice (some ⟨g + 1, 0, none⟩) 1 1, .slice (some ⟨g + 2, 0, none⟩) 5 5], .int .i64 60] w fun e w' => ∃ B1 d1 B2 d2 B3 d3 At ct, e = .returned (.tuple #[.agg #[.int .i64 1000, .int .i64 15, .int .i64 0, .int .i64 5, .slice B1 2 d1, .slice B2 1 d2, .slice B3 5 d3], .slice At 5 ct, .int .i64 0]) ∧
    w'.ownsRow w.heap.size 39 2 (.slice B1 2 d1) 2 [.int .i64 600, .int .i64 0, .int .i64 200, .int .i64 0] ∧ Ints w' At [30, 20, 5, 0, 5] ∧ Below w.heap.size w w' := by
  have hd : dwn dB 60 = ([30, 20, 5, 0, 5], ⟨0, 15, 0, 5, [⟨600, 0⟩, ⟨200, 0⟩]⟩) := by decide
  refine (run_any dB (plS g) 60 w h.dmB (by decide) (by decide) (by decide)).mono ?_
  intro e w' h'
  unfold RunQ at h'
  rw [hd, if_pos (by decide)] at h'
  obtain ⟨⟨B1, d1, B2, d2, B3, d3⟩, At, ct, he, h1, h2, h3, h4, hb⟩ := h'
  rw [hd] at he h1 h4
  exact ⟨B1, d1, B2, d2, B3, d3, At, ct, he, h1, ints_own h4, hb⟩
set_option maxRecDepth 100000 in
set_option maxHeartbeats 8000000 in
theorem small_any (w : World) : Calls Try.prog 7 #[] w fun e w' => e = .returned (.bool true) ∧ Below w.heap.size w w' := by
  have HB := Lib.hid (Below.refl w.heap.size w)
  go_enter Try.func7, Try.ntmps7
  go_wp2_with (fail)
  go_must (refine (sample_any _).mono ?_)
  rintro e w1 ⟨g, hgg, rfl, hs, hb⟩
  have HS := Lib.hid hs
  have HB := Lib.hid (Gen.over hb HB.out)
  clear hs hb
  have hx : Below w1.heap.size w1 (w1.alloc (.cells #[.int .i64 1000, .int .i64 10, .int .i64 0, .int .i64 0, .slice (some ⟨g, 0, none⟩) 2 2, .slice (some ⟨g + 1, 0, none⟩) 1 1, .slice (some ⟨g + 2, 0, none⟩) 5 5] 26)) := Gen.b_alloc (Below.refl _ _)
  have HS := Lib.hid (HS.out.keep hx)
  have D1 := Lib.hid (show Row (w1.alloc (.cells #[.int .i64 1000, .int .i64 10, .int .i64 0, .int .i64 0, .slice (some ⟨g, 0, none⟩) 2 2, .slice (some ⟨g + 1, 0, none⟩) 1 1, .slice (some ⟨g + 2, 0, none⟩) 5 5] 26)) w1.heap.size 26 #[.int .i64 1000, .int .i64 10, .int .i64 0, .int .i64 0, .slice (some ⟨g, 0, none⟩) 2 2, .slice (some ⟨g + 1, 0, none⟩) 1 1, .slice (some ⟨g + 2, 0, none⟩) 5 5] from Row.new _ _ _)
  have HB := Lib.hid (Gen.over hx HB.out)
  clear hx
  go_wp2_with (fail)
  go_must (refine (run_s1 _ g HS.out).mono ?_)
  rintro e w2 ⟨B21, d21, B22, d22, B23, d23, Ax, cx, rfl, ht, hi, hb⟩
  have HS := Lib.hid (HS.out.keep hb)
  have D1 := Lib.hid (D1.out.keep hb)
  have HB := Lib.hid (Gen.over hb HB.out)
  clear hb
  clear ht
  have HX := Lib.hid hi
  clear hi
  have hx : Below w2.heap.size w2 (w2.alloc (.cells #[.int .i64 1000, .int .i64 15, .int .i64 45, .int .i64 0, .slice B21 2 d21, .slice B22 1 d22, .slice B23 5 d23] 26)) := Gen.b_alloc (Below.refl _ _)
  have HS := Lib.hid (HS.out.keep hx)
  have D1 := Lib.hid (D1.out.keep hx)
  have HX := Lib.hid (HX.out.keep hx)
  have D2 := Lib.hid (show Row (w2.alloc (.cells #[.int .i64 1000, .int .i64 15, .int .i64 45, .int .i64 0, .slice B21 2 d21, .slice B22 1 d22, .slice B23 5 d23] 26)) w2.heap.size 26 #[.int .i64 1000, .int .i64 15, .int .i64 45, .int .i64 0, .slice B21 2 d21, .slice B22 1 d22, .slice B23 5 d23] from Row.new _ _ _)
  have HB := Lib.hid (Gen.over hx HB.out)
  clear hx
  have j0 : (w2.alloc (.cells #[.int .i64 1000, .int .i64 15, .int .i64 45, .int .i64 0, .slice B21 2 d21, .slice B22 1 d22, .slice B23 5 d23] 26)).cell? ⟨w1.heap.size, 0, none⟩ = some (.int .i64 1000) := D1.out.cell 0
  have j1 : (w2.alloc (.cells #[.int .i64 1000, .int .i64 15, .int .i64 45, .int .i64 0, .slice B21 2 d21, .slice B22 1 d22, .slice B23 5 d23] 26)).cell? ⟨w1.heap.size, 1, none⟩ = some (.int .i64 10) := D1.out.cell 1
  have j2 : (w2.alloc (.cells #[.int .i64 1000, .int .i64 15, .int .i64 45, .int .i64 0, .slice B21 2 d21, .slice B22 1 d22, .slice B23 5 d23] 26)).cell? ⟨w1.heap.size, 2, none⟩ = some (.int .i64 0) := D1.out.cell 2
  have j3 : (w2.alloc (.cells #[.int .i64 1000, .int .i64 15, .int .i64 45, .int .i64 0, .slice B21 2 d21, .slice B22 1 d22, .slice B23 5 d23] 26)).cell? ⟨w1.heap.size, 3, none⟩ = some (.int .i64 0) := D1.out.cell 3
  have j4 : (w2.alloc (.cells #[.int .i64 1000, .int .i64 15, .int .i64 45, .int .i64 0, .slice B21 2 d21, .slice B22 1 d22, .slice B23 5 d23] 26)).cell? ⟨w1.heap.size, 4, none⟩ = some (.slice (some ⟨g, 0, none⟩) 2 2) := D1.out.cell 4
  have j5 : (w2.alloc (.cells #[.int .i64 1000, .int .i64 15, .int .i64 45, .int .i64 0, .slice B21 2 d21, .slice B22 1 d22, .slice B23 5 d23] 26)).cell? ⟨w1.heap.size, 5, none⟩ = some (.slice (some ⟨g + 1, 0, none⟩) 1 1) := D1.out.cell 5
  have j6 : (w2.alloc (.cells #[.int .i64 1000, .int .i64 15, .int .i64 45, .int .i64 0, .slice B21 2 d21, .slice B22 1 d22, .slice B23 5 d23] 26)).cell? ⟨w1.heap.size, 6, none⟩ = some (.slice (some ⟨g + 2, 0, none⟩) 5 5) := D1.out.cell 6
  go_wp2_with (fail)
  go_must (refine (run_s2 _ g HS.out).mono ?_)
  rintro e w3 ⟨B31, d31, B32, d32, B33, d33, Ay, cy, rfl, ht, hi, hb⟩
  clear j0 j1 j2 j3 j4 j5 j6
  have HS := Lib.hid (HS.out.keep hb)
  have D1 := Lib.hid (D1.out.keep hb)
  have HX := Lib.hid (HX.out.keep hb)
  have D2 := Lib.hid (D2.out.keep hb)
  have HB := Lib.hid (Gen.over hb HB.out)
  clear hb
  obtain ⟨gt, ct3, hv3, _, _⟩ := ht.form (by omega)
  obtain rfl : B31 = some ⟨gt, 0, none⟩ := by injection hv3
  have HY := Lib.hid hi
  have HT := Lib.hid (rs_own (f := tcs) (K := 2) (l := [⟨600, 0⟩, ⟨300, 5⟩]) (fun _ => rfl) rfl ht)
  clear hi ht hv3
  have hx : Below w3.heap.size w3 (w3.alloc (.cells #[.int .i64 1000, .int .i64 0, .int .i64 0, .int .i64 0, .slice (some ⟨gt, 0, none⟩) 2 d31, .slice B32 1 d32, .slice B33 5 d33] 26)) := Gen.b_alloc (Below.refl _ _)
  have HS := Lib.hid (HS.out.keep hx)
  have D1 := Lib.hid (D1.out.keep hx)
  have HX := Lib.hid (HX.out.keep hx)
  have D2 := Lib.hid (D2.out.keep hx)
  have HY := Lib.hid (HY.out.keep hx)
  have HT := Lib.hid (HT.out.keep hx)
  have D3 := Lib.hid (show Row (w3.alloc (.cells #[.int .i64 1000, .int .i64 0, .int .i64 0, .int .i64 0, .slice (some ⟨gt, 0, none⟩) 2 d31, .slice B32 1 d32, .slice B33 5 d33] 26)) w3.heap.size 26 #[.int .i64 1000, .int .i64 0, .int .i64 0, .int .i64 0, .slice (some ⟨gt, 0, none⟩) 2 d31, .slice B32 1 d32, .slice B33 5 d33] from Row.new _ _ _)
  have HB := Lib.hid (Gen.over hx HB.out)
  clear hx
  have HS_3 := HS
  have D1_3 := D1
  have HX_3 := HX
  have D2_3 := D2
  have HY_3 := HY
  have HT_3 := HT
  have D3_3 := D3
  have HB_3 := HB
  go_wp2_with (fail)
  go_must (refine (sample_any _).mono ?_)
  rintro e w4 ⟨g2, hgg2, rfl, hs, hb4⟩
  have HS := Lib.hid (HS.out.keep hb4)
  have D1 := Lib.hid (D1.out.keep hb4)
  have HX := Lib.hid (HX.out.keep hb4)
  have D2 := Lib.hid (D2.out.keep hb4)
  have HY := Lib.hid (HY.out.keep hb4)
  have HT := Lib.hid (HT.out.keep hb4)
  have D3 := Lib.hid (D3.out.keep hb4)
  have HB := Lib.hid (Gen.over hb4 HB.out)
  have hg3 : w3.heap.size < g2 := by rw [World.size_alloc] at hgg2; omega
  have hl2 : g2 < w4.heap.size := hs.t.lt
  have HS2 := Lib.hid hs
  have ha4 : Below w4.heap.size w4 (w4.alloc (.cells #[.int .i64 1000, .int .i64 10, .int .i64 0, .int .i64 0, .slice (some ⟨g2, 0, none⟩) 2 2, .slice (some ⟨g2 + 1, 0, none⟩) 1 1, .slice (some ⟨g2 + 2, 0, none⟩) 5 5] 26)) := Gen.b_alloc (Below.refl _ _)
  have kt : (w4.alloc (.cells #[.int .i64 1000, .int .i64 10, .int .i64 0, .int .i64 0, .slice (some ⟨g2, 0, none⟩) 2 2, .slice (some ⟨g2 + 1, 0, none⟩) 1 1, .slice (some ⟨g2 + 2, 0, none⟩) 5 5] 26)).cell? ⟨g2, 2, none⟩ = some (.int .i64 300) := (HS2.out.t.keep ha4).cell 2
  have kf : (w4.alloc (.cells #[.int .i64 1000, .int .i64 10, .int .i64 0, .int .i64 0, .slice (some ⟨g2, 0, none⟩) 2 2, .slice (some ⟨g2 + 1, 0, none⟩) 1 1, .slice (some ⟨g2 + 2, 0, none⟩) 5 5] 26)).frozen? ⟨g2, 2, none⟩ = false := (HS2.out.t.keep ha4).frozen 2
  clear ha4
  have hb5 : Below (w3.alloc (.cells #[.int .i64 1000, .int .i64 0, .int .i64 0, .int .i64 0, .slice (some ⟨gt, 0, none⟩) 2 d31, .slice B32 1 d32, .slice B33 5 d33] 26)).heap.size (w3.alloc (.cells #[.int .i64 1000, .int .i64 0, .int .i64 0, .int .i64 0, .slice (some ⟨gt, 0, none⟩) 2 d31, .slice B32 1 d32, .slice B33 5 d33] 26)) ((w4.setCell ⟨g2, 2, none⟩ (.int .i64 200)).alloc (.cells #[.int .i64 1000, .int .i64 10, .int .i64 0, .int .i64 0, .slice (some ⟨g2, 0, none⟩) 2 2, .slice (some ⟨g2 + 1, 0, none⟩) 1 1, .slice (some ⟨g2 + 2, 0, none⟩) 5 5] 26)) := Gen.b_alloc (Gen.b_set hb4 (by rw [World.size_alloc]; show w3.heap.size + 1 ≤ g2; omega))
  have HS := Lib.hid (HS_3.out.keep hb5)
  have D1 := Lib.hid (D1_3.out.keep hb5)
  have HX := Lib.hid (HX_3.out.keep hb5)
  have D2 := Lib.hid (D2_3.out.keep hb5)
  have HY := Lib.hid (HY_3.out.keep hb5)
  have HT := Lib.hid (HT_3.out.keep hb5)
  have D3 := Lib.hid (D3_3.out.keep hb5)
  have HB := Lib.hid (Gen.over hb5 HB_3.out)
  have HS2 : Hid (Sm ((w4.setCell ⟨g2, 2, none⟩ (.int .i64 200)).alloc (.cells #[.int .i64 1000, .int .i64 10, .int .i64 0, .int .i64 0, .slice (some ⟨g2, 0, none⟩) 2 2, .slice (some ⟨g2 + 1, 0, none⟩) 1 1, .slice (some ⟨g2 + 2, 0, none⟩) 5 5] 26)) g2 (T1.setIfInBounds 2 (.int .i64 200))) := Lib.hid (Sm.keep (w := (w4.setCell ⟨g2, 2, none⟩ (.int .i64 200))) ⟨Row.set HS2.out.t 2 (.int .i64 200), st_row HS2.out.q (by omega), st_row HS2.out.s (by omega)⟩ (Gen.b_alloc (Below.refl _ _)))
  have D8 : Hid (Row ((w4.setCell ⟨g2, 2, none⟩ (.int .i64 200)).alloc (.cells #[.int .i64 1000, .int .i64 10, .int .i64 0, .int .i64 0, .slice (some ⟨g2, 0, none⟩) 2 2, .slice (some ⟨g2 + 1, 0, none⟩) 1 1, .slice (some ⟨g2 + 2, 0, none⟩) 5 5] 26)) w4.heap.size 26 #[.int .i64 1000, .int .i64 10, .int .i64 0, .int .i64 0, .slice (some ⟨g2, 0, none⟩) 2 2, .slice (some ⟨g2 + 1, 0, none⟩) 1 1, .slice (some ⟨g2 + 2, 0, none⟩) 5 5]) := Lib.hid (Gen.rowAt _ _ _ (by simp))
  clear hb5 hb4
  have j0 : ((w4.setCell ⟨g2, 2, none⟩ (.int .i64 200)).alloc (.cells #[.int .i64 1000, .int .i64 10, .int .i64 0, .int .i64 0, .slice (some ⟨g2, 0, none⟩) 2 2, .slice (some ⟨g2 + 1, 0, none⟩) 1 1, .slice (some ⟨g2 + 2, 0, none⟩) 5 5] 26)).cell? ⟨w4.heap.size, 0, none⟩ = some (.int .i64 1000) := D8.out.cell 0
  have j1 : ((w4.setCell ⟨g2, 2, none⟩ (.int .i64 200)).alloc (.cells #[.int .i64 1000, .int .i64 10, .int .i64 0, .int .i64 0, .slice (some ⟨g2, 0, none⟩) 2 2, .slice (some ⟨g2 + 1, 0, none⟩) 1 1, .slice (some ⟨g2 + 2, 0, none⟩) 5 5] 26)).cell? ⟨w4.heap.size, 1, none⟩ = some (.int .i64 10) := D8.out.cell 1
  have j2 : ((w4.setCell ⟨g2, 2, none⟩ (.int .i64 200)).alloc (.cells #[.int .i64 1000, .int .i64 10, .int .i64 0, .int .i64 0, .slice (some ⟨g2, 0, none⟩) 2 2, .slice (some ⟨g2 + 1, 0, none⟩) 1 1, .slice (some ⟨g2 + 2, 0, none⟩) 5 5] 26)).cell? ⟨w4.heap.size, 2, none⟩ = some (.int .i64 0) := D8.out.cell 2
  have j3 : ((w4.setCell ⟨g2, 2, none⟩ (.int .i64 200)).alloc (.cells #[.int .i64 1000, .int .i64 10, .int .i64 0, .int .i64 0, .slice (some ⟨g2, 0, none⟩) 2 2, .slice (some ⟨g2 + 1, 0, none⟩) 1 1, .slice (some ⟨g2 + 2, 0, none⟩) 5 5] 26)).cell? ⟨w4.heap.size, 3, none⟩ = some (.int .i64 0) := D8.out.cell 3
  have j4 : ((w4.setCell ⟨g2, 2, none⟩ (.int .i64 200)).alloc (.cells #[.int .i64 1000, .int .i64 10, .int .i64 0, .int .i64 0, .slice (some ⟨g2, 0, none⟩) 2 2, .slice (some ⟨g2 + 1, 0, none⟩) 1 1, .slice (some ⟨g2 + 2, 0, none⟩) 5 5] 26)).cell? ⟨w4.heap.size, 4, none⟩ = some (.slice (some ⟨g2, 0, none⟩) 2 2) := D8.out.cell 4
  have j5 : ((w4.setCell ⟨g2, 2, none⟩ (.int .i64 200)).alloc (.cells #[.int .i64 1000, .int .i64 10, .int .i64 0, .int .i64 0, .slice (some ⟨g2, 0, none⟩) 2 2, .slice (some ⟨g2 + 1, 0, none⟩) 1 1, .slice (some ⟨g2 + 2, 0, none⟩) 5 5] 26)).cell? ⟨w4.heap.size, 5, none⟩ = some (.slice (some ⟨g2 + 1, 0, none⟩) 1 1) := D8.out.cell 5
  have j6 : ((w4.setCell ⟨g2, 2, none⟩ (.int .i64 200)).alloc (.cells #[.int .i64 1000, .int .i64 10, .int .i64 0, .int .i64 0, .slice (some ⟨g2, 0, none⟩) 2 2, .slice (some ⟨g2 + 1, 0, none⟩) 1 1, .slice (some ⟨g2 + 2, 0, none⟩) 5 5] 26)).cell? ⟨w4.heap.size, 6, none⟩ = some (.slice (some ⟨g2 + 2, 0, none⟩) 5 5) := D8.out.cell 6
  go_wp2_with (fail)
  go_must (refine (run_s3 _ g2 HS2.out).mono ?_)
  rintro e w5 ⟨B91, d91, B92, d92, B93, d93, Az, cz, rfl, ht, hi, hb⟩
  clear j0 j1 j2 j3 j4 j5 j6
  clear kt kf
  have HS := Lib.hid (HS.out.keep hb)
  have D1 := Lib.hid (D1.out.keep hb)
  have HX := Lib.hid (HX.out.keep hb)
  have D2 := Lib.hid (D2.out.keep hb)
  have HY := Lib.hid (HY.out.keep hb)
  have HT := Lib.hid (HT.out.keep hb)
  have D3 := Lib.hid (D3.out.keep hb)
  have HS2 := Lib.hid (HS2.out.keep hb)
  have D8 := Lib.hid (D8.out.keep hb)
  have HB := Lib.hid (Gen.over hb HB.out)
  clear hb
  have HZ := Lib.hid hi
  clear hi ht
  have hx : Below w5.heap.size w5 (w5.alloc (.cells #[.int .i64 1000, .int .i64 15, .int .i64 0, .int .i64 5, .slice B91 2 d91, .slice B92 1 d92, .slice B93 5 d93] 26)) := Gen.b_alloc (Below.refl _ _)
  have HS := Lib.hid (HS.out.keep hx)
  have D1 := Lib.hid (D1.out.keep hx)
  have HX := Lib.hid (HX.out.keep hx)
  have D2 := Lib.hid (D2.out.keep hx)
  have HY := Lib.hid (HY.out.keep hx)
  have HT := Lib.hid (HT.out.keep hx)
  have D3 := Lib.hid (D3.out.keep hx)
  have HS2 := Lib.hid (HS2.out.keep hx)
  have D8 := Lib.hid (D8.out.keep hx)
  have HZ := Lib.hid (HZ.out.keep hx)
  have D9 := Lib.hid (show Row (w5.alloc (.cells #[.int .i64 1000, .int .i64 15, .int .i64 0, .int .i64 5, .slice B91 2 d91, .slice B92 1 d92, .slice B93 5 d93] 26)) w5.heap.size 26 #[.int .i64 1000, .int .i64 15, .int .i64 0, .int .i64 5, .slice B91 2 d91, .slice B92 1 d92, .slice B93 5 d93] from Row.new _ _ _)
  have HB := Lib.hid (Gen.over hx HB.out)
  clear hx
  have j4 : (w5.alloc (.cells #[.int .i64 1000, .int .i64 15, .int .i64 0, .int .i64 5, .slice B91 2 d91, .slice B92 1 d92, .slice B93 5 d93] 26)).cell? ⟨w3.heap.size, 4, none⟩ = some (.slice (some ⟨gt, 0, none⟩) 2 d31) := D3.out.cell 4
  have hx : Below (w5.alloc (.cells #[.int .i64 1000, .int .i64 15, .int .i64 0, .int .i64 5, .slice B91 2 d91, .slice B92 1 d92, .slice B93 5 d93] 26)).heap.size (w5.alloc (.cells #[.int .i64 1000, .int .i64 15, .int .i64 0, .int .i64 5, .slice B91 2 d91, .slice B92 1 d92, .slice B93 5 d93] 26)) ((w5.alloc (.cells #[.int .i64 1000, .int .i64 15, .int .i64 0, .int .i64 5, .slice B91 2 d91, .slice B92 1 d92, .slice B93 5 d93] 26)).alloc (.cells #[.int .i64 30, .int .i64 20, .int .i64 5, .int .i64 45, .int .i64 0] 3)) := Gen.b_alloc (Below.refl _ _)
  have HS := Lib.hid (HS.out.keep hx)
  have D1 := Lib.hid (D1.out.keep hx)
  have HX := Lib.hid (HX.out.keep hx)
  have D2 := Lib.hid (D2.out.keep hx)
  have HY := Lib.hid (HY.out.keep hx)
  have HT := Lib.hid (HT.out.keep hx)
  have D3 := Lib.hid (D3.out.keep hx)
  have HS2 := Lib.hid (HS2.out.keep hx)
  have D8 := Lib.hid (D8.out.keep hx)
  have HZ := Lib.hid (HZ.out.keep hx)
  have D9 := Lib.hid (D9.out.keep hx)
  have HB := Lib.hid (Gen.over hx HB.out)
  clear hx
  have HL := Lib.hid (show Ints ((w5.alloc (.cells #[.int .i64 1000, .int .i64 15, .int .i64 0, .int .i64 5, .slice B91 2 d91, .slice B92 1 d92, .slice B93 5 d93] 26)).alloc (.cells #[.int .i64 30, .int .i64 20, .int .i64 5, .int .i64 45, .int .i64 0] 3)) (some ⟨w5.heap.size + 1, 0, none⟩) [30, 20, 5, 45, 0] from Row.ints (t := 3) (Gen.rowAt _ _ (ics [30, 20, 5, 45, 0]) (by simp)))
  go_wp2_with (fail)
  go_must (refine (ints_eq (n := 5) (l := [30, 20, 5, 45, 0]) _ rfl HX.out HL.out (by omega)).mono ?_)
  rintro e w6 ⟨rfl, hb⟩
  clear j4
  clear HL
  have HS := Lib.hid (HS.out.keep hb)
  have D1 := Lib.hid (D1.out.keep hb)
  have HX := Lib.hid (HX.out.keep hb)
  have D2 := Lib.hid (D2.out.keep hb)
  have HY := Lib.hid (HY.out.keep hb)
  have HT := Lib.hid (HT.out.keep hb)
  have D3 := Lib.hid (D3.out.keep hb)
  have HS2 := Lib.hid (HS2.out.keep hb)
  have D8 := Lib.hid (D8.out.keep hb)
  have HZ := Lib.hid (HZ.out.keep hb)
  have D9 := Lib.hid (D9.out.keep hb)
  have HB := Lib.hid (Gen.over hb HB.out)
  clear hb
  have q1 : w6.cell? ⟨w2.heap.size, 1, none⟩ = some (.int .i64 15) := D2.out.cell 1
  have q2 : w6.cell? ⟨w2.heap.size, 2, none⟩ = some (.int .i64 45) := D2.out.cell 2
  have hx : Below w6.heap.size w6 (w6.alloc (.cells #[.int .i64 30, .int .i64 15, .int .i64 0, .int .i64 0, .int .i64 0] 3)) := Gen.b_alloc (Below.refl _ _)
  have HS := Lib.hid (HS.out.keep hx)
  have D1 := Lib.hid (D1.out.keep hx)
  have HX := Lib.hid (HX.out.keep hx)
  have D2 := Lib.hid (D2.out.keep hx)
  have HY := Lib.hid (HY.out.keep hx)
  have HT := Lib.hid (HT.out.keep hx)
  have D3 := Lib.hid (D3.out.keep hx)
  have HS2 := Lib.hid (HS2.out.keep hx)
  have D8 := Lib.hid (D8.out.keep hx)
  have HZ := Lib.hid (HZ.out.keep hx)
  have D9 := Lib.hid (D9.out.keep hx)
  have HB := Lib.hid (Gen.over hx HB.out)
  clear hx
  have HL := Lib.hid (show Ints (w6.alloc (.cells #[.int .i64 30, .int .i64 15, .int .i64 0, .int .i64 0, .int .i64 0] 3)) (some ⟨w6.heap.size, 0, none⟩) [30, 15, 0, 0, 0] from Row.ints (t := 3) (Gen.rowAt _ _ (ics [30, 15, 0, 0, 0]) (by simp)))
  go_wp2_with (fail)
  go_must (refine (ints_eq (n := 5) (l := [30, 15, 0, 0, 0]) _ rfl HY.out HL.out (by omega)).mono ?_)
  rintro e w7 ⟨rfl, hb⟩
  clear q1 q2
  clear HL
  have HS := Lib.hid (HS.out.keep hb)
  have D1 := Lib.hid (D1.out.keep hb)
  have HX := Lib.hid (HX.out.keep hb)
  have D2 := Lib.hid (D2.out.keep hb)
  have HY := Lib.hid (HY.out.keep hb)
  have HT := Lib.hid (HT.out.keep hb)
  have D3 := Lib.hid (D3.out.keep hb)
  have HS2 := Lib.hid (HS2.out.keep hb)
  have D8 := Lib.hid (D8.out.keep hb)
  have HZ := Lib.hid (HZ.out.keep hb)
  have D9 := Lib.hid (D9.out.keep hb)
  have HB := Lib.hid (Gen.over hb HB.out)
  clear hb
  have j1 : w7.cell? ⟨w3.heap.size, 1, none⟩ = some (.int .i64 0) := D3.out.cell 1
  have j4 : w7.cell? ⟨w3.heap.size, 4, none⟩ = some (.slice (some ⟨gt, 0, none⟩) 2 d31) := D3.out.cell 4
  have q3 : w7.cell? ⟨gt, 3, none⟩ = some (.int .i64 5) := by have := HT.out.at (j := 1) (x := ⟨300, 5⟩) rfl (r := 1) (v := .int .i64 5) rfl; exact this
  have hx : Below w7.heap.size w7 (w7.alloc (.cells #[.int .i64 30, .int .i64 20, .int .i64 5, .int .i64 0, .int .i64 5] 3)) := Gen.b_alloc (Below.refl _ _)
  have HS := Lib.hid (HS.out.keep hx)
  have D1 := Lib.hid (D1.out.keep hx)
  have HX := Lib.hid (HX.out.keep hx)
  have D2 := Lib.hid (D2.out.keep hx)
  have HY := Lib.hid (HY.out.keep hx)
  have HT := Lib.hid (HT.out.keep hx)
  have D3 := Lib.hid (D3.out.keep hx)
  have HS2 := Lib.hid (HS2.out.keep hx)
  have D8 := Lib.hid (D8.out.keep hx)
  have HZ := Lib.hid (HZ.out.keep hx)
  have D9 := Lib.hid (D9.out.keep hx)
  have HB := Lib.hid (Gen.over hx HB.out)
  clear hx
  have HL := Lib.hid (show Ints (w7.alloc (.cells #[.int .i64 30, .int .i64 20, .int .i64 5, .int .i64 0, .int .i64 5] 3)) (some ⟨w7.heap.size, 0, none⟩) [30, 20, 5, 0, 5] from Row.ints (t := 3) (Gen.rowAt _ _ (ics [30, 20, 5, 0, 5]) (by simp)))
  go_wp2_with (fail)
  go_must (refine (ints_eq (n := 5) (l := [30, 20, 5, 0, 5]) _ rfl HZ.out HL.out (by omega)).mono ?_)
  rintro e w8 ⟨rfl, hb⟩
  clear j1 j4 q3
  clear HL
  have HS := Lib.hid (HS.out.keep hb)
  have D1 := Lib.hid (D1.out.keep hb)
  have HX := Lib.hid (HX.out.keep hb)
  have D2 := Lib.hid (D2.out.keep hb)
  have HY := Lib.hid (HY.out.keep hb)
  have HT := Lib.hid (HT.out.keep hb)
  have D3 := Lib.hid (D3.out.keep hb)
  have HS2 := Lib.hid (HS2.out.keep hb)
  have D8 := Lib.hid (D8.out.keep hb)
  have HZ := Lib.hid (HZ.out.keep hb)
  have D9 := Lib.hid (D9.out.keep hb)
  have HB := Lib.hid (Gen.over hb HB.out)
  clear hb
  have p3 : w8.cell? ⟨w5.heap.size, 3, none⟩ = some (.int .i64 5) := D9.out.cell 3
  have j0 : w8.cell? ⟨w1.heap.size, 0, none⟩ = some (.int .i64 1000) := D1.out.cell 0
  have j1 : w8.cell? ⟨w1.heap.size, 1, none⟩ = some (.int .i64 10) := D1.out.cell 1
  have j2 : w8.cell? ⟨w1.heap.size, 2, none⟩ = some (.int .i64 0) := D1.out.cell 2
  have j3 : w8.cell? ⟨w1.heap.size, 3, none⟩ = some (.int .i64 0) := D1.out.cell 3
  have j4 : w8.cell? ⟨w1.heap.size, 4, none⟩ = some (.slice (some ⟨g, 0, none⟩) 2 2) := D1.out.cell 4
  have j5 : w8.cell? ⟨w1.heap.size, 5, none⟩ = some (.slice (some ⟨g + 1, 0, none⟩) 1 1) := D1.out.cell 5
  have j6 : w8.cell? ⟨w1.heap.size, 6, none⟩ = some (.slice (some ⟨g + 2, 0, none⟩) 5 5) := D1.out.cell 6
  go_wp2_with (fail)
  go_must (refine (right_lit 1000 10 0 0 [⟨600, 30⟩, ⟨300, 20⟩] [⟨2, 880⟩] sS _ _ _ _ _ _ 2 1 5 _ rfl rfl rfl HS.out.dmS).mono ?_)
  rintro e w9 ⟨rfl, hb⟩
  rw [show rgb ⟨1000, 10, 0, 0, [⟨600, 30⟩, ⟨300, 20⟩], [⟨2, 880⟩], sS⟩ = true from by decide]
  clear p3 j0 j1 j2 j3 j4 j5 j6
  have HS := Lib.hid (HS.out.keep hb)
  have D1 := Lib.hid (D1.out.keep hb)
  have HX := Lib.hid (HX.out.keep hb)
  have D2 := Lib.hid (D2.out.keep hb)
  have HY := Lib.hid (HY.out.keep hb)
  have HT := Lib.hid (HT.out.keep hb)
  have D3 := Lib.hid (D3.out.keep hb)
  have HS2 := Lib.hid (HS2.out.keep hb)
  have D8 := Lib.hid (D8.out.keep hb)
  have HZ := Lib.hid (HZ.out.keep hb)
  have D9 := Lib.hid (D9.out.keep hb)
  have HB := Lib.hid (Gen.over hb HB.out)
  clear hb
  have j0 : w9.cell? ⟨w1.heap.size, 0, none⟩ = some (.int .i64 1000) := D1.out.cell 0
  have j1 : w9.cell? ⟨w1.heap.size, 1, none⟩ = some (.int .i64 10) := D1.out.cell 1
  have j2 : w9.cell? ⟨w1.heap.size, 2, none⟩ = some (.int .i64 0) := D1.out.cell 2
  have j3 : w9.cell? ⟨w1.heap.size, 3, none⟩ = some (.int .i64 0) := D1.out.cell 3
  have j4 : w9.cell? ⟨w1.heap.size, 4, none⟩ = some (.slice (some ⟨g, 0, none⟩) 2 2) := D1.out.cell 4
  have j5 : w9.cell? ⟨w1.heap.size, 5, none⟩ = some (.slice (some ⟨g + 1, 0, none⟩) 1 1) := D1.out.cell 5
  have j6 : w9.cell? ⟨w1.heap.size, 6, none⟩ = some (.slice (some ⟨g + 2, 0, none⟩) 5 5) := D1.out.cell 6
  go_wp2_with (fail)
  go_must (refine (passd_lit 1000 10 0 0 [⟨600, 30⟩, ⟨300, 20⟩] [⟨2, 880⟩] sS _ _ _ _ _ _ 2 1 5 0 _ rfl rfl rfl HS.out.dmS (by omega)).mono ?_)
  rintro e w10 ⟨rfl, hb⟩
  rw [show pasb ⟨1000, 10, 0, 0, [⟨600, 30⟩, ⟨300, 20⟩], [⟨2, 880⟩], sS⟩ 0 = false from by decide]
  clear j0 j1 j2 j3 j4 j5 j6
  have HS := Lib.hid (HS.out.keep hb)
  have D1 := Lib.hid (D1.out.keep hb)
  have HX := Lib.hid (HX.out.keep hb)
  have D2 := Lib.hid (D2.out.keep hb)
  have HY := Lib.hid (HY.out.keep hb)
  have HT := Lib.hid (HT.out.keep hb)
  have D3 := Lib.hid (D3.out.keep hb)
  have HS2 := Lib.hid (HS2.out.keep hb)
  have D8 := Lib.hid (D8.out.keep hb)
  have HZ := Lib.hid (HZ.out.keep hb)
  have D9 := Lib.hid (D9.out.keep hb)
  have HB := Lib.hid (Gen.over hb HB.out)
  clear hb
  have j0 : w10.cell? ⟨w4.heap.size, 0, none⟩ = some (.int .i64 1000) := D8.out.cell 0
  have j1 : w10.cell? ⟨w4.heap.size, 1, none⟩ = some (.int .i64 10) := D8.out.cell 1
  have j2 : w10.cell? ⟨w4.heap.size, 2, none⟩ = some (.int .i64 0) := D8.out.cell 2
  have j3 : w10.cell? ⟨w4.heap.size, 3, none⟩ = some (.int .i64 0) := D8.out.cell 3
  have j4 : w10.cell? ⟨w4.heap.size, 4, none⟩ = some (.slice (some ⟨g2, 0, none⟩) 2 2) := D8.out.cell 4
  have j5 : w10.cell? ⟨w4.heap.size, 5, none⟩ = some (.slice (some ⟨g2 + 1, 0, none⟩) 1 1) := D8.out.cell 5
  have j6 : w10.cell? ⟨w4.heap.size, 6, none⟩ = some (.slice (some ⟨g2 + 2, 0, none⟩) 5 5) := D8.out.cell 6
  go_wp2_with (fail)
  go_must (refine (passd_lit 1000 10 0 0 [⟨600, 30⟩, ⟨200, 20⟩] [⟨2, 880⟩] sS _ _ _ _ _ _ 2 1 5 0 _ rfl rfl rfl HS2.out.dmB (by omega)).mono ?_)
  rintro e w11 ⟨rfl, hb⟩
  rw [show pasb ⟨1000, 10, 0, 0, [⟨600, 30⟩, ⟨200, 20⟩], [⟨2, 880⟩], sS⟩ 0 = true from by decide]
  clear j0 j1 j2 j3 j4 j5 j6
  have HS := Lib.hid (HS.out.keep hb)
  have D1 := Lib.hid (D1.out.keep hb)
  have HX := Lib.hid (HX.out.keep hb)
  have D2 := Lib.hid (D2.out.keep hb)
  have HY := Lib.hid (HY.out.keep hb)
  have HT := Lib.hid (HT.out.keep hb)
  have D3 := Lib.hid (D3.out.keep hb)
  have HS2 := Lib.hid (HS2.out.keep hb)
  have D8 := Lib.hid (D8.out.keep hb)
  have HZ := Lib.hid (HZ.out.keep hb)
  have D9 := Lib.hid (D9.out.keep hb)
  have HB := Lib.hid (Gen.over hb HB.out)
  clear hb
  go_wp2
  go_ret
  exact ⟨rfl, HB.out⟩
end Go.Proofs.Ytdmbgdbmfenbfaa.Fa
