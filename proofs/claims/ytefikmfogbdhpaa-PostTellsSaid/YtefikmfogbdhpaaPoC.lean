/- Post: Send, Flight, Again of right ways. -/
import Derived.Test.YtefikmfogbdhpaaPoB
namespace Go.Proofs.Ytefikmfogbdhpaa.Po
open Go.ChangeShapes Go.WideShapes Go.ChangeAt Go.RowKit Go.Proofs.Ytefikmfogbdhpaa.Cell
set_option linter.unusedVariables false
set_option linter.unusedSimpArgs false

/-- a right way: what was sent, and what has arrived -/
def Wy (W : World) (v : Value) (S : List En) (H : List Bool) : Prop :=
  ∃ A c A2 c2, v = .agg #[.slice A S.length c, .int .i64 (nx H : Int), .slice A2 (ea H).length c2] ∧ Ens W A S ∧ Ints W A2 (ea H) ∧ H.length = S.length ∧ S.length ≤ 10000 ∧ S.length ≤ c
theorem Wy.keep {W W' : World} {v : Value} {S : List En} {H : List Bool} (h : Wy W v S H) (hb : Below W.heap.size W W') : Wy W' v S H := by
  obtain ⟨A, c, A2, c2, e, h1, h2, h3, h4, h5⟩ := h
  exact ⟨A, c, A2, c2, e, h1.keep hb, h2.keep hb, h3, h4, h5⟩
/-- a way's lists lie above a place -/
def Abv (lo : Nat) (v : Value) : Prop := ∀ A n c q A2 n2 c2, v = .agg #[.slice A n c, q, .slice A2 n2 c2] → (∀ a, A = some a → lo ≤ a.block) ∧ (∀ a, A2 = some a → lo ≤ a.block)
theorem abv_mk {lo : Nat} {A : Option Addr} {n c : Nat} {q : Value} {A2 : Option Addr} {n2 c2 : Nat} (h1 : ∀ a, A = some a → lo ≤ a.block) (h2 : ∀ a, A2 = some a → lo ≤ a.block) : Abv lo (.agg #[.slice A n c, q, .slice A2 n2 c2]) := fun A' n' c' q' A2' n2' c2' e => by
  injection e with e
  simp only [Array.mk.injEq, List.cons.injEq, Value.slice.injEq] at e
  obtain ⟨⟨rfl, _, _⟩, _, ⟨rfl, _, _⟩, _⟩ := e
  exact ⟨h1, h2⟩
theorem own_cap {w : World} {B n c size : Nat} {e : TypeId} {A : Option Addr} {xs : List Value} (h : w.ownsRow B e size (.slice A n c) n xs) : n ≤ c := by
  rcases h.2 with ⟨h, h2⟩ | ⟨g, cap, cur, he, _, _, hn, _⟩
  · injection h with _ e2 e3; omega
  · injection he with _ e2 e3; omega
section
variable {A A2 : Option Addr} {c c2 : Nat} {H : List Bool} {S : List En} {x : En}
theorem ne_of {a b : Option Nat} (h : ∀ g, a = some g → b ≠ some g) : b = none ∨ b ≠ a := by
  cases b with
  | none => exact .inl rfl
  | some g => exact .inr (fun e => h g e.symm rfl)
theorem own_put_ne {w : World} {B n size : Nat} {e : TypeId} {v : Value} {xs : List Value} (h : w.ownsRow B e size v n xs) {p : Addr} (hp : v.ownBlock ≠ some p.block) (u : Value) : (w.setCell p u).ownsRow B e size v n xs := by
  refine ⟨h.1, ?_⟩
  rcases h.2 with hn | ⟨g, cap, cur, rfl, hbb, hg, rest⟩
  · exact .inl hn
  · exact .inr ⟨g, cap, cur, rfl, hbb, (Below.heap_setCell w p u g (fun e => hp (by rw [← e]; rfl))).trans hg, rest⟩
theorem row_put {w : World} {g : Nat} {t : TypeId} {cs : Array Value} (h : Row w g t cs) {p : Addr} (hp : p.block ≠ g) (u : Value) : Row (w.setCell p u) g t cs := (Below.heap_setCell w p u g (fun e => hp e.symm)).trans h
theorem ecs_one1 (x : En) : ∀ u ∈ ecs x, u.oneCell' = true := fun u hu => by
  simp [ecs] at hu
  rcases hu with rfl | rfl | rfl | rfl | rfl <;> rfl
set_option maxRecDepth 100000 in
set_option maxHeartbeats 4000000 in
theorem send_ok (w : World) (hE : Ens w A S) (hI : Ints w A2 (ea H)) (hl : H.length = S.length) (hb : S.length < 10000) :
    Calls Try.prog 10 #[.agg #[.slice A S.length c, .int .i64 (nx H : Int), .slice A2 (ea H).length c2], .agg #[.int .i64 x.id, .int .i64 x.dy, .int .i64 x.fr, .int .i64 x.tt, .int .i64 x.am]] w fun e w' =>
      ∃ v, e = .returned (.tuple #[v, .int .i64 0]) ∧ Wy w' v (S ++ [x]) (H ++ [false]) ∧ Below w.heap.size w w' ∧ Abv w.heap.size v := by
  obtain ⟨n, hn⟩ : ∃ n, S.length = n := ⟨_, rfl⟩
  obtain ⟨n2, hn2⟩ : ∃ n2, (ea H).length = n2 := ⟨_, rfl⟩
  obtain ⟨q, hq⟩ : ∃ q : Int, (nx H : Int) = q := ⟨_, rfl⟩
  have hn2b : n2 ≤ 10000 := by have := ea_len H; omega
  have HRG := Lib.hid (show rgW n q (ea H) = true by rw [← hn, ← hl, ← hq]; exact rgW_ways (by omega))
  rw [hn, hn2, hq]
  rw [hn] at hb
  have HN := Lib.hid hn
  have HN2 := Lib.hid hn2
  have HQ := Lib.hid hq
  have HL := Lib.hid hl
  have hB0 : Below w.heap.size w (((w.alloc (.cells #[.slice A n c, .int .i64 q, .slice A2 n2 c2] 27)).alloc (.cells #[.int .i64 x.id, .int .i64 x.dy, .int .i64 x.fr, .int .i64 x.tt, .int .i64 x.am] 36)).alloc (.cells #[.slice none 0 0, .int .i64 0, .slice none 0 0] 27)) := Gen.b_alloc (Gen.b_alloc (Gen.b_alloc (Below.refl _ _)))
  have hr0 : Row (((w.alloc (.cells #[.slice A n c, .int .i64 q, .slice A2 n2 c2] 27)).alloc (.cells #[.int .i64 x.id, .int .i64 x.dy, .int .i64 x.fr, .int .i64 x.tt, .int .i64 x.am] 36)).alloc (.cells #[.slice none 0 0, .int .i64 0, .slice none 0 0] 27)) w.heap.size 27 #[.slice A n c, .int .i64 q, .slice A2 n2 c2] := ((Row.new _ _ _).alloc _).alloc _
  have hr1 : Row (((w.alloc (.cells #[.slice A n c, .int .i64 q, .slice A2 n2 c2] 27)).alloc (.cells #[.int .i64 x.id, .int .i64 x.dy, .int .i64 x.fr, .int .i64 x.tt, .int .i64 x.am] 36)).alloc (.cells #[.slice none 0 0, .int .i64 0, .slice none 0 0] 27)) (w.heap.size + 1) 36 #[.int .i64 x.id, .int .i64 x.dy, .int .i64 x.fr, .int .i64 x.tt, .int .i64 x.am] := (Gen.rowAt _ _ _ (by simp)).alloc _
  have hr2 : Row (((w.alloc (.cells #[.slice A n c, .int .i64 q, .slice A2 n2 c2] 27)).alloc (.cells #[.int .i64 x.id, .int .i64 x.dy, .int .i64 x.fr, .int .i64 x.tt, .int .i64 x.am] 36)).alloc (.cells #[.slice none 0 0, .int .i64 0, .slice none 0 0] 27)) (w.heap.size + 1 + 1) 27 #[.slice none 0 0, .int .i64 0, .slice none 0 0] := Gen.rowAt _ _ _ (by simp)
  have hbI : (n : Int) < 10000 := by omega
  have hbF : ((n : Int) == 10000) = false := by rw [beq_eq_false_iff_ne]; omega
  have HE := Lib.hid (hE.keep hB0)
  have HI := Lib.hid (hI.keep hB0)
  clear hn hn2 hq hl hE hI
  go_enter Try.func10, Try.ntmps10
  go_wp2_with (fail)
  generalize ((w.alloc (.cells #[.slice A n c, .int .i64 q, .slice A2 n2 c2] 27)).alloc (.cells #[.int .i64 x.id, .int .i64 x.dy, .int .i64 x.fr, .int .i64 x.tt, .int .i64 x.am] 36)).alloc (.cells #[.slice none 0 0, .int .i64 0, .slice none 0 0] 27) = W0 at *
  go_must (refine (right_any _ (by omega) (by omega) HN2.out HI.out).mono ?_)
  rintro e w1 ⟨rfl, hb1⟩
  rw [HRG.out]
  have s0 := hr0.keep hb1
  have d0 := s0.cell 0
  have d1 := s0.cell 1
  have d2 := s0.cell 2
  have hB1 := Gen.over hb1 hB0
  have HE1 := Lib.hid (HE.out.keep hb1)
  have HI1 := Lib.hid (HI.out.keep hb1)
  have hr1' := hr1.keep hb1
  have hr2' := hr2.keep hb1
  clear hb1 hr0 hr1 hr2 HE HI hB0
  go_wp2_with (fail)
  go_must (refine (clone_way _ HN.out HE1.out HN2.out HI1.out (by omega) (by omega)).mono ?_)
  rintro e w2 ⟨A3, c3, A4, c4, rfl, ho3, ho4, hb2, hne2⟩
  have r1 := hr1'.keep hb2
  have r2 := hr2'.keep hb2
  have hB2 := Gen.over hb2 hB1
  have hB1s : w.heap.size + 3 ≤ w1.heap.size := by have := hr2'.lt; omega
  have hB2s : w1.heap.size ≤ w2.heap.size := hb2.size
  obtain ⟨i0, hi0, hz0, hz1, hz2⟩ := info_parts' infoE
  clear d0 d1 d2 s0 hr1' hr2' hb2 hB1
  go_upto_region 6 with (fail)
  have s1 := r1.alloc (.cells #[.slice A3 n c3, .int .i64 q, .slice A4 n2 c4] 27)
  have s2 := r2.alloc (.cells #[.slice A3 n c3, .int .i64 q, .slice A4 n2 c4] 27)
  have s3 : Row (w2.alloc (.cells #[.slice A3 n c3, .int .i64 q, .slice A4 n2 c4] 27)) w2.heap.size 27 #[.slice A3 n c3, .int .i64 q, .slice A4 n2 c4] := Row.new _ _ _
  have hB3 : Below w.heap.size w (w2.alloc (.cells #[.slice A3 n c3, .int .i64 q, .slice A4 n2 c4] 27)) := Gen.b_alloc hB2
  have hb3 : Below w2.heap.size w2 (w2.alloc (.cells #[.slice A3 n c3, .int .i64 q, .slice A4 n2 c4] 27)) := Gen.b_alloc (Below.refl _ _)
  have hs3 : (w2.alloc (.cells #[.slice A3 n c3, .int .i64 q, .slice A4 n2 c4] 27)).heap.size = w2.heap.size + 1 := by simp
  generalize w2.alloc (.cells #[.slice A3 n c3, .int .i64 q, .slice A4 n2 c4] 27) = w3 at *
  have HS3 := Lib.hid hs3
  have d0 := s3.cell 0
  have f0 := s1.cell 0
  have f1 := s1.cell 1
  have f2 := s1.cell 2
  have f3 := s1.cell 3
  have f4 := s1.cell 4
  have HO3 := Lib.hid (Gen.own_keep ho3 hb3)
  have HO4 := Lib.hid (Gen.own_keep ho4 hb3)
  have HW3 := Lib.hid ho3
  have HW4 := Lib.hid ho4
  have HNE := Lib.hid hne2
  clear hne2
  have HR2 := Lib.hid s2
  have HR3 := Lib.hid s3
  have HB3 := Lib.hid hB3
  clear r1 r2 s1 s2 s3 hB3 hb3 hs3 ho3 ho4 hB2
  go_upto_region 7 with (first
    | (at_builtin
       go_must (refine App.wpList_append_any _ rfl (.tmp 21) (.tmp 23) _ rfl w1.heap.size 36 i0 _ 5 40 Try.underlying22 hi0 hz0 hz1 hz2 rfl (by omega) (.slice A3 n c3) n (S.flatMap ecs) rfl (Gen.own_keep HO3.out (Gen.b_alloc (Below.refl _ _))) (w3.heap.size + 1) (some ⟨w3.heap.size, 0, none⟩) 1 1 (ecs x) rfl (Gen.reads_blk rfl rfl) (ecs_one1 x) (by simp only [maxLen]; omega) (by omega) (by have := HS3.out; simp; omega) ?_
                intro v5 w5 hown5 hg5 hat5
                have hB5 : Below w.heap.size w w5 := Gen.g_below HO3.out hg5 (Gen.b_alloc HB3.out) (by omega)
                obtain ⟨A5, c5, rfl, _⟩ := Gen.own_slice hown5
                have hR2 := Gen.g_row (g := w.heap.size + 1 + 1) HO3.out hg5 (by omega) (HR2.out.alloc _)
                have hR3 := Gen.g_rowUp (g := w2.heap.size) HW3.out hg5 (Nat.le_refl _) (HR3.out.alloc _)
                have hO4 := (Gen.own_keep HO4.out (Gen.b_alloc (Below.refl _ _))).kept hg5 (ne_of HNE.out)
                have hN5 : (Value.slice A5 (n + 1) c5).ownBlock ≠ some w2.heap.size := fun h => by
                  rcases hat5 with h' | h'
                  · have := (HW3.out.lt _ (h'.symm.trans h)).2; omega
                  · rw [h'] at h; have := HS3.out; simp at h; omega
                have hN4 : (Value.slice A4 n2 c4).ownBlock ≠ some w2.heap.size := fun h => by have := (HW4.out.lt _ h).2; omega
                have HE5 := Lib.hid (own_put_ne hown5 (p := ⟨w2.heap.size, 0, none⟩) hN5 (.slice A5 (n + 1) c5))
                have HI5 := Lib.hid (own_put_ne hO4 (p := ⟨w2.heap.size, 0, none⟩) hN4 (.slice A5 (n + 1) c5))
                have HR26 := Lib.hid (row_put hR2 (p := ⟨w2.heap.size, 0, none⟩) (by show w2.heap.size ≠ _; omega) (.slice A5 (n + 1) c5))
                have HR36 := Lib.hid (hR3.set 0 (.slice A5 (n + 1) c5))
                have HB6 := Lib.hid (Gen.b_set (p := ⟨w2.heap.size, 0, none⟩) (u := .slice A5 (n + 1) c5) hB5 (by show w.heap.size ≤ w2.heap.size; omega))
                have e0 := hR3.cell 0
                have ef := hR3.frozen 0
                clear hg5 hat5 hN5 hN4 hown5 hO4 hR2 hR3 hB5))
    | fail)
  clear d0 f0 f1 f2 f3 f4 e0 ef
  generalize w5.setCell ⟨w2.heap.size, 0, none⟩ (.slice A5 (n + 1) c5) = w6 at *
  have r3 : Row w6 w2.heap.size 27 #[.slice A5 (n + 1) c5, .int .i64 q, .slice A4 n2 c4] := HR36.out
  have g0 := r3.cell 0
  have g1 := r3.cell 1
  have g2 := r3.cell 2
  have k0 := HR26.out.cell 0
  have k1 := HR26.out.cell 1
  have k2 := HR26.out.cell 2
  have kf0 := HR26.out.frozen 0
  have kf1 := HR26.out.frozen 1
  have kf2 := HR26.out.frozen 2
  have kl := HR26.out.lt
  have HE7 := Lib.hid (own_put (own_put (own_put HE5.out (p := ⟨w.heap.size + 1 + 1, 0, none⟩) (by show w.heap.size + 1 + 1 < _; omega) (.slice A5 (n + 1) c5)) (p := ⟨w.heap.size + 1 + 1, 1, none⟩) (by show w.heap.size + 1 + 1 < _; omega) (.int .i64 q)) (p := ⟨w.heap.size + 1 + 1, 2, none⟩) (by show w.heap.size + 1 + 1 < _; omega) (.slice A4 n2 c4))
  have HI7 := Lib.hid (own_put (own_put (own_put HI5.out (p := ⟨w.heap.size + 1 + 1, 0, none⟩) (by show w.heap.size + 1 + 1 < _; omega) (.slice A5 (n + 1) c5)) (p := ⟨w.heap.size + 1 + 1, 1, none⟩) (by show w.heap.size + 1 + 1 < _; omega) (.int .i64 q)) (p := ⟨w.heap.size + 1 + 1, 2, none⟩) (by show w.heap.size + 1 + 1 < _; omega) (.slice A4 n2 c4))
  have HB7 := Lib.hid (Gen.b_set (p := ⟨w.heap.size + 1 + 1, 2, none⟩) (u := .slice A4 n2 c4) (Gen.b_set (p := ⟨w.heap.size + 1 + 1, 1, none⟩) (u := .int .i64 q) (Gen.b_set (p := ⟨w.heap.size + 1 + 1, 0, none⟩) (u := .slice A5 (n + 1) c5) HB6.out (by show w.heap.size ≤ w.heap.size + 1 + 1; omega)) (by show w.heap.size ≤ w.heap.size + 1 + 1; omega)) (by show w.heap.size ≤ w.heap.size + 1 + 1; omega))
  have HCAP := Lib.hid (own_cap HE5.out)
  clear HR36 HB6 HE5 HI5 HR26 HB3 HR2 HR3 HO3 HO4 r3
  go_wp2
  refine bodyPost_ret (v := .tuple #[.agg #[.slice A5 (n + 1) c5, .int .i64 q, .slice A4 n2 c4], .int .i64 0]) (by simp [results, Try.results10, go_sem, *]) rfl ⟨_, rfl, ?_, HB7.out, abv_mk (fun a h => Nat.le_trans (by omega) (own_ab HE7.out a h)) (fun a h => Nat.le_trans (by omega) (own_ab HI7.out a h))⟩
  have hn1 : (S ++ [x]).length = n + 1 := by rw [List.length_append, HN.out]; rfl
  refine ⟨A5, c5, A4, c4, by rw [nx_send, ea_send, hn1, HQ.out, HN2.out], ens_own hn1 (by rw [List.flatMap_append]; simpa using HE7.out), ?_, by rw [List.length_append, List.length_append, HL.out]; rfl, by rw [hn1]; omega, by rw [hn1]; exact HCAP.out⟩
  rw [ea_send]
  obtain ⟨_, _, e, h⟩ := ints_own HI7.out HN2.out
  injection e with e
  subst e
  exact h
end
end Go.Proofs.Ytefikmfogbdhpaa.Po
