/- Post: Arrive: an early message. -/
import Derived.Test.YtefikmfogbdhpaaPoD
namespace Go.Proofs.Ytefikmfogbdhpaa.Po
open Go.ChangeShapes Go.WideShapes Go.ChangeAt Go.RowKit Go.Proofs.Ytefikmfogbdhpaa.Cell
set_option linter.unusedVariables false
set_option linter.unusedSimpArgs false

/-- what is delivered when a message arrives -/
def dlv (S : List En) (H : List Bool) (p : Nat) : List En := (S.take (nx (H.set p true))).drop (nx H)
theorem dlv_early {S : List En} {H : List Bool} {p : Nat} (h : nx H < p) : dlv S H p = [] := by
  unfold dlv
  rw [nx_early h]
  exact List.drop_eq_nil_of_le (by rw [List.length_take]; omega)
theorem ints_put {w : World} {A : Option Addr} {l : List Int} (h : Ints w A l) {p : Addr} (hp : ∀ a, A = some a → a.block ≠ p.block) (u : Value) : Ints (w.setCell p u) A l := fun h0 => by
  obtain ⟨b, off, e, hc⟩ := h h0
  exact ⟨b, off, e, fun j z hz => (World.cell?_setCell_other w p ⟨b, off + j, none⟩ u (fun c => hp _ e (by rw [c]))).trans (hc j z hz)⟩
theorem row_grown {X W : World} {g : Nat} {t : TypeId} {cs : Array Value} {r : Option Nat} (h : Row X g t cs) (hg : X.grownBy W r) (hne : r ≠ some g) : Row W g t cs := (hg.block g h.lt (fun e => hne e.symm)).trans h
theorem ne_of' {a b : Option Nat} (h : ∀ g, a = some g → b ≠ some g) : a = none ∨ a ≠ b := by
  cases a with
  | none => exact .inl rfl
  | some g => exact .inr (fun e => h g rfl e.symm)
section
variable {A A2 : Option Addr} {c c2 : Nat} {H : List Bool} {S : List En}
set_option maxRecDepth 100000 in
set_option maxHeartbeats 4000000 in
theorem arr_fore (w : World) (p : Nat) (hE : Ens w A S) (hI : Ints w A2 (ea H)) (hl : H.length = S.length) (hb : S.length ≤ 10000) (hcp : S.length ≤ c) (hp1 : p < S.length) (hp2 : nx H < p) (hf : H[p]? = some false) :
    Calls Try.prog 11 #[.agg #[.slice A S.length c, .int .i64 (nx H : Int), .slice A2 (ea H).length c2], .int .i64 (p : Int)] w fun e w' =>
      ∃ v A5 c5, e = .returned (.tuple #[v, .slice A5 (dlv S H p).length c5, .int .i64 0]) ∧ Wy w' v S (H.set p true) ∧ Ens w' A5 (dlv S H p) ∧ Below w.heap.size w w' ∧ Abv w.heap.size v ∧ ∀ a, A5 = some a → w.heap.size ≤ a.block := by
  obtain ⟨n, hn⟩ : ∃ n, S.length = n := ⟨_, rfl⟩
  obtain ⟨n2, hn2⟩ : ∃ n2, (ea H).length = n2 := ⟨_, rfl⟩
  obtain ⟨q, hq⟩ : ∃ q, nx H = q := ⟨_, rfl⟩
  have hn2b : n2 ≤ 10000 := by have := ea_len H; omega
  have hqn : q ≤ n := by have := nx_le H; omega
  have HRG := Lib.hid (show rgW n q (ea H) = true by rw [← hn, ← hl, ← hq]; exact rgW_ways (by omega))
  have HAS := Lib.hid (asc_of (ea_sorted H))
  try rw [hn] at hp1
  try rw [hq] at hp2
  rw [hn] at hb hcp
  simp only [hn, hn2, hq]
  have HN := Lib.hid hn
  have HN2 := Lib.hid hn2
  have HQ := Lib.hid hq
  have HL := Lib.hid hl
  have hB0 : Below w.heap.size w ((w.alloc (.cells #[.slice A n c, .int .i64 (q : Int), .slice A2 n2 c2] 27)).alloc (.cells #[.slice none 0 0, .int .i64 0, .slice none 0 0] 27)) := Gen.b_alloc (Gen.b_alloc (Below.refl _ _))
  have hr0 : Row ((w.alloc (.cells #[.slice A n c, .int .i64 (q : Int), .slice A2 n2 c2] 27)).alloc (.cells #[.slice none 0 0, .int .i64 0, .slice none 0 0] 27)) w.heap.size 27 #[.slice A n c, .int .i64 (q : Int), .slice A2 n2 c2] := (Row.new _ _ _).alloc _
  have hr2 : Row ((w.alloc (.cells #[.slice A n c, .int .i64 (q : Int), .slice A2 n2 c2] 27)).alloc (.cells #[.slice none 0 0, .int .i64 0, .slice none 0 0] 27)) (w.heap.size + 1) 27 #[.slice none 0 0, .int .i64 0, .slice none 0 0] := Gen.rowAt _ _ _ (by simp)
  have HE := Lib.hid (hE.keep hB0)
  have HI := Lib.hid (hI.keep hB0)
  clear hn hn2 hq hl hE hI
  go_enter Try.func11, Try.ntmps11
  go_wp2_with (fail)
  generalize (w.alloc (.cells #[.slice A n c, .int .i64 (q : Int), .slice A2 n2 c2] 27)).alloc (.cells #[.slice none 0 0, .int .i64 0, .slice none 0 0] 27) = W0 at *
  go_must (refine (right_any _ (by omega) (by omega) HN2.out HI.out).mono ?_)
  rintro e w1 ⟨rfl, hb1⟩
  rw [HRG.out]
  have s0 := hr0.keep hb1
  have d0 := s0.cell 0
  have d1 := s0.cell 1
  have d2 := s0.cell 2
  have hB1 := Gen.over hb1 hB0
  have HE1 := Lib.hid (HE.out.keep hb1)
  have HI1 := Lib.hid (HI.out.keep hb1)
  have r2 := hr2.keep hb1
  have k0 := r2.cell 0
  have k1 := r2.cell 1
  have k2 := r2.cell 2
  have kf0 := r2.frozen 0
  have kf1 := r2.frozen 1
  have kf2 := r2.frozen 2
  have kl := r2.lt
  clear hb1 hr0 hr2 HE HI hB0
  have hs0 : ¬ (p : Int) < 0 := by omega
  have hs1 : ¬ (n : Int) ≤ (p : Int) := by omega
  have hs2 : ¬ (p : Int) < (q : Int) := by omega
  have HBB : Hid (decide ((p : Int) ∈ ea H) = false) := Lib.hid (decide_eq_false fun hm => by
    obtain ⟨j, e, _, h3⟩ := mem_ea.1 hm
    have : j = p := by omega
    subst this
    rw [hf] at h3
    cases h3)
  have HF := Lib.hid hf
  clear hf
  go_wp2_with (fail)
  go_must (refine (bsearch_is _ HN2.out HI1.out (by omega) HAS.out HBB.out).mono ?_)
  rintro e w9 ⟨i, rfl, hbs, rfl⟩
  have hs3 : (q : Int) < (p : Int) := by omega
  have HINS := Lib.hid (show ea (H.set p true) = (ea H).take i ++ (p : Int) :: (ea H).drop i from ea_early (by rw [HQ.out]; exact hp2) (by rw [HL.out, HN.out]; exact hp1) HF.out hbs.lo hbs.hi)
  have hin2 : i ≤ n2 := by have := hbs.len; rw [HN2.out] at this; exact this
  clear hbs
  clear d0 d1 d2
  have d0 := s0.cell 0
  have d1 := s0.cell 1
  have d2 := s0.cell 2
  go_wp2_with (fail)
  go_must (refine (clone_way _ HN.out HE1.out HN2.out HI1.out (by omega) (by omega)).mono ?_)
  rintro e w2 ⟨A3, c3, A4, c4, rfl, ho3, ho4, hb2, hne2⟩
  have x0 := s0.keep hb2
  have x2 := r2.keep hb2
  have hB2 := Gen.over hb2 hB1
  have hB1s : w.heap.size + 2 ≤ w1.heap.size := by have := r2.lt; omega
  have hB2s : w1.heap.size ≤ w2.heap.size := hb2.size
  have HE2 := Lib.hid (HE1.out.keep hb2)
  clear d0 d1 d2 k0 k1 k2 kf0 kf1 kf2 kl s0 r2 hb2 hB1
  go_upto_region 9 with (fail)
  have x0 := x0.alloc (.cells #[.slice A3 n c3, .int .i64 (q : Int), .slice A4 n2 c4] 27)
  have x2 := x2.alloc (.cells #[.slice A3 n c3, .int .i64 (q : Int), .slice A4 n2 c4] 27)
  have x9 : Row (w2.alloc (.cells #[.slice A3 n c3, .int .i64 (q : Int), .slice A4 n2 c4] 27)) w2.heap.size 27 #[.slice A3 n c3, .int .i64 (q : Int), .slice A4 n2 c4] := Row.new _ _ _
  have hB3 : Below w.heap.size w (w2.alloc (.cells #[.slice A3 n c3, .int .i64 (q : Int), .slice A4 n2 c4] 27)) := Gen.b_alloc hB2
  have hb3 : Below w2.heap.size w2 (w2.alloc (.cells #[.slice A3 n c3, .int .i64 (q : Int), .slice A4 n2 c4] 27)) := Gen.b_alloc (Below.refl _ _)
  have hs3 : ((w2.alloc (.cells #[.slice A3 n c3, .int .i64 (q : Int), .slice A4 n2 c4] 27))).heap.size = w2.heap.size + 1 := by simp
  generalize (w2.alloc (.cells #[.slice A3 n c3, .int .i64 (q : Int), .slice A4 n2 c4] 27)) = w3 at *
  have HS3 := Lib.hid hs3
  have HE3 := Lib.hid (HE2.out.keep hb3)
  have HO3 := Lib.hid (Gen.own_keep ho3 hb3)
  have HO4 := Lib.hid (Gen.own_keep ho4 hb3)
  have HW3 := Lib.hid ho3
  have HW4 := Lib.hid ho4
  have HNE := Lib.hid hne2
  have HB3 := Lib.hid hB3
  clear hb3 hs3 ho3 ho4 hB2 hB3 hne2
  have e1 := x0.cell 1
  go_upto_region 10 with (fail)
  have HX2 := Lib.hid x2
  have HX9 := Lib.hid x9
  have g2 := x9.cell 2
  clear x0 x2 x9 e1
  have hN9 : (Value.slice A4 n2 c4).ownBlock ≠ some w2.heap.size := fun h => by have := (HW4.out.lt _ h).2; omega
  have hN1 : (Value.slice A4 n2 c4).ownBlock ≠ some (w.heap.size + 1) := fun h => by have := (HW4.out.lt _ h).1; omega
  have hNV : (Value.slice A4 n2 c4).ownBlock ≠ some w3.heap.size := fun h => by have := (HW4.out.lt _ h).2; have := HS3.out; omega
  go_upto_region 11 with (first
    | (go_at_call 24
       go_must (refine (insert_any HN2.out (Gen.own_keep HO4.out (Gen.b_alloc (Below.refl _ _))) hin2 hn2b (Row.new _ _ _) hNV).mono ?_
                rintro e w5 ⟨A6, c6, rfl, hI6, hg6, hA6⟩
                have hB5 : Below w.heap.size w w5 := Gen.g_below HO4.out hg6 (Gen.b_alloc HB3.out) (by omega)
                have hR9 := row_grown (HX9.out.alloc _) hg6 hN9
                have hR2 := row_grown (HX2.out.alloc _) hg6 hN1
                have hO3 := (Gen.own_keep HO3.out (Gen.b_alloc (Below.refl _ _))).kept hg6 (ne_of' HNE.out)
                have hN3 : (Value.slice A3 n c3).ownBlock ≠ some w2.heap.size := fun h => by have := (HW3.out.lt _ h).2; omega
                have hA7 : ∀ a, A6 = some a → a.block ≠ w2.heap.size ∧ a.block ≠ w.heap.size + 1 ∧ w.heap.size ≤ a.block := fun a h => by
                  rcases hA6 a h with h' | h'
                  · have := HW4.out.lt _ h'; omega
                  · have := HS3.out; simp at h'; omega
                have HE5 := Lib.hid (own_put_ne hO3 (p := ⟨w2.heap.size, 2, none⟩) hN3 (.slice A6 (n2 + 1) c6))
                have HI5 := Lib.hid (ints_put hI6 (p := ⟨w2.heap.size, 2, none⟩) (fun a h => (hA7 a h).1) (.slice A6 (n2 + 1) c6))
                have HA7 := Lib.hid hA7
                have HR26 := Lib.hid (row_put hR2 (p := ⟨w2.heap.size, 2, none⟩) (by show w2.heap.size ≠ _; omega) (.slice A6 (n2 + 1) c6))
                have HR96 := Lib.hid (hR9.set 2 (.slice A6 (n2 + 1) c6))
                have HB6 := Lib.hid (Gen.b_set (p := ⟨w2.heap.size, 2, none⟩) (u := .slice A6 (n2 + 1) c6) hB5 (by show w.heap.size ≤ w2.heap.size; omega))
                have e2 := hR9.cell 2
                have ef := hR9.frozen 2
                clear hg6 hA6 hN3 hO3 hI6 hR2 hR9 hB5 hA7))
    | fail "insert")
  clear g2 e2 ef hN9 hN1 hNV
  generalize w5.setCell ⟨w2.heap.size, 2, none⟩ (.slice A6 (n2 + 1) c6) = w6 at *
  have r3 : Row w6 w2.heap.size 27 #[.slice A3 n c3, .int .i64 (q : Int), .slice A6 (n2 + 1) c6] := HR96.out
  have g0 := r3.cell 0
  have g1 := r3.cell 1
  have g2 := r3.cell 2
  have k0 := HR26.out.cell 0
  have k1 := HR26.out.cell 1
  have k2 := HR26.out.cell 2
  have kf0 := HR26.out.frozen 0
  have kf1 := HR26.out.frozen 1
  have kf2 := HR26.out.frozen 2
  have kl := HR26.out.lt
  have HE7 := Lib.hid (own_put (own_put (own_put HE5.out (p := ⟨w.heap.size + 1, 0, none⟩) (by show w.heap.size + 1 < _; omega) (.slice A3 n c3)) (p := ⟨w.heap.size + 1, 1, none⟩) (by show w.heap.size + 1 < _; omega) (.int .i64 (q : Int))) (p := ⟨w.heap.size + 1, 2, none⟩) (by show w.heap.size + 1 < _; omega) (.slice A6 (n2 + 1) c6))
  have HI7 := Lib.hid (ints_put (ints_put (ints_put HI5.out (p := ⟨w.heap.size + 1, 0, none⟩) (fun a h => (HA7.out a h).2.1) (.slice A3 n c3)) (p := ⟨w.heap.size + 1, 1, none⟩) (fun a h => (HA7.out a h).2.1) (.int .i64 (q : Int))) (p := ⟨w.heap.size + 1, 2, none⟩) (fun a h => (HA7.out a h).2.1) (.slice A6 (n2 + 1) c6))
  have HB7 := Lib.hid (Gen.b_set (p := ⟨w.heap.size + 1, 2, none⟩) (u := .slice A6 (n2 + 1) c6) (Gen.b_set (p := ⟨w.heap.size + 1, 1, none⟩) (u := .int .i64 (q : Int)) (Gen.b_set (p := ⟨w.heap.size + 1, 0, none⟩) (u := .slice A3 n c3) HB6.out (by show w.heap.size ≤ w.heap.size + 1; omega)) (by show w.heap.size ≤ w.heap.size + 1; omega)) (by show w.heap.size ≤ w.heap.size + 1; omega))
  have HCAP := Lib.hid (own_cap HE5.out)
  have HD := Lib.hid (dlv_early (S := S) (H := H) (p := p) (by rw [HQ.out]; exact hp2))
  clear HR96 HB6 HE5 HI5 HR26 HB3 HX2 HX9 HO3 HO4 r3
  go_wp2
  refine bodyPost_ret (v := .tuple #[.agg #[.slice A3 n c3, .int .i64 (q : Int), .slice A6 (n2 + 1) c6], .slice none 0 0, .int .i64 0]) (by simp [results, Try.results11, go_sem, *]) rfl ⟨_, none, 0, by rw [HD.out]; rfl, ?_, by rw [HD.out]; exact fun h => by simp at h, HB7.out, abv_mk (fun a h => Nat.le_trans (by omega) (own_ab HE7.out a h)) (fun a h => (HA7.out a h).2.2), fun a h => by cases h⟩
  have hl2 : (ea (H.set p true)).length = n2 + 1 := by rw [HINS.out, List.length_append, List.length_cons, List.length_take, List.length_drop, HN2.out]; omega
  exact ⟨A3, c3, A6, c6, by rw [nx_early (by rw [HQ.out]; exact hp2), HQ.out, hl2, HN.out], ens_own HN.out HE7.out, by rw [HINS.out]; exact HI7.out, by rw [List.length_set, HL.out], by rw [HN.out]; exact hb, by rw [HN.out]; exact HCAP.out⟩
end
end Go.Proofs.Ytefikmfogbdhpaa.Po
