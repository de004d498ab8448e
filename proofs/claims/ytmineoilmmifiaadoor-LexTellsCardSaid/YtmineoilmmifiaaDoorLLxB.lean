/- LexBack returns true: every string; no condition. -/
import Derived.Test.YtmineoilmmifiaaDoorLxX
namespace Go.Proofs.YtmineoilmmifiaaDoor.Lx
open Go.Lib Go.ChangeShapes Go.WideShapes Go.ChangeAt Go.RowKit Go.Proofs.YtmineoilmmifiaaDoor.Cell
set_option linter.unusedVariables false
set_option linter.unusedSimpArgs false
theorem lx_errx {p : Nat} {l : List UInt8} {ts : List Tk} {o : Option (Nat × Int)} (h : Lx p l ts o) : ∀ q x, o = some (q, x) → x = 3 ∨ x = 10 ∨ x = 11 := by
  induction h with
  | stop h => intro q x h; cases h
  | err h hn =>
    intro q x h
    injection h with h
    injection h with _ h
    subst h
    exact nxt_err hn
  | cons h hn hr ih => exact ih
theorem lx_kinds {p : Nat} {l : List UInt8} {ts : List Tk} {o : Option (Nat × Int)} (h : Lx p l ts o) : ∀ x ∈ ts, x.k = 0 ∨ x.k = 1 ∨ x.k = 2 := by
  intro x hx
  exact (nxt_ok (lx_okt h x hx)).2.2.1
def sumt (ts : List Tk) : Nat := (ts.map fun x => x.t.length).sum
theorem lx_sum {p : Nat} {l : List UInt8} {ts : List Tk} {o : Option (Nat × Int)} (h : Lx p l ts o) : sumt ts ≤ l.length := by
  induction h with
  | stop h => simp [sumt]
  | err h hn => simp [sumt]
  | @cons p l c r t k n ts o h hn hr ih =>
    have hok := nxt_ok hn
    have hll := congrArg List.length (tw_dw blk l)
    rw [List.length_append, h] at hll
    rw [List.length_drop] at ih
    have htl : t.length ≤ (c :: r).length := by
      have := congrArg List.length hok.2.1
      rw [List.length_take] at this
      omega
    unfold sumt at ih ⊢
    rw [List.map_cons, List.sum_cons]
    dsimp only
    omega
theorem sumt_mem {ts : List Tk} {x : Tk} (h : x ∈ ts) : x.t.length ≤ sumt ts := by
  unfold sumt
  induction ts with
  | nil => cases h
  | cons y ts ih =>
    rw [List.map_cons, List.sum_cons]
    rcases List.mem_cons.1 h with rfl | h
    · omega
    · have := ih h
      omega
theorem jn_sum : ∀ (ts : List Tk), (jn (ts.map Tk.t)).length ≤ sumt ts + ts.length
  | [] => by simp [jn]
  | [x] => by simp [jn, sumt]
  | x :: y :: r => by
    have ih := jn_sum (y :: r)
    have e1 : sumt (x :: y :: r) = x.t.length + sumt (y :: r) := by unfold sumt; rw [List.map_cons, List.sum_cons]
    have e2 : (x :: y :: r).length = (y :: r).length + 1 := rfl
    rw [e1, e2]
    show (x.t ++ 32 :: jn ((y :: r).map Tk.t)).length ≤ _
    rw [List.length_append, List.length_cons]
    omega
theorem txs_ok {ts : List Tk} {m : Nat} (h : ∀ x ∈ ts, x.k = 0 ∨ x.k = 1 ∨ x.k = 2) : txs ((ts ++ [endT m]).map tg) = ts.map Tk.t := by
  unfold txs
  rw [List.map_append, List.filter_append]
  have h1 : (List.map tg [endT m]).filter (fun x => decide (x.k ≠ 3)) = [] := rfl
  rw [h1, List.append_nil, List.filter_eq_self.2, List.map_map]
  · rfl
  · intro y hy
    obtain ⟨x, hx, rfl⟩ := List.mem_map.1 hy
    have := h x hx
    rw [decide_eq_true_eq]
    show x.k ≠ 3
    omega
theorem like_at {ts ts' : List Tk} {m m' : Nat} (h : ts'.map ktn = ts.map ktn) : ∀ (j : Nat) x y, ((ts ++ [endT m]).map tg)[j]? = some x → ((ts' ++ [endT m']).map tg)[j]? = some y → x.k = y.k ∧ x.t = y.t ∧ x.n = y.n := by
  intro j x y hx hy
  have hl := congrArg List.length h
  rw [List.length_map, List.length_map] at hl
  rw [List.getElem?_map, Option.map_eq_some_iff] at hx hy
  obtain ⟨x, hx, rfl⟩ := hx
  obtain ⟨y, hy, rfl⟩ := hy
  by_cases hj : j < ts.length
  · rw [List.getElem?_append_left hj] at hx
    rw [List.getElem?_append_left (by omega)] at hy
    have h1 := congrArg (fun l => l[j]?) h
    simp only [List.getElem?_map, hx, hy, Option.map_some, Option.some.injEq] at h1
    have h2 := congrArg (fun z : Int × List UInt8 × Int => z.1) h1
    have h3 := congrArg (fun z : Int × List UInt8 × Int => z.2.1) h1
    have h4 := congrArg (fun z : Int × List UInt8 × Int => z.2.2) h1
    exact ⟨h2.symm, h3.symm, h4.symm⟩
  · rw [List.getElem?_append_right (by omega)] at hx hy
    rw [show j - ts'.length = j - ts.length by omega] at hy
    have hj0 : j - ts.length = 0 := by
      have := (List.getElem?_eq_some_iff.1 hx).1
      simp at this
      omega
    rw [hj0] at hx hy
    injection hx with hx
    injection hy with hy
    subst hx hy
    exact ⟨rfl, rfl, rfl⟩
set_option maxRecDepth 100000 in
set_option maxHeartbeats 16000000 in
theorem back_any {w : World} {l : List UInt8} (hE : Ev w w) : Calls Tryd.prog 4 #[.string ⟨l.toArray⟩] w fun e w' => e = .returned (.bool true) ∧ Below w.heap.size w w' := by
  obtain ⟨s, hs⟩ : ∃ s, l.take 900 = s := ⟨_, rfl⟩
  have hsl : s.length ≤ 900 := by rw [← hs, List.length_take]; omega
  obtain ⟨ts, o, hx⟩ := lx_ex s.length 0 s (Nat.le_refl _)
  have HE := Lib.hid hE
  have HCut := Lib.hid (fun W => cut_any (W := W) (l := l))
  rw [hs] at HCut
  have HX := Lib.hid hx
  have hlen := lx_len hx
  clear hE hs
  go_enter Tryd.func4, Tryd.ntmps4
  go_wp2_with (fail)
  go_must (refine (small_any HE.out).mono ?_)
  rintro e w1 ⟨rfl, hb⟩
  have HB := Lib.hid hb
  clear hb
  dsimp only
  go_wp2_with (fail)
  go_must (refine (HCut.out _).mono ?_)
  rintro e w2 ⟨rfl, hw⟩
  have hw := hw.symm
  subst hw
  dsimp only
  go_wp2_with (fail)
  go_must (refine (lex_any (HE.out.keep HB.out) (by omega)).mono ?_)
  intro e w2 h
  cases o with
  | some y =>
    obtain ⟨q, x⟩ := y
    have hx3 := lx_errx HX.out q x rfl
    have hx0 : ¬ x = 0 := by omega
    obtain ⟨rfl, hb⟩ := lexP_err HX.out h
    replace HB := Lib.hid (Gen.over hb HB.out)
    clear h hb hx3 hx
    dsimp only
    go_wp2
    go_ret
    exact ⟨rfl, HB.out⟩
  | none =>
    obtain ⟨⟨A, c, rfl, ho⟩, hb⟩ := lexP_ok HX.out h
    replace HB := Lib.hid (Gen.over hb HB.out)
    have HT1 := Lib.hid (own_tgs ho (by rw [List.length_append]; rfl))
    have hks := lx_kinds hx
    have hsum := lx_sum hx
    obtain ⟨ts', hx2, hk2⟩ := lx_jn (lx_okt hx) 0
    have htx := txs_ok (m := s.length) hks
    have hM : ∀ x ∈ (ts ++ [endT s.length]).map tg, x.t.length ≤ 900 := fun x hx => by
      obtain ⟨y, hy, rfl⟩ := List.mem_map.1 hx
      rcases List.mem_append.1 hy with hy | hy
      · have := sumt_mem hy
        show y.t.length ≤ 900
        omega
      · rw [List.mem_singleton] at hy
        subst hy
        show ([] : List UInt8).length ≤ 900
        simp
    have HTX := Lib.hid (fun W (h : Tgs W A ((ts ++ [endT s.length]).map tg)) => text_any (W := W) (A := A) (n := ts.length + 1) (cap := c) (M := 900) (by rw [List.length_map, List.length_append]; rfl) h hM (by omega) (by decide))
    rw [htx] at HTX
    have hjl := jn_sum ts
    have hl2 := congrArg List.length hk2
    rw [List.length_map, List.length_map] at hl2
    have hxT : ts'.map Tk.t = ts.map Tk.t := jn_eq hk2
    have hks2 := lx_kinds hx2
    have hsum2 := lx_sum hx2
    have htx2 := fun m => txs_ok (m := m) hks2
    obtain ⟨T, hT⟩ : ∃ T, jn (ts.map Tk.t) = T := ⟨_, rfl⟩
    rw [hT] at HTX hx2 hjl hsum2
    have hTl : T.length ≤ 1800 := by omega
    have hM2 : ∀ x ∈ (ts' ++ [endT T.length]).map tg, x.t.length ≤ 1800 := fun x hx => by
      obtain ⟨y, hy, rfl⟩ := List.mem_map.1 hx
      rcases List.mem_append.1 hy with hy | hy
      · have := sumt_mem hy
        show y.t.length ≤ 1800
        omega
      · rw [List.mem_singleton] at hy
        subst hy
        show ([] : List UInt8).length ≤ 1800
        simp
    have HTX2 := Lib.hid (fun W A c (h : Tgs W A ((ts' ++ [endT T.length]).map tg)) => text_any (W := W) (A := A) (n := ts.length + 1) (cap := c) (M := 1800) (by rw [List.length_map, List.length_append, hl2]; rfl) h hM2 (by omega) (by decide))
    rw [htx2, hxT, hT] at HTX2
    have HLK := Lib.hid (like_at (m := s.length) (m' := T.length) hk2)
    have HX2 := Lib.hid hx2
    have HL2 := Lib.hid hl2
    clear h hb ho hx hks hsum htx hM hjl hl2 hxT hks2 hsum2 htx2 hM2 hT hx2 hk2
    dsimp only
    go_wp2_with (fail)
    go_must (refine (HTX.out _ HT1.out).mono ?_)
    rintro e w3 ⟨rfl, hb⟩
    replace HB := Lib.hid (Gen.over hb HB.out)
    replace HT1 := Lib.hid (HT1.out.keep hb)
    clear hb
    dsimp only
    go_wp2_with (fail)
    go_must (refine (lex_any (HE.out.keep HB.out) (by omega)).mono ?_)
    intro e w4 h
    obtain ⟨⟨A2, c2, rfl, ho⟩, hb⟩ := lexP_ok HX2.out h
    replace HB := Lib.hid (Gen.over hb HB.out)
    replace HT1 := Lib.hid (HT1.out.keep hb)
    have HT2 := Lib.hid (own_tgs ho (by rw [List.length_append]; rfl))
    rw [HL2.out]
    clear h hb ho
    dsimp only
    go_wp2_with (fail)
    go_must (refine (like_eq (by omega) (by rw [List.length_map, List.length_append]; rfl) (by rw [List.length_map, List.length_append, HL2.out]; rfl) HLK.out HT1.out HT2.out).mono ?_)
    rintro e w5 ⟨rfl, hb⟩
    replace HB := Lib.hid (Gen.over hb HB.out)
    replace HT2 := Lib.hid (HT2.out.keep hb)
    clear hb
    dsimp only
    go_wp2_with (fail)
    go_must (refine (HTX2.out _ _ _ HT2.out).mono ?_)
    rintro e w6 ⟨rfl, hb⟩
    replace HB := Lib.hid (Gen.over hb HB.out)
    clear hb
    dsimp only
    go_wp2
    go_ret
    exact ⟨rfl, HB.out⟩
end Go.Proofs.YtmineoilmmifiaaDoor.Lx
