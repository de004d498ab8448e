/- Bearer pieces: the contract of copies. -/
import Derived.Test.YthphlaijkknefaaBeaD
namespace Go.Proofs.Ythphlaijkknefaa.Bea
open Go.ChangeShapes Go.WideShapes Go.ChangeAt Go.RowKit Go.Proofs.Ythphlaijkknefaa.Cell
set_option linter.unusedVariables false
set_option linter.unusedSimpArgs false

theorem infoP : (Try.prog.info? 36).map (fun i => (i.zero, i.size, i.bytes)) = some (some (.agg #[.int .i64 0, .int .i64 0, .slice none 0 0, .int .i64 0, .int .i64 0]), 5, 56) := by kernel_rfl
theorem infoB : (Try.prog.info? 4).map (fun i => (i.zero, i.size, i.bytes)) = some (some (.bool false), 1, 1) := by kernel_rfl
theorem info_parts' {o : Option TypeInfo} {z : Value} {a b : Nat} (h : o.map (fun i => (i.zero, i.size, i.bytes)) = some (some z, a, b)) : ∃ i, o = some i ∧ i.zero = some z ∧ i.size = a ∧ i.bytes = b := by
  cases o with
  | none => cases h
  | some i =>
    simp only [Option.map_some, Option.some.injEq, Prod.mk.injEq] at h
    exact ⟨i, rfl, h.1, h.2.1, h.2.2⟩
theorem add_lit' (b off j : Nat) : (⟨b, off, none⟩ : Addr).add j = ⟨b, off + j, none⟩ := by unfold Addr.add; split <;> simp_all
theorem pcl_list {w : World} {b off : Nat} {l : List Pc} (h : ∀ (j : Nat) x, l[j]? = some x → PcAt w b (off + j * 5) x) :
    ∃ P : List (Pc × Value), P.map (·.1) = l ∧ (∀ (j : Nat) u, (P.flatMap pcv)[j]? = some u → w.cell? ((⟨b, off, none⟩ : Addr).add j) = some u) ∧ ∀ (j : Nat) y, P[j]? = some y → ∃ A c, y.2 = .slice A y.1.pd.length c ∧ Boos w A y.1.pd := by
  refine ⟨l.mapIdx fun j x => (x, (w.cell? ⟨b, off + j * 5 + 2, none⟩).getD (.bool false)), ?_, ?_, ?_⟩
  · apply List.ext_getElem?
    intro j
    rw [List.getElem?_map, List.getElem?_mapIdx]
    cases l[j]? <;> rfl
  · intro j u hu
    have hj := (List.getElem?_eq_some_iff.1 hu).1
    rw [Gen.flat_length (K := 5) (fun _ => rfl), List.length_mapIdx] at hj
    obtain ⟨x, hx⟩ := at_ l (j / 5) (by omega)
    have hy : (l.mapIdx fun j x => (x, (w.cell? ⟨b, off + j * 5 + 2, none⟩).getD (.bool false)))[j / 5]? = some (x, (w.cell? ⟨b, off + j / 5 * 5 + 2, none⟩).getD (.bool false)) := by rw [List.getElem?_mapIdx, hx]; rfl
    have f := Gen.flat_at (f := pcv) (K := 5) (fun _ => rfl) _ _ _ hy (j % 5) (by omega)
    rw [show j / 5 * 5 + j % 5 = j by omega, hu] at f
    rw [add_lit']
    obtain ⟨c0, c1, ⟨A, c, c2, _⟩, c3, c4⟩ := h _ x hx
    rw [c2] at f
    have hr : j % 5 = 0 ∨ j % 5 = 1 ∨ j % 5 = 2 ∨ j % 5 = 3 ∨ j % 5 = 4 := by omega
    have e : off + j = off + j / 5 * 5 + j % 5 := by omega
    rw [e, f]
    rcases hr with r | r | r | r | r <;> rw [r]
    · exact c0
    · exact c1
    · exact c2
    · exact c3
    · exact c4
  · intro j y hy
    rw [List.getElem?_mapIdx] at hy
    cases hx : l[j]? with
    | none => rw [hx] at hy; cases hy
    | some x =>
      rw [hx] at hy
      have hy : (x, (w.cell? ⟨b, off + j * 5 + 2, none⟩).getD (.bool false)) = y := by injection hy
      subst hy
      obtain ⟨_, _, ⟨A, c, c2, hb⟩, _, _⟩ := h _ x hx
      exact ⟨A, c, by rw [c2]; rfl, hb⟩
theorem pcv_one (P : List (Pc × Value)) (h : ∀ y ∈ P, ∃ A n c, y.2 = .slice A n c) : ∀ u ∈ P.flatMap pcv, u.oneCell' = true := fun u hu => by
  obtain ⟨y, hy, hx⟩ := List.mem_flatMap.1 hu
  obtain ⟨A, n, c, e⟩ := h y hy
  simp [pcv, e] at hx
  rcases hx with rfl | rfl | rfl | rfl | rfl <;> rfl
theorem boo_one (l : List Bool) : ∀ u ∈ l.map Value.bool, u.oneCell' = true := fun u hu => by
  obtain ⟨x, _, rfl⟩ := List.mem_map.1 hu
  rfl
theorem Pd.form {B : Nat} {W : World} {pd : List Bool} {u : Value} (h : Pd B W pd u) : ∃ A c, u = .slice A pd.length c := by
  rcases h with ⟨rfl, A, c, rfl⟩ | ⟨_, h⟩
  · exact ⟨A, c, rfl⟩
  · obtain ⟨A, c, e, _⟩ := Gen.own_slice h
    exact ⟨A, c, e⟩
/-- the append of a piece's coupons to nothing -/
theorem pd_append {w0 W : World} {A : Option Addr} {pd : List Bool} {c : Nat} (h : Boos w0 A pd) (hb : Below w0.heap.size w0 W) (hl : pd.length ≤ 100000) :
    ∃ u W', (Builtin.append_ #[34, 34] 34 #[.slice A 0 0, .slice A pd.length c]).run Try.prog W = .ok u W' ∧ Pd W.heap.size W' pd u ∧ W.grownBy W' none := by
  obtain ⟨iB, hiB, hzB, hyB, hxB⟩ := info_parts' infoB
  cases hp : pd with
  | nil => exact ⟨_, W, run_append_none W _ _ 4 iB Try.underlying34 hiB A A c, .inl ⟨rfl, A, 0, rfl⟩, ⟨rfl, rfl, rfl, Nat.le_refl _, fun _ _ _ => rfl⟩⟩
  | cons x r =>
    rw [← hp]
    have hne : pd ≠ [] := by rw [hp]; simp
    obtain ⟨b, off, rfl, hc⟩ := h (by rw [hp]; simp)
    obtain ⟨u, W', hrun, ho, hg⟩ := run_append_zero W 34 34 4 iB _ 1 1 Try.underlying34 hiB hzB hyB hxB rfl (by omega) (some ⟨b, off, none⟩) ⟨b, off, none⟩ pd.length c (pd.map Value.bool) (by simp) (fun j v hv => by
      rw [List.getElem?_map] at hv
      cases hj : pd[j]? with
      | none => rw [hj] at hv; cases hv
      | some y =>
        rw [hj] at hv
        have hv : Value.bool y = v := by injection hv
        rw [add_lit', ← hv]
        exact keep0 hb _ _ _ (hc j y hj)) (boo_one pd) (by rw [hp]; simp) (by simp only [maxLen]; omega) (by omega)
    exact ⟨u, W', hrun, .inr ⟨hne, ho⟩, hg⟩
set_option maxRecDepth 100000 in
set_option maxHeartbeats 8000000 in
theorem copies_any (A : Option Addr) (n cap : Nat) (l : List Pc) (w : World) (hn : l.length = n) (hc : Pcl w A l) (h0 : 0 < n) (hbig : n ≤ 1000) (hsz : ∀ x ∈ l, x.pd.length ≤ 400) :
    Calls Try.prog 26 #[.slice A n cap] w fun e w' => ∃ g c P, e = .returned (.slice (some ⟨g, 0, none⟩) n c) ∧ Cpi w w.heap.size w' g c n P ∧ P.map (·.1) = l := by
  obtain ⟨b, off, rfl, hcell⟩ := hc (by omega)
  obtain ⟨P0, hP0, hcl, hrest⟩ := pcl_list hcell
  obtain ⟨iP, hiP, hzP, hyP, hxP⟩ := info_parts' infoP
  have hl0 : P0.length = n := by rw [← hn, ← hP0, List.length_map]
  obtain ⟨v1, w1, hrun1, ho1, hg1⟩ := run_append_zero w 22 22 36 iP _ 5 56 Try.underlying22 hiP hzP hyP hxP rfl (by omega) (some ⟨b, off, none⟩) ⟨b, off, none⟩ n cap (P0.flatMap pcv)
    (by rw [Gen.flat_length (K := 5) (fun _ => rfl), hl0]) hcl (pcv_one P0 fun y hy => by obtain ⟨j, hj⟩ := List.getElem?_of_mem hy; obtain ⟨A, c, e, _⟩ := hrest j y hj; exact ⟨A, _, c, e⟩) h0 (by simp only [maxLen]; omega) (by omega)
  obtain ⟨g, c, hv1, _, _⟩ := ho1.form h0
  subst hv1
  have HC0 := Lib.hid (show Cpi w w.heap.size w1 g c 0 P0 from ⟨by rw [hl0]; exact ho1, fun j y h => by omega, fun j k y z q h => by omega, fun j y h => by omega, fun j y _ hy => hrest j y hy, (Below.refl _ _).grown hg1 (Nat.le_refl _) (fun k hk => by cases hk), Nat.le_refl _⟩)
  have HP0 := Lib.hid hP0
  have HN := Lib.hid hn
  have HSZ := Lib.hid hsz
  clear hcl hrest hg1 ho1 hP0 hl0 hn hsz hcell
  go_enter Try.func26, Try.ntmps26
  go_wp2_with (first
    | (at_builtin
       go_must (refine wpList_append_run rfl (.tmp 7) (.tmp 8) _ rfl _ _ _ w1 rfl rfl hrun1 ?_))
    | fail)
  go_loopw [12] (fun iv wr => ∃ (i : Nat) (P : List (Pc × Value)), i ≤ n ∧ iv = .int .i64 i ∧ Hid (P.map (·.1) = l) ∧ Hid (Cpi w w.heap.size wr g c i P)) (fun iv _ => n - (intOf iv).toNat)
  case atStart => exact ⟨0, P0, Nat.zero_le _, rfl, HP0, HC0⟩
  case round =>
    clear HC0 HP0
    obtain ⟨i, P, hi, rfl, HP, HC⟩ := hrel
    have i0 : (0 : Int) ≤ (i : Int) := by omega
    by_cases hlt : i < n
    · have hiI : (i : Int) < (n : Int) := by omega
      have hlen : P.length = n := by rw [← HN.out, ← HP.out, List.length_map]
      obtain ⟨y, hy⟩ : ∃ y, P[i]? = some y := ⟨_, List.getElem?_eq_getElem (by rw [hlen]; exact hlt)⟩
      obtain ⟨c0, c1, c2, c3, c4⟩ := HC.out.cells hy
      obtain ⟨A5, c5, hu5, hb5⟩ := HC.out.rest i y (Nat.le_refl _) hy
      have hs5 : y.1.pd.length ≤ 400 := HSZ.out y.1 (by rw [← HP.out]; exact List.mem_map_of_mem (mem_of_at hy))
      have hgl := (HC.out.o.lt g rfl).2
      obtain ⟨⟨xi, xu, xp, xl, xs⟩, u5⟩ := y
      dsimp only at c0 c1 c2 c3 c4 hu5 hb5 hs5
      subst hu5
      have hbA : Below wr.heap.size wr (wr.alloc (.cells #[.int .i64 xi, .int .i64 xu, .slice A5 xp.length c5, .int .i64 xl, .int .i64 xs] 36)).drew := (Gen.b_alloc (Below.refl _ _)).drew
      obtain ⟨u, w5, hrun5, hpd5, hg5⟩ := pd_append (c := c5) hb5 (Gen.over hbA HC.out.bl) (by omega)
      obtain ⟨A6, c6, hu6⟩ := hpd5.form
      subst hu6
      have hb55 : Below wr.heap.size wr w5 := hbA.grown hg5 hbA.size (fun k hk => by cases hk)
      have d2 := Gen.keep hb55 c2
      have f2 : w5.frozen? ⟨g, i * 5 + 2, none⟩ = false := own_frozen (Gen.own_keep HC.out.o hb55)
      have HNX := Lib.hid (HC.out.next hy hbA hg5 hpd5 (Nat.le_trans HC.out.lo (by
        have h1 := HC.out.bl.size
        have h2 := hbA.size
        omega)))
      have HPX := Lib.hid ((map_fst_set (u := .slice A6 xp.length c6) hy).trans HP.out)
      clear hy hb5 hpd5 hg5 hlen
      go_wp2
      go_region_law (first
        | (refine step_append_run (by rfl) (.tmp 21) (.tmp 23) _ (by rfl) _ _ (.slice A6 xp.length c6) w5 rfl rfl hrun5 ?_))
      all_goals
        go_wp2
        go_roundw
        case rel => exact ⟨i + 1, _, by omega, by go_num, HPX, HNX⟩
        case measure => simp [intOf]; omega
    · obtain rfl : n = i := by omega
      go_wp2
      go_ret
      exact ⟨g, c, P, rfl, HC.out, HP.out⟩
end Go.Proofs.Ythphlaijkknefaa.Bea
