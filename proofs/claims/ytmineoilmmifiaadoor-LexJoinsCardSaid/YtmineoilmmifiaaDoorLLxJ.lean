/- LexJoins returns true: every two strings, every number; no condition. -/
import Derived.Test.YtmineoilmmifiaaDoorLLxW
import Derived.Deep.Cut
namespace Go.Proofs.YtmineoilmmifiaaDoor.Lx
open Go.Lib Go.ChangeShapes Go.WideShapes Go.ChangeAt Go.RowKit Go.Proofs.YtmineoilmmifiaaDoor.Cell
set_option linter.unusedVariables false
set_option linter.unusedSimpArgs false
theorem sep_is {D : Nat} (h : D < 3) : ∃ c, (⟨#[9, 10, 32]⟩ : ByteArray).extract D (D + 1) = ⟨[c].toArray⟩ ∧ blk c = true := by
  rcases (show D = 0 ∨ D = 1 ∨ D = 2 by omega) with rfl | rfl | rfl
  · exact ⟨9, rfl, rfl⟩
  · exact ⟨10, rfl, rfl⟩
  · exact ⟨32, rfl, rfl⟩
section
variable {s t : List UInt8} {c : UInt8} {ts us : List Tk}
theorem sep_bl (hc : blk c = true) : Bl (c :: t) := fun d r e => by injection e with e _; subst e; exact hc
theorem join_err (hc : blk c = true) {y : Nat × Int} (h : Lx 0 s ts (some y)) : Lx 0 (s ++ c :: t) ts (some y) := (lx_join h (sep_bl hc)).2 y rfl
theorem join_ok (hc : blk c = true) {o : Option (Nat × Int)} (h : Lx 0 s ts none) (h2 : Lx 0 t us o) : Lx 0 (s ++ c :: t) (ts ++ us.map (sh (s.length + 1))) (sho (s.length + 1) o) := by
  refine (lx_join h (sep_bl hc)).1 rfl _ _ ?_
  have h3 := lx_shift (s.length + 1) h2
  rw [Nat.zero_add] at h3 ⊢
  exact lx_ahead (a := [c]) (by rw [List.dropWhile_cons, hc]; rfl) h3
theorem plc_le {w : List UInt8} : ∀ {ts : List Tk} {E : Nat}, PlC w E ts → ∀ x ∈ ts, x.p ≤ w.length
  | [], E, h, x, hx => by cases hx
  | y :: r, E, h, x, hx => by
    obtain ⟨_, h2, _, _, _, _, _, h8⟩ := h
    rcases List.mem_cons.1 hx with rfl | hx
    · omega
    · exact plc_le h8 x hx
theorem TgAt.alloc {W : World} {b o : Nat} {x : Tg} (h : TgAt W b o x) (X : Obj) : TgAt (W.alloc X) b o x :=
  ⟨Gen.keep (Gen.b_alloc (Below.refl _ _)) h.c0, Gen.keep (Gen.b_alloc (Below.refl _ _)) h.c1, Gen.keep (Gen.b_alloc (Below.refl _ _)) h.c2, Gen.keep (Gen.b_alloc (Below.refl _ _)) h.c3⟩
def shg (d : Int) (x : Tg) : Tg := ⟨x.k, x.t, x.n, x.q + d⟩
theorem join_lo {j m m' d : Nat} {x : Tg} (hj : j < ts.length) (hx : ((ts ++ [endT m]).map tg)[j]? = some x) : (((ts ++ us.map (sh d)) ++ [endT m']).map tg)[j]? = some x := by
  rw [List.getElem?_map, List.getElem?_append_left hj] at hx
  rw [List.getElem?_map, List.append_assoc, List.getElem?_append_left hj]
  exact hx
theorem join_hi {j m d : Nat} {x : Tg} (hj : ts.length ≤ j) (hx : ((us ++ [endT m]).map tg)[j - ts.length]? = some x) : (((ts ++ us.map (sh d)) ++ [endT (m + d)]).map tg)[j]? = some (shg d x) := by
  rw [List.getElem?_map, List.append_assoc, List.getElem?_append_right hj]
  rw [List.getElem?_map, Option.map_eq_some_iff] at hx
  obtain ⟨y, hy, rfl⟩ := hx
  have e : us.map (sh d) ++ [endT (m + d)] = (us ++ [endT m]).map (sh d) := by rw [List.map_append]; rfl
  rw [e, List.getElem?_map, hy]
  simp [sh, shg, tg]
end
section
variable {w : World} {l r : List UInt8} {u : Int}
set_option maxRecDepth 100000 in
set_option maxHeartbeats 16000000 in
theorem joins_any (hE : Ev w w) (hu0 : 0 ≤ u) (hu1 : u ≤ 255) : Calls Tryd.prog 6 #[.string ⟨l.toArray⟩, .string ⟨r.toArray⟩, .int .u8 u] w fun e w' => e = .returned (.bool true) ∧ Below w.heap.size w w' := by
  obtain ⟨s, hs⟩ : ∃ s, l.take 900 = s := ⟨_, rfl⟩
  have hsl : s.length ≤ 900 := by rw [← hs, List.length_take]; omega
  obtain ⟨t, ht⟩ : ∃ t, r.take 900 = t := ⟨_, rfl⟩
  have htl : t.length ≤ 900 := by rw [← ht, List.length_take]; omega
  obtain ⟨ts, o1, hx1⟩ := lx_ex s.length 0 s (Nat.le_refl _)
  obtain ⟨us, o2, hx2⟩ := lx_ex t.length 0 t (Nat.le_refl _)
  have HE := Lib.hid hE
  have HC1 := Lib.hid (fun W => cut_any (W := W) (l := l))
  have HC2 := Lib.hid (fun W => cut_any (W := W) (l := r))
  rw [hs] at HC1
  rw [ht] at HC2
  obtain ⟨D, hD⟩ : ∃ D : Nat, u.toNat % 3 = D := ⟨_, rfl⟩
  have hD3 : D < 3 := by omega
  have hmod : Int.tmod u 3 = (D : Int) := by
    rw [Int.tmod_eq_emod_of_nonneg hu0]
    omega
  have hw8 : IntKind.u8.wrap ((D : Int) + 1) = (D : Int) + 1 := IntWalk.u8_in _ (by omega)
  have d0 : (0 : Int) ≤ (D : Int) := by omega
  have d1 : (D : Int) ≤ (D : Int) + 1 := by omega
  have d2 : (D : Int) + 1 ≤ 3 := by omega
  have d3 : ((D : Int) + 1).toNat = D + 1 := by omega
  obtain ⟨c, hc, hblk⟩ := sep_is hD3
  have HSE := Lib.hid hc
  have HX1 := Lib.hid hx1
  have HX2 := Lib.hid hx2
  have hl1 := lx_len hx1
  have hl2 := lx_len hx2
  have hzs : (⟨s.toArray⟩ : ByteArray).size = s.length := by simp [ByteArray.size]
  have hzt : (⟨t.toArray⟩ : ByteArray).size = t.length := by simp [ByteArray.size]
  have HCA : Hid ((⟨s.toArray⟩ : ByteArray) ++ ⟨[c].toArray⟩ ++ ⟨t.toArray⟩ = ⟨(s ++ c :: t).toArray⟩) := Lib.hid (by rw [app_list, app_list]; simp)
  have HLL : Hid ((s ++ c :: t).length ≤ 4000) := Lib.hid (by rw [List.length_append, List.length_cons]; omega)
  clear hE hs ht hx1 hx2 hD hc
  go_enter Tryd.func6, Tryd.ntmps6
  go_wp2_with (fail)
  go_must (refine (small_any HE.out).mono ?_)
  rintro e w1 ⟨rfl, hb⟩
  have HB := Lib.hid hb
  clear hb
  dsimp only
  go_wp2_with (fail)
  go_must (refine (HC1.out _).mono ?_)
  rintro e w2 ⟨rfl, hw⟩
  have hw := hw.symm
  subst hw
  dsimp only
  go_wp2_with (fail)
  go_must (refine (HC2.out _).mono ?_)
  rintro e w2 ⟨rfl, hw⟩
  have hw := hw.symm
  subst hw
  dsimp only
  go_wp2_with (fail)
  rw [HSE.out]
  go_must (refine (lex_any (HE.out.keep HB.out) (by omega)).mono ?_)
  intro e w2 h1
  cases o1 with
  | some y =>
    obtain ⟨q, x⟩ := y
    have hx3 := lx_errx HX1.out q x rfl
    have hx0 : ¬ x = 0 := by omega
    obtain ⟨rfl, hb⟩ := lexP_err HX1.out h1
    replace HB := Lib.hid (Gen.over hb HB.out)
    have hqq : ((q : Int) == (q : Int)) = true := by simp
    have hxx : (x == x) = true := by simp
    clear h1 hb hx3
    dsimp only
    go_wp2_with (fail)
    go_must (refine (lex_any (HE.out.keep HB.out) (by omega)).mono ?_)
    intro e w3 h2
    cases o2 with
    | some y2 =>
      obtain ⟨q2, x2⟩ := y2
      obtain ⟨rfl, hb⟩ := lexP_err HX2.out h2
      replace HB := Lib.hid (Gen.over hb HB.out)
      clear h2 hb
      dsimp only
      go_wp2_with (fail)
      rw [HCA.out]
      go_must (refine (lex_any (HE.out.keep HB.out) HLL.out).mono ?_)
      intro e w4 h3
      obtain ⟨rfl, hb⟩ := lexP_err (join_err (t := t) hblk HX1.out) h3
      replace HB := Lib.hid (Gen.over hb HB.out)
      clear h3 hb
      dsimp only
      go_wp2
      go_ret
      exact ⟨rfl, HB.out⟩
    | none =>
      obtain ⟨⟨A2, c2, rfl, _⟩, hb⟩ := lexP_ok HX2.out h2
      replace HB := Lib.hid (Gen.over hb HB.out)
      clear h2 hb
      dsimp only
      go_wp2_with (fail)
      rw [HCA.out]
      go_must (refine (lex_any (HE.out.keep HB.out) HLL.out).mono ?_)
      intro e w4 h3
      obtain ⟨rfl, hb⟩ := lexP_err (join_err (t := t) hblk HX1.out) h3
      replace HB := Lib.hid (Gen.over hb HB.out)
      clear h3 hb
      dsimp only
      go_wp2
      go_ret
      exact ⟨rfl, HB.out⟩
  | none =>
    obtain ⟨⟨A1, c1, rfl, ho1⟩, hb⟩ := lexP_ok HX1.out h1
    replace HB := Lib.hid (Gen.over hb HB.out)
    have HT1 := Lib.hid (own_tgs ho1 (by rw [List.length_append]; rfl))
    clear h1 hb ho1
    dsimp only
    go_wp2_with (fail)
    go_must (refine (lex_any (HE.out.keep HB.out) (by omega)).mono ?_)
    intro e w3 h2
    cases o2 with
    | some y2 =>
      obtain ⟨q2, x2⟩ := y2
      have hx3 := lx_errx HX2.out q2 x2 rfl
      have hx0 : ¬ x2 = 0 := by omega
      obtain ⟨rfl, hb⟩ := lexP_err HX2.out h2
      replace HB := Lib.hid (Gen.over hb HB.out)
      obtain ⟨_, hq, _, _⟩ := lx_take HX2.out rfl
      obtain ⟨Q, hQ⟩ : ∃ Q, q2 + (s.length + 1) = Q := ⟨_, rfl⟩
      have HJE : Hid (Lx 0 (s ++ c :: t) (ts ++ us.map (sh (s.length + 1))) (some (Q, x2))) := Lib.hid (by
        have h := join_ok hblk HX1.out HX2.out
        rw [← hQ]
        exact h)
      have hw1 : IntKind.i64.wrap ((s.length : Int) + 1) = (s.length : Int) + 1 := IntWalk.i64_in _ (by omega)
      have hw2 : IntKind.i64.wrap ((s.length : Int) + 1 + (q2 : Int)) = (Q : Int) := by rw [IntWalk.i64_in _ (by omega)]; omega
      have hqq : ((Q : Int) == (Q : Int)) = true := by simp
      have hxx : (x2 == x2) = true := by simp
      clear h2 hb hx3 hQ hq
      dsimp only
      go_wp2_with (fail)
      rw [HCA.out]
      go_must (refine (lex_any (HE.out.keep HB.out) HLL.out).mono ?_)
      intro e w4 h3
      obtain ⟨rfl, hb⟩ := lexP_err HJE.out h3
      replace HB := Lib.hid (Gen.over hb HB.out)
      clear h3 hb
      dsimp only
      go_wp2
      go_ret
      exact ⟨rfl, HB.out⟩
    | none =>
      obtain ⟨⟨A2, c2, rfl, ho2⟩, hb⟩ := lexP_ok HX2.out h2
      replace HB := Lib.hid (Gen.over hb HB.out)
      replace HT1 := Lib.hid (HT1.out.keep hb)
      have HT2 := Lib.hid (own_tgs ho2 (by rw [List.length_append]; rfl))
      have HJE := Lib.hid (join_ok hblk HX1.out HX2.out)
      have HPL := Lib.hid (plc_le (lx_plc (w := t) HX2.out rfl (by rw [List.drop_zero]) (Nat.zero_le _)))
      clear h2 hb ho2
      dsimp only
      go_wp2_with (fail)
      rw [HCA.out]
      go_must (refine (lex_any (HE.out.keep HB.out) HLL.out).mono ?_)
      intro e w4 h3
      obtain ⟨⟨A3, c3, rfl, ho3⟩, hb⟩ := lexP_ok HJE.out h3
      replace HB := Lib.hid (Gen.over hb HB.out)
      replace HT1 := Lib.hid (HT1.out.keep hb)
      replace HT2 := Lib.hid (HT2.out.keep hb)
      have HT3 := Lib.hid (own_tgs ho3 (by rw [List.length_append]; rfl))
      have hel : (s ++ c :: t).length = t.length + (s.length + 1) := by rw [List.length_append, List.length_cons]; omega
      rw [hel] at HT3
      obtain ⟨n1, hn1⟩ : ∃ n, ts.length = n := ⟨_, rfl⟩
      obtain ⟨n2, hn2⟩ : ∃ n, us.length = n := ⟨_, rfl⟩
      have hn3 : (ts ++ us.map (sh (s.length + 1))).length = n1 + n2 := by rw [List.length_append, List.length_map, hn1, hn2]
      rw [hn3, hn2]
      rw [hn1]
      have HN1 := Lib.hid hn1
      have HN2 := Lib.hid hn2
      obtain ⟨n3, hn4⟩ : ∃ n, n1 + n2 = n := ⟨_, rfl⟩
      rw [hn4]
      have hq1 : n1 ≤ 900 := by omega
      have hq2 : n2 ≤ 900 := by omega
      have hw1 : IntKind.i64.wrap ((n1 : Int) + 1 - 1) = (n1 : Int) := by rw [IntWalk.i64_in _ (by omega)]; omega
      have hw2 : IntKind.i64.wrap ((n1 : Int) + ((n2 : Int) + 1)) = (n3 : Int) + 1 := by rw [IntWalk.i64_in _ (by omega)]; omega
      have hkk : ((n3 : Int) + 1 != (n3 : Int) + 1) = false := by simp
      have hn10 : ¬ (n1 : Int) + 1 < 1 := by omega
      clear h3 hb ho3 hel hn3 hn1 hn2 hl1 hl2
      dsimp only
      go_wp2
      go_loopw [21] (fun iv wr => ∃ k : Nat, k ≤ n3 + 1 ∧ iv = .int .i64 (k : Int) ∧ Hid (Below w4.heap.size w4 wr)) (fun iv _ => n3 + 1 - (RowKit.intOf iv).toNat)
      case atStart => exact ⟨0, Nat.zero_le _, rfl, Lib.hid (Below.refl _ _)⟩
      case round =>
        obtain ⟨k, hk, rfl, HQ⟩ := hrel
        have k0 : (0 : Int) ≤ (k : Int) := by omega
        by_cases hlt : k < n3 + 1
        · have hltI : (k : Int) < (n3 : Int) + 1 := by omega
          by_cases hlo : k < n1
          · have hloI : (k : Int) < (n1 : Int) := by omega
            have hloJ : (k : Int) < (n1 : Int) + 1 := by omega
            obtain ⟨x, hx⟩ := at_ ((ts ++ [endT s.length]).map tg) k (by rw [List.length_map, List.length_append, HN1.out]; exact Nat.lt_succ_of_lt hlo)
            have hx3 := join_lo (us := us) (d := s.length + 1) (m' := t.length + (s.length + 1)) (by rw [HN1.out]; exact hlo) hx
            obtain ⟨b, off, rfl, hcell⟩ := (HT1.out.keep HQ.out) (by simp)
            obtain ⟨b3, off3, rfl, hcell3⟩ := (HT3.out.keep HQ.out) (by rw [List.length_map, List.length_append]; exact Nat.succ_pos _)
            obtain ⟨K, T, N, P⟩ := x
            obtain ⟨a0, a1, a2, a3⟩ := (hcell k _ hx).alloc (.cells #[.int .i64 0, .string ⟨#[]⟩, .int .i64 0, .int .i64 0] 25)
            obtain ⟨e0, e1, e2, e3⟩ := (hcell3 k _ hx3).alloc (.cells #[.int .i64 K, .string ⟨T.toArray⟩, .int .i64 N, .int .i64 P] 25)
            dsimp only at a0 a1 a2 a3 e0 e1 e2 e3
            have HQa := Lib.hid (show Below w4.heap.size w4 (wr.alloc (.cells #[.int .i64 K, .string ⟨T.toArray⟩, .int .i64 N, .int .i64 P] 25)) from Gen.b_alloc HQ.out)
            have hra := Row.new wr 25 #[.int .i64 K, .string ⟨T.toArray⟩, .int .i64 N, .int .i64 P]
            have f0 := Row.cell hra 0
            have f1 := Row.cell hra 1
            have f2 := Row.cell hra 2
            have f3 := Row.cell hra 3
            clear hcell hcell3 hx hx3 hra
            go_upto_region 23 with (fail)
            generalize wr.alloc (.cells #[.int .i64 K, .string ⟨T.toArray⟩, .int .i64 N, .int .i64 P] 25) = wa at *
            clear a0 a1 a2 a3
            go_quiet (fail)
            all_goals
              go_wp2
              go_roundw
              case rel => exact ⟨k + 1, by omega, by go_num, Lib.hid (by first | exact HQa.out.drew | exact Gen.dN HQa.out _)⟩
              case measure => simp [RowKit.intOf]; omega
          · have hloI : ¬ (k : Int) < (n1 : Int) := by omega
            obtain ⟨J, hJ⟩ : ∃ J, k - n1 = J := ⟨_, rfl⟩
            have hwj1 : IntKind.i64.wrap ((k : Int) - ((n1 : Int) + 1)) = (k : Int) - ((n1 : Int) + 1) := IntWalk.i64_in _ (by omega)
            have hwj2 : IntKind.i64.wrap ((k : Int) - ((n1 : Int) + 1) + 1) = (J : Int) := by rw [IntWalk.i64_in _ (by omega)]; omega
            have j0 : (0 : Int) ≤ (J : Int) := by omega
            have j1 : (J : Int) < (n2 : Int) + 1 := by omega
            obtain ⟨x, hx⟩ := at_ ((us ++ [endT t.length]).map tg) J (by rw [List.length_map, List.length_append, HN2.out]; simp; omega)
            have hx3 := join_hi (ts := ts) (us := us) (m := t.length) (d := s.length + 1) (j := k) (x := x) (by rw [HN1.out]; omega) (by rw [HN1.out, hJ]; exact hx)
            have hpq : 0 ≤ x.q ∧ x.q ≤ 900 := by
              rw [List.getElem?_map, Option.map_eq_some_iff] at hx
              obtain ⟨y, hy, rfl⟩ := hx
              have h1 : y.p ≤ t.length := by
                rcases List.mem_append.1 (List.mem_of_getElem? hy) with h | h
                · exact HPL.out y h
                · rw [List.mem_singleton] at h
                  subst h
                  exact Nat.le_refl _
              show 0 ≤ (y.p : Int) ∧ (y.p : Int) ≤ 900
              omega
            obtain ⟨b, off, rfl, hcell⟩ := (HT2.out.keep HQ.out) (by rw [List.length_map, List.length_append]; exact Nat.succ_pos _)
            obtain ⟨b3, off3, rfl, hcell3⟩ := (HT3.out.keep HQ.out) (by rw [List.length_map, List.length_append]; exact Nat.succ_pos _)
            obtain ⟨K, T, N, P⟩ := x
            unfold shg at hx3
            dsimp only at hx3 hpq
            obtain ⟨R, hR⟩ : ∃ R : Int, P + ((s.length + 1 : Nat) : Int) = R := ⟨_, rfl⟩
            obtain ⟨R0, hR0⟩ : ∃ R0 : Int, P + (s.length : Int) = R0 := ⟨_, rfl⟩
            rw [hR] at hx3
            have hwr1 : IntKind.i64.wrap (P + (s.length : Int)) = R0 := by rw [IntWalk.i64_in _ (by omega)]; exact hR0
            have hwr2 : IntKind.i64.wrap (R0 + 1) = R := by rw [IntWalk.i64_in _ (by omega)]; omega
            obtain ⟨a0, a1, a2, a3⟩ := (hcell J _ hx).alloc (.cells #[.int .i64 0, .string ⟨#[]⟩, .int .i64 0, .int .i64 0] 25)
            obtain ⟨e0, e1, e2, e3⟩ := (hcell3 k _ hx3).alloc (.cells #[.int .i64 K, .string ⟨T.toArray⟩, .int .i64 N, .int .i64 R] 25)
            dsimp only at a0 a1 a2 a3 e0 e1 e2 e3
            have HQa := Lib.hid (show Below w4.heap.size w4 (wr.alloc (.cells #[.int .i64 K, .string ⟨T.toArray⟩, .int .i64 N, .int .i64 R] 25)) from Gen.b_alloc HQ.out)
            have hra := Row.new wr 25 #[.int .i64 K, .string ⟨T.toArray⟩, .int .i64 N, .int .i64 R]
            have f0 := Row.cell hra 0
            have f1 := Row.cell hra 1
            have f2 := Row.cell hra 2
            have f3 := Row.cell hra 3
            clear hcell hcell3 hx hx3 hra hpq hR hR0
            go_upto_region 23 with (fail)
            generalize wr.alloc (.cells #[.int .i64 K, .string ⟨T.toArray⟩, .int .i64 N, .int .i64 R] 25) = wa at *
            clear a0 a1 a2 a3
            go_quiet (fail)
            all_goals
              go_wp2
              go_roundw
              case rel => exact ⟨k + 1, by omega, by go_num, Lib.hid (by first | exact HQa.out.drew | exact Gen.dN HQa.out _)⟩
              case measure => simp [RowKit.intOf]; omega
        · obtain rfl : k = n3 + 1 := by omega
          have HBz := Lib.hid (Gen.over HQ.out HB.out)
          go_wp2
          go_ret
          exact ⟨rfl, HBz.out⟩
end
end Go.Proofs.YtmineoilmmifiaaDoor.Lx
