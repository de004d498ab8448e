/- BearerLost returns true: every list of pieces, and numbers; no condition. -/
import Derived.Test.YthphlaijkknefaaBeaJ
namespace Go.Proofs.Ythphlaijkknefaa.Bea
open Go.ChangeShapes Go.WideShapes Go.ChangeAt Go.RowKit Go.Proofs.Ythphlaijkknefaa.Cell
set_option linter.unusedVariables false
set_option linter.unusedSimpArgs false
theorem rgtL_set {l : List Pc} {p : Nat} {x : Pc} (h : rgtL l = true) (hx : rgtP x = true) : rgtL (l.set p x) = true := by
  obtain ⟨h1, h2⟩ := rgtL_in h
  refine rgtL_yes (by rw [List.length_set]; exact h1) fun y hy => ?_
  rcases List.mem_or_eq_of_mem_set hy with hy | rfl
  · exact h2 y hy
  · exact hx
theorem rgt_mov {x : Pc} {d s : Int} (h : rgtP x = true) (hd : 0 ≤ d ∧ d ≤ 200000) (hs : s = -1 ∨ (0 ≤ s ∧ s < 20000)) : rgtP ⟨x.is, x.un, x.pd, d, s⟩ = true := by
  obtain ⟨a, b, c, _⟩ := of_decide_eq_true h
  exact decide_eq_true ⟨a, b, c, .inr ⟨hd, hs⟩⟩
section
variable {A : Option Addr} {n cap : Nat} {l : List Pc} {a1 a2 a3 a4 a5 a6 : Int}
set_option maxRecDepth 100000 in
set_option maxHeartbeats 8000000 in
theorem lost_a (w : World) (hn : l.length = n) (hc : Pcl w A l) (hsz : ∀ x ∈ l, x.pd.length ≤ 9223372036854775807) (hbig : n ≤ 9223372036854775807) (hf : few31 l = false) :
    Calls Try.prog 5 #[.slice A n cap, .int .u8 a1, .int .u8 a2, .int .u16 a3, .int .u16 a4, .int .u16 a5, .int .u16 a6] w fun e w' => e = .returned (.bool true) ∧ Below w.heap.size w w' := by
  have HF := Lib.hid hf
  clear hf
  go_enter Try.func5, Try.ntmps5
  go_wp2_with (fail)
  go_must (refine (small31_any _).mono ?_)
  rintro e w1 ⟨rfl, hb1⟩
  go_wp2_with (fail)
  go_must (refine (few31_any _ n cap l _ hn (hc.keep hb1) hbig).mono ?_)
  rintro e w2 ⟨rfl, rfl⟩
  rw [HF.out]
  clear hn
  go_wp2
  go_ret
  exact ⟨rfl, hb1⟩
set_option maxRecDepth 100000 in
set_option maxHeartbeats 8000000 in
theorem lost_b (w : World) (hn : l.length = n) (hc : Pcl w A l) (hsz : ∀ x ∈ l, x.pd.length ≤ 9223372036854775807) (hbig : n ≤ 9223372036854775807) (hf : few31 l = true) (hr : rgtL l = false) :
    Calls Try.prog 5 #[.slice A n cap, .int .u8 a1, .int .u8 a2, .int .u16 a3, .int .u16 a4, .int .u16 a5, .int .u16 a6] w fun e w' => e = .returned (.bool true) ∧ Below w.heap.size w w' := by
  have HF := Lib.hid hf
  have HR := Lib.hid hr
  clear hf hr
  go_enter Try.func5, Try.ntmps5
  go_wp2_with (fail)
  go_must (refine (small31_any _).mono ?_)
  rintro e w1 ⟨rfl, hb1⟩
  go_wp2_with (fail)
  go_must (refine (few31_any _ n cap l _ hn (hc.keep hb1) hbig).mono ?_)
  rintro e w2 ⟨rfl, rfl⟩
  rw [HF.out]
  go_wp2_with (fail)
  go_must (refine (Right_any _ n cap l _ hn (hc.keep hb1) hsz hbig).mono ?_)
  rintro e w2 ⟨rfl, hb2⟩
  rw [HR.out]
  have HB := Lib.hid (Gen.over hb2 hb1)
  clear hn
  go_wp2
  go_ret
  exact ⟨rfl, HB.out⟩
set_option maxRecDepth 100000 in
set_option maxHeartbeats 8000000 in
theorem lost_c (w : World) (hn : l.length = n) (hc : Pcl w A l) (hsz : ∀ x ∈ l, x.pd.length ≤ 9223372036854775807) (hbig : n ≤ 9223372036854775807) (hf : few31 l = true) (hr : rgtL l = true) (h0 : n = 0) :
    Calls Try.prog 5 #[.slice A n cap, .int .u8 a1, .int .u8 a2, .int .u16 a3, .int .u16 a4, .int .u16 a5, .int .u16 a6] w fun e w' => e = .returned (.bool true) ∧ Below w.heap.size w w' := by
  have h0b : ((n : Int) == 0) = true := by rw [h0]; rfl
  have H0 := Lib.hid h0
  clear h0
  have HF := Lib.hid hf
  have HR := Lib.hid hr
  clear hf hr
  go_enter Try.func5, Try.ntmps5
  go_wp2_with (fail)
  go_must (refine (small31_any _).mono ?_)
  rintro e w1 ⟨rfl, hb1⟩
  go_wp2_with (fail)
  go_must (refine (few31_any _ n cap l _ hn (hc.keep hb1) hbig).mono ?_)
  rintro e w2 ⟨rfl, rfl⟩
  rw [HF.out]
  go_wp2_with (fail)
  go_must (refine (Right_any _ n cap l _ hn (hc.keep hb1) hsz hbig).mono ?_)
  rintro e w2 ⟨rfl, hb2⟩
  rw [HR.out]
  have HB := Lib.hid (Gen.over hb2 hb1)
  clear hn
  go_wp2
  go_ret
  exact ⟨rfl, HB.out⟩
set_option maxRecDepth 100000 in
set_option maxHeartbeats 8000000 in
theorem lost_d (w : World) (hn : l.length = n) (hc : Pcl w A l) (hsz : ∀ x ∈ l, x.pd.length ≤ 9223372036854775807) (hbig : n ≤ 9223372036854775807) (hf : few31 l = true) (hr : rgtL l = true) (h0 : 0 < n) (b1 : 0 ≤ a1 ∧ a1 ≤ 255) (b2 : 0 ≤ a2 ∧ a2 ≤ 255) (b3 : 0 ≤ a3 ∧ a3 ≤ 65535) (b4 : 0 ≤ a4 ∧ a4 ≤ 65535) (b5 : 0 ≤ a5 ∧ a5 ≤ 65535) (b6 : 0 ≤ a6 ∧ a6 ≤ 65535) :
    Calls Try.prog 5 #[.slice A n cap, .int .u8 a1, .int .u8 a2, .int .u16 a3, .int .u16 a4, .int .u16 a5, .int .u16 a6] w fun e w' => e = .returned (.bool true) ∧ Below w.heap.size w w' := by
  have HF := Lib.hid hf
  have HR := Lib.hid hr
  clear hf hr
  have h0I : (0 : Int) < (n : Int) := by omega
  have h0N : n ≠ 0 := by omega
  go_enter Try.func5, Try.ntmps5
  go_wp2_with (fail)
  go_must (refine (small31_any _).mono ?_)
  rintro e w1 ⟨rfl, hb1⟩
  go_wp2_with (fail)
  go_must (refine (few31_any _ n cap l _ hn (hc.keep hb1) hbig).mono ?_)
  rintro e w2 ⟨rfl, rfl⟩
  rw [HF.out]
  go_wp2_with (fail)
  go_must (refine (Right_any _ n cap l _ hn (hc.keep hb1) hsz hbig).mono ?_)
  rintro e w2 ⟨rfl, hb2⟩
  rw [HR.out]
  have HB := Lib.hid (Gen.over hb2 hb1)
  have HN := Lib.hid hn
  clear hn
  go_upto_region 5 with (fail)
  obtain ⟨p, hp⟩ : ∃ p : Nat, a1 % (n : Int) = p := ⟨(a1 % (n : Int)).toNat, by have := Int.emod_nonneg a1 (show (n : Int) ≠ 0 by omega); omega⟩
  have hpn : p < n := by have := Int.emod_lt_of_pos a1 h0I; omega
  rw [hp]
  have p0 : (0 : Int) ≤ (p : Int) := by omega
  have p1 : (p : Int) < (n : Int) := by omega
  obtain ⟨x, hx⟩ := at_ l p (by rw [HN.out]; exact hpn)
  have hc2 := hc.keep HB.out
  obtain ⟨b, off, hA, _⟩ := hc (by rw [HN.out]; exact h0)
  subst hA
  have HX := Lib.hid hx
  have HRX := Lib.hid ((rgtL_in HR.out).2 x (mem_of_at hx))
  obtain ⟨c0, c1, ⟨A2, c2, d2, hbo⟩, c3, c4⟩ := pcl_cells hc2 hx
  have hs := rgt_size HR.out x (mem_of_at hx)
  clear hx hp hb1 hb2
  obtain ⟨xi, xu, xp, xl, xs⟩ := x
  dsimp only at c0 c1 d2 c3 c4 hs hbo
  by_cases h1 : xl = -1
  case neg =>
    have h1b : (xl != -1) = true := by simpa using h1
    go_wp2
    go_ret
    exact ⟨rfl, HB.out⟩
  subst h1
  by_cases h2 : xp.length = 0
  case pos =>
    have h2b : ((xp.length : Int) == 0) = true := by rw [h2]; rfl
    have H2 := Lib.hid h2
    clear h2
    go_wp2
    go_ret
    exact ⟨rfl, HB.out⟩
  have h2b : ((xp.length : Int) == 0) = false := by simpa using h2
  have h2I : (0 : Int) < (xp.length : Int) := by omega
  go_upto_region 8 with (fail)
  obtain ⟨k, hk⟩ : ∃ k : Nat, a2 % (xp.length : Int) = k := ⟨(a2 % (xp.length : Int)).toNat, by have := Int.emod_nonneg a2 (show (xp.length : Int) ≠ 0 by omega); omega⟩
  have hkn : k < xp.length := by have := Int.emod_lt_of_pos a2 h2I; omega
  rw [hk]
  have k0 : (0 : Int) ≤ (k : Int) := by omega
  have k1 : (k : Int) < (xp.length : Int) := by omega
  obtain ⟨b2, o2, hA2, hb2⟩ := hbo (by omega)
  subst hA2
  obtain ⟨y, hy⟩ := at_ xp k hkn
  have e2 := hb2 k y hy
  clear hk hb2 hbo
  cases y
  case true =>
    go_wp2
    go_ret
    exact ⟨rfl, HB.out⟩
  obtain ⟨va, hva⟩ : ∃ v, a3 % 20000 = v := ⟨_, rfl⟩
  obtain ⟨vb, hvb⟩ : ∃ v, a4 % 20000 = v := ⟨_, rfl⟩
  have ba : 0 ≤ va ∧ va < 20000 := by omega
  have bb : 0 ≤ vb ∧ vb < 20000 := by omega
  have hxs : xs = -1 := by
    rcases (of_decide_eq_true HRX.out).2.2.2 with ⟨_, a⟩ | ⟨⟨a, _⟩, _⟩
    · exact a
    · dsimp only at a; omega
  subst hxs
  have hlp : p < l.length := by rw [HN.out]; exact hpn
  have HHY := Lib.hid hy
  have hR1 : rgtL (l.set p ⟨xi, xu, xp, a5, -1⟩) = true := rgtL_set HR.out (rgt_mov HRX.out (by omega) (.inl rfl))
  have hX1 : (l.set p (⟨xi, xu, xp, a5, -1⟩ : Pc))[p]? = some ⟨xi, xu, xp, a5, -1⟩ := List.getElem?_set_self hlp
  have hR2 : rgtL ((l.set p ⟨xi, xu, xp, a5, -1⟩).set p ⟨xi, xu, xp, a5, va⟩) = true := rgtL_set hR1 (rgt_mov HRX.out (by omega) (.inr ba))
  have hX2 : ((l.set p (⟨xi, xu, xp, a5, -1⟩ : Pc)).set p ⟨xi, xu, xp, a5, va⟩)[p]? = some ⟨xi, xu, xp, a5, va⟩ := List.getElem?_set_self (by rw [List.length_set]; exact hlp)
  have hR4 : rgtL (((l.set p ⟨xi, xu, xp, a5, -1⟩).set p ⟨xi, xu, xp, a5, va⟩).set p ⟨xi, xu, xp, -1, -1⟩) = true := rgtL_set hR2 HRX.out
  have hX4 : (((l.set p (⟨xi, xu, xp, a5, -1⟩ : Pc)).set p ⟨xi, xu, xp, a5, va⟩).set p ⟨xi, xu, xp, -1, -1⟩)[p]? = some ⟨xi, xu, xp, -1, -1⟩ := List.getElem?_set_self (by rw [List.length_set, List.length_set]; exact hlp)
  have HQ := Lib.hid (show _ ∧ _ ∧ _ ∧ _ ∧ _ ∧ _ from ⟨hR1, hX1, hR2, hX2, hR4, hX4⟩)
  have hw : IntKind.i64.wrap (a5 + a6) = a5 + a6 := IntWalk.i64_in _ (by omega)
  have n5 : a5 ≠ -1 := by omega
  have na : (-1 : Int) ≠ va := by omega
  clear hR1 hX1 hR2 hX2 hR4 hX4 hy
  go_upto_region 12 with (fail)
  rw [hva, hvb]
  go_wp2_with (fail)
  go_must (refine (report_ok (x := ⟨xi, xu, xp, -1, -1⟩) HN.out hc2 HR.out HX.out (by omega) rfl).mono ?_)
  rintro e w3 ⟨v3, rfl, ⟨⟨g3, q3, rfl, hp3⟩, hn3, hb3⟩⟩
  have HB3 := Lib.hid (Gen.over hb3 HB.out)
  have HP3 : Hid (Pcl _ _ (l.set p ⟨xi, xu, xp, a5, -1⟩)) := Lib.hid hp3
  have HN3 := Lib.hid hn3
  clear hp3 hb3 hn3 c0 c1 d2 c3 c4 e2
  go_wp2_with (fail)
  go_must (refine (present_key (x := ⟨xi, xu, xp, a5, -1⟩) HN3.out HP3.out HQ.out.1 HQ.out.2.1 ba (by omega) HHY.out n5 na).mono ?_)
  rintro e w4 ⟨rfl, hb4⟩
  have HB4 := Lib.hid (Gen.over hb4 HB3.out)
  have HP4 := Lib.hid (HP3.out.keep hb4)
  clear hb4 HP3 HB3
  go_wp2_with (fail)
  go_must (refine (secure_ok (x := ⟨xi, xu, xp, a5, -1⟩) HN3.out HP4.out HQ.out.1 HQ.out.2.1 ba n5 rfl).mono ?_)
  rintro e w5 ⟨v5, rfl, ⟨⟨g5, q5, rfl, hp5⟩, hn5, hb5⟩⟩
  have HB5 := Lib.hid (Gen.over hb5 HB4.out)
  have HP5 : Hid (Pcl _ _ ((l.set p ⟨xi, xu, xp, a5, -1⟩).set p ⟨xi, xu, xp, a5, va⟩)) := Lib.hid hp5
  have HN5 := Lib.hid hn5
  clear hp5 hb5 hn5 HP4 HB4
  by_cases he : a6 < 365
  · by_cases hab : va = vb
    · obtain rfl : va = vb := hab
      go_wp2_with (fail)
      go_must (refine (present_early (x := ⟨xi, xu, xp, a5, va⟩) (wh := va) HN5.out HP5.out HQ.out.2.2.1 HQ.out.2.2.2.1 ba (by omega) HHY.out n5 rfl (by show a5 + a6 < a5 + 365; omega)).mono ?_)
      rintro e w6 ⟨rfl, hb6⟩
      have HB6 := Lib.hid (Gen.over hb6 HB5.out)
      have HP6 := Lib.hid (HP5.out.keep hb6)
      clear hb6 HP5 HB5
      go_wp2_with (fail)
      go_must (refine (present_early (x := ⟨xi, xu, xp, a5, va⟩) (wh := va) HN5.out HP6.out HQ.out.2.2.1 HQ.out.2.2.2.1 ba (by omega) HHY.out n5 rfl (by show a5 + a6 < a5 + 365; omega)).mono ?_)
      rintro e w7 ⟨rfl, hb7⟩
      have HB7 := Lib.hid (Gen.over hb7 HB6.out)
      have HP7 := Lib.hid (HP6.out.keep hb7)
      clear hb7 HP6 HB6
      go_wp2_with (fail)
      go_must (refine (find_ok (x := ⟨xi, xu, xp, a5, va⟩) HN5.out HP7.out HQ.out.2.2.1 HQ.out.2.2.2.1 n5).mono ?_)
      rintro e w8 ⟨v8, rfl, ⟨⟨g8, q8, rfl, hp8⟩, hn8, hb8⟩⟩
      have HB8 := Lib.hid (Gen.over hb8 HB7.out)
      have HP8 : Hid (Pcl _ _ (((l.set p ⟨xi, xu, xp, a5, -1⟩).set p ⟨xi, xu, xp, a5, va⟩).set p ⟨xi, xu, xp, -1, -1⟩)) := Lib.hid hp8
      have HN8 := Lib.hid hn8
      clear hp8 hb8 hn8 HP7 HB7
      go_wp2_with (fail)
      go_must (refine (present_fresh (x := ⟨xi, xu, xp, -1, -1⟩) HN8.out HP8.out HQ.out.2.2.2.2.1 HQ.out.2.2.2.2.2 bb (by omega) HHY.out rfl).mono ?_)
      rintro e w9 ⟨v9, rfl, ⟨⟨g9, q9, rfl, hp9⟩, hn9, hb9⟩⟩
      have HB9 := Lib.hid (Gen.over hb9 HB8.out)
      clear hp9 hb9 hn9 HP8 HB8
      have hcu := (pcl_cells (hc.keep HB9.out) HX.out).c1
      dsimp only at hcu
      have hab2 : (va == va) = true := by simp
      go_wp2
      go_ret
      exact ⟨rfl, HB9.out⟩
    · have nab : va ≠ vb := hab
      go_wp2_with (fail)
      go_must (refine (present_early (x := ⟨xi, xu, xp, a5, va⟩) (wh := va) HN5.out HP5.out HQ.out.2.2.1 HQ.out.2.2.2.1 ba (by omega) HHY.out n5 rfl (by show a5 + a6 < a5 + 365; omega)).mono ?_)
      rintro e w6 ⟨rfl, hb6⟩
      have HB6 := Lib.hid (Gen.over hb6 HB5.out)
      have HP6 := Lib.hid (HP5.out.keep hb6)
      clear hb6 HP5 HB5
      go_wp2_with (fail)
      go_must (refine (present_key (x := ⟨xi, xu, xp, a5, va⟩) HN5.out HP6.out HQ.out.2.2.1 HQ.out.2.2.2.1 bb (by omega) HHY.out n5 nab).mono ?_)
      rintro e w7 ⟨rfl, hb7⟩
      have HB7 := Lib.hid (Gen.over hb7 HB6.out)
      have HP7 := Lib.hid (HP6.out.keep hb7)
      clear hb7 HP6 HB6
      go_wp2_with (fail)
      go_must (refine (find_ok (x := ⟨xi, xu, xp, a5, va⟩) HN5.out HP7.out HQ.out.2.2.1 HQ.out.2.2.2.1 n5).mono ?_)
      rintro e w8 ⟨v8, rfl, ⟨⟨g8, q8, rfl, hp8⟩, hn8, hb8⟩⟩
      have HB8 := Lib.hid (Gen.over hb8 HB7.out)
      have HP8 : Hid (Pcl _ _ (((l.set p ⟨xi, xu, xp, a5, -1⟩).set p ⟨xi, xu, xp, a5, va⟩).set p ⟨xi, xu, xp, -1, -1⟩)) := Lib.hid hp8
      have HN8 := Lib.hid hn8
      clear hp8 hb8 hn8 HP7 HB7
      go_wp2_with (fail)
      go_must (refine (present_fresh (x := ⟨xi, xu, xp, -1, -1⟩) HN8.out HP8.out HQ.out.2.2.2.2.1 HQ.out.2.2.2.2.2 bb (by omega) HHY.out rfl).mono ?_)
      rintro e w9 ⟨v9, rfl, ⟨⟨g9, q9, rfl, hp9⟩, hn9, hb9⟩⟩
      have HB9 := Lib.hid (Gen.over hb9 HB8.out)
      clear hp9 hb9 hn9 HP8 HB8
      have hcu := (pcl_cells (hc.keep HB9.out) HX.out).c1
      dsimp only at hcu
      have hab2 : (va == vb) = false := by simpa using nab
      have hab3 : (va != vb) = true := by simpa using nab
      go_wp2
      go_ret
      exact ⟨rfl, HB9.out⟩
  · by_cases hab : va = vb
    · obtain rfl : va = vb := hab
      go_wp2_with (fail)
      go_must (refine (present_late (x := ⟨xi, xu, xp, a5, va⟩) (wh := va) HN5.out HP5.out HQ.out.2.2.1 HQ.out.2.2.2.1 ba (by omega) HHY.out n5 rfl (by show a5 + 365 ≤ a5 + a6; omega)).mono ?_)
      rintro e w6 ⟨v6, rfl, ⟨⟨g6, q6, rfl, _⟩, _, hb6⟩⟩
      have HB6 := Lib.hid (Gen.over hb6 HB5.out)
      have HP6 := Lib.hid (HP5.out.keep hb6)
      clear hb6 HP5 HB5
      go_wp2_with (fail)
      go_must (refine (present_late (x := ⟨xi, xu, xp, a5, va⟩) (wh := va) HN5.out HP6.out HQ.out.2.2.1 HQ.out.2.2.2.1 ba (by omega) HHY.out n5 rfl (by show a5 + 365 ≤ a5 + a6; omega)).mono ?_)
      rintro e w7 ⟨v7, rfl, ⟨⟨g7, q7, rfl, _⟩, _, hb7⟩⟩
      have HB7 := Lib.hid (Gen.over hb7 HB6.out)
      have HP7 := Lib.hid (HP6.out.keep hb7)
      clear hb7 HP6 HB6
      go_wp2_with (fail)
      go_must (refine (find_ok (x := ⟨xi, xu, xp, a5, va⟩) HN5.out HP7.out HQ.out.2.2.1 HQ.out.2.2.2.1 n5).mono ?_)
      rintro e w8 ⟨v8, rfl, ⟨⟨g8, q8, rfl, hp8⟩, hn8, hb8⟩⟩
      have HB8 := Lib.hid (Gen.over hb8 HB7.out)
      have HP8 : Hid (Pcl _ _ (((l.set p ⟨xi, xu, xp, a5, -1⟩).set p ⟨xi, xu, xp, a5, va⟩).set p ⟨xi, xu, xp, -1, -1⟩)) := Lib.hid hp8
      have HN8 := Lib.hid hn8
      clear hp8 hb8 hn8 HP7 HB7
      go_wp2_with (fail)
      go_must (refine (present_fresh (x := ⟨xi, xu, xp, -1, -1⟩) HN8.out HP8.out HQ.out.2.2.2.2.1 HQ.out.2.2.2.2.2 bb (by omega) HHY.out rfl).mono ?_)
      rintro e w9 ⟨v9, rfl, ⟨⟨g9, q9, rfl, hp9⟩, hn9, hb9⟩⟩
      have HB9 := Lib.hid (Gen.over hb9 HB8.out)
      clear hp9 hb9 hn9 HP8 HB8
      have hcu := (pcl_cells (hc.keep HB9.out) HX.out).c1
      dsimp only at hcu
      have hab2 : (va == va) = true := by simp
      have he3 : (365 : Int) ≤ a6 := by omega
      go_wp2
      go_ret
      exact ⟨rfl, HB9.out⟩
    · have nab : va ≠ vb := hab
      go_wp2_with (fail)
      go_must (refine (present_late (x := ⟨xi, xu, xp, a5, va⟩) (wh := va) HN5.out HP5.out HQ.out.2.2.1 HQ.out.2.2.2.1 ba (by omega) HHY.out n5 rfl (by show a5 + 365 ≤ a5 + a6; omega)).mono ?_)
      rintro e w6 ⟨v6, rfl, ⟨⟨g6, q6, rfl, _⟩, _, hb6⟩⟩
      have HB6 := Lib.hid (Gen.over hb6 HB5.out)
      have HP6 := Lib.hid (HP5.out.keep hb6)
      clear hb6 HP5 HB5
      go_wp2_with (fail)
      go_must (refine (present_key (x := ⟨xi, xu, xp, a5, va⟩) HN5.out HP6.out HQ.out.2.2.1 HQ.out.2.2.2.1 bb (by omega) HHY.out n5 nab).mono ?_)
      rintro e w7 ⟨rfl, hb7⟩
      have HB7 := Lib.hid (Gen.over hb7 HB6.out)
      have HP7 := Lib.hid (HP6.out.keep hb7)
      clear hb7 HP6 HB6
      go_wp2_with (fail)
      go_must (refine (find_ok (x := ⟨xi, xu, xp, a5, va⟩) HN5.out HP7.out HQ.out.2.2.1 HQ.out.2.2.2.1 n5).mono ?_)
      rintro e w8 ⟨v8, rfl, ⟨⟨g8, q8, rfl, hp8⟩, hn8, hb8⟩⟩
      have HB8 := Lib.hid (Gen.over hb8 HB7.out)
      have HP8 : Hid (Pcl _ _ (((l.set p ⟨xi, xu, xp, a5, -1⟩).set p ⟨xi, xu, xp, a5, va⟩).set p ⟨xi, xu, xp, -1, -1⟩)) := Lib.hid hp8
      have HN8 := Lib.hid hn8
      clear hp8 hb8 hn8 HP7 HB7
      go_wp2_with (fail)
      go_must (refine (present_fresh (x := ⟨xi, xu, xp, -1, -1⟩) HN8.out HP8.out HQ.out.2.2.2.2.1 HQ.out.2.2.2.2.2 bb (by omega) HHY.out rfl).mono ?_)
      rintro e w9 ⟨v9, rfl, ⟨⟨g9, q9, rfl, hp9⟩, hn9, hb9⟩⟩
      have HB9 := Lib.hid (Gen.over hb9 HB8.out)
      clear hp9 hb9 hn9 HP8 HB8
      have hcu := (pcl_cells (hc.keep HB9.out) HX.out).c1
      dsimp only at hcu
      have hab2 : (va == vb) = false := by simpa using nab
      have hab3 : (va != vb) = true := by simpa using nab
      have he3 : (365 : Int) ≤ a6 := by omega
      go_wp2
      go_ret
      exact ⟨rfl, HB9.out⟩
theorem lost_any (w : World) (hn : l.length = n) (hc : Pcl w A l) (hsz : ∀ x ∈ l, x.pd.length ≤ 9223372036854775807) (hbig : n ≤ 9223372036854775807) (b1 : 0 ≤ a1 ∧ a1 ≤ 255) (b2 : 0 ≤ a2 ∧ a2 ≤ 255) (b3 : 0 ≤ a3 ∧ a3 ≤ 65535) (b4 : 0 ≤ a4 ∧ a4 ≤ 65535) (b5 : 0 ≤ a5 ∧ a5 ≤ 65535) (b6 : 0 ≤ a6 ∧ a6 ≤ 65535) :
    Calls Try.prog 5 #[.slice A n cap, .int .u8 a1, .int .u8 a2, .int .u16 a3, .int .u16 a4, .int .u16 a5, .int .u16 a6] w fun e w' => e = .returned (.bool true) ∧ Below w.heap.size w w' := by
  cases hf : few31 l
  · exact lost_a w hn hc hsz hbig hf
  · cases hr : rgtL l
    · exact lost_b w hn hc hsz hbig hf hr
    · by_cases h0 : n = 0
      · exact lost_c w hn hc hsz hbig hf hr h0
      · exact lost_d w hn hc hsz hbig hf hr (by omega) b1 b2 b3 b4 b5 b6
end
end Go.Proofs.Ythphlaijkknefaa.Bea
