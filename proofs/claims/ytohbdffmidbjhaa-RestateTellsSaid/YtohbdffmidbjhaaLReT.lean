/- Restatements: RestateTells. -/
import Derived.Test.YtohbdffmidbjhaaRrC
namespace Go.Proofs.Ytohbdffmidbjhaa.Re
open Go.ChangeShapes Go.WideShapes Go.ChangeAt Go.RowKit Go.Maps Go.Proofs.Ytohbdffmidbjhaa.Cell Go.Proofs.Ytohbdffmidbjhaa.Rk
set_option linter.unusedVariables false
set_option linter.unusedSimpArgs false
/-- Back, in one form: two slices, what is in them, and an error -/
def BackV (w : World) (e : Ending) (w' : World) (L1 L2 : List (Int × Int)) (E : Int) : Prop := ∃ B1 m1 d1 B2 m2 d2, e = .returned (.tuple #[.slice B1 m1 d1, .slice B2 m2 d2, .int .i64 E]) ∧ L1.length = m1 ∧ L2.length = m2 ∧ m1 ≤ 1000000 ∧ m2 ≤ 1000000 ∧ Rs p2 2 w' B1 L1 ∧ Rs p2 2 w' B2 L2 ∧ Below w.heap.size w w'
/-- what it says -/
def bkE (l : List Py) (due : List Int) (good : List Bool) : Int := if bkOk l due good = false then 1 else if (ovr (rL l due good l.length).1 || ovr (rL l due good l.length).2) = true then 6 else 0
def bkA (l : List Py) (due : List Int) (good : List Bool) : List (Int × Int) := if bkE l due good = 0 then (rL l due good l.length).1 else []
def bkB (l : List Py) (due : List Int) (good : List Bool) : List (Int × Int) := if bkE l due good = 0 then (rL l due good l.length).2 else []
theorem BackL.v {w w' : World} {l : List Py} {due : List Int} {good : List Bool} {e : Ending} (hl : l.length ≤ 1000000) (h : BackL w l due good e w') : BackV w e w' (bkA l due good) (bkB l due good) (bkE l due good) := by
  obtain ⟨hB, h⟩ := h
  rcases h with ⟨h1, rfl⟩ | ⟨h1, h2, rfl⟩ | ⟨h1, h2, v1, v2, rfl, a1, a2, b1, b2⟩
  · have hE : bkE l due good = 1 := by unfold bkE; rw [if_pos h1]
    unfold bkA bkB
    rw [hE, if_neg (by decide), if_neg (by decide)]
    exact ⟨none, 0, 0, none, 0, 0, rfl, rfl, rfl, by omega, by omega, Rs.nil _ _, Rs.nil _ _, hB⟩
  · have hE : bkE l due good = 6 := by unfold bkE; rw [if_neg (by rw [h1]; decide), if_pos h2]
    unfold bkA bkB
    rw [hE, if_neg (by decide), if_neg (by decide)]
    exact ⟨none, 0, 0, none, 0, 0, rfl, rfl, rfl, by omega, by omega, Rs.nil _ _, Rs.nil _ _, hB⟩
  · have hE : bkE l due good = 0 := by unfold bkE; rw [if_neg (by rw [h1]; decide), if_neg (by rw [h2]; decide)]
    unfold bkA bkB
    rw [hE, if_pos rfl, if_pos rfl]
    obtain ⟨B1, d1, rfl, _⟩ := Gen.own_slice a2
    obtain ⟨B2, d2, rfl, _⟩ := Gen.own_slice b2
    exact ⟨B1, _, d1, B2, _, d2, rfl, rfl, rfl, by omega, by omega, rs_own (f := p2) (K := 2) (fun _ => rfl) rfl a2, rs_own (f := p2) (K := 2) (fun _ => rfl) rfl b2, hB⟩
set_option maxRecDepth 100000 in
set_option maxHeartbeats 16000000 in
theorem tells_any {w : World} {A Af A0 A1 A2 : Option Addr} {n c nf cf n0 c0 n1 c1 n2 c2 : Nat} {l : List Dv} {facts : List Int} {p : List Py} {due : List Int} {good : List Bool} (hn : l.length = n) (hc : Dvs w A l) (hnf : facts.length = nf) (hcf : Ints w Af facts)
    (hn0 : p.length = n0) (hc0 : Pys w A0 p) (hn1 : due.length = n1) (hc1 : Ints w A1 due) (hn2 : good.length = n2) (hc2 : Bos w A2 good)
    (hbig : n ≤ 9223372036854775807) (hbf : nf ≤ 9223372036854775807) (hb0 : n0 ≤ 9223372036854775807) (hb1 : n1 ≤ 9223372036854775807) (hb2 : n2 ≤ 9223372036854775807) (hin : ∀ d ∈ l, d.fr.length ≤ 9223372036854775807 ∧ d.fa.length ≤ 9223372036854775807) (hwf : ∀ x ∈ facts, wfI x) (hwd : ∀ d ∈ l, ∀ x ∈ d.fa, wfI x) (hws : ∀ x ∈ p, wfI x.se) :
    Calls Try.prog 3 #[.slice A n c, .slice Af nf cf, .slice A0 n0 c0, .slice A1 n1 c1, .slice A2 n2 c2] w fun e w' => e = .returned (.bool true) ∧ Below w.heap.size w w' := by
  have HN := Lib.hid hn
  have HC := Lib.hid hc
  have HNF := Lib.hid hnf
  have HCF := Lib.hid hcf
  have HN0 := Lib.hid hn0
  have HC0 := Lib.hid hc0
  have HN1 := Lib.hid hn1
  have HC1 := Lib.hid hc1
  have HN2 := Lib.hid hn2
  have HC2 := Lib.hid hc2
  have HIN := Lib.hid hin
  have HWF := Lib.hid hwf
  have HWD := Lib.hid hwd
  have HWS := Lib.hid hws
  clear hn hc hnf hcf hin hwf hwd hws hn0 hc0 hn1 hc1 hn2 hc2
  go_enter Try.func3, Try.ntmps3
  go_wp2_with (fail)
  go_must (refine (small_any _).mono ?_)
  rintro e w1 ⟨rfl, hb⟩
  have HB1 := Lib.hid hb
  have HC := Lib.hid (HC.out.keep hb)
  have HCF := Lib.hid (HCF.out.keep hb)
  have HC0 := Lib.hid (HC0.out.keep hb)
  have HC1 := Lib.hid (HC1.out.keep hb)
  have HC2 := Lib.hid (HC2.out.keep hb)
  clear hb
  go_wp2_with (fail)
  go_must (refine (few_any (m := 30) HN.out HC.out hbig (by omega) HIN.out).mono ?_)
  rintro e w2 ⟨rfl, rfl⟩
  cases hfew : fewB l 30
  · clear hfew
    go_wp2
    go_ret
    exact ⟨rfl, HB1.out⟩
  have hfw := hfew
  unfold fewB at hfw
  rw [Bool.and_eq_true, decide_eq_true_eq, HN.out] at hfw
  have HSH : Hid (∀ d ∈ l, d.fr.length ≤ 20 ∧ d.fa.length ≤ 20) := Lib.hid (fun d hd => by
    have := List.all_eq_true.1 hfw.2 d hd
    unfold shB at this
    simpa using this)
  have hn30 : n ≤ 30 := hfw.1
  clear hfw hfew hbig
  by_cases hf20 : nf ≤ 20
  case neg =>
    have h1 : (20 : Int) < (nf : Int) := by omega
    clear hf20
    go_wp2
    go_ret
    exact ⟨rfl, HB1.out⟩
  have hf20I : ¬ ((20 : Int) < (nf : Int)) := by omega
  by_cases h20 : n0 ≤ 20
  case neg =>
    have h1 : (20 : Int) < (n0 : Int) := by omega
    clear h20
    go_wp2
    go_ret
    exact ⟨rfl, HB1.out⟩
  have h20I : ¬ ((20 : Int) < (n0 : Int)) := by omega
  by_cases h22 : n1 ≤ 22
  case neg =>
    have h1 : (22 : Int) < (n1 : Int) := by omega
    clear h22
    go_wp2
    go_ret
    exact ⟨rfl, HB1.out⟩
  have h22I : ¬ ((22 : Int) < (n1 : Int)) := by omega
  by_cases g22 : n2 ≤ 22
  case neg =>
    have h1 : (22 : Int) < (n2 : Int) := by omega
    clear g22
    go_wp2
    go_ret
    exact ⟨rfl, HB1.out⟩
  have g22I : ¬ ((22 : Int) < (n2 : Int)) := by omega
  clear hbf hb0
  have HP1 := Lib.hid ((back_l (c := c0) (c1 := c1) (c2 := c2) HN0.out HN1.out HN2.out HC0.out HC1.out HC2.out (by omega) hb1 hb2 HWS.out).mono (R' := fun e w' => BackV w2 e w' (bkA p due good) (bkB p due good) (bkE p due good)) (fun e w' h => BackL.v (by rw [HN0.out]; omega) h))
  have HP2 := Lib.hid (fun (W : World) (hb : Below w2.heap.size w2 W) => (rback_any (c := c0) (c1 := c1) (c2 := c2) HN0.out HN1.out HN2.out (HC0.out.keep hb) (HC1.out.keep hb) (HC2.out.keep hb) (by omega) hb1 hb2).mono (R' := fun e w' => BackV W e w' (bkA p due good) (bkB p due good) (bkE p due good)) (fun e w' h => BackL.v (by rw [HN0.out]; omega) h))
  obtain ⟨La, hLa⟩ : ∃ La, bkA p due good = La := ⟨_, rfl⟩
  obtain ⟨Lb, hLb⟩ : ∃ Lb, bkB p due good = Lb := ⟨_, rfl⟩
  obtain ⟨E, hE⟩ : ∃ E, bkE p due good = E := ⟨_, rfl⟩
  rw [hLa, hLb, hE] at HP1 HP2
  clear hLa hLb hE hb1 hb2
  go_wp2_with (fail)
  go_must (refine (HP1.out).mono ?_)
  rintro e w3 ⟨B1, m1, d1, B2, m2, d2, rfl, hm1, hm2, q1, q2, r1, r2, hb⟩
  have HB3 := Lib.hid (Gen.over hb HB1.out)
  have HC := Lib.hid (HC.out.keep hb)
  have HCF := Lib.hid (HCF.out.keep hb)
  have HQ2 := Lib.hid (HP2.out _ hb)
  have HM1 := Lib.hid hm1
  have HM2 := Lib.hid hm2
  have HR1 := Lib.hid r1
  have HR2 := Lib.hid r2
  clear hb hm1 hm2 r1 r2 HP1 HP2
  go_wp2_with (fail)
  go_must (refine (HQ2.out).mono ?_)
  rintro e w4 ⟨B3, m3, d3, B4, m4, d4, rfl, hm3, hm4, q3, q4, r3, r4, hb⟩
  have HB4 := Lib.hid (Gen.over hb HB3.out)
  have HC := Lib.hid (HC.out.keep hb)
  have HCF := Lib.hid (HCF.out.keep hb)
  have HR1 := Lib.hid (HR1.out.keep hb)
  have HR2 := Lib.hid (HR2.out.keep hb)
  have HR3 := Lib.hid r3
  have HR4 := Lib.hid r4
  have HM3 := Lib.hid hm3
  have HM4 := Lib.hid hm4
  clear hb hm3 hm4 r3 r4 HQ2 HB1 HB3
  go_wp2_with (fail)
  go_must (refine (right_any HN.out HC.out (by omega) HIN.out).mono ?_)
  rintro e w5 ⟨rfl, hb⟩
  have HB5 := Lib.hid (Gen.over hb HB4.out)
  have HC := Lib.hid (HC.out.keep hb)
  have HCF := Lib.hid (HCF.out.keep hb)
  have HR1 := Lib.hid (HR1.out.keep hb)
  have HR2 := Lib.hid (HR2.out.keep hb)
  have HR3 := Lib.hid (HR3.out.keep hb)
  have HR4 := Lib.hid (HR4.out.keep hb)
  clear hb
  go_wp2_with (fail)
  go_must (refine (rright_any HN.out HC.out (by omega) (fun d hd => by have := HSH.out d hd; omega)).mono ?_)
  rintro e w6 ⟨rfl, hw6⟩
  have hw6 := hw6.symm
  subst hw6
  obtain ⟨G, hG⟩ : ∃ G, rgB l = G := ⟨_, rfl⟩
  simp only [hG]
  have hGG : (G == G) = true := by simp
  clear hG
  go_wp2_with (fail)
  go_must (refine (changed_l HN.out HC.out HNF.out HCF.out (by omega) (by omega) (fun d hd => by have := HSH.out d hd; omega) HWF.out HWD.out).mono ?_)
  rintro e w6 ⟨B8, m8, d8, hm8, rfl, hi8, hb⟩
  have HB6 := Lib.hid (Gen.over hb HB5.out)
  have HC := Lib.hid (HC.out.keep hb)
  have HCF := Lib.hid (HCF.out.keep hb)
  have HR1 := Lib.hid (HR1.out.keep hb)
  have HR2 := Lib.hid (HR2.out.keep hb)
  have HR3 := Lib.hid (HR3.out.keep hb)
  have HR4 := Lib.hid (HR4.out.keep hb)
  have HM8 := Lib.hid hm8.symm
  have HI8 := Lib.hid hi8
  have hm8' : m8 ≤ 30 := by have := chg_le facts l; rw [HN.out] at this; omega
  clear hb hm8 hi8 HB4 HB5
  go_wp2_with (fail)
  go_must (refine (rchanged_any HN.out HC.out HNF.out HCF.out (by omega) (by omega) (fun d hd => by have := HSH.out d hd; omega)).mono ?_)
  rintro e w7 ⟨B9, m9, d9, hm9, rfl, hi9, hb⟩
  have HB7 := Lib.hid (Gen.over hb HB6.out)
  have HR1 := Lib.hid (HR1.out.keep hb)
  have HR2 := Lib.hid (HR2.out.keep hb)
  have HR3 := Lib.hid (HR3.out.keep hb)
  have HR4 := Lib.hid (HR4.out.keep hb)
  have HI8 := Lib.hid (HI8.out.keep hb)
  have HM9 := Lib.hid hm9.symm
  have HI9 := Lib.hid hi9
  have hm9' : m9 ≤ 30 := by have := chg_le facts l; rw [HN.out] at this; omega
  clear hb hm9 hi9 HB6
  go_wp2_with (fail)
  go_must (refine (ints_any HM8.out HM9.out HI8.out HI9.out (by omega) (by omega)).mono ?_)
  rintro e w8 ⟨rfl, hb⟩
  rw [decide_eq_true rfl]
  have HB8 := Lib.hid (Gen.over hb HB7.out)
  have HR1 := Lib.hid (HR1.out.keep hb)
  have HR2 := Lib.hid (HR2.out.keep hb)
  have HR3 := Lib.hid (HR3.out.keep hb)
  have HR4 := Lib.hid (HR4.out.keep hb)
  have hEE : (E == E) = true := by simp
  clear hb HB7
  go_wp2_with (fail)
  go_must (refine (same_any HM1.out HM3.out HR1.out HR3.out (by omega) (by omega)).mono ?_)
  rintro e w9 ⟨rfl, hb⟩
  rw [decide_eq_true rfl]
  have HB9 := Lib.hid (Gen.over hb HB8.out)
  have HR2 := Lib.hid (HR2.out.keep hb)
  have HR4 := Lib.hid (HR4.out.keep hb)
  clear hb HB8
  go_wp2_with (fail)
  go_must (refine (same_any HM2.out HM4.out HR2.out HR4.out (by omega) (by omega)).mono ?_)
  rintro e wa ⟨rfl, hb⟩
  rw [decide_eq_true rfl]
  have HBa := Lib.hid (Gen.over hb HB9.out)
  clear hb HB9
  go_wp2
  go_ret
  exact ⟨rfl, HBa.out⟩
end Go.Proofs.Ytohbdffmidbjhaa.Re
