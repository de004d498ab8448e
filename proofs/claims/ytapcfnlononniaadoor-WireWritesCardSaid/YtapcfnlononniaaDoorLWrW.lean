/- WireWrites returns true: every value; no condition. -/
import Derived.Test.YtapcfnlononniaaDoorOpnV
import Derived.Test.YtapcfnlononniaaDoorWrM
import Derived.Deep.RegionHeld3
namespace Go.Proofs.YtapcfnlononniaaDoor.Wr
open Go.Lib Go.ChangeShapes Go.WideShapes Go.ChangeAt Go.RowKit Go.Proofs.YtapcfnlononniaaDoor.Cell
set_option linter.unusedVariables false
set_option linter.unusedSimpArgs false
theorem vll_one {W : World} {b : Nat} {t : TypeId} {v : Vl} {A A' : Option Addr} {c c' : Nat} (h : Row W b t (vcs v A c A' c')) (hL : Ints W A v.L) (hT : Sts W A' v.T) : Vll W (some ⟨b, 0, none⟩) [v] := fun _ => by
  refine ⟨b, 0, rfl, fun j x hx => ?_⟩
  have hj : j = 0 := by
    have := (List.getElem?_eq_some_iff.1 hx).1
    simp at this
    exact this
  subst hj
  simp at hx
  subst hx
  simp only [Nat.zero_mul, Nat.add_zero]
  exact ⟨Row.cell h 0, Row.cell h 1, Row.cell h 2, ⟨A, c, Row.cell h 3, hL⟩, ⟨A', c', Row.cell h 4, hT⟩⟩
theorem few_yes {W : World} {A : Option Addr} {cap : Nat} {v : Vl} (hc : Vll W A [v]) (hp : fewP [v]) :
    Calls Tryd.prog 10 #[.slice A 1 cap] W fun e w' => e = .returned (.bool true) ∧ Below W.heap.size W w' :=
  (few_any (l := [v]) (m := 1) rfl hc (by decide)).mono fun e w' ⟨h, hb⟩ => by
    rcases h with ⟨_, h⟩ | ⟨h, _⟩
    · exact ⟨h, hb⟩
    · exact absurd hp h
theorem few_not {W : World} {A : Option Addr} {cap : Nat} {v : Vl} (hc : Vll W A [v]) (hp : ¬ fewP [v]) :
    Calls Tryd.prog 10 #[.slice A 1 cap] W fun e w' => e = .returned (.bool false) ∧ Below W.heap.size W w' :=
  (few_any (l := [v]) (m := 1) rfl hc (by decide)).mono fun e w' ⟨h, hb⟩ => by
    rcases h with ⟨h, _⟩ | ⟨_, h⟩
    · exact absurd h hp
    · exact ⟨h, hb⟩
theorem fewP_one {v : Vl} (h : fewP [v]) : okv v := h.2.1 v List.mem_cons_self
section
variable {v : Vl} {A A' : Option Addr} {c c' : Nat}
set_option maxRecDepth 100000 in
set_option maxHeartbeats 8000000 in
theorem writes_no (w : World) (hE : En w w) (hL : Ints w A v.L) (hT : Sts w A' v.T) (hf : ¬ fewP [v]) :
    Calls Tryd.prog 3 #[.agg (vcs v A c A' c')] w fun e w' => e = .returned (.bool true) ∧ Below w.heap.size w w' := by
  have hB : Below w.heap.size w (w.alloc (.cells (vcs v A c A' c') 25)) := Gen.b_alloc (Below.refl _ _)
  have hR : Row (w.alloc (.cells (vcs v A c A' c') 25)) w.heap.size 25 (vcs v A c A' c') := Row.new _ _ _
  have HV : Hid (∀ W' b, Below w.heap.size w W' → Row W' b 25 (vcs v A c A' c') → Vll W' (some ⟨b, 0, none⟩) [v]) := Lib.hid fun W' b hb hr => vll_one hr (hL.keep hb) (hT.keep hb)
  have HE := Lib.hid hE
  have HF := Lib.hid hf
  unfold vcs at hB hR HV ⊢
  have HB := Lib.hid hB
  clear hE hL hT hf
  go_enter Tryd.func3, Tryd.ntmps3
  go_upto_region 1 with (fail)
  generalize w.alloc (.cells #[.int .i64 v.kd, .int .i64 v.n, .string ⟨v.s.toArray⟩, .slice A v.L.length c, .slice A' v.T.length c'] 25) = W1 at *
  go_wp2_with (fail)
  go_must (refine (small_any (HE.out.keep HB.out)).mono ?_)
  rintro e w1 ⟨rfl, hb⟩
  replace HB := Lib.hid (Gen.over hb HB.out)
  have hR1 := hR.keep hb
  have r0 := hR1.cell 0
  have r1 := hR1.cell 1
  have r2 := hR1.cell 2
  have r3 := hR1.cell 3
  have r4 := hR1.cell 4
  clear hb hB hR hR1
  dsimp only
  go_wp2_with (fail)
  have hV := HV.out (w1.alloc (.cells #[.int .i64 v.kd, .int .i64 v.n, .string ⟨v.s.toArray⟩, .slice A v.L.length c, .slice A' v.T.length c'] 25)) w1.heap.size (Gen.b_alloc HB.out) (Row.new _ _ _)
  go_must (refine (few_not hV HF.out).mono ?_)
  rintro e w2 ⟨rfl, hb⟩
  replace HB := Lib.hid (Gen.over hb (Gen.b_alloc HB.out))
  clear hV
  clear hb r0 r1 r2 r3 r4
  dsimp only
  go_wp2
  go_ret
  exact ⟨rfl, HB.out⟩
set_option maxRecDepth 100000 in
set_option maxHeartbeats 8000000 in
theorem writes_yes (w : World) (hE : En w w) (hL : Ints w A v.L) (hT : Sts w A' v.T) (hv : Wv v) (hf : fewP [v]) :
    Calls Tryd.prog 3 #[.agg (vcs v A c A' c')] w fun e w' => e = .returned (.bool true) ∧ Below w.heap.size w w' := by
  have hB : Below w.heap.size w (w.alloc (.cells (vcs v A c A' c') 25)) := Gen.b_alloc (Below.refl _ _)
  have hR : Row (w.alloc (.cells (vcs v A c A' c') 25)) w.heap.size 25 (vcs v A c A' c') := Row.new _ _ _
  have HV : Hid (∀ W' b, Below w.heap.size w W' → Row W' b 25 (vcs v A c A' c') → Vll W' (some ⟨b, 0, none⟩) [v]) := Lib.hid fun W' b hb hr => vll_one hr (hL.keep hb) (hT.keep hb)
  have hsm := sm_of hv (fewP_one hf)
  have hs4 := hsm.s
  have hL4 := hsm.L
  have hT4 := hsm.T
  have HNW : Hid (∀ W', (Below w.heap.size w W' ∧ W'.cell? ⟨w.heap.size, 1, none⟩ = some (.int .i64 v.n) ∧ W'.cell? ⟨w.heap.size, 2, none⟩ = some (.string ⟨v.s.toArray⟩) ∧ W'.cell? ⟨w.heap.size, 3, none⟩ = some (.slice A v.L.length c) ∧ W'.cell? ⟨w.heap.size, 4, none⟩ = some (.slice A' v.T.length c')) → Calls Tryd.prog 11 #[.int .i64 v.n] W' fun e w' => e = .returned (.string ⟨(encN v.n).toArray⟩) ∧ (Below w.heap.size w w' ∧ w'.cell? ⟨w.heap.size, 1, none⟩ = some (.int .i64 v.n) ∧ w'.cell? ⟨w.heap.size, 2, none⟩ = some (.string ⟨v.s.toArray⟩) ∧ w'.cell? ⟨w.heap.size, 3, none⟩ = some (.slice A v.L.length c) ∧ w'.cell? ⟨w.heap.size, 4, none⟩ = some (.slice A' v.T.length c'))) := Lib.hid fun W' ⟨h1, q1, q2, q3, q4⟩ => (wnum_any hsm.n (hE.keep h1).pt).mono fun e w' ⟨he, hb⟩ => ⟨he, Gen.over hb h1, Gen.keep hb q1, Gen.keep hb q2, Gen.keep hb q3, Gen.keep hb q4⟩
  have HNR : Hid (∀ W', (Below w.heap.size w W' ∧ W'.cell? ⟨w.heap.size, 1, none⟩ = some (.int .i64 v.n) ∧ W'.cell? ⟨w.heap.size, 2, none⟩ = some (.string ⟨v.s.toArray⟩) ∧ W'.cell? ⟨w.heap.size, 3, none⟩ = some (.slice A v.L.length c) ∧ W'.cell? ⟨w.heap.size, 4, none⟩ = some (.slice A' v.T.length c')) → Calls Tryd.prog 12 #[.int .i64 v.n] W' fun e w' => e = .returned (.string ⟨(encN v.n).toArray⟩) ∧ (Below w.heap.size w w' ∧ w'.cell? ⟨w.heap.size, 1, none⟩ = some (.int .i64 v.n) ∧ w'.cell? ⟨w.heap.size, 2, none⟩ = some (.string ⟨v.s.toArray⟩) ∧ w'.cell? ⟨w.heap.size, 3, none⟩ = some (.slice A v.L.length c) ∧ w'.cell? ⟨w.heap.size, 4, none⟩ = some (.slice A' v.T.length c'))) := Lib.hid fun W' ⟨h1, q1, q2, q3, q4⟩ => (rnum_any hsm.n).mono fun e w' ⟨he, hb⟩ => ⟨he, Gen.over hb h1, Gen.keep hb q1, Gen.keep hb q2, Gen.keep hb q3, Gen.keep hb q4⟩
  have HIW : Hid (∀ W', (Below w.heap.size w W' ∧ W'.cell? ⟨w.heap.size, 1, none⟩ = some (.int .i64 v.n) ∧ W'.cell? ⟨w.heap.size, 2, none⟩ = some (.string ⟨v.s.toArray⟩) ∧ W'.cell? ⟨w.heap.size, 3, none⟩ = some (.slice A v.L.length c) ∧ W'.cell? ⟨w.heap.size, 4, none⟩ = some (.slice A' v.T.length c')) → Calls Tryd.prog 13 #[.int .i64 v.n] W' fun e w' => e = .returned (.string ⟨(encI v.n).toArray⟩) ∧ (Below w.heap.size w w' ∧ w'.cell? ⟨w.heap.size, 1, none⟩ = some (.int .i64 v.n) ∧ w'.cell? ⟨w.heap.size, 2, none⟩ = some (.string ⟨v.s.toArray⟩) ∧ w'.cell? ⟨w.heap.size, 3, none⟩ = some (.slice A v.L.length c) ∧ w'.cell? ⟨w.heap.size, 4, none⟩ = some (.slice A' v.T.length c'))) := Lib.hid fun W' ⟨h1, q1, q2, q3, q4⟩ => (wint_any hsm.n (hE.keep h1).pt).mono fun e w' ⟨he, hb⟩ => ⟨he, Gen.over hb h1, Gen.keep hb q1, Gen.keep hb q2, Gen.keep hb q3, Gen.keep hb q4⟩
  have HIR : Hid (∀ W', (Below w.heap.size w W' ∧ W'.cell? ⟨w.heap.size, 1, none⟩ = some (.int .i64 v.n) ∧ W'.cell? ⟨w.heap.size, 2, none⟩ = some (.string ⟨v.s.toArray⟩) ∧ W'.cell? ⟨w.heap.size, 3, none⟩ = some (.slice A v.L.length c) ∧ W'.cell? ⟨w.heap.size, 4, none⟩ = some (.slice A' v.T.length c')) → Calls Tryd.prog 14 #[.int .i64 v.n] W' fun e w' => e = .returned (.string ⟨(encI v.n).toArray⟩) ∧ (Below w.heap.size w w' ∧ w'.cell? ⟨w.heap.size, 1, none⟩ = some (.int .i64 v.n) ∧ w'.cell? ⟨w.heap.size, 2, none⟩ = some (.string ⟨v.s.toArray⟩) ∧ w'.cell? ⟨w.heap.size, 3, none⟩ = some (.slice A v.L.length c) ∧ w'.cell? ⟨w.heap.size, 4, none⟩ = some (.slice A' v.T.length c'))) := Lib.hid fun W' ⟨h1, q1, q2, q3, q4⟩ => (rint_any hsm.n).mono fun e w' ⟨he, hb⟩ => ⟨he, Gen.over hb h1, Gen.keep hb q1, Gen.keep hb q2, Gen.keep hb q3, Gen.keep hb q4⟩
  have HTW : Hid (∀ W', (Below w.heap.size w W' ∧ W'.cell? ⟨w.heap.size, 1, none⟩ = some (.int .i64 v.n) ∧ W'.cell? ⟨w.heap.size, 2, none⟩ = some (.string ⟨v.s.toArray⟩) ∧ W'.cell? ⟨w.heap.size, 3, none⟩ = some (.slice A v.L.length c) ∧ W'.cell? ⟨w.heap.size, 4, none⟩ = some (.slice A' v.T.length c')) → Calls Tryd.prog 15 #[.string ⟨v.s.toArray⟩] W' fun e w' => e = .returned (.string ⟨(encT v.s).toArray⟩) ∧ (Below w.heap.size w w' ∧ w'.cell? ⟨w.heap.size, 1, none⟩ = some (.int .i64 v.n) ∧ w'.cell? ⟨w.heap.size, 2, none⟩ = some (.string ⟨v.s.toArray⟩) ∧ w'.cell? ⟨w.heap.size, 3, none⟩ = some (.slice A v.L.length c) ∧ w'.cell? ⟨w.heap.size, 4, none⟩ = some (.slice A' v.T.length c'))) := Lib.hid fun W' ⟨h1, q1, q2, q3, q4⟩ => (wtext_any (by omega) (hE.keep h1).pt).mono fun e w' ⟨he, hb⟩ => ⟨he, Gen.over hb h1, Gen.keep hb q1, Gen.keep hb q2, Gen.keep hb q3, Gen.keep hb q4⟩
  have HTR : Hid (∀ W', (Below w.heap.size w W' ∧ W'.cell? ⟨w.heap.size, 1, none⟩ = some (.int .i64 v.n) ∧ W'.cell? ⟨w.heap.size, 2, none⟩ = some (.string ⟨v.s.toArray⟩) ∧ W'.cell? ⟨w.heap.size, 3, none⟩ = some (.slice A v.L.length c) ∧ W'.cell? ⟨w.heap.size, 4, none⟩ = some (.slice A' v.T.length c')) → Calls Tryd.prog 16 #[.string ⟨v.s.toArray⟩] W' fun e w' => e = .returned (.string ⟨(encT v.s).toArray⟩) ∧ (Below w.heap.size w w' ∧ w'.cell? ⟨w.heap.size, 1, none⟩ = some (.int .i64 v.n) ∧ w'.cell? ⟨w.heap.size, 2, none⟩ = some (.string ⟨v.s.toArray⟩) ∧ w'.cell? ⟨w.heap.size, 3, none⟩ = some (.slice A v.L.length c) ∧ w'.cell? ⟨w.heap.size, 4, none⟩ = some (.slice A' v.T.length c'))) := Lib.hid fun W' ⟨h1, q1, q2, q3, q4⟩ => (rtext_any (by omega)).mono fun e w' ⟨he, hb⟩ => ⟨he, Gen.over hb h1, Gen.keep hb q1, Gen.keep hb q2, Gen.keep hb q3, Gen.keep hb q4⟩
  have h5 : ∀ x ∈ v.L, (encI x).length ≤ 10000 := fun x hx => by have := encI_len (hsm.Li x hx); omega
  have h6 : ∀ x ∈ v.T, (encT x).length ≤ 10000 := fun x hx => Nat.le_trans (encT_len (hsm.Ts x hx)) (by decide)
  have h7 : ∀ x ∈ v.T, x.length ≤ 1000000000 := fun x hx => by have := hsm.Ts x hx; omega
  have HLW : Hid (∀ W', (Below w.heap.size w W' ∧ W'.cell? ⟨w.heap.size, 1, none⟩ = some (.int .i64 v.n) ∧ W'.cell? ⟨w.heap.size, 2, none⟩ = some (.string ⟨v.s.toArray⟩) ∧ W'.cell? ⟨w.heap.size, 3, none⟩ = some (.slice A v.L.length c) ∧ W'.cell? ⟨w.heap.size, 4, none⟩ = some (.slice A' v.T.length c')) → Calls Tryd.prog 17 #[.slice A v.L.length c] W' fun e w' => e = .returned (.string ⟨(encL encI v.L).toArray⟩) ∧ (Below w.heap.size w w' ∧ w'.cell? ⟨w.heap.size, 1, none⟩ = some (.int .i64 v.n) ∧ w'.cell? ⟨w.heap.size, 2, none⟩ = some (.string ⟨v.s.toArray⟩) ∧ w'.cell? ⟨w.heap.size, 3, none⟩ = some (.slice A v.L.length c) ∧ w'.cell? ⟨w.heap.size, 4, none⟩ = some (.slice A' v.T.length c'))) := Lib.hid fun W' ⟨h1, q1, q2, q3, q4⟩ => (wnums_any rfl (hL.keep h1) h5 hsm.Li (by omega) (hE.keep h1)).mono fun e w' ⟨he, hb⟩ => ⟨he, Gen.over hb h1, Gen.keep hb q1, Gen.keep hb q2, Gen.keep hb q3, Gen.keep hb q4⟩
  have HLR : Hid (∀ W', (Below w.heap.size w W' ∧ W'.cell? ⟨w.heap.size, 1, none⟩ = some (.int .i64 v.n) ∧ W'.cell? ⟨w.heap.size, 2, none⟩ = some (.string ⟨v.s.toArray⟩) ∧ W'.cell? ⟨w.heap.size, 3, none⟩ = some (.slice A v.L.length c) ∧ W'.cell? ⟨w.heap.size, 4, none⟩ = some (.slice A' v.T.length c')) → Calls Tryd.prog 18 #[.slice A v.L.length c] W' fun e w' => e = .returned (.string ⟨(encL encI v.L).toArray⟩) ∧ (Below w.heap.size w w' ∧ w'.cell? ⟨w.heap.size, 1, none⟩ = some (.int .i64 v.n) ∧ w'.cell? ⟨w.heap.size, 2, none⟩ = some (.string ⟨v.s.toArray⟩) ∧ w'.cell? ⟨w.heap.size, 3, none⟩ = some (.slice A v.L.length c) ∧ w'.cell? ⟨w.heap.size, 4, none⟩ = some (.slice A' v.T.length c'))) := Lib.hid fun W' ⟨h1, q1, q2, q3, q4⟩ => (rnums_any rfl (hL.keep h1) h5 hsm.Li (by omega)).mono fun e w' ⟨he, hb⟩ => ⟨he, Gen.over hb h1, Gen.keep hb q1, Gen.keep hb q2, Gen.keep hb q3, Gen.keep hb q4⟩
  have HMW : Hid (∀ W', (Below w.heap.size w W' ∧ W'.cell? ⟨w.heap.size, 1, none⟩ = some (.int .i64 v.n) ∧ W'.cell? ⟨w.heap.size, 2, none⟩ = some (.string ⟨v.s.toArray⟩) ∧ W'.cell? ⟨w.heap.size, 3, none⟩ = some (.slice A v.L.length c) ∧ W'.cell? ⟨w.heap.size, 4, none⟩ = some (.slice A' v.T.length c')) → Calls Tryd.prog 19 #[.slice A' v.T.length c'] W' fun e w' => e = .returned (.string ⟨(encL encT v.T).toArray⟩) ∧ (Below w.heap.size w w' ∧ w'.cell? ⟨w.heap.size, 1, none⟩ = some (.int .i64 v.n) ∧ w'.cell? ⟨w.heap.size, 2, none⟩ = some (.string ⟨v.s.toArray⟩) ∧ w'.cell? ⟨w.heap.size, 3, none⟩ = some (.slice A v.L.length c) ∧ w'.cell? ⟨w.heap.size, 4, none⟩ = some (.slice A' v.T.length c'))) := Lib.hid fun W' ⟨h1, q1, q2, q3, q4⟩ => (wtexts_any rfl (hT.keep h1) h6 h7 (by omega) (hE.keep h1)).mono fun e w' ⟨he, hb⟩ => ⟨he, Gen.over hb h1, Gen.keep hb q1, Gen.keep hb q2, Gen.keep hb q3, Gen.keep hb q4⟩
  have HMR : Hid (∀ W', (Below w.heap.size w W' ∧ W'.cell? ⟨w.heap.size, 1, none⟩ = some (.int .i64 v.n) ∧ W'.cell? ⟨w.heap.size, 2, none⟩ = some (.string ⟨v.s.toArray⟩) ∧ W'.cell? ⟨w.heap.size, 3, none⟩ = some (.slice A v.L.length c) ∧ W'.cell? ⟨w.heap.size, 4, none⟩ = some (.slice A' v.T.length c')) → Calls Tryd.prog 20 #[.slice A' v.T.length c'] W' fun e w' => e = .returned (.string ⟨(encL encT v.T).toArray⟩) ∧ (Below w.heap.size w w' ∧ w'.cell? ⟨w.heap.size, 1, none⟩ = some (.int .i64 v.n) ∧ w'.cell? ⟨w.heap.size, 2, none⟩ = some (.string ⟨v.s.toArray⟩) ∧ w'.cell? ⟨w.heap.size, 3, none⟩ = some (.slice A v.L.length c) ∧ w'.cell? ⟨w.heap.size, 4, none⟩ = some (.slice A' v.T.length c'))) := Lib.hid fun W' ⟨h1, q1, q2, q3, q4⟩ => (rtexts_any rfl (hT.keep h1) h6 h7 (by omega)).mono fun e w' ⟨he, hb⟩ => ⟨he, Gen.over hb h1, Gen.keep hb q1, Gen.keep hb q2, Gen.keep hb q3, Gen.keep hb q4⟩
  have HE := Lib.hid hE
  have HF := Lib.hid hf
  unfold vcs at hB hR HV ⊢
  have HB := Lib.hid hB
  clear hE hL hT hf hv hsm h5 h6 h7 hs4 hL4 hT4
  go_enter Tryd.func3, Tryd.ntmps3
  go_upto_region 1 with (fail)
  generalize w.alloc (.cells #[.int .i64 v.kd, .int .i64 v.n, .string ⟨v.s.toArray⟩, .slice A v.L.length c, .slice A' v.T.length c'] 25) = W1 at *
  go_wp2_with (fail)
  go_must (refine (small_any (HE.out.keep HB.out)).mono ?_)
  rintro e w1 ⟨rfl, hb⟩
  replace HB := Lib.hid (Gen.over hb HB.out)
  have hR1 := hR.keep hb
  have r0 := hR1.cell 0
  have r1 := hR1.cell 1
  have r2 := hR1.cell 2
  have r3 := hR1.cell 3
  have r4 := hR1.cell 4
  clear hb hB hR hR1
  dsimp only
  go_wp2_with (fail)
  have hV := HV.out (w1.alloc (.cells #[.int .i64 v.kd, .int .i64 v.n, .string ⟨v.s.toArray⟩, .slice A v.L.length c, .slice A' v.T.length c'] 25)) w1.heap.size (Gen.b_alloc HB.out) (Row.new _ _ _)
  go_must (refine (few_yes hV HF.out).mono ?_)
  rintro e w2 ⟨rfl, hb⟩
  replace HB := Lib.hid (Gen.over hb (Gen.b_alloc HB.out))
  clear hV
  have s1 := Gen.keep (Gen.over hb (Gen.b_alloc (Below.refl _ _))) r1
  have s2 := Gen.keep (Gen.over hb (Gen.b_alloc (Below.refl _ _))) r2
  have s3 := Gen.keep (Gen.over hb (Gen.b_alloc (Below.refl _ _))) r3
  have s4 := Gen.keep (Gen.over hb (Gen.b_alloc (Below.refl _ _))) r4
  have HS1 := Lib.hid (show Below w.heap.size w w2.drew ∧ w2.drew.cell? ⟨w.heap.size, 1, none⟩ = some (.int .i64 v.n) ∧ w2.drew.cell? ⟨w.heap.size, 2, none⟩ = some (.string ⟨v.s.toArray⟩) ∧ w2.drew.cell? ⟨w.heap.size, 3, none⟩ = some (.slice A v.L.length c) ∧ w2.drew.cell? ⟨w.heap.size, 4, none⟩ = some (.slice A' v.T.length c') from ⟨HB.out.drew, Gen.keep (Below.refl _ _).drew s1, Gen.keep (Below.refl _ _).drew s2, Gen.keep (Below.refl _ _).drew s3, Gen.keep (Below.refl _ _).drew s4⟩)
  clear hb r0 r1 r2 r3 r4 s1 s2 s3 s4
  dsimp only
  go_upto_region 4 with (fail)
  go_region_held3 (fun W' : World => Below w.heap.size w W' ∧ W'.cell? ⟨w.heap.size, 1, none⟩ = some (.int .i64 v.n) ∧ W'.cell? ⟨w.heap.size, 2, none⟩ = some (.string ⟨v.s.toArray⟩) ∧ W'.cell? ⟨w.heap.size, 3, none⟩ = some (.slice A v.L.length c) ∧ W'.cell? ⟨w.heap.size, 4, none⟩ = some (.slice A' v.T.length c'))
    (first | assumption | exact HS1.out | fail "keep")
    (first
      | (go_at_call 11; with_reducible refine (HNW.out _ (by assumption)).mono ?_; rintro e' z1 ⟨rfl, hS1⟩)
      | (go_at_call 12; with_reducible refine (HNR.out _ (by assumption)).mono ?_; rintro e' z2 ⟨rfl, hS2⟩)
      | (go_at_call 13; with_reducible refine (HIW.out _ (by assumption)).mono ?_; rintro e' z3 ⟨rfl, hS3⟩)
      | (go_at_call 14; with_reducible refine (HIR.out _ (by assumption)).mono ?_; rintro e' z4 ⟨rfl, hS4⟩)
      | (go_at_call 15; with_reducible refine (HTW.out _ (by assumption)).mono ?_; rintro e' z5 ⟨rfl, hS5⟩)
      | (go_at_call 16; with_reducible refine (HTR.out _ (by assumption)).mono ?_; rintro e' z6 ⟨rfl, hS6⟩)
      | fail "arm")
  all_goals
    have HS2 := Lib.hid (show Below w.heap.size w z6.drew ∧ z6.drew.cell? ⟨w.heap.size, 1, none⟩ = some (.int .i64 v.n) ∧ z6.drew.cell? ⟨w.heap.size, 2, none⟩ = some (.string ⟨v.s.toArray⟩) ∧ z6.drew.cell? ⟨w.heap.size, 3, none⟩ = some (.slice A v.L.length c) ∧ z6.drew.cell? ⟨w.heap.size, 4, none⟩ = some (.slice A' v.T.length c') from ⟨hS6.1.drew, Gen.keep (Below.refl _ _).drew hS6.2.1, Gen.keep (Below.refl _ _).drew hS6.2.2.1, Gen.keep (Below.refl _ _).drew hS6.2.2.2.1, Gen.keep (Below.refl _ _).drew hS6.2.2.2.2⟩)
    clear hS1 hS2 hS3 hS4 hS5 hS6
    go_upto_region 5 with (fail)
    go_region_held3 (fun W' : World => Below w.heap.size w W' ∧ W'.cell? ⟨w.heap.size, 1, none⟩ = some (.int .i64 v.n) ∧ W'.cell? ⟨w.heap.size, 2, none⟩ = some (.string ⟨v.s.toArray⟩) ∧ W'.cell? ⟨w.heap.size, 3, none⟩ = some (.slice A v.L.length c) ∧ W'.cell? ⟨w.heap.size, 4, none⟩ = some (.slice A' v.T.length c'))
      (first | assumption | exact HS2.out | fail "keep")
      (first
        | (go_at_call 17; with_reducible refine (HLW.out _ (by assumption)).mono ?_; rintro e' z1 ⟨rfl, hS1⟩)
        | (go_at_call 18; with_reducible refine (HLR.out _ (by assumption)).mono ?_; rintro e' z2 ⟨rfl, hS2⟩)
        | (go_at_call 19; with_reducible refine (HMW.out _ (by assumption)).mono ?_; rintro e' z3 ⟨rfl, hS3⟩)
        | (go_at_call 20; with_reducible refine (HMR.out _ (by assumption)).mono ?_; rintro e' z4 ⟨rfl, hS4⟩)
        | fail "arm")
    all_goals
      have HS4 := Lib.hid hS4.1
      go_wp2
      go_ret
      exact ⟨rfl, HS4.out⟩
theorem writes_any (w : World) (hE : En w w) (hL : Ints w A v.L) (hT : Sts w A' v.T) (hv : Wv v) :
    Calls Tryd.prog 3 #[.agg (vcs v A c A' c')] w fun e w' => e = .returned (.bool true) ∧ Below w.heap.size w w' := by
  by_cases h : fewP [v]
  · exact writes_yes w hE hL hT hv h
  · exact writes_no w hE hL hT h
end
end Go.Proofs.YtapcfnlononniaaDoor.Wr
