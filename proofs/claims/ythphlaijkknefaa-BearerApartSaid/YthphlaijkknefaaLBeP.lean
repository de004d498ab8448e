/- BearerApart returns true: every list of pieces, everything that happens, every place; no condition. -/
import Derived.Test.YthphlaijkknefaaLBePr
namespace Go.Proofs.Ythphlaijkknefaa.Bea
open Go.ChangeShapes Go.WideShapes Go.ChangeAt Go.RowKit Go.Proofs.Ythphlaijkknefaa.Cell
set_option linter.unusedVariables false
set_option linter.unusedSimpArgs false
section
variable {w wx : World} {A : Option Addr} {n cap g2 c2 gx p k : Nat} {l : List Pc} {kq kd q o co wh d E N : Int}
set_option maxRecDepth 100000 in
set_option maxHeartbeats 16000000 in
theorem apart_a (w : World) (hn : l.length = n) (hc : Pcl w A l) (hsz : ∀ x ∈ l, x.pd.length ≤ 9223372036854775807) (hbig : n ≤ 9223372036854775807) (hf : few31 l = false) :
    Calls Try.prog 6 #[.slice A n cap, .agg #[.int .i64 kd, .int .i64 q, .int .i64 co, .int .i64 wh, .int .i64 d], .int .u8 o] w fun e w' => e = .returned (.bool true) ∧ Below w.heap.size w w' := by
  have HF := Lib.hid hf
  clear hf
  have HN := Lib.hid hn
  have HC := Lib.hid hc
  have HSZ := Lib.hid hsz
  clear hn hc hsz
  go_enter Try.func6, Try.ntmps6
  go_wp2_with (fail)
  go_must (refine (small31_any _).mono ?_)
  rintro e w1 ⟨rfl, hb1⟩
  have HR1 := Lib.hid ((Row.new w 27 #[.int .i64 kd, .int .i64 q, .int .i64 co, .int .i64 wh, .int .i64 d]).keep hb1)
  have HB1 := Lib.hid (Gen.over hb1 (Gen.b_alloc (x := .cells #[.int .i64 kd, .int .i64 q, .int .i64 co, .int .i64 wh, .int .i64 d] 27) (Below.refl _ _)))
  have r0 := HR1.out.cell 0
  have f0 := HR1.out.frozen 0
  clear hb1
  go_upto_region 3 with (fail)
  clear r0 f0
  obtain ⟨kq, hkq⟩ : ∃ v, bits .and .i64 kd 3 = v := ⟨_, rfl⟩
  have HK3 : Hid (0 ≤ kq ∧ kq ≤ 3) := Lib.hid (by rw [← hkq]; exact k3_in kd)
  rw [hkq]
  clear hkq
  have HR2 : Hid (Row (w1.setCell ⟨w.heap.size, 0, none⟩ (.int .i64 kq)) w.heap.size 27 #[.int .i64 kq, .int .i64 q, .int .i64 co, .int .i64 wh, .int .i64 d]) := Lib.hid (HR1.out.set 0 _)
  have HB2 := Lib.hid (show Below w.heap.size w (w1.setCell ⟨w.heap.size, 0, none⟩ (.int .i64 kq)) from HB1.out.setCell (p := ⟨w.heap.size, 0, none⟩) (Nat.le_refl _) _)
  generalize w1.setCell ⟨w.heap.size, 0, none⟩ (.int .i64 kq) = w2 at *
  clear HR1 HB1
  go_wp2_with (fail)
  go_must (refine (few31_any _ n cap l _ HN.out (HC.out.keep HB2.out) hbig).mono ?_)
  rintro e w3 ⟨rfl, hw3⟩
  have hw3 := hw3.symm
  subst hw3
  rw [HF.out]
  go_wp2
  go_ret
  exact ⟨rfl, HB2.out⟩
set_option maxRecDepth 100000 in
set_option maxHeartbeats 16000000 in
theorem apart_b (w : World) (hn : l.length = n) (hc : Pcl w A l) (hsz : ∀ x ∈ l, x.pd.length ≤ 9223372036854775807) (hbig : n ≤ 9223372036854775807) (hf : few31 l = true) (hv : rgtL l = false) :
    Calls Try.prog 6 #[.slice A n cap, .agg #[.int .i64 kd, .int .i64 q, .int .i64 co, .int .i64 wh, .int .i64 d], .int .u8 o] w fun e w' => e = .returned (.bool true) ∧ Below w.heap.size w w' := by
  have HF := Lib.hid hf
  have HV := Lib.hid hv
  clear hf hv
  have HN := Lib.hid hn
  have HC := Lib.hid hc
  have HSZ := Lib.hid hsz
  clear hn hc hsz
  go_enter Try.func6, Try.ntmps6
  go_wp2_with (fail)
  go_must (refine (small31_any _).mono ?_)
  rintro e w1 ⟨rfl, hb1⟩
  have HR1 := Lib.hid ((Row.new w 27 #[.int .i64 kd, .int .i64 q, .int .i64 co, .int .i64 wh, .int .i64 d]).keep hb1)
  have HB1 := Lib.hid (Gen.over hb1 (Gen.b_alloc (x := .cells #[.int .i64 kd, .int .i64 q, .int .i64 co, .int .i64 wh, .int .i64 d] 27) (Below.refl _ _)))
  have r0 := HR1.out.cell 0
  have f0 := HR1.out.frozen 0
  clear hb1
  go_upto_region 3 with (fail)
  clear r0 f0
  obtain ⟨kq, hkq⟩ : ∃ v, bits .and .i64 kd 3 = v := ⟨_, rfl⟩
  have HK3 : Hid (0 ≤ kq ∧ kq ≤ 3) := Lib.hid (by rw [← hkq]; exact k3_in kd)
  rw [hkq]
  clear hkq
  have HR2 : Hid (Row (w1.setCell ⟨w.heap.size, 0, none⟩ (.int .i64 kq)) w.heap.size 27 #[.int .i64 kq, .int .i64 q, .int .i64 co, .int .i64 wh, .int .i64 d]) := Lib.hid (HR1.out.set 0 _)
  have HB2 := Lib.hid (show Below w.heap.size w (w1.setCell ⟨w.heap.size, 0, none⟩ (.int .i64 kq)) from HB1.out.setCell (p := ⟨w.heap.size, 0, none⟩) (Nat.le_refl _) _)
  generalize w1.setCell ⟨w.heap.size, 0, none⟩ (.int .i64 kq) = w2 at *
  clear HR1 HB1
  go_wp2_with (fail)
  go_must (refine (few31_any _ n cap l _ HN.out (HC.out.keep HB2.out) hbig).mono ?_)
  rintro e w3 ⟨rfl, hw3⟩
  have hw3 := hw3.symm
  subst hw3
  rw [HF.out]
  go_wp2_with (fail)
  go_must (refine (Right_any _ n cap l _ HN.out (HC.out.keep HB2.out) HSZ.out hbig).mono ?_)
  rintro e w4 ⟨rfl, hb4⟩
  rw [HV.out]
  have HR4 := Lib.hid (HR2.out.keep hb4)
  have HB4 := Lib.hid (Gen.over hb4 HB2.out)
  clear hb4 HR2 HB2
  go_wp2
  go_ret
  exact ⟨rfl, HB4.out⟩
set_option maxRecDepth 100000 in
set_option maxHeartbeats 16000000 in
theorem apart_c (w : World) (hn : l.length = n) (hc : Pcl w A l) (hsz : ∀ x ∈ l, x.pd.length ≤ 9223372036854775807) (hbig : n ≤ 9223372036854775807) (hf : few31 l = true) (hv : rgtL l = true) (h0 : n = 0) :
    Calls Try.prog 6 #[.slice A n cap, .agg #[.int .i64 kd, .int .i64 q, .int .i64 co, .int .i64 wh, .int .i64 d], .int .u8 o] w fun e w' => e = .returned (.bool true) ∧ Below w.heap.size w w' := by
  have HF := Lib.hid hf
  have HV := Lib.hid hv
  have h0b : ((n : Int) == 0) = true := by rw [h0]; rfl
  clear hf hv h0
  have HN := Lib.hid hn
  have HC := Lib.hid hc
  have HSZ := Lib.hid hsz
  clear hn hc hsz
  go_enter Try.func6, Try.ntmps6
  go_wp2_with (fail)
  go_must (refine (small31_any _).mono ?_)
  rintro e w1 ⟨rfl, hb1⟩
  have HR1 := Lib.hid ((Row.new w 27 #[.int .i64 kd, .int .i64 q, .int .i64 co, .int .i64 wh, .int .i64 d]).keep hb1)
  have HB1 := Lib.hid (Gen.over hb1 (Gen.b_alloc (x := .cells #[.int .i64 kd, .int .i64 q, .int .i64 co, .int .i64 wh, .int .i64 d] 27) (Below.refl _ _)))
  have r0 := HR1.out.cell 0
  have f0 := HR1.out.frozen 0
  clear hb1
  go_upto_region 3 with (fail)
  clear r0 f0
  obtain ⟨kq, hkq⟩ : ∃ v, bits .and .i64 kd 3 = v := ⟨_, rfl⟩
  have HK3 : Hid (0 ≤ kq ∧ kq ≤ 3) := Lib.hid (by rw [← hkq]; exact k3_in kd)
  rw [hkq]
  clear hkq
  have HR2 : Hid (Row (w1.setCell ⟨w.heap.size, 0, none⟩ (.int .i64 kq)) w.heap.size 27 #[.int .i64 kq, .int .i64 q, .int .i64 co, .int .i64 wh, .int .i64 d]) := Lib.hid (HR1.out.set 0 _)
  have HB2 := Lib.hid (show Below w.heap.size w (w1.setCell ⟨w.heap.size, 0, none⟩ (.int .i64 kq)) from HB1.out.setCell (p := ⟨w.heap.size, 0, none⟩) (Nat.le_refl _) _)
  generalize w1.setCell ⟨w.heap.size, 0, none⟩ (.int .i64 kq) = w2 at *
  clear HR1 HB1
  go_wp2_with (fail)
  go_must (refine (few31_any _ n cap l _ HN.out (HC.out.keep HB2.out) hbig).mono ?_)
  rintro e w3 ⟨rfl, hw3⟩
  have hw3 := hw3.symm
  subst hw3
  rw [HF.out]
  go_wp2_with (fail)
  go_must (refine (Right_any _ n cap l _ HN.out (HC.out.keep HB2.out) HSZ.out hbig).mono ?_)
  rintro e w4 ⟨rfl, hb4⟩
  rw [HV.out]
  have HR4 := Lib.hid (HR2.out.keep hb4)
  have HB4 := Lib.hid (Gen.over hb4 HB2.out)
  clear hb4 HR2 HB2
  go_wp2
  go_ret
  exact ⟨rfl, HB4.out⟩
set_option maxRecDepth 100000 in
set_option maxHeartbeats 16000000 in
theorem apart_out (w : World) (hn : l.length = n) (hc : Pcl w A l) (hsz : ∀ x ∈ l, x.pd.length ≤ 9223372036854775807) (hbig : n ≤ 9223372036854775807) (hf : few31 l = true) (hv : rgtL l = true) (h0 : 0 < n) (ho : 0 ≤ o ∧ o ≤ 255) (hq : ¬ (0 ≤ q ∧ q < (n : Int))) :
    Calls Try.prog 6 #[.slice A n cap, .agg #[.int .i64 kd, .int .i64 q, .int .i64 co, .int .i64 wh, .int .i64 d], .int .u8 o] w fun e w' => e = .returned (.bool true) ∧ Below w.heap.size w w' := by
  have HF := Lib.hid hf
  have HV := Lib.hid hv
  have h0b : ((n : Int) == 0) = false := by simp; omega
  have hn12 : n ≤ 12 := by have := (few_in hf).1; omega
  have h0I : (0 : Int) < (n : Int) := by omega
  have h0N : ¬ n = 0 := by omega
  clear hf hv
  have HN := Lib.hid hn
  have HC := Lib.hid hc
  have HSZ := Lib.hid hsz
  clear hn hc hsz
  go_enter Try.func6, Try.ntmps6
  go_wp2_with (fail)
  go_must (refine (small31_any _).mono ?_)
  rintro e w1 ⟨rfl, hb1⟩
  have HR1 := Lib.hid ((Row.new w 27 #[.int .i64 kd, .int .i64 q, .int .i64 co, .int .i64 wh, .int .i64 d]).keep hb1)
  have HB1 := Lib.hid (Gen.over hb1 (Gen.b_alloc (x := .cells #[.int .i64 kd, .int .i64 q, .int .i64 co, .int .i64 wh, .int .i64 d] 27) (Below.refl _ _)))
  have r0 := HR1.out.cell 0
  have f0 := HR1.out.frozen 0
  clear hb1
  go_upto_region 3 with (fail)
  clear r0 f0
  obtain ⟨kq, hkq⟩ : ∃ v, bits .and .i64 kd 3 = v := ⟨_, rfl⟩
  have HK3 : Hid (0 ≤ kq ∧ kq ≤ 3) := Lib.hid (by rw [← hkq]; exact k3_in kd)
  rw [hkq]
  clear hkq
  have HR2 : Hid (Row (w1.setCell ⟨w.heap.size, 0, none⟩ (.int .i64 kq)) w.heap.size 27 #[.int .i64 kq, .int .i64 q, .int .i64 co, .int .i64 wh, .int .i64 d]) := Lib.hid (HR1.out.set 0 _)
  have HB2 := Lib.hid (show Below w.heap.size w (w1.setCell ⟨w.heap.size, 0, none⟩ (.int .i64 kq)) from HB1.out.setCell (p := ⟨w.heap.size, 0, none⟩) (Nat.le_refl _) _)
  generalize w1.setCell ⟨w.heap.size, 0, none⟩ (.int .i64 kq) = w2 at *
  clear HR1 HB1
  go_wp2_with (fail)
  go_must (refine (few31_any _ n cap l _ HN.out (HC.out.keep HB2.out) hbig).mono ?_)
  rintro e w3 ⟨rfl, hw3⟩
  have hw3 := hw3.symm
  subst hw3
  rw [HF.out]
  go_wp2_with (fail)
  go_must (refine (Right_any _ n cap l _ HN.out (HC.out.keep HB2.out) HSZ.out hbig).mono ?_)
  rintro e w4 ⟨rfl, hb4⟩
  rw [HV.out]
  have HR4 := Lib.hid (HR2.out.keep hb4)
  have HB4 := Lib.hid (Gen.over hb4 HB2.out)
  clear hb4 HR2 HB2
  go_upto_region 6 with (fail)
  obtain ⟨k, hk⟩ : ∃ k : Nat, o % (n : Int) = k := ⟨(o % (n : Int)).toNat, by have := Int.emod_nonneg o (show (n : Int) ≠ 0 by omega); omega⟩
  have hkn : k < n := by have := Int.emod_lt_of_pos o h0I; omega
  try rw [hk]
  have r0 := HR4.out.cell 0
  have r1 := HR4.out.cell 1
  have r2 := HR4.out.cell 2
  have r3 := HR4.out.cell 3
  have r4 := HR4.out.cell 4
  go_wp2_with (fail)
  go_must (refine (do_any ⟨kq, q, co, wh, d⟩ HN.out (HC.out.keep HB4.out) HSZ.out hbig).mono ?_)
  rintro e w5 hD
  clear r0 r1 r2 r3 r4
  unfold DoP at hD
  have hE0 := doE_out (kd := kq) (co := co) (wh := wh) (dy := d) HV.out (by rw [HN.out]; exact hq)
  rcases hD with ⟨_, rfl, hb⟩ | ⟨h, _⟩
  · obtain ⟨E, hE⟩ : ∃ E, doE l ⟨kq, q, co, wh, d⟩ = E := ⟨_, rfl⟩
    rw [hE] at hE0 ⊢
    have hE1 : (E != 0) = true := by simpa using hE0
    have HB5 := Lib.hid (Gen.over hb HB4.out)
    have HR5 := Lib.hid (HR4.out.keep hb)
    clear hb hE hE0
    have r1 := HR5.out.cell 1
    dsimp only
    by_cases hq0 : q < 0
    · go_wp2
      go_ret
      exact ⟨rfl, HB5.out⟩
    · have hq1 : (n : Int) ≤ q := by omega
      go_wp2
      go_ret
      exact ⟨rfl, HB5.out⟩
  · exact absurd h hE0
set_option maxRecDepth 100000 in
set_option maxHeartbeats 16000000 in
theorem apart_in {p : Nat} (w : World) (hn : l.length = n) (hc : Pcl w A l) (hsz : ∀ x ∈ l, x.pd.length ≤ 9223372036854775807) (hbig : n ≤ 9223372036854775807) (hcap : n ≤ cap) (hf : few31 l = true) (hv : rgtL l = true) (h0 : 0 < n) (ho : 0 ≤ o ∧ o ≤ 255) (hq : q = (p : Int)) (hp : p < n) :
    Calls Try.prog 6 #[.slice A n cap, .agg #[.int .i64 kd, .int .i64 (p : Int), .int .i64 co, .int .i64 wh, .int .i64 d], .int .u8 o] w fun e w' => e = .returned (.bool true) ∧ Below w.heap.size w w' := by
  subst hq
  have HF := Lib.hid hf
  have HV := Lib.hid hv
  have h0b : ((n : Int) == 0) = false := by simp; omega
  have hn12 : n ≤ 12 := by have := (few_in hf).1; omega
  have h0I : (0 : Int) < (n : Int) := by omega
  have h0N : ¬ n = 0 := by omega
  clear hf hv
  have HN := Lib.hid hn
  have HC := Lib.hid hc
  have HSZ := Lib.hid hsz
  clear hn hc hsz
  go_enter Try.func6, Try.ntmps6
  go_wp2_with (fail)
  go_must (refine (small31_any _).mono ?_)
  rintro e w1 ⟨rfl, hb1⟩
  have HR1 := Lib.hid ((Row.new w 27 #[.int .i64 kd, .int .i64 (p : Int), .int .i64 co, .int .i64 wh, .int .i64 d]).keep hb1)
  have HB1 := Lib.hid (Gen.over hb1 (Gen.b_alloc (x := .cells #[.int .i64 kd, .int .i64 (p : Int), .int .i64 co, .int .i64 wh, .int .i64 d] 27) (Below.refl _ _)))
  have r0 := HR1.out.cell 0
  have f0 := HR1.out.frozen 0
  clear hb1
  go_upto_region 3 with (fail)
  clear r0 f0
  obtain ⟨kq, hkq⟩ : ∃ v, bits .and .i64 kd 3 = v := ⟨_, rfl⟩
  have HK3 : Hid (0 ≤ kq ∧ kq ≤ 3) := Lib.hid (by rw [← hkq]; exact k3_in kd)
  rw [hkq]
  clear hkq
  have HR2 : Hid (Row (w1.setCell ⟨w.heap.size, 0, none⟩ (.int .i64 kq)) w.heap.size 27 #[.int .i64 kq, .int .i64 (p : Int), .int .i64 co, .int .i64 wh, .int .i64 d]) := Lib.hid (HR1.out.set 0 _)
  have HB2 := Lib.hid (show Below w.heap.size w (w1.setCell ⟨w.heap.size, 0, none⟩ (.int .i64 kq)) from HB1.out.setCell (p := ⟨w.heap.size, 0, none⟩) (Nat.le_refl _) _)
  generalize w1.setCell ⟨w.heap.size, 0, none⟩ (.int .i64 kq) = w2 at *
  clear HR1 HB1
  go_wp2_with (fail)
  go_must (refine (few31_any _ n cap l _ HN.out (HC.out.keep HB2.out) hbig).mono ?_)
  rintro e w3 ⟨rfl, hw3⟩
  have hw3 := hw3.symm
  subst hw3
  rw [HF.out]
  go_wp2_with (fail)
  go_must (refine (Right_any _ n cap l _ HN.out (HC.out.keep HB2.out) HSZ.out hbig).mono ?_)
  rintro e w4 ⟨rfl, hb4⟩
  rw [HV.out]
  have HR4 := Lib.hid (HR2.out.keep hb4)
  have HB4 := Lib.hid (Gen.over hb4 HB2.out)
  clear hb4 HR2 HB2
  go_upto_region 6 with (fail)
  obtain ⟨k, hk⟩ : ∃ k : Nat, o % (n : Int) = k := ⟨(o % (n : Int)).toNat, by have := Int.emod_nonneg o (show (n : Int) ≠ 0 by omega); omega⟩
  have hkn : k < n := by have := Int.emod_lt_of_pos o h0I; omega
  try rw [hk]
  have r0 := HR4.out.cell 0
  have r1 := HR4.out.cell 1
  have r2 := HR4.out.cell 2
  have r3 := HR4.out.cell 3
  have r4 := HR4.out.cell 4
  have HGX := Lib.hid HB4
  go_cut [9, 10, 11] (fun av nv ev wx => Hid (DoP w4 n l ⟨kq, (p : Int), co, wh, d⟩ (.returned (.tuple #[av, nv, ev])) wx))
  case first =>
    go_wp2_with (fail)
    go_must (refine (do_any ⟨kq, (p : Int), co, wh, d⟩ HN.out (HC.out.keep HB4.out) HSZ.out hbig).mono ?_)
    rintro e w5 hD
    clear r0 r1 r2 r3 r4
    have HD := Lib.hid hD
    rcases hD with ⟨_, rfl, _⟩ | ⟨_, v, rfl, _⟩
    all_goals
      dsimp only
      go_wp2
      go_meet
      exact HD
  case rest =>
    clear r0 r1 r2 r3 r4
    rename_i K hK
    apply hK
    rcases hcut.out with ⟨hE0, he, hb⟩ | ⟨hE, v, he, hO⟩
    · injection he with he
      injection he with he
      injection he with he
      injection he with e1 he
      injection he with e2 he
      injection he with e3 he
      subst e1 e2 e3
      exact rest6_no (HR4.out.keep hb) HN.out (HC.out.keep (Gen.over hb HB4.out)) HV.out hn12 hcap hp hkn rfl hE0 (Gen.over hb HB4.out)
    · injection he with he
      injection he with he
      injection he with he
      injection he with e1 he
      injection he with e2 he
      injection he with e3 he
      subst e1 e2 e3
      obtain ⟨g2, c2, rfl, h2⟩ := hO.v
      exact rest6_yes (HR4.out.keep hO.bl) HN.out (HC.out.keep (Gen.over hO.bl HB4.out)) HV.out hn12 hcap hp hkn hE rfl h2 hO.n (hO.up g2 n c2 rfl).1.2 (Gen.over hO.bl HB4.out)
theorem apart_any (w : World) (hn : l.length = n) (hc : Pcl w A l) (hsz : ∀ x ∈ l, x.pd.length ≤ 9223372036854775807) (hbig : n ≤ 9223372036854775807) (hcap : n ≤ cap) (ho : 0 ≤ o ∧ o ≤ 255) :
    Calls Try.prog 6 #[.slice A n cap, .agg #[.int .i64 kd, .int .i64 q, .int .i64 co, .int .i64 wh, .int .i64 d], .int .u8 o] w fun e w' => e = .returned (.bool true) ∧ Below w.heap.size w w' := by
  cases hf : few31 l
  · exact apart_a w hn hc hsz hbig hf
  · cases hv : rgtL l
    · exact apart_b w hn hc hsz hbig hf hv
    · by_cases h0 : n = 0
      · exact apart_c w hn hc hsz hbig hf hv h0
      · by_cases hq : 0 ≤ q ∧ q < (n : Int)
        · obtain ⟨p, rfl⟩ : ∃ p : Nat, q = p := ⟨q.toNat, by omega⟩
          exact apart_in w hn hc hsz hbig hcap hf hv (by omega) ho rfl (by omega)
        · exact apart_out w hn hc hsz hbig hf hv (by omega) ho hq
end
end Go.Proofs.Ythphlaijkknefaa.Bea
