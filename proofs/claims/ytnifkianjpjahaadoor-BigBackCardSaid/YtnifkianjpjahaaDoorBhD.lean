/- Big integers: steps. -/
import Derived.Test.YtnifkianjpjahaaDoorBhC
namespace Go.Proofs.YtnifkianjpjahaaDoor.Bg
open Go.ChangeShapes Go.WideShapes Go.ChangeAt Go.RowKit Go.Proofs.YtnifkianjpjahaaDoor.Cell
set_option linter.unusedVariables false
set_option linter.unusedSimpArgs false

abbrev i4 (m0 m1 m2 m3 : Int) : Array Value := #[.int .i64 m0, .int .i64 m1, .int .i64 m2, .int .i64 m3]
/-- what steps yields -/
def StP (va vb : Int) (w : World) (e : Ending) (w' : World) : Prop :=
  ∃ (m0 m1 m2 m3 P ra rb x y : Int) (d : Bool), e = .returned (.tuple #[.agg (i4 m0 m1 m2 m3), .bool d]) ∧ Le va vb P ra rb x y m0 m1 m2 m3 d ∧ Below w.heap.size w w'
theorem put4 {W : World} {b : Nat} {t : TypeId} {z0 z1 z2 z3 : Value} (u0 u1 u2 u3 : Value) (h : Row W b t #[z0, z1, z2, z3]) : Row ((((W.setCell ⟨b, 0, none⟩ u0).setCell ⟨b, 1, none⟩ u1).setCell ⟨b, 2, none⟩ u2).setCell ⟨b, 3, none⟩ u3) b t #[u0, u1, u2, u3] := (((h.set 0 u0).set 1 u1).set 2 u2).set 3 u3
theorem only4 (W : World) (b : Nat) (u0 u1 u2 u3 : Value) : Only b W ((((W.setCell ⟨b, 0, none⟩ u0).setCell ⟨b, 1, none⟩ u1).setCell ⟨b, 2, none⟩ u2).setCell ⟨b, 3, none⟩ u3) := ((((Only.refl b W).set 0 u0).set 1 u1).set 2 u2).set 3 u3
theorem max4_int (t : Array TypeId) (u : TypeId) (a b B : Int) : ∃ M, (∀ W : World, Sem.run Tryd.prog (Builtin.max_ t u #[.int .i64 a, .int .i64 (-a), .int .i64 b, .int .i64 (-b)]) W = .ok (.int .i64 M) W) ∧ (M ≤ B → (-B ≤ a ∧ a ≤ B) ∧ (-B ≤ b ∧ b ≤ B)) := by
  refine ⟨(if (if (if a < -a then -a else a) < b then b else if a < -a then -a else a) < -b then -b else if (if a < -a then -a else a) < b then b else if a < -a then -a else a), fun W => by simp [Builtin.max_, Builtin.max2, go_sem], fun h => ?_⟩
  split at h <;> split at h <;> split at h <;> omega
set_option maxRecDepth 100000 in
set_option maxHeartbeats 8000000 in
theorem steps_any {A A' : Option Addr} {n n' c c' : Nat} {a b : List Int} (w : World) (hn : a.length = n) (hn' : b.length = n') (ha : Ints w A a) (hb : Ints w A' b) (da : Dg a) (db : Dg b) (h4 : 4 ≤ n) (hl : n' ≤ n) (hbig : n ≤ 1000) :
    Calls Tryd.prog 50 #[.slice A n c, .slice A' n' c'] w (StP (val a) (val b) w) := by
  have HN := Lib.hid hn
  have HN' := Lib.hid hn'
  have HDA := Lib.hid da
  have HDB := Lib.hid db
  have HL0 : Hid (Le (val a) (val b) (pw (n - 3)) (val a % pw (n - 3)) (val b % pw (n - 3)) (val a / pw (n - 3)) (val b / pw (n - 3)) 1 0 0 1 false) := Lib.hid (by
    have hq : ∀ l : List Int, Dg l → l.length ≤ n → 0 ≤ val l ∧ val l / pw (n - 3) < 1152921504606846976 := fun l hd hle => by
      refine ⟨val_nonneg hd, ?_⟩
      rw [← val_drop_div hd]
      have h1 := val_lt (hd.drop (n - 3))
      have h2 := pw_le (show (l.drop (n - 3)).length ≤ 3 by rw [List.length_drop]; omega)
      rw [pw_3] at h2
      omega
    exact Le.start (by have := pw_pos (n - 3); omega) (hq a da (by omega)) (hq b db (by omega)))
  clear hn hn' da db
  go_enter Tryd.func50, Tryd.ntmps50
  go_wp2_with (fail)
  go_must (refine (lead_any _ HN.out (ha.keep (Gen.b_alloc (Below.refl _ _))) HDA.out h4 (Nat.le_refl _) hbig).mono ?_)
  rintro e w2 ⟨rfl, rfl⟩
  go_wp2_with (fail)
  go_must (refine (lead_any _ HN'.out (hb.keep (Gen.b_alloc (Below.refl _ _))) HDB.out h4 hl hbig).mono ?_)
  rintro e w2 ⟨rfl, rfl⟩
  go_wp2
  have HB0 := Lib.hid (Gen.b_alloc (x := .cells (i4 1 0 0 1) 70) (Gen.b_alloc (x := .cells (i4 0 0 0 0) 70) (Below.refl w.heap.size w)))
  have HR0 : Hid (Row _ w.heap.size 70 (i4 0 0 0 0)) := Lib.hid ((Row.new w 70 (i4 0 0 0 0)).alloc (.cells (i4 1 0 0 1) 70))
  have HM0 : Hid (Row ((w.alloc (.cells (i4 0 0 0 0) 70)).alloc (.cells (i4 1 0 0 1) 70)) (w.heap.size + 1) 70 (i4 1 0 0 1)) := Lib.hid (by
    have h := Row.new (w.alloc (.cells (i4 0 0 0 0) 70)) 70 (i4 1 0 0 1)
    rw [World.size_alloc] at h
    exact h)
  unfold i4 at HB0 HR0 HM0
  obtain ⟨X0, hX0⟩ : ∃ x, val a / pw (n - 3) = x := ⟨_, rfl⟩
  obtain ⟨Y0, hY0⟩ : ∃ x, val b / pw (n - 3) = x := ⟨_, rfl⟩
  rw [hX0, hY0] at HL0
  rw [hX0, hY0]
  obtain ⟨P, hP⟩ : ∃ x, pw (n - 3) = x := ⟨_, rfl⟩
  rw [hP] at HL0
  obtain ⟨ra, hra⟩ : ∃ x, val a % P = x := ⟨_, rfl⟩
  obtain ⟨rb, hrb⟩ : ∃ x, val b % P = x := ⟨_, rfl⟩
  rw [hra, hrb] at HL0
  clear hX0 hY0 hP hra hrb ha hb
  go_loopw [6, 7, 9] (fun xv yv dv wr => ∃ (x y m0 m1 m2 m3 : Int) (d : Bool), xv = .int .i64 x ∧ yv = .int .i64 y ∧ dv = .bool d ∧ Hid (Le (val a) (val b) P ra rb x y m0 m1 m2 m3 d) ∧ Hid (Row wr w.heap.size 70 (i4 0 0 0 0)) ∧ Hid (Row wr (w.heap.size + 1) 70 (i4 m0 m1 m2 m3)) ∧ Hid (Below w.heap.size w wr)) (fun _ yv _ _ => (intOf yv).toNat)
  case atStart => exact ⟨X0, Y0, 1, 0, 0, 1, false, rfl, rfl, rfl, HL0, HR0, HM0, HB0⟩
  case round =>
    clear HL0 HR0 HM0 HB0
    obtain ⟨x, y, m0, m1, m2, m3, d, rfl, rfl, rfl, HL, HR, HM, HB⟩ := hrel
    have c0 := HM.out.cell 0
    have c1 := HM.out.cell 1
    have c2 := HM.out.cell 2
    have c3 := HM.out.cell 3
    have hgR := HR.out.lt
    have hgM := HM.out.lt
    have bx := HL.out.bx
    have bY := HL.out.by_
    have x0 := HL.out.x0
    have y0 := HL.out.y0
    have b0 := HL.out.b0
    have b1 := HL.out.b1
    have b2 := HL.out.b2
    have b3 := HL.out.b3
    have w0 : IntKind.i64.wrap (x + m0) = x + m0 := IntWalk.i64_in _ (by omega)
    have w1 : IntKind.i64.wrap (x + m1) = x + m1 := IntWalk.i64_in _ (by omega)
    have w2 : IntKind.i64.wrap (y + m2) = y + m2 := IntWalk.i64_in _ (by omega)
    have w3 : IntKind.i64.wrap (y + m3) = y + m3 := IntWalk.i64_in _ (by omega)
    have f0 := HR.out.frozen 0
    have f1 := HR.out.frozen 1
    have f2 := HR.out.frozen 2
    have f3 := HR.out.frozen 3
    have k0 := HR.out.cell 0
    have k1 := HR.out.cell 1
    have k2 := HR.out.cell 2
    have k3 := HR.out.cell 3
    by_cases h2 : y + m2 = 0
    · have h2b : (y + m2 != 0) = false := by simp [h2]
      go_wp2
      have R4 := put4 (.int .i64 m0) (.int .i64 m1) (.int .i64 m2) (.int .i64 m3) HR.out
      have HB4 := Lib.hid (((only4 wr w.heap.size (.int .i64 m0) (.int .i64 m1) (.int .i64 m2) (.int .i64 m3)).bl w HB.out (Nat.le_refl _)))
      have d0 := R4.cell 0
      have d1 := R4.cell 1
      have d2 := R4.cell 2
      have d3 := R4.cell 3
      clear R4
      refine bodyPost_ret (v := .tuple #[.agg (i4 m0 m1 m2 m3), .bool d]) ?_ rfl ⟨m0, m1, m2, m3, P, ra, rb, x, y, d, rfl, HL.out, HB4.out⟩
      simp [results, Tryd.results50, go_sem, *]
    have h2b : (y + m2 != 0) = true := by simp [h2]
    by_cases h3 : y + m3 = 0
    · have h3b : (y + m3 != 0) = false := by simp [h3]
      go_wp2
      have R4 := put4 (.int .i64 m0) (.int .i64 m1) (.int .i64 m2) (.int .i64 m3) HR.out
      have HB4 := Lib.hid (((only4 wr w.heap.size (.int .i64 m0) (.int .i64 m1) (.int .i64 m2) (.int .i64 m3)).bl w HB.out (Nat.le_refl _)))
      have d0 := R4.cell 0
      have d1 := R4.cell 1
      have d2 := R4.cell 2
      have d3 := R4.cell 3
      clear R4
      refine bodyPost_ret (v := .tuple #[.agg (i4 m0 m1 m2 m3), .bool d]) ?_ rfl ⟨m0, m1, m2, m3, P, ra, rb, x, y, d, rfl, HL.out, HB4.out⟩
      simp [results, Tryd.results50, go_sem, *]
    have h3b : (y + m3 != 0) = true := by simp [h3]
    have p0 := HL.out.p0
    have p1 := HL.out.p1
    have p2 := HL.out.p2
    have p3 := HL.out.p3
    have q2 := IntWalk.i64_quo (x + m0) (y + m2) (by omega)
    have q3 := IntWalk.i64_quo (x + m1) (y + m3) (by omega)
    have z2 : (y + m2 == 0) = false := by simp [h2]
    have z3 : (y + m3 == 0) = false := by simp [h3]
    by_cases he : (x + m0) / (y + m2) = (x + m1) / (y + m3)
    · have hq := HL.out.qt h2 h3 he
      have hbd := HL.out.bounds hq h2 h3
      have hst : ∀ f2 f3, _ := fun f2 f3 => HL.out.step hq h2 h3 f2 f3
      rw [← he] at q3
      obtain ⟨q, hqq⟩ : ∃ q, (x + m0) / (y + m2) = q := ⟨_, rfl⟩
      rw [hqq] at q2 q3 hbd hst
      have HST := Lib.hid hst
      have v0 : IntKind.i64.wrap (q * y) = q * y := IntWalk.i64_in _ (by omega)
      have v2 : IntKind.i64.wrap (q * m2) = q * m2 := IntWalk.i64_in _ (by omega)
      have v3 : IntKind.i64.wrap (q * m3) = q * m3 := IntWalk.i64_in _ (by omega)
      have u0 : IntKind.i64.wrap (x - q * y) = x - q * y := IntWalk.i64_in _ (by omega)
      have u2 : IntKind.i64.wrap (m0 - q * m2) = m0 - q * m2 := IntWalk.i64_in _ (by omega)
      have u3 : IntKind.i64.wrap (m1 - q * m3) = m1 - q * m3 := IntWalk.i64_in _ (by omega)
      have g2 : IntKind.i64.wrap (-(m0 - q * m2)) = -(m0 - q * m2) := IntWalk.i64_in _ (by omega)
      have g3 : IntKind.i64.wrap (-(m1 - q * m3)) = -(m1 - q * m3) := IntWalk.i64_in _ (by omega)
      obtain ⟨n2, hn2⟩ : ∃ z, m0 - q * m2 = z := ⟨_, rfl⟩
      obtain ⟨n3, hn3⟩ : ∃ z, m1 - q * m3 = z := ⟨_, rfl⟩
      obtain ⟨y', hy'⟩ : ∃ z, x - q * y = z := ⟨_, rfl⟩
      rw [hn2] at u2 g2 HST
      rw [hn3] at u3 g3 HST
      rw [hy'] at u0 HST
      clear hq hbd hst he hqq
      have hqn : (q != q) = false := by simp
      obtain ⟨M, hM, hMB⟩ := max4_int #[3, 3, 3, 3] 3 n2 n3 1073741824
      have HMB := Lib.hid hMB
      clear hMB
      have e0 := HM.out.frozen 0
      have e1 := HM.out.frozen 1
      have e2 := HM.out.frozen 2
      have e3 := HM.out.frozen 3
      by_cases hbig : 1073741824 < M
      · go_wp2
        have R4 := put4 (.int .i64 m0) (.int .i64 m1) (.int .i64 m2) (.int .i64 m3) HR.out |>.alloc (.cells (i4 m2 m3 n2 n3) 70)
        have HB4 := Lib.hid (Gen.b_alloc (x := .cells (i4 m2 m3 n2 n3) 70) ((only4 wr w.heap.size (.int .i64 m0) (.int .i64 m1) (.int .i64 m2) (.int .i64 m3)).bl w HB.out (Nat.le_refl _)))
        have d0 := R4.cell 0
        have d1 := R4.cell 1
        have d2 := R4.cell 2
        have d3 := R4.cell 3
        clear R4
        refine bodyPost_ret (v := .tuple #[.agg (i4 m0 m1 m2 m3), .bool d]) ?_ rfl ⟨m0, m1, m2, m3, P, ra, rb, x, y, d, rfl, HL.out, HB4.out⟩
        simp [results, Tryd.results50, go_sem, *]
      · have hst := HST.out (HMB.out (by omega)).1 (HMB.out (by omega)).2
        have hy0 := hst.1.y0
        have hlt := hst.2
        have HST1 := Lib.hid hst.1
        clear hst
        go_wp2
        go_roundw
        case rel => exact ⟨y, y', m2, m3, n2, n3, true, rfl, rfl, rfl, HST1, Lib.hid (Row.alloc ((only4 wr (w.heap.size + 1) _ _ _ _).row w.heap.size _ _ (by omega) HR.out) _), Lib.hid ((put4 _ _ _ _ HM.out).alloc _), Lib.hid (Gen.b_alloc ((only4 wr (w.heap.size + 1) _ _ _ _).bl w HB.out (by omega)))⟩
        case measure => simp [intOf]; omega
    · have hqn : ((x + m0) / (y + m2) != (x + m1) / (y + m3)) = true := by simp [he]
      go_wp2
      have R4 := put4 (.int .i64 m0) (.int .i64 m1) (.int .i64 m2) (.int .i64 m3) HR.out
      have HB4 := Lib.hid (((only4 wr w.heap.size (.int .i64 m0) (.int .i64 m1) (.int .i64 m2) (.int .i64 m3)).bl w HB.out (Nat.le_refl _)))
      have d0 := R4.cell 0
      have d1 := R4.cell 1
      have d2 := R4.cell 2
      have d3 := R4.cell 3
      clear R4
      refine bodyPost_ret (v := .tuple #[.agg (i4 m0 m1 m2 m3), .bool d]) ?_ rfl ⟨m0, m1, m2, m3, P, ra, rb, x, y, d, rfl, HL.out, HB4.out⟩
      simp [results, Tryd.results50, go_sem, *]
end Go.Proofs.YtnifkianjpjahaaDoor.Bg
