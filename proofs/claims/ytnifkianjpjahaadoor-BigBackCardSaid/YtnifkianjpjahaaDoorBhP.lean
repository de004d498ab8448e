/- Big integers: products that lie above the memory that was there; variables that are written again. -/
import Derived.Test.YtnifkianjpjahaaDoorBhN
namespace Go.Proofs.YtnifkianjpjahaaDoor.Bg
open Go.ChangeShapes Go.WideShapes Go.ChangeAt Go.RowKit Go.Proofs.YtnifkianjpjahaaDoor.Cell
set_option linter.unusedVariables false
set_option linter.unusedSimpArgs false

/-- no address below N -/
def Abv (N : Nat) (A : Option Addr) : Prop := ∀ b o s, A = some ⟨b, o, s⟩ → N ≤ b
theorem Abv.le {N M : Nat} {A : Option Addr} (h : Abv N A) (hm : M ≤ N) : Abv M A := fun b o s e => Nat.le_trans hm (h b o s e)
def Abo (N : Nat) (v : Value) : Prop := ∀ s A n c, v = bigV s A n c → Abv N A
/-- the digits of v are those at A, or none -/
def Frm (A : Option Addr) (v : Value) : Prop := ∀ s B n c, v = bigV s B n c → B = none ∨ B = A
theorem Frm.abo {N : Nat} {A : Option Addr} {v : Value} (h : Frm A v) (ha : Abv N A) : Abo N v := fun s B n c e => by
  rcases h s B n c e with rfl | rfl
  · exact fun b o s e => by cases e
  · exact ha
theorem Frm.big (s : Int) (A : Option Addr) (n c : Nat) : Frm A (bigV s A n c) := fun s' B n' c' e => by
  simp only [bigV, Value.agg.injEq, Array.mk.injEq, List.cons.injEq, Value.slice.injEq] at e
  exact .inr e.2.1.1.symm
theorem Frm.zero (A : Option Addr) : Frm A zeroV := fun s' B n' c' e => by
  simp only [bigV, Value.agg.injEq, Array.mk.injEq, List.cons.injEq, Value.slice.injEq] at e
  exact .inl e.2.1.1.symm
set_option maxRecDepth 100000 in
set_option maxHeartbeats 4000000 in
theorem signed_anyU {s z : Int} {A : Option Addr} {n c : Nat} {l : List Int} (w : World) (hn : l.length = n) (hc : Ints w A l) (hl : Nm l z.natAbs) (h60 : n ≤ 60) (hs : z ≠ 0 → s = sg z) :
    Calls Tryd.prog 35 #[.int .i64 s, .slice A n c] w fun e w' => ∃ v, e = .returned v ∧ IsBig w' v z ∧ Below w.heap.size w w' ∧ Frm A v := by
  by_cases h0 : n = 0
  · have hz0 : z = 0 := by
      have := hl.nil.1 (List.eq_nil_of_length_eq_zero (hn.trans h0))
      omega
    have HZ := Lib.hid hz0
    have hb : ((n : Int) == 0) = true := by simp [h0]
    clear hn hc hl hs h0 hz0
    go_enter Tryd.func35, Tryd.ntmps35
    go_wp2
    refine bodyPost_ret (v := zeroV) ?_ rfl ⟨_, rfl, by rw [HZ.out]; exact IsBig.zero _, by go_grown, Frm.zero _⟩
    simp [results, Tryd.results35, go_sem]
  · have hz0 : z ≠ 0 := fun e => h0 (by
      have := hl.nil.2 (by rw [e]; rfl)
      rw [← hn, this]; rfl)
    have HS := Lib.hid (hs hz0)
    have HB := Lib.hid (show IsBig w (bigV s A n c) z from ⟨A, c, l, by rw [HS.out, hn], hc, hl, by omega⟩)
    have hb : ((n : Int) == 0) = false := by simp; omega
    clear hn hc hl hs h0 hz0
    go_enter Tryd.func35, Tryd.ntmps35
    go_wp2
    refine bodyPost_ret (v := bigV s A n c) ?_ rfl ⟨_, rfl, HB.out.keep (by go_grown), by go_grown, Frm.big _ _ _ _⟩
    simp [results, Tryd.results35, go_sem]
set_option maxRecDepth 100000 in
set_option maxHeartbeats 4000000 in
theorem fit_anyU {s z : Int} {A : Option Addr} {n c : Nat} {l : List Int} (w : World) (hn : l.length = n) (hc : Ints w A l) (hl : Nm l z.natAbs) (hbig : n ≤ 1000) (hs : z ≠ 0 → s = sg z) :
    Calls Tryd.prog 27 #[.int .i64 s, .slice A n c] w fun e w' => ∃ v, e = .returned (.tuple #[v, .int .i64 (fe z)]) ∧ IsBig w' v (fz z) ∧ Below w.heap.size w w' ∧ Frm A v := by
  have HR0 := Lib.hid (Res.new (Below.refl w.heap.size w))
  by_cases h60 : n ≤ 60
  · have hf : Fit z := Fit.of_len hl (by omega)
    rw [fz_yes hf, fe_yes hf]
    have h60I : ¬ ((60 : Int) < (n : Int)) := by omega
    go_enter Tryd.func27, Tryd.ntmps27
    go_wp2_with (fail)
    go_must (refine (signed_anyU _ hn (hc.keep (Gen.b_alloc (Below.refl _ _))) hl h60 hs).mono ?_)
    rintro e w2 ⟨v, rfl, hv, hb2, hF⟩
    obtain ⟨A3, c3, l3, rfl, _⟩ := hv.ex
    have HR := Lib.hid (HR0.out.keep hb2)
    have HV := Lib.hid hv
    have d0 := HR.out.c0
    have d1 := HR.out.c1
    have f0 := HR.out.row.frozen 0
    have f1 := HR.out.row.frozen 1
    have hg := HR.out.row.lt
    clear hn hc hl hs hf hb2 hv HR0
    go_wp2
    refine bodyPost_ret (v := .tuple #[bigV (sg z) A3 l3.length c3, .int .i64 0]) ?_ rfl ⟨_, rfl, HR.out.big HV.out _ _, HR.out.put _ _, hF⟩
    simp [results, Tryd.results27, go_sem, *]
  · have hf : ¬ Fit z := fun h => h60 (by rw [← hn]; exact (Fit.len hl).2 h)
    rw [fz_no hf, fe_no hf]
    have h60I : (60 : Int) < (n : Int) := by omega
    clear hn hc hl hs hf
    go_enter Tryd.func27, Tryd.ntmps27
    go_wp2
    refine bodyPost_ret (v := .tuple #[zeroV, .int .i64 6]) ?_ rfl ⟨_, rfl, IsBig.zero _, by go_grown, Frm.zero _⟩
    simp [results, Tryd.results27, go_sem]
set_option maxRecDepth 100000 in
set_option maxHeartbeats 8000000 in
theorem mul_posU {A A' : Option Addr} {n n' c c' : Nat} {a b : List Int} (w : World) (hn : a.length = n) (hn' : b.length = n') (ha : Ints w A a) (hb : Ints w A' b) (da : Dg a) (db : Dg b) (hbig : n ≤ 60) (hbig' : n' ≤ 60) (h0 : 0 < n) (h0' : 0 < n') :
    Calls Tryd.prog 28 #[.slice A n c, .slice A' n' c'] w fun e w' => ∃ A2 c2 l, e = .returned (.slice A2 l.length c2) ∧ Ints w' A2 l ∧ Nm l (val a * val b) ∧ Below w.heap.size w w' ∧ Abv w.heap.size A2 := by
  have HN := Lib.hid hn
  have HN' := Lib.hid hn'
  have HDA := Lib.hid da
  have HDB := Lib.hid db
  have HVV : Hid (val a * val b < pw (n + n')) := Lib.hid (by
    rw [pw_add]
    have h1 := val_lt da
    have h2 := val_lt db
    rw [hn] at h1
    rw [hn'] at h2
    have h3 : val a * val b ≤ pw n * val b := Int.mul_le_mul_of_nonneg_right (by omega) (val_nonneg db)
    have h4 : pw n * val b < pw n * pw n' := Int.mul_lt_mul_of_pos_left h2 (by have := pw_pos n; omega)
    omega)
  obtain ⟨iI, hiI, hzI, hyI, hxI⟩ := info_parts infoI
  obtain ⟨N, hN⟩ : ∃ N, N = n + n' := ⟨_, rfl⟩
  have hNI : (n : Int) + (n' : Int) = (N : Int) := by omega
  have hmk : ∀ W : World, (Instr.makeSlice 22 (.int .i64 N) (.int .i64 N)).run Tryd.prog W = .ok (.slice (some ⟨W.heap.size, 0, none⟩) N N) (W.alloc (.cells (ics (List.replicate N 0)) 3)) := fun W => by
    have hr := run_make (P := Tryd.prog) W 22 3 iI (.int .i64 0) Tryd.underlying22 hiI hzI .i64 .i64 N N (by omega) (Int.le_refl _) (by rw [hxI]; omega) (by omega)
    rw [hyI, Int.toNat_natCast, made_ints] at hr
    exact hr
  have hwN : IntKind.i64.wrap (N : Int) = N := IntWalk.i64_in _ (by omega)
  have hz1 : ((n : Int) == 0) = false := by simp; omega
  have hz2 : ((n' : Int) == 0) = false := by simp; omega
  have HR0 : Hid (Ml a b (List.replicate N 0) 0 0 0) := Lib.hid (by rw [hN, ← hn, ← hn']; exact Ml.start a b 0)
  have HNN := Lib.hid hN
  clear hn hn' da db hiI hzI hyI hxI hN
  go_enter Tryd.func28, Tryd.ntmps28
  go_wp2
  clear hmk hz1 hz2
  go_loopw [30] (fun iv wr => ∃ (i : Nat) (L : List Int), i ≤ n ∧ iv = .int .i64 i ∧ Hid (Row wr w.heap.size 3 (ics L)) ∧ Hid (Ml a b L i 0 0) ∧ Hid (Below w.heap.size w wr)) (fun iv _ => n - (intOf iv).toNat)
  case atStart => exact ⟨0, _, Nat.zero_le _, rfl, Lib.hid (Row.new _ _ _), HR0, Lib.hid (Gen.b_alloc (Below.refl _ _))⟩
  case round =>
    clear HR0
    obtain ⟨i, L, hi, rfl, HR, HM, HB⟩ := hrel
    have i0 : (0 : Int) ≤ (i : Int) := by omega
    by_cases hlt : i < n
    · have hltI : (i : Int) < (n : Int) := by omega
      obtain ⟨bl, ol, rfl, hcell⟩ := (ha.keep HB.out) (by rw [HN.out]; omega)
      obtain ⟨x, hx⟩ := at_ a i (by rw [HN.out]; exact hlt)
      have c0 := hcell i x hx
      have HX := Lib.hid hx
      have HXX := Lib.hid (HDA.out.at_ hx)
      have hNi : (N = i) = False := by simp; have := HNN.out; omega
      have hs1 : IntKind.i64.wrap ((i : Int) + (n' : Int)) = (i : Int) + (n' : Int) := IntWalk.i64_in _ (by omega)
      have hs2 : (i : Int) ≤ (i : Int) + (n' : Int) := by omega
      have hs3 : (i : Int) + (n' : Int) ≤ (N : Int) := by have := HNN.out; omega
      have hs4 : ((i : Int) + (n' : Int)).toNat = i + n' := by omega
      have hs5 : (i : Int) + (n' : Int) - (i : Int) = (n' : Int) := by omega
      have HM0 : Hid (Ml a b L i x 0) := Lib.hid HM.out.other
      clear hcell hx HM
      obtain ⟨wo, rfl⟩ : ∃ wo : World, wo = wr := ⟨_, rfl⟩
      go_wp2
      go_loopw [44] (fun jv wr => ∃ (j : Nat) (L : List Int), j ≤ n' ∧ jv = .int .i64 j ∧ Hid (Row wr w.heap.size 3 (ics L)) ∧ Hid (Ml a b L i x j) ∧ Hid (Below w.heap.size w wr)) (fun jv _ => n' - (intOf jv).toNat)
      case atStart => exact ⟨0, L, Nat.zero_le _, rfl, HR, HM0, HB⟩
      case round =>
        clear HM0 HR HB
        obtain ⟨j, L, hj, rfl, HR, HM, HB⟩ := hrel
        have j0 : (0 : Int) ≤ (j : Int) := by omega
        by_cases hjn : j < n'
        · have hjI : (j : Int) < (n' : Int) := by omega
          obtain ⟨bm, om, rfl, hcell⟩ := (hb.keep HB.out) (by rw [HN'.out]; omega)
          obtain ⟨y, hy⟩ := at_ b j (by rw [HN'.out]; exact hjn)
          have c1 := hcell j y hy
          obtain ⟨z, hz⟩ := at_ L (i + j) (by rw [HM.out.len, HN.out, HN'.out]; omega)
          have l1 : wr.cell? ⟨w.heap.size, i + j, none⟩ = some (.int .i64 z) := HR.out.intAt hz
          have hf := HR.out.frozen (i + j)
          have hg := HR.out.lt
          have hzb := HM.out.lo _ z hz
          have hxy := mul_small HXX.out (HDB.out.at_ hy)
          have HM2 := Lib.hid (HM.out.step HXX.out (HDB.out.at_ hy) hy hz)
          have w1 : IntKind.i64.wrap (x * y) = x * y := IntWalk.i64_in _ (by omega)
          obtain ⟨p, hp⟩ : ∃ p, x * y = p := ⟨_, rfl⟩
          rw [hp] at HM2 hxy w1
          have w2 : IntKind.i64.wrap (z + p) = z + p := IntWalk.i64_in _ (by omega)
          have HR2 : Hid (Row (wr.setCell ⟨w.heap.size, i + j, none⟩ (.int .i64 (z + p))) w.heap.size 3 (ics (L.set (i + j) (z + p)))) := Lib.hid (by
            rw [← ics_set]
            exact HR.out.set _ _)
          have HB2 : Hid (Below w.heap.size w (wr.setCell ⟨w.heap.size, i + j, none⟩ (.int .i64 (z + p)))) := Lib.hid (Gen.b_set HB.out (Nat.le_refl _))
          clear hcell hy hz hzb hxy
          go_wp2
          go_roundw
          case rel => exact ⟨j + 1, _, by omega, by go_num, HR2, HM2, HB2⟩
          case measure => simp [intOf]; omega
        · obtain rfl : j = n' := by omega
          have HM2 : Hid (Ml a b L (i + 1) 0 0) := Lib.hid (by
            have h := HM.out
            rw [← HN'.out] at h
            exact h.next HX.out)
          go_wp2
          go_roundw
          case rel => exact ⟨i + 1, L, by omega, by go_num, HR, HM2, HB⟩
          case measure => simp [intOf]; omega
    · obtain rfl : n = i := by omega
      have HE : Hid (val L = val a * val b) := Lib.hid (by
        have h := HM.out
        rw [← HN.out] at h
        exact h.done)
      have HL : Hid (L.length = N) := Lib.hid (by rw [HM.out.len, HN.out, HN'.out, HNN.out])
      have HLO : Hid (∀ (k : Nat) z, L[k]? = some z → 0 ≤ z ∧ z ≤ 67070209294336) := Lib.hid fun k z hz => by
        have := HM.out.lo k z hz
        omega
      have HC0 := Lib.hid (Cy.start L)
      have HR0 : Hid (Row wr w.heap.size 3 (ics ([] ++ L.drop 0))) := HR
      have hNB : N ≤ 120 := by have := HNN.out; omega
      clear HM HR
      go_wp2
      go_loopw [11, 62] (fun cv iv wr => ∃ (k : Nat) (out : List Int) (cy : Int), k ≤ N ∧ iv = .int .i64 k ∧ cv = .int .i64 cy ∧ Hid (Row wr w.heap.size 3 (ics (out ++ L.drop k))) ∧ Hid (Cy L out k cy) ∧ Hid (Below w.heap.size w wr)) (fun _ iv _ => N - (intOf iv).toNat)
      case atStart => exact ⟨0, [], 0, Nat.zero_le _, rfl, rfl, HR0, HC0, HB⟩
      case round =>
        clear HR0 HC0 HB
        obtain ⟨k, out, cy, hk, rfl, rfl, HR, HC, HB⟩ := hrel
        have k0 : (0 : Int) ≤ (k : Int) := by omega
        obtain ⟨y0, y1⟩ := HC.out.rng
        by_cases hkN : k < N
        · have hkI : (k : Int) < (N : Int) := by omega
          obtain ⟨z, hz⟩ := at_ L k (by rw [HL.out]; exact hkN)
          have l1 : wr.cell? ⟨w.heap.size, k, none⟩ = some (.int .i64 z) := HR.out.intAt (at_mid HC.out.len hz)
          have hf := HR.out.frozen k
          have hg := HR.out.lt
          have hzb := HLO.out k z hz
          have w1 : IntKind.i64.wrap (z + cy) = z + cy := IntWalk.i64_in _ (by omega)
          have hs := HC.out.step hz hzb
          have hand := and_mask (z + cy) (by omega)
          obtain ⟨d, hd⟩ : ∃ d, (z + cy) % 1048576 = d := ⟨_, rfl⟩
          obtain ⟨q, hq⟩ : ∃ q, (z + cy) / 1048576 = q := ⟨_, rfl⟩
          rw [hd, hq] at hs
          rw [hd] at hand
          have HS2 := Lib.hid hs
          have HR2 : Hid (Row (wr.setCell ⟨w.heap.size, k, none⟩ (.int .i64 d)) w.heap.size 3 (ics ((out ++ [d]) ++ L.drop (k + 1)))) := Lib.hid (by
            rw [← set_mid HC.out.len hz, ← ics_set]
            exact HR.out.set _ _)
          have HB2 : Hid (Below w.heap.size w (wr.setCell ⟨w.heap.size, k, none⟩ (.int .i64 d))) := Lib.hid (Gen.b_set HB.out (Nat.le_refl _))
          clear hz hzb hs hd
          go_wp2
          go_roundw
          case rel => exact ⟨k + 1, out ++ [d], q, by omega, by go_num, rfl, HR2, HS2, HB2⟩
          case measure => simp [intOf]; omega
        · obtain rfl : N = k := by omega
          have HE2 : Hid (val out = val a * val b) := Lib.hid (HC.out.done HL.out HE.out (by rw [HNN.out]; exact HVV.out))
          have HI : Hid (Ints wr (some ⟨w.heap.size, 0, none⟩) out) := Lib.hid (by
            have h := HR.out
            rw [List.drop_of_length_le (by rw [HL.out]; exact Nat.le_refl _), List.append_nil] at h
            exact h.ints)
          go_wp2_with (fail)
          go_must (refine (trim_any _ N N out _ HC.out.len HI.out (Nat.le_refl _) (by omega)).mono ?_)
          rintro e w2 ⟨k, hkn, rfl, hT, hV, rfl⟩
          have HT := Lib.hid hT
          have HV2 := Lib.hid hV
          clear hT hV
          go_wp2
          go_ret
          exact ⟨_, N, out.take k, by rw [List.length_take, HC.out.len, Nat.min_eq_left hkn]; rfl, ints_take HI.out k, ⟨HC.out.dg.take k, HT.out, HV2.out.trans HE2.out⟩, HB.out, fun b o s e => by cases e; exact Nat.le_refl _⟩
theorem mul_anyU {A A' : Option Addr} {n n' c c' : Nat} {a b : List Int} (w : World) (hn : a.length = n) (hn' : b.length = n') (ha : Ints w A a) (hb : Ints w A' b) (da : Dg a) (db : Dg b) (hbig : n ≤ 60) (hbig' : n' ≤ 60) :
    Calls Tryd.prog 28 #[.slice A n c, .slice A' n' c'] w fun e w' => ∃ A2 c2 l, e = .returned (.slice A2 l.length c2) ∧ Ints w' A2 l ∧ Nm l (val a * val b) ∧ Below w.heap.size w w' ∧ Abv w.heap.size A2 := by
  by_cases h0 : n = 0 ∨ n' = 0
  · refine (mul_nil w h0 hbig hbig').mono fun e w' h => ?_
    obtain ⟨rfl, rfl⟩ := h
    refine ⟨none, 0, [], rfl, fun h => by simp at h, ?_, Below.refl _ _, fun b o s e => by cases e⟩
    have : val a * val b = 0 := by
      rcases h0 with h0 | h0
      · rw [List.eq_nil_of_length_eq_zero (hn.trans h0), val_nil]; simp
      · rw [List.eq_nil_of_length_eq_zero (hn'.trans h0), val_nil]; simp
    rw [this]
    exact Nm.zero
  · exact mul_posU w hn hn' ha hb da db hbig hbig' (by omega) (by omega)
set_option maxRecDepth 100000 in
set_option maxHeartbeats 4000000 in
theorem mul_aU {x y : Int} {va vb : Value} (w : World) (hx : IsBig w va x) (hy : IsBig w vb y) (hl : ∀ A c n A' c' n', va = bigV (sg x) A n c → vb = bigV (sg y) A' n' c' → (n : Int) + (n' : Int) - 1 ≤ 60) :
    Calls Tryd.prog 14 #[va, vb] w fun e w' => ∃ v, e = .returned (.tuple #[v, .int .i64 (fe (x * y))]) ∧ IsBig w' v (fz (x * y)) ∧ Below w.heap.size w w' ∧ Abo w.heap.size v := by
  obtain ⟨A, c, a, rfl, ha, na, h60⟩ := hx.ex
  obtain ⟨A', c', b, rfl, hb, nb, h60'⟩ := hy.ex
  obtain ⟨n, hn⟩ : ∃ n, a.length = n := ⟨_, rfl⟩
  obtain ⟨n', hn'⟩ : ∃ n, b.length = n := ⟨_, rfl⟩
  rw [hn] at hx h60 ⊢
  rw [hn'] at hy h60' ⊢
  have HX := Lib.hid hx
  have HY := Lib.hid hy
  have HAA := Lib.hid ha
  have HNA := Lib.hid na
  have HN := Lib.hid hn
  have HBB := Lib.hid hb
  have HNB := Lib.hid nb
  have HN' := Lib.hid hn'
  have HR0 := Lib.hid (box3_res (w := w) (s := sg x) (A := A) (n := n) (c := c) (s' := sg y) (A' := A') (n' := n') (c' := c'))
  have R0 := Lib.hid (Row.alloc (box2_r0 (w := w) (s := sg x) (A := A) (n := n) (c := c) (s' := sg y) (A' := A') (n' := n') (c' := c')) (.cells #[.int .i64 0, .slice none 0 0] 24))
  have R1 := Lib.hid (Row.alloc (box2_r1 (w := w) (s := sg x) (A := A) (n := n) (c := c) (s' := sg y) (A' := A') (n' := n') (c' := c')) (.cells #[.int .i64 0, .slice none 0 0] 24))
  unfold box2 at HR0 R0 R1
  have hlen := hl _ _ _ _ _ _ rfl rfl
  have HZ : Hid (∀ l, Nm l (val a * val b) → Nm l (x * y).natAbs) := Lib.hid fun l h => h.to (by rw [na.2.2, nb.2.2, abs_mul'])
  have HS : Hid (x * y ≠ 0 → sg x * sg y = sg (x * y)) := Lib.hid fun _ => (sg_mul x y).symm
  have HL : Hid (∀ l, Nm l (val a * val b) → l.length ≤ 1000) := Lib.hid fun l h => by have := mul_len na nb h (by omega) (by omega); omega
  have hww : IntKind.i64.wrap (sg x * sg y) = sg x * sg y := IntWalk.i64_in _ (by rw [← sg_mul]; have := sg_in (x * y); omega)
  have e1 : IntKind.i64.wrap ((n : Int) + (n' : Int)) = (n : Int) + (n' : Int) := IntWalk.i64_in _ (by omega)
  have e2 : IntKind.i64.wrap ((n : Int) + (n' : Int) - 1) = (n : Int) + (n' : Int) - 1 := IntWalk.i64_in _ (by omega)
  have e4 : ¬ ((60 : Int) < (n : Int) + (n' : Int) - 1) := by omega
  obtain ⟨s, hsx⟩ : ∃ s, sg x = s := ⟨_, rfl⟩
  obtain ⟨s', hsy⟩ : ∃ s, sg y = s := ⟨_, rfl⟩
  rw [hsx] at HR0 R0 R1 HX HS hww
  rw [hsy] at HR0 R0 R1 HY HS hww
  try rw [hsx, hsy] at hlen
  rw [hsx, hsy]
  obtain ⟨p, hp⟩ : ∃ p, s * s' = p := ⟨_, rfl⟩
  rw [hp] at HS hww
  try rw [hp] at hlen
  have HP := Lib.hid hp
  clear hx hy ha hb na nb hn hn' hl hsx hsy hlen
  go_enter Tryd.func14, Tryd.ntmps14
  go_wp2_with (fail)
  go_must (refine (right_val (HX.out.keep HR0.out.bl)).mono ?_)
  rintro e w2 ⟨rfl, hb2⟩
  have HR2 := Lib.hid (HR0.out.keep hb2)
  have r0 := R0.out.keep hb2
  have r1 := R1.out.keep hb2
  have c0 := r0.cell 0
  have c1 := r0.cell 1
  have c2 := r1.cell 0
  have c3 := r1.cell 1
  clear hb2 HR0 R0 R1
  go_wp2_with (fail)
  go_must (refine (right_val (HY.out.keep HR2.out.bl)).mono ?_)
  rintro e w3 ⟨rfl, hb3⟩
  have HR3 := Lib.hid (HR2.out.keep hb3)
  replace r0 := r0.keep hb3
  replace r1 := r1.keep hb3
  clear hb3 HR2 c0 c1 c2 c3
  have c0 := r0.cell 0
  have c1 := r0.cell 1
  have c2 := r1.cell 0
  have c3 := r1.cell 1
  have C0 := Lib.hid c0
  have C1 := Lib.hid c1
  have C2 := Lib.hid c2
  have C3 := Lib.hid c3
  go_wp2_with (fail)
  go_region_held3 (fun W' : World => Below w.heap.size w W' ∧ W'.cell? ⟨w.heap.size, 0, none⟩ = some (.int .i64 s) ∧ W'.cell? ⟨w.heap.size, 1, none⟩ = some (.slice A n c) ∧ W'.cell? ⟨w.heap.size + 1, 0, none⟩ = some (.int .i64 s') ∧ W'.cell? ⟨w.heap.size + 1, 1, none⟩ = some (.slice A' n' c'))
    (first | exact ⟨HR3.out.bl.drew, C0.out, C1.out, C2.out, C3.out⟩ | exact ⟨Gen.over (by assumption) (And.left (by assumption)), Gen.keep (by assumption) (And.left (And.right (by assumption))), Gen.keep (by assumption) (And.left (And.right (And.right (by assumption)))), Gen.keep (by assumption) (And.left (And.right (And.right (And.right (by assumption))))), Gen.keep (by assumption) (And.right (And.right (And.right (And.right (by assumption)))))⟩ | exact ⟨Res.put (by assumption) _ _, put_cell (by assumption) _ _ (by omega) (And.left (And.right (by assumption))), put_cell (by assumption) _ _ (by omega) (And.left (And.right (And.right (by assumption)))), put_cell (by assumption) _ _ (by omega) (And.left (And.right (And.right (And.right (by assumption))))), put_cell (by assumption) _ _ (by omega) (And.right (And.right (And.right (And.right (by assumption)))))⟩)
    (first
      | (go_at_call 28; refine (mul_anyU _ HN.out HN'.out (HAA.out.keep (And.left (by assumption))) (HBB.out.keep (And.left (by assumption))) HNA.out.1 HNB.out.1 h60 h60').mono ?_; rintro e' w' ⟨A2, c2', l2, rfl, hI2, hN2, hb2, hA2⟩; have hAb := hA2.le (Below.size (And.left (by assumption))); have hR2 := (HR3.out.keep (Below.refl _ _).drew).keep hb2)
      | (go_at_call 27; refine (fit_anyU _ rfl hI2 (HZ.out _ hN2) (HL.out _ hN2) HS.out).mono ?_; rintro e' w' ⟨v, rfl, hv, hb3, hF3⟩; have hAo := hF3.abo hAb; obtain ⟨A3, c3, l3, rfl, _⟩ := hv.ex; have hR3 := hR2.keep hb3; have d0 := hR3.c0; have d1 := hR3.c1; have f0 := hR3.row.frozen 0; have f1 := hR3.row.frozen 1; have hg := hR3.row.lt))
  all_goals
    go_wp2
    refine bodyPost_ret (v := .tuple #[bigV (sg (fz (x * y))) A3 l3.length c3, .int .i64 (fe (x * y))]) ?_ rfl ⟨_, rfl, hR3.big hv _ _, hR3.put _ _, hAo⟩
    simp [results, Tryd.results14, go_sem, *]
theorem mul_fitU {x y : Int} {va vb : Value} {j k : Nat} (w : World) (hx : IsBig w va x) (hy : IsBig w vb y) (sx : Sz j x) (sy : Sz k y) (hjk : j + k ≤ 60) :
    Calls Tryd.prog 14 #[va, vb] w fun e w' => ∃ v, e = .returned (.tuple #[v, .int .i64 0]) ∧ IsBig w' v (x * y) ∧ Below w.heap.size w w' ∧ Abo w.heap.size v := by
  have hf : Fit (x * y) := (sx.mul sy).fit hjk
  refine (mul_aU w hx hy fun A1 c1 n1 A2 c2 n2 e1 e2 => ?_).mono fun e w' ⟨v, h1, h2, h3⟩ => ⟨v, by rw [h1, fe_yes hf], by rw [fz_yes hf] at h2; exact h2, h3⟩
  subst e1 e2
  have := hx.few sx
  have := hy.few sy
  omega
theorem add_to {x y z : Int} {va vb : Value} (w : World) (hx : IsBig w va x) (hy : IsBig w vb y) (hz : x + y = z) (hf : Fit z) :
    Calls Tryd.prog 12 #[va, vb] w fun e w' => ∃ v, e = .returned (.tuple #[v, .int .i64 0]) ∧ IsBig w' v z ∧ Below w.heap.size w w' := by
  subst hz
  exact add_fit w hx hy hf
theorem sub_to {x y z : Int} {va vb : Value} (w : World) (hx : IsBig w va x) (hy : IsBig w vb y) (hz : x - y = z) (hf : Fit z) :
    Calls Tryd.prog 15 #[va, vb] w fun e w' => ∃ v, e = .returned (.tuple #[v, .int .i64 0]) ∧ IsBig w' v z ∧ Below w.heap.size w w' := by
  subst hz
  exact sub_fit w hx hy hf
theorem mul_to {x y z : Int} {va vb : Value} (w : World) (hx : IsBig w va x) (hy : IsBig w vb y) (hz : x * y = z) (hf : Fit z) :
    Calls Tryd.prog 14 #[va, vb] w fun e w' => ∃ v, e = .returned (.tuple #[v, .int .i64 0]) ∧ IsBig w' v z ∧ Below w.heap.size w w' := by
  subst hz
  exact mul_fit w hx hy hf
/-- digits elsewhere than in block g -/
def Off (g : Nat) (v : Value) : Prop := ∀ s b o sp n c, 0 < n → v = bigV s (some ⟨b, o, sp⟩) n c → b ≠ g
theorem Abo.off {N g : Nat} {v : Value} (h : Abo N v) (hg : g < N) : Off g v := fun s b o sp n c _ e => by
  have := h _ _ _ _ e b o sp rfl
  omega
theorem IsBig.offNew {W : World} {v : Value} {z : Int} {g : Nat} (h : IsBig W v z) (hg : W.heap.size ≤ g) : Off g v := fun s b o sp n c hn e => by
  obtain ⟨A, c', l, e1, h1, _⟩ := h.ex
  rw [e1] at e
  simp only [bigV, Value.agg.injEq, Array.mk.injEq, List.cons.injEq, Value.slice.injEq] at e
  obtain ⟨_, ⟨rfl, rfl, _⟩, _⟩ := e
  obtain ⟨b', off, e2, hc⟩ := h1 hn
  cases e2
  obtain ⟨x, hx⟩ := at_ l 0 hn
  have hlt : b < W.heap.size := World.block_lt_of_cell? W ⟨b, o + 0, none⟩ (hc 0 x hx)
  omega
theorem IsBig.set2 {W : World} {v : Value} {z : Int} {g : Nat} (h : IsBig W v z) (ho : Off g v) (u u' : Value) : IsBig ((W.setCell ⟨g, 0, none⟩ u).setCell ⟨g, 1, none⟩ u') v z := by
  obtain ⟨A, c, l, e, h1, h2⟩ := h.ex
  refine ⟨A, c, l, e, fun hp => ?_, h2⟩
  obtain ⟨b, off, e2, hc⟩ := h1 hp
  subst e2
  have hb := ho _ _ _ _ _ _ hp e
  exact ⟨b, off, rfl, fun j x hx => (set2_keep W g u u' b _ hb).trans (hc j x hx)⟩
theorem Vs.ad {W : World} {L : List (Nat × Value × Int)} {s z : Int} {A : Option Addr} {n c : Nat} (h : Vs W L) (hv : IsBig W (bigV s A n c) z) : Vs (W.alloc (.cells #[.int .i64 s, .slice A n c] 24)) ((W.heap.size, bigV s A n c, z) :: L) := h.add hv
theorem below_ad {w W : World} {s z : Int} {A : Option Addr} {n c : Nat} (hb : Below w.heap.size w W) (hv : IsBig W (bigV s A n c) z) : Below w.heap.size w (W.alloc (.cells #[.int .i64 s, .slice A n c] 24)) := Gen.b_alloc hb
theorem keep_ad {W : World} {u : Value} {y s z : Int} {A : Option Addr} {n c : Nat} (hu : IsBig W u y) (hv : IsBig W (bigV s A n c) z) : IsBig (W.alloc (.cells #[.int .i64 s, .slice A n c] 24)) u y := hu.keep (Gen.b_alloc (Below.refl _ _))
/-- what stays when block g is written: other variables, whose digits lie elsewhere -/
def Sep (g : Nat) (L : List (Nat × Value × Int)) : Prop := ∀ p ∈ L, p.1 ≠ g ∧ Off g p.2.1
theorem Sep.of {W : World} {L : List (Nat × Value × Int)} (h : Vs W L) : Sep W.heap.size L := fun p hp => ⟨by have := (h p hp).1.lt; omega, (h p hp).2.offNew (Nat.le_refl _)⟩
theorem Sep.add {g N M : Nat} {L : List (Nat × Value × Int)} {v : Value} {z : Int} (h : Sep g L) (ha : Abo N v) (hg : g < N) (hm : g < M) : Sep g ((M, v, z) :: L) := fun p hp => by
  rcases List.mem_cons.1 hp with rfl | hp
  · exact ⟨by show M ≠ g; omega, ha.off hg⟩
  · exact h p hp
theorem rset2 {W : World} {g : Nat} {t : TypeId} {a b : Value} (h : Row W g t #[a, b]) (u u' : Value) : Row ((W.setCell ⟨g, 0, none⟩ u).setCell ⟨g, 1, none⟩ u') g t #[u, u'] := by
  have h1 := (h.set 0 u).set 1 u'
  simpa using h1
theorem roff2 {W : World} {g k : Nat} {t : TypeId} {cs : Array Value} (h : Row W k t cs) (hk : k ≠ g) (u u' : Value) : Row ((W.setCell ⟨g, 0, none⟩ u).setCell ⟨g, 1, none⟩ u') k t cs := by
  unfold Row at *
  rw [Below.heap_setCell _ _ _ _ hk, Below.heap_setCell _ _ _ _ hk]
  exact h
theorem Vs.put {W : World} {L L' : List (Nat × Value × Int)} {g : Nat} {a0 b0 : Value} {s z : Int} {A : Option Addr} {n c : Nat} (h : Vs W L) (hg : Row W g 24 #[a0, b0]) (hv : IsBig W (bigV s A n c) z) (ho : Off g (bigV s A n c)) (hs : Sep g L') (hL : L'.Sublist L) :
    Vs ((W.setCell ⟨g, 0, none⟩ (.int .i64 s)).setCell ⟨g, 1, none⟩ (.slice A n c)) ((g, bigV s A n c, z) :: L') := fun p hp => by
  rcases List.mem_cons.1 hp with rfl | hp
  · exact ⟨rset2 hg _ _, hv.set2 ho _ _⟩
  · have h1 := h p (hL.subset hp)
    have h2 := hs p hp
    exact ⟨roff2 h1.1 h2.1 _ _, h1.2.set2 h2.2 _ _⟩
theorem Vs.row {W : World} {L : List (Nat × Value × Int)} {g : Nat} {s z : Int} {A : Option Addr} {n c : Nat} (h : Vs W L) (hm : (g, bigV s A n c, z) ∈ L) : Row W g 24 #[.int .i64 s, .slice A n c] := (h _ hm).1
theorem Vs.cons {W : World} {L : List (Nat × Value × Int)} {g : Nat} {s z : Int} {A : Option Addr} {n c : Nat} (h : Vs W L) (hr : Row W g 24 #[.int .i64 s, .slice A n c]) (hv : IsBig W (bigV s A n c) z) : Vs W ((g, bigV s A n c, z) :: L) := fun p hp => by
  rcases List.mem_cons.1 hp with rfl | hp
  · exact ⟨hr, hv⟩
  · exact h p hp
/-- the same in a world in which the block is -/
structure Sp (g : Nat) (W : World) (L : List (Nat × Value × Int)) : Prop where
  lt : g < W.heap.size
  sep : Sep g L
theorem Sp.of {W : World} {L : List (Nat × Value × Int)} (h : Vs W L) (x : Obj) : Sp W.heap.size (W.alloc x) L := ⟨by rw [World.size_alloc]; omega, Sep.of h⟩
theorem Sp.keep {g : Nat} {W W' : World} {L : List (Nat × Value × Int)} (h : Sp g W L) (hb : Below W.heap.size W W') : Sp g W' L := ⟨Nat.lt_of_lt_of_le h.lt hb.size, h.sep⟩
theorem Sp.add {g : Nat} {W : World} {L : List (Nat × Value × Int)} {v : Value} {z : Int} (h : Sp g W L) (ho : Off g v) (x : Obj) : Sp g (W.alloc x) ((W.heap.size, v, z) :: L) := ⟨by have := h.lt; rw [World.size_alloc]; omega, fun p hp => by
  rcases List.mem_cons.1 hp with rfl | hp
  · exact ⟨by have := h.lt; show W.heap.size ≠ g; omega, ho⟩
  · exact h.sep p hp⟩
theorem Sp.ins {g k : Nat} {W : World} {L : List (Nat × Value × Int)} {v : Value} {z : Int} (h : Sp g W L) (hk : k ≠ g) (ho : Off g v) : Sp g W ((k, v, z) :: L) := ⟨h.lt, fun p hp => by
  rcases List.mem_cons.1 hp with rfl | hp
  · exact ⟨hk, ho⟩
  · exact h.sep p hp⟩
theorem Sp.alloc {g : Nat} {W : World} {L : List (Nat × Value × Int)} (h : Sp g W L) (x : Obj) : Sp g (W.alloc x) L := ⟨by have := h.lt; rw [World.size_alloc]; omega, h.sep⟩
theorem Sp.sub {g : Nat} {W : World} {L L' : List (Nat × Value × Int)} (h : Sp g W L) (hL : L'.Sublist L) : Sp g W L' := ⟨h.lt, fun p hp => h.sep p (hL.subset hp)⟩
theorem Sp.set2 {g : Nat} {W : World} {L : List (Nat × Value × Int)} (h : Sp g W L) (k : Nat) (u u' : Value) : Sp g ((W.setCell ⟨k, 0, none⟩ u).setCell ⟨k, 1, none⟩ u') L := ⟨by simpa using h.lt, h.sep⟩
theorem below_set2 {w W : World} {g : Nat} (hb : Below w.heap.size w W) (hg : w.heap.size ≤ g) (u u' : Value) : Below w.heap.size w ((W.setCell ⟨g, 0, none⟩ u).setCell ⟨g, 1, none⟩ u') := Gen.b_set (Gen.b_set hb hg) hg
/-- a region that makes a new variable, in any order: what holds in it -/
theorem reg_put {W X : World} {g p : Nat} {u v a b : Value} (h : Below W.heap.size W X ∧ X.cell? ⟨p, 0, none⟩ = some a ∧ X.cell? ⟨p, 1, none⟩ = some b) (hp : p < W.heap.size) (hg : W.heap.size ≤ g) :
    Below W.heap.size W ((X.setCell ⟨g, 0, none⟩ u).setCell ⟨g, 1, none⟩ v) ∧ ((X.setCell ⟨g, 0, none⟩ u).setCell ⟨g, 1, none⟩ v).cell? ⟨p, 0, none⟩ = some a ∧ ((X.setCell ⟨g, 0, none⟩ u).setCell ⟨g, 1, none⟩ v).cell? ⟨p, 1, none⟩ = some b :=
  ⟨below_set2 h.1 hg _ _, (set2_keep X g u v p 0 (by omega)).trans h.2.1, (set2_keep X g u v p 1 (by omega)).trans h.2.2⟩
theorem IsBig.offRow {W : World} {v : Value} {z : Int} {g : Nat} (h : IsBig W v z) (r : Row W g 24 #[.int .i64 0, .slice none 0 0]) : Off g v := fun s b o sp n c hn e => by
  rintro rfl
  obtain ⟨A, c', l, e1, h1, h2, _⟩ := h.ex
  rw [e1] at e
  simp only [bigV, Value.agg.injEq, Array.mk.injEq, List.cons.injEq, Value.slice.injEq] at e
  obtain ⟨_, ⟨rfl, rfl, _⟩, _⟩ := e
  obtain ⟨b', off, e2, hc⟩ := h1 hn
  cases e2
  obtain ⟨x, hx⟩ := at_ l (l.length - 1) (by omega)
  have h3 := hc _ x hx
  rw [r.cell] at h3
  have h4 := zero2 _ x h3
  have h5 := h2.2.1
  unfold Tr at h5
  rw [List.getLast?_eq_getElem?, hx, h4] at h5
  exact h5 rfl
theorem Sep.ge {W : World} {L : List (Nat × Value × Int)} {g : Nat} (h : Vs W L) (hg : W.heap.size ≤ g) : Sep g L := fun p hp => ⟨by have := (h p hp).1.lt; omega, (h p hp).2.offNew hg⟩
/-- the new variable of such a region -/
theorem Vs.reg {W X : World} {L : List (Nat × Value × Int)} {g : Nat} {s z : Int} {A : Option Addr} {n c : Nat} (h : Vs W L) (hb : Below W.heap.size W X) (hg : W.heap.size ≤ g) (hr : Row X g 24 #[.int .i64 0, .slice none 0 0]) (hv : IsBig X (bigV s A n c) z) :
    Vs ((X.setCell ⟨g, 0, none⟩ (.int .i64 s)).setCell ⟨g, 1, none⟩ (.slice A n c)) ((g, bigV s A n c, z) :: L) :=
  (h.keep hb).put hr hv (hv.offRow hr) (Sep.ge h hg) (List.Sublist.refl _)
theorem rowd (w : World) (t : TypeId) (cs : Array Value) : Row (w.alloc (.cells cs t)).drew w.heap.size t cs := Row.new w t cs
/-- values put into a frame -/
def upd (a : Act) (l : List (Nat × Value)) : Act := { a with tmps := l.foldl (fun t p => t.setIfInBounds p.1 p.2) a.tmps }
/-- the ways of a region, joined -/
theorem wp_join {P : Program} {C : Code} {K : Act → World → Prop} {Q : Exit → Act → World → Prop} {a : Act} {w : World} (R : Act → Act → World → Prop) (h1 : Code.wp P C (Exit.then (R a) Q) a w) (h2 : ∀ a' Y, R a a' Y → K a' Y) : Code.wp P C (Exit.then K Q) a w :=
  Code.wp_mono (fun e a' w' q => by cases e <;> first | exact h2 _ _ q | exact q) h1
/-- what holds behind a region that makes a variable of a call's result, with a constant -/
def RJ (w : World) (z k : Int) (L : List (Nat × Value × Int)) (va : Value) (tl tk tt tm t0 t1 tg te : Nat) (a a' : Act) (Y : World) : Prop :=
  ∃ g Ao no co A n c, a' = upd a [(tl, va), (tk, bigV (sg k) Ao no co), (tt, .tuple #[bigV (sg z) A n c, .int .i64 0]), (tm, .tuple #[bigV (sg z) A n c, .int .i64 0]), (t0, bigV (sg z) A n c), (t1, .int .i64 0), (tg, .pointer (some ⟨g, 0, none⟩)), (te, .int .i64 0)] ∧
    Hid (Vs Y ((g, bigV (sg z) A n c, z) :: L)) ∧ Hid (Below w.heap.size w Y)
theorem RJ.mk' {w : World} {z k : Int} {L : List (Nat × Value × Int)} {va : Value} {tl tk tt tm t0 t1 tg te : Nat} {a a' : Act} {Y : World} (g : Nat) (Ao : Option Addr) (no co : Nat) (A : Option Addr) (n c : Nat)
    (ha : a' = upd a [(tl, va), (tk, bigV (sg k) Ao no co), (tt, .tuple #[bigV (sg z) A n c, .int .i64 0]), (tm, .tuple #[bigV (sg z) A n c, .int .i64 0]), (t0, bigV (sg z) A n c), (t1, .int .i64 0), (tg, .pointer (some ⟨g, 0, none⟩)), (te, .int .i64 0)])
    (hV : Vs Y ((g, bigV (sg z) A n c, z) :: L)) (hB : Below w.heap.size w Y) : RJ w z k L va tl tk tt tm t0 t1 tg te a a' Y := ⟨g, Ao, no, co, A, n, c, ha, Lib.hid hV, Lib.hid hB⟩
/-- three parameters in their cells -/
abbrev bx3 (w : World) (p q r : Array Value) : World := ((w.alloc (.cells p 24)).alloc (.cells q 24)).alloc (.cells r 24)
theorem bx3_0 (w : World) (p q r : Array Value) : Row (bx3 w p q r) w.heap.size 24 p := ((Row.new w _ _).alloc _).alloc _
theorem bx3_1 (w : World) (p q r : Array Value) : Row (bx3 w p q r) (w.heap.size + 1) 24 q := by
  have h := (Row.new (w.alloc (.cells p 24)) 24 q).alloc (.cells r 24)
  rwa [World.size_alloc] at h
theorem bx3_2 (w : World) (p q r : Array Value) : Row (bx3 w p q r) (w.heap.size + 1 + 1) 24 r := by
  have h := Row.new ((w.alloc (.cells p 24)).alloc (.cells q 24)) 24 r
  rwa [World.size_alloc, World.size_alloc] at h
theorem bx3_b (w : World) (p q r : Array Value) : Below w.heap.size w (bx3 w p q r) := Gen.b_alloc (Gen.b_alloc (Gen.b_alloc (Below.refl _ _)))
theorem Vs.frz {W : World} {L : List (Nat × Value × Int)} {g : Nat} {v : Value} {z : Int} (h : Vs W L) (hm : (g, v, z) ∈ L) (j : Nat) : W.frozen? ⟨g, j, none⟩ = false := (h _ hm).1.frozen j
end Go.Proofs.YtnifkianjpjahaaDoor.Bg
