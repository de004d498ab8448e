/- Big integers: products of digits. -/
import Derived.Test.YtnifkianjpjahaaDoorBgD
namespace Go.Proofs.YtnifkianjpjahaaDoor.Bg
open Go.ChangeShapes Go.WideShapes Go.ChangeAt Go.RowKit Go.Proofs.YtnifkianjpjahaaDoor.Cell
set_option linter.unusedVariables false
set_option linter.unusedSimpArgs false

/-- a product, as far as it is added up -/
structure Ml (a b L : List Int) (i : Nat) (x : Int) (j : Nat) : Prop where
  len : L.length = a.length + b.length
  eq : val L = val (a.take i) * val b + pw i * (x * val (b.take j))
  lo : ∀ (k : Nat) z, L[k]? = some z → 0 ≤ z ∧ z ≤ ((i : Int) + 1) * 1099511627776 ∧ (i + j ≤ k → z ≤ (i : Int) * 1099511627776)
theorem val_zeros (n : Nat) : val (List.replicate n 0) = 0 := by
  induction n with
  | zero => rfl
  | succ n ih => rw [List.replicate_succ, val_cons, ih]; omega
theorem Ml.start (a b : List Int) (x : Int) : Ml a b (List.replicate (a.length + b.length) 0) 0 x 0 :=
  ⟨List.length_replicate, by rw [val_zeros, List.take_zero, List.take_zero, val_nil]; simp, fun k z hz => by
    have := List.eq_of_mem_replicate (mem_of_at hz)
    omega⟩
theorem Ml.other {a b L : List Int} {i : Nat} {x y : Int} (h : Ml a b L i x 0) : Ml a b L i y 0 :=
  ⟨h.len, by rw [h.eq, List.take_zero, val_nil]; simp, h.lo⟩
theorem Ml.next {a b L : List Int} {i : Nat} {x y : Int} (h : Ml a b L i x b.length) (hx : a[i]? = some x) : Ml a b L (i + 1) y 0 := by
  refine ⟨h.len, ?_, fun k z hz => ?_⟩
  · rw [h.eq, val_take_succ hx, List.take_length, List.take_zero, val_nil]
    grind
  · have := h.lo k z hz
    omega
theorem mul_small {x y : Int} (hx : 0 ≤ x ∧ x < 1048576) (hy : 0 ≤ y ∧ y < 1048576) : 0 ≤ x * y ∧ x * y ≤ 1099511627776 := by
  refine ⟨Int.mul_nonneg hx.1 hy.1, ?_⟩
  have h1 : x * y ≤ 1048576 * y := Int.mul_le_mul_of_nonneg_right (by omega) hy.1
  omega
theorem Ml.step {a b L : List Int} {i j : Nat} {x y z : Int} (h : Ml a b L i x j) (hx : 0 ≤ x ∧ x < 1048576) (hy : 0 ≤ y ∧ y < 1048576) (hb : b[j]? = some y) (hz : L[i + j]? = some z) : Ml a b (L.set (i + j) (z + x * y)) i x (j + 1) := by
  have hxy := mul_small hx hy
  refine ⟨by rw [List.length_set]; exact h.len, ?_, fun k u hu => ?_⟩
  · rw [val_set hz, h.eq, val_take_succ hb, pw_add]
    grind
  · by_cases e : i + j = k
    · subst e
      rw [List.getElem?_set_self (lt_of_at hz)] at hu
      have := h.lo _ z hz
      have hu : z + x * y = u := by injection hu
      omega
    · rw [List.getElem?_set_ne e] at hu
      have := h.lo _ u hu
      omega
theorem Ml.done {a b L : List Int} {x : Int} (h : Ml a b L a.length x 0) : val L = val a * val b := by
  rw [h.eq, List.take_length, List.take_zero, val_nil]
  simp
/-- carries, digit by digit -/
structure Cy (L out : List Int) (k : Nat) (cy : Int) : Prop where
  dg : Dg out
  len : out.length = k
  rng : 0 ≤ cy ∧ cy ≤ 134217728
  eq : val out + pw k * (cy + val (L.drop k)) = val L
theorem Cy.start (L : List Int) : Cy L [] 0 0 := ⟨Dg.nil, rfl, by omega, by rw [List.drop_zero, val_nil, pw_zero]; omega⟩
theorem Cy.step {L out : List Int} {k : Nat} {cy z : Int} (h : Cy L out k cy) (hz : L[k]? = some z) (hb : 0 ≤ z ∧ z ≤ 67070209294336) : Cy L (out ++ [(z + cy) % 1048576]) (k + 1) ((z + cy) / 1048576) := by
  have h3 := h.rng
  refine ⟨h.dg.snoc (by omega), by rw [List.length_append, h.len]; rfl, by omega, ?_⟩
  have e := h.eq
  rw [drop_at hz, val_cons] at e
  rw [val_snoc, h.len, pw_succ]
  have h4 : 1048576 * ((z + cy) / 1048576) + (z + cy) % 1048576 = z + cy := by omega
  obtain ⟨q, hq⟩ : ∃ q, (z + cy) / 1048576 = q := ⟨_, rfl⟩
  obtain ⟨r, hr⟩ : ∃ r, (z + cy) % 1048576 = r := ⟨_, rfl⟩
  rw [hq, hr] at h4
  rw [hq, hr, ← e]
  have h5 : cy = 1048576 * q + r - z := by omega
  rw [h5]
  grind
theorem set_mid {out L : List Int} {k : Nat} {d z : Int} (h : out.length = k) (hz : L[k]? = some z) : (out ++ L.drop k).set k d = (out ++ [d]) ++ L.drop (k + 1) := by
  rw [List.set_append_right _ _ (by omega), h, Nat.sub_self, drop_at hz, List.set_cons_zero, List.append_assoc]
  rfl
theorem at_mid {out L : List Int} {k : Nat} {z : Int} (h : out.length = k) (hz : L[k]? = some z) : (out ++ L.drop k)[k]? = some z := by
  rw [List.getElem?_append_right (by omega), h, Nat.sub_self, drop_at hz]
  rfl
theorem Cy.done {L out : List Int} {cy v : Int} {n : Nat} (h : Cy L out n cy) (hn : L.length = n) (hv : val L = v) (h1 : v < pw n) : val out = v := by
  have e := h.eq
  have h3 := h.rng
  rw [List.drop_of_length_le (by omega), val_nil, hv] at e
  have h2 := val_nonneg h.dg
  by_cases hc : cy = 0
  · subst hc
    omega
  · have h4 : pw n * 1 ≤ pw n * (cy + 0) := Int.mul_le_mul_of_nonneg_left (by omega) (by have := pw_pos n; omega)
    omega
set_option maxRecDepth 100000 in
set_option maxHeartbeats 8000000 in
theorem mul_pos {A A' : Option Addr} {n n' c c' : Nat} {a b : List Int} (w : World) (hn : a.length = n) (hn' : b.length = n') (ha : Ints w A a) (hb : Ints w A' b) (da : Dg a) (db : Dg b) (hbig : n ≤ 60) (hbig' : n' ≤ 60) (h0 : 0 < n) (h0' : 0 < n') :
    Calls Tryd.prog 28 #[.slice A n c, .slice A' n' c'] w fun e w' => ∃ A2 c2 l, e = .returned (.slice A2 l.length c2) ∧ Ints w' A2 l ∧ Nm l (val a * val b) ∧ Below w.heap.size w w' := by
  have HN := Lib.hid hn
  have HN' := Lib.hid hn'
  have HDA := Lib.hid da
  have HDB := Lib.hid db
  have HVV : Hid (val a * val b < pw (n + n')) := Lib.hid (by
    rw [pw_add]
    have h1 := val_lt da
    have h2 := val_lt db
    rw [hn] at h1
    rw [hn'] at h2
    have h3 : val a * val b ≤ pw n * val b := Int.mul_le_mul_of_nonneg_right (by omega) (val_nonneg db)
    have h4 : pw n * val b < pw n * pw n' := Int.mul_lt_mul_of_pos_left h2 (by have := pw_pos n; omega)
    omega)
  obtain ⟨iI, hiI, hzI, hyI, hxI⟩ := info_parts infoI
  obtain ⟨N, hN⟩ : ∃ N, N = n + n' := ⟨_, rfl⟩
  have hNI : (n : Int) + (n' : Int) = (N : Int) := by omega
  have hmk : ∀ W : World, (Instr.makeSlice 22 (.int .i64 N) (.int .i64 N)).run Tryd.prog W = .ok (.slice (some ⟨W.heap.size, 0, none⟩) N N) (W.alloc (.cells (ics (List.replicate N 0)) 3)) := fun W => by
    have hr := run_make (P := Tryd.prog) W 22 3 iI (.int .i64 0) Tryd.underlying22 hiI hzI .i64 .i64 N N (by omega) (Int.le_refl _) (by rw [hxI]; omega) (by omega)
    rw [hyI, Int.toNat_natCast, made_ints] at hr
    exact hr
  have hwN : IntKind.i64.wrap (N : Int) = N := IntWalk.i64_in _ (by omega)
  have hz1 : ((n : Int) == 0) = false := by simp; omega
  have hz2 : ((n' : Int) == 0) = false := by simp; omega
  have HR0 : Hid (Ml a b (List.replicate N 0) 0 0 0) := Lib.hid (by rw [hN, ← hn, ← hn']; exact Ml.start a b 0)
  have HNN := Lib.hid hN
  clear hn hn' da db hiI hzI hyI hxI hN
  go_enter Tryd.func28, Tryd.ntmps28
  go_wp2
  clear hmk hz1 hz2
  go_loopw [30] (fun iv wr => ∃ (i : Nat) (L : List Int), i ≤ n ∧ iv = .int .i64 i ∧ Hid (Row wr w.heap.size 3 (ics L)) ∧ Hid (Ml a b L i 0 0) ∧ Hid (Below w.heap.size w wr)) (fun iv _ => n - (intOf iv).toNat)
  case atStart => exact ⟨0, _, Nat.zero_le _, rfl, Lib.hid (Row.new _ _ _), HR0, Lib.hid (Gen.b_alloc (Below.refl _ _))⟩
  case round =>
    clear HR0
    obtain ⟨i, L, hi, rfl, HR, HM, HB⟩ := hrel
    have i0 : (0 : Int) ≤ (i : Int) := by omega
    by_cases hlt : i < n
    · have hltI : (i : Int) < (n : Int) := by omega
      obtain ⟨bl, ol, rfl, hcell⟩ := (ha.keep HB.out) (by rw [HN.out]; omega)
      obtain ⟨x, hx⟩ := at_ a i (by rw [HN.out]; exact hlt)
      have c0 := hcell i x hx
      have HX := Lib.hid hx
      have HXX := Lib.hid (HDA.out.at_ hx)
      have hNi : (N = i) = False := by simp; have := HNN.out; omega
      have hs1 : IntKind.i64.wrap ((i : Int) + (n' : Int)) = (i : Int) + (n' : Int) := IntWalk.i64_in _ (by omega)
      have hs2 : (i : Int) ≤ (i : Int) + (n' : Int) := by omega
      have hs3 : (i : Int) + (n' : Int) ≤ (N : Int) := by have := HNN.out; omega
      have hs4 : ((i : Int) + (n' : Int)).toNat = i + n' := by omega
      have hs5 : (i : Int) + (n' : Int) - (i : Int) = (n' : Int) := by omega
      have HM0 : Hid (Ml a b L i x 0) := Lib.hid HM.out.other
      clear hcell hx HM
      obtain ⟨wo, rfl⟩ : ∃ wo : World, wo = wr := ⟨_, rfl⟩
      go_wp2
      go_loopw [44] (fun jv wr => ∃ (j : Nat) (L : List Int), j ≤ n' ∧ jv = .int .i64 j ∧ Hid (Row wr w.heap.size 3 (ics L)) ∧ Hid (Ml a b L i x j) ∧ Hid (Below w.heap.size w wr)) (fun jv _ => n' - (intOf jv).toNat)
      case atStart => exact ⟨0, L, Nat.zero_le _, rfl, HR, HM0, HB⟩
      case round =>
        clear HM0 HR HB
        obtain ⟨j, L, hj, rfl, HR, HM, HB⟩ := hrel
        have j0 : (0 : Int) ≤ (j : Int) := by omega
        by_cases hjn : j < n'
        · have hjI : (j : Int) < (n' : Int) := by omega
          obtain ⟨bm, om, rfl, hcell⟩ := (hb.keep HB.out) (by rw [HN'.out]; omega)
          obtain ⟨y, hy⟩ := at_ b j (by rw [HN'.out]; exact hjn)
          have c1 := hcell j y hy
          obtain ⟨z, hz⟩ := at_ L (i + j) (by rw [HM.out.len, HN.out, HN'.out]; omega)
          have l1 : wr.cell? ⟨w.heap.size, i + j, none⟩ = some (.int .i64 z) := HR.out.intAt hz
          have hf := HR.out.frozen (i + j)
          have hg := HR.out.lt
          have hzb := HM.out.lo _ z hz
          have hxy := mul_small HXX.out (HDB.out.at_ hy)
          have HM2 := Lib.hid (HM.out.step HXX.out (HDB.out.at_ hy) hy hz)
          have w1 : IntKind.i64.wrap (x * y) = x * y := IntWalk.i64_in _ (by omega)
          obtain ⟨p, hp⟩ : ∃ p, x * y = p := ⟨_, rfl⟩
          rw [hp] at HM2 hxy w1
          have w2 : IntKind.i64.wrap (z + p) = z + p := IntWalk.i64_in _ (by omega)
          have HR2 : Hid (Row (wr.setCell ⟨w.heap.size, i + j, none⟩ (.int .i64 (z + p))) w.heap.size 3 (ics (L.set (i + j) (z + p)))) := Lib.hid (by
            rw [← ics_set]
            exact HR.out.set _ _)
          have HB2 : Hid (Below w.heap.size w (wr.setCell ⟨w.heap.size, i + j, none⟩ (.int .i64 (z + p)))) := Lib.hid (Gen.b_set HB.out (Nat.le_refl _))
          clear hcell hy hz hzb hxy
          go_wp2
          go_roundw
          case rel => exact ⟨j + 1, _, by omega, by go_num, HR2, HM2, HB2⟩
          case measure => simp [intOf]; omega
        · obtain rfl : j = n' := by omega
          have HM2 : Hid (Ml a b L (i + 1) 0 0) := Lib.hid (by
            have h := HM.out
            rw [← HN'.out] at h
            exact h.next HX.out)
          go_wp2
          go_roundw
          case rel => exact ⟨i + 1, L, by omega, by go_num, HR, HM2, HB⟩
          case measure => simp [intOf]; omega
    · obtain rfl : n = i := by omega
      have HE : Hid (val L = val a * val b) := Lib.hid (by
        have h := HM.out
        rw [← HN.out] at h
        exact h.done)
      have HL : Hid (L.length = N) := Lib.hid (by rw [HM.out.len, HN.out, HN'.out, HNN.out])
      have HLO : Hid (∀ (k : Nat) z, L[k]? = some z → 0 ≤ z ∧ z ≤ 67070209294336) := Lib.hid fun k z hz => by
        have := HM.out.lo k z hz
        omega
      have HC0 := Lib.hid (Cy.start L)
      have HR0 : Hid (Row wr w.heap.size 3 (ics ([] ++ L.drop 0))) := HR
      have hNB : N ≤ 120 := by have := HNN.out; omega
      clear HM HR
      go_wp2
      go_loopw [11, 62] (fun cv iv wr => ∃ (k : Nat) (out : List Int) (cy : Int), k ≤ N ∧ iv = .int .i64 k ∧ cv = .int .i64 cy ∧ Hid (Row wr w.heap.size 3 (ics (out ++ L.drop k))) ∧ Hid (Cy L out k cy) ∧ Hid (Below w.heap.size w wr)) (fun _ iv _ => N - (intOf iv).toNat)
      case atStart => exact ⟨0, [], 0, Nat.zero_le _, rfl, rfl, HR0, HC0, HB⟩
      case round =>
        clear HR0 HC0 HB
        obtain ⟨k, out, cy, hk, rfl, rfl, HR, HC, HB⟩ := hrel
        have k0 : (0 : Int) ≤ (k : Int) := by omega
        obtain ⟨y0, y1⟩ := HC.out.rng
        by_cases hkN : k < N
        · have hkI : (k : Int) < (N : Int) := by omega
          obtain ⟨z, hz⟩ := at_ L k (by rw [HL.out]; exact hkN)
          have l1 : wr.cell? ⟨w.heap.size, k, none⟩ = some (.int .i64 z) := HR.out.intAt (at_mid HC.out.len hz)
          have hf := HR.out.frozen k
          have hg := HR.out.lt
          have hzb := HLO.out k z hz
          have w1 : IntKind.i64.wrap (z + cy) = z + cy := IntWalk.i64_in _ (by omega)
          have hs := HC.out.step hz hzb
          have hand := and_mask (z + cy) (by omega)
          obtain ⟨d, hd⟩ : ∃ d, (z + cy) % 1048576 = d := ⟨_, rfl⟩
          obtain ⟨q, hq⟩ : ∃ q, (z + cy) / 1048576 = q := ⟨_, rfl⟩
          rw [hd, hq] at hs
          rw [hd] at hand
          have HS2 := Lib.hid hs
          have HR2 : Hid (Row (wr.setCell ⟨w.heap.size, k, none⟩ (.int .i64 d)) w.heap.size 3 (ics ((out ++ [d]) ++ L.drop (k + 1)))) := Lib.hid (by
            rw [← set_mid HC.out.len hz, ← ics_set]
            exact HR.out.set _ _)
          have HB2 : Hid (Below w.heap.size w (wr.setCell ⟨w.heap.size, k, none⟩ (.int .i64 d))) := Lib.hid (Gen.b_set HB.out (Nat.le_refl _))
          clear hz hzb hs hd
          go_wp2
          go_roundw
          case rel => exact ⟨k + 1, out ++ [d], q, by omega, by go_num, rfl, HR2, HS2, HB2⟩
          case measure => simp [intOf]; omega
        · obtain rfl : N = k := by omega
          have HE2 : Hid (val out = val a * val b) := Lib.hid (HC.out.done HL.out HE.out (by rw [HNN.out]; exact HVV.out))
          have HI : Hid (Ints wr (some ⟨w.heap.size, 0, none⟩) out) := Lib.hid (by
            have h := HR.out
            rw [List.drop_of_length_le (by rw [HL.out]; exact Nat.le_refl _), List.append_nil] at h
            exact h.ints)
          go_wp2_with (fail)
          go_must (refine (trim_any _ N N out _ HC.out.len HI.out (Nat.le_refl _) (by omega)).mono ?_)
          rintro e w2 ⟨k, hkn, rfl, hT, hV, rfl⟩
          have HT := Lib.hid hT
          have HV2 := Lib.hid hV
          clear hT hV
          go_wp2
          go_ret
          exact ⟨_, N, out.take k, by rw [List.length_take, HC.out.len, Nat.min_eq_left hkn]; rfl, ints_take HI.out k, ⟨HC.out.dg.take k, HT.out, HV2.out.trans HE2.out⟩, HB.out⟩
set_option maxRecDepth 100000 in
set_option maxHeartbeats 4000000 in
theorem mul_nil {A A' : Option Addr} {n n' c c' : Nat} (w : World) (h0 : n = 0 ∨ n' = 0) (hbig : n ≤ 60) (hbig' : n' ≤ 60) :
    Calls Tryd.prog 28 #[.slice A n c, .slice A' n' c'] w fun e w' => e = .returned (.slice none 0 0) ∧ w = w' := by
  by_cases h : n = 0
  · have hz1 : ((n : Int) == 0) = true := by simp [h]
    clear h0 h
    go_enter Tryd.func28, Tryd.ntmps28
    go_wp2
    go_ret
    exact ⟨rfl, rfl⟩
  · have hz1 : ((n : Int) == 0) = false := by simp; omega
    have hz2 : ((n' : Int) == 0) = true := by simp; omega
    clear h0 h
    go_enter Tryd.func28, Tryd.ntmps28
    go_wp2
    go_ret
    exact ⟨rfl, rfl⟩
theorem mul_any {A A' : Option Addr} {n n' c c' : Nat} {a b : List Int} (w : World) (hn : a.length = n) (hn' : b.length = n') (ha : Ints w A a) (hb : Ints w A' b) (da : Dg a) (db : Dg b) (hbig : n ≤ 60) (hbig' : n' ≤ 60) :
    Calls Tryd.prog 28 #[.slice A n c, .slice A' n' c'] w fun e w' => ∃ A2 c2 l, e = .returned (.slice A2 l.length c2) ∧ Ints w' A2 l ∧ Nm l (val a * val b) ∧ Below w.heap.size w w' := by
  by_cases h0 : n = 0 ∨ n' = 0
  · refine (mul_nil w h0 hbig hbig').mono fun e w' h => ?_
    obtain ⟨rfl, rfl⟩ := h
    refine ⟨none, 0, [], rfl, fun h => by simp at h, ?_, Below.refl _ _⟩
    have : val a * val b = 0 := by
      rcases h0 with h0 | h0
      · rw [List.eq_nil_of_length_eq_zero (hn.trans h0), val_nil]; simp
      · rw [List.eq_nil_of_length_eq_zero (hn'.trans h0), val_nil]; simp
    rw [this]
    exact Nm.zero
  · exact mul_pos w hn hn' ha hb da db hbig hbig' (by omega) (by omega)
end Go.Proofs.YtnifkianjpjahaaDoor.Bg
