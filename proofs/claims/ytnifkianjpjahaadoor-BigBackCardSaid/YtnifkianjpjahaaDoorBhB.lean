/- Big integers: combinations; the small common divisor. -/
import Derived.Test.YtnifkianjpjahaaDoorBhA
namespace Go.Proofs.YtnifkianjpjahaaDoor.Bg
open Go.ChangeShapes Go.WideShapes Go.ChangeAt Go.RowKit Go.Proofs.YtnifkianjpjahaaDoor.Cell
set_option linter.unusedVariables false
set_option linter.unusedSimpArgs false

/-- p a + q b, as far as k digits -/
structure Cb (p q : Int) (a b out : List Int) (k : Nat) (cy : Int) : Prop where
  dg : Dg out
  len : out.length = k
  rng : -2147483648 ≤ cy ∧ cy ≤ 2147483648
  eq : val out + pw k * cy = p * val (a.take k) + q * val (b.take k)
theorem Cb.start (p q : Int) (a b : List Int) : Cb p q a b [] 0 0 := ⟨Dg.nil, rfl, by omega, by simp [val_nil]⟩
theorem fac_in {p x : Int} (hp : -1073741824 ≤ p ∧ p ≤ 1073741824) (hx : 0 ≤ x ∧ x < 1048576) : -1125898833100800 ≤ p * x ∧ p * x ≤ 1125898833100800 := by
  have h1 : p * x ≤ 1073741824 * x := Int.mul_le_mul_of_nonneg_right hp.2 hx.1
  have h2 : -1073741824 * x ≤ p * x := Int.mul_le_mul_of_nonneg_right hp.1 hx.1
  omega
theorem Cb.step {p q : Int} {a b out : List Int} {k : Nat} {cy x y : Int} (h : Cb p q a b out k cy) (hp : -1073741824 ≤ p ∧ p ≤ 1073741824) (hq : -1073741824 ≤ q ∧ q ≤ 1073741824) (da : Dg a) (db : Dg b) (hx : a[k]? = some x) (hy : b[k]? = some y) :
    Cb p q a b (out ++ [(p * x + cy + q * y) % 1048576]) (k + 1) ((p * x + cy + q * y) / 1048576) := by
  have h1 := fac_in hp (da.at_ hx)
  have h2 := fac_in hq (db.at_ hy)
  have h3 := h.rng
  refine ⟨h.dg.snoc (by omega), by rw [List.length_append, h.len]; rfl, by omega, ?_⟩
  rw [val_snoc, h.len, val_take_succ hx, val_take_succ hy, pw_succ]
  have e := h.eq
  have h4 : 1048576 * ((p * x + cy + q * y) / 1048576) + (p * x + cy + q * y) % 1048576 = p * x + cy + q * y := by omega
  obtain ⟨u, hu⟩ : ∃ u, (p * x + cy + q * y) / 1048576 = u := ⟨_, rfl⟩
  obtain ⟨r, hr⟩ : ∃ r, (p * x + cy + q * y) % 1048576 = r := ⟨_, rfl⟩
  rw [hu, hr] at h4
  rw [hu, hr]
  have e1 : pw k * r + pw k * 1048576 * u = pw k * (p * x + cy + q * y) := by rw [← h4]; grind
  have e2 : pw k * (p * x + cy + q * y) = p * (pw k * x) + pw k * cy + q * (pw k * y) := by grind
  rw [Int.mul_add p, Int.mul_add q]
  omega
theorem Cb.step1 {p q : Int} {a b out : List Int} {k : Nat} {cy x : Int} (h : Cb p q a b out k cy) (hp : -1073741824 ≤ p ∧ p ≤ 1073741824) (da : Dg a) (hx : a[k]? = some x) (hb : b.length ≤ k) :
    Cb p q a b (out ++ [(p * x + cy) % 1048576]) (k + 1) ((p * x + cy) / 1048576) := by
  have h1 := fac_in hp (da.at_ hx)
  have h3 := h.rng
  refine ⟨h.dg.snoc (by omega), by rw [List.length_append, h.len]; rfl, by omega, ?_⟩
  rw [val_snoc, h.len, val_take_succ hx, pw_succ, List.take_of_length_le (show b.length ≤ k + 1 by omega)]
  have e := h.eq
  rw [List.take_of_length_le hb] at e
  have h4 : 1048576 * ((p * x + cy) / 1048576) + (p * x + cy) % 1048576 = p * x + cy := by omega
  obtain ⟨u, hu⟩ : ∃ u, (p * x + cy) / 1048576 = u := ⟨_, rfl⟩
  obtain ⟨r, hr⟩ : ∃ r, (p * x + cy) % 1048576 = r := ⟨_, rfl⟩
  rw [hu, hr] at h4
  rw [hu, hr]
  have e1 : pw k * r + pw k * 1048576 * u = pw k * (p * x + cy) := by rw [← h4]; grind
  have e2 : pw k * (p * x + cy) = p * (pw k * x) + pw k * cy := by grind
  rw [Int.mul_add p]
  omega
theorem Cb.done {p q : Int} {a b out : List Int} {cy : Int} (h : Cb p q a b out a.length cy) (hl : b.length ≤ a.length) (h0 : 0 ≤ p * val a + q * val b) (h1 : p * val a + q * val b < pw a.length) : val out = p * val a + q * val b := by
  have e := h.eq
  rw [List.take_length, List.take_of_length_le hl] at e
  have h2 := val_lt h.dg
  have h3 := val_nonneg h.dg
  rw [h.len] at h2
  have hc : cy = 0 := by
    by_cases h4 : cy < 0
    · have : pw a.length * cy ≤ pw a.length * -1 := Int.mul_le_mul_of_nonneg_left (by omega) (by omega)
      omega
    · by_cases h5 : 0 < cy
      · have : pw a.length * 1 ≤ pw a.length * cy := Int.mul_le_mul_of_nonneg_left (by omega) (by omega)
        omega
      · omega
  subst hc
  omega
set_option maxRecDepth 100000 in
set_option maxHeartbeats 8000000 in
theorem combine_any {A A' : Option Addr} {n n' c c' : Nat} {a b : List Int} {p q : Int} (w : World) (hn : a.length = n) (hn' : b.length = n') (ha : Ints w A a) (hb : Ints w A' b) (da : Dg a) (db : Dg b) (hp : -1073741824 ≤ p ∧ p ≤ 1073741824) (hq : -1073741824 ≤ q ∧ q ≤ 1073741824) (hl : n' ≤ n) (h0 : 0 ≤ p * val a + q * val b) (h1 : p * val a + q * val b < pw n) (hbig : n ≤ 1000) :
    Calls Tryd.prog 51 #[.int .i64 p, .slice A n c, .int .i64 q, .slice A' n' c'] w fun e w' => ∃ A2 c2 l, e = .returned (.slice A2 l.length c2) ∧ Ints w' A2 l ∧ Nm l (p * val a + q * val b) ∧ Below w.heap.size w w' := by
  have HN := Lib.hid hn
  have HN' := Lib.hid hn'
  have HDA := Lib.hid da
  have HDB := Lib.hid db
  have H0 := Lib.hid h0
  have H1 := Lib.hid h1
  have HLL : Hid (b.length ≤ a.length) := Lib.hid (by omega)
  obtain ⟨iI, hiI, hzI, hyI, hxI⟩ := info_parts infoI
  have hmk : ∀ W : World, (Instr.makeSlice 22 (.int .i64 n) (.int .i64 n)).run Tryd.prog W = .ok (.slice (some ⟨W.heap.size, 0, none⟩) n n) (W.alloc (.cells (ics (List.replicate n 0)) 3)) := fun W => by
    have hr := run_make (P := Tryd.prog) W 22 3 iI (.int .i64 0) Tryd.underlying22 hiI hzI .i64 .i64 n n (by omega) (Int.le_refl _) (by rw [hxI]; omega) (by omega)
    rw [hyI, Int.toNat_natCast, made_ints] at hr
    exact hr
  clear hn hn' da db h0 h1 hiI hzI hyI hxI
  go_enter Tryd.func51, Tryd.ntmps51
  go_wp2
  clear hmk
  go_loopw [10, 19] (fun bv iv wr => ∃ (k : Nat) (out : List Int) (cy : Int), k ≤ n ∧ iv = .int .i64 k ∧ bv = .int .i64 cy ∧ Hid (Row wr w.heap.size 3 (ics (out ++ List.replicate (n - k) 0))) ∧ Hid (Cb p q a b out k cy) ∧ Hid (Below w.heap.size w wr)) (fun _ iv _ => n - (intOf iv).toNat)
  case atStart => exact ⟨0, [], 0, Nat.zero_le _, rfl, rfl, Lib.hid (Row.new _ _ _), Lib.hid (Cb.start p q a b), Lib.hid (Gen.b_alloc (Below.refl _ _))⟩
  case round =>
    obtain ⟨k, out, cy, hk, rfl, rfl, HR, HS, HB⟩ := hrel
    have k0 : (0 : Int) ≤ (k : Int) := by omega
    obtain ⟨y0, y1⟩ := HS.out.rng
    by_cases hlt : k < n
    · have hltI : (k : Int) < (n : Int) := by omega
      obtain ⟨bl, ol, rfl, hcell⟩ := (ha.keep HB.out) (by rw [HN.out]; omega)
      obtain ⟨x, hx⟩ := at_ a k (by rw [HN.out]; exact hlt)
      have c0 := hcell k x hx
      have hpx := fac_in hp (HDA.out.at_ hx)
      have HX := Lib.hid hx
      have hg := HR.out.lt
      have l1 : wr.cell? ⟨w.heap.size, k, none⟩ = some (.int .i64 0) := HR.out.intAt (at_fill HS.out.len hlt)
      have hf := HR.out.frozen k
      clear hcell hx
      have w0 : IntKind.i64.wrap (p * x) = p * x := IntWalk.i64_in _ (by omega)
      have w1 : IntKind.i64.wrap (p * x + cy) = p * x + cy := IntWalk.i64_in _ (by omega)
      by_cases hlb : k < n'
      · have hlbI : (k : Int) < (n' : Int) := by omega
        obtain ⟨bm, om, rfl, hcell⟩ := (hb.keep HB.out) (by rw [HN'.out]; omega)
        obtain ⟨y, hy⟩ := at_ b k (by rw [HN'.out]; exact hlb)
        have c1 := hcell k y hy
        have hqy := fac_in hq (HDB.out.at_ hy)
        have w2 : IntKind.i64.wrap (q * y) = q * y := IntWalk.i64_in _ (by omega)
        have w3 : IntKind.i64.wrap (p * x + cy + q * y) = p * x + cy + q * y := IntWalk.i64_in _ (by omega)
        have hs := HS.out.step hp hq HDA.out HDB.out HX.out hy
        have hand := and_mask (p * x + cy + q * y) (by omega)
        obtain ⟨t, ht⟩ : ∃ t, p * x + cy + q * y = t := ⟨_, rfl⟩
        rw [ht] at hs hand w3
        obtain ⟨d, hd⟩ : ∃ d, t % 1048576 = d := ⟨_, rfl⟩
        obtain ⟨u, hu⟩ : ∃ u, t / 1048576 = u := ⟨_, rfl⟩
        rw [hd, hu] at hs
        rw [hd] at hand
        have HS2 := Lib.hid hs
        have HR2 : Hid (Row (wr.setCell ⟨w.heap.size, k, none⟩ (.int .i64 d)) w.heap.size 3 (ics ((out ++ [d]) ++ List.replicate (n - (k + 1)) 0))) := Lib.hid (by
          rw [← set_fill HS.out.len hlt, ← ics_set]
          exact HR.out.set _ _)
        have HB2 : Hid (Below w.heap.size w (wr.setCell ⟨w.heap.size, k, none⟩ (.int .i64 d))) := Lib.hid (Gen.b_set HB.out (Nat.le_refl _))
        clear hcell hy hs hd hpx hqy
        go_wp2
        go_roundw
        case rel => exact ⟨k + 1, out ++ [d], u, by omega, by go_num, rfl, HR2, HS2, HB2⟩
        case measure => simp [intOf]; omega
      · have hlbI : ¬ ((k : Int) < (n' : Int)) := by omega
        have hs := HS.out.step1 hp HDA.out HX.out (show b.length ≤ k by rw [HN'.out]; omega)
        have hand := and_mask (p * x + cy) (by omega)
        obtain ⟨t, ht⟩ : ∃ t, p * x + cy = t := ⟨_, rfl⟩
        rw [ht] at hs hand w1
        obtain ⟨d, hd⟩ : ∃ d, t % 1048576 = d := ⟨_, rfl⟩
        obtain ⟨u, hu⟩ : ∃ u, t / 1048576 = u := ⟨_, rfl⟩
        rw [hd, hu] at hs
        rw [hd] at hand
        have HS2 := Lib.hid hs
        have HR2 : Hid (Row (wr.setCell ⟨w.heap.size, k, none⟩ (.int .i64 d)) w.heap.size 3 (ics ((out ++ [d]) ++ List.replicate (n - (k + 1)) 0))) := Lib.hid (by
          rw [← set_fill HS.out.len hlt, ← ics_set]
          exact HR.out.set _ _)
        have HB2 : Hid (Below w.heap.size w (wr.setCell ⟨w.heap.size, k, none⟩ (.int .i64 d))) := Lib.hid (Gen.b_set HB.out (Nat.le_refl _))
        clear hs hd hpx
        go_wp2
        go_roundw
        case rel => exact ⟨k + 1, out ++ [d], u, by omega, by go_num, rfl, HR2, HS2, HB2⟩
        case measure => simp [intOf]; omega
    · obtain rfl : n = k := by omega
      have HE : Hid (val out = p * val a + q * val b) := Lib.hid (by
        have h := HS.out
        have h1 := H1.out
        rw [← HN.out] at h h1
        exact h.done HLL.out H0.out h1)
      have HI : Hid (Ints wr (some ⟨w.heap.size, 0, none⟩) out) := Lib.hid (by
        have h := HR.out
        rw [Nat.sub_self, List.replicate_zero, List.append_nil] at h
        exact h.ints)
      go_wp2_with (fail)
      go_must (refine (trim_any _ n n out _ HS.out.len HI.out (Nat.le_refl _) (by omega)).mono ?_)
      rintro e w2 ⟨k, hkn, rfl, hT, hV, rfl⟩
      have HT := Lib.hid hT
      have HVV := Lib.hid hV
      clear hT hV
      go_wp2
      go_ret
      exact ⟨_, n, out.take k, by rw [List.length_take, HS.out.len, Nat.min_eq_left hkn]; rfl, ints_take HI.out k, ⟨HS.out.dg.take k, HT.out, HVV.out.trans HE.out⟩, HB.out⟩
set_option maxRecDepth 100000 in
set_option maxHeartbeats 4000000 in
theorem gcdSmall_any (w : World) (u v : Nat) (hu : u ≤ 18446744073709551615) (hv : v ≤ 18446744073709551615) :
    Calls Tryd.prog 49 #[.int .u64 u, .int .u64 v] w fun e w' => e = .returned (.int .u64 (Nat.gcd u v : Nat)) ∧ Below w.heap.size w w' := by
  go_enter Tryd.func49, Tryd.ntmps49
  go_wp2
  go_loopw [0, 1] (fun uv vv wr => ∃ (x y : Nat), uv = .int .u64 x ∧ vv = .int .u64 y ∧ x ≤ 18446744073709551615 ∧ y ≤ 18446744073709551615 ∧ Hid (Nat.gcd x y = Nat.gcd u v) ∧ Hid (Below w.heap.size w wr)) (fun _ vv _ => (intOf vv).toNat)
  case atStart => exact ⟨u, v, rfl, rfl, hu, hv, Lib.hid rfl, Lib.hid (Below.refl _ _)⟩
  case round =>
    obtain ⟨x, y, rfl, rfl, hx, hy, HG, HB⟩ := hrel
    by_cases h0 : 0 < y
    · have h0I : (0 : Int) < (y : Int) := by omega
      have hy0 : ((y : Int) == 0) = false := by simp; omega
      have hmod : (x : Int).tmod (y : Int) = ((x % y : Nat) : Int) := by rw [IntWalk.rem_in _ _ (by omega)]; rfl
      have hlt := Nat.mod_lt x h0
      have hw : IntKind.u64.wrap ((x % y : Nat) : Int) = ((x % y : Nat) : Int) := IntWalk.u64_in _ (by omega)
      have HG2 : Hid (Nat.gcd y (x % y) = Nat.gcd u v) := Lib.hid (by rw [← HG.out, Nat.gcd_comm x y, Nat.gcd_rec y x, Nat.gcd_comm])
      obtain ⟨m, hm⟩ : ∃ m, x % y = m := ⟨_, rfl⟩
      rw [hm] at hmod hlt hw HG2
      clear hm
      go_wp2
      go_region
      all_goals
        go_wp2
        go_roundw
        case rel => exact ⟨y, m, rfl, rfl, hy, by omega, HG2, Lib.hid HB.out.drew⟩
        case measure => simp [intOf]; omega
    · have h0I : ¬ ((0 : Int) < (y : Int)) := by omega
      have HE : Hid (x = Nat.gcd u v) := Lib.hid (by
        have h := HG.out
        rw [show y = 0 by omega, Nat.gcd_zero_right] at h
        exact h)
      go_wp2
      go_ret
      exact ⟨by rw [← HE.out]; rfl, HB.out⟩
end Go.Proofs.YtnifkianjpjahaaDoor.Bg
