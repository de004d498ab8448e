/- Big integers: sums of digits. -/
import Derived.Test.YtnifkianjpjahaaDoorBgB
namespace Go.Proofs.YtnifkianjpjahaaDoor.Bg
open Go.ChangeShapes Go.WideShapes Go.ChangeAt Go.RowKit Go.Proofs.YtnifkianjpjahaaDoor.Cell
set_option linter.unusedVariables false
set_option linter.unusedSimpArgs false

def ints (l : List Int) : List Value := l.map (Value.int .i64)
theorem infoI : (Tryd.prog.info? 3).map (fun i => (i.zero, i.size, i.bytes)) = some (some (.int .i64 0), 1, 8) := by kernel_rfl
theorem info_parts {o : Option TypeInfo} {z : Value} {a b : Nat} (h : o.map (fun i => (i.zero, i.size, i.bytes)) = some (some z, a, b)) : ∃ i, o = some i ∧ i.zero = some z ∧ i.size = a ∧ i.bytes = b := by
  cases o with
  | none => cases h
  | some i =>
    simp only [Option.map_some, Option.some.injEq, Prod.mk.injEq] at h
    exact ⟨i, rfl, h.1, h.2.1, h.2.2⟩
theorem ints_own {W : World} {B n : Nat} {v : Value} {l : List Int} (h : W.ownsRow B 3 1 v n (ints l)) (hn : l.length = n) : ∃ A c, v = .slice A n c ∧ Ints W A l := by
  obtain ⟨A, c, rfl, hr⟩ := Gen.own_slice h
  refine ⟨A, c, rfl, fun h0 => ?_⟩
  obtain ⟨g, cap, hv, hb, hlt⟩ := h.form (by omega)
  injection hv with e
  subst e
  refine ⟨g, 0, rfl, fun j z hz => ?_⟩
  have hj := lt_of_at hz
  have c0 := h.cellAt j (by rw [Nat.mul_one]; omega)
  rw [Nat.zero_add]
  rw [show (ints l)[j]? = some (.int .i64 z) by simp [ints, hz]] at c0
  exact c0
/-- a sum, digit by digit -/
structure Sm (a b out : List Int) (k : Nat) (cy : Int) : Prop where
  dg : Dg out
  len : out.length = k
  rng : 0 ≤ cy ∧ cy ≤ 1
  eq : val out + pw k * cy = val (a.take k) + val (b.take k)
theorem Sm.start (a b : List Int) : Sm a b [] 0 0 := ⟨Dg.nil, rfl, by omega, by rw [List.take_zero, List.take_zero, val_nil]; omega⟩
theorem Sm.step {a b out : List Int} {k : Nat} {cy x y : Int} (h : Sm a b out k cy) (da : Dg a) (db : Dg b) (hx : a[k]? = some x) (hy : b[k]? = some y) : Sm a b (out ++ [(x + cy + y) % 1048576]) (k + 1) ((x + cy + y) / 1048576) := by
  have h1 := da.at_ hx
  have h2 := db.at_ hy
  have h3 := h.rng
  refine ⟨h.dg.snoc (by omega), by rw [List.length_append, h.len]; rfl, by omega, ?_⟩
  rw [val_snoc, h.len, val_take_succ hx, val_take_succ hy, pw_succ]
  have e := h.eq
  have h4 : 1048576 * ((x + cy + y) / 1048576) + (x + cy + y) % 1048576 = x + cy + y := by omega
  obtain ⟨q, hq⟩ : ∃ q, (x + cy + y) / 1048576 = q := ⟨_, rfl⟩
  obtain ⟨r, hr⟩ : ∃ r, (x + cy + y) % 1048576 = r := ⟨_, rfl⟩
  rw [hq, hr] at h4
  rw [hq, hr]
  have e1 : pw k * r + pw k * 1048576 * q = pw k * (x + cy + y) := by rw [← h4]; grind
  have e2 : pw k * (x + cy + y) = pw k * x + pw k * cy + pw k * y := by grind
  omega
theorem Sm.step1 {a b out : List Int} {k : Nat} {cy x : Int} (h : Sm a b out k cy) (da : Dg a) (hx : a[k]? = some x) (hb : b.length ≤ k) : Sm a b (out ++ [(x + cy) % 1048576]) (k + 1) ((x + cy) / 1048576) := by
  have h1 := da.at_ hx
  have h3 := h.rng
  refine ⟨h.dg.snoc (by omega), by rw [List.length_append, h.len]; rfl, by omega, ?_⟩
  rw [val_snoc, h.len, val_take_succ hx, pw_succ, List.take_of_length_le (show b.length ≤ k + 1 by omega)]
  have e := h.eq
  rw [List.take_of_length_le hb] at e
  have h4 : 1048576 * ((x + cy) / 1048576) + (x + cy) % 1048576 = x + cy := by omega
  obtain ⟨q, hq⟩ : ∃ q, (x + cy) / 1048576 = q := ⟨_, rfl⟩
  obtain ⟨r, hr⟩ : ∃ r, (x + cy) % 1048576 = r := ⟨_, rfl⟩
  rw [hq, hr] at h4
  rw [hq, hr]
  have e1 : pw k * r + pw k * 1048576 * q = pw k * (x + cy) := by rw [← h4]; grind
  have e2 : pw k * (x + cy) = pw k * x + pw k * cy := by grind
  omega
theorem Sm.done0 {a b out : List Int} (h : Sm a b out a.length 0) (da : Dg a) (db : Dg b) (ta : Tr a) (hl : b.length ≤ a.length) : Nm out (val a + val b) := by
  have e := h.eq
  rw [List.take_length, List.take_of_length_le hl] at e
  have e' : val out = val a + val b := by omega
  refine ⟨h.dg, ?_, e'⟩
  by_cases ha : a = []
  · have : out = [] := List.eq_nil_of_length_eq_zero (by rw [h.len, ha]; rfl)
    rw [this]; exact Tr.nil
  · refine tr_of_ge h.dg ?_
    rw [h.len, e']
    have := val_ge da ta ha
    have := val_nonneg db
    omega
theorem Sm.done1 {a b out : List Int} {cy : Int} (h : Sm a b out a.length cy) (hc : 0 < cy) (da : Dg a) (db : Dg b) (hl : b.length ≤ a.length) : Nm (out ++ [cy]) (val a + val b) := by
  have e := h.eq
  have h3 := h.rng
  rw [List.take_length, List.take_of_length_le hl] at e
  exact ⟨h.dg.snoc (by omega), Tr.snoc (by omega), by rw [val_snoc, h.len]; exact e⟩
set_option maxRecDepth 100000 in
set_option maxHeartbeats 8000000 in
theorem add_ge {A A' : Option Addr} {n n' c c' : Nat} {a b : List Int} (w : World) (hn : a.length = n) (hn' : b.length = n') (ha : Ints w A a) (hb : Ints w A' b) (da : Dg a) (db : Dg b) (ta : Tr a) (hl : n' ≤ n) (hbig : n ≤ 1000) :
    Calls Tryd.prog 33 #[.slice A n c, .slice A' n' c'] w fun e w' => ∃ A2 c2 l, e = .returned (.slice A2 l.length c2) ∧ Ints w' A2 l ∧ Nm l (val a + val b) ∧ Below w.heap.size w w' := by
  have HN := Lib.hid hn
  have HN' := Lib.hid hn'
  have HDA := Lib.hid da
  have HDB := Lib.hid db
  have HTA := Lib.hid ta
  have HLL : Hid (b.length ≤ a.length) := Lib.hid (by omega)
  obtain ⟨iI, hiI, hzI, hyI, hxI⟩ := info_parts infoI
  obtain ⟨wm, hmk, hown, hg⟩ := run_make_own (P := Tryd.prog) w w.heap.size 22 3 iI (.int .i64 0) 1 Tryd.underlying22 hiI hzI hyI .i64 .i64 (n + 1) (by rw [hxI]; omega) (by simp only [maxLen]; omega) (Nat.le_refl _)
  rw [show ((n + 1 : Nat) : Int) = (n : Int) + 1 from by omega] at hmk
  have hc1 : IntKind.i64.wrap ((n : Int) + 1) = (n : Int) + 1 := IntWalk.i64_in _ (by omega)
  have HB0 : Hid (Below w.heap.size w wm) := Lib.hid ((Below.refl _ _).grown hg (Nat.le_refl _) (fun k hk => by cases hk))
  have HO0 : Hid (wm.ownsRow w.heap.size 3 1 (.slice (some ⟨w.heap.size, 0, none⟩) 0 (n + 1)) 0 (ints [])) := Lib.hid hown
  have hlI : ¬ ((n : Int) < (n' : Int)) := by omega
  clear hn hn' hown hg da db ta
  go_enter Tryd.func33, Tryd.ntmps33
  go_wp2
  clear hmk hc1
  go_loopw [5, 6, 23] (fun lv cv iv wr => ∃ (k : Nat) (A2 : Option Addr) (c2 : Nat) (out : List Int) (cy : Int), k ≤ n ∧ iv = .int .i64 k ∧ cv = .int .i64 cy ∧ lv = .slice A2 k c2 ∧ Hid (wr.ownsRow w.heap.size 3 1 (.slice A2 k c2) k (ints out)) ∧ Hid (Sm a b out k cy) ∧ Hid (Below w.heap.size w wr)) (fun _ _ iv _ => n - (intOf iv).toNat)
  case atStart => exact ⟨0, _, _, [], 0, Nat.zero_le _, rfl, rfl, rfl, HO0, Lib.hid (Sm.start a b), HB0⟩
  case round =>
    clear HO0 HB0
    obtain ⟨k, A2, c2, out, cy, hk, rfl, rfl, rfl, HO, HS, HB⟩ := hrel
    have k0 : (0 : Int) ≤ (k : Int) := by omega
    obtain ⟨y0, y1⟩ := HS.out.rng
    have N1 : Hid (k + 1 ≤ maxLen) := Lib.hid (by simp only [maxLen]; omega)
    have N2 : Hid ((k + 1) * 8 ≤ 140737488355328) := Lib.hid (by omega)
    by_cases hlt : k < n
    · have hltI : (k : Int) < (n : Int) := by omega
      obtain ⟨bl, ol, rfl, hcell⟩ := (ha.keep HB.out) (by rw [HN.out]; omega)
      obtain ⟨x, hx⟩ := at_ a k (by rw [HN.out]; exact hlt)
      have c0 := hcell k x hx
      obtain ⟨x0, x1⟩ := HDA.out.at_ hx
      have HX := Lib.hid hx
      clear hcell hx
      have w1 : IntKind.i64.wrap (x + cy) = x + cy := IntWalk.i64_in _ (by omega)
      by_cases hlb : k < n'
      · have hlbI : (k : Int) < (n' : Int) := by omega
        obtain ⟨bm, om, rfl, hcell⟩ := (hb.keep HB.out) (by rw [HN'.out]; omega)
        obtain ⟨y, hy⟩ := at_ b k (by rw [HN'.out]; exact hlb)
        have c1 := hcell k y hy
        obtain ⟨z0, z1⟩ := HDB.out.at_ hy
        have w2 : IntKind.i64.wrap (x + cy + y) = x + cy + y := IntWalk.i64_in _ (by omega)
        have hs := HS.out.step HDA.out HDB.out HX.out hy
        have hand := and_mask (x + cy + y) (by omega)
        obtain ⟨d, hd⟩ : ∃ d, (x + cy + y) % 1048576 = d := ⟨_, rfl⟩
        obtain ⟨q, hq⟩ : ∃ q, (x + cy + y) / 1048576 = q := ⟨_, rfl⟩
        rw [hd, hq] at hs
        rw [hd] at hand
        have HS2 := Lib.hid hs
        clear hcell hy hs hd
        go_wp2_with (first
          | (at_builtin
             go_must (refine App.wpList_append_any _ rfl (.tmp 41) (.tmp 44) _ rfl w.heap.size 3 iI _ 1 8 Tryd.underlying22 hiI hzI hyI hxI rfl (by omega) (.slice A2 k c2) k (ints out) rfl (Gen.own_keep HO.out (Gen.b_alloc (Below.refl _ _))) _ _ 1 1 (ints [d]) rfl (Gen.reads_blk (by simp) rfl) (by simp [ints, Value.oneCell']) N1.out N2.out (Nat.le_trans HB.out.size (Gen.b_alloc (Below.refl _ _)).size) ?_)
             intro v7 w7 ho7 hg7 ha7
             have HB7 := Lib.hid (Gen.g_below HO.out hg7 (Gen.b_alloc HB.out) (Nat.le_refl _))
             obtain ⟨A7, c7, hv7, _⟩ := Gen.own_slice ho7
             subst hv7
             have HO7 := Lib.hid ho7
             clear hg7 ha7 ho7)
          | fail)
        go_roundw
        case rel => exact ⟨k + 1, A7, c7, out ++ [d], q, by omega, by go_num, rfl, rfl, Lib.hid (by rw [ints, List.map_append]; exact HO7.out), HS2, HB7⟩
        case measure => simp [intOf]; omega
      · have hlbI : ¬ ((k : Int) < (n' : Int)) := by omega
        have hs := HS.out.step1 HDA.out HX.out (show b.length ≤ k by rw [HN'.out]; omega)
        have hand := and_mask (x + cy) (by omega)
        obtain ⟨d, hd⟩ : ∃ d, (x + cy) % 1048576 = d := ⟨_, rfl⟩
        obtain ⟨q, hq⟩ : ∃ q, (x + cy) / 1048576 = q := ⟨_, rfl⟩
        rw [hd, hq] at hs
        rw [hd] at hand
        have HS2 := Lib.hid hs
        clear hs hd
        go_wp2_with (first
          | (at_builtin
             go_must (refine App.wpList_append_any _ rfl (.tmp 41) (.tmp 44) _ rfl w.heap.size 3 iI _ 1 8 Tryd.underlying22 hiI hzI hyI hxI rfl (by omega) (.slice A2 k c2) k (ints out) rfl (Gen.own_keep HO.out (Gen.b_alloc (Below.refl _ _))) _ _ 1 1 (ints [d]) rfl (Gen.reads_blk (by simp) rfl) (by simp [ints, Value.oneCell']) N1.out N2.out (Nat.le_trans HB.out.size (Gen.b_alloc (Below.refl _ _)).size) ?_)
             intro v7 w7 ho7 hg7 ha7
             have HB7 := Lib.hid (Gen.g_below HO.out hg7 (Gen.b_alloc HB.out) (Nat.le_refl _))
             obtain ⟨A7, c7, hv7, _⟩ := Gen.own_slice ho7
             subst hv7
             have HO7 := Lib.hid ho7
             clear hg7 ha7 ho7)
          | fail)
        go_roundw
        case rel => exact ⟨k + 1, A7, c7, out ++ [d], q, by omega, by go_num, rfl, rfl, Lib.hid (by rw [ints, List.map_append]; exact HO7.out), HS2, HB7⟩
        case measure => simp [intOf]; omega
    · obtain rfl : n = k := by omega
      by_cases hcy : 0 < cy
      · have HM : Hid (Nm (out ++ [cy]) (val a + val b)) := Lib.hid (by
          have h := HS.out
          rw [← HN.out] at h
          exact h.done1 hcy HDA.out HDB.out HLL.out)
        have HL := HS.out.len
        go_wp2_with (first
          | (at_builtin
             go_must (refine App.wpList_append_any _ rfl (.tmp 51) (.tmp 53) _ rfl w.heap.size 3 iI _ 1 8 Tryd.underlying22 hiI hzI hyI hxI rfl (by omega) (.slice A2 n c2) n (ints out) rfl (Gen.own_keep HO.out (Gen.b_alloc (Below.refl _ _))) _ _ 1 1 (ints [cy]) rfl (Gen.reads_blk (by simp) rfl) (by simp [ints, Value.oneCell']) N1.out N2.out (Nat.le_trans HB.out.size (Gen.b_alloc (Below.refl _ _)).size) ?_)
             intro v7 w7 ho7 hg7 ha7
             have HB7 := Lib.hid (Gen.g_below HO.out hg7 (Gen.b_alloc HB.out) (Nat.le_refl _))
             obtain ⟨A7, c7, hv7, hI7⟩ := ints_own (l := out ++ [cy]) (by rw [ints, List.map_append]; exact ho7) (by rw [List.length_append, HS.out.len]; rfl)
             subst hv7
             have HI7 := Lib.hid hI7
             clear hg7 ha7 ho7 hI7)
          | fail)
        go_ret
        exact ⟨A7, c7, out ++ [cy], by rw [List.length_append, HL]; rfl, HI7.out, HM.out, HB7.out⟩
      · have hc0 : cy = 0 := by omega
        have HM : Hid (Nm out (val a + val b)) := Lib.hid (by
          have h := HS.out
          rw [← HN.out, hc0] at h
          exact h.done0 HDA.out HDB.out HTA.out HLL.out)
        obtain ⟨A7, c7, hv7, hI7⟩ := ints_own HO.out HS.out.len
        injection hv7 with e1 _ e2
        subst e1 e2
        have HI7 := Lib.hid hI7
        have HL := Lib.hid HS.out.len
        clear hI7
        go_wp2
        go_ret
        exact ⟨A2, c2, out, by rw [HL.out]; rfl, HI7.out, HM.out, HB.out⟩
set_option maxRecDepth 100000 in
set_option maxHeartbeats 8000000 in
theorem add_lt {A A' : Option Addr} {n n' c c' : Nat} {a b : List Int} (w : World) (hn : a.length = n) (hn' : b.length = n') (ha : Ints w A a) (hb : Ints w A' b) (da : Dg a) (db : Dg b) (ta : Tr a) (hl : n' < n) (hbig : n ≤ 1000) :
    Calls Tryd.prog 33 #[.slice A' n' c', .slice A n c] w fun e w' => ∃ A2 c2 l, e = .returned (.slice A2 l.length c2) ∧ Ints w' A2 l ∧ Nm l (val a + val b) ∧ Below w.heap.size w w' := by
  have HN := Lib.hid hn
  have HN' := Lib.hid hn'
  have HDA := Lib.hid da
  have HDB := Lib.hid db
  have HTA := Lib.hid ta
  have HLL : Hid (b.length ≤ a.length) := Lib.hid (by omega)
  obtain ⟨iI, hiI, hzI, hyI, hxI⟩ := info_parts infoI
  obtain ⟨wm, hmk, hown, hg⟩ := run_make_own (P := Tryd.prog) w w.heap.size 22 3 iI (.int .i64 0) 1 Tryd.underlying22 hiI hzI hyI .i64 .i64 (n + 1) (by rw [hxI]; omega) (by simp only [maxLen]; omega) (Nat.le_refl _)
  rw [show ((n + 1 : Nat) : Int) = (n : Int) + 1 from by omega] at hmk
  have hc1 : IntKind.i64.wrap ((n : Int) + 1) = (n : Int) + 1 := IntWalk.i64_in _ (by omega)
  have HB0 : Hid (Below w.heap.size w wm) := Lib.hid ((Below.refl _ _).grown hg (Nat.le_refl _) (fun k hk => by cases hk))
  have HO0 : Hid (wm.ownsRow w.heap.size 3 1 (.slice (some ⟨w.heap.size, 0, none⟩) 0 (n + 1)) 0 (ints [])) := Lib.hid hown
  have hlI : (n' : Int) < (n : Int) := by omega
  clear hn hn' hown hg da db ta
  go_enter Tryd.func33, Tryd.ntmps33
  go_wp2
  clear hmk hc1
  go_loopw [5, 6, 23] (fun lv cv iv wr => ∃ (k : Nat) (A2 : Option Addr) (c2 : Nat) (out : List Int) (cy : Int), k ≤ n ∧ iv = .int .i64 k ∧ cv = .int .i64 cy ∧ lv = .slice A2 k c2 ∧ Hid (wr.ownsRow w.heap.size 3 1 (.slice A2 k c2) k (ints out)) ∧ Hid (Sm a b out k cy) ∧ Hid (Below w.heap.size w wr)) (fun _ _ iv _ => n - (intOf iv).toNat)
  case atStart => exact ⟨0, _, _, [], 0, Nat.zero_le _, rfl, rfl, rfl, HO0, Lib.hid (Sm.start a b), HB0⟩
  case round =>
    clear HO0 HB0
    obtain ⟨k, A2, c2, out, cy, hk, rfl, rfl, rfl, HO, HS, HB⟩ := hrel
    have k0 : (0 : Int) ≤ (k : Int) := by omega
    obtain ⟨y0, y1⟩ := HS.out.rng
    have N1 : Hid (k + 1 ≤ maxLen) := Lib.hid (by simp only [maxLen]; omega)
    have N2 : Hid ((k + 1) * 8 ≤ 140737488355328) := Lib.hid (by omega)
    by_cases hlt : k < n
    · have hltI : (k : Int) < (n : Int) := by omega
      obtain ⟨bl, ol, rfl, hcell⟩ := (ha.keep HB.out) (by rw [HN.out]; omega)
      obtain ⟨x, hx⟩ := at_ a k (by rw [HN.out]; exact hlt)
      have c0 := hcell k x hx
      obtain ⟨x0, x1⟩ := HDA.out.at_ hx
      have HX := Lib.hid hx
      clear hcell hx
      have w1 : IntKind.i64.wrap (x + cy) = x + cy := IntWalk.i64_in _ (by omega)
      by_cases hlb : k < n'
      · have hlbI : (k : Int) < (n' : Int) := by omega
        obtain ⟨bm, om, rfl, hcell⟩ := (hb.keep HB.out) (by rw [HN'.out]; omega)
        obtain ⟨y, hy⟩ := at_ b k (by rw [HN'.out]; exact hlb)
        have c1 := hcell k y hy
        obtain ⟨z0, z1⟩ := HDB.out.at_ hy
        have w2 : IntKind.i64.wrap (x + cy + y) = x + cy + y := IntWalk.i64_in _ (by omega)
        have hs := HS.out.step HDA.out HDB.out HX.out hy
        have hand := and_mask (x + cy + y) (by omega)
        obtain ⟨d, hd⟩ : ∃ d, (x + cy + y) % 1048576 = d := ⟨_, rfl⟩
        obtain ⟨q, hq⟩ : ∃ q, (x + cy + y) / 1048576 = q := ⟨_, rfl⟩
        rw [hd, hq] at hs
        rw [hd] at hand
        have HS2 := Lib.hid hs
        clear hcell hy hs hd
        go_wp2_with (first
          | (at_builtin
             go_must (refine App.wpList_append_any _ rfl (.tmp 41) (.tmp 44) _ rfl w.heap.size 3 iI _ 1 8 Tryd.underlying22 hiI hzI hyI hxI rfl (by omega) (.slice A2 k c2) k (ints out) rfl (Gen.own_keep HO.out (Gen.b_alloc (Below.refl _ _))) _ _ 1 1 (ints [d]) rfl (Gen.reads_blk (by simp) rfl) (by simp [ints, Value.oneCell']) N1.out N2.out (Nat.le_trans HB.out.size (Gen.b_alloc (Below.refl _ _)).size) ?_)
             intro v7 w7 ho7 hg7 ha7
             have HB7 := Lib.hid (Gen.g_below HO.out hg7 (Gen.b_alloc HB.out) (Nat.le_refl _))
             obtain ⟨A7, c7, hv7, _⟩ := Gen.own_slice ho7
             subst hv7
             have HO7 := Lib.hid ho7
             clear hg7 ha7 ho7)
          | fail)
        go_roundw
        case rel => exact ⟨k + 1, A7, c7, out ++ [d], q, by omega, by go_num, rfl, rfl, Lib.hid (by rw [ints, List.map_append]; exact HO7.out), HS2, HB7⟩
        case measure => simp [intOf]; omega
      · have hlbI : ¬ ((k : Int) < (n' : Int)) := by omega
        have hs := HS.out.step1 HDA.out HX.out (show b.length ≤ k by rw [HN'.out]; omega)
        have hand := and_mask (x + cy) (by omega)
        obtain ⟨d, hd⟩ : ∃ d, (x + cy) % 1048576 = d := ⟨_, rfl⟩
        obtain ⟨q, hq⟩ : ∃ q, (x + cy) / 1048576 = q := ⟨_, rfl⟩
        rw [hd, hq] at hs
        rw [hd] at hand
        have HS2 := Lib.hid hs
        clear hs hd
        go_wp2_with (first
          | (at_builtin
             go_must (refine App.wpList_append_any _ rfl (.tmp 41) (.tmp 44) _ rfl w.heap.size 3 iI _ 1 8 Tryd.underlying22 hiI hzI hyI hxI rfl (by omega) (.slice A2 k c2) k (ints out) rfl (Gen.own_keep HO.out (Gen.b_alloc (Below.refl _ _))) _ _ 1 1 (ints [d]) rfl (Gen.reads_blk (by simp) rfl) (by simp [ints, Value.oneCell']) N1.out N2.out (Nat.le_trans HB.out.size (Gen.b_alloc (Below.refl _ _)).size) ?_)
             intro v7 w7 ho7 hg7 ha7
             have HB7 := Lib.hid (Gen.g_below HO.out hg7 (Gen.b_alloc HB.out) (Nat.le_refl _))
             obtain ⟨A7, c7, hv7, _⟩ := Gen.own_slice ho7
             subst hv7
             have HO7 := Lib.hid ho7
             clear hg7 ha7 ho7)
          | fail)
        go_roundw
        case rel => exact ⟨k + 1, A7, c7, out ++ [d], q, by omega, by go_num, rfl, rfl, Lib.hid (by rw [ints, List.map_append]; exact HO7.out), HS2, HB7⟩
        case measure => simp [intOf]; omega
    · obtain rfl : n = k := by omega
      by_cases hcy : 0 < cy
      · have HM : Hid (Nm (out ++ [cy]) (val a + val b)) := Lib.hid (by
          have h := HS.out
          rw [← HN.out] at h
          exact h.done1 hcy HDA.out HDB.out HLL.out)
        have HL := HS.out.len
        go_wp2_with (first
          | (at_builtin
             go_must (refine App.wpList_append_any _ rfl (.tmp 51) (.tmp 53) _ rfl w.heap.size 3 iI _ 1 8 Tryd.underlying22 hiI hzI hyI hxI rfl (by omega) (.slice A2 n c2) n (ints out) rfl (Gen.own_keep HO.out (Gen.b_alloc (Below.refl _ _))) _ _ 1 1 (ints [cy]) rfl (Gen.reads_blk (by simp) rfl) (by simp [ints, Value.oneCell']) N1.out N2.out (Nat.le_trans HB.out.size (Gen.b_alloc (Below.refl _ _)).size) ?_)
             intro v7 w7 ho7 hg7 ha7
             have HB7 := Lib.hid (Gen.g_below HO.out hg7 (Gen.b_alloc HB.out) (Nat.le_refl _))
             obtain ⟨A7, c7, hv7, hI7⟩ := ints_own (l := out ++ [cy]) (by rw [ints, List.map_append]; exact ho7) (by rw [List.length_append, HS.out.len]; rfl)
             subst hv7
             have HI7 := Lib.hid hI7
             clear hg7 ha7 ho7 hI7)
          | fail)
        go_ret
        exact ⟨A7, c7, out ++ [cy], by rw [List.length_append, HL]; rfl, HI7.out, HM.out, HB7.out⟩
      · have hc0 : cy = 0 := by omega
        have HM : Hid (Nm out (val a + val b)) := Lib.hid (by
          have h := HS.out
          rw [← HN.out, hc0] at h
          exact h.done0 HDA.out HDB.out HTA.out HLL.out)
        obtain ⟨A7, c7, hv7, hI7⟩ := ints_own HO.out HS.out.len
        injection hv7 with e1 _ e2
        subst e1 e2
        have HI7 := Lib.hid hI7
        have HL := Lib.hid HS.out.len
        clear hI7
        go_wp2
        go_ret
        exact ⟨A2, c2, out, by rw [HL.out]; rfl, HI7.out, HM.out, HB.out⟩
theorem add_any {A A' : Option Addr} {n n' c c' : Nat} {a b : List Int} (w : World) (hn : a.length = n) (hn' : b.length = n') (ha : Ints w A a) (hb : Ints w A' b) (da : Dg a) (db : Dg b) (ta : Tr a) (tb : Tr b) (hbig : n ≤ 1000) (hbig' : n' ≤ 1000) :
    Calls Tryd.prog 33 #[.slice A n c, .slice A' n' c'] w fun e w' => ∃ A2 c2 l, e = .returned (.slice A2 l.length c2) ∧ Ints w' A2 l ∧ Nm l (val a + val b) ∧ Below w.heap.size w w' := by
  by_cases h : n' ≤ n
  · exact add_ge w hn hn' ha hb da db ta h hbig
  · rw [Int.add_comm]
    exact add_lt w hn' hn hb ha db da tb (by omega) hbig'
end Go.Proofs.YtnifkianjpjahaaDoor.Bg
