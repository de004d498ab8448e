/- Big integers: differences of digits. -/
import Derived.Test.YtnifkianjpjahaaDoorBgC
namespace Go.Proofs.YtnifkianjpjahaaDoor.Bg
open Go.ChangeShapes Go.WideShapes Go.ChangeAt Go.RowKit Go.Proofs.YtnifkianjpjahaaDoor.Cell
set_option linter.unusedVariables false
set_option linter.unusedSimpArgs false

theorem ints_take {w : World} {A : Option Addr} {l : List Int} (h : Ints w A l) (k : Nat) : Ints w A (l.take k) := fun h0 => by
  rw [List.length_take] at h0
  obtain ⟨b, off, e, hc⟩ := h (by omega)
  exact ⟨b, off, e, fun j z hz => hc j z (by
    have := lt_of_at hz
    rw [List.length_take] at this
    rwa [List.getElem?_take_of_lt (by omega)] at hz)⟩
theorem set_fill {out : List Int} {n k : Nat} {d : Int} (h : out.length = k) (hk : k < n) : (out ++ List.replicate (n - k) 0).set k d = (out ++ [d]) ++ List.replicate (n - (k + 1)) 0 := by
  rw [List.set_append_right _ _ (by omega), h, Nat.sub_self, show n - k = (n - (k + 1)) + 1 by omega, List.replicate_succ, List.set_cons_zero, List.append_assoc]
  rfl
theorem at_fill {out : List Int} {n k : Nat} (h : out.length = k) (hk : k < n) : (out ++ List.replicate (n - k) (0 : Int))[k]? = some 0 := by
  rw [List.getElem?_append_right (by omega), h, Nat.sub_self, List.getElem?_replicate, if_pos (by omega)]
theorem and_one {q : Int} (h : q = 0 ∨ q = -1) : bits .and .i64 q 1 = -q := by
  rcases h with rfl | rfl <;> decide
/-- a difference, digit by digit -/
structure Sb (a b out : List Int) (k : Nat) (br : Int) : Prop where
  dg : Dg out
  len : out.length = k
  rng : 0 ≤ br ∧ br ≤ 1
  eq : val out + val (b.take k) = val (a.take k) + pw k * br
theorem Sb.start (a b : List Int) : Sb a b [] 0 0 := ⟨Dg.nil, rfl, by omega, by rw [List.take_zero, List.take_zero, val_nil]; omega⟩
theorem Sb.step {a b out : List Int} {k : Nat} {br x y : Int} (h : Sb a b out k br) (da : Dg a) (db : Dg b) (hx : a[k]? = some x) (hy : b[k]? = some y) : Sb a b (out ++ [(x - br - y) % 1048576]) (k + 1) (-((x - br - y) / 1048576)) := by
  have h1 := da.at_ hx
  have h2 := db.at_ hy
  have h3 := h.rng
  refine ⟨h.dg.snoc (by omega), by rw [List.length_append, h.len]; rfl, by omega, ?_⟩
  rw [val_snoc, h.len, val_take_succ hx, val_take_succ hy, pw_succ]
  have e := h.eq
  have h4 : 1048576 * ((x - br - y) / 1048576) + (x - br - y) % 1048576 = x - br - y := by omega
  obtain ⟨q, hq⟩ : ∃ q, (x - br - y) / 1048576 = q := ⟨_, rfl⟩
  obtain ⟨r, hr⟩ : ∃ r, (x - br - y) % 1048576 = r := ⟨_, rfl⟩
  rw [hq, hr] at h4
  rw [hq, hr]
  have e1 : pw k * r - pw k * 1048576 * -q = pw k * (x - br - y) := by rw [← h4]; grind
  have e2 : pw k * (x - br - y) = pw k * x - pw k * br - pw k * y := by grind
  omega
theorem Sb.step1 {a b out : List Int} {k : Nat} {br x : Int} (h : Sb a b out k br) (da : Dg a) (hx : a[k]? = some x) (hb : b.length ≤ k) : Sb a b (out ++ [(x - br) % 1048576]) (k + 1) (-((x - br) / 1048576)) := by
  have h1 := da.at_ hx
  have h3 := h.rng
  refine ⟨h.dg.snoc (by omega), by rw [List.length_append, h.len]; rfl, by omega, ?_⟩
  rw [val_snoc, h.len, val_take_succ hx, pw_succ, List.take_of_length_le (show b.length ≤ k + 1 by omega)]
  have e := h.eq
  rw [List.take_of_length_le hb] at e
  have h4 : 1048576 * ((x - br) / 1048576) + (x - br) % 1048576 = x - br := by omega
  obtain ⟨q, hq⟩ : ∃ q, (x - br) / 1048576 = q := ⟨_, rfl⟩
  obtain ⟨r, hr⟩ : ∃ r, (x - br) % 1048576 = r := ⟨_, rfl⟩
  rw [hq, hr] at h4
  rw [hq, hr]
  have e1 : pw k * r - pw k * 1048576 * -q = pw k * (x - br) := by rw [← h4]; grind
  have e2 : pw k * (x - br) = pw k * x - pw k * br := by grind
  omega
theorem Sb.done {a b out : List Int} {br : Int} (h : Sb a b out a.length br) (hl : b.length ≤ a.length) (hv : val b ≤ val a) : val out = val a - val b := by
  have e := h.eq
  have h3 := h.rng
  rw [List.take_length, List.take_of_length_le hl] at e
  have h1 := val_lt h.dg
  rw [h.len] at h1
  by_cases hb : br = 0
  · subst hb
    omega
  · have : br = 1 := by omega
    subst this
    omega
set_option maxRecDepth 100000 in
set_option maxHeartbeats 8000000 in
theorem sub_any {A A' : Option Addr} {n n' c c' : Nat} {a b : List Int} (w : World) (hn : a.length = n) (hn' : b.length = n') (ha : Ints w A a) (hb : Ints w A' b) (da : Dg a) (db : Dg b) (hl : n' ≤ n) (hv : val b ≤ val a) (hbig : n ≤ 1000) :
    Calls Tryd.prog 34 #[.slice A n c, .slice A' n' c'] w fun e w' => ∃ A2 c2 l, e = .returned (.slice A2 l.length c2) ∧ Ints w' A2 l ∧ Nm l (val a - val b) ∧ Below w.heap.size w w' := by
  have HN := Lib.hid hn
  have HN' := Lib.hid hn'
  have HDA := Lib.hid da
  have HDB := Lib.hid db
  have HV := Lib.hid hv
  have HLL : Hid (b.length ≤ a.length) := Lib.hid (by omega)
  obtain ⟨iI, hiI, hzI, hyI, hxI⟩ := info_parts infoI
  have hmk : ∀ W : World, (Instr.makeSlice 22 (.int .i64 n) (.int .i64 n)).run Tryd.prog W = .ok (.slice (some ⟨W.heap.size, 0, none⟩) n n) (W.alloc (.cells (ics (List.replicate n 0)) 3)) := fun W => by
    have hr := run_make (P := Tryd.prog) W 22 3 iI (.int .i64 0) Tryd.underlying22 hiI hzI .i64 .i64 n n (by omega) (Int.le_refl _) (by rw [hxI]; omega) (by omega)
    rw [hyI, Int.toNat_natCast, made_ints] at hr
    exact hr
  clear hn hn' da db hv hiI hzI hyI hxI
  go_enter Tryd.func34, Tryd.ntmps34
  go_wp2
  clear hmk
  go_loopw [6, 15] (fun bv iv wr => ∃ (k : Nat) (out : List Int) (br : Int), k ≤ n ∧ iv = .int .i64 k ∧ bv = .int .i64 br ∧ Hid (Row wr w.heap.size 3 (ics (out ++ List.replicate (n - k) 0))) ∧ Hid (Sb a b out k br) ∧ Hid (Below w.heap.size w wr)) (fun _ iv _ => n - (intOf iv).toNat)
  case atStart => exact ⟨0, [], 0, Nat.zero_le _, rfl, rfl, Lib.hid (Row.new _ _ _), Lib.hid (Sb.start a b), Lib.hid (Gen.b_alloc (Below.refl _ _))⟩
  case round =>
    obtain ⟨k, out, br, hk, rfl, rfl, HR, HS, HB⟩ := hrel
    have k0 : (0 : Int) ≤ (k : Int) := by omega
    obtain ⟨y0, y1⟩ := HS.out.rng
    by_cases hlt : k < n
    · have hltI : (k : Int) < (n : Int) := by omega
      obtain ⟨bl, ol, rfl, hcell⟩ := (ha.keep HB.out) (by rw [HN.out]; omega)
      obtain ⟨x, hx⟩ := at_ a k (by rw [HN.out]; exact hlt)
      have c0 := hcell k x hx
      obtain ⟨x0, x1⟩ := HDA.out.at_ hx
      have HX := Lib.hid hx
      have hg := HR.out.lt
      have l1 : wr.cell? ⟨w.heap.size, k, none⟩ = some (.int .i64 0) := HR.out.intAt (at_fill HS.out.len hlt)
      have hf := HR.out.frozen k
      clear hcell hx
      have w1 : IntKind.i64.wrap (x - br) = x - br := IntWalk.i64_in _ (by omega)
      by_cases hlb : k < n'
      · have hlbI : (k : Int) < (n' : Int) := by omega
        obtain ⟨bm, om, rfl, hcell⟩ := (hb.keep HB.out) (by rw [HN'.out]; omega)
        obtain ⟨y, hy⟩ := at_ b k (by rw [HN'.out]; exact hlb)
        have c1 := hcell k y hy
        obtain ⟨z0, z1⟩ := HDB.out.at_ hy
        have w2 : IntKind.i64.wrap (x - br - y) = x - br - y := IntWalk.i64_in _ (by omega)
        have hs := HS.out.step HDA.out HDB.out HX.out hy
        have hand := and_mask (x - br - y) (by omega)
        have hone := and_one (q := (x - br - y) / 1048576) (by omega)
        obtain ⟨d, hd⟩ : ∃ d, (x - br - y) % 1048576 = d := ⟨_, rfl⟩
        obtain ⟨q, hq⟩ : ∃ q, (x - br - y) / 1048576 = q := ⟨_, rfl⟩
        rw [hd, hq] at hs
        rw [hd] at hand
        rw [hq] at hone
        have HS2 := Lib.hid hs
        have HR2 : Hid (Row (wr.setCell ⟨w.heap.size, k, none⟩ (.int .i64 d)) w.heap.size 3 (ics ((out ++ [d]) ++ List.replicate (n - (k + 1)) 0))) := Lib.hid (by
          rw [← set_fill HS.out.len hlt, ← ics_set]
          exact HR.out.set _ _)
        have HB2 : Hid (Below w.heap.size w (wr.setCell ⟨w.heap.size, k, none⟩ (.int .i64 d))) := Lib.hid (Gen.b_set HB.out (Nat.le_refl _))
        clear hcell hy hs hd
        go_wp2
        go_roundw
        case rel => exact ⟨k + 1, out ++ [d], -q, by omega, by go_num, rfl, HR2, HS2, HB2⟩
        case measure => simp [intOf]; omega
      · have hlbI : ¬ ((k : Int) < (n' : Int)) := by omega
        have hs := HS.out.step1 HDA.out HX.out (show b.length ≤ k by rw [HN'.out]; omega)
        have hand := and_mask (x - br) (by omega)
        have hone := and_one (q := (x - br) / 1048576) (by omega)
        obtain ⟨d, hd⟩ : ∃ d, (x - br) % 1048576 = d := ⟨_, rfl⟩
        obtain ⟨q, hq⟩ : ∃ q, (x - br) / 1048576 = q := ⟨_, rfl⟩
        rw [hd, hq] at hs
        rw [hd] at hand
        rw [hq] at hone
        have HS2 := Lib.hid hs
        have HR2 : Hid (Row (wr.setCell ⟨w.heap.size, k, none⟩ (.int .i64 d)) w.heap.size 3 (ics ((out ++ [d]) ++ List.replicate (n - (k + 1)) 0))) := Lib.hid (by
          rw [← set_fill HS.out.len hlt, ← ics_set]
          exact HR.out.set _ _)
        have HB2 : Hid (Below w.heap.size w (wr.setCell ⟨w.heap.size, k, none⟩ (.int .i64 d))) := Lib.hid (Gen.b_set HB.out (Nat.le_refl _))
        clear hs hd
        go_wp2
        go_roundw
        case rel => exact ⟨k + 1, out ++ [d], -q, by omega, by go_num, rfl, HR2, HS2, HB2⟩
        case measure => simp [intOf]; omega
    · obtain rfl : n = k := by omega
      have HE : Hid (val out = val a - val b) := Lib.hid (by
        have h := HS.out
        rw [← HN.out] at h
        exact h.done HLL.out HV.out)
      have HI : Hid (Ints wr (some ⟨w.heap.size, 0, none⟩) out) := Lib.hid (by
        have h := HR.out
        rw [Nat.sub_self, List.replicate_zero, List.append_nil] at h
        exact h.ints)
      go_wp2_with (fail)
      go_must (refine (trim_any _ n n out _ HS.out.len HI.out (Nat.le_refl _) (by omega)).mono ?_)
      rintro e w2 ⟨k, hkn, rfl, hT, hV, rfl⟩
      have HT := Lib.hid hT
      have HVV := Lib.hid hV
      clear hT hV
      go_wp2
      go_ret
      exact ⟨_, n, out.take k, by rw [List.length_take, HS.out.len, Nat.min_eq_left hkn]; rfl, ints_take HI.out k, ⟨HS.out.dg.take k, HT.out, HVV.out.trans HE.out⟩, HB.out⟩
end Go.Proofs.YtnifkianjpjahaaDoor.Bg
