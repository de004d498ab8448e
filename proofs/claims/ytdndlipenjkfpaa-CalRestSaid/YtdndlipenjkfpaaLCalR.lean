/- CalRest returns true: every calendar, two days, and number; no condition. -/
import Derived.Test.YtdndlipenjkfpaaLCalB
import Derived.Test.YtdndlipenjkfpaaSchB
import Derived.Deep.RegionLaw
namespace Go.Proofs.Ytdndlipenjkfpaa.Dat
open Go.ChangeShapes Go.WideShapes Go.ChangeAt Go.RowKit Go.Proofs.Ytdndlipenjkfpaa.Cell
set_option linter.unusedVariables false
set_option linter.unusedSimpArgs false

section
variable {A A' : Option Addr} {n cap m cap' : Nat} {rs ds : List Int}
theorem sk5 {w W W' : World} {g g' n cap m cap' : Nat} {A A' A5 : Option Addr} {rs ds L : List Int} {v0 v1 v2 v3 : Value} (hb : Below W.heap.size W W') (h : Hd w g A n cap A' m cap' rs ds W ∧ Ints W A5 L ∧ W.cell? ⟨g, 0, none⟩ = some v0 ∧ W.cell? ⟨g, 1, none⟩ = some v1 ∧ W.cell? ⟨g', 0, none⟩ = some v2 ∧ W.cell? ⟨g', 1, none⟩ = some v3) :
    Hd w g A n cap A' m cap' rs ds W' ∧ Ints W' A5 L ∧ W'.cell? ⟨g, 0, none⟩ = some v0 ∧ W'.cell? ⟨g, 1, none⟩ = some v1 ∧ W'.cell? ⟨g', 0, none⟩ = some v2 ∧ W'.cell? ⟨g', 1, none⟩ = some v3 :=
  ⟨h.1.keep hb, h.2.1.keep hb, Gen.keep hb h.2.2.1, Gen.keep hb h.2.2.2.1, Gen.keep hb h.2.2.2.2.1, Gen.keep hb h.2.2.2.2.2⟩
theorem bd_sub {rs ds : List Int} {r b m : Int} (h : ascA m b ds = true) (k : Int) (hk : bd rs (insA r false ds) k = true) : bd rs ds k = true := by
  rw [ins_bd h] at hk
  simp at hk
  exact hk.1
set_option maxRecDepth 100000 in
set_option maxHeartbeats 1000000 in
theorem rest_few (r day a3 : Int) (w : World) (hn : rs.length = n) (hc : Ints w A rs) (hm : ds.length = m) (hc' : Ints w A' ds) (hbig : n ≤ 9223372036854775807) (hbig' : m ≤ 9223372036854775807) (h : (decide (n ≤ 20) && decide (m ≤ 20)) = false) :
    Calls Try.prog 7 #[.agg #[.slice A n cap, .slice A' m cap'], .int .i64 r, .int .i64 day, .int .u8 a3] w fun e w' => e = .returned (.bool true) ∧ Below w.heap.size w w' := by
  have h0 := Hd.new (n := n) (cap := cap) (m := m) (cap' := cap') w hc hc'
  have HN := Lib.hid hn
  have HM := Lib.hid hm
  clear hn hm hc hc'
  have HF := Lib.hid h
  clear h
  go_enter Try.func7, Try.ntmps7
  go_wp2_with (fail)
  go_must (refine (small_any _).mono ?_)
  rintro e w1 ⟨rfl, hb⟩
  have h1 := h0.keep hb
  have k0 := h1.c0
  have k1 := h1.c1
  clear h0 hb
  go_wp2_with (fail)
  go_must (refine (few_is _ (by assumption) (by assumption) HF.out).mono ?_)
  rintro e w2 ⟨rfl, hb⟩
  have h2 := h1.keep hb
  have k0 := h2.c0
  have k1 := h2.c1
  clear h1 hb
  go_wp2
  go_ret
  exact ⟨rfl, h2.b⟩

set_option maxRecDepth 100000 in
set_option maxHeartbeats 1000000 in
theorem rest_m (r day a3 : Int) (w : World) (hn : rs.length = n) (hc : Ints w A rs) (hm : ds.length = m) (hc' : Ints w A' ds) (hf : (decide (n ≤ 20) && decide (m ≤ 20)) = true) (hm20 : 19 < m) :
    Calls Try.prog 7 #[.agg #[.slice A n cap, .slice A' m cap'], .int .i64 r, .int .i64 day, .int .u8 a3] w fun e w' => e = .returned (.bool true) ∧ Below w.heap.size w w' := by
  have h0 := Hd.new (n := n) (cap := cap) (m := m) (cap' := cap') w hc hc'
  have HN := Lib.hid hn
  have HM := Lib.hid hm
  clear hn hm hc hc'
  have HF := Lib.hid hf
  obtain ⟨f1, f2⟩ := few_in hf
  clear hf
  go_enter Try.func7, Try.ntmps7
  go_wp2_with (fail)
  go_must (refine (small_any _).mono ?_)
  rintro e w1 ⟨rfl, hb⟩
  have h1 := h0.keep hb
  have k0 := h1.c0
  have k1 := h1.c1
  clear h0 hb
  go_wp2_with (fail)
  go_must (refine (few_is _ (by omega) (by omega) HF.out).mono ?_)
  rintro e w2 ⟨rfl, hb⟩
  have h2 := h1.keep hb
  have k0 := h2.c0
  have k1 := h2.c1
  clear h1 hb
  go_wp2
  go_ret
  exact ⟨rfl, h2.b⟩

set_option maxRecDepth 100000 in
set_option maxHeartbeats 1000000 in
theorem rest_right (r day a3 : Int) (w : World) (hn : rs.length = n) (hc : Ints w A rs) (hm : ds.length = m) (hc' : Ints w A' ds) (hf : (decide (n ≤ 20) && decide (m ≤ 20)) = true) (hm19 : m ≤ 19) (h : rt rs ds = false) :
    Calls Try.prog 7 #[.agg #[.slice A n cap, .slice A' m cap'], .int .i64 r, .int .i64 day, .int .u8 a3] w fun e w' => e = .returned (.bool true) ∧ Below w.heap.size w w' := by
  have h0 := Hd.new (n := n) (cap := cap) (m := m) (cap' := cap') w hc hc'
  have HN := Lib.hid hn
  have HM := Lib.hid hm
  clear hn hm hc hc'
  have HF := Lib.hid hf
  obtain ⟨f1, f2⟩ := few_in hf
  have R := Lib.hid h
  clear h hf
  go_enter Try.func7, Try.ntmps7
  go_wp2_with (fail)
  go_must (refine (small_any _).mono ?_)
  rintro e w1 ⟨rfl, hb⟩
  have h1 := h0.keep hb
  have k0 := h1.c0
  have k1 := h1.c1
  clear h0 hb
  go_wp2_with (fail)
  go_must (refine (few_is _ (by omega) (by omega) HF.out).mono ?_)
  rintro e w2 ⟨rfl, hb⟩
  have h2 := h1.keep hb
  have k0 := h2.c0
  have k1 := h2.c1
  clear h1 hb
  go_wp2_with (fail)
  go_must (refine (right_is _ HN.out h2.i (by omega) HM.out h2.j (by omega) R.out).mono ?_)
  rintro e w3 ⟨rfl, hb⟩
  have h3 := h2.keep hb
  have k0 := h3.c0
  have k1 := h3.c1
  clear h2 hb
  go_wp2
  go_ret
  exact ⟨rfl, h3.b⟩

set_option maxRecDepth 100000 in
set_option maxHeartbeats 2000000 in
theorem rest_out (r day a3 : Int) (w : World) (hn : rs.length = n) (hc : Ints w A rs) (hm : ds.length = m) (hc' : Ints w A' ds) (hf : (decide (n ≤ 20) && decide (m ≤ 20)) = true) (hm19 : m ≤ 19) (h : rt rs ds = true) (ho : day < 0 ∨ (0 ≤ day ∧ 200000 < day) ∨ (0 ≤ day ∧ day ≤ 200000 ∧ r < 0) ∨ (0 ≤ day ∧ day ≤ 200000 ∧ 0 ≤ r ∧ 200000 < r)) :
    Calls Try.prog 7 #[.agg #[.slice A n cap, .slice A' m cap'], .int .i64 r, .int .i64 day, .int .u8 a3] w fun e w' => e = .returned (.bool true) ∧ Below w.heap.size w w' := by
  have h0 := Hd.new (n := n) (cap := cap) (m := m) (cap' := cap') w hc hc'
  have HN := Lib.hid hn
  have HM := Lib.hid hm
  clear hn hm hc hc'
  have HF := Lib.hid hf
  obtain ⟨f1, f2⟩ := few_in hf
  have R := Lib.hid h
  clear h hf
  rcases ho with o1 | ⟨o1, o2⟩ | ⟨o1, o2, o3⟩ | ⟨o1, o2, o3, o4⟩
  all_goals
    go_enter Try.func7, Try.ntmps7
    go_wp2_with (fail)
    go_must (refine (small_any _).mono ?_)
    rintro e w1 ⟨rfl, hb⟩
    have h1 := h0.keep hb
    have k0 := h1.c0
    have k1 := h1.c1
    clear h0 hb
    go_wp2_with (fail)
    go_must (refine (few_is _ (by omega) (by omega) HF.out).mono ?_)
    rintro e w2 ⟨rfl, hb⟩
    have h2 := h1.keep hb
    have k0 := h2.c0
    have k1 := h2.c1
    clear h1 hb
    go_wp2_with (fail)
    go_must (refine (right_is _ HN.out h2.i (by omega) HM.out h2.j (by omega) R.out).mono ?_)
    rintro e w3 ⟨rfl, hb⟩
    have h3 := h2.keep hb
    have k0 := h3.c0
    have k1 := h3.c1
    clear h2 hb
    go_wp2
    go_ret
    exact ⟨rfl, h3.b⟩

set_option maxRecDepth 100000 in
set_option maxHeartbeats 40000000 in
theorem rest_in {q : Nat} {L : List Int} (r day a3 p x1 e1 x2 e2 y1 f1 y2 f2 : Int) (w : World) (hn : rs.length = n) (hc : Ints w A rs) (hm : ds.length = m) (hc' : Ints w A' ds) (hf : (decide (n ≤ 20) && decide (m ≤ 20)) = true) (hm19 : m ≤ 19) (hr : rt rs ds = true) (r0 : 0 ≤ r) (r1 : r ≤ 200000) (d0 : 0 ≤ day) (d1 : day ≤ 200000) (u0 : 0 ≤ a3) (u1 : a3 ≤ 255) (hp : a3 % 40 = p) (hL : insA r false ds = L) (hq : L.length = q)
    (hx1 : nx (bd rs ds) day = (x1, e1)) (hx2 : nx (bd rs L) day = (x2, e2)) (hy1 : bk (bd rs ds) p.toNat day = (y1, f1)) (hy2 : bk (bd rs L) p.toNat day = (y2, f2))
    (g1 : (e2 = 0 ∧ e1 = 0 ∧ x1 ≤ x2) ∨ e2 = 3) (g2 : (f2 = 0 ∧ f1 = 0 ∧ y2 ≤ y1) ∨ f2 = 3) :
    Calls Try.prog 7 #[.agg #[.slice A n cap, .slice A' m cap'], .int .i64 r, .int .i64 day, .int .u8 a3] w fun e w' => e = .returned (.bool true) ∧ Below w.heap.size w w' := by
  have h0 := Hd.new (n := n) (cap := cap) (m := m) (cap' := cap') w hc hc'
  have HN := Lib.hid hn
  have HM := Lib.hid hm
  clear hn hm hc hc'
  have HF := Lib.hid hf
  obtain ⟨f1', f2'⟩ := few_in hf
  have p0 : 0 ≤ p := by omega
  have p1 : p ≤ 39 := by omega
  have hr2 : rt rs L = true := by rw [← hL]; exact ins_rt hr r0 r1 (by rw [HM.out]; exact hm19)
  have q20 : q ≤ 20 := by
    have := insA_len (r := r) false ds
    rw [hL, hq, HM.out] at this
    omega
  have R := Lib.hid hr
  have R2 := Lib.hid hr2
  have P := Lib.hid hp
  have HL := Lib.hid hL
  have Q := Lib.hid hq
  have X1 := Lib.hid (adO_1 hr d0 d1 hx1)
  have X2 := Lib.hid (adO_1 hr2 d0 d1 hx2)
  have Y1 := Lib.hid (bkO_0 (x := y1) (e := f1) hr d0 d1 p0 (by omega) hy1)
  have Y2 := Lib.hid (bkO_0 (x := y2) (e := f2) hr2 d0 d1 p0 (by omega) hy2)
  have AS := Lib.hid (rt_in hr).2.2.2
  have Z := Lib.hid (show bz rs L r = false from by rw [bz_of hr2 r0 r1, ← hL, ins_bd (rt_in hr).2.2.2]; simp)
  have ZD := Lib.hid (show day ≠ r → bz rs L day = bz rs ds day from fun h => by rw [bz_of hr2 d0 d1, bz_of hr d0 d1, ← hL, ins_bd (rt_in hr).2.2.2]; simp [h])
  have G1 := Lib.hid g1
  have G2 := Lib.hid g2
  clear hr hr2 hp hL hq hx1 hx2 hy1 hy2 hf g1 g2
  obtain ⟨i0, hi0, hz0, hz1, hz2⟩ := info_parts infoInt
  have M3 := Lib.hid (show 0 < 1 from by omega)
  go_enter Try.func7, Try.ntmps7
  go_wp2_with (fail)
  go_must (refine (small_any _).mono ?_)
  rintro e w1 ⟨rfl, hb⟩
  have h1 := h0.keep hb
  have k0 := h1.c0
  have k1 := h1.c1
  clear h0 hb
  go_wp2_with (fail)
  go_must (refine (few_is _ (by omega) (by omega) HF.out).mono ?_)
  rintro e w2 ⟨rfl, hb⟩
  have h2 := h1.keep hb
  have k0 := h2.c0
  have k1 := h2.c1
  clear h1 hb
  go_wp2_with (fail)
  go_must (refine (right_is _ HN.out h2.i (by omega) HM.out h2.j (by omega) R.out).mono ?_)
  rintro e w3 ⟨rfl, hb⟩
  have h3 := h2.keep hb
  have k0 := h3.c0
  have k1 := h3.c1
  clear h2 hb
  have hrow0 : Row (w3.alloc (.cells #[.slice A n cap, .slice none 0 0] 24)) w3.heap.size 24 #[.slice A n cap, .slice none 0 0] := Row.new _ _ _
  have hgw : w.heap.size < w3.heap.size := h3.r.lt
  go_wp2_with (fail)
  clear k0 k1
  go_loopw [11, 12] (fun pv kv wr => ∃ (k : Nat) (acc : List Int) (put : Bool) (v : Value), k ≤ m ∧ kv = .int .i64 k ∧ pv = .bool put ∧ acc.length ≤ 2 * k ∧ wr.ownsRow (w3.heap.size + 1) 3 1 v acc.length (acc.map (Value.int .i64)) ∧ Hid (L = acc ++ insA r put (ds.drop k)) ∧ Row wr w3.heap.size 24 #[.slice A n cap, v] ∧ Below w3.heap.size w3 wr) (fun _ kv _ => m - (intOf kv).toNat)
  case atStart => exact ⟨0, [], false, _, Nat.zero_le _, rfl, rfl, Nat.zero_le _, ⟨rfl, .inl ⟨rfl, rfl⟩⟩, Lib.hid HL.out.symm, hrow0, Gen.b_alloc (Below.refl _ _)⟩
  case round =>
    obtain ⟨k, acc, put, v, hk, rfl, rfl, hle, hown, HA, hrow, hW⟩ := hrel
    have hS : w3.heap.size + 1 ≤ wr.heap.size := hrow.lt
    have h4 := h3.keep hW
    have k0 := h4.c0
    have k1 := h4.c1
    have b0 : wr.cell? ⟨w3.heap.size, 0, none⟩ = some (.slice A n cap) := hrow.cell 0
    have b1 : wr.cell? ⟨w3.heap.size, 1, none⟩ = some v := hrow.cell 1
    have bf1 := hrow.frozen 1
    clear hrow0
    by_cases hlt : k < m
    · obtain ⟨bb, off, rfl, hcell⟩ := h3.j (by rw [HM.out]; omega)
      obtain ⟨z, hz⟩ := Cell.at_ ds k (by rw [HM.out]; exact hlt)
      have d3 := hcell k z hz
      have d0' := Gen.keep hW d3
      have hbb : bb < w3.heap.size := World.block_lt_of_cell? w3 ⟨bb, off + k, none⟩ d3
      have ba1 : (wr.alloc (.cells #[.int .i64 z] 3)).cell? ⟨w3.heap.size, 1, none⟩ = some v := Gen.al b1
      have kk0 : (0 : Int) ≤ (k : Int) := by omega
      have kk1 : (k : Int) < (m : Int) := by omega
      have ST := Lib.hid (show insA r put (ds.drop k) = (if r ≤ z ∧ put = false then [r] else []) ++ ((if z = r then [] else [z]) ++ insA r (put || decide (r ≤ z)) (ds.drop (k + 1))) from by rw [drop_cons hz, insA])
      have N1 := Lib.hid (show acc.length + 1 ≤ maxLen from by simp only [maxLen]; omega)
      have N2 := Lib.hid (show (acc.length + 1) * 8 ≤ 140737488355328 from by omega)
      have N3 := Lib.hid (show acc.length + 1 + 1 ≤ maxLen from by simp only [maxLen]; omega)
      have N4 := Lib.hid (show (acc.length + 1 + 1) * 8 ≤ 140737488355328 from by omega)
      have KE := Lib.hid hle
      have HZ := Lib.hid hz
      clear hcell hz
      cases put
      · by_cases hrz : r ≤ z
        · by_cases hzr : z = r
          · have HS := Lib.hid (show L = (acc ++ [r]) ++ insA r true (ds.drop (k + 1)) from by rw [HA.out, ST.out, if_pos ⟨hrz, rfl⟩, if_pos hzr, Bool.false_or, decide_eq_true hrz]; try simp)
            have bz : (z != r) = false := by simp [hzr]
            clear hzr
            go_wp2_with (first
          | (at_builtin
             go_must (refine App.wpList_append_any _ rfl (.tmp 75) (.tmp 77) _ rfl (w3.heap.size + 1) 3 i0 _ 1 8 Try.underlying22 hi0 hz0 hz1 hz2 rfl M3.out v _ _ rfl (Gen.own_keep hown (Gen.b_alloc (Below.refl _ _))) _ _ 1 1 [.int .i64 r] rfl (Gen.reads_blk (by simp) rfl) (by simp [Value.oneCell']) N1.out N2.out (Nat.le_trans hS (Gen.b_alloc (Below.refl _ _)).size) ?_)
             intro v2 w7 hown7 hg7 hat7
             have hB7 := Gen.g_below hown hg7 (Gen.b_alloc hW) (Nat.le_succ _)
             have hR7 := Gen.g_row hown hg7 (Nat.lt_succ_self _) (hrow.alloc _)
             have cc0 : w7.cell? ⟨w3.heap.size, 0, none⟩ = some (.slice A n cap) := hR7.cell 0
             have cc1 : w7.cell? ⟨w3.heap.size, 1, none⟩ = some v := hR7.cell 1
             have cf1 := hR7.frozen 1
             obtain ⟨A5, c5, rfl, hr5⟩ := Gen.own_slice hown7
             clear hg7 hat7 hr5 b0 b1 bf1 ba1
             have h7 := h3.keep hB7
             have k17 := h7.c1
             have d7 := Gen.keep hB7 d3
             clear d0' k0 k1 h4)
          | fail)
            have hR8 : Row (w7.setCell ⟨w3.heap.size, 1, none⟩ (.slice A5 (acc.length + 1) c5)) w3.heap.size 24 #[.slice A n cap, .slice A5 (acc.length + 1) c5] := hR7.set 1 _
            have hB8 : Below w3.heap.size w3 (w7.setCell ⟨w3.heap.size, 1, none⟩ (.slice A5 (acc.length + 1) c5)) := Gen.b_set hB7 (Nat.le_refl _)
            have hown8 : (w7.setCell ⟨w3.heap.size, 1, none⟩ (.slice A5 (acc.length + 1) c5)).ownsRow (w3.heap.size + 1) 3 1 (.slice A5 (acc.length + 1) c5) (acc.length + 1) (acc.map (Value.int .i64) ++ [.int .i64 r]) := ownsRow_setCell_below hown7 (Nat.lt_succ_self _) _
            go_roundw
            case rel => exact ⟨k + 1, acc ++ [r], true, _, by omega, by go_num, rfl, by have := KE.out; (try simp only [List.length_append, List.length_singleton]); omega, by simp only [List.length_append, List.length_singleton, List.map_append, List.map_cons, List.map_nil]; exact hown8, HS, hR8, hB8⟩
            case measure => simp [intOf] <;> omega
          · have HS := Lib.hid (show L = ((acc ++ [r]) ++ [z]) ++ insA r true (ds.drop (k + 1)) from by rw [HA.out, ST.out, if_pos ⟨hrz, rfl⟩, if_neg hzr, Bool.false_or, decide_eq_true hrz]; try simp)
            have bz : (z != r) = true := by simpa using hzr
            clear hzr
            go_wp2_with (first
          | (at_builtin
             go_must (refine App.wpList_append_any _ rfl (.tmp 75) (.tmp 77) _ rfl (w3.heap.size + 1) 3 i0 _ 1 8 Try.underlying22 hi0 hz0 hz1 hz2 rfl M3.out v _ _ rfl (Gen.own_keep hown (Gen.b_alloc (Below.refl _ _))) _ _ 1 1 [.int .i64 r] rfl (Gen.reads_blk (by simp) rfl) (by simp [Value.oneCell']) N1.out N2.out (Nat.le_trans hS (Gen.b_alloc (Below.refl _ _)).size) ?_)
             intro v2 w7 hown7 hg7 hat7
             have hB7 := Gen.g_below hown hg7 (Gen.b_alloc hW) (Nat.le_succ _)
             have hR7 := Gen.g_row hown hg7 (Nat.lt_succ_self _) (hrow.alloc _)
             have cc0 : w7.cell? ⟨w3.heap.size, 0, none⟩ = some (.slice A n cap) := hR7.cell 0
             have cc1 : w7.cell? ⟨w3.heap.size, 1, none⟩ = some v := hR7.cell 1
             have cf1 := hR7.frozen 1
             obtain ⟨A5, c5, rfl, hr5⟩ := Gen.own_slice hown7
             clear hg7 hat7 hr5 b0 b1 bf1 ba1
             have h7 := h3.keep hB7
             have k17 := h7.c1
             have d7 := Gen.keep hB7 d3
             clear d0' k0 k1 h4)
          | fail)
            have hR8 : Row (w7.setCell ⟨w3.heap.size, 1, none⟩ (.slice A5 (acc.length + 1) c5)) w3.heap.size 24 #[.slice A n cap, .slice A5 (acc.length + 1) c5] := hR7.set 1 _
            have hB8 : Below w3.heap.size w3 (w7.setCell ⟨w3.heap.size, 1, none⟩ (.slice A5 (acc.length + 1) c5)) := Gen.b_set hB7 (Nat.le_refl _)
            have hown8 : (w7.setCell ⟨w3.heap.size, 1, none⟩ (.slice A5 (acc.length + 1) c5)).ownsRow (w3.heap.size + 1) 3 1 (.slice A5 (acc.length + 1) c5) (acc.length + 1) (acc.map (Value.int .i64) ++ [.int .i64 r]) := ownsRow_setCell_below hown7 (Nat.lt_succ_self _) _
            have h9 := h3.keep hB8
            have k1 := h9.c1
            have d0' := Gen.keep hB8 d3
            have b1 : (w7.setCell ⟨w3.heap.size, 1, none⟩ (.slice A5 (acc.length + 1) c5)).cell? ⟨w3.heap.size, 1, none⟩ = some (.slice A5 (acc.length + 1) c5) := hR8.cell 1
            have hS8 : w3.heap.size + 1 ≤ (w7.setCell ⟨w3.heap.size, 1, none⟩ (.slice A5 (acc.length + 1) c5)).heap.size := hR8.lt
            have ba1 := Gen.al (o := .cells #[.int .i64 z] 3) b1
            clear h9 h7 k17 d7 hown7 hR7 hB7 cc0 cc1 cf1
            generalize w7.setCell ⟨w3.heap.size, 1, none⟩ (.slice A5 (acc.length + 1) c5) = w8 at *
            go_region_law (((refine App.step_append_any _ (by rfl) (.tmp 88) (.tmp 94) 22 (by rfl) (w3.heap.size + 1) 3 i0 _ 1 8 Try.underlying22 hi0 hz0 hz1 hz2 rfl M3.out (.slice A5 (acc.length + 1) c5) (acc.length + 1) (acc.map (Value.int .i64) ++ [.int .i64 r]) (by simp [Act.eval, Act.put]) (Gen.own_keep hown8 (Gen.b_alloc (Below.refl _ _).drew)) (w8.heap.size + 1) (some ⟨w8.heap.size, 0, none⟩) 1 1 [.int .i64 z] (by simp [Act.eval, Act.put]) (Gen.reads_blk (by simp) rfl) (by simp [Value.oneCell']) N3.out N4.out (Nat.le_trans hS8 (Gen.b_alloc (Below.refl _ _).drew).size) ?_); intro v3 w9 hown9 hg9 hat9; have hB9 := Gen.g_below hown8 hg9 (Gen.b_alloc hB8.drew) (Nat.le_succ _); have hR9 := Gen.g_row hown8 hg9 (Nat.lt_succ_self _) (Row.alloc (w := w8.drew) hR8 _); have ce1 : w9.cell? ⟨w3.heap.size, 1, none⟩ = some (.slice A5 (acc.length + 1) c5) := hR9.cell 1; have cg1 := hR9.frozen 1; obtain ⟨A6, c6, rfl, hr6⟩ := Gen.own_slice hown9; clear hg9 hat9 hr6))
            all_goals
              go_wp2
              go_roundw
              case rel => exact ⟨k + 1, (acc ++ [r]) ++ [z], true, _, by omega, by go_num, rfl, by simp only [List.length_append, List.length_singleton]; have := KE.out; omega, by simp only [List.length_append, List.length_singleton, List.map_append, List.map_cons, List.map_nil]; exact ownsRow_setCell_below hown9 (Nat.lt_succ_self _) _, HS, hR9.set 1 _, Gen.b_set hB9 (Nat.le_refl _)⟩
              case measure => simp [intOf] <;> omega
        · have HS := Lib.hid (show L = (acc ++ [z]) ++ insA r false (ds.drop (k + 1)) from by rw [HA.out, ST.out, if_neg (fun h => hrz h.1), if_neg (show ¬ z = r by omega), Bool.false_or, decide_eq_false hrz]; try simp)
          have bz : (z != r) = true := by simp; omega
          have hrz2 : z < r := by omega
          clear hrz
          go_wp2
          go_region_law (((refine App.step_append_any _ (by rfl) (.tmp 88) (.tmp 94) 22 (by rfl) (w3.heap.size + 1) 3 i0 _ 1 8 Try.underlying22 hi0 hz0 hz1 hz2 rfl M3.out v acc.length (acc.map (Value.int .i64)) (by simp [Act.eval, Act.put]) (Gen.own_keep hown (Gen.b_alloc (Below.refl _ _).drew)) (wr.heap.size + 1) (some ⟨wr.heap.size, 0, none⟩) 1 1 [.int .i64 z] (by simp [Act.eval, Act.put]) (Gen.reads_blk (by simp) rfl) (by simp [Value.oneCell']) N1.out N2.out (Nat.le_trans hS (Gen.b_alloc (Below.refl _ _).drew).size) ?_); intro v3 w9 hown9 hg9 hat9; have hB9 := Gen.g_below hown hg9 (Gen.b_alloc hW.drew) (Nat.le_succ _); have hR9 := Gen.g_row hown hg9 (Nat.lt_succ_self _) (Row.alloc (w := wr.drew) hrow _); have ce1 : w9.cell? ⟨w3.heap.size, 1, none⟩ = some v := hR9.cell 1; have cg1 := hR9.frozen 1; obtain ⟨A6, c6, rfl, hr6⟩ := Gen.own_slice hown9; clear hg9 hat9 hr6))
          all_goals
            go_wp2
            go_roundw
            case rel => exact ⟨k + 1, acc ++ [z], false, _, by omega, by go_num, rfl, by simp only [List.length_append, List.length_singleton]; have := KE.out; omega, by simp only [List.length_append, List.length_singleton, List.map_append, List.map_cons, List.map_nil]; exact ownsRow_setCell_below hown9 (Nat.lt_succ_self _) _, HS, hR9.set 1 _, Gen.b_set hB9 (Nat.le_refl _)⟩
            case measure => simp [intOf] <;> omega
      · by_cases hzr : z = r
        · have HS := Lib.hid (show L = acc ++ insA r true (ds.drop (k + 1)) from by rw [HA.out, ST.out, if_neg (show ¬ (r ≤ z ∧ true = false) by simp), if_pos hzr, Bool.true_or]; try simp)
          have bz : (z != r) = false := by simp [hzr]
          have hrz : r ≤ z := by omega
          clear hzr
          go_wp2
          go_roundw
          case rel => exact ⟨k + 1, acc, true, _, by omega, by go_num, rfl, by have := KE.out; (try simp only [List.length_append, List.length_singleton]); omega, hown, HS, hrow, hW⟩
          case measure => simp [intOf] <;> omega
        · have HS := Lib.hid (show L = (acc ++ [z]) ++ insA r true (ds.drop (k + 1)) from by rw [HA.out, ST.out, if_neg (show ¬ (r ≤ z ∧ true = false) by simp), if_neg hzr, Bool.true_or]; try simp)
          have bz : (z != r) = true := by simpa using hzr
          clear hzr
          rcases (show r ≤ z ∨ z < r by omega) with hrz | hrz
          all_goals
            go_wp2
            go_region_law (((refine App.step_append_any _ (by rfl) (.tmp 88) (.tmp 94) 22 (by rfl) (w3.heap.size + 1) 3 i0 _ 1 8 Try.underlying22 hi0 hz0 hz1 hz2 rfl M3.out v acc.length (acc.map (Value.int .i64)) (by simp [Act.eval, Act.put]) (Gen.own_keep hown (Gen.b_alloc (Below.refl _ _).drew)) (wr.heap.size + 1) (some ⟨wr.heap.size, 0, none⟩) 1 1 [.int .i64 z] (by simp [Act.eval, Act.put]) (Gen.reads_blk (by simp) rfl) (by simp [Value.oneCell']) N1.out N2.out (Nat.le_trans hS (Gen.b_alloc (Below.refl _ _).drew).size) ?_); intro v3 w9 hown9 hg9 hat9; have hB9 := Gen.g_below hown hg9 (Gen.b_alloc hW.drew) (Nat.le_succ _); have hR9 := Gen.g_row hown hg9 (Nat.lt_succ_self _) (Row.alloc (w := wr.drew) hrow _); have ce1 : w9.cell? ⟨w3.heap.size, 1, none⟩ = some v := hR9.cell 1; have cg1 := hR9.frozen 1; obtain ⟨A6, c6, rfl, hr6⟩ := Gen.own_slice hown9; clear hg9 hat9 hr6))
            all_goals
              go_wp2
              go_roundw
              case rel => exact ⟨k + 1, acc ++ [z], true, _, by omega, by go_num, rfl, by simp only [List.length_append, List.length_singleton]; have := KE.out; omega, by simp only [List.length_append, List.length_singleton, List.map_append, List.map_cons, List.map_nil]; exact ownsRow_setCell_below hown9 (Nat.lt_succ_self _) _, HS, hR9.set 1 _, Gen.b_set hB9 (Nat.le_refl _)⟩
              case measure => simp [intOf] <;> omega
    · obtain rfl : m = k := by omega
      have N1 := Lib.hid (show acc.length + 1 ≤ maxLen from by simp only [maxLen]; omega)
      have N2 := Lib.hid (show (acc.length + 1) * 8 ≤ 140737488355328 from by omega)
      have ha := HA.out
      rw [List.drop_of_length_le (by rw [HM.out]; omega)] at ha
      cases put
      · have HL2 := Lib.hid (show L = acc ++ [r] from ha)
        clear ha
        go_wp2_with (first
          | (at_builtin
             go_must (refine App.wpList_append_any _ rfl (.tmp 100) (.tmp 102) _ rfl (w3.heap.size + 1) 3 i0 _ 1 8 Try.underlying22 hi0 hz0 hz1 hz2 rfl M3.out v _ _ rfl (Gen.own_keep hown (Gen.b_alloc (Below.refl _ _))) _ _ 1 1 [.int .i64 r] rfl (Gen.reads_blk (by simp) rfl) (by simp [Value.oneCell']) N1.out N2.out (Nat.le_trans hS (Gen.b_alloc (Below.refl _ _)).size) ?_)
             intro v2 w7 hown7 hg7 hat7
             have hB7 := Gen.g_below hown hg7 (Gen.b_alloc hW) (Nat.le_succ _)
             have hR7 := Gen.g_row hown hg7 (Nat.lt_succ_self _) (hrow.alloc _)
             have cc0 : w7.cell? ⟨w3.heap.size, 0, none⟩ = some (.slice A n cap) := hR7.cell 0
             have cc1 : w7.cell? ⟨w3.heap.size, 1, none⟩ = some v := hR7.cell 1
             have cf1 := hR7.frozen 1
             obtain ⟨A5, c5, rfl, hr5⟩ := Gen.own_slice hown7
             clear hg7 hat7 hr5 b0 b1 bf1
             have h7 := h3.keep hB7
             have k07 := h7.c0
             have k17 := h7.c1
             clear k0 k1 h4)
          | fail)
        have hR8 : Row (w7.setCell ⟨w3.heap.size, 1, none⟩ (.slice A5 (acc.length + 1) c5)) w3.heap.size 24 #[.slice A n cap, .slice A5 (acc.length + 1) c5] := hR7.set 1 _
        have hB8 : Below w3.heap.size w3 (w7.setCell ⟨w3.heap.size, 1, none⟩ (.slice A5 (acc.length + 1) c5)) := Gen.b_set hB7 (Nat.le_refl _)
        have hown8 : (w7.setCell ⟨w3.heap.size, 1, none⟩ (.slice A5 (acc.length + 1) c5)).ownsRow (w3.heap.size + 1) 3 1 (.slice A5 (acc.length + 1) c5) (acc.length + 1) (acc.map (Value.int .i64) ++ [.int .i64 r]) := ownsRow_setCell_below hown7 (Nat.lt_succ_self _) _
        obtain rfl : q = acc.length + 1 := by rw [← Q.out, HL2.out, List.length_append, List.length_singleton]
        have iL : Ints (w7.setCell ⟨w3.heap.size, 1, none⟩ (.slice A5 (acc.length + 1) c5)) A5 L := by
          obtain ⟨A8, c8, e8, hr8⟩ := Gen.own_slice hown8
          obtain ⟨rfl, _, _⟩ : A5 = A8 ∧ acc.length + 1 = acc.length + 1 ∧ c5 = c8 := by injection e8 with e1 e2 e3; exact ⟨e1, rfl, e3⟩
          exact ints_of_reads Q.out (by rw [HL2.out, List.map_append]; exact hr8)
        have h8 := h3.keep hB8
        have k0 := h8.c0
        have k1 := h8.c1
        have b0 : (w7.setCell ⟨w3.heap.size, 1, none⟩ (.slice A5 (acc.length + 1) c5)).cell? ⟨w3.heap.size, 0, none⟩ = some (.slice A n cap) := hR8.cell 0
        have b1 : (w7.setCell ⟨w3.heap.size, 1, none⟩ (.slice A5 (acc.length + 1) c5)).cell? ⟨w3.heap.size, 1, none⟩ = some (.slice A5 (acc.length + 1) c5) := hR8.cell 1
        clear hown8 hB8 h7 k07 k17 hown7 hR7 hB7 cc0 cc1 cf1 hown hrow hW h3
        generalize w7.setCell ⟨w3.heap.size, 1, none⟩ (.slice A5 (acc.length + 1) c5) = w8 at *
        go_wp2_with (fail)
        go_must (refine (next_is (rs := rs) (ds := ds) _ HN.out h8.i (by omega) HM.out h8.j (by omega) X1.out).mono ?_)
        rintro e w10 ⟨rfl, hb⟩
        replace h8 := h8.keep hb
        replace hR8 := hR8.keep hb
        replace iL := iL.keep hb
        have k0 := h8.c0
        have k1 := h8.c1
        have b0 : w10.cell? ⟨w3.heap.size, 0, none⟩ = some (.slice A n cap) := hR8.cell 0
        have b1 : w10.cell? ⟨w3.heap.size, 1, none⟩ = some (.slice A5 (acc.length + 1) c5) := hR8.cell 1
        clear hb
        go_wp2_with (fail)
        go_must (refine (next_is (rs := rs) (ds := L) _ HN.out h8.i (by omega) Q.out iL (by omega) X2.out).mono ?_)
        rintro e w10 ⟨rfl, hb⟩
        replace h8 := h8.keep hb
        replace hR8 := hR8.keep hb
        replace iL := iL.keep hb
        have k0 := h8.c0
        have k1 := h8.c1
        have b0 : w10.cell? ⟨w3.heap.size, 0, none⟩ = some (.slice A n cap) := hR8.cell 0
        have b1 : w10.cell? ⟨w3.heap.size, 1, none⟩ = some (.slice A5 (acc.length + 1) c5) := hR8.cell 1
        clear hb
        go_wp2_with (fail)
        rw [P.out]
        go_must (refine (back_is (rs := rs) (ds := ds) _ HN.out h8.i (by omega) HM.out h8.j (by omega) Y1.out).mono ?_)
        rintro e w10 ⟨rfl, hb⟩
        replace h8 := h8.keep hb
        replace hR8 := hR8.keep hb
        replace iL := iL.keep hb
        have k0 := h8.c0
        have k1 := h8.c1
        have b0 : w10.cell? ⟨w3.heap.size, 0, none⟩ = some (.slice A n cap) := hR8.cell 0
        have b1 : w10.cell? ⟨w3.heap.size, 1, none⟩ = some (.slice A5 (acc.length + 1) c5) := hR8.cell 1
        clear hb
        go_wp2_with (fail)
        rw [P.out]
        go_must (refine (back_is (rs := rs) (ds := L) _ HN.out h8.i (by omega) Q.out iL (by omega) Y2.out).mono ?_)
        rintro e w10 ⟨rfl, hb⟩
        replace h8 := h8.keep hb
        replace hR8 := hR8.keep hb
        replace iL := iL.keep hb
        have k0 := h8.c0
        have k1 := h8.c1
        have b0 : w10.cell? ⟨w3.heap.size, 0, none⟩ = some (.slice A n cap) := hR8.cell 0
        have b1 : w10.cell? ⟨w3.heap.size, 1, none⟩ = some (.slice A5 (acc.length + 1) c5) := hR8.cell 1
        clear hb
        go_wp2_with (fail)
        go_must (refine (right_is (rs := rs) (ds := L) _ HN.out h8.i (by omega) Q.out iL (by omega) R2.out).mono ?_)
        rintro e w10 ⟨rfl, hb⟩
        replace h8 := h8.keep hb
        replace hR8 := hR8.keep hb
        replace iL := iL.keep hb
        have k0 := h8.c0
        have k1 := h8.c1
        have b0 : w10.cell? ⟨w3.heap.size, 0, none⟩ = some (.slice A n cap) := hR8.cell 0
        have b1 : w10.cell? ⟨w3.heap.size, 1, none⟩ = some (.slice A5 (acc.length + 1) c5) := hR8.cell 1
        clear hb
        go_wp2_with (fail)
        go_must (refine (bus_is (rs := rs) (ds := L) _ HN.out h8.i (by omega) Q.out iL (by omega) Z.out).mono ?_)
        rintro e w10 ⟨rfl, hb⟩
        replace h8 := h8.keep hb
        replace hR8 := hR8.keep hb
        replace iL := iL.keep hb
        have k0 := h8.c0
        have k1 := h8.c1
        have b0 : w10.cell? ⟨w3.heap.size, 0, none⟩ = some (.slice A n cap) := hR8.cell 0
        have b1 : w10.cell? ⟨w3.heap.size, 1, none⟩ = some (.slice A5 (acc.length + 1) c5) := hR8.cell 1
        clear hb
        have g1 := G1.out
        have g2 := G2.out
        by_cases hdr : day = r
        · have bd1 : (day == r) = true := by simpa using hdr
          clear hdr
          rcases g1 with ⟨rfl, rfl, g1⟩ | rfl <;> rcases g2 with ⟨rfl, rfl, g2⟩ | rfl
          all_goals
            go_wp2
            go_quiet (fail)
            go_wp2
            go_ret
            exact ⟨rfl, Gen.dN h8.b _⟩
        · have bd1 : (day == r) = false := by simpa using hdr
          have ZZ := Lib.hid (ZD.out hdr)
          obtain ⟨bb1, hbb⟩ : ∃ u, bz rs ds day = u := ⟨_, rfl⟩
          have Z1 := Lib.hid hbb
          have Z2 := Lib.hid (ZZ.out.trans hbb)
          clear hdr hbb
          rcases g1 with ⟨rfl, rfl, g1⟩ | rfl <;> rcases g2 with ⟨rfl, rfl, g2⟩ | rfl
          all_goals
            go_wp2
            go_region_held3 (fun W' => Hd w w.heap.size A n cap A' m cap' rs ds W' ∧ Ints W' A5 L ∧ W'.cell? ⟨w.heap.size, 0, none⟩ = some (.slice A n cap) ∧ W'.cell? ⟨w.heap.size, 1, none⟩ = some (.slice A' m cap') ∧ W'.cell? ⟨w3.heap.size, 0, none⟩ = some (.slice A n cap) ∧ W'.cell? ⟨w3.heap.size, 1, none⟩ = some (.slice A5 (acc.length + 1) c5))
              (first | exact ⟨h8.drew, iL, k0, k1, b0, b1⟩ | exact sk5 (by assumption) (by assumption))
              (first | (go_at_call 22; (with_reducible refine (bus_is (A := A) (A' := A') (n := n) (cap := cap) (m := m) (cap' := cap') (rs := rs) (ds := ds) _ HN.out (Hd.i (And.left (by assumption))) (by omega) HM.out (Hd.j (And.left (by assumption))) (by omega) Z1.out).mono ?_); rintro e w' ⟨rfl, hb'⟩) | (go_at_call 22; (with_reducible refine (bus_is (rs := rs) (ds := L) _ HN.out (Hd.i (And.left (by assumption))) (by omega) Q.out (And.left (And.right (by assumption))) (by omega) Z2.out).mono ?_); rintro e w' ⟨rfl, hb'⟩))
            all_goals
              rename_i hH
              obtain ⟨hHd, _⟩ := hH
              go_wp2
              go_ret
              exact ⟨ret_bool (by simp), hHd.b⟩
      · have HL2 := Lib.hid (show L = acc from by rw [ha]; simp [insA])
        clear ha
        obtain ⟨A5, c5, rfl, hr5⟩ := Gen.own_slice hown
        obtain rfl : q = acc.length := by rw [← Q.out, HL2.out]
        have iL : Ints wr A5 L := ints_of_reads Q.out (by rw [HL2.out]; exact hr5)
        have h8 := h4
        have hR8 := hrow
        clear hown hrow hW h3 h4 hr5
        go_wp2_with (fail)
        go_must (refine (next_is (rs := rs) (ds := ds) _ HN.out h8.i (by omega) HM.out h8.j (by omega) X1.out).mono ?_)
        rintro e w10 ⟨rfl, hb⟩
        replace h8 := h8.keep hb
        replace hR8 := hR8.keep hb
        replace iL := iL.keep hb
        have k0 := h8.c0
        have k1 := h8.c1
        have b0 : w10.cell? ⟨w3.heap.size, 0, none⟩ = some (.slice A n cap) := hR8.cell 0
        have b1 : w10.cell? ⟨w3.heap.size, 1, none⟩ = some (.slice A5 acc.length c5) := hR8.cell 1
        clear hb
        go_wp2_with (fail)
        go_must (refine (next_is (rs := rs) (ds := L) _ HN.out h8.i (by omega) Q.out iL (by omega) X2.out).mono ?_)
        rintro e w10 ⟨rfl, hb⟩
        replace h8 := h8.keep hb
        replace hR8 := hR8.keep hb
        replace iL := iL.keep hb
        have k0 := h8.c0
        have k1 := h8.c1
        have b0 : w10.cell? ⟨w3.heap.size, 0, none⟩ = some (.slice A n cap) := hR8.cell 0
        have b1 : w10.cell? ⟨w3.heap.size, 1, none⟩ = some (.slice A5 acc.length c5) := hR8.cell 1
        clear hb
        go_wp2_with (fail)
        rw [P.out]
        go_must (refine (back_is (rs := rs) (ds := ds) _ HN.out h8.i (by omega) HM.out h8.j (by omega) Y1.out).mono ?_)
        rintro e w10 ⟨rfl, hb⟩
        replace h8 := h8.keep hb
        replace hR8 := hR8.keep hb
        replace iL := iL.keep hb
        have k0 := h8.c0
        have k1 := h8.c1
        have b0 : w10.cell? ⟨w3.heap.size, 0, none⟩ = some (.slice A n cap) := hR8.cell 0
        have b1 : w10.cell? ⟨w3.heap.size, 1, none⟩ = some (.slice A5 acc.length c5) := hR8.cell 1
        clear hb
        go_wp2_with (fail)
        rw [P.out]
        go_must (refine (back_is (rs := rs) (ds := L) _ HN.out h8.i (by omega) Q.out iL (by omega) Y2.out).mono ?_)
        rintro e w10 ⟨rfl, hb⟩
        replace h8 := h8.keep hb
        replace hR8 := hR8.keep hb
        replace iL := iL.keep hb
        have k0 := h8.c0
        have k1 := h8.c1
        have b0 : w10.cell? ⟨w3.heap.size, 0, none⟩ = some (.slice A n cap) := hR8.cell 0
        have b1 : w10.cell? ⟨w3.heap.size, 1, none⟩ = some (.slice A5 acc.length c5) := hR8.cell 1
        clear hb
        go_wp2_with (fail)
        go_must (refine (right_is (rs := rs) (ds := L) _ HN.out h8.i (by omega) Q.out iL (by omega) R2.out).mono ?_)
        rintro e w10 ⟨rfl, hb⟩
        replace h8 := h8.keep hb
        replace hR8 := hR8.keep hb
        replace iL := iL.keep hb
        have k0 := h8.c0
        have k1 := h8.c1
        have b0 : w10.cell? ⟨w3.heap.size, 0, none⟩ = some (.slice A n cap) := hR8.cell 0
        have b1 : w10.cell? ⟨w3.heap.size, 1, none⟩ = some (.slice A5 acc.length c5) := hR8.cell 1
        clear hb
        go_wp2_with (fail)
        go_must (refine (bus_is (rs := rs) (ds := L) _ HN.out h8.i (by omega) Q.out iL (by omega) Z.out).mono ?_)
        rintro e w10 ⟨rfl, hb⟩
        replace h8 := h8.keep hb
        replace hR8 := hR8.keep hb
        replace iL := iL.keep hb
        have k0 := h8.c0
        have k1 := h8.c1
        have b0 : w10.cell? ⟨w3.heap.size, 0, none⟩ = some (.slice A n cap) := hR8.cell 0
        have b1 : w10.cell? ⟨w3.heap.size, 1, none⟩ = some (.slice A5 acc.length c5) := hR8.cell 1
        clear hb
        have g1 := G1.out
        have g2 := G2.out
        by_cases hdr : day = r
        · have bd1 : (day == r) = true := by simpa using hdr
          clear hdr
          rcases g1 with ⟨rfl, rfl, g1⟩ | rfl <;> rcases g2 with ⟨rfl, rfl, g2⟩ | rfl
          all_goals
            go_wp2
            go_quiet (fail)
            go_wp2
            go_ret
            exact ⟨rfl, Gen.dN h8.b _⟩
        · have bd1 : (day == r) = false := by simpa using hdr
          have ZZ := Lib.hid (ZD.out hdr)
          obtain ⟨bb1, hbb⟩ : ∃ u, bz rs ds day = u := ⟨_, rfl⟩
          have Z1 := Lib.hid hbb
          have Z2 := Lib.hid (ZZ.out.trans hbb)
          clear hdr hbb
          rcases g1 with ⟨rfl, rfl, g1⟩ | rfl <;> rcases g2 with ⟨rfl, rfl, g2⟩ | rfl
          all_goals
            go_wp2
            go_region_held3 (fun W' => Hd w w.heap.size A n cap A' m cap' rs ds W' ∧ Ints W' A5 L ∧ W'.cell? ⟨w.heap.size, 0, none⟩ = some (.slice A n cap) ∧ W'.cell? ⟨w.heap.size, 1, none⟩ = some (.slice A' m cap') ∧ W'.cell? ⟨w3.heap.size, 0, none⟩ = some (.slice A n cap) ∧ W'.cell? ⟨w3.heap.size, 1, none⟩ = some (.slice A5 acc.length c5))
              (first | exact ⟨h8.drew, iL, k0, k1, b0, b1⟩ | exact sk5 (by assumption) (by assumption))
              (first | (go_at_call 22; (with_reducible refine (bus_is (A := A) (A' := A') (n := n) (cap := cap) (m := m) (cap' := cap') (rs := rs) (ds := ds) _ HN.out (Hd.i (And.left (by assumption))) (by omega) HM.out (Hd.j (And.left (by assumption))) (by omega) Z1.out).mono ?_); rintro e w' ⟨rfl, hb'⟩) | (go_at_call 22; (with_reducible refine (bus_is (rs := rs) (ds := L) _ HN.out (Hd.i (And.left (by assumption))) (by omega) Q.out (And.left (And.right (by assumption))) (by omega) Z2.out).mono ?_); rintro e w' ⟨rfl, hb'⟩))
            all_goals
              rename_i hH
              obtain ⟨hHd, _⟩ := hH
              go_wp2
              go_ret
              exact ⟨ret_bool (by simp), hHd.b⟩
theorem rest_any (r day a3 : Int) (w : World) (hc : Ints w A rs) (hc' : Ints w A' ds) (hn : rs.length ≤ 9223372036854775807) (hm : ds.length ≤ 9223372036854775807) (g3 : (Lit.int .u8 a3).wf = true) :
    Calls Try.prog 7 #[.agg #[.slice A rs.length cap, .slice A' ds.length cap'], .int .i64 r, .int .i64 day, .int .u8 a3] w fun e w' => e = .returned (.bool true) ∧ Below w.heap.size w w' := by
  obtain ⟨u0, u1⟩ := u8_of g3
  cases hf : (decide (rs.length ≤ 20) && decide (ds.length ≤ 20))
  · exact rest_few r day a3 w rfl hc rfl hc' hn hm hf
  by_cases h19 : ds.length ≤ 19
  · cases hr : rt rs ds
    · exact rest_right r day a3 w rfl hc rfl hc' hf h19 hr
    by_cases ho : 0 ≤ day ∧ day ≤ 200000 ∧ 0 ≤ r ∧ r ≤ 200000
    · obtain ⟨d0, d1, r0, r1⟩ := ho
      obtain ⟨p, hp⟩ : ∃ p, a3 % 40 = p := ⟨_, rfl⟩
      obtain ⟨L, hL⟩ : ∃ L, insA r false ds = L := ⟨_, rfl⟩
      obtain ⟨x1, e1, hx1⟩ : ∃ u v, nx (bd rs ds) day = (u, v) := ⟨_, _, rfl⟩
      obtain ⟨x2, e2, hx2⟩ : ∃ u v, nx (bd rs L) day = (u, v) := ⟨_, _, rfl⟩
      obtain ⟨y1, f1, hy1⟩ : ∃ u v, bk (bd rs ds) p.toNat day = (u, v) := ⟨_, _, rfl⟩
      obtain ⟨y2, f2, hy2⟩ : ∃ u v, bk (bd rs L) p.toNat day = (u, v) := ⟨_, _, rfl⟩
      have sub : ∀ k, bd rs L k = true → bd rs ds k = true := fun k hk => bd_sub (rt_in hr).2.2.2 k (by rw [hL]; exact hk)
      refine rest_in r day a3 p x1 e1 x2 e2 y1 f1 y2 f2 w rfl hc rfl hc' hf h19 hr r0 r1 d0 d1 u0 u1 hp hL rfl hx1 hx2 hy1 hy2 ?_ ?_
      · rcases nx_01 hx2 with ⟨rfl, _⟩ | ⟨rfl, _⟩
        · obtain ⟨z, hz, hle⟩ := nx_mono sub (Int.le_refl day) hx2
          rw [hx1] at hz
          injection hz with h1 h2
          exact .inl ⟨rfl, h2, by omega⟩
        · exact .inr rfl
      · rcases bk_01 d0 d1 hy2 with ⟨rfl, _⟩ | ⟨rfl, _⟩
        · obtain ⟨z, hz, hle⟩ := bk_mono sub (Int.le_refl day) hy2
          rw [hy1] at hz
          injection hz with h1 h2
          exact .inl ⟨rfl, h2, by omega⟩
        · exact .inr rfl
    · exact rest_out r day a3 w rfl hc rfl hc' hf h19 hr (by omega)
  · exact rest_m r day a3 w rfl hc rfl hc' hf (by omega)
end
end Go.Proofs.Ytdndlipenjkfpaa.Dat
