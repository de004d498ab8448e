/- Package sched: the contracts of valid and bounds. -/
import Derived.Test.YtdndlipenjkfpaaSchA
import Derived.Test.YtdndlipenjkfpaaCalF
namespace Go.Proofs.Ytdndlipenjkfpaa.Dat
open Go.ChangeShapes Go.WideShapes Go.ChangeAt Go.RowKit Go.Proofs.Ytdndlipenjkfpaa.Cell
set_option linter.unusedVariables false
set_option linter.unusedSimpArgs false

/-- the cells of an indenture that are read -/
structure Tm (cs : Array Value) (fr to ev ad re : Int) : Prop where
  sz : cs.size = 25
  c3 : cs[3]? = some (.int .i64 fr)
  c4 : cs[4]? = some (.int .i64 to)
  c5 : cs[5]? = some (.int .i64 ev)
  c7 : cs[7]? = some (.int .i64 ad)
  c8 : cs[8]? = some (.int .i64 re)
def vl (fr to ev ad re : Int) : Bool := decide (0 ≤ fr ∧ fr < to ∧ to ≤ 200000 ∧ 1 ≤ ev ∧ ev ≤ 1200 ∧ 0 ≤ ad ∧ ad < 4 ∧ 0 ≤ re ∧ re ≤ 1000)
theorem vl_in {fr to ev ad re : Int} (h : vl fr to ev ad re = true) : 0 ≤ fr ∧ fr < to ∧ to ≤ 200000 ∧ 1 ≤ ev ∧ ev ≤ 1200 ∧ 0 ≤ ad ∧ ad < 4 ∧ 0 ≤ re ∧ re ≤ 1000 := of_decide_eq_true h
theorem infoInt : (Try.prog.info? 3).map (fun i => (i.zero, i.size, i.bytes)) = some (some (.int .i64 0), 1, 8) := by kernel_rfl
theorem ints_of_reads {w : World} {B n : Nat} {A : Option Addr} {zs : List Int} (hn : zs.length = n) (h : App.Reads w B 1 A n (zs.map (Value.int .i64))) : Ints w A zs := fun h0 => by
  obtain ⟨ad, e, hb, hc⟩ := h.2 (by omega)
  obtain ⟨b, off, spot⟩ := ad
  have hz : (zs.map (Value.int .i64))[0]? = some (.int .i64 zs[0]) := by simp
  have hs : spot = none := by
    have := World.cell?_spot (hc 0 _ hz)
    simpa [Addr.add] using this
  subst hs
  refine ⟨b, off, e, fun j z hj => ?_⟩
  have := hc j (.int .i64 z) (by rw [List.getElem?_map, hj]; rfl)
  rwa [Addr.add_lit] at this
section
variable {cs : Array Value} {fr to ev ad re : Int}
set_option maxRecDepth 100000 in
set_option maxHeartbeats 2000000 in
theorem valid_is {b : Bool} (w : World) (ht : Tm cs fr to ev ad re) (h : vl fr to ev ad re = b) :
    Calls Try.prog 57 #[.agg cs] w fun e w' => e = .returned (.bool b) ∧ Below w.heap.size w w' := by
  have hr : Row (w.alloc (.cells cs 46)) w.heap.size 46 cs := Row.new _ _ _
  have k3 := (hr.cell 3).trans ht.c3
  have k4 := (hr.cell 4).trans ht.c4
  have k5 := (hr.cell 5).trans ht.c5
  have k7 := (hr.cell 7).trans ht.c7
  have k8 := (hr.cell 8).trans ht.c8
  have HB : Hid (Below w.heap.size w (w.alloc (.cells cs 46))) := Lib.hid (Gen.b_alloc (Below.refl _ _))
  have H := Lib.hid h
  clear hr ht h
  go_enter Try.func57, Try.ntmps57
  go_wp2
  all_goals
    go_ret
    exact ⟨ret_bool (by
      have hv := H.out
      unfold vl at hv
      rw [← hv]
      first | exact (decide_eq_false (by omega)).symm | (rw [decide_eq_decide]; omega)), HB.out⟩

set_option maxRecDepth 100000 in
set_option maxHeartbeats 4000000 in
theorem bounds_is {l : List Int} {q : Nat} (w : World) (ht : Tm cs fr to ev ad re) (h0 : 0 ≤ fr) (h1 : fr < to) (h2 : to ≤ 200000) (h3 : 1 ≤ ev) (h4 : ev ≤ 1200) (h : bdL fr to ev = l) (hq : l.length = q) :
    Calls Try.prog 58 #[.agg cs] w fun e w' => ∃ A c, e = .returned (.slice A q c) ∧ Below w.heap.size w w' ∧ Ints w' A l := by
  have hr : Row (w.alloc (.cells cs 46)) w.heap.size 46 cs := Row.new _ _ _
  have k3 := (hr.cell 3).trans ht.c3
  have T := Lib.hid ht
  have H := Lib.hid h
  have HQ := Lib.hid hq
  clear h ht hq
  obtain ⟨i0, hi0, hz0, hz1, hz2⟩ := info_parts infoInt
  go_enter Try.func58, Try.ntmps58
  go_wp2_with (fail)
  go_loopw [3, 4] (fun lv kv wr => ∃ (k : Nat) (acc : List Int), 1 ≤ k ∧ k ≤ 10001 ∧ kv = .int .i64 k ∧ acc.length = k ∧ wr.ownsRow (w.heap.size + 1) 3 1 lv k (acc.map (Value.int .i64)) ∧ Hid (bdL fr to ev = acc ++ bdT fr to ev (10002 - k) k) ∧ Below w.heap.size w wr ∧ Row wr w.heap.size 46 cs) (fun _ kv _ => 10002 - (intOf kv).toNat)
  case atStart => exact ⟨1, [fr], by omega, by omega, rfl, rfl, ⟨rfl, .inr ⟨_, 1, #[.int .i64 fr], rfl, by simp, Gen.rowAt _ _ _ (by simp), by omega, by simp [maxLen], rfl, rfl⟩⟩, Lib.hid rfl, Gen.b_alloc (Gen.b_alloc (Below.refl _ _)), hr.alloc _⟩
  case round =>
    obtain ⟨k, acc, g0, g1, rfl, hlen, hown, HA, hB, hrow⟩ := hrel
    have k3 := (hrow.cell 3).trans T.out.c3
    have k4 := (hrow.cell 4).trans T.out.c4
    have k5 := (hrow.cell 5).trans T.out.c5
    have hS : w.heap.size < wr.heap.size := hrow.lt
    have p0 : 0 ≤ (k : Int) * ev := mul_0 h3
    have p1 : (k : Int) * ev ≤ 12001200 := by
      have := Int.mul_le_mul (show (k : Int) ≤ 10001 by omega) h4 (by omega) (by omega)
      omega
    have HL := Lib.hid hlen
    clear hr hlen
    obtain ⟨x, e, hx⟩ : ∃ x e, amO fr (k * ev) = (x, e) := ⟨_, _, rfl⟩
    have X := Lib.hid hx
    obtain ⟨f, hf⟩ : ∃ f, 10002 - k = f + 1 := ⟨10001 - k, by omega⟩
    have e03 : (e = 0 ∧ 0 ≤ x ∧ x ≤ 200000) ∨ e = 3 := by
      rcases amO_01 hx with a | a
      · exact .inl ⟨a.1, a.2.2.2.2.1, a.2.2.2.2.2.1⟩
      · exact .inr a.1
    by_cases hc : e = 0 ∧ x < to
    · obtain ⟨rfl, hxt⟩ := hc
      have HG := Lib.hid (show bdL fr to ev = (acc ++ [x]) ++ bdT fr to ev (10002 - (k + 1)) (k + 1) from by
        rw [HA.out, hf, bdT_go hx hxt, show 10002 - (k + 1) = f by omega]; simp)
      have k2 : k + 1 ≤ 10001 := by
        by_cases c : k = 10001
        · subst c
          rw [amO_far (.inr (by
            have : ((10001 : Nat) : Int) = 10001 := rfl
            rw [this]; omega))] at hx
          simp at hx
        · omega
      clear hx hf e03
      go_wp2_with (fail)
      go_must (refine (am_is _ X.out).mono ?_)
      rintro e w1 ⟨rfl, rfl⟩
      go_wp2_with (first
        | (at_builtin
           go_must (refine App.wpList_append_any _ rfl (.tmp 35) (.tmp 37) _ rfl (w.heap.size + 1) 3 i0 _ 1 8 Try.underlying22 hi0 hz0 hz1 hz2 rfl (by omega) u3 k _ rfl (Gen.own_keep hown (Gen.b_alloc (Below.refl _ _))) _ _ 1 1 [.int .i64 x] rfl (Gen.reads_blk (by simp) rfl) (by simp [Value.oneCell']) (by simp only [maxLen]; omega) (by omega) (Nat.le_trans hS (Gen.b_alloc (Below.refl _ _)).size) ?_)
           intro v2 w2 hown2 hg2 hat2
           have hB2 := Gen.g_below hown hg2 (Gen.b_alloc hB) (Nat.le_succ _)
           have hR2 := Gen.g_row hown hg2 (Nat.lt_succ_self _) (hrow.alloc _)
           clear hg2 hat2)
        | fail)
      go_roundw
      case rel => exact ⟨k + 1, acc ++ [x], by omega, k2, by go_num, by rw [List.length_append, HL.out]; rfl, by rw [List.map_append]; exact hown2, HG, hB2, hR2⟩
      case measure => simp [intOf]; omega
    · have HG := Lib.hid (show l = acc ++ [to] from by
        rw [← H.out, HA.out, hf, bdT_end hx hc])
      have hqk : k + 1 = q := by
        have := HG.out
        rw [← HQ.out, this, List.length_append, HL.out]; rfl
      subst hqk
      rcases (show (e = 0 ∧ to ≤ x) ∨ e = 3 by omega) with ⟨rfl, hxt⟩ | rfl
      all_goals
        clear hx hf e03 hc
        go_wp2_with (fail)
        go_must (refine (am_is _ X.out).mono ?_)
        rintro e w1 ⟨rfl, rfl⟩
        go_wp2_with (first
          | (at_builtin
             go_must (refine App.wpList_append_any _ rfl (.tmp 30) (.tmp 33) _ rfl (w.heap.size + 1) 3 i0 _ 1 8 Try.underlying22 hi0 hz0 hz1 hz2 rfl (by omega) u3 k _ rfl (Gen.own_keep hown (Gen.b_alloc (Below.refl _ _))) _ _ 1 1 [.int .i64 to] rfl (Gen.reads_blk (by simp) rfl) (by simp [Value.oneCell']) (by simp only [maxLen]; omega) (by omega) (Nat.le_trans hS (Gen.b_alloc (Below.refl _ _)).size) ?_)
             intro v2 w2 hown2 hg2 hat2
             have hB2 := Gen.g_below hown hg2 (Gen.b_alloc hB) (Nat.le_succ _)
             obtain ⟨A2, c2, rfl, hr2⟩ := Gen.own_slice hown2
             clear hg2 hat2)
          | fail)
        go_ret
        exact ⟨A2, c2, rfl, hB2, ints_of_reads (by rw [HG.out, List.length_append, HL.out, List.length_singleton]) (by rw [HG.out, List.map_append]; exact hr2)⟩
end
end Go.Proofs.Ytdndlipenjkfpaa.Dat
