/- The example of the statements of sched, 'small', returns true; the reference's Few. -/
import Derived.Test.YtdndlipenjkfpaaSchD
import Derived.Laws.CopyOwn
namespace Go.Proofs.Ytdndlipenjkfpaa.Dat
open Go.ChangeShapes Go.WideShapes Go.ChangeAt Go.RowKit Go.Proofs.Ytdndlipenjkfpaa.Cell
set_option linter.unusedVariables false
set_option linter.unusedSimpArgs false

/-- what Few is good for -/
def FewS (n m : Nat) (re : Int) (w : World) (e : Ending) (w' : World) : Prop := ∃ b : Bool, e = .returned (.bool b) ∧ Below w.heap.size w w' ∧ (b = true → n ≤ 10 ∧ m ≤ 200 ∧ re ≤ 50)
section
variable {cs : Array Value} {fr to ev ad re : Int} {A A' : Option Addr} {n cap m cap' : Nat}
set_option maxRecDepth 100000 in
set_option maxHeartbeats 4000000 in
theorem fewS_any (w : World) (ht : Tm cs fr to ev ad re) (hbig : n ≤ 9223372036854775807) (hbig' : m ≤ 9223372036854775807) :
    Calls Try.prog 31 #[.agg cs, .agg #[.slice A n cap, .slice A' m cap']] w (FewS n m re w) := by
  have h0 := Hp.new (cs := cs) (A := none) (n := 0) (cap := 0) (A' := none) (m := 0) (cap' := 0) (rs := []) (ds := []) w (fun h => absurd h (by simp)) (fun h => absurd h (by simp))
  have hx : Row ((w.alloc (.cells cs 46)).alloc (.cells #[.slice A n cap, .slice A' m cap'] 24)) w.heap.size 46 cs := (Row.new _ _ _).alloc _
  have k3 := (hx.cell 3).trans ht.c3
  have k4 := (hx.cell 4).trans ht.c4
  have k5 := (hx.cell 5).trans ht.c5
  have k8 := (hx.cell 8).trans ht.c8
  have HB : Hid (Below w.heap.size w ((w.alloc (.cells cs 46)).alloc (.cells #[.slice A n cap, .slice A' m cap'] 24))) := Lib.hid (Gen.b_alloc (Gen.b_alloc (Below.refl _ _)))
  clear h0 hx ht
  by_cases c : m ≤ 200 ∧ n ≤ 10 ∧ re ≤ 50
  · obtain ⟨c1, c2, c3⟩ := c
    have C := Lib.hid (show n ≤ 10 ∧ m ≤ 200 ∧ re ≤ 50 from ⟨c2, c1, c3⟩)
    by_cases d : fr < 0 ∨ 200000 < to ∨ to ≤ fr ∨ ev < 1 ∨ 1200 < ev
    · rcases (show fr < 0 ∨ (0 ≤ fr ∧ 200000 < to) ∨ (0 ≤ fr ∧ to ≤ 200000 ∧ to ≤ fr) ∨ (0 ≤ fr ∧ to ≤ 200000 ∧ fr < to ∧ ev < 1) ∨ (0 ≤ fr ∧ to ≤ 200000 ∧ fr < to ∧ 1 ≤ ev ∧ 1200 < ev) by omega) with e1 | ⟨e1, e2⟩ | ⟨e1, e2, e3⟩ | ⟨e1, e2, e3, e4⟩ | ⟨e1, e2, e3, e4, e5⟩
      all_goals
        clear d
        go_enter Try.func31, Try.ntmps31
        go_wp2
        go_ret
        exact ⟨true, rfl, HB.out, fun _ => C.out⟩
    · have d1 : 0 ≤ fr := by omega
      have d2 : to ≤ 200000 := by omega
      have d3 : fr < to := by omega
      have d4 : 1 ≤ ev := by omega
      have d5 : ev ≤ 1200 := by omega
      have d6 : 0 < 28 * ev := by omega
      have d7 : ((28 * ev : Int) == 0) = false := by rw [beq_eq_false_iff_ne]; omega
      clear d
      go_enter Try.func31, Try.ntmps31
      go_wp2
      go_ret
      exact ⟨_, rfl, HB.out, fun _ => C.out⟩
  · rcases (show 200 < m ∨ (m ≤ 200 ∧ 10 < n) ∨ (m ≤ 200 ∧ n ≤ 10 ∧ 50 < re) by omega) with e1 | ⟨e1, e2⟩ | ⟨e1, e2, e3⟩
    all_goals
      clear c
      go_enter Try.func31, Try.ntmps31
      go_wp2
      go_ret
      exact ⟨false, rfl, HB.out, fun h => by simp at h⟩
end

theorem p_51 : Pt 46051 2026 1 31 := ⟨by omega, by omega, by omega, by omega, by decide, by decide +kernel⟩
theorem a_51 {n x e : Int} (n0 : -10000 ≤ n) (n1 : n ≤ 10000) (h : addR 2026 1 31 n = (x, e)) : amO 46051 n = (x, e) := by rw [amO_of p_51 (by omega) (by omega) n0 n1, h]
theorem b_51 : bdT 46051 46125 1 10001 1 = [46079, 46110, 46125] := by
  rw [show (10001 : Nat) = 9998 + 1 + 1 + 1 from rfl, bdT_go (a_51 (n := ((1 : Nat) : Int) * 1) (x := 46079) (by omega) (by omega) (by decide +kernel)) (by omega),
    bdT_go (a_51 (n := ((1 + 1 : Nat) : Int) * 1) (x := 46110) (by omega) (by omega) (by decide +kernel)) (by omega), bdT_end (a_51 (n := ((1 + 1 + 1 : Nat) : Int) * 1) (x := 46140) (e := 0) (by omega) (by omega) (by decide +kernel)) (by omega)]
def wr : List Int := [5, 6]
theorem q_rt : rt wr [] = true := by decide
theorem q_n1 : adj (bd wr []) 46079 1 = (46081, 0) := by
  rw [adj_1, nx_step (by omega) (by decide), nx_step (by omega) (by decide), nx_here (by omega) (by decide), show (46079 : Int) + 1 + 1 = 46081 from rfl]
theorem q_n2 : adj (bd wr []) 46110 1 = (46110, 0) := by rw [adj_1, nx_here (by omega) (by decide)]
theorem q_n3 : adj (bd wr []) 46125 1 = (46125, 0) := by rw [adj_1, nx_here (by omega) (by decide)]
theorem q_b1 : bk (bd wr []) 2 46081 = (46077, 0) := by
  rw [bk_go (show bf (bd wr []) (46081 - 1) = (46078, 0) from by rw [show (46081 : Int) - 1 = 46080 from rfl, bf_step (by omega) (by decide), bf_step (by omega) (by decide), bf_here (by omega) (by decide), show (46080 : Int) - 1 - 1 = 46078 from rfl]),
    bk_go (show bf (bd wr []) (46078 - 1) = (46077, 0) from by rw [show (46078 : Int) - 1 = 46077 from rfl, bf_here (by omega) (by decide)])]; rfl
theorem q_b2 : bk (bd wr []) 2 46110 = (46106, 0) := by
  rw [bk_go (show bf (bd wr []) (46110 - 1) = (46109, 0) from by rw [show (46110 : Int) - 1 = 46109 from rfl, bf_here (by omega) (by decide)]),
    bk_go (show bf (bd wr []) (46109 - 1) = (46106, 0) from by rw [show (46109 : Int) - 1 = 46108 from rfl, bf_step (by omega) (by decide), bf_step (by omega) (by decide), bf_here (by omega) (by decide), show (46108 : Int) - 1 - 1 = 46106 from rfl])]; rfl
theorem q_b3 : bk (bd wr []) 2 46125 = (46123, 0) := by
  rw [bk_go (show bf (bd wr []) (46125 - 1) = (46124, 0) from by rw [show (46125 : Int) - 1 = 46124 from rfl, bf_here (by omega) (by decide)]),
    bk_go (show bf (bd wr []) (46124 - 1) = (46123, 0) from by rw [show (46124 : Int) - 1 = 46123 from rfl, bf_here (by omega) (by decide)])]; rfl
def wl : List Pr := [(46051, 46079, 46081, 46077), (46079, 46110, 46110, 46106), (46110, 46125, 46125, 46123)]
theorem q_per : perO wr [] 46051 46125 1 1 2 = (wl, 0) := by
  unfold perO
  rw [if_pos ⟨by decide, q_rt⟩, b_51, show (2 : Int).toNat = 2 from rfl, perT_go q_n1 q_b1, perT_go q_n2 q_b2, perT_go q_n3 q_b3]
  rfl
theorem q_at : atA 46079 0 wl = (1, true) := by decide
theorem q_du : duA 46081 0 wl = [0] := by decide

def tcs : Array Value := #[.string ⟨#[]⟩, .string ⟨#[]⟩, .int .i64 0, .int .i64 46051, .int .i64 46125, .int .i64 1, .int .i64 0, .int .i64 1, .int .i64 2, .int .i64 0, .slice none 0 0, .int .i64 0, .int .i64 0, .int .i64 0, .string ⟨#[]⟩, .slice none 0 0, .int .i64 0, .slice none 0 0, .slice none 0 0, .int .i64 0, .slice none 0 0, .int .i64 0, .int .i64 0, .int .i64 0, .int .i64 0]
theorem tcs_tm : Tm tcs 46051 46125 1 1 2 := ⟨rfl, rfl, rfl, rfl, rfl, rfl⟩
set_option maxRecDepth 100000 in
set_option maxHeartbeats 1000000 in
theorem terms_any (w : World) : Calls Try.prog 55 #[] w fun e w' => ∃ cs, e = .returned (.agg cs) ∧ Tm cs 46051 46125 1 1 2 ∧ Below w.heap.size w w' := by
  go_enter Try.func55, Try.ntmps55
  go_wp2_with (first | (refine wpList_store_row rfl 46 (.tmp 0) (.tmp 1) rfl w.heap.size tcs rfl rfl 46 _ (heap_alloc_new w _) (by kernel_rfl) (by kernel_rfl) (by kernel_rfl) ?_) | fail)
  exact bodyPost_ret (v := .agg tcs) (results_cell_row rfl _ _ w.heap.size 46 tcs (0, 0) _ rfl (setRow_heap _ _ _ _ _ _ (heap_alloc_new w _)) Try.underlying46 rfl (by kernel_rfl)) rfl ⟨tcs, rfl, tcs_tm, below_setRow (Gen.b_alloc (Below.refl _ _)) (Nat.le_refl _) _⟩
set_option maxRecDepth 100000 in
set_option maxHeartbeats 1000000 in
theorem week_any (w : World) : Calls Try.prog 56 #[] w fun e w' => ∃ A, e = .returned (.agg #[.slice A 2 2, .slice none 0 0]) ∧ Below w.heap.size w w' ∧ Ints w' A wr := by
  go_enter Try.func56, Try.ntmps56
  go_wp2
  exact bodyPost_ret (v := .agg #[.slice (some ⟨w.heap.size + 1, 0, none⟩) 2 2, .slice none 0 0]) (by simp [results, Try.results56, go_sem]) rfl ⟨_, rfl, by go_grown, (Gen.rowAt (t := 3) _ (ics wr) (by simp)).ints⟩
theorem pers_new {w : World} {g : Nat} (l : List Pr) (h : Row w g 58 (pls l).toArray) : Pers w (some ⟨g, 0, none⟩) l := fun h0 => ⟨g, 0, rfl, fun j t hj => by
  have f := fun i hi => Gen.flat_at pcs_len l j t hj i hi
  have c := fun i => h.cell (j * 4 + i)
  simp only [List.getElem?_toArray] at c
  rw [Nat.zero_add]
  exact ⟨(c 0).trans ((f 0 (by omega)).trans rfl), (c 1).trans ((f 1 (by omega)).trans rfl), (c 2).trans ((f 2 (by omega)).trans rfl), (c 3).trans ((f 3 (by omega)).trans rfl)⟩⟩
set_option maxRecDepth 100000 in
set_option maxHeartbeats 4000000 in
theorem sch_small (w : World) : Calls Try.prog 30 #[] w fun e w' => e = .returned (.bool true) ∧ Below w.heap.size w w' := by
  have QD := Lib.hid q_du
  have QA := Lib.hid q_at
  have QP := Lib.hid q_per
  go_enter Try.func30, Try.ntmps30
  go_wp2_with (fail)
  go_must (refine (terms_any _).mono ?_)
  rintro e w1 ⟨cs, rfl, ht, hB1⟩
  go_wp2_with (fail)
  go_must (refine (week_any _).mono ?_)
  rintro e w2 ⟨A, rfl, hb, iw⟩
  have hB2 := Gen.over hb hB1
  clear hb hB1
  go_wp2_with (fail)
  go_must (refine (periods_is (rs := wr) (ds := []) (n := 2) (m := 0) (q := 3) _ ht rfl iw (by omega) rfl (fun h => absurd h (by simp)) (by omega) QP.out rfl).mono ?_)
  rintro e w3 ⟨A3, c3, rfl, hb, ip⟩
  have hB3 := Gen.over hb hB2
  clear hb hB2 iw
  go_wp2_with (fail)
  have hB4 : Below w.heap.size w (w3.alloc (.cells (pls wl).toArray 58)) := Gen.b_alloc hB3
  have ip4 := ip.keep (Gen.b_alloc (x := .cells (pls wl).toArray 58) (Below.refl w3.heap.size w3))
  have iw4 := pers_new wl (Row.new w3 58 (pls wl).toArray)
  clear hB3 ip
  go_must (refine (at_is (n := 3) _ rfl ip4 (by omega) QA.out).mono ?_)
  rintro e w5 ⟨rfl, hb⟩
  have hB5 := Gen.over hb hB4
  have ip5 := ip4.keep hb
  have iw5 := iw4.keep hb
  clear hb hB4 ip4 iw4
  go_wp2_with (fail)
  go_must (refine (same_b (n := 3) (m := 3) _ rfl ip5 (by omega) rfl iw5 (by omega) (decide_eq_true rfl)).mono ?_)
  rintro e w6 ⟨rfl, hb⟩
  have hB6 := Gen.over hb hB5
  have ip6 := ip5.keep hb
  clear hb hB5 ip5 iw5
  go_wp2_with (fail)
  go_must (refine (due_is (n := 3) (q := 1) _ rfl ip6 (by omega) QD.out rfl).mono ?_)
  rintro e w7 ⟨A7, c7, rfl, hb, ip7⟩
  have hB7 := Gen.b_alloc (x := .cells #[.int .i64 0] 3) (Gen.over hb hB6)
  have ip8 := ip7.keep (Gen.b_alloc (x := .cells #[.int .i64 0] 3) (Below.refl _ _))
  have iz := (Row.new w7 3 (ics [0])).ints
  clear hb hB6 ip7
  go_wp2_with (fail)
  go_must (refine (ints_b (l := [0]) (l' := [0]) (n := 1) (m := 1) _ rfl ip8 (by omega) rfl iz (by omega) (decide_eq_true rfl)).mono ?_)
  rintro e w8 ⟨rfl, hb⟩
  have hB8 := Gen.over hb hB7
  go_wp2
  go_ret
  exact ⟨rfl, hB8⟩
end Go.Proofs.Ytdndlipenjkfpaa.Dat
