/- The reference of trade: the contract of Add. -/
import Derived.Test.YtpekedhcnijgcaaTrdZ
import Derived.Test.YtpekedhcnijgcaaEntF
namespace Go.Proofs.Ytpekedhcnijgcaa.Book
open Go.ChangeShapes Go.WideShapes Go.ChangeAt Go.RowKit Go.Proofs.Ytpekedhcnijgcaa.Cell
set_option linter.unusedVariables false
set_option linter.unusedSimpArgs false

theorem blk1 (W : World) (t : TypeId) (cs : Array Value) (hs : cs.size = 8) : (W.alloc (.cells cs t)).ownsRow W.heap.size t 8 (.slice (some ⟨W.heap.size, 0, none⟩) 1 1) 1 cs.toList :=
  ⟨by simp [hs], .inr ⟨W.heap.size, 1, cs, rfl, Nat.le_refl _, heap_alloc_new W _, Nat.le_refl _, by simp [maxLen], by simp [hs], List.take_of_length_le (by simp [hs])⟩⟩
theorem blk1A (W : World) (o : Obj) (t : TypeId) (cs : Array Value) (hs : cs.size = 8) : ((W.alloc o).alloc (.cells cs t)).ownsRow (W.heap.size + 1) t 8 (.slice (some ⟨W.heap.size + 1, 0, none⟩) 1 1) 1 cs.toList := by
  have := blk1 (W.alloc o) t cs hs
  rw [World.size_alloc] at this
  exact this
theorem blk0A (W : World) (o : Obj) (t : TypeId) (k : Nat) : ((W.alloc o).alloc (.cells #[] t)).ownsRow (W.heap.size + 1) t k (.slice (some ⟨W.heap.size + 1, 0, none⟩) 0 0) 0 [] := by
  have := blk0 (W.alloc o) t k
  rw [World.size_alloc] at this
  exact this
set_option maxRecDepth 100000 in
set_option maxHeartbeats 8000000 in
theorem radd_1 (k f t u mm d o b : Int) (A : Option Addr) (n cap : Nat) (ss : List (Int × Int)) (A' : Option Addr) (m cap' : Nat) (l : List Tr) (L : List Tr) (E : Int) (w : World) (hn : ss.length = n) (hc : Prs w A ss) (hbig : n ≤ 1000000) (hm : l.length = m) (hc' : Trs w A' l) (hbig' : m ≤ 4000)
    (hr : rtT ss l = false) (h : adT ss l ⟨k, f, t, u, mm, d, o, b⟩ = (L, E)) :
    Calls Try.prog 15 #[.slice A n cap, .slice A' m cap', .agg #[.int .i64 k, .int .i64 f, .int .i64 t, .int .i64 u, .int .i64 mm, .int .i64 d, .int .i64 o, .int .i64 b]] w (TrPost L E w) := by
  have HN := Lib.hid hn
  have HM := Lib.hid hm
  have HR := Lib.hid hr
  unfold adT at h
  rw [if_neg (fun c => by rw [hr] at c; cases c.1)] at h
  have H := Lib.hid h
  have hB0 : Below w.heap.size w (w.alloc (.cells #[.int .i64 k, .int .i64 f, .int .i64 t, .int .i64 u, .int .i64 mm, .int .i64 d, .int .i64 o, .int .i64 b] 26)) := Gen.b_alloc (Below.refl _ _)
  have hx0 : Row (w.alloc (.cells #[.int .i64 k, .int .i64 f, .int .i64 t, .int .i64 u, .int .i64 mm, .int .i64 d, .int .i64 o, .int .i64 b] 26)) w.heap.size 26 #[.int .i64 k, .int .i64 f, .int .i64 t, .int .i64 u, .int .i64 mm, .int .i64 d, .int .i64 o, .int .i64 b] := Row.new _ _ _
  replace hc := hc.keep hB0
  replace hc' := hc'.keep hB0
  clear hn hm hr h
  go_enter Try.func15, Try.ntmps15
  go_wp2_with (fail)
  go_must (refine (rtRight_is _ HN.out hc hbig HM.out hc' (by omega) HR.out).mono ?_)
  rintro e w1 ⟨rfl, hb1⟩
  replace hB0 := Gen.over hb1 hB0
  replace hx0 := hx0.keep hb1
  replace hc := hc.keep hb1
  replace hc' := hc'.keep hb1
  clear hb1
  go_wp2
  exact bodyPost_ret (v := .tuple #[.slice none 0 0, .int .i64 1]) (by simp [results, Try.results15, go_sem]) rfl (tr_no H.out hB0)
set_option maxRecDepth 100000 in
set_option maxHeartbeats 8000000 in
theorem radd_2 (k f t u mm d o b : Int) (A : Option Addr) (n cap : Nat) (ss : List (Int × Int)) (A' : Option Addr) (m cap' : Nat) (l : List Tr) (L : List Tr) (E : Int) (w : World) (hn : ss.length = n) (hc : Prs w A ss) (hbig : n ≤ 1000000) (hm : l.length = m) (hc' : Trs w A' l) (hbig' : m ≤ 4000)
    (hr : rtT ss l = true) (ho : okT ss ⟨k, f, t, u, mm, d, o, b⟩ = false) (h : adT ss l ⟨k, f, t, u, mm, d, o, b⟩ = (L, E)) :
    Calls Try.prog 15 #[.slice A n cap, .slice A' m cap', .agg #[.int .i64 k, .int .i64 f, .int .i64 t, .int .i64 u, .int .i64 mm, .int .i64 d, .int .i64 o, .int .i64 b]] w (TrPost L E w) := by
  have HN := Lib.hid hn
  have HM := Lib.hid hm
  have HR := Lib.hid hr
  have HO := Lib.hid (show okO ss ⟨k, f, t, u, mm, d, o, b⟩ = false from by rw [okO_T (rtT_in hr).1]; exact ho)
  unfold adT at h
  rw [if_neg (fun c => by rw [ho] at c; cases c.2.1)] at h
  have H := Lib.hid h
  have hB0 : Below w.heap.size w (w.alloc (.cells #[.int .i64 k, .int .i64 f, .int .i64 t, .int .i64 u, .int .i64 mm, .int .i64 d, .int .i64 o, .int .i64 b] 26)) := Gen.b_alloc (Below.refl _ _)
  have hx0 : Row (w.alloc (.cells #[.int .i64 k, .int .i64 f, .int .i64 t, .int .i64 u, .int .i64 mm, .int .i64 d, .int .i64 o, .int .i64 b] 26)) w.heap.size 26 #[.int .i64 k, .int .i64 f, .int .i64 t, .int .i64 u, .int .i64 mm, .int .i64 d, .int .i64 o, .int .i64 b] := Row.new _ _ _
  replace hc := hc.keep hB0
  replace hc' := hc'.keep hB0
  clear hn hm hr ho h
  go_enter Try.func15, Try.ntmps15
  go_wp2_with (fail)
  go_must (refine (rtRight_is _ HN.out hc hbig HM.out hc' (by omega) HR.out).mono ?_)
  rintro e w1 ⟨rfl, hb1⟩
  replace hB0 := Gen.over hb1 hB0
  replace hx0 := hx0.keep hb1
  replace hc := hc.keep hb1
  replace hc' := hc'.keep hb1
  clear hb1
  have d0 := hx0.cell 0
  have d1 := hx0.cell 1
  have d2 := hx0.cell 2
  have d3 := hx0.cell 3
  have d4 := hx0.cell 4
  have d5 := hx0.cell 5
  have d6 := hx0.cell 6
  have d7 := hx0.cell 7
  go_wp2_with (fail)
  go_must (refine (rone_is (x := ⟨k, f, t, u, mm, d, o, b⟩) _ HN.out hc hbig HO.out).mono ?_)
  rintro e w2 ⟨rfl, hb2⟩
  replace hB0 := Gen.over hb2 hB0
  replace hx0 := hx0.keep hb2
  replace hc' := hc'.keep hb2
  clear hb2 d0 d1 d2 d3 d4 d5 d6 d7
  go_wp2
  exact bodyPost_ret (v := .tuple #[.slice none 0 0, .int .i64 1]) (by simp [results, Try.results15, go_sem]) rfl (tr_no H.out hB0)
set_option maxRecDepth 100000 in
set_option maxHeartbeats 8000000 in
theorem radd_3 (k f t u mm d o b : Int) (A : Option Addr) (n cap : Nat) (ss : List (Int × Int)) (A' : Option Addr) (m cap' : Nat) (l : List Tr) (L : List Tr) (E : Int) (w : World) (hn : ss.length = n) (hc : Prs w A ss) (hbig : n ≤ 1000000) (hm : l.length = m) (hc' : Trs w A' l) (hbig' : m ≤ 4000)
    (hr : rtT ss l = true) (ho : okT ss ⟨k, f, t, u, mm, d, o, b⟩ = true) (hd : (o != -1) = true) (h : adT ss l ⟨k, f, t, u, mm, d, o, b⟩ = (L, E)) :
    Calls Try.prog 15 #[.slice A n cap, .slice A' m cap', .agg #[.int .i64 k, .int .i64 f, .int .i64 t, .int .i64 u, .int .i64 mm, .int .i64 d, .int .i64 o, .int .i64 b]] w (TrPost L E w) := by
  have HN := Lib.hid hn
  have HM := Lib.hid hm
  have HR := Lib.hid hr
  have HO := Lib.hid (show okO ss ⟨k, f, t, u, mm, d, o, b⟩ = true from by rw [okO_T (rtT_in hr).1]; exact ho)
  unfold adT at h
  rw [if_neg (fun c => by rw [bne_iff_ne] at hd; exact hd c.2.2)] at h
  have H := Lib.hid h
  have hB0 : Below w.heap.size w (w.alloc (.cells #[.int .i64 k, .int .i64 f, .int .i64 t, .int .i64 u, .int .i64 mm, .int .i64 d, .int .i64 o, .int .i64 b] 26)) := Gen.b_alloc (Below.refl _ _)
  have hx0 : Row (w.alloc (.cells #[.int .i64 k, .int .i64 f, .int .i64 t, .int .i64 u, .int .i64 mm, .int .i64 d, .int .i64 o, .int .i64 b] 26)) w.heap.size 26 #[.int .i64 k, .int .i64 f, .int .i64 t, .int .i64 u, .int .i64 mm, .int .i64 d, .int .i64 o, .int .i64 b] := Row.new _ _ _
  replace hc := hc.keep hB0
  replace hc' := hc'.keep hB0
  clear hn hm hr ho h
  go_enter Try.func15, Try.ntmps15
  go_wp2_with (fail)
  go_must (refine (rtRight_is _ HN.out hc hbig HM.out hc' (by omega) HR.out).mono ?_)
  rintro e w1 ⟨rfl, hb1⟩
  replace hB0 := Gen.over hb1 hB0
  replace hx0 := hx0.keep hb1
  replace hc := hc.keep hb1
  replace hc' := hc'.keep hb1
  clear hb1
  have d0 := hx0.cell 0
  have d1 := hx0.cell 1
  have d2 := hx0.cell 2
  have d3 := hx0.cell 3
  have d4 := hx0.cell 4
  have d5 := hx0.cell 5
  have d6 := hx0.cell 6
  have d7 := hx0.cell 7
  go_wp2_with (fail)
  go_must (refine (rone_is (x := ⟨k, f, t, u, mm, d, o, b⟩) _ HN.out hc hbig HO.out).mono ?_)
  rintro e w2 ⟨rfl, hb2⟩
  replace hB0 := Gen.over hb2 hB0
  replace hx0 := hx0.keep hb2
  replace hc' := hc'.keep hb2
  clear hb2 d0 d1 d2 d3 d4 d5 d6 d7
  have d0 := hx0.cell 0
  have d1 := hx0.cell 1
  have d2 := hx0.cell 2
  have d3 := hx0.cell 3
  have d4 := hx0.cell 4
  have d5 := hx0.cell 5
  have d6 := hx0.cell 6
  have d7 := hx0.cell 7
  go_wp2
  exact bodyPost_ret (v := .tuple #[.slice none 0 0, .int .i64 1]) (by simp [results, Try.results15, go_sem]) rfl (tr_no H.out hB0)
set_option maxRecDepth 100000 in
set_option maxHeartbeats 8000000 in
theorem radd_5 (k f t u mm d o b : Int) (A : Option Addr) (n cap : Nat) (ss : List (Int × Int)) (A' : Option Addr) (m cap' : Nat) (l : List Tr) (L : List Tr) (E : Int) (w : World) (hn : ss.length = n) (hc : Prs w A ss) (hbig : n ≤ 1000000) (hm : l.length = m) (hc' : Trs w A' l) (hbig' : m ≤ 4000)
    (hr : rtT ss l = true) (ho : okT ss ⟨k, f, t, u, mm, d, o, b⟩ = true) (hd : o = -1) (h : adT ss l ⟨k, f, t, u, mm, d, o, b⟩ = (L, E)) :
    Calls Try.prog 15 #[.slice A n cap, .slice A' m cap', .agg #[.int .i64 k, .int .i64 f, .int .i64 t, .int .i64 u, .int .i64 mm, .int .i64 d, .int .i64 o, .int .i64 b]] w (TrPost L E w) := by
  have HN := Lib.hid hn
  have HM := Lib.hid hm
  have HR := Lib.hid hr
  have HO := Lib.hid (show okO ss ⟨k, f, t, u, mm, d, o, b⟩ = true from by rw [okO_T (rtT_in hr).1]; exact ho)
  unfold adT at h
  rw [if_pos ⟨hr, ho, hd⟩, if_neg (by rw [hm]; omega)] at h
  have hqI : (m : Int) < 5000 := by omega
  subst hd
  obtain ⟨i0, hi0, hz0, hz1, hz2⟩ := info_parts infoT
  have N1 := Lib.hid (show m + 1 ≤ maxLen from by simp only [maxLen]; omega)
  have N2 := Lib.hid (show (m + 1) * 64 ≤ 140737488355328 from by omega)
  have N3 := Lib.hid (show 0 + m ≤ maxLen from by simp only [maxLen]; omega)
  have N4 := Lib.hid (show (0 + m) * 64 ≤ 140737488355328 from by omega)
  have H := Lib.hid h
  have hB0 : Below w.heap.size w (w.alloc (.cells #[.int .i64 k, .int .i64 f, .int .i64 t, .int .i64 u, .int .i64 mm, .int .i64 d, .int .i64 (-1), .int .i64 b] 26)) := Gen.b_alloc (Below.refl _ _)
  have hx0 : Row (w.alloc (.cells #[.int .i64 k, .int .i64 f, .int .i64 t, .int .i64 u, .int .i64 mm, .int .i64 d, .int .i64 (-1), .int .i64 b] 26)) w.heap.size 26 #[.int .i64 k, .int .i64 f, .int .i64 t, .int .i64 u, .int .i64 mm, .int .i64 d, .int .i64 (-1), .int .i64 b] := Row.new _ _ _
  replace hc := hc.keep hB0
  replace hc' := hc'.keep hB0
  clear hn hm hr ho h
  go_enter Try.func15, Try.ntmps15
  go_wp2_with (fail)
  go_must (refine (rtRight_is _ HN.out hc hbig HM.out hc' (by omega) HR.out).mono ?_)
  rintro e w1 ⟨rfl, hb1⟩
  replace hB0 := Gen.over hb1 hB0
  replace hx0 := hx0.keep hb1
  replace hc := hc.keep hb1
  replace hc' := hc'.keep hb1
  clear hb1
  have d0 := hx0.cell 0
  have d1 := hx0.cell 1
  have d2 := hx0.cell 2
  have d3 := hx0.cell 3
  have d4 := hx0.cell 4
  have d5 := hx0.cell 5
  have d6 := hx0.cell 6
  have d7 := hx0.cell 7
  go_wp2_with (fail)
  go_must (refine (rone_is (x := ⟨k, f, t, u, mm, d, -1, b⟩) _ HN.out hc hbig HO.out).mono ?_)
  rintro e w2 ⟨rfl, hb2⟩
  replace hB0 := Gen.over hb2 hB0
  replace hx0 := hx0.keep hb2
  replace hc' := hc'.keep hb2
  clear hb2 d0 d1 d2 d3 d4 d5 d6 d7
  have c6 := hx0.cell 6
  have hlt0 : w.heap.size < w2.heap.size := hx0.lt
  go_wp2
  have hge : w.heap.size ≤ w2.heap.size := hB0.size
  have r1 := trs_reads HM.out hc'
  have d0 := (show Row w2 w.heap.size 26 #[.int .i64 k, .int .i64 f, .int .i64 t, .int .i64 u, .int .i64 mm, .int .i64 d, .int .i64 (-1), .int .i64 b] from hx0).cell 0
  have d1 := (show Row w2 w.heap.size 26 #[.int .i64 k, .int .i64 f, .int .i64 t, .int .i64 u, .int .i64 mm, .int .i64 d, .int .i64 (-1), .int .i64 b] from hx0).cell 1
  have d2 := (show Row w2 w.heap.size 26 #[.int .i64 k, .int .i64 f, .int .i64 t, .int .i64 u, .int .i64 mm, .int .i64 d, .int .i64 (-1), .int .i64 b] from hx0).cell 2
  have d3 := (show Row w2 w.heap.size 26 #[.int .i64 k, .int .i64 f, .int .i64 t, .int .i64 u, .int .i64 mm, .int .i64 d, .int .i64 (-1), .int .i64 b] from hx0).cell 3
  have d4 := (show Row w2 w.heap.size 26 #[.int .i64 k, .int .i64 f, .int .i64 t, .int .i64 u, .int .i64 mm, .int .i64 d, .int .i64 (-1), .int .i64 b] from hx0).cell 4
  have d5 := (show Row w2 w.heap.size 26 #[.int .i64 k, .int .i64 f, .int .i64 t, .int .i64 u, .int .i64 mm, .int .i64 d, .int .i64 (-1), .int .i64 b] from hx0).cell 5
  have d6 := (show Row w2 w.heap.size 26 #[.int .i64 k, .int .i64 f, .int .i64 t, .int .i64 u, .int .i64 mm, .int .i64 d, .int .i64 (-1), .int .i64 b] from hx0).cell 6
  have d7 := (show Row w2 w.heap.size 26 #[.int .i64 k, .int .i64 f, .int .i64 t, .int .i64 u, .int .i64 mm, .int .i64 d, .int .i64 (-1), .int .i64 b] from hx0).cell 7
  have g0 := (show Row (w2.alloc (.cells #[] 26)) w.heap.size 26 #[.int .i64 k, .int .i64 f, .int .i64 t, .int .i64 u, .int .i64 mm, .int .i64 d, .int .i64 (-1), .int .i64 b] from hx0.alloc _).cell 0
  have g1 := (show Row (w2.alloc (.cells #[] 26)) w.heap.size 26 #[.int .i64 k, .int .i64 f, .int .i64 t, .int .i64 u, .int .i64 mm, .int .i64 d, .int .i64 (-1), .int .i64 b] from hx0.alloc _).cell 1
  have g2 := (show Row (w2.alloc (.cells #[] 26)) w.heap.size 26 #[.int .i64 k, .int .i64 f, .int .i64 t, .int .i64 u, .int .i64 mm, .int .i64 d, .int .i64 (-1), .int .i64 b] from hx0.alloc _).cell 2
  have g3 := (show Row (w2.alloc (.cells #[] 26)) w.heap.size 26 #[.int .i64 k, .int .i64 f, .int .i64 t, .int .i64 u, .int .i64 mm, .int .i64 d, .int .i64 (-1), .int .i64 b] from hx0.alloc _).cell 3
  have g4 := (show Row (w2.alloc (.cells #[] 26)) w.heap.size 26 #[.int .i64 k, .int .i64 f, .int .i64 t, .int .i64 u, .int .i64 mm, .int .i64 d, .int .i64 (-1), .int .i64 b] from hx0.alloc _).cell 4
  have g5 := (show Row (w2.alloc (.cells #[] 26)) w.heap.size 26 #[.int .i64 k, .int .i64 f, .int .i64 t, .int .i64 u, .int .i64 mm, .int .i64 d, .int .i64 (-1), .int .i64 b] from hx0.alloc _).cell 5
  have g6 := (show Row (w2.alloc (.cells #[] 26)) w.heap.size 26 #[.int .i64 k, .int .i64 f, .int .i64 t, .int .i64 u, .int .i64 mm, .int .i64 d, .int .i64 (-1), .int .i64 b] from hx0.alloc _).cell 6
  have g7 := (show Row (w2.alloc (.cells #[] 26)) w.heap.size 26 #[.int .i64 k, .int .i64 f, .int .i64 t, .int .i64 u, .int .i64 mm, .int .i64 d, .int .i64 (-1), .int .i64 b] from hx0.alloc _).cell 7
  go_region_law (first
    | (refine App.step_append_any _ (by rfl) (.tmp 26) (.tmp 27) 24 (by rfl) w2.heap.size 26 i0 _ 8 64 Try.underlying24 hi0 hz0 hz1 hz2 rfl (by omega) (.slice (some ⟨w2.heap.size, 0, none⟩) 0 0) 0 [] (by simp [Act.eval, Act.put]) (Gen.own_keep (blk0 w2 26 8) (Below.refl _ _).drew) w2.heap.size _ m cap' (l.flatMap tcs) (by simp [Act.eval, Act.put]) (r1.alloc (Nat.le_refl _) _).drew (tcs_one l) N3.out N4.out (by first | (simp; done) | (simp only [World.size_alloc, World.size_drew]; omega)) ?_; intro v2 w7 hown7 hg7 hat7; rw [List.nil_append, Nat.zero_add] at hown7; have hB7 : Below w.heap.size w w7 := Gen.g_below ((Gen.own_keep (blk0 w2 26 8) (Below.refl _ _).drew)) hg7 ((Gen.b_alloc hB0).drew) (by omega); have hx7 : Row w7 w.heap.size 26 #[.int .i64 k, .int .i64 f, .int .i64 t, .int .i64 u, .int .i64 mm, .int .i64 d, .int .i64 (-1), .int .i64 b] := Gen.g_row ((Gen.own_keep (blk0 w2 26 8) (Below.refl _ _).drew)) hg7 (by omega) ((hx0.alloc _).keep (Below.refl _ _).drew); have e0 := hx7.cell 0; have e1 := hx7.cell 1; have e2 := hx7.cell 2; have e3 := hx7.cell 3; have e4 := hx7.cell 4; have e5 := hx7.cell 5; have e6 := hx7.cell 6; have e7 := hx7.cell 7; have hs7 : w2.heap.size + 1 ≤ w7.heap.size := (by have := hg7.size; simp at this; omega))
    | (refine App.step_append_any _ (by rfl) (.tmp 26) (.tmp 27) 24 (by rfl) w2.heap.size 26 i0 _ 8 64 Try.underlying24 hi0 hz0 hz1 hz2 rfl (by omega) (.slice (some ⟨w2.heap.size, 0, none⟩) 0 0) 0 [] (by simp [Act.eval, Act.put]) (Gen.own_keep (Gen.own_keep (blk0 w2 26 8) (Gen.b_alloc (x := (.cells #[.int .i64 k, .int .i64 f, .int .i64 t, .int .i64 u, .int .i64 mm, .int .i64 d, .int .i64 (-1), .int .i64 b] 26)) (Below.refl _ _))) (Below.refl _ _).drew) w2.heap.size _ m cap' (l.flatMap tcs) (by simp [Act.eval, Act.put]) ((r1.alloc (Nat.le_refl _) _).alloc (by simp) _).drew (tcs_one l) N3.out N4.out (by first | (simp; done) | (simp only [World.size_alloc, World.size_drew]; omega)) ?_; intro v2 w7 hown7 hg7 hat7; rw [List.nil_append, Nat.zero_add] at hown7; have hB7 : Below w.heap.size w w7 := Gen.g_below ((Gen.own_keep (Gen.own_keep (blk0 w2 26 8) (Gen.b_alloc (x := (.cells #[.int .i64 k, .int .i64 f, .int .i64 t, .int .i64 u, .int .i64 mm, .int .i64 d, .int .i64 (-1), .int .i64 b] 26)) (Below.refl _ _))) (Below.refl _ _).drew)) hg7 ((Gen.b_alloc (Gen.b_alloc hB0)).drew) (by omega); have hx7 : Row w7 w.heap.size 26 #[.int .i64 k, .int .i64 f, .int .i64 t, .int .i64 u, .int .i64 mm, .int .i64 d, .int .i64 (-1), .int .i64 b] := Gen.g_row ((Gen.own_keep (Gen.own_keep (blk0 w2 26 8) (Gen.b_alloc (x := (.cells #[.int .i64 k, .int .i64 f, .int .i64 t, .int .i64 u, .int .i64 mm, .int .i64 d, .int .i64 (-1), .int .i64 b] 26)) (Below.refl _ _))) (Below.refl _ _).drew)) hg7 (by omega) (((hx0.alloc _).alloc _).keep (Below.refl _ _).drew); have e0 := hx7.cell 0; have e1 := hx7.cell 1; have e2 := hx7.cell 2; have e3 := hx7.cell 3; have e4 := hx7.cell 4; have e5 := hx7.cell 5; have e6 := hx7.cell 6; have e7 := hx7.cell 7; have hRB := App.Reads.of_own ((Gen.own_keep (blk1A w2 (.cells #[] 26) 26 #[.int .i64 k, .int .i64 f, .int .i64 t, .int .i64 u, .int .i64 mm, .int .i64 d, .int .i64 (-1), .int .i64 b] rfl) (Below.refl _ _).drew).kept hg7 (.inr (fun c => absurd (Option.some.inj (show some (w2.heap.size + 1) = some w2.heap.size from c)) (by omega)))); have hs7 : w2.heap.size + 1 ≤ w7.heap.size := (by have := hg7.size; simp at this; omega))
    | (refine App.step_append_any _ (by rfl) (.tmp 26) (.tmp 27) 24 (by rfl) (w2.heap.size + 1) 26 i0 _ 8 64 Try.underlying24 hi0 hz0 hz1 hz2 rfl (by omega) (.slice (some ⟨(w2.heap.size + 1), 0, none⟩) 0 0) 0 [] (by simp [Act.eval, Act.put]) (Gen.own_keep (blk0A w2 (.cells #[.int .i64 k, .int .i64 f, .int .i64 t, .int .i64 u, .int .i64 mm, .int .i64 d, .int .i64 (-1), .int .i64 b] 26) 26 8) (Below.refl _ _).drew) w2.heap.size _ m cap' (l.flatMap tcs) (by simp [Act.eval, Act.put]) ((r1.alloc (Nat.le_refl _) _).alloc (by simp) _).drew (tcs_one l) N3.out N4.out (by first | (simp; done) | (simp only [World.size_alloc, World.size_drew]; omega)) ?_; intro v2 w7 hown7 hg7 hat7; rw [List.nil_append, Nat.zero_add] at hown7; have hB7 : Below w.heap.size w w7 := Gen.g_below ((Gen.own_keep (blk0A w2 (.cells #[.int .i64 k, .int .i64 f, .int .i64 t, .int .i64 u, .int .i64 mm, .int .i64 d, .int .i64 (-1), .int .i64 b] 26) 26 8) (Below.refl _ _).drew)) hg7 ((Gen.b_alloc (Gen.b_alloc hB0)).drew) (by omega); have hx7 : Row w7 w.heap.size 26 #[.int .i64 k, .int .i64 f, .int .i64 t, .int .i64 u, .int .i64 mm, .int .i64 d, .int .i64 (-1), .int .i64 b] := Gen.g_row ((Gen.own_keep (blk0A w2 (.cells #[.int .i64 k, .int .i64 f, .int .i64 t, .int .i64 u, .int .i64 mm, .int .i64 d, .int .i64 (-1), .int .i64 b] 26) 26 8) (Below.refl _ _).drew)) hg7 (by omega) (((hx0.alloc _).alloc _).keep (Below.refl _ _).drew); have e0 := hx7.cell 0; have e1 := hx7.cell 1; have e2 := hx7.cell 2; have e3 := hx7.cell 3; have e4 := hx7.cell 4; have e5 := hx7.cell 5; have e6 := hx7.cell 6; have e7 := hx7.cell 7; have hRB := App.Reads.of_own ((Gen.own_keep (Gen.own_keep (blk1 w2 26 #[.int .i64 k, .int .i64 f, .int .i64 t, .int .i64 u, .int .i64 mm, .int .i64 d, .int .i64 (-1), .int .i64 b] rfl) (Gen.b_alloc (Below.refl _ _))) (Below.refl _ _).drew).kept hg7 (.inr (fun c => absurd (Option.some.inj (show some w2.heap.size = some (w2.heap.size + 1) from c)) (by omega)))); have hs7 : w2.heap.size + 1 ≤ w7.heap.size := (by have := hg7.size; simp at this; omega))
    | (refine App.step_append_any _ (by rfl) (.tmp 28) (.tmp 30) 24 (by rfl) w2.heap.size 26 i0 _ 8 64 Try.underlying24 hi0 hz0 hz1 hz2 rfl (by omega) v2 m (l.flatMap tcs) (by simp [Act.eval, Act.put]) (Gen.own_keep hown7 (Gen.b_alloc (Below.refl _ _))) _ (some ⟨w7.heap.size, 0, none⟩) 1 1 (tcs ⟨k, f, t, u, mm, d, -1, b⟩) (by simp [Act.eval, Act.put]) (Gen.reads_blk rfl rfl) (by simp [tcs, Value.oneCell']) N1.out N2.out (by simp; have := hB7.size; have := hs7; omega) ?_; intro v3 w8 hown8 hg8 hat8; have hB8 : Below w.heap.size w w8 := Gen.g_below hown7 hg8 (Gen.b_alloc hB7) (by omega); have hF8 := own_base hown8 (show w2.heap.size ≤ _ from by omega))
    | (refine App.step_append_any _ (by rfl) (.tmp 28) (.tmp 30) 24 (by rfl) w2.heap.size 26 i0 _ 8 64 Try.underlying24 hi0 hz0 hz1 hz2 rfl (by omega) v2 m (l.flatMap tcs) (by simp [Act.eval, Act.put]) hown7 _ (some ⟨w2.heap.size + 1, 0, none⟩) 1 1 (tcs ⟨k, f, t, u, mm, d, -1, b⟩) (by simp [Act.eval, Act.put]) hRB (by simp [tcs, Value.oneCell']) N1.out N2.out (by have := hs7; omega) ?_; intro v3 w8 hown8 hg8 hat8; have hB8 : Below w.heap.size w w8 := Gen.g_below hown7 hg8 (hB7) (by omega); have hF8 := own_base hown8 (show w2.heap.size ≤ _ from by omega))
    | (refine App.step_append_any _ (by rfl) (.tmp 28) (.tmp 30) 24 (by rfl) (w2.heap.size + 1) 26 i0 _ 8 64 Try.underlying24 hi0 hz0 hz1 hz2 rfl (by omega) v2 m (l.flatMap tcs) (by simp [Act.eval, Act.put]) hown7 _ (some ⟨w2.heap.size, 0, none⟩) 1 1 (tcs ⟨k, f, t, u, mm, d, -1, b⟩) (by simp [Act.eval, Act.put]) hRB (by simp [tcs, Value.oneCell']) N1.out N2.out (by have := hs7; omega) ?_; intro v3 w8 hown8 hg8 hat8; have hB8 : Below w.heap.size w w8 := Gen.g_below hown7 hg8 (hB7) (by omega); have hF8 := own_base hown8 (show w2.heap.size ≤ _ from by omega)))
  all_goals
    obtain ⟨A5, c5, rfl, _⟩ := Gen.own_slice hF8
    have hT8 := trs_own (n := m + 1) (l := l ++ [⟨k, f, t, u, mm, d, -1, b⟩]) (by simp [HM.out]) (by rw [List.flatMap_append]; simpa using hF8)
    have HLL := (show l ++ [⟨k, f, t, u, mm, d, -1, b⟩] = L from by have := H.out; injection this)
    have HLE := (show 0 = E from by have := H.out; injection this)
    have hLn : L.length = m + 1 := by rw [← HLL]; simp [HM.out]
    rw [HLL] at hT8
    go_wp2
    go_ret2
    exact ⟨A5, c5, by first | (rw [hLn, ← HLE]; done) | (rw [hLn, ← HLE]; rfl), hB8, hT8⟩
theorem radd_any (x : Tr) (A : Option Addr) (n cap : Nat) (ss : List (Int × Int)) (A' : Option Addr) (m cap' : Nat) (l : List Tr) (L : List Tr) (E : Int) (w : World) (hn : ss.length = n) (hc : Prs w A ss) (hbig : n ≤ 1000000) (hm : l.length = m) (hc' : Trs w A' l) (hbig' : m ≤ 4000) (h : adT ss l x = (L, E)) :
    Calls Try.prog 15 #[.slice A n cap, .slice A' m cap', .agg (tcs x).toArray] w (TrPost L E w) := by
  obtain ⟨k, f, t, u, mm, d, o, b⟩ := x
  cases hr : rtT ss l
  · exact radd_1 k f t u mm d o b A n cap ss A' m cap' l L E w hn hc hbig hm hc' hbig' hr h
  cases ho : okT ss ⟨k, f, t, u, mm, d, o, b⟩
  · exact radd_2 k f t u mm d o b A n cap ss A' m cap' l L E w hn hc hbig hm hc' hbig' hr ho h
  by_cases hd : o = -1
  · exact radd_5 k f t u mm d o b A n cap ss A' m cap' l L E w hn hc hbig hm hc' hbig' hr ho hd h
  · exact radd_3 k f t u mm d o b A n cap ss A' m cap' l L E w hn hc hbig hm hc' hbig' hr ho (by rw [bne_iff_ne]; exact hd) h
end Go.Proofs.Ytpekedhcnijgcaa.Book
