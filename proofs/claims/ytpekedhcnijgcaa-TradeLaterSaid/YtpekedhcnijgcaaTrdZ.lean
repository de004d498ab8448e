/- The reference of trade: the contract of Settle. -/
import Derived.Test.YtpekedhcnijgcaaTrdQ
import Derived.Test.YtpekedhcnijgcaaSetM
import Derived.BigRegion
namespace Go.Proofs.Ytpekedhcnijgcaa.Book
open Go.ChangeShapes Go.WideShapes Go.ChangeAt Go.RowKit Go.Proofs.Ytpekedhcnijgcaa.Cell
set_option linter.unusedVariables false
set_option linter.unusedSimpArgs false

theorem row_oth {w : World} {g g2 : Nat} {t : TypeId} {cs : Array Value} (h : Row w g t cs) (hne : g ≠ g2) (i : Nat) (u : Value) : Row (w.setCell ⟨g2, i, none⟩ u) g t cs := (Below.heap_setCell w ⟨g2, i, none⟩ u g hne).trans h
theorem blk0 (W : World) (t : TypeId) (k : Nat) : (W.alloc (.cells #[] t)).ownsRow W.heap.size t k (.slice (some ⟨W.heap.size, 0, none⟩) 0 0) 0 [] :=
  ⟨by simp, .inr ⟨W.heap.size, 0, #[], rfl, Nat.le_refl _, heap_alloc_new W _, Nat.le_refl _, by simp [maxLen], by simp, by simp⟩⟩
/-- what the loop of the reference's Settle keeps -/
structure RI (w : World) (bH bT : Nat) (day : Int) (AH : Option Addr) (n cH N : Nat) (ss : List (Int × Int)) (R : List Int × List Tr) (W : World) (v : Value) (H : List Int) (L : List Tr) : Prop where
  gd : Gd ss N H L
  st : stlW day H L = R
  oh : W.ownsRow bH 3 1 (.slice AH n cH) n (ils H)
  ot : W.ownsRow bT 26 8 v L.length (L.flatMap tcs)
  bl : Below w.heap.size w W
theorem RI.keep {w : World} {bH bT : Nat} {day : Int} {AH : Option Addr} {n cH N : Nat} {ss : List (Int × Int)} {R : List Int × List Tr} {W W' : World} {v : Value} {H : List Int} {L : List Tr} (h : RI w bH bT day AH n cH N ss R W v H L) (hb : Below W.heap.size W W') : RI w bH bT day AH n cH N ss R W' v H L :=
  ⟨h.gd, h.st, Gen.own_keep h.oh hb, Gen.own_keep h.ot hb, Gen.over hb h.bl⟩
section
variable {A : Option Addr} {n cap : Nat} {ss : List (Int × Int)} {A' : Option Addr} {m cap' : Nat} {us : List Int} {A3 : Option Addr} {q cap3 : Nat} {l : List Tr} {day : Int} {R : List Int × List Tr} {E : Int}
set_option maxRecDepth 100000 in
set_option maxHeartbeats 8000000 in
theorem rsettle_a (w : World) (hn : ss.length = n) (hc : Prs w A ss) (hbig : n ≤ 1000000) (hm : us.length = m) (hc' : Ints w A' us) (hbig' : m ≤ 1000000) (hq : l.length = q) (hl : Trs w A3 l) (hq12 : q ≤ 5000) (hv : vd ss us = false) (h : stO ss us l day = (R, E)) :
    Calls Try.prog 17 #[.slice A n cap, .slice A' m cap', .slice A3 q cap3, .int .i64 day] w (StPost R E w) := by
  have HN := Lib.hid hn
  have HM := Lib.hid hm
  have HQ := Lib.hid hq
  have HV := Lib.hid hv
  have H := Lib.hid (show (([], []), 1) = (R, E) from by rw [← h]; unfold stO; rw [if_neg (fun c => by rw [hv] at c; cases c.1)])
  clear hn hm hq hv h
  go_enter Try.func17, Try.ntmps17
  go_wp2_with (fail)
  go_must (refine (units_is _ HN.out hc hbig HM.out hc' (by omega) HV.out).mono ?_)
  rintro e w1 ⟨rfl, hB⟩
  replace hc := hc.keep hB
  replace hc' := hc'.keep hB
  replace hl := hl.keep hB
  go_wp2
  exact bodyPost_ret (v := .tuple #[.slice none 0 0, .slice none 0 0, .int .i64 1]) (by simp [results, Try.results17, go_sem]) rfl (st_no H.out hB)
set_option maxRecDepth 100000 in
set_option maxHeartbeats 8000000 in
theorem rsettle_b (w : World) (hn : ss.length = n) (hc : Prs w A ss) (hbig : n ≤ 1000000) (hm : us.length = m) (hc' : Ints w A' us) (hbig' : m ≤ 1000000) (hq : l.length = q) (hl : Trs w A3 l) (hq12 : q ≤ 5000) (hv : vd ss us = true) (hr : rtT ss l = false) (h : stO ss us l day = (R, E)) :
    Calls Try.prog 17 #[.slice A n cap, .slice A' m cap', .slice A3 q cap3, .int .i64 day] w (StPost R E w) := by
  have HN := Lib.hid hn
  have HM := Lib.hid hm
  have HQ := Lib.hid hq
  have HV := Lib.hid hv
  have HR := Lib.hid hr
  have H := Lib.hid (show (([], []), 1) = (R, E) from by rw [← h]; unfold stO; rw [if_neg (fun c => by rw [hr] at c; cases c.2.1)])
  clear hn hm hq hv hr h
  go_enter Try.func17, Try.ntmps17
  go_wp2_with (fail)
  go_must (refine (units_is _ HN.out hc hbig HM.out hc' (by omega) HV.out).mono ?_)
  rintro e w1 ⟨rfl, hB⟩
  replace hc := hc.keep hB
  replace hc' := hc'.keep hB
  replace hl := hl.keep hB
  go_wp2_with (fail)
  go_must (refine (rtRight_is _ HN.out hc hbig HQ.out hl (by omega) HR.out).mono ?_)
  rintro e w2 ⟨rfl, hb2⟩
  replace hB := Gen.over hb2 hB
  replace hc' := hc'.keep hb2
  replace hl := hl.keep hb2
  clear hb2 hc
  go_wp2
  exact bodyPost_ret (v := .tuple #[.slice none 0 0, .slice none 0 0, .int .i64 1]) (by simp [results, Try.results17, go_sem]) rfl (st_no H.out hB)
set_option maxRecDepth 100000 in
set_option maxHeartbeats 8000000 in
theorem rsettle_c (w : World) (hn : ss.length = n) (hc : Prs w A ss) (hbig : n ≤ 1000000) (hm : us.length = m) (hc' : Ints w A' us) (hbig' : m ≤ 1000000) (hq : l.length = q) (hl : Trs w A3 l) (hq12 : q ≤ 5000) (hv : vd ss us = true) (hr : rtT ss l = true) (hd : ¬ (0 ≤ day ∧ day ≤ 200000)) (h : stO ss us l day = (R, E)) :
    Calls Try.prog 17 #[.slice A n cap, .slice A' m cap', .slice A3 q cap3, .int .i64 day] w (StPost R E w) := by
  have HN := Lib.hid hn
  have HM := Lib.hid hm
  have HQ := Lib.hid hq
  have HV := Lib.hid hv
  have HR := Lib.hid hr
  have HD := Lib.hid (dyB_no hd)
  have H := Lib.hid (show (([], []), 1) = (R, E) from by rw [← h]; unfold stO; rw [if_neg (fun c => hd c.2.2)])
  clear hn hm hq hv hr hd h
  go_enter Try.func17, Try.ntmps17
  go_wp2_with (fail)
  go_must (refine (units_is _ HN.out hc hbig HM.out hc' (by omega) HV.out).mono ?_)
  rintro e w1 ⟨rfl, hB⟩
  replace hc := hc.keep hB
  replace hc' := hc'.keep hB
  replace hl := hl.keep hB
  go_wp2_with (fail)
  go_must (refine (rtRight_is _ HN.out hc hbig HQ.out hl (by omega) HR.out).mono ?_)
  rintro e w2 ⟨rfl, hb2⟩
  replace hB := Gen.over hb2 hB
  replace hc' := hc'.keep hb2
  replace hl := hl.keep hb2
  clear hb2 hc
  go_wp2_with (fail)
  go_must (refine (rday_is _ HD.out).mono ?_)
  rintro e wd ⟨rfl, rfl⟩
  go_wp2
  exact bodyPost_ret (v := .tuple #[.slice none 0 0, .slice none 0 0, .int .i64 1]) (by simp [results, Try.results17, go_sem]) rfl (st_no H.out hB)
set_option maxRecDepth 100000 in
set_option maxHeartbeats 8000000 in
theorem rsettle_d (w : World) (hn : ss.length = n) (hc : Prs w A ss) (hbig : n ≤ 1000000) (hm : us.length = m) (hc' : Ints w A' us) (hbig' : m ≤ 1000000) (hq : l.length = q) (hl : Trs w A3 l) (hq12 : q ≤ 30) (hv : vd ss us = true) (hr : rtT ss l = true) (hd0 : 0 ≤ day) (hd1 : day ≤ 200000) (h : stO ss us l day = (R, E)) :
    Calls Try.prog 17 #[.slice A n cap, .slice A' m cap', .slice A3 q cap3, .int .i64 day] w (StPost R E w) := by
  have HN := Lib.hid hn
  have HM := Lib.hid hm
  have HQ := Lib.hid hq
  have HV := Lib.hid hv
  have HR := Lib.hid hr
  have HD := Lib.hid (dyB_yes ⟨hd0, hd1⟩)
  have hmn : m = n := by have := (vd_in hv).2.1; omega
  subst hmn
  obtain rfl : 0 = E := by unfold stO at h; rw [if_pos ⟨hv, hr, hd0, hd1⟩] at h; injection h
  have HST := Lib.hid (show stlW day us l = R from by unfold stO at h; rw [if_pos ⟨hv, hr, hd0, hd1⟩] at h; injection h)
  have HGG := Lib.hid (show Gd ss (q + wt l) us l from ⟨⟨hv, hr⟩, by omega, by have := wt_le l; omega⟩)
  have hN36 : q + wt l ≤ 100 := by have := wt_le l; omega
  obtain ⟨iI, hiI, hzI, hyI, hxI⟩ := info_parts info3
  obtain ⟨i0, hi0, hz0, hz1, hz2⟩ := info_parts infoT
  clear hn hm hq hv hr h
  go_enter Try.func17, Try.ntmps17
  go_wp2_with (fail)
  go_must (refine (units_is _ HN.out hc hbig HM.out hc' (by omega) HV.out).mono ?_)
  rintro e w1 ⟨rfl, hB⟩
  replace hc := hc.keep hB
  replace hc' := hc'.keep hB
  replace hl := hl.keep hB
  go_wp2_with (fail)
  go_must (refine (rtRight_is _ HN.out hc hbig HQ.out hl (by omega) HR.out).mono ?_)
  rintro e w2 ⟨rfl, hb2⟩
  replace hB := Gen.over hb2 hB
  replace hc' := hc'.keep hb2
  replace hl := hl.keep hb2
  clear hb2 hc
  go_wp2_with (fail)
  go_must (refine (rday_is _ HD.out).mono ?_)
  rintro e wd ⟨rfl, rfl⟩
  have r1 := ints_reads HM.out hc'
  have hwle : w.heap.size ≤ w2.heap.size := hB.size
  have hown0 := blk0 w2 3 1
  go_wp2_with (first
    | (at_builtin
       refine App.wpList_append_any _ rfl (.tmp 30) (.tmp 31) _ rfl w2.heap.size 3 iI _ 1 8 Try.underlying23 hiI hzI hyI hxI rfl (by omega) _ 0 [] rfl hown0 w2.heap.size _ m cap' (ils us) rfl (r1.alloc (Nat.le_refl _) _) (ils_one us) (by simp only [maxLen]; omega) (by omega) (by simp) ?_
       intro v2 w3 hoh hg2 hat2
       have hb3 := Gen.g_below hown0 hg2 (Gen.b_alloc (Below.refl _ _)) (Nat.le_refl _)
       rw [List.nil_append, Nat.zero_add] at hoh
       obtain ⟨AH, cH, rfl, _⟩ := Gen.own_slice hoh
       replace hB := Gen.over hb3 hB
       have hs3 := hb3.size
       have hlt3 := hoh.lt
       replace hl := hl.keep hb3
       have r2 := trs_reads HQ.out hl
       have hown1 := blk0 w3 26 8
       clear hg2 hat2 hown0 r1 hb3)
    | (at_builtin
       refine App.wpList_append_any _ rfl (.tmp 33) (.tmp 34) _ rfl w3.heap.size 26 i0 _ 8 64 Try.underlying24 hi0 hz0 hz1 hz2 rfl (by omega) _ 0 [] rfl hown1 w3.heap.size _ q cap3 (l.flatMap tcs) rfl (r2.alloc (Nat.le_refl _) _) (tcs_one l) (by simp only [maxLen]; omega) (by omega) (by simp) ?_
       intro v3 w4 hot hg3 hat3
       have hb4 := Gen.g_below hown1 hg3 (Gen.b_alloc (Below.refl _ _)) (Nat.le_refl _)
       rw [List.nil_append, Nat.zero_add] at hot
       replace hB := Gen.over hb4 hB
       replace hoh := Gen.own_keep hoh hb4
       clear hg3 hat3 hown1 r2 hb4)
    | fail)
  have HSI := Lib.hid (show RI w w2.heap.size w3.heap.size day AH m cH (q + wt l) ss R w4 v3 us l from ⟨HGG.out, HST.out, hoh, by rw [HQ.out]; exact hot, hB⟩)
  clear hB hoh hot HGG HST hc' hl
  go_loopw [12] (fun vt wr => ∃ (v : Value) (H : List Int) (L : List Tr), vt = v ∧ Hid (RI w w2.heap.size w3.heap.size day AH m cH (q + wt l) ss R wr v H L)) (fun vt wr => wt (rdT wr vt))
  case atStart => exact ⟨_, us, l, rfl, HSI⟩
  case round =>
    obtain ⟨v, H, L, rfl, HS⟩ := hrel
    obtain ⟨AT', cT', rfl, _⟩ := Gen.own_slice HS.out.ot
    have hLb : L.length ≤ 100 := by have := HS.out.gd.len; omega
    have HHL := Lib.hid (show H.length = m from by rw [HS.out.gd.rt.len, HN.out])
    have HBDS := Lib.hid (fun x (hx : x ∈ L) => (show 0 ≤ x.f ∧ x.f < (m : Int) from by have := (HS.out.gd.rt.bounds x hx).1; rw [HHL.out] at this; exact this))
    have HMR := Lib.hid (rdT_own HS.out.ot)
    go_wp2_with (fail)
    go_must (refine (rfirst_any _ m _ H _ _ _ L day _ HHL.out (ints_of_own HHL.out HS.out.oh) rfl (trs_own rfl HS.out.ot) (by omega) HBDS.out).mono ?_)
    rintro e w5 ⟨rfl, hb5⟩
    have HS5 := Lib.hid (HS.out.keep hb5)
    clear HS hb5
    rcases idx_cases (can day H) L with ⟨hno, hI⟩ | ⟨i, x, hx, hcx, htk, hI⟩
    · rw [hI]
      have HRR := Lib.hid (show R = (H, L) from by rw [← HS5.out.st, stlW_stop hno])
      clear hno hI
      go_wp2
      exact bodyPost_ret (v := .tuple #[.slice AH m cH, .slice AT' L.length cT', .int .i64 0]) (by simp [results, Try.results17, go_sem]) rfl (by
        rw [HRR.out]
        exact ⟨AH, cH, AT', cT', by rw [HHL.out], HS5.out.bl, ints_of_own HHL.out HS5.out.oh, trs_own rfl HS5.out.ot⟩)
    · rw [hI]
      go_wp2_with (fail)
      go_must (refine (rfirst_any _ m _ H _ _ _ L day _ HHL.out (ints_of_own HHL.out HS5.out.oh) rfl (trs_own rfl HS5.out.ot) (by omega) HBDS.out).mono ?_)
      rintro e w6 ⟨rfl, hb6⟩
      rw [hI]
      have HS6 := Lib.hid (HS5.out.keep hb6)
      clear HS5 hb6
      have hiL := lt_of_at hx
      obtain ⟨gT, cT2, hv, _, _⟩ := HS6.out.ot.form (by omega)
      obtain rfl : AT' = some ⟨gT, 0, none⟩ := by injection hv
      obtain ⟨c1, c2, c3⟩ := can_in hcx
      obtain ⟨m1, m2, m3, _, _⟩ := HS6.out.gd.rt.mem hx
      obtain ⟨u0, u1, une⟩ := okD_u m3
      have HGD := Lib.hid (HS6.out.gd.step hd0 hd1 hx hcx)
      have HSTL := Lib.hid (show stlW day (stH H x) (stL day L i x) = R from by rw [← HS6.out.st, stlW_go hd0 htk hx hcx])
      have HWT := Lib.hid (wt_step (l := L) (i := i) hd0 hx c1)
      rw [HHL.out] at m1 m2
      obtain ⟨gH, cH2, hv2, _, _⟩ := HS6.out.oh.form (by omega)
      obtain rfl : AH = some ⟨gH, 0, none⟩ := by injection hv2
      have hgH := hlt3 gH rfl
      have hgT := HS6.out.ot.lt gT rfl
      obtain ⟨xk, xf, xt, xu, xm, xd, xo, xb⟩ := x
      dsimp only at c1 c2 c3 m1 m2 u0 u1 une
      obtain ⟨qf, rfl⟩ := Int.eq_ofNat_of_zero_le m1.1
      obtain ⟨qt, rfl⟩ := Int.eq_ofNat_of_zero_le m2.1
      have hqf : qf < m := by omega
      have hqt : qt < m := by omega
      have hqne : qf ≠ qt := fun c => une (by rw [c])
      have hqfI : (qf : Int) < (m : Int) := by omega
      have hqtI : (qt : Int) < (m : Int) := by omega
      obtain ⟨z1, hz1'⟩ := at_ H qf (by rw [HHL.out]; exact hqf)
      obtain ⟨z2, hz2'⟩ := at_ H qt (by rw [HHL.out]; exact hqt)
      obtain ⟨z10, z11⟩ := vd_all HS6.out.gd.rt.v z1 (mem_of_at hz1')
      obtain ⟨z20, z21⟩ := vd_all HS6.out.gd.rt.v z2 (mem_of_at hz2')
      have HSTH := Lib.hid (show stH H ⟨xk, (qf : Int), (qt : Int), xu, xm, xd, xo, xb⟩ = (H.set qf (z1 - xu)).set qt (z2 + xu) from by unfold stH; dsimp only; rw [Int.toNat_natCast, Int.toNat_natCast, mvL_sets hz1' hz2' hqne])
      have hT : ∀ (W : World) (l2 : List Tr) (y : Tr) (j : Nat) (vv : Value), W.ownsRow w3.heap.size 26 8 (.slice (some ⟨gT, 0, none⟩) L.length cT') L.length (l2.flatMap tcs) → l2[i]? = some y → j < 8 → (tcs y)[j]? = some vv → W.cell? ⟨gT, i * 8 + j, none⟩ = some vv := fun W l2 y j vv ho hy hj hvv => by
        rw [ho.cellAt (i * 8 + j) (by omega), tcs_flat_at hy hj, hvv]
      obtain ⟨W5, hW5⟩ : ∃ W5 : World, W5 = w6.alloc (.cells #[.int .i64 xk, .int .i64 (qf : Int), .int .i64 (qt : Int), .int .i64 xu, .int .i64 xm, .int .i64 xd, .int .i64 xo, .int .i64 xb] 26) := ⟨_, rfl⟩
      have hb65 : Below w6.heap.size w6 W5 := by rw [hW5]; exact Gen.b_alloc (Below.refl _ _)
      have HS7 := Lib.hid (HS6.out.keep hb65)
      have hrB : Row W5 w6.heap.size 26 #[.int .i64 xk, .int .i64 (qf : Int), .int .i64 (qt : Int), .int .i64 xu, .int .i64 xm, .int .i64 xd, .int .i64 xo, .int .i64 xb] := by rw [hW5]; exact Row.new _ _ _
      have p0 : w6.cell? ⟨gT, i * 8, none⟩ = some (.int .i64 xk) := hT w6 L _ 0 _ HS6.out.ot hx (by omega) rfl
      have p1 := hT w6 L _ 1 _ HS6.out.ot hx (by omega) rfl
      have p2 := hT w6 L _ 2 _ HS6.out.ot hx (by omega) rfl
      have p3 := hT w6 L _ 3 _ HS6.out.ot hx (by omega) rfl
      have p4 := hT w6 L _ 4 _ HS6.out.ot hx (by omega) rfl
      have p5 := hT w6 L _ 5 _ HS6.out.ot hx (by omega) rfl
      have p6 := hT w6 L _ 6 _ HS6.out.ot hx (by omega) rfl
      have p7 := hT w6 L _ 7 _ HS6.out.ot hx (by omega) rfl
      have hgB : w6.heap.size ≠ gH := by have := hgH.2; have := hgT.1; omega
      have hgB2 : w6.heap.size ≠ gT := by omega
      have q1 := hrB.cell 1
      have q2 := hrB.cell 2
      have q3 := hrB.cell 3
      have y1 : W5.cell? ⟨gH, qf, none⟩ = some (.int .i64 z1) := (HS7.out.oh.cellAt qf (by omega)).trans (by rw [ils, List.getElem?_map, hz1']; rfl)
      have y2 := HS7.out.oh.frozenAt qf
      have oh6 : (W5.setCell ⟨gH, qf, none⟩ (.int .i64 (z1 - xu))).ownsRow w2.heap.size 3 1 (.slice (some ⟨gH, 0, none⟩) m cH) m (ils (H.set qf (z1 - xu))) := by
        have := (HS7.out.oh.stored qf (.int .i64 (z1 - xu))).1
        rwa [show (ils H).set qf (.int .i64 (z1 - xu)) = ils (H.set qf (z1 - xu)) from by simp [ils, List.map_set]] at this
      have ot6 := ownsRow_setCell_below HS7.out.ot (a := ⟨gH, qf, none⟩) hgH.2 (.int .i64 (z1 - xu))
      have rb6 := row_oth hrB hgB qf (.int .i64 (z1 - xu))
      have q26 := rb6.cell 2
      have q36 := rb6.cell 3
      have y3 : (W5.setCell ⟨gH, qf, none⟩ (.int .i64 (z1 - xu))).cell? ⟨gH, qt, none⟩ = some (.int .i64 z2) := (oh6.cellAt qt (by omega)).trans (by rw [ils, List.getElem?_map, List.getElem?_set_ne hqne, hz2']; rfl)
      have y4 := oh6.frozenAt qt
      have oh7 : ((W5.setCell ⟨gH, qf, none⟩ (.int .i64 (z1 - xu))).setCell ⟨gH, qt, none⟩ (.int .i64 (z2 + xu))).ownsRow w2.heap.size 3 1 (.slice (some ⟨gH, 0, none⟩) m cH) m (ils ((H.set qf (z1 - xu)).set qt (z2 + xu))) := by
        have := (oh6.stored qt (.int .i64 (z2 + xu))).1
        rwa [show (ils (H.set qf (z1 - xu))).set qt (.int .i64 (z2 + xu)) = ils ((H.set qf (z1 - xu)).set qt (z2 + xu)) from by simp [ils, List.map_set]] at this
      have ot7 := ownsRow_setCell_below ot6 (a := ⟨gH, qt, none⟩) hgH.2 (.int .i64 (z2 + xu))
      have rb7 := row_oth rb6 hgB qt (.int .i64 (z2 + xu))
      have f7 := ot7.frozenAt (i * 8 + 6)
      have t67 := hT _ L _ 6 _ ot7 hx (by omega) rfl
      have ot8 : (((W5.setCell ⟨gH, qf, none⟩ (.int .i64 (z1 - xu))).setCell ⟨gH, qt, none⟩ (.int .i64 (z2 + xu))).setCell ⟨gT, i * 8 + 6, none⟩ (.int .i64 day)).ownsRow w3.heap.size 26 8 (.slice (some ⟨gT, 0, none⟩) L.length cT') L.length ((L.set i (setl day ⟨xk, (qf : Int), (qt : Int), xu, xm, xd, xo, xb⟩)).flatMap tcs) := by
        have := (ot7.stored (i * 8 + 6) (.int .i64 day)).1
        rwa [tcs_flat_set day hx] at this
      have oh8 : (((W5.setCell ⟨gH, qf, none⟩ (.int .i64 (z1 - xu))).setCell ⟨gH, qt, none⟩ (.int .i64 (z2 + xu))).setCell ⟨gT, i * 8 + 6, none⟩ (.int .i64 day)).ownsRow w2.heap.size 3 1 (.slice (some ⟨gH, 0, none⟩) m cH) m (ils ((H.set qf (z1 - xu)).set qt (z2 + xu))) := ownsRow_setCell_other oh7 (fun c => by simp [Value.ownBlock] at c; omega) _
      have rb8 := row_oth rb7 hgB2 (i * 8 + 6) (.int .i64 day)
      have q08 := rb8.cell 0
      have q18 := rb8.cell 1
      have q28 := rb8.cell 2
      have q38 := rb8.cell 3
      have q78 := rb8.cell 7
      have hbl8 : Below w.heap.size w (((W5.setCell ⟨gH, qf, none⟩ (.int .i64 (z1 - xu))).setCell ⟨gH, qt, none⟩ (.int .i64 (z2 + xu))).setCell ⟨gT, i * 8 + 6, none⟩ (.int .i64 day)) := ((HS7.out.bl.setCell (by show w.heap.size ≤ gH; omega) _).setCell (by show w.heap.size ≤ gH; omega) _).setCell (by show w.heap.size ≤ gT; omega) _
      have hs8 : (((W5.setCell ⟨gH, qf, none⟩ (.int .i64 (z1 - xu))).setCell ⟨gH, qt, none⟩ (.int .i64 (z2 + xu))).setCell ⟨gT, i * 8 + 6, none⟩ (.int .i64 day)).heap.size = W5.heap.size := by simp
      have hs65 : W5.heap.size = w6.heap.size + 1 := by rw [hW5]; simp
      have HOT := Lib.hid ot8
      have HOH := Lib.hid oh8
      have HB8 := Lib.hid hbl8
      have hw1 : IntKind.i64.wrap (z1 - xu) = z1 - xu := IntWalk.i64_in _ (by omega)
      have hw2 : IntKind.i64.wrap (z2 + xu) = z2 + xu := IntWalk.i64_in _ (by omega)
      have i0' : (0 : Int) ≤ (i : Int) := by omega
      have iL : (i : Int) < (L.length : Int) := by omega
      have N1 := Lib.hid (show L.length + 1 ≤ maxLen from by simp only [maxLen]; omega)
      have N2 := Lib.hid (show (L.length + 1) * 64 ≤ 140737488355328 from by omega)
      clear hv hv2 hcx htk hI m1 m2 m3 une hx hz1' hz2' oh6 ot6 oh7 ot7 ot8 oh8 hbl8 hT c1 c2 c3 rb6 rb7 rb8 hrB HS6 hb65
      by_cases hk1 : xk = 1
      · have bk : (xk == 1) = true := by rw [hk1]; rfl
        subst hk1
        have hmx : (if xb < day then day else xb) = max xb day := by omega
        go_wp2
        rw [← hW5]
        clear hW5 p0 p1 p2 p3 p4 p5 p6 p7
        go_region
        go_wp2
        go_region
        clear hw1 hw2
        go_wp2_with (first
          | (at_builtin
             go_must (refine App.wpList_append_any _ rfl (.tmp 81) (.tmp 94) _ rfl w3.heap.size 26 i0 _ 8 64 Try.underlying24 hi0 hz0 hz1 hz2 rfl (by omega) _ _ _ rfl (by first | exact Gen.own_keep HOT.out (Gen.b_alloc (Below.refl _ _)).drew.drew | exact Gen.own_keep HOT.out (Gen.b_alloc (Below.refl _ _).drew.drew)) _ _ 1 1 (tcs ⟨0, (qt : Int), (qf : Int), xu, day, max xb day, -1, 0⟩) (by first | rfl | (rw [← hmx]; rfl)) (by first | exact Gen.reads_blk (by simp; omega) rfl | exact (Gen.reads_blk (by simp; omega) rfl).drew.drew) (by simp [tcs, Value.oneCell']) N1.out N2.out (by simp; omega) ?_)
             intro v2 w7 hown7 hg7 hat7)
          | fail)
        have hotX := HOT.out
        have HF := Lib.hid (show RI w w2.heap.size w3.heap.size day (some ⟨gH, 0, none⟩) m cH (q + wt l) ss R w7 v2 (stH H ⟨1, (qf : Int), (qt : Int), xu, xm, xd, xo, xb⟩) (stL day L i ⟨1, (qf : Int), (qt : Int), xu, xm, xd, xo, xb⟩) from
          ⟨HGD.out, HSTL.out, by
            rw [HSTH.out]
            first
              | exact (Gen.own_keep HOH.out (Gen.b_alloc (Below.refl _ _)).drew.drew).kept hg7 (.inr (fun c => absurd (Option.some.inj (show some gH = some gT from c)) (by omega)))
              | exact (Gen.own_keep HOH.out (Gen.b_alloc (Below.refl _ _).drew.drew)).kept hg7 (.inr (fun c => absurd (Option.some.inj (show some gH = some gT from c)) (by omega))), by
            have e : stL day L i ⟨1, (qf : Int), (qt : Int), xu, xm, xd, xo, xb⟩ = L.set i (setl day ⟨1, (qf : Int), (qt : Int), xu, xm, xd, xo, xb⟩) ++ [bck day ⟨1, (qf : Int), (qt : Int), xu, xm, xd, xo, xb⟩] := if_pos rfl
            rw [e, List.length_append, List.length_set, List.flatMap_append]; simpa [bck] using hown7, by
            first
              | exact Gen.g_below HOT.out hg7 (Gen.b_alloc HB8.out).drew.drew (by omega)
              | exact Gen.g_below HOT.out hg7 (Gen.b_alloc HB8.out.drew.drew) (by omega)⟩)
        have HML := Lib.hid (rdT_own HF.out.ot)
        go_roundw
        case rel => first | exact ⟨v2, _, _, rfl, HF⟩ | exact ⟨_, _, HF⟩
        case measure => (try dsimp only); rw [HML.out, HMR.out]; have := HWT.out; omega
      · have bk : (xk == 1) = false := by rw [beq_eq_false_iff_ne]; exact hk1
        go_wp2
        rw [← hW5]
        clear hW5 p0 p1 p2 p3 p4 p5 p6 p7
        go_region
        go_wp2
        go_region
        clear hw1 hw2
        go_wp2
        have HF := Lib.hid (show RI w w2.heap.size w3.heap.size day (some ⟨gH, 0, none⟩) m cH (q + wt l) ss R (((W5.setCell ⟨gH, qf, none⟩ (.int .i64 (z1 - xu))).setCell ⟨gH, qt, none⟩ (.int .i64 (z2 + xu))).setCell ⟨gT, i * 8 + 6, none⟩ (.int .i64 day)).drew.drew (.slice (some ⟨gT, 0, none⟩) L.length cT') (stH H ⟨xk, (qf : Int), (qt : Int), xu, xm, xd, xo, xb⟩) (stL day L i ⟨xk, (qf : Int), (qt : Int), xu, xm, xd, xo, xb⟩) from
          ⟨HGD.out, HSTL.out, by rw [HSTH.out]; exact HOH.out, by
            rw [show stL day L i ⟨xk, (qf : Int), (qt : Int), xu, xm, xd, xo, xb⟩ = L.set i (setl day ⟨xk, (qf : Int), (qt : Int), xu, xm, xd, xo, xb⟩) from if_neg hk1, List.length_set]; exact HOT.out, HB8.out.drew.drew⟩)
        have HML := Lib.hid (rdT_own HF.out.ot)
        go_roundw
        case rel => first | exact ⟨_, _, _, rfl, HF⟩ | exact ⟨_, _, HF⟩
        case measure => (try dsimp only); rw [HML.out, HMR.out]; have := HWT.out; omega
end
end Go.Proofs.Ytpekedhcnijgcaa.Book
