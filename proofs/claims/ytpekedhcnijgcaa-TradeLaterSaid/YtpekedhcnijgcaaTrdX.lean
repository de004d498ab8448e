/- Package trade: the contract of Settle. -/
import Derived.Test.YtpekedhcnijgcaaTrdW
import Derived.BigRegion
namespace Go.Proofs.Ytpekedhcnijgcaa.Book
open Go.ChangeShapes Go.WideShapes Go.ChangeAt Go.RowKit Go.Proofs.Ytpekedhcnijgcaa.Cell
set_option linter.unusedVariables false
set_option linter.unusedSimpArgs false

/-- what Settle returns, and what it leaves -/
def StPost (R : List Int × List Tr) (E : Int) (w : World) (e : Ending) (w' : World) : Prop := ∃ A1 c1 A2 c2, e = .returned (.tuple #[.slice A1 R.1.length c1, .slice A2 R.2.length c2, .int .i64 E]) ∧ Below w.heap.size w w' ∧ Ints w' A1 R.1 ∧ Trs w' A2 R.2
theorem st_no {R : List Int × List Tr} {E : Int} (h : (([], []), 1) = (R, E)) {w w' : World} (hb : Below w.heap.size w w') : StPost R E w (.returned (.tuple #[.slice none 0 0, .slice none 0 0, .int .i64 1])) w' := by
  obtain rfl : ([], []) = R := by injection h
  obtain rfl : 1 = E := by injection h
  exact ⟨none, 0, none, 0, rfl, hb, fun h => absurd h (by simp), Trs.nil⟩
def rI : Option Value → Int
  | some (.int _ x) => x
  | _ => 0
/-- the trades that a slice holds -/
def rdT (W : World) (v : Value) : List Tr := match v with
  | .slice (some a) n _ => (List.range n).map fun j => ⟨rI (W.cell? (a.add (j * 8 + 0))), rI (W.cell? (a.add (j * 8 + 1))), rI (W.cell? (a.add (j * 8 + 2))), rI (W.cell? (a.add (j * 8 + 3))), rI (W.cell? (a.add (j * 8 + 4))), rI (W.cell? (a.add (j * 8 + 5))), rI (W.cell? (a.add (j * 8 + 6))), rI (W.cell? (a.add (j * 8 + 7)))⟩
  | _ => []
theorem rdT_own {W : World} {base : Nat} {e : TypeId} {v : Value} {l : List Tr} (h : W.ownsRow base e 8 v l.length (l.flatMap tcs)) : rdT W v = l := by
  obtain ⟨A, c, rfl, _⟩ := Gen.own_slice h
  by_cases h0 : 0 < l.length
  · obtain ⟨g, cap, hv, _, _⟩ := h.form h0
    obtain rfl : A = some ⟨g, 0, none⟩ := by injection hv
    obtain ⟨b, off, hA, hc⟩ := trs_own rfl h h0
    obtain ⟨rfl, rfl⟩ : g = b ∧ 0 = off := by injection hA with hA; injection hA with h1 h2; exact ⟨h1, h2⟩
    unfold rdT
    refine List.ext_getElem? fun j => ?_
    by_cases hj : j < l.length
    · rw [List.getElem?_map, List.getElem?_range hj, List.getElem?_eq_getElem hj]
      obtain ⟨c0, c1, c2, c3, c4, c5, c6, c7⟩ := hc j l[j] (List.getElem?_eq_getElem hj)
      simp only [Option.map_some, Addr.add_lit, Nat.zero_add] at *
      simp only [Nat.add_zero, c0, c1, c2, c3, c4, c5, c6, c7, rI]
    · rw [List.getElem?_eq_none (by simpa using hj), List.getElem?_eq_none (by omega)]
  · have hl : l = [] := List.length_eq_zero_iff.1 (by omega)
    subst hl
    cases A <;> rfl
theorem idx_cases (p : Tr → Bool) (l : List Tr) : ((∀ y ∈ l, p y = false) ∧ idx p l = -1) ∨ ∃ (i : Nat) (x : Tr), l[i]? = some x ∧ p x = true ∧ (∀ y ∈ l.take i, p y = false) ∧ idx p l = i := by
  cases h : l.findIdx? p with
  | none =>
    rw [List.findIdx?_eq_none_iff] at h
    exact .inl ⟨h, idx_no h⟩
  | some i =>
    have h0 := h
    rw [List.findIdx?_eq_some_iff_getElem] at h
    obtain ⟨hi, hp, hb⟩ := h
    have ht : ∀ y ∈ l.take i, p y = false := fun y hy => by
      obtain ⟨j, hj⟩ := List.getElem?_of_mem hy
      have hj1 := lt_of_at hj
      rw [List.length_take] at hj1
      rw [List.getElem?_take_of_lt (by omega)] at hj
      have := hb j (by omega)
      rw [List.getElem?_eq_getElem (by omega)] at hj
      rw [Option.some.inj hj] at this
      simpa using this
    exact .inr ⟨i, l[i], List.getElem?_eq_getElem hi, hp, ht, idx_yes ht (List.getElem?_eq_getElem hi) hp⟩
theorem mvL_sets {H : List Int} {f t : Nat} {u z1 z2 : Int} (h1 : H[f]? = some z1) (h2 : H[t]? = some z2) (hne : f ≠ t) : mvL H f t u = (H.set f (z1 - u)).set t (z2 + u) := by
  unfold mvL
  rw [show H.getD f 0 = z1 from by rw [List.getD_eq_getElem?_getD, h1]; rfl, show (H.set f (z1 - u)).getD t 0 = z2 from by rw [List.getD_eq_getElem?_getD, List.getElem?_set_ne hne, h2]; rfl]
/-- what the loop of Settle keeps -/
structure SI (w : World) (g7 g11 bH bT : Nat) (day : Int) (AH : Option Addr) (n cH N : Nat) (ss : List (Int × Int)) (R : List Int × List Tr) (W : World) (v : Value) (H : List Int) (L : List Tr) : Prop where
  gd : Gd ss N H L
  st : stlW day H L = R
  d7 : W.cell? ⟨g7, 0, none⟩ = some (.int .i64 day)
  d11 : W.cell? ⟨g11, 0, none⟩ = some (.slice AH n cH)
  oh : W.ownsRow bH 3 1 (.slice AH n cH) n (ils H)
  ot : W.ownsRow bT 26 8 v L.length (L.flatMap tcs)
  ne : v.ownBlock ≠ some g11
  bl : Below w.heap.size w W
/-- how the blocks lie -/
structure SO (w : World) (g7 g11 bH bT n cH : Nat) (AH : Option Addr) : Prop where
  o7 : w.heap.size ≤ g7
  h7 : g7 < bH
  hT : bH ≤ bT
  h11 : bT ≤ g11
  hA : ∀ k, (Value.slice AH n cH).ownBlock = some k → bH ≤ k ∧ k < bT
theorem SI.keep {w : World} {g7 g11 bH bT : Nat} {day : Int} {AH : Option Addr} {n cH N : Nat} {ss : List (Int × Int)} {R : List Int × List Tr} {W W' : World} {v : Value} {H : List Int} {L : List Tr} (h : SI w g7 g11 bH bT day AH n cH N ss R W v H L) (hb : Below W.heap.size W W') : SI w g7 g11 bH bT day AH n cH N ss R W' v H L :=
  ⟨h.gd, h.st, Gen.keep hb h.d7, Gen.keep hb h.d11, Gen.own_keep h.oh hb, Gen.own_keep h.ot hb, h.ne, Gen.over hb h.bl⟩
section
variable {A : Option Addr} {n cap : Nat} {ss : List (Int × Int)} {A' : Option Addr} {m cap' : Nat} {us : List Int} {A3 : Option Addr} {q cap3 : Nat} {l : List Tr} {day : Int} {R : List Int × List Tr} {E : Int}
set_option maxRecDepth 100000 in
set_option maxHeartbeats 8000000 in
theorem settle_a (w : World) (hn : ss.length = n) (hc : Prs w A ss) (hbig : n ≤ 1000000) (hm : us.length = m) (hc' : Ints w A' us) (hbig' : m ≤ 1000000) (hq : l.length = q) (hl : Trs w A3 l) (hq12 : q ≤ 5000) (hv : vd ss us = false) (h : stO ss us l day = (R, E)) :
    Calls Try.prog 16 #[.slice A n cap, .slice A' m cap', .slice A3 q cap3, .int .i64 day] w (StPost R E w) := by
  have HN := Lib.hid hn
  have HM := Lib.hid hm
  have HQ := Lib.hid hq
  have HV := Lib.hid hv
  have H := Lib.hid (show (([], []), 1) = (R, E) from by rw [← h]; unfold stO; rw [if_neg (fun c => by rw [hv] at c; cases c.1)])
  have hB0 : Below w.heap.size w (w.alloc (.cells #[.int .i64 day] 3)) := Gen.b_alloc (Below.refl _ _)
  have d7 : (w.alloc (.cells #[.int .i64 day] 3)).cell? ⟨w.heap.size, 0, none⟩ = some (.int .i64 day) := by simp [go_sem]
  have HC := Lib.hid (hc.keep hB0)
  have HC1 := Lib.hid (hc'.keep hB0)
  have HC2 := Lib.hid (hl.keep hB0)
  have HB0 := Lib.hid hB0
  clear hn hm hq hc hc' hl hB0 hv h
  go_enter Try.func16, Try.ntmps16
  go_wp2_with (fail)
  go_must (refine (tvalid_is _ HN.out HC.out hbig HM.out HC1.out (by omega) HV.out).mono ?_)
  rintro e w1 ⟨rfl, hb1⟩
  have hB1 := Gen.over hb1 HB0.out
  replace d7 := Gen.keep hb1 d7
  go_wp2
  exact bodyPost_ret (v := .tuple #[.slice none 0 0, .slice none 0 0, .int .i64 1]) (by simp [results, Try.results16, go_sem]) rfl (st_no H.out hB1)
set_option maxRecDepth 100000 in
set_option maxHeartbeats 8000000 in
theorem settle_b (w : World) (hn : ss.length = n) (hc : Prs w A ss) (hbig : n ≤ 1000000) (hm : us.length = m) (hc' : Ints w A' us) (hbig' : m ≤ 1000000) (hq : l.length = q) (hl : Trs w A3 l) (hq12 : q ≤ 5000) (hv : vd ss us = true) (hr : rtT ss l = false) (h : stO ss us l day = (R, E)) :
    Calls Try.prog 16 #[.slice A n cap, .slice A' m cap', .slice A3 q cap3, .int .i64 day] w (StPost R E w) := by
  have HN := Lib.hid hn
  have HM := Lib.hid hm
  have HQ := Lib.hid hq
  have HV := Lib.hid hv
  have HR := Lib.hid hr
  have H := Lib.hid (show (([], []), 1) = (R, E) from by rw [← h]; unfold stO; rw [if_neg (fun c => by rw [hr] at c; cases c.2.1)])
  have hB0 : Below w.heap.size w (w.alloc (.cells #[.int .i64 day] 3)) := Gen.b_alloc (Below.refl _ _)
  have d7 : (w.alloc (.cells #[.int .i64 day] 3)).cell? ⟨w.heap.size, 0, none⟩ = some (.int .i64 day) := by simp [go_sem]
  have HC := Lib.hid (hc.keep hB0)
  have HC1 := Lib.hid (hc'.keep hB0)
  have HC2 := Lib.hid (hl.keep hB0)
  have HB0 := Lib.hid hB0
  clear hn hm hq hc hc' hl hB0 hv hr h
  go_enter Try.func16, Try.ntmps16
  go_wp2_with (fail)
  go_must (refine (tvalid_is _ HN.out HC.out hbig HM.out HC1.out (by omega) HV.out).mono ?_)
  rintro e w1 ⟨rfl, hb1⟩
  have hB1 := Gen.over hb1 HB0.out
  replace d7 := Gen.keep hb1 d7
  go_wp2_with (fail)
  go_must (refine (tRight_is _ HN.out (HC.out.keep hb1) hbig HQ.out (HC2.out.keep hb1) (by omega) HR.out).mono ?_)
  rintro e w2 ⟨rfl, hb2⟩
  have hB2 := Gen.over hb2 hB1
  replace d7 := Gen.keep hb2 d7
  go_wp2
  exact bodyPost_ret (v := .tuple #[.slice none 0 0, .slice none 0 0, .int .i64 1]) (by simp [results, Try.results16, go_sem]) rfl (st_no H.out hB2)
set_option maxRecDepth 100000 in
set_option maxHeartbeats 8000000 in
theorem settle_c (w : World) (hn : ss.length = n) (hc : Prs w A ss) (hbig : n ≤ 1000000) (hm : us.length = m) (hc' : Ints w A' us) (hbig' : m ≤ 1000000) (hq : l.length = q) (hl : Trs w A3 l) (hq12 : q ≤ 5000) (hv : vd ss us = true) (hr : rtT ss l = true) (hd : ¬ (0 ≤ day ∧ day ≤ 200000)) (h : stO ss us l day = (R, E)) :
    Calls Try.prog 16 #[.slice A n cap, .slice A' m cap', .slice A3 q cap3, .int .i64 day] w (StPost R E w) := by
  have HN := Lib.hid hn
  have HM := Lib.hid hm
  have HQ := Lib.hid hq
  have HV := Lib.hid hv
  have HR := Lib.hid hr
  have HD := Lib.hid (dyB_no hd)
  have H := Lib.hid (show (([], []), 1) = (R, E) from by rw [← h]; unfold stO; rw [if_neg (fun c => hd c.2.2)])
  have hB0 : Below w.heap.size w (w.alloc (.cells #[.int .i64 day] 3)) := Gen.b_alloc (Below.refl _ _)
  have d7 : (w.alloc (.cells #[.int .i64 day] 3)).cell? ⟨w.heap.size, 0, none⟩ = some (.int .i64 day) := by simp [go_sem]
  have HC := Lib.hid (hc.keep hB0)
  have HC1 := Lib.hid (hc'.keep hB0)
  have HC2 := Lib.hid (hl.keep hB0)
  have HB0 := Lib.hid hB0
  clear hn hm hq hc hc' hl hB0 hv hr hd h
  go_enter Try.func16, Try.ntmps16
  go_wp2_with (fail)
  go_must (refine (tvalid_is _ HN.out HC.out hbig HM.out HC1.out (by omega) HV.out).mono ?_)
  rintro e w1 ⟨rfl, hb1⟩
  have hB1 := Gen.over hb1 HB0.out
  replace d7 := Gen.keep hb1 d7
  go_wp2_with (fail)
  go_must (refine (tRight_is _ HN.out (HC.out.keep hb1) hbig HQ.out (HC2.out.keep hb1) (by omega) HR.out).mono ?_)
  rintro e w2 ⟨rfl, hb2⟩
  have hB2 := Gen.over hb2 hB1
  replace d7 := Gen.keep hb2 d7
  go_wp2_with (fail)
  go_must (refine (isd_is _ HD.out).mono ?_)
  rintro e wd ⟨rfl, rfl⟩
  go_wp2
  exact bodyPost_ret (v := .tuple #[.slice none 0 0, .slice none 0 0, .int .i64 1]) (by simp [results, Try.results16, go_sem]) rfl (st_no H.out hB2)
set_option maxRecDepth 100000 in
set_option maxHeartbeats 8000000 in
theorem settle_d (w : World) (hn : ss.length = n) (hc : Prs w A ss) (hbig : n ≤ 1000000) (hm : us.length = m) (hc' : Ints w A' us) (hbig' : m ≤ 1000000) (hq : l.length = q) (hl : Trs w A3 l) (hq12 : q ≤ 30) (hv : vd ss us = true) (hr : rtT ss l = true) (hd0 : 0 ≤ day) (hd1 : day ≤ 200000) (h : stO ss us l day = (R, E)) :
    Calls Try.prog 16 #[.slice A n cap, .slice A' m cap', .slice A3 q cap3, .int .i64 day] w (StPost R E w) := by
  have HN := Lib.hid hn
  have HM := Lib.hid hm
  have HQ := Lib.hid hq
  have HV := Lib.hid hv
  have HR := Lib.hid hr
  have HD := Lib.hid (dyB_yes ⟨hd0, hd1⟩)
  have hmn : m = n := by have := (vd_in hv).2.1; omega
  subst hmn
  have HGD := Lib.hid (show Gd ss 10000 us l ∨ True from .inr trivial)
  obtain rfl : 0 = E := by unfold stO at h; rw [if_pos ⟨hv, hr, hd0, hd1⟩] at h; injection h
  have HST := Lib.hid (show stlW day us l = R from by unfold stO at h; rw [if_pos ⟨hv, hr, hd0, hd1⟩] at h; injection h)
  have HGG := Lib.hid (show Gd ss (q + wt l) us l from ⟨⟨hv, hr⟩, by omega, by have := wt_le l; omega⟩)
  have hN36 : q + wt l ≤ 100 := by have := wt_le l; omega
  have hB0 : Below w.heap.size w (w.alloc (.cells #[.int .i64 day] 3)) := Gen.b_alloc (Below.refl _ _)
  have d7 : (w.alloc (.cells #[.int .i64 day] 3)).cell? ⟨w.heap.size, 0, none⟩ = some (.int .i64 day) := by simp [go_sem]
  have HC := Lib.hid (hc.keep hB0)
  have HC1 := Lib.hid (hc'.keep hB0)
  have HC2 := Lib.hid (hl.keep hB0)
  have HB0 := Lib.hid hB0
  clear hn hm hq hc hc' hl hB0 hv hr h HGD
  go_enter Try.func16, Try.ntmps16
  go_wp2_with (fail)
  go_must (refine (tvalid_is _ HN.out HC.out hbig HM.out HC1.out (by omega) HV.out).mono ?_)
  rintro e w1 ⟨rfl, hb1⟩
  have hB1 := Gen.over hb1 HB0.out
  replace d7 := Gen.keep hb1 d7
  go_wp2_with (fail)
  go_must (refine (tRight_is _ HN.out (HC.out.keep hb1) hbig HQ.out (HC2.out.keep hb1) (by omega) HR.out).mono ?_)
  rintro e w2 ⟨rfl, hb2⟩
  have hB2 := Gen.over hb2 hB1
  replace d7 := Gen.keep hb2 d7
  go_wp2_with (fail)
  go_must (refine (isd_is _ HD.out).mono ?_)
  rintro e wd ⟨rfl, rfl⟩
  have hI2 := (HC1.out.keep hb1).keep hb2
  have hT2 := (HC2.out.keep hb1).keep hb2
  have hs2 : w.heap.size + 1 ≤ w2.heap.size := by have a := hb1.size; have b := hb2.size; rw [World.size_alloc] at a; omega
  clear hb1 hb2 hB1 HC HC1 HC2 HB0
  go_wp2_with (fail)
  go_must (refine (cloneI_any _ _ _ us _ HM.out hI2 hbig').mono ?_)
  rintro e w3 ⟨AH, cH, rfl, hoh, hb3⟩
  have hB3 := Gen.over hb3 hB2
  replace d7 := Gen.keep hb3 d7
  replace hT2 := hT2.keep hb3
  have hs3 := hb3.size
  have hlt3 := hoh.lt
  clear hb3 hB2 hI2
  go_wp2_with (fail)
  go_must (refine (cloneT_any _ _ _ l _ HQ.out hT2 (by omega)).mono ?_)
  rintro e w4 ⟨AT, cT, rfl, hot, hb4⟩
  have hB4 := Gen.over hb4 hB3
  replace d7 := Gen.keep hb4 d7
  replace hoh := Gen.own_keep hoh hb4
  have hs4 := hb4.size
  have hlt4 := hot.lt
  obtain ⟨W5, hW5⟩ : ∃ W5 : World, W5 = w4.alloc (.cells #[.slice AH m cH] 23) := ⟨_, rfl⟩
  have hB5' : Below w4.heap.size w4 W5 := by rw [hW5]; exact Gen.b_alloc (Below.refl _ _)
  have HSO := Lib.hid (show SO w w.heap.size w4.heap.size w2.heap.size w3.heap.size m cH AH from ⟨Nat.le_refl _, by omega, by omega, by omega, fun k hk => hlt3 k hk⟩)
  have HSI := Lib.hid (show SI w w.heap.size w4.heap.size w2.heap.size w3.heap.size day AH m cH (q + wt l) ss R W5 (.slice AT q cT) us l from
    ⟨HGG.out, HST.out, Gen.keep hB5' d7, by rw [hW5]; simp [go_sem], Gen.own_keep hoh hB5', by rw [HQ.out]; exact Gen.own_keep hot hB5', fun c => by have := hlt4 _ c; omega, Gen.over hB5' hB4⟩)
  clear hT2 hB3 hB4 d7 hoh hot hb4 hlt3 hlt4 hB5' HGG HST
  go_wp2_with (fail)
  rw [← hW5]
  go_loopw [12] (fun vt wr => ∃ (v : Value) (H : List Int) (L : List Tr), vt = v ∧ Hid (SI w w.heap.size w4.heap.size w2.heap.size w3.heap.size day AH m cH (q + wt l) ss R wr v H L)) (fun vt wr => wt (rdT wr vt))
  case atStart => exact ⟨_, us, l, rfl, HSI⟩
  case round =>
    obtain ⟨v, H, L, rfl, HS⟩ := hrel
    obtain ⟨AT', cT', rfl, _⟩ := Gen.own_slice HS.out.ot
    have hSw : w4.heap.size < wr.heap.size := World.block_lt_of_cell? wr ⟨w4.heap.size, 0, none⟩ HS.out.d11
    have hLb : L.length ≤ 100 := by have := HS.out.gd.len; omega
    have HHL := Lib.hid (show H.length = m from by rw [HS.out.gd.rt.len, HN.out])
    have HTL := Lib.hid (trs_own rfl HS.out.ot)
    have HTS : Hid (TellsS L w.heap.size w4.heap.size (can day H) wr) := Lib.hid (fun W x hx hb => by
      obtain ⟨k, hk⟩ := List.getElem?_of_mem hx
      obtain ⟨m1, _⟩ := HS.out.gd.rt.mem hk
      exact set1_any x day _ _ m cH AH H W (Gen.keep hb HS.out.d7) (Gen.keep hb HS.out.d11) HHL.out (ints_of_own HHL.out (Gen.own_keep HS.out.oh hb)) m1.1 (by rw [← HHL.out]; exact m1.2))
    go_wp2_with (fail)
    go_must (refine (tidxS _ _ _ L _ _ (can day H) _ rfl HTL.out (by omega) HTS.out).mono ?_)
    rintro e w5 ⟨rfl, hb5⟩
    have HS5 := Lib.hid (HS.out.keep hb5)
    have hS5 : w4.heap.size < w5.heap.size := Nat.lt_of_lt_of_le hSw hb5.size
    have HMR := Lib.hid (rdT_own HS.out.ot)
    clear HS HTS HTL hb5 hSw
    rcases idx_cases (can day H) L with ⟨hno, hI⟩ | ⟨i, x, hx, hcx, htk, hI⟩
    · rw [hI]
      have HRR := Lib.hid (show R = (H, L) from by rw [← HS5.out.st, stlW_stop hno])
      have d11 := HS5.out.d11
      clear hno hI
      go_wp2
      exact bodyPost_ret (v := .tuple #[.slice AH m cH, .slice AT' L.length cT', .int .i64 0]) (by simp [results, Try.results16, go_sem]) rfl (by
        rw [HRR.out]
        exact ⟨AH, cH, AT', cT', by rw [HHL.out], HS5.out.bl, ints_of_own HHL.out HS5.out.oh, trs_own rfl HS5.out.ot⟩)
    · rw [hI]
      have hiL := lt_of_at hx
      obtain ⟨gT, cT2, hv, _, _⟩ := HS5.out.ot.form (by omega)
      obtain rfl : AT' = some ⟨gT, 0, none⟩ := by injection hv
      obtain ⟨c1, c2, c3⟩ := can_in hcx
      obtain ⟨m1, m2, m3, _, _⟩ := HS5.out.gd.rt.mem hx
      obtain ⟨u0, u1, une⟩ := okD_u m3
      have hk01 := of_decide_eq_true m3
      have HGD := Lib.hid (HS5.out.gd.step hd0 hd1 hx hcx)
      have HSTL := Lib.hid (show stlW day (stH H x) (stL day L i x) = R from by rw [← HS5.out.st, stlW_go hd0 htk hx hcx])
      have HWT := Lib.hid (wt_step (l := L) (i := i) hd0 hx c1)
      have HX := Lib.hid hx
      rw [HHL.out] at m1 m2
      obtain ⟨gH, cH2, hv2, _, _⟩ := HS5.out.oh.form (by omega)
      obtain rfl : AH = some ⟨gH, 0, none⟩ := by injection hv2
      have hgH := HSO.out.hA gH rfl
      have hgT := HS5.out.ot.lt gT rfl
      have hneT : gT ≠ w4.heap.size := fun c => HS5.out.ne (by rw [← c]; rfl)
      have ho7 := HSO.out.o7
      have hh7 := HSO.out.h7
      have hhT := HSO.out.hT
      obtain ⟨xk, xf, xt, xu, xm, xd, xo, xb⟩ := x
      dsimp only at c1 c2 c3 m1 m2 u0 u1 une hk01
      obtain ⟨qf, rfl⟩ := Int.eq_ofNat_of_zero_le m1.1
      obtain ⟨qt, rfl⟩ := Int.eq_ofNat_of_zero_le m2.1
      have hqf : qf < m := by omega
      have hqt : qt < m := by omega
      have hqne : qf ≠ qt := fun c => une (by rw [c])
      have hqfI : (qf : Int) < (m : Int) := by omega
      have hqtI : (qt : Int) < (m : Int) := by omega
      obtain ⟨z1, hz1⟩ := at_ H qf (by rw [HHL.out]; exact hqf)
      obtain ⟨z2, hz2⟩ := at_ H qt (by rw [HHL.out]; exact hqt)
      obtain ⟨z10, z11⟩ := vd_all HS5.out.gd.rt.v z1 (mem_of_at hz1)
      obtain ⟨z20, z21⟩ := vd_all HS5.out.gd.rt.v z2 (mem_of_at hz2)
      have HSTH := Lib.hid (show stH H ⟨xk, (qf : Int), (qt : Int), xu, xm, xd, xo, xb⟩ = (H.set qf (z1 - xu)).set qt (z2 + xu) from by unfold stH; dsimp only; rw [Int.toNat_natCast, Int.toNat_natCast, mvL_sets hz1 hz2 hqne])
      have hT : ∀ (W : World) (l2 : List Tr) (y : Tr) (j : Nat) (vv : Value), W.ownsRow w3.heap.size 26 8 (.slice (some ⟨gT, 0, none⟩) L.length cT') L.length (l2.flatMap tcs) → l2[i]? = some y → j < 8 → (tcs y)[j]? = some vv → W.cell? ⟨gT, i * 8 + j, none⟩ = some vv := fun W l2 y j vv ho hy hj hvv => by
        rw [ho.cellAt (i * 8 + j) (by omega), tcs_flat_at hy hj, hvv]
      -- the world ahead of the stores
      have d11 := HS5.out.d11
      have t1 := hT w5 L _ 1 _ HS5.out.ot hx (by omega) rfl
      have t2 := hT w5 L _ 2 _ HS5.out.ot hx (by omega) rfl
      have t3 := hT w5 L _ 3 _ HS5.out.ot hx (by omega) rfl
      have y1 : w5.cell? ⟨gH, qf, none⟩ = some (.int .i64 z1) := (HS5.out.oh.cellAt qf (by omega)).trans (by rw [ils, List.getElem?_map, hz1]; rfl)
      have y2 := HS5.out.oh.frozenAt qf
      -- behind the first store
      have oh6 : (w5.setCell ⟨gH, qf, none⟩ (.int .i64 (z1 - xu))).ownsRow w2.heap.size 3 1 (.slice (some ⟨gH, 0, none⟩) m cH) m (ils (H.set qf (z1 - xu))) := by
        have := (HS5.out.oh.stored qf (.int .i64 (z1 - xu))).1
        rwa [show (ils H).set qf (.int .i64 (z1 - xu)) = ils (H.set qf (z1 - xu)) from by simp [ils, List.map_set]] at this
      have ot6 := ownsRow_setCell_below HS5.out.ot (a := ⟨gH, qf, none⟩) hgH.2 (.int .i64 (z1 - xu))
      have d116 : (w5.setCell ⟨gH, qf, none⟩ (.int .i64 (z1 - xu))).cell? ⟨w4.heap.size, 0, none⟩ = some (.slice (some ⟨gH, 0, none⟩) m cH) := (World.cell?_setCell_other _ _ _ _ (by intro c; injection c; omega)).trans d11
      have d76 : (w5.setCell ⟨gH, qf, none⟩ (.int .i64 (z1 - xu))).cell? ⟨w.heap.size, 0, none⟩ = some (.int .i64 day) := (World.cell?_setCell_other _ _ _ _ (by intro c; injection c; omega)).trans HS5.out.d7
      have t26 := hT _ L _ 2 _ ot6 hx (by omega) rfl
      have t36 := hT _ L _ 3 _ ot6 hx (by omega) rfl
      have y3 : (w5.setCell ⟨gH, qf, none⟩ (.int .i64 (z1 - xu))).cell? ⟨gH, qt, none⟩ = some (.int .i64 z2) := (oh6.cellAt qt (by omega)).trans (by rw [ils, List.getElem?_map, List.getElem?_set_ne hqne, hz2]; rfl)
      have y4 := oh6.frozenAt qt
      -- behind the second
      have oh7 : ((w5.setCell ⟨gH, qf, none⟩ (.int .i64 (z1 - xu))).setCell ⟨gH, qt, none⟩ (.int .i64 (z2 + xu))).ownsRow w2.heap.size 3 1 (.slice (some ⟨gH, 0, none⟩) m cH) m (ils ((H.set qf (z1 - xu)).set qt (z2 + xu))) := by
        have := (oh6.stored qt (.int .i64 (z2 + xu))).1
        rwa [show (ils (H.set qf (z1 - xu))).set qt (.int .i64 (z2 + xu)) = ils ((H.set qf (z1 - xu)).set qt (z2 + xu)) from by simp [ils, List.map_set]] at this
      have ot7 := ownsRow_setCell_below ot6 (a := ⟨gH, qt, none⟩) hgH.2 (.int .i64 (z2 + xu))
      have d117 : ((w5.setCell ⟨gH, qf, none⟩ (.int .i64 (z1 - xu))).setCell ⟨gH, qt, none⟩ (.int .i64 (z2 + xu))).cell? ⟨w4.heap.size, 0, none⟩ = some (.slice (some ⟨gH, 0, none⟩) m cH) := (World.cell?_setCell_other _ _ _ _ (by intro c; injection c; omega)).trans d116
      have d77 : ((w5.setCell ⟨gH, qf, none⟩ (.int .i64 (z1 - xu))).setCell ⟨gH, qt, none⟩ (.int .i64 (z2 + xu))).cell? ⟨w.heap.size, 0, none⟩ = some (.int .i64 day) := (World.cell?_setCell_other _ _ _ _ (by intro c; injection c; omega)).trans d76
      have f7 := ot7.frozenAt (i * 8 + 6)
      have t67 := hT _ L _ 6 _ ot7 hx (by omega) rfl
      -- behind the third
      have ot8 : (((w5.setCell ⟨gH, qf, none⟩ (.int .i64 (z1 - xu))).setCell ⟨gH, qt, none⟩ (.int .i64 (z2 + xu))).setCell ⟨gT, i * 8 + 6, none⟩ (.int .i64 day)).ownsRow w3.heap.size 26 8 (.slice (some ⟨gT, 0, none⟩) L.length cT') L.length ((L.set i (setl day ⟨xk, (qf : Int), (qt : Int), xu, xm, xd, xo, xb⟩)).flatMap tcs) := by
        have := (ot7.stored (i * 8 + 6) (.int .i64 day)).1
        rwa [tcs_flat_set day hx] at this
      have oh8 : (((w5.setCell ⟨gH, qf, none⟩ (.int .i64 (z1 - xu))).setCell ⟨gH, qt, none⟩ (.int .i64 (z2 + xu))).setCell ⟨gT, i * 8 + 6, none⟩ (.int .i64 day)).ownsRow w2.heap.size 3 1 (.slice (some ⟨gH, 0, none⟩) m cH) m (ils ((H.set qf (z1 - xu)).set qt (z2 + xu))) := by
        exact ownsRow_setCell_other oh7 (fun c => by simp [Value.ownBlock] at c; omega) _
      have d118 : (((w5.setCell ⟨gH, qf, none⟩ (.int .i64 (z1 - xu))).setCell ⟨gH, qt, none⟩ (.int .i64 (z2 + xu))).setCell ⟨gT, i * 8 + 6, none⟩ (.int .i64 day)).cell? ⟨w4.heap.size, 0, none⟩ = some (.slice (some ⟨gH, 0, none⟩) m cH) := by exact (World.cell?_setCell_other _ _ _ _ (by intro c; injection c; omega)).trans d117
      have d78 : (((w5.setCell ⟨gH, qf, none⟩ (.int .i64 (z1 - xu))).setCell ⟨gH, qt, none⟩ (.int .i64 (z2 + xu))).setCell ⟨gT, i * 8 + 6, none⟩ (.int .i64 day)).cell? ⟨w.heap.size, 0, none⟩ = some (.int .i64 day) := by exact (World.cell?_setCell_other _ _ _ _ (by intro c; injection c; omega)).trans d77
      have hx8 : (L.set i (setl day ⟨xk, (qf : Int), (qt : Int), xu, xm, xd, xo, xb⟩))[i]? = some (setl day ⟨xk, (qf : Int), (qt : Int), xu, xm, xd, xo, xb⟩) := List.getElem?_set_self hiL
      have t08 : (((w5.setCell ⟨gH, qf, none⟩ (.int .i64 (z1 - xu))).setCell ⟨gH, qt, none⟩ (.int .i64 (z2 + xu))).setCell ⟨gT, i * 8 + 6, none⟩ (.int .i64 day)).cell? ⟨gT, i * 8, none⟩ = some (.int .i64 xk) := hT _ _ _ 0 _ ot8 hx8 (by omega) rfl
      have t18 : (((w5.setCell ⟨gH, qf, none⟩ (.int .i64 (z1 - xu))).setCell ⟨gH, qt, none⟩ (.int .i64 (z2 + xu))).setCell ⟨gT, i * 8 + 6, none⟩ (.int .i64 day)).cell? ⟨gT, i * 8 + 1, none⟩ = some (.int .i64 (qf : Int)) := hT _ _ _ 1 _ ot8 hx8 (by omega) rfl
      have t28 : (((w5.setCell ⟨gH, qf, none⟩ (.int .i64 (z1 - xu))).setCell ⟨gH, qt, none⟩ (.int .i64 (z2 + xu))).setCell ⟨gT, i * 8 + 6, none⟩ (.int .i64 day)).cell? ⟨gT, i * 8 + 2, none⟩ = some (.int .i64 (qt : Int)) := hT _ _ _ 2 _ ot8 hx8 (by omega) rfl
      have t38 : (((w5.setCell ⟨gH, qf, none⟩ (.int .i64 (z1 - xu))).setCell ⟨gH, qt, none⟩ (.int .i64 (z2 + xu))).setCell ⟨gT, i * 8 + 6, none⟩ (.int .i64 day)).cell? ⟨gT, i * 8 + 3, none⟩ = some (.int .i64 xu) := hT _ _ _ 3 _ ot8 hx8 (by omega) rfl
      have t78 : (((w5.setCell ⟨gH, qf, none⟩ (.int .i64 (z1 - xu))).setCell ⟨gH, qt, none⟩ (.int .i64 (z2 + xu))).setCell ⟨gT, i * 8 + 6, none⟩ (.int .i64 day)).cell? ⟨gT, i * 8 + 7, none⟩ = some (.int .i64 xb) := hT _ _ _ 7 _ ot8 hx8 (by omega) rfl
      have hbl8 : Below w.heap.size w (((w5.setCell ⟨gH, qf, none⟩ (.int .i64 (z1 - xu))).setCell ⟨gH, qt, none⟩ (.int .i64 (z2 + xu))).setCell ⟨gT, i * 8 + 6, none⟩ (.int .i64 day)) := by
        exact ((HS5.out.bl.setCell (by show w.heap.size ≤ gH; omega) _).setCell (by show w.heap.size ≤ gH; omega) _).setCell (by show w.heap.size ≤ gT; omega) _
      have hs8 : (((w5.setCell ⟨gH, qf, none⟩ (.int .i64 (z1 - xu))).setCell ⟨gH, qt, none⟩ (.int .i64 (z2 + xu))).setCell ⟨gT, i * 8 + 6, none⟩ (.int .i64 day)).heap.size = w5.heap.size := by simp
      have HOT := Lib.hid ot8
      have HOH := Lib.hid oh8
      have HB8 := Lib.hid hbl8
      have hw1 : IntKind.i64.wrap (z1 - xu) = z1 - xu := IntWalk.i64_in _ (by omega)
      have hw2 : IntKind.i64.wrap (z2 + xu) = z2 + xu := IntWalk.i64_in _ (by omega)
      have i0 : (0 : Int) ≤ (i : Int) := by omega
      have iL : (i : Int) < (L.length : Int) := by omega
      clear hv hv2 hcx htk hI m1 m2 m3 une hx hx8 hz1 hz2 oh6 ot6 oh7 ot7 ot8 oh8 hbl8 hT c1 c2 c3
      by_cases hk1 : xk = 1
      · have bk : (xk != 1) = false := by rw [hk1]; rfl
        subst hk1
        obtain ⟨i0', hi0, hz0, hz1, hz2⟩ := info_parts infoT
        have hmx : (if xb < day then day else xb) = max xb day := by omega
        go_wp2
        go_region
        go_wp2
        go_region
        clear hw1 hw2
        go_wp2
        obtain ⟨W8, hW8⟩ : ∃ W8 : World, W8 = (((w5.setCell ⟨gH, qf, none⟩ (.int .i64 (z1 - xu))).setCell ⟨gH, qt, none⟩ (.int .i64 (z2 + xu))).setCell ⟨gT, i * 8 + 6, none⟩ (.int .i64 day)) := ⟨_, rfl⟩
        rw [← hW8] at t18 t28 t38 t78 d78 d118 HOT HOH HB8 hs8
        rw [← hW8]
        clear hW8
        have HSS : Hid (∀ W', Below W8.heap.size W8 W' → Below W8.heap.size W8 W' ∧ W'.cell? ⟨gT, i * 8 + 1, none⟩ = some (.int .i64 ((qf : Int))) ∧ W'.cell? ⟨gT, i * 8 + 2, none⟩ = some (.int .i64 ((qt : Int))) ∧ W'.cell? ⟨gT, i * 8 + 3, none⟩ = some (.int .i64 (xu)) ∧ W'.cell? ⟨gT, i * 8 + 7, none⟩ = some (.int .i64 (xb)) ∧ W'.cell? ⟨w.heap.size, 0, none⟩ = some (.int .i64 (day))) := Lib.hid (fun W' h => ⟨h, Gen.keep h t18, Gen.keep h t28, Gen.keep h t38, Gen.keep h t78, Gen.keep h d78⟩)
        refine wp_region_held_drew (S := fun W' => Below W8.heap.size W8 W' ∧ W'.cell? ⟨gT, i * 8 + 1, none⟩ = some (.int .i64 ((qf : Int))) ∧ W'.cell? ⟨gT, i * 8 + 2, none⟩ = some (.int .i64 ((qt : Int))) ∧ W'.cell? ⟨gT, i * 8 + 3, none⟩ = some (.int .i64 (xu)) ∧ W'.cell? ⟨gT, i * 8 + 7, none⟩ = some (.int .i64 (xb)) ∧ W'.cell? ⟨w.heap.size, 0, none⟩ = some (.int .i64 (day))) (by kernel_rfl) (HSS.out _ (Below.refl _ _).drew.drew.drew) (fun hHeld => ?_)
        refine wpAnyH_take (i := 0) (v := .pointer (some ⟨gT, i * 8, none⟩)) rfl (by kernel_rfl) (by kernel_rfl) (by kernel_rfl) (fun _ _ _ h => h) (Or.inl ⟨by rfl, (by intro w hSw; (try dsimp only at hSw); go_simp <;> first | with_reducible rfl | omega)⟩) (by assumption) ?_
        (try simp only [Act.put, List.getElem_toArray, List.getElem_cons_succ, List.getElem_cons_zero, List.setIfInBounds_toArray, List.set_cons_zero, List.set_cons_succ])
        refine wpAnyH_take (i := 1) (v := .pointer (some ⟨gT, i * 8, none⟩)) rfl (by kernel_rfl) (by kernel_rfl) (by kernel_rfl) (fun _ _ _ h => h) (Or.inl ⟨by rfl, (by intro w hSw; (try dsimp only at hSw); go_simp <;> first | with_reducible rfl | omega)⟩) (by assumption) ?_
        (try simp only [Act.put, List.getElem_toArray, List.getElem_cons_succ, List.getElem_cons_zero, List.setIfInBounds_toArray, List.set_cons_zero, List.set_cons_succ])
        refine wpAnyH_take (i := 2) (v := .pointer (some ⟨gT, i * 8 + 2, none⟩)) rfl (by kernel_rfl) (by kernel_rfl) (by kernel_rfl) (fun _ _ _ h => h) (Or.inl ⟨by rfl, (by intro w hSw; (try dsimp only at hSw); go_simp <;> first | with_reducible rfl | omega)⟩) (by assumption) ?_
        (try simp only [Act.put, List.getElem_toArray, List.getElem_cons_succ, List.getElem_cons_zero, List.setIfInBounds_toArray, List.set_cons_zero, List.set_cons_succ])
        refine wpAnyH_take (i := 3) (v := .int .i64 ((qt : Int))) rfl (by kernel_rfl) (by kernel_rfl) (by kernel_rfl) (fun _ _ _ h => h) (Or.inl ⟨by rfl, (by intro w hSw; (try dsimp only at hSw); go_simp <;> first | with_reducible rfl | omega)⟩) (by assumption) ?_
        (try simp only [Act.put, List.getElem_toArray, List.getElem_cons_succ, List.getElem_cons_zero, List.setIfInBounds_toArray, List.set_cons_zero, List.set_cons_succ])
        refine wpAnyH_take (i := 4) (v := .pointer (some ⟨gT, i * 8, none⟩)) rfl (by kernel_rfl) (by kernel_rfl) (by kernel_rfl) (fun _ _ _ h => h) (Or.inl ⟨by rfl, (by intro w hSw; (try dsimp only at hSw); go_simp <;> first | with_reducible rfl | omega)⟩) (by assumption) ?_
        (try simp only [Act.put, List.getElem_toArray, List.getElem_cons_succ, List.getElem_cons_zero, List.setIfInBounds_toArray, List.set_cons_zero, List.set_cons_succ])
        refine wpAnyH_take (i := 5) (v := .pointer (some ⟨gT, i * 8, none⟩)) rfl (by kernel_rfl) (by kernel_rfl) (by kernel_rfl) (fun _ _ _ h => h) (Or.inl ⟨by rfl, (by intro w hSw; (try dsimp only at hSw); go_simp <;> first | with_reducible rfl | omega)⟩) (by assumption) ?_
        (try simp only [Act.put, List.getElem_toArray, List.getElem_cons_succ, List.getElem_cons_zero, List.setIfInBounds_toArray, List.set_cons_zero, List.set_cons_succ])
        refine wpAnyH_take (i := 6) (v := .pointer (some ⟨gT, i * 8 + 1, none⟩)) rfl (by kernel_rfl) (by kernel_rfl) (by kernel_rfl) (fun _ _ _ h => h) (Or.inl ⟨by rfl, (by intro w hSw; (try dsimp only at hSw); go_simp <;> first | with_reducible rfl | omega)⟩) (by assumption) ?_
        (try simp only [Act.put, List.getElem_toArray, List.getElem_cons_succ, List.getElem_cons_zero, List.setIfInBounds_toArray, List.set_cons_zero, List.set_cons_succ])
        refine wpAnyH_take (i := 7) (v := .int .i64 ((qf : Int))) rfl (by kernel_rfl) (by kernel_rfl) (by kernel_rfl) (fun _ _ _ h => h) (Or.inl ⟨by rfl, (by intro w hSw; (try dsimp only at hSw); go_simp <;> first | with_reducible rfl | omega)⟩) (by assumption) ?_
        (try simp only [Act.put, List.getElem_toArray, List.getElem_cons_succ, List.getElem_cons_zero, List.setIfInBounds_toArray, List.set_cons_zero, List.set_cons_succ])
        refine wpAnyH_take (i := 8) (v := .pointer (some ⟨gT, i * 8, none⟩)) rfl (by kernel_rfl) (by kernel_rfl) (by kernel_rfl) (fun _ _ _ h => h) (Or.inl ⟨by rfl, (by intro w hSw; (try dsimp only at hSw); go_simp <;> first | with_reducible rfl | omega)⟩) (by assumption) ?_
        (try simp only [Act.put, List.getElem_toArray, List.getElem_cons_succ, List.getElem_cons_zero, List.setIfInBounds_toArray, List.set_cons_zero, List.set_cons_succ])
        refine wpAnyH_take (i := 9) (v := .pointer (some ⟨gT, i * 8, none⟩)) rfl (by kernel_rfl) (by kernel_rfl) (by kernel_rfl) (fun _ _ _ h => h) (Or.inl ⟨by rfl, (by intro w hSw; (try dsimp only at hSw); go_simp <;> first | with_reducible rfl | omega)⟩) (by assumption) ?_
        (try simp only [Act.put, List.getElem_toArray, List.getElem_cons_succ, List.getElem_cons_zero, List.setIfInBounds_toArray, List.set_cons_zero, List.set_cons_succ])
        refine wpAnyH_take (i := 10) (v := .pointer (some ⟨gT, i * 8 + 3, none⟩)) rfl (by kernel_rfl) (by kernel_rfl) (by kernel_rfl) (fun _ _ _ h => h) (Or.inl ⟨by rfl, (by intro w hSw; (try dsimp only at hSw); go_simp <;> first | with_reducible rfl | omega)⟩) (by assumption) ?_
        (try simp only [Act.put, List.getElem_toArray, List.getElem_cons_succ, List.getElem_cons_zero, List.setIfInBounds_toArray, List.set_cons_zero, List.set_cons_succ])
        refine wpAnyH_take (i := 11) (v := .int .i64 (xu)) rfl (by kernel_rfl) (by kernel_rfl) (by kernel_rfl) (fun _ _ _ h => h) (Or.inl ⟨by rfl, (by intro w hSw; (try dsimp only at hSw); go_simp <;> first | with_reducible rfl | omega)⟩) (by assumption) ?_
        (try simp only [Act.put, List.getElem_toArray, List.getElem_cons_succ, List.getElem_cons_zero, List.setIfInBounds_toArray, List.set_cons_zero, List.set_cons_succ])
        refine wpAnyH_take (i := 12) (v := .int .i64 (day)) rfl (by kernel_rfl) (by kernel_rfl) (by kernel_rfl) (fun _ _ _ h => h) (Or.inl ⟨by rfl, (by intro w hSw; (try dsimp only at hSw); go_simp <;> first | with_reducible rfl | omega)⟩) (by assumption) ?_
        (try simp only [Act.put, List.getElem_toArray, List.getElem_cons_succ, List.getElem_cons_zero, List.setIfInBounds_toArray, List.set_cons_zero, List.set_cons_succ])
        refine wpAnyH_take (i := 13) (v := .pointer (some ⟨gT, i * 8, none⟩)) rfl (by kernel_rfl) (by kernel_rfl) (by kernel_rfl) (fun _ _ _ h => h) (Or.inl ⟨by rfl, (by intro w hSw; (try dsimp only at hSw); go_simp <;> first | with_reducible rfl | omega)⟩) (by assumption) ?_
        (try simp only [Act.put, List.getElem_toArray, List.getElem_cons_succ, List.getElem_cons_zero, List.setIfInBounds_toArray, List.set_cons_zero, List.set_cons_succ])
        refine wpAnyH_take (i := 14) (v := .pointer (some ⟨gT, i * 8, none⟩)) rfl (by kernel_rfl) (by kernel_rfl) (by kernel_rfl) (fun _ _ _ h => h) (Or.inl ⟨by rfl, (by intro w hSw; (try dsimp only at hSw); go_simp <;> first | with_reducible rfl | omega)⟩) (by assumption) ?_
        (try simp only [Act.put, List.getElem_toArray, List.getElem_cons_succ, List.getElem_cons_zero, List.setIfInBounds_toArray, List.set_cons_zero, List.set_cons_succ])
        refine wpAnyH_take (i := 15) (v := .pointer (some ⟨gT, i * 8 + 7, none⟩)) rfl (by kernel_rfl) (by kernel_rfl) (by kernel_rfl) (fun _ _ _ h => h) (Or.inl ⟨by rfl, (by intro w hSw; (try dsimp only at hSw); go_simp <;> first | with_reducible rfl | omega)⟩) (by assumption) ?_
        (try simp only [Act.put, List.getElem_toArray, List.getElem_cons_succ, List.getElem_cons_zero, List.setIfInBounds_toArray, List.set_cons_zero, List.set_cons_succ])
        refine wpAnyH_take (i := 16) (v := .int .i64 (xb)) rfl (by kernel_rfl) (by kernel_rfl) (by kernel_rfl) (fun _ _ _ h => h) (Or.inl ⟨by rfl, (by intro w hSw; (try dsimp only at hSw); go_simp <;> first | with_reducible rfl | omega)⟩) (by assumption) ?_
        (try simp only [Act.put, List.getElem_toArray, List.getElem_cons_succ, List.getElem_cons_zero, List.setIfInBounds_toArray, List.set_cons_zero, List.set_cons_succ])
        refine wpAnyH_take (i := 17) (v := .int .i64 (day)) rfl (by kernel_rfl) (by kernel_rfl) (by kernel_rfl) (fun _ _ _ h => h) (Or.inl ⟨by rfl, (by intro w hSw; (try dsimp only at hSw); go_simp <;> first | with_reducible rfl | omega)⟩) (by assumption) ?_
        (try simp only [Act.put, List.getElem_toArray, List.getElem_cons_succ, List.getElem_cons_zero, List.setIfInBounds_toArray, List.set_cons_zero, List.set_cons_succ])
        refine wpAnyH_take (i := 18) (v := .int .i64 (if xb < day then day else xb)) rfl (by kernel_rfl) (by kernel_rfl) (by kernel_rfl) (fun _ _ _ h => h) (Or.inl ⟨by rfl, (by intro w hSw; (try dsimp only at hSw); go_simp <;> first | with_reducible rfl | omega)⟩) (by assumption) ?_
        (try simp only [Act.put, List.getElem_toArray, List.getElem_cons_succ, List.getElem_cons_zero, List.setIfInBounds_toArray, List.set_cons_zero, List.set_cons_succ])
        refine wpAnyH_take (i := 19) (v := .agg #[.int .i64 0, .int .i64 (qt : Int), .int .i64 (qf : Int), .int .i64 xu, .int .i64 day, .int .i64 (if xb < day then day else xb), .int .i64 (-1), .int .i64 0]) rfl (by kernel_rfl) (by kernel_rfl) (by kernel_rfl) (fun _ _ _ h => h) (Or.inl ⟨by rfl, (by intro w hSw; (try dsimp only at hSw); go_simp <;> first | with_reducible rfl | omega)⟩) (by assumption) ?_
        (try simp only [Act.put, List.getElem_toArray, List.getElem_cons_succ, List.getElem_cons_zero, List.setIfInBounds_toArray, List.set_cons_zero, List.set_cons_succ])
        refine wpAnyH_ready (rs := [20]) (by kernel_rfl) (by simp) ?_
        refine AllReadyH.cons rfl (fun K hK => ?_) AllReadyH.nil
        rw [if_pos (by rfl)]
        (try simp only [Act.put, List.getElem_toArray, List.getElem_cons_succ, List.getElem_cons_zero, List.setIfInBounds_toArray, List.set_cons_zero, List.set_cons_succ])
        go_simp
        refine hK.out _ _ (HSS.out _ (Gen.b_alloc (Below.refl _ _)).drew.drew.drew) (fun hH20 => ?_)
        clear hK K
        (try simp only [Act.put, List.getElem_toArray, List.getElem_cons_succ, List.getElem_cons_zero, List.setIfInBounds_toArray, List.set_cons_zero, List.set_cons_succ])
        refine wpAnyH_ready (rs := [21]) (by kernel_rfl) (by simp) ?_
        refine AllReadyH.cons rfl (fun K hK => ?_) AllReadyH.nil
        rw [if_pos (by rfl)]
        (try simp only [Act.put, List.getElem_toArray, List.getElem_cons_succ, List.getElem_cons_zero, List.setIfInBounds_toArray, List.set_cons_zero, List.set_cons_succ])
        go_simp
        refine hK.out _ _ (HSS.out _ (Gen.b_alloc (Below.refl _ _)).drew.drew.drew) (fun hH21 => ?_)
        clear hK K
        (try simp only [Act.put, List.getElem_toArray, List.getElem_cons_succ, List.getElem_cons_zero, List.setIfInBounds_toArray, List.set_cons_zero, List.set_cons_succ])
        refine wpAnyH_done (by kernel_rfl) ?_ _
        try rw [hmx]
        have hbX : Below W8.heap.size W8 (W8.alloc (.cells #[.int .i64 0, .int .i64 (qt : Int), .int .i64 (qf : Int), .int .i64 xu, .int .i64 day, .int .i64 (max xb day), .int .i64 (-1), .int .i64 0] 26)).drew.drew.drew := (Gen.b_alloc (Below.refl _ _)).drew.drew.drew
        obtain ⟨W9, hW9⟩ : ∃ W9 : World, W9 = (W8.alloc (.cells #[.int .i64 0, .int .i64 (qt : Int), .int .i64 (qf : Int), .int .i64 xu, .int .i64 day, .int .i64 (max xb day), .int .i64 (-1), .int .i64 0] 26)).drew.drew.drew := ⟨_, rfl⟩
        rw [← hW9] at hbX
        have hr9 : Row W9 w5.heap.size 26 #[.int .i64 0, .int .i64 (qt : Int), .int .i64 (qf : Int), .int .i64 xu, .int .i64 day, .int .i64 (max xb day), .int .i64 (-1), .int .i64 0] := by rw [← hs8, hW9]; exact (Row.new _ _ _).keep (Below.refl _ _).drew.drew.drew
        have r0 := hr9.cell 0
        have r1 := hr9.cell 1
        have r2 := hr9.cell 2
        have r3 := hr9.cell 3
        have r4 := hr9.cell 4
        have r5 := hr9.cell 5
        have r6 := hr9.cell 6
        have r7 := hr9.cell 7
        rw [← hW9]
        have hs9 : w5.heap.size < W9.heap.size := hr9.lt
        clear hW9 hr9
        have hot9 := Gen.own_keep HOT.out hbX
        have N1 := Lib.hid (show L.length + 1 ≤ maxLen from by simp only [maxLen]; omega)
        have N2 := Lib.hid (show (L.length + 1) * 64 ≤ 140737488355328 from by omega)
        go_wp2_with (first
          | (at_builtin
             go_must (refine App.wpList_append_any _ rfl (.tmp 103) (.tmp 105) _ rfl w3.heap.size 26 i0' _ 8 64 Try.underlying24 hi0 hz0 hz1 hz2 rfl (by omega) _ _ _ rfl (Gen.own_keep hot9 (Gen.b_alloc (Below.refl _ _))) _ _ 1 1 (tcs ⟨0, (qt : Int), (qf : Int), xu, day, max xb day, -1, 0⟩) rfl (Gen.reads_blk (by simp) rfl) (by simp [tcs, Value.oneCell']) N1.out N2.out (by simp; omega) ?_)
             intro v2 w7 hown7 hg7 hat7)
          | fail)
        have hbX2 : Below W8.heap.size W8 (W9.alloc (.cells #[.int .i64 0, .int .i64 (qt : Int), .int .i64 (qf : Int), .int .i64 xu, .int .i64 day, .int .i64 (max xb day), .int .i64 (-1), .int .i64 0] 26)) := Gen.b_alloc hbX
        have HF := Lib.hid (show SI w w.heap.size w4.heap.size w2.heap.size w3.heap.size day (some ⟨gH, 0, none⟩) m cH (q + wt l) ss R w7 v2 (stH H ⟨1, (qf : Int), (qt : Int), xu, xm, xd, xo, xb⟩) (stL day L i ⟨1, (qf : Int), (qt : Int), xu, xm, xd, xo, xb⟩) from
          ⟨HGD.out, HSTL.out, hg7.cell (Gen.keep hbX2 d78) (fun c => absurd (Option.some.inj (show some w.heap.size = some gT from c)) (by omega)), hg7.cell (Gen.keep hbX2 d118) (fun c => absurd (Option.some.inj (show some w4.heap.size = some gT from c)) (by omega)), by
            rw [HSTH.out]; exact (Gen.own_keep HOH.out hbX2).kept hg7 (.inr (fun c => absurd (Option.some.inj (show some gH = some gT from c)) (by omega))), by
            have e : stL day L i ⟨1, (qf : Int), (qt : Int), xu, xm, xd, xo, xb⟩ = L.set i (setl day ⟨1, (qf : Int), (qt : Int), xu, xm, xd, xo, xb⟩) ++ [bck day ⟨1, (qf : Int), (qt : Int), xu, xm, xd, xo, xb⟩] := if_pos rfl
            rw [e, List.length_append, List.length_set, List.flatMap_append]; simpa [bck] using hown7, by
            rcases hat7 with c | c
            · rw [c]; exact fun c2 => absurd (Option.some.inj (show some gT = some w4.heap.size from c2)) (by omega)
            · rw [c]; exact fun c2 => by have c3 := Option.some.inj c2; simp at c3; omega, Gen.g_below hot9 hg7 (Gen.b_alloc (Gen.over hbX HB8.out)) (by omega)⟩)
        have HML := Lib.hid (rdT_own HF.out.ot)
        go_roundw
        case rel => first | exact ⟨v2, _, _, rfl, HF⟩ | exact ⟨_, _, HF⟩
        case measure => (try dsimp only); rw [HML.out, HMR.out]; have := HWT.out; omega
      · have bk : (xk != 1) = true := by rw [bne_iff_ne]; exact hk1
        go_wp2
        go_region
        go_wp2
        go_region
        clear hw1 hw2
        go_wp2
        have HF := Lib.hid (show SI w w.heap.size w4.heap.size w2.heap.size w3.heap.size day (some ⟨gH, 0, none⟩) m cH (q + wt l) ss R (((w5.setCell ⟨gH, qf, none⟩ (.int .i64 (z1 - xu))).setCell ⟨gH, qt, none⟩ (.int .i64 (z2 + xu))).setCell ⟨gT, i * 8 + 6, none⟩ (.int .i64 day)).drew.drew (.slice (some ⟨gT, 0, none⟩) L.length cT') (stH H ⟨xk, (qf : Int), (qt : Int), xu, xm, xd, xo, xb⟩) (stL day L i ⟨xk, (qf : Int), (qt : Int), xu, xm, xd, xo, xb⟩) from
          ⟨HGD.out, HSTL.out, d78, d118, by rw [HSTH.out]; exact HOH.out, by
            rw [show stL day L i ⟨xk, (qf : Int), (qt : Int), xu, xm, xd, xo, xb⟩ = L.set i (setl day ⟨xk, (qf : Int), (qt : Int), xu, xm, xd, xo, xb⟩) from if_neg hk1, List.length_set]; exact HOT.out, HS5.out.ne, HB8.out.drew.drew⟩)
        have HML := Lib.hid (rdT_own HF.out.ot)
        go_roundw
        case rel => first | exact ⟨_, _, _, rfl, HF⟩ | exact ⟨_, _, HF⟩
        case measure => (try dsimp only); rw [HML.out, HMR.out]; have := HWT.out; omega

end
end Go.Proofs.Ytpekedhcnijgcaa.Book
