/- Restatements: Changed. -/
import Derived.Test.YtohbdffmidbjhaaReN
import Derived.BigRegion
import Derived.Deep.RegionLaw
namespace Go.Proofs.Ytohbdffmidbjhaa.Re
open Go.ChangeShapes Go.WideShapes Go.ChangeAt Go.RowKit Go.Maps Go.Proofs.Ytohbdffmidbjhaa.Cell
set_option linter.unusedVariables false
set_option linter.unusedSimpArgs false
theorem infoI : (Try.prog.info? 3).map (fun i => (i.zero, i.size, i.bytes)) = some (some (.int .i64 0), 1, 8) := by kernel_rfl
theorem infoB : (Try.prog.info? 4).map (fun i => (i.zero, i.size, i.bytes)) = some (some (.bool false), 1, 1) := by kernel_rfl
theorem info_parts' {o : Option TypeInfo} {z : Value} {a b : Nat} (h : o.map (fun i => (i.zero, i.size, i.bytes)) = some (some z, a, b)) : ∃ i, o = some i ∧ i.zero = some z ∧ i.size = a ∧ i.bytes = b := by
  cases o with
  | none => cases h
  | some i =>
    simp only [Option.map_some, Option.some.injEq, Prod.mk.injEq] at h
    exact ⟨i, rfl, h.1, h.2.1, h.2.2⟩
theorem be_own {W W' : World} {B n c size : Nat} {e : TypeId} {A : Option Addr} {xs : List Value} (h : W.ownsRow B e size (.slice A n c) n xs) (hb : Below W.heap.size W W') : W'.ownsRow B e size (.slice A n c) n xs := Gen.own_keep h hb
def ils (xs : List Int) : List Value := xs.map (Value.int .i64)
theorem ils_snoc (xs : List Int) (x : Int) : ils (xs ++ [x]) = ils xs ++ [.int .i64 x] := by simp [ils]
theorem ints_own {w : World} {base n : Nat} {e : TypeId} {A : Option Addr} {c : Nat} {l : List Int} (h : w.ownsRow base e 1 (.slice A n c) n (ils l)) : Ints w A l := fun h0 => by
  have hn : 0 < n := by have := h.1; unfold ils at this; rw [List.length_map] at this; omega
  obtain ⟨g, cap, hv, _, hlt⟩ := h.form hn
  have hA : A = some ⟨g, 0, none⟩ := by injection hv
  subst hA
  refine ⟨g, 0, rfl, fun j z hz => ?_⟩
  have := h.cells (g := g) rfl j _ (show (ils l)[j]? = some (.int .i64 z) from by unfold ils; rw [List.getElem?_map, hz]; rfl)
  rw [Addr.add_lit] at this
  exact this
set_option maxRecDepth 100000 in
set_option maxHeartbeats 4000000 in
theorem MB.of_eq {w : World} {b n : Nat} {p q : Int → Bool} (h : MB w b n p) (e : ∀ x, p x = q x) : MB w b n q := by
  rw [← show p = q from funext e]
  exact h
theorem cont_snoc {l : List Int} {k : Nat} {x : Int} (h : l[k]? = some x) (y : Int) : (decide (y = x) || (l.take k).contains y) = (l.take (k + 1)).contains y := by
  rw [take_snoc h, Bool.eq_iff_iff]
  simp [or_comm]
/-- the bools while the values are gone through -/
def bsAt (facts : List Int) (l : List Dv) (k : Nat) : List Bool := us facts l k ++ List.replicate (l.length - k) false
theorem bs_len {facts : List Int} {l : List Dv} {k : Nat} (hk : k ≤ l.length) : (bsAt facts l k).length = l.length := by
  unfold bsAt
  rw [List.length_append, us_len k hk, List.length_replicate]
  omega
theorem bs_new {facts : List Int} {l : List Dv} {k : Nat} (hk : k < l.length) : (bsAt facts l k)[k]? = some false := by
  unfold bsAt
  rw [List.getElem?_append_right (by rw [us_len k (by omega)]; exact Nat.le_refl _), us_len k (by omega), Nat.sub_self, List.getElem?_replicate, if_pos (by omega)]
theorem bs_set {facts : List Int} {l : List Dv} {k : Nat} {d : Dv} (hd : l[k]? = some d) : (bsAt facts l k).set k (val facts (us facts l k) d) = bsAt facts l (k + 1) := by
  have hk := lt_of_at hd
  unfold bsAt
  rw [us_succ hd, show l.length - k = (l.length - (k + 1)) + 1 by omega, List.replicate_succ, List.set_append_right _ _ (by rw [us_len k (by omega)]; exact Nat.le_refl _), us_len k (by omega), Nat.sub_self, List.set_cons_zero, List.append_assoc]
  rfl
theorem bs_at {facts : List Int} {l : List Dv} {k : Nat} (hk : k ≤ l.length) {x : Int} (h0 : 0 ≤ x) (h1 : x < (k : Int)) : bAt (bsAt facts l k) x = (us facts l k)[x.toNat]?.getD false := by
  unfold bAt bsAt
  rw [List.getElem?_append_left (by rw [us_len k hk]; omega)]
theorem bs_any {facts : List Int} {l : List Dv} {k : Nat} {d : Dv} (hr : rgB l = true) (hd : l[k]? = some d) : (d.fa.any (fun f => facts.contains f) || d.fr.any (bAt (bsAt facts l k))) = val facts (us facts l k) d := by
  unfold val
  congr 1
  have hk := lt_of_at hd
  have hf := dvOk_fr (rg_at hr hd)
  rw [Bool.eq_iff_iff, List.any_eq_true, List.any_eq_true]
  constructor
  · rintro ⟨j, hj, e⟩
    exact ⟨j, hj, by rw [bs_at (by omega) (hf j hj).1 (hf j hj).2] at e; exact e⟩
  · rintro ⟨j, hj, e⟩
    exact ⟨j, hj, by rw [bs_at (by omega) (hf j hj).1 (hf j hj).2]; exact e⟩
theorem ch_next {facts : List Int} {l : List Dv} {k : Nat} {d : Dv} (hd : l[k]? = some d) : ch facts l (k + 1) = ch facts l k ++ if val facts (us facts l k) d = true then [(k : Int)] else [] := by
  have hk := lt_of_at hd
  rw [ch_succ, us_all (k := k + 1) rfl (by omega) (by omega), us_succ hd, List.getElem?_append_right (by rw [us_len k (by omega)]; exact Nat.le_refl _), us_len k (by omega), Nat.sub_self]
  rfl
theorem ch_le (facts : List Int) (l : List Dv) (k : Nat) : (ch facts l k).length ≤ k := by
  unfold ch
  have := List.length_filterMap_le (fun (i : Nat) => if (us facts l l.length)[i]?.getD false = true then some (Int.ofNat i) else none) (List.range k)
  simpa using this
/-- what Changed returns -/
def chg (facts : List Int) (l : List Dv) : List Int := if rgB l = true then ch facts l l.length else []
theorem chg_yes {facts : List Int} {l : List Dv} (h : rgB l = true) : chg facts l = ch facts l l.length := if_pos h
theorem chg_no {facts : List Int} {l : List Dv} (h : rgB l = false) : chg facts l = [] := if_neg (by rw [h]; decide)
theorem own_nil (w : World) (B : Nat) : w.ownsRow B 3 1 (.slice none 0 0) 0 (ils []) := ⟨rfl, .inl ⟨rfl, rfl⟩⟩
theorem own_low {w : World} {B B' n size : Nat} {e : TypeId} {v : Value} {xs : List Value} (h : w.ownsRow B e size v n xs) (hB : B' ≤ B) : w.ownsRow B' e size v n xs := by
  refine ⟨h.1, ?_⟩
  rcases h.2 with h0 | ⟨g, cap, cur, h1, h2, h3⟩
  · exact .inl h0
  · exact .inr ⟨g, cap, cur, h1, Nat.le_trans hB h2, h3⟩
theorem Row.far {w : World} {g q i : Nat} {t : TypeId} {cs : Array Value} (h : Row w q t cs) (hn : q ≠ g) (v : Value) : Row (w.setCell ⟨g, i, none⟩ v) q t cs := (Below.heap_setCell w ⟨g, i, none⟩ v q hn).trans h
set_option maxRecDepth 100000 in
set_option maxHeartbeats 16000000 in
theorem changed_any {w : World} {A Af : Option Addr} {n c nf cf : Nat} {l : List Dv} {facts : List Int} (hn : l.length = n) (hc : Dvs w A l) (hnf : facts.length = nf) (hcf : Ints w Af facts) (hbig : n ≤ 1000000) (hbf : nf ≤ 1000000)
    (hin : ∀ d ∈ l, d.fr.length ≤ 1000000 ∧ d.fa.length ≤ 1000000) (hwf : ∀ x ∈ facts, wfI x) (hwd : ∀ d ∈ l, ∀ x ∈ d.fa, wfI x) :
    Calls Try.prog 15 #[.slice A n c, .slice Af nf cf] w fun e w' => ∃ v m, e = .returned v ∧ Below w.heap.size w w' ∧ w'.ownsRow w.heap.size 3 1 v m (ils (chg facts l)) := by
  obtain ⟨iI, hiI, hzI, hyI, hxI⟩ := info_parts' infoI
  obtain ⟨iB, hiB, hzB, hyB, hxB⟩ := info_parts' infoB
  have hmm := @run_makeMap Try.prog
  have HR := Lib.hid (right_any (c := c) hn hc (by omega) (fun d hd => by have := hin d hd; omega))
  have HN := Lib.hid hn
  have HC := Lib.hid hc
  have HNF := Lib.hid hnf
  have HCF := Lib.hid hcf
  have HIN := Lib.hid hin
  have HWF := Lib.hid hwf
  have HWD := Lib.hid hwd
  clear hn hc hnf hcf hin hwf hwd
  go_enter Try.func15, Try.ntmps15
  go_wp2_with (fail)
  go_must (refine (HR.out).mono ?_)
  rintro e w1 ⟨rfl, hb1⟩
  cases hrg : rgB l
  · go_wp2
    go_ret
    exact ⟨_, 0, rfl, hb1, by rw [chg_no hrg]; exact own_nil _ _⟩
  have HRG := Lib.hid hrg
  clear hrg HR
  have hmk : ∀ W : World, (Instr.makeSlice 25 (.int .i64 (n : Int)) (.int .i64 (n : Int))).run Try.prog W = .ok (.slice (some ⟨W.heap.size, 0, none⟩) n n) (W.alloc (.cells (bcs (List.replicate n false)) 4)) := fun W => by
    have hr := run_make (P := Try.prog) W 25 4 iB (.bool false) Try.underlying25 hiB hzB .i64 .i64 (n : Nat) (n : Nat) (by omega) (Int.le_refl _) (by rw [hxB]; omega) (by omega)
    rw [hyB, Int.toNat_natCast, made_bools] at hr
    exact hr
  have HMK := Lib.hid hmk
  clear hmk
  have HC1 := Lib.hid (HC.out.keep hb1)
  have HF1 := Lib.hid (HCF.out.keep hb1)
  have HB1 := Lib.hid hb1
  clear hb1 HC HCF
  go_wp2
  go_loopw [18] (fun iv wr => ∃ k : Nat, k ≤ nf ∧ iv = .int .i64 k ∧ Hid (MB wr w1.heap.size k (fun y => (facts.take k).contains y)) ∧ Hid (Row wr (w1.heap.size + 1) 58 #[.map (some w1.heap.size)]) ∧ Hid (Below w1.heap.size w1 wr)) (fun iv _ => nf - (intOf iv).toNat)
  case atStart =>
    refine ⟨0, Nat.zero_le _, rfl, Lib.hid ?_, Lib.hid ?_, Lib.hid ?_⟩
    · exact ((MB.made w1).keep (Gen.b_alloc (Below.refl _ _))).of_eq (fun x => by simp)
    · exact Gen.rowAt _ _ _ (by simp)
    · exact Gen.b_alloc (Gen.b_alloc (Below.refl _ _))
  case round =>
    obtain ⟨k, hk, rfl, HM, HRO, HB⟩ := hrel
    by_cases hlt : k < nf
    · obtain ⟨x, hx⟩ := at_ facts k (by rw [HNF.out]; exact hlt)
      obtain ⟨b, off, rfl, hcell⟩ := (HF1.out.keep HB.out) (by rw [HNF.out]; omega)
      have c0 := hcell k x hx
      have c1 := HRO.out.cell 0
      obtain ⟨w2, hrun, hm2, hg2⟩ := HM.out.put (x := x) (by simp only [maxLen]; omega) (HWF.out x (mem_of_at hx))
      have HM2 := Lib.hid (hm2.of_eq (cont_snoc hx))
      have HR2 := Lib.hid (show Row w2 (w1.heap.size + 1) 58 #[.map (some w1.heap.size)] from (hg2.block _ HRO.out.lt (fun e => by injection e with e; omega)).trans HRO.out)
      have HB2 := Lib.hid (HB.out.grown hg2 HB.out.size (fun q e => by injection e with e; omega))
      clear hcell hx hm2 hg2
      go_wp2
      go_roundw
      case rel => first | exact ⟨k + 1, by omega, by go_num, HM2, HR2, HB2⟩
      case measure => simp [intOf]; omega
    · obtain rfl : nf = k := by omega
      have HM1 := Lib.hid (HM.out.of_eq (q := fun y => facts.contains y) (fun x => by rw [List.take_of_length_le (by rw [HNF.out]; exact Nat.le_refl _)]))
      have hmk := HMK.out
      have hsz : w1.heap.size + 1 < wr.heap.size := HRO.out.lt
      clear HM hlt
      go_wp2
      clear hmk
      obtain ⟨u, hu⟩ : ∃ u, wr.heap.size = u := ⟨_, rfl⟩
      have HST := Lib.hid (show Row ((wr.alloc (.cells (bcs (List.replicate n false)) 4)).alloc (.cells #[.slice (some ⟨u, 0, none⟩) n n] 25)) u 4 (bcs (List.replicate n false)) ∧ Row ((wr.alloc (.cells (bcs (List.replicate n false)) 4)).alloc (.cells #[.slice (some ⟨u, 0, none⟩) n n] 25)) (u + 1) 25 #[.slice (some ⟨u, 0, none⟩) n n] ∧ Below wr.heap.size wr ((wr.alloc (.cells (bcs (List.replicate n false)) 4)).alloc (.cells #[.slice (some ⟨u, 0, none⟩) n n] 25)) from ⟨(Gen.rowAt _ _ _ hu.symm).alloc _, Gen.rowAt _ _ _ (by simp [hu]), Gen.b_alloc (Gen.b_alloc (Below.refl _ _))⟩)
      rw [hu] at hsz
      try simp only [hu]
      go_loopw [30, 9] (fun iv ov wr => ∃ (k m : Nat) (Ao : Option Addr) (co : Nat), k ≤ n ∧ iv = .int .i64 k ∧ ov = .slice Ao m co ∧ m ≤ k ∧ Hid (wr.ownsRow (u + 2) 3 1 (.slice Ao m co) m (ils (ch facts l k))) ∧ Hid (Row wr (u + 1) 25 #[.slice (some ⟨u, 0, none⟩) n n]) ∧ Hid (Row wr u 4 (bcs (bsAt facts l k))) ∧ Hid (MB wr w1.heap.size nf (fun y => facts.contains y)) ∧ Hid (Row wr (w1.heap.size + 1) 58 #[.map (some w1.heap.size)]) ∧ Hid (Below w1.heap.size w1 wr)) (fun iv _ _ => n - (intOf iv).toNat)
      case atStart =>
        refine ⟨0, 0, none, 0, Nat.zero_le _, rfl, rfl, Nat.le_refl _, Lib.hid (own_nil _ _), Lib.hid HST.out.2.1, Lib.hid ?_, Lib.hid (HM1.out.keep HST.out.2.2), Lib.hid (HRO.out.keep HST.out.2.2), Lib.hid (Gen.over HST.out.2.2 HB.out)⟩
        have e : bsAt facts l 0 = List.replicate n false := by unfold bsAt; rw [HN.out]; rfl
        rw [e]
        exact HST.out.1
      case round =>
        clear HST HM1 HRO HB HF1 HMK
        obtain ⟨k, m, Ao, co, hk, rfl, rfl, hm, HO, HRV, HRU, HM, HRO, HB⟩ := hrel
        have k0 : (0 : Int) ≤ (k : Int) := by omega
        by_cases hlt : k < n
        · have hltI : (k : Int) < (n : Int) := by omega
          obtain ⟨⟨fr, fa⟩, hx⟩ := at_ l k (by rw [HN.out]; exact hlt)
          obtain ⟨g, off, rfl, hcell⟩ := (HC1.out.keep HB.out) (by rw [HN.out]; omega)
          obtain ⟨A1, c1, A2, c2, hd⟩ := hcell k _ hx
          obtain ⟨L1, L2⟩ := HIN.out _ (mem_of_at hx)
          have hfr := dvOk_fr (rg_at HRG.out hx)
          have hfa := HWD.out _ (mem_of_at hx)
          have hany := bs_any (facts := facts) HRG.out hx
          dsimp only at L1 L2 hfr hfa hany
          have HX := Lib.hid hx
          have d0 := hd.k0
          have d1 := hd.k1
          dsimp only at d0 d1
          obtain ⟨n1, hn1⟩ : ∃ n1, fr.length = n1 := ⟨_, rfl⟩
          obtain ⟨n2, hn2⟩ : ∃ n2, fa.length = n2 := ⟨_, rfl⟩
          rw [hn1] at d0 L1
          rw [hn2] at d1 L2
          have HSZ := Lib.hid (show u + 2 ≤ wr.heap.size by have := HRV.out.lt; omega)
          obtain ⟨W0, hW0⟩ : ∃ W0, (wr.alloc (.cells #[.slice A1 n1 c1, .slice A2 n2 c2] 38)) = W0 := ⟨_, rfl⟩
          have hx0 : Below wr.heap.size wr W0 := by rw [← hW0]; exact Gen.b_alloc (Below.refl _ _)
          have hrw : Row W0 wr.heap.size 38 #[.slice A1 n1 c1, .slice A2 n2 c2] := by rw [← hW0]; exact Gen.rowAt _ _ _ rfl
          have HB0 := Lib.hid (Gen.over hx0 HB.out)
          have HU0 := Lib.hid (HRU.out.keep hx0)
          have HV0 := Lib.hid (HRV.out.keep hx0)
          have HM0 := Lib.hid (HM.out.keep hx0)
          have HR0 := Lib.hid (HRO.out.keep hx0)
          have HO0 := Lib.hid (Gen.own_keep HO.out hx0)
          have HSW := Lib.hid (Nat.le_trans HSZ.out hx0.size)
          have hdr : Below W0.heap.size W0 W0.drew := (Below.refl _ _).drew
          have HS0 := Lib.hid (show W0.drew.cell? ⟨u + 1, 0, none⟩ = some (.slice (some ⟨u, 0, none⟩) n n) ∧ W0.drew.cell? ⟨wr.heap.size, 0, none⟩ = some (.slice A1 n1 c1) ∧ W0.drew.cell? ⟨wr.heap.size, 1, none⟩ = some (.slice A2 n2 c2) from ⟨HV0.out.cell 0, hrw.cell 0, hrw.cell 1⟩)
          have HCF := Lib.hid ((cont_f (cap := c2) hn2 ((hd.fa.keep hx0).keep hdr) (by omega) ((HR0.out.keep hdr).cell 0) (HM0.out.keep hdr) hfa).mono (R' := fun e w' => e = .returned (.bool (fa.any (fun y => facts.contains y))) ∧ Below W0.heap.size W0 w') (fun e w' h => ⟨h.1, Gen.over h.2 hdr⟩))
          have hfr2 : ∀ x ∈ fr, 0 ≤ x ∧ x < (n : Int) := fun x hx => by have := hfr x hx; omega
          have HCU := Lib.hid (fun (W' : World) (hb : Below W0.heap.size W0 W') => (cont_u (bs := bsAt facts l k) (cap := c1) hn1 ((hd.fr.keep hx0).keep hb) (by omega) ((HV0.out.keep hb).cell 0) (fun j z hz => (HU0.out.keep hb).booAt hz) (by rw [bs_len (by rw [HN.out]; omega), HN.out]) hfr2).mono (R' := fun e w' => e = .returned (.bool (fr.any (bAt (bsAt facts l k)))) ∧ Below W0.heap.size W0 w') (fun e w' h => ⟨h.1, Gen.over h.2 hb⟩))
          have HZU := Lib.hid (fun (W' : World) (hb : Below W0.heap.size W0 W') => And.intro ((HU0.out.keep hb).booAt (bs_new (facts := facts) (show k < l.length by rw [HN.out]; exact hlt))) ((HU0.out.keep hb).frozen k))
          have HAN := Lib.hid hany
          clear hcell hx hd hx0 hn1 hn2 hfr hfa hany hrw hdr hfr2 HO HRV HRU HM HRO HB
          cases hz : fa.any (fun y => facts.contains y)
          · cases hy : fr.any (bAt (bsAt facts l k))
            · have HV := Lib.hid (show val facts (us facts l k) ⟨fr, fa⟩ = false by rw [← HAN.out, hz, hy]; rfl)
              rw [hz] at HCF
              rw [hy] at HCU
              clear hz HAN hy
              go_wp2
              try rw [hW0]
              clear hW0 d0 d1
              go_region_held3 (fun W' : World => W'.cell? ⟨u + 1, 0, none⟩ = some (.slice (some ⟨u, 0, none⟩) n n) ∧ W'.cell? ⟨wr.heap.size, 0, none⟩ = some (.slice A1 n1 c1) ∧ W'.cell? ⟨wr.heap.size, 1, none⟩ = some (.slice A2 n2 c2))
                (first | exact HS0.out | exact ⟨keep0 hb4 _ _ _ HS0.out.1, keep0 hb4 _ _ _ HS0.out.2.1, keep0 hb4 _ _ _ HS0.out.2.2⟩ | exact ⟨keep0 hb3 _ _ _ HS0.out.1, keep0 hb3 _ _ _ HS0.out.2.1, keep0 hb3 _ _ _ HS0.out.2.2⟩ | exact ⟨(World.cell?_setCell_far _ _ _ _ (show u ≠ u + 1 by omega)).trans (keep0 hb4 _ _ _ HS0.out.1), (World.cell?_setCell_far _ _ _ _ (show u ≠ wr.heap.size by have := HSZ.out; omega)).trans (keep0 hb4 _ _ _ HS0.out.2.1), (World.cell?_setCell_far _ _ _ _ (show u ≠ wr.heap.size by have := HSZ.out; omega)).trans (keep0 hb4 _ _ _ HS0.out.2.2)⟩ | exact ⟨(World.cell?_setCell_far _ _ _ _ (show u ≠ u + 1 by omega)).trans (keep0 hb3 _ _ _ HS0.out.1), (World.cell?_setCell_far _ _ _ _ (show u ≠ wr.heap.size by have := HSZ.out; omega)).trans (keep0 hb3 _ _ _ HS0.out.2.1), (World.cell?_setCell_far _ _ _ _ (show u ≠ wr.heap.size by have := HSZ.out; omega)).trans (keep0 hb3 _ _ _ HS0.out.2.2)⟩ | fail "keep")
                (first | (go_at_call 27; refine (HCU.out _ hb3).mono ?_; rintro e'' w4 ⟨rfl, hb4⟩; obtain ⟨y0, y1⟩ := HZU.out _ hb4) | (go_at_call 27; refine (HCF.out).mono ?_; rintro e' w3 ⟨rfl, hb3⟩; obtain ⟨z0, z1⟩ := HZU.out _ hb3) | fail "arm")
              all_goals
                have HB4 := Lib.hid (Gen.b_set (p := ⟨u, k, none⟩) (u := .bool false) (Gen.over hb4 HB0.out) (show w1.heap.size ≤ u by omega))
                have ru := (HU0.out.keep hb4).set k (.bool false)
                rw [bcs_set] at ru
                have e0 : (w4.setCell ⟨u, k, none⟩ (.bool false)).cell? ⟨u, k, none⟩ = some (.bool false) := ru.booAt (by rw [List.getElem?_set_self (by rw [bs_len (by rw [HN.out]; omega), HN.out]; exact hlt)])
                have hbs := bs_set (facts := facts) HX.out
                rw [HV.out] at hbs
                rw [hbs] at ru
                have HU4 := Lib.hid ru
                have rv := Row.far (i := k) (HV0.out.keep hb4) (show u + 1 ≠ u by omega) (.bool false)
                have e1 := rv.cell 0
                have HV4 := Lib.hid rv
                have HM4 := Lib.hid ((HM0.out.keep hb4).at (Below.heap_setCell w4 ⟨u, k, none⟩ (.bool false) w1.heap.size (by show w1.heap.size ≠ u; omega)))
                have HR4 := Lib.hid (Row.far (i := k) (HR0.out.keep hb4) (show w1.heap.size + 1 ≠ u by omega) (.bool false))
                have HO4 := Lib.hid (ownsRow_setCell_below (a := ⟨u, k, none⟩) (Gen.own_keep HO0.out hb4) (show u < u + 2 by omega) (.bool false))
                have HS4 := Lib.hid (show u + 2 ≤ (w4.setCell ⟨u, k, none⟩ (.bool false)).heap.size by have h1 := hb4.size; have h2 := HSW.out; simp only [World.size_setCell]; omega)
                have HCH := Lib.hid (ch_next (facts := facts) HX.out)
                clear ru rv hbs hb4
                go_wp2
                go_roundw
                case rel => exact ⟨k + 1, m, Ao, co, by omega, by go_num, rfl, by omega, by rw [HCH.out, HV.out]; simpa using HO4, HV4, HU4, HM4, HR4, HB4⟩
                case measure => simp [intOf]; omega
            · have HV := Lib.hid (show val facts (us facts l k) ⟨fr, fa⟩ = true by rw [← HAN.out, hz, hy]; rfl)
              rw [hz] at HCF
              rw [hy] at HCU
              clear hz HAN hy
              go_wp2
              try rw [hW0]
              clear hW0 d0 d1
              go_region_held3 (fun W' : World => W'.cell? ⟨u + 1, 0, none⟩ = some (.slice (some ⟨u, 0, none⟩) n n) ∧ W'.cell? ⟨wr.heap.size, 0, none⟩ = some (.slice A1 n1 c1) ∧ W'.cell? ⟨wr.heap.size, 1, none⟩ = some (.slice A2 n2 c2))
                (first | exact HS0.out | exact ⟨keep0 hb4 _ _ _ HS0.out.1, keep0 hb4 _ _ _ HS0.out.2.1, keep0 hb4 _ _ _ HS0.out.2.2⟩ | exact ⟨keep0 hb3 _ _ _ HS0.out.1, keep0 hb3 _ _ _ HS0.out.2.1, keep0 hb3 _ _ _ HS0.out.2.2⟩ | exact ⟨(World.cell?_setCell_far _ _ _ _ (show u ≠ u + 1 by omega)).trans (keep0 hb4 _ _ _ HS0.out.1), (World.cell?_setCell_far _ _ _ _ (show u ≠ wr.heap.size by have := HSZ.out; omega)).trans (keep0 hb4 _ _ _ HS0.out.2.1), (World.cell?_setCell_far _ _ _ _ (show u ≠ wr.heap.size by have := HSZ.out; omega)).trans (keep0 hb4 _ _ _ HS0.out.2.2)⟩ | exact ⟨(World.cell?_setCell_far _ _ _ _ (show u ≠ u + 1 by omega)).trans (keep0 hb3 _ _ _ HS0.out.1), (World.cell?_setCell_far _ _ _ _ (show u ≠ wr.heap.size by have := HSZ.out; omega)).trans (keep0 hb3 _ _ _ HS0.out.2.1), (World.cell?_setCell_far _ _ _ _ (show u ≠ wr.heap.size by have := HSZ.out; omega)).trans (keep0 hb3 _ _ _ HS0.out.2.2)⟩ | fail "keep")
                (first | (go_at_call 27; refine (HCU.out _ hb3).mono ?_; rintro e'' w4 ⟨rfl, hb4⟩; obtain ⟨y0, y1⟩ := HZU.out _ hb4) | (go_at_call 27; refine (HCF.out).mono ?_; rintro e' w3 ⟨rfl, hb3⟩; obtain ⟨z0, z1⟩ := HZU.out _ hb3) | fail "arm")
              all_goals
                have HB4 := Lib.hid (Gen.b_set (p := ⟨u, k, none⟩) (u := .bool true) (Gen.over hb4 HB0.out) (show w1.heap.size ≤ u by omega))
                have ru := (HU0.out.keep hb4).set k (.bool true)
                rw [bcs_set] at ru
                have e0 : (w4.setCell ⟨u, k, none⟩ (.bool true)).cell? ⟨u, k, none⟩ = some (.bool true) := ru.booAt (by rw [List.getElem?_set_self (by rw [bs_len (by rw [HN.out]; omega), HN.out]; exact hlt)])
                have hbs := bs_set (facts := facts) HX.out
                rw [HV.out] at hbs
                rw [hbs] at ru
                have HU4 := Lib.hid ru
                have rv := Row.far (i := k) (HV0.out.keep hb4) (show u + 1 ≠ u by omega) (.bool true)
                have e1 := rv.cell 0
                have HV4 := Lib.hid rv
                have HM4 := Lib.hid ((HM0.out.keep hb4).at (Below.heap_setCell w4 ⟨u, k, none⟩ (.bool true) w1.heap.size (by show w1.heap.size ≠ u; omega)))
                have HR4 := Lib.hid (Row.far (i := k) (HR0.out.keep hb4) (show w1.heap.size + 1 ≠ u by omega) (.bool true))
                have HO4 := Lib.hid (ownsRow_setCell_below (a := ⟨u, k, none⟩) (Gen.own_keep HO0.out hb4) (show u < u + 2 by omega) (.bool true))
                have HS4 := Lib.hid (show u + 2 ≤ (w4.setCell ⟨u, k, none⟩ (.bool true)).heap.size by have h1 := hb4.size; have h2 := HSW.out; simp only [World.size_setCell]; omega)
                have HCH := Lib.hid (ch_next (facts := facts) HX.out)
                clear ru rv hbs hb4
                have N1 := Lib.hid (show m + 1 ≤ maxLen by simp only [maxLen]; omega)
                have N2 := Lib.hid (show (m + 1) * 8 ≤ 140737488355328 by omega)
                go_wp2_with (first
                  | (at_builtin
                     go_must (refine App.wpList_append_any _ rfl (.tmp 52) (.tmp 54) _ rfl (u + 2) 3 iI _ 1 8 Try.underlying23 hiI hzI hyI hxI rfl (by omega) (.slice Ao m co) m (ils (ch facts l k)) rfl (Gen.own_keep HO4.out (Gen.b_alloc (Below.refl _ _))) _ _ 1 1 [.int .i64 (k : Int)] rfl (Gen.reads_blk (by simp) rfl) (by simp [Value.oneCell']) N1.out N2.out (by have := HS4.out; simp at this ⊢; omega) ?_
                              intro v7 w7 ho7 hg7 ha7
                              have hx7 : Below (w4.setCell ⟨u, k, none⟩ (.bool true)).heap.size (w4.setCell ⟨u, k, none⟩ (.bool true)) ((w4.setCell ⟨u, k, none⟩ (.bool true)).alloc (.cells #[.int .i64 (k : Int)] 3)) := Gen.b_alloc (Below.refl _ _)
                              have HO5 := Gen.own_keep HO4.out hx7
                              have HU7 := Lib.hid (Gen.g_row HO5 hg7 (by omega) (HU4.out.keep hx7))
                              have HV7 := Lib.hid (Gen.g_row HO5 hg7 (by omega) (HV4.out.keep hx7))
                              have HR7 := Lib.hid (Gen.g_row HO5 hg7 (by omega) (HR4.out.keep hx7))
                              have hm7 := HM4.out.keep hx7
                              have HM7 := Lib.hid (hm7.at (hg7.block _ hm7.lt (fun e => by have := (HO5.lt _ e.symm).1; omega)))
                              have HB7 := Lib.hid (Gen.g_below (w := w1) HO5 hg7 (Gen.over hx7 HB4.out) (by omega))
                              obtain ⟨A7, c7, rfl, _⟩ := Gen.own_slice ho7
                              have HO7 := Lib.hid (show w7.ownsRow (u + 2) 3 1 (.slice A7 (m + 1) c7) (m + 1) (ils (ch facts l (k + 1))) by rw [HCH.out, HV.out, if_pos rfl, ils_snoc]; exact ho7)
                              clear ho7 hg7 ha7 hx7 hm7 HO5))
                  | fail)
                go_roundw
                case rel => exact ⟨k + 1, m + 1, A7, c7, by omega, by go_num, rfl, by omega, HO7, HV7, HU7, HM7, HR7, HB7⟩
                case measure => simp [intOf]; omega
          · have HV := Lib.hid (show val facts (us facts l k) ⟨fr, fa⟩ = true by rw [← HAN.out, hz]; rfl)
            rw [hz] at HCF
            clear hz HAN
            go_wp2
            try rw [hW0]
            clear hW0 d0 d1
            refine wp_region_held_drew (S := (fun W' : World => W'.cell? ⟨u + 1, 0, none⟩ = some (.slice (some ⟨u, 0, none⟩) n n) ∧ W'.cell? ⟨wr.heap.size, 0, none⟩ = some (.slice A1 n1 c1) ∧ W'.cell? ⟨wr.heap.size, 1, none⟩ = some (.slice A2 n2 c2))) (by kernel_rfl) HS0.out (fun hHeld => ?_)
            refine wpAnyH_take (i := 0) (v := .slice (some ⟨u, 0, none⟩) n n) rfl (by kernel_rfl) (by kernel_rfl) (by kernel_rfl) (fun _ _ _ h => h) (Or.inl ⟨by rfl, (by intro w hSw; (try dsimp only at hSw); go_simp <;> with_reducible rfl)⟩) (by assumption) ?_
            (try simp only [Act.put, List.getElem_toArray, List.getElem_cons_succ, List.getElem_cons_zero, List.setIfInBounds_toArray, List.set_cons_zero, List.set_cons_succ])
            refine wpAnyH_take (i := 1) (v := .int .i64 (k : Int)) rfl (by kernel_rfl) (by kernel_rfl) (by kernel_rfl) (fun _ _ _ h => h) (Or.inl ⟨by rfl, (by intro w hSw; (try dsimp only at hSw); go_simp <;> with_reducible rfl)⟩) (by assumption) ?_
            (try simp only [Act.put, List.getElem_toArray, List.getElem_cons_succ, List.getElem_cons_zero, List.setIfInBounds_toArray, List.set_cons_zero, List.set_cons_succ])
            refine wpAnyH_take (i := 2) (v := .pointer (some ⟨wr.heap.size, 1, none⟩)) rfl (by kernel_rfl) (by kernel_rfl) (by kernel_rfl) (fun _ _ _ h => h) (Or.inl ⟨by rfl, (by intro w hSw; (try dsimp only at hSw); go_simp <;> with_reducible rfl)⟩) (by assumption) ?_
            (try simp only [Act.put, List.getElem_toArray, List.getElem_cons_succ, List.getElem_cons_zero, List.setIfInBounds_toArray, List.set_cons_zero, List.set_cons_succ])
            refine wpAnyH_take (i := 3) (v := .slice A2 n2 c2) rfl (by kernel_rfl) (by kernel_rfl) (by kernel_rfl) (fun _ _ _ h => h) (Or.inl ⟨by rfl, (by intro w hSw; (try dsimp only at hSw); go_simp <;> with_reducible rfl)⟩) (by assumption) ?_
            (try simp only [Act.put, List.getElem_toArray, List.getElem_cons_succ, List.getElem_cons_zero, List.setIfInBounds_toArray, List.set_cons_zero, List.set_cons_succ])
            refine wpAnyH_take (i := 4) (v := .func (Fn.func 28) #[] #[.pointer (some ⟨w1.heap.size + 1, 0, none⟩)]) rfl (by kernel_rfl) (by kernel_rfl) (by kernel_rfl) (fun _ _ _ h => h) (Or.inl ⟨by rfl, (by intro w hSw; (try dsimp only at hSw); go_simp <;> with_reducible rfl)⟩) (by assumption) ?_
            (try simp only [Act.put, List.getElem_toArray, List.getElem_cons_succ, List.getElem_cons_zero, List.setIfInBounds_toArray, List.set_cons_zero, List.set_cons_succ])
            refine wpAnyH_ready (rs := [5]) (by kernel_rfl) (by simp) ?_
            refine AllReadyH.cons rfl (fun K hK => ?_) AllReadyH.nil
            rw [if_pos (by rfl)]
            (try simp only [Act.put, List.getElem_toArray, List.getElem_cons_succ, List.getElem_cons_zero, List.setIfInBounds_toArray, List.set_cons_zero, List.set_cons_succ])
            go_simp
            go_at_call 27
            refine (HCF.out).mono ?_
            rintro e' w3 ⟨rfl, hb3⟩
            obtain ⟨z0, z1⟩ := HZU.out _ hb3
            refine hK.out _ _ ⟨keep0 hb3 _ _ _ HS0.out.1, keep0 hb3 _ _ _ HS0.out.2.1, keep0 hb3 _ _ _ HS0.out.2.2⟩ (fun hH5 => ?_)
            clear hK K
            (try simp only [Act.put, List.getElem_toArray, List.getElem_cons_succ, List.getElem_cons_zero, List.setIfInBounds_toArray, List.set_cons_zero, List.set_cons_succ])
            refine wpAnyH_take (i := 6) (v := .bool true) rfl (by kernel_rfl) (by kernel_rfl) (by kernel_rfl) (fun _ _ _ h => h) (Or.inl ⟨by rfl, (by intro w hSw; (try dsimp only at hSw); go_simp <;> with_reducible rfl)⟩) (by assumption) ?_
            (try simp only [Act.put, List.getElem_toArray, List.getElem_cons_succ, List.getElem_cons_zero, List.setIfInBounds_toArray, List.set_cons_zero, List.set_cons_succ])
            refine wpAnyH_take (i := 7) (v := undef) rfl (by kernel_rfl) (by kernel_rfl) (by kernel_rfl) (fun _ _ _ h => h) (Or.inr ⟨by rfl, rfl⟩) (by assumption) ?_
            (try simp only [Act.put, List.getElem_toArray, List.getElem_cons_succ, List.getElem_cons_zero, List.setIfInBounds_toArray, List.set_cons_zero, List.set_cons_succ])
            refine wpAnyH_take (i := 8) (v := undef) rfl (by kernel_rfl) (by kernel_rfl) (by kernel_rfl) (fun _ _ _ h => h) (Or.inr ⟨by rfl, rfl⟩) (by assumption) ?_
            (try simp only [Act.put, List.getElem_toArray, List.getElem_cons_succ, List.getElem_cons_zero, List.setIfInBounds_toArray, List.set_cons_zero, List.set_cons_succ])
            refine wpAnyH_take (i := 9) (v := undef) rfl (by kernel_rfl) (by kernel_rfl) (by kernel_rfl) (fun _ _ _ h => h) (Or.inr ⟨by rfl, rfl⟩) (by assumption) ?_
            (try simp only [Act.put, List.getElem_toArray, List.getElem_cons_succ, List.getElem_cons_zero, List.setIfInBounds_toArray, List.set_cons_zero, List.set_cons_succ])
            refine wpAnyH_take (i := 10) (v := undef) rfl (by kernel_rfl) (by kernel_rfl) (by kernel_rfl) (fun _ _ _ h => h) (Or.inr ⟨by rfl, rfl⟩) (by assumption) ?_
            (try simp only [Act.put, List.getElem_toArray, List.getElem_cons_succ, List.getElem_cons_zero, List.setIfInBounds_toArray, List.set_cons_zero, List.set_cons_succ])
            refine wpAnyH_take (i := 11) (v := .bool true) rfl (by kernel_rfl) (by kernel_rfl) (by kernel_rfl) (fun _ _ _ h => h) (Or.inl ⟨by rfl, (by intro w hSw; (try dsimp only at hSw); go_simp <;> with_reducible rfl)⟩) (by assumption) ?_
            (try simp only [Act.put, List.getElem_toArray, List.getElem_cons_succ, List.getElem_cons_zero, List.setIfInBounds_toArray, List.set_cons_zero, List.set_cons_succ])
            refine wpAnyH_take (i := 12) (v := .pointer (some ⟨u, k, none⟩)) rfl (by kernel_rfl) (by kernel_rfl) (by kernel_rfl) (fun _ _ _ h => h) (Or.inl ⟨by rfl, (by intro w hSw; (try dsimp only at hSw); go_simp <;> with_reducible rfl)⟩) (by assumption) ?_
            (try simp only [Act.put, List.getElem_toArray, List.getElem_cons_succ, List.getElem_cons_zero, List.setIfInBounds_toArray, List.set_cons_zero, List.set_cons_succ])
            refine wpAnyH_ready (rs := [13]) (by kernel_rfl) (by simp) ?_
            refine AllReadyH.cons rfl (fun K hK => ?_) AllReadyH.nil
            rw [if_pos (by rfl)]
            (try simp only [Act.put, List.getElem_toArray, List.getElem_cons_succ, List.getElem_cons_zero, List.setIfInBounds_toArray, List.set_cons_zero, List.set_cons_succ])
            go_simp
            refine hK.out _ _ ⟨(World.cell?_setCell_far _ _ _ _ (show u ≠ u + 1 by omega)).trans (keep0 hb3 _ _ _ HS0.out.1), (World.cell?_setCell_far _ _ _ _ (show u ≠ wr.heap.size by have := HSZ.out; omega)).trans (keep0 hb3 _ _ _ HS0.out.2.1), (World.cell?_setCell_far _ _ _ _ (show u ≠ wr.heap.size by have := HSZ.out; omega)).trans (keep0 hb3 _ _ _ HS0.out.2.2)⟩ (fun hH13 => ?_)
            clear hK K
            (try simp only [Act.put, List.getElem_toArray, List.getElem_cons_succ, List.getElem_cons_zero, List.setIfInBounds_toArray, List.set_cons_zero, List.set_cons_succ])
            refine wpAnyH_done (by kernel_rfl) ?_ _
            all_goals
              have HB4 := Lib.hid (Gen.b_set (p := ⟨u, k, none⟩) (u := .bool true) (Gen.over hb3 HB0.out) (show w1.heap.size ≤ u by omega))
              have ru := (HU0.out.keep hb3).set k (.bool true)
              rw [bcs_set] at ru
              have e0 : (w3.setCell ⟨u, k, none⟩ (.bool true)).cell? ⟨u, k, none⟩ = some (.bool true) := ru.booAt (by rw [List.getElem?_set_self (by rw [bs_len (by rw [HN.out]; omega), HN.out]; exact hlt)])
              have hbs := bs_set (facts := facts) HX.out
              rw [HV.out] at hbs
              rw [hbs] at ru
              have HU4 := Lib.hid ru
              have rv := Row.far (i := k) (HV0.out.keep hb3) (show u + 1 ≠ u by omega) (.bool true)
              have e1 := rv.cell 0
              have HV4 := Lib.hid rv
              have HM4 := Lib.hid ((HM0.out.keep hb3).at (Below.heap_setCell w3 ⟨u, k, none⟩ (.bool true) w1.heap.size (by show w1.heap.size ≠ u; omega)))
              have HR4 := Lib.hid (Row.far (i := k) (HR0.out.keep hb3) (show w1.heap.size + 1 ≠ u by omega) (.bool true))
              have HO4 := Lib.hid (ownsRow_setCell_below (a := ⟨u, k, none⟩) (Gen.own_keep HO0.out hb3) (show u < u + 2 by omega) (.bool true))
              have HS4 := Lib.hid (show u + 2 ≤ (w3.setCell ⟨u, k, none⟩ (.bool true)).heap.size by have h1 := hb3.size; have h2 := HSW.out; simp only [World.size_setCell]; omega)
              have HCH := Lib.hid (ch_next (facts := facts) HX.out)
              clear ru rv hbs hb3
              have N1 := Lib.hid (show m + 1 ≤ maxLen by simp only [maxLen]; omega)
              have N2 := Lib.hid (show (m + 1) * 8 ≤ 140737488355328 by omega)
              go_wp2_with (first
                | (at_builtin
                   go_must (refine App.wpList_append_any _ rfl (.tmp 52) (.tmp 54) _ rfl (u + 2) 3 iI _ 1 8 Try.underlying23 hiI hzI hyI hxI rfl (by omega) (.slice Ao m co) m (ils (ch facts l k)) rfl (Gen.own_keep HO4.out (Gen.b_alloc (Below.refl _ _))) _ _ 1 1 [.int .i64 (k : Int)] rfl (Gen.reads_blk (by simp) rfl) (by simp [Value.oneCell']) N1.out N2.out (by have := HS4.out; simp at this ⊢; omega) ?_
                            intro v7 w7 ho7 hg7 ha7
                            have hx7 : Below (w3.setCell ⟨u, k, none⟩ (.bool true)).heap.size (w3.setCell ⟨u, k, none⟩ (.bool true)) ((w3.setCell ⟨u, k, none⟩ (.bool true)).alloc (.cells #[.int .i64 (k : Int)] 3)) := Gen.b_alloc (Below.refl _ _)
                            have HO5 := Gen.own_keep HO4.out hx7
                            have HU7 := Lib.hid (Gen.g_row HO5 hg7 (by omega) (HU4.out.keep hx7))
                            have HV7 := Lib.hid (Gen.g_row HO5 hg7 (by omega) (HV4.out.keep hx7))
                            have HR7 := Lib.hid (Gen.g_row HO5 hg7 (by omega) (HR4.out.keep hx7))
                            have hm7 := HM4.out.keep hx7
                            have HM7 := Lib.hid (hm7.at (hg7.block _ hm7.lt (fun e => by have := (HO5.lt _ e.symm).1; omega)))
                            have HB7 := Lib.hid (Gen.g_below (w := w1) HO5 hg7 (Gen.over hx7 HB4.out) (by omega))
                            obtain ⟨A7, c7, rfl, _⟩ := Gen.own_slice ho7
                            have HO7 := Lib.hid (show w7.ownsRow (u + 2) 3 1 (.slice A7 (m + 1) c7) (m + 1) (ils (ch facts l (k + 1))) by rw [HCH.out, HV.out, if_pos rfl, ils_snoc]; exact ho7)
                            clear ho7 hg7 ha7 hx7 hm7 HO5))
                | fail)
              go_roundw
              case rel => exact ⟨k + 1, m + 1, A7, c7, by omega, by go_num, rfl, by omega, HO7, HV7, HU7, HM7, HR7, HB7⟩
              case measure => simp [intOf]; omega
        · obtain rfl : k = n := by omega
          have HE := Lib.hid (show wr.ownsRow w.heap.size 3 1 (.slice Ao m co) m (ils (chg facts l)) by rw [chg_yes HRG.out, HN.out]; exact own_low HO.out (by have := HB1.out.size; omega))
          have HBE := Lib.hid (Gen.over HB.out HB1.out)
          clear HO hlt
          go_wp2
          go_ret
          exact ⟨_, m, rfl, HBE.out, HE.out⟩
end Go.Proofs.Ytohbdffmidbjhaa.Re
