/- Package book: the contracts of Clone and Move; the reference's Ints; the example's seats. -/
import Derived.Test.YtpekedhcnijgcaaBookC
namespace Go.Proofs.Ytpekedhcnijgcaa.Book
open Go.ChangeShapes Go.WideShapes Go.ChangeAt Go.RowKit Go.Proofs.Ytpekedhcnijgcaa.Cell
set_option linter.unusedVariables false
set_option linter.unusedSimpArgs false

def ils (us : List Int) : List Value := us.map (Value.int .i64)
theorem ints_reads {w : World} {A : Option Addr} {us : List Int} {n : Nat} (hn : us.length = n) (h : Ints w A us) : App.Reads w w.heap.size 1 A n (ils us) :=
  ⟨by simp [ils, hn], fun h0 => by
    obtain ⟨b, off, e, hc⟩ := h (by omega)
    obtain ⟨z, hz⟩ := at_ us 0 (by omega)
    have hb : b < w.heap.size := World.block_lt_of_cell? w ⟨b, off + 0, none⟩ (hc 0 z hz)
    exact ⟨⟨b, off, none⟩, e, hb, fun j u hu => by
      rw [ils, List.getElem?_map] at hu
      cases hx : us[j]? with
      | none => rw [hx] at hu; simp at hu
      | some x =>
        rw [hx] at hu
        simp at hu
        subst hu
        rw [Addr.add_lit]
        exact hc j x hx⟩⟩
theorem ints_of_own {w : World} {base n c : Nat} {e : TypeId} {A : Option Addr} {us : List Int} (hn : us.length = n) (h : w.ownsRow base e 1 (.slice A n c) n (ils us)) : Ints w A us := fun h0 => by
  obtain ⟨g, cap, hv, _, hlt⟩ := h.form (by omega)
  have hA : A = some ⟨g, 0, none⟩ := by injection hv
  subst hA
  refine ⟨g, 0, rfl, fun j z hz => ?_⟩
  have := h.cells (g := g) rfl j (.int .i64 z) (by simp [ils, hz])
  rwa [Addr.add_lit] at this
theorem ils_one (us : List Int) : ∀ u ∈ ils us, u.oneCell' = true := by
  intro u hu
  simp only [ils, List.mem_map] at hu
  obtain ⟨x, _, rfl⟩ := hu
  rfl
def ClonePost (us : List Int) (n : Nat) (w : World) (e : Ending) (w' : World) : Prop := ∃ g c, e = .returned (.slice (some ⟨g, 0, none⟩) n c) ∧ w'.ownsRow w.heap.size 3 1 (.slice (some ⟨g, 0, none⟩) n c) n (ils us) ∧ Below w.heap.size w w'
set_option maxHeartbeats 2000000 in
theorem clone_any (b off n cap : Nat) (us : List Int) (w : World) (hm : us.length = n) (hc : Ints w (some ⟨b, off, none⟩) us) (hn : 1 ≤ n) (hbig : n ≤ 1000000) :
    Calls Try.prog 48 #[.slice (some ⟨b, off, none⟩) n cap] w (ClonePost us n w) := by
  have HM := Lib.hid hm
  clear hm
  obtain ⟨i0, hi0, hz0, hz1, hz2⟩ := info_parts info3
  have hq := fun (W : World) => Lib.run_eql_slice_nil (P := Try.prog) W 23 3 (some ⟨b, off, none⟩) n cap 0 0 Try.underlying23
  have r1 := ints_reads HM.out hc
  have hown : (w.alloc (.cells #[] 3)).ownsRow w.heap.size 3 1 (.slice (some ⟨w.heap.size, 0, none⟩) 0 0) 0 [] :=
    ⟨rfl, .inr ⟨w.heap.size, 0, #[], rfl, Nat.le_refl _, heap_alloc_new w _, Nat.le_refl _, by simp [maxLen], rfl, rfl⟩⟩
  go_enter Try.func48, Try.ntmps48
  go_wp2_with (first
    | (at_builtin
       go_must (refine App.wpList_append_any _ rfl (.tmp 5) (.tmp 6) _ rfl w.heap.size 3 i0 _ 1 8 Try.underlying23 hi0 hz0 hz1 hz2 rfl (by omega) _ 0 [] rfl hown w.heap.size _ n cap (ils us) rfl (r1.alloc (Nat.le_refl _) _) (ils_one us) (by simp only [maxLen]; omega) (by omega) (by simp) ?_)
       intro v2 w2 hown2 hg2 hat2
       have hB2 := Gen.g_below hown hg2 (Gen.b_alloc (Below.refl _ _)) (Nat.le_refl _)
       rw [List.nil_append, Nat.zero_add] at hown2
       obtain ⟨g, c, rfl, _, _⟩ := hown2.form (by omega)
       clear hg2 hat2)
    | fail)
  go_ret
  exact ⟨g, c, rfl, hown2, hB2⟩

def iEq (a b : List Int) : Bool := decide (a = b)
set_option maxHeartbeats 2000000 in
theorem ints_any (A : Option Addr) (n cap : Nat) (xs : List Int) (A' : Option Addr) (m cap' : Nat) (ys : List Int) (w : World) (hn : xs.length = n) (hc : Ints w A xs) (hbig : n ≤ 1000000)
    (hm : ys.length = m) (hc' : Ints w A' ys) (hbig' : m ≤ 1000000) :
    Calls Try.prog 19 #[.slice A n cap, .slice A' m cap'] w fun e w' => e = .returned (.bool (iEq xs ys)) ∧ Below w.heap.size w w' := by
  have HN := Lib.hid hn
  have HM := Lib.hid hm
  clear hn hm
  by_cases hnm : n = m
  · subst hnm
    go_enter Try.func19, Try.ntmps19
    go_wp2
    go_loopw [5] (fun i wr => ∃ k : Nat, k ≤ n ∧ i = .int .i64 k ∧ xs.take k = ys.take k ∧ ∃ nq, wr = w.drewN nq) (fun i _ => n - (intOf i).toNat)
    case atStart => exact ⟨0, Nat.zero_le _, rfl, by simp, 0, rfl⟩
    case round =>
      obtain ⟨k, hk, rfl, he, nq, rfl⟩ := hrel
      have HE := Lib.hid he
      clear he
      by_cases hlt : k < n
      · obtain ⟨b, off, rfl, hcell⟩ := hc (by rw [HN.out]; omega)
        obtain ⟨b', off', rfl, hcell'⟩ := hc' (by rw [HM.out]; omega)
        obtain ⟨x, hx⟩ := at_ xs k (by rw [HN.out]; exact hlt)
        obtain ⟨y, hy⟩ := at_ ys k (by rw [HM.out]; exact hlt)
        have c0 := hcell k x hx
        have c1 := hcell' k y hy
        have HX := Lib.hid hx
        have HY := Lib.hid hy
        have k0 : (0 : Int) ≤ (k : Int) := by omega
        have k1 : (k : Int) < (n : Int) := by omega
        clear hcell hcell' hx hy hc hc'
        by_cases hxy : x = y
        · subst hxy
          go_wp2
          go_quiet (fail)
          go_wp2
          go_roundw
          case rel => exact ⟨k + 1, by omega, by go_num, by rw [take_snoc HX.out, take_snoc HY.out, HE.out], _, rfl⟩
          case measure => simp [intOf]; omega
        · have HF := Lib.hid (show iEq xs ys = false from decide_eq_false (fun e => hxy (by
            have h1 := HX.out
            rw [e, HY.out] at h1
            exact (Option.some.inj h1).symm)))
          have hb : (x != y) = true := by simpa using hxy
          clear hxy
          go_wp2
          go_quiet (fail)
          go_wp2
          go_ret
          exact ⟨ret_bool HF.out.symm, Gen.dN (Gen.dN (Below.refl _ _) _) _⟩
      · obtain rfl : k = n := by omega
        have HF := Lib.hid (show iEq xs ys = true from decide_eq_true (by
          have h1 := HE.out
          have e1 : xs.take k = xs := by rw [← HN.out, List.take_length]
          have e2 : ys.take k = ys := by rw [← HM.out, List.take_length]
          rwa [e1, e2] at h1))
        go_wp2
        go_ret
        exact ⟨ret_bool HF.out.symm, Gen.dN (Below.refl _ _) _⟩
  · have HF := Lib.hid (show iEq xs ys = false from decide_eq_false (fun e => hnm (by rw [← HN.out, ← HM.out, e])))
    have hnb : ((n : Int) != (m : Int)) = true := by rw [bne_iff_ne]; omega
    go_enter Try.func19, Try.ntmps19
    go_wp2
    go_ret
    exact ⟨ret_bool HF.out.symm, Below.refl _ _⟩

/-- what Move returns -/
def mvE (ss : List (Int × Int)) (us : List Int) (f t n : Int) : Int :=
  if n < 1 ∨ vd ss us = false then 1 else if lf ss f = false ∨ lf ss t = false then 4 else if us.getD f.toNat 0 < n then 22 else 0
def mvL (us : List Int) (f t : Nat) (n : Int) : List Int := (us.set f (us.getD f 0 - n)).set t ((us.set f (us.getD f 0 - n)).getD t 0 + n)
def mvR (ss : List (Int × Int)) (us : List Int) (f t n : Int) : List Int := if mvE ss us f t n = 0 then mvL us f.toNat t.toNat n else []
def MovePost (ss : List (Int × Int)) (us : List Int) (f t n : Int) (w : World) (e : Ending) (w' : World) : Prop :=
  ∃ A c, e = .returned (.tuple #[.slice A (mvR ss us f t n).length c, .int .i64 (mvE ss us f t n)]) ∧ Below w.heap.size w w' ∧ Ints w' A (mvR ss us f t n)
theorem move_no {ss : List (Int × Int)} {us : List Int} {f t n x : Int} (h : mvE ss us f t n = x) (hx : x ≠ 0) {w w' : World} (hb : Below w.heap.size w w') : MovePost ss us f t n w (.returned (.tuple #[.slice none 0 0, .int .i64 x])) w' := by
  have e : mvR ss us f t n = [] := if_neg (by rw [h]; exact hx)
  exact ⟨none, 0, by rw [e, h]; rfl, hb, by rw [e]; exact fun h => absurd h (by simp)⟩
theorem lf_in {ss : List (Int × Int)} {i : Int} (h : lf ss i = true) : 0 ≤ i ∧ i < ss.length := by
  unfold lf at h
  rw [Bool.and_eq_true] at h
  exact of_decide_eq_true h.1

set_option maxRecDepth 100000 in
set_option maxHeartbeats 8000000 in
theorem move_any (A : Option Addr) (n cap : Nat) (ss : List (Int × Int)) (A' : Option Addr) (m cap' : Nat) (us : List Int) (f t x : Int) (w : World) (hn : ss.length = n) (hc : Prs w A ss) (hbig : n ≤ 1000000) (hm : us.length = m) (hc' : Ints w A' us) (hbig' : m ≤ 1000000) :
    Calls Try.prog 69 #[.slice A n cap, .slice A' m cap', .int .i64 f, .int .i64 t, .int .i64 x] w (MovePost ss us f t x w) := by
  have HN := Lib.hid hn
  have HM := Lib.hid hm
  clear hn hm
  by_cases hx : x < 1
  · have HE := Lib.hid (show mvE ss us f t x = 1 from if_pos (.inl hx))
    go_enter Try.func69, Try.ntmps69
    go_wp2
    go_ret2
    exact move_no HE.out (by omega) (by go_grown)
  have hx1 : 1 ≤ x := by omega
  cases hv : vd ss us
  · have HE := Lib.hid (show mvE ss us f t x = 1 from if_pos (.inr hv))
    go_enter Try.func69, Try.ntmps69
    go_wp2_with (fail)
    go_must (refine (valid_is _ HN.out hc hbig HM.out hc' (by omega) hv).mono ?_)
    rintro e w1 ⟨rfl, hb⟩
    go_wp2
    go_ret2
    exact move_no HE.out (by omega) hb
  have HV := Lib.hid hv
  clear hv
  cases hf : lf ss f
  · have HE := Lib.hid (show mvE ss us f t x = 4 from by unfold mvE; rw [if_neg (by rw [HV.out]; simp; omega), if_pos (.inl hf)])
    have HF := Lib.hid hf
    clear hf
    go_enter Try.func69, Try.ntmps69
    go_wp2_with (fail)
    go_must (refine (valid_is _ HN.out hc hbig HM.out hc' (by omega) HV.out).mono ?_)
    rintro e w1 ⟨rfl, hb⟩
    go_wp2_with (fail)
    go_must (refine (leaf_is _ HN.out (hc.keep hb) hbig HF.out).mono ?_)
    rintro e w2 ⟨rfl, hb2⟩
    have hB := Gen.over hb2 hb
    go_wp2
    go_ret2
    exact move_no HE.out (by omega) hB
  have HF := Lib.hid hf
  clear hf
  cases ht : lf ss t
  · have HE := Lib.hid (show mvE ss us f t x = 4 from by unfold mvE; rw [if_neg (by rw [HV.out]; simp; omega), if_pos (.inr ht)])
    have HT := Lib.hid ht
    clear ht
    go_enter Try.func69, Try.ntmps69
    go_wp2_with (fail)
    go_must (refine (valid_is _ HN.out hc hbig HM.out hc' (by omega) HV.out).mono ?_)
    rintro e w1 ⟨rfl, hb⟩
    go_wp2_with (fail)
    go_must (refine (leaf_is _ HN.out (hc.keep hb) hbig HF.out).mono ?_)
    rintro e w2 ⟨rfl, hb2⟩
    have hB := Gen.over hb2 hb
    go_wp2_with (fail)
    go_must (refine (leaf_is _ HN.out (hc.keep hB) hbig HT.out).mono ?_)
    rintro e w3 ⟨rfl, hb3⟩
    have hB3 := Gen.over hb3 hB
    go_wp2
    go_ret2
    exact move_no HE.out (by omega) hB3
  have HT := Lib.hid ht
  clear ht
  obtain ⟨f0, f1⟩ := lf_in HF.out
  obtain ⟨t0, t1⟩ := lf_in HT.out
  have hmn : m = n := by have := (vd_in HV.out).2.1; rw [HM.out, HN.out] at this; exact this
  subst hmn
  rw [HN.out] at f1 t1
  obtain ⟨f, rfl⟩ := Int.eq_ofNat_of_zero_le f0
  obtain ⟨t, rfl⟩ := Int.eq_ofNat_of_zero_le t0
  obtain ⟨u, hu⟩ := at_ us f (by rw [HM.out]; omega)
  obtain ⟨v, hv⟩ := at_ (us.set f (u - x)) t (by rw [List.length_set, HM.out]; omega)
  have hul := vd_all HV.out
  obtain ⟨u0, u1⟩ := hul u (mem_of_at hu)
  have hgd : us.getD f 0 = u := by rw [List.getD_eq_getElem?_getD, hu]; rfl
  by_cases hux : u < x
  · have HE := Lib.hid (show mvE ss us f t x = 22 from by
      unfold mvE
      rw [if_neg (by rw [HV.out]; simp; omega), if_neg (by rw [HF.out, HT.out]; simp), Int.toNat_natCast, hgd, if_pos hux])
    have HU := Lib.hid hu
    clear hu hv hgd hul
    go_enter Try.func69, Try.ntmps69
    go_wp2_with (fail)
    go_must (refine (valid_is _ HN.out hc hbig HM.out hc' (by omega) HV.out).mono ?_)
    rintro e w1 ⟨rfl, hb⟩
    go_wp2_with (fail)
    go_must (refine (leaf_is _ HN.out (hc.keep hb) hbig HF.out).mono ?_)
    rintro e w2 ⟨rfl, hb2⟩
    have hB := Gen.over hb2 hb
    go_wp2_with (fail)
    go_must (refine (leaf_is _ HN.out (hc.keep hB) hbig HT.out).mono ?_)
    rintro e w3 ⟨rfl, hb3⟩
    have hB3 := Gen.over hb3 hB
    obtain ⟨b, off, rfl, hcell⟩ := (hc'.keep hB3) (by rw [HM.out]; omega)
    have c0 := hcell f u HU.out
    clear hcell
    go_wp2
    go_ret2
    exact move_no HE.out (by omega) hB3
  · have hE : mvE ss us f t x = 0 := by
      unfold mvE
      rw [if_neg (by rw [HV.out]; simp; omega), if_neg (by rw [HF.out, HT.out]; simp), Int.toNat_natCast, hgd, if_neg hux]
    have hL : mvR ss us f t x = (us.set f (u - x)).set t (v + x) := by
      unfold mvR mvL
      rw [if_pos hE, Int.toNat_natCast, Int.toNat_natCast, hgd, List.getD_eq_getElem?_getD (l := us.set f (u - x)), hv]; rfl
    have HE := Lib.hid hE
    have HL := Lib.hid hL
    have HU := Lib.hid hu
    have HVV := Lib.hid hv
    have hxu : x ≤ u := by omega
    have hv01 : 0 ≤ v ∧ v ≤ 1000000000 := by
      by_cases e : f = t
      · subst e
        rw [List.getElem?_set_self (by rw [HM.out]; omega)] at hv
        have := Option.some.inj hv
        omega
      · rw [List.getElem?_set_ne e] at hv
        exact hul v (mem_of_at hv)
    obtain ⟨v0, v1⟩ := hv01
    clear hE hL hu hv hgd hul hux
    go_enter Try.func69, Try.ntmps69
    go_wp2_with (fail)
    go_must (refine (valid_is _ HN.out hc hbig HM.out hc' (by omega) HV.out).mono ?_)
    rintro e w1 ⟨rfl, hb⟩
    go_wp2_with (fail)
    go_must (refine (leaf_is _ HN.out (hc.keep hb) hbig HF.out).mono ?_)
    rintro e w2 ⟨rfl, hb2⟩
    have hB := Gen.over hb2 hb
    go_wp2_with (fail)
    go_must (refine (leaf_is _ HN.out (hc.keep hB) hbig HT.out).mono ?_)
    rintro e w3 ⟨rfl, hb3⟩
    have hB3 := Gen.over hb3 hB
    have hI3 := hc'.keep hB3
    obtain ⟨b, off, rfl, hcell⟩ := hI3 (by rw [HM.out]; omega)
    have c0 := hcell f u HU.out
    clear hcell hb hb2 hb3 hB
    go_wp2_with (fail)
    go_must (refine (clone_any b off m cap' us _ HM.out hI3 (by omega) hbig).mono ?_)
    rintro e w4 ⟨g, c, rfl, hown, hb4⟩
    have hB4 := Gen.over hb4 hB3
    have d0 : w4.cell? ⟨g, f, none⟩ = some (.int .i64 u) := (hown.cellAt f (by omega)).trans (by simp [ils, HU.out])
    have d1 := hown.frozenAt f
    have hst := (hown.stored f (.int .i64 (u - x))).1
    have hst2 : (w4.setCell ⟨g, f, none⟩ (.int .i64 (u - x))).ownsRow w3.heap.size 3 1 (.slice (some ⟨g, 0, none⟩) m c) m (ils (us.set f (u - x))) := by
      have e : (ils us).set f (.int .i64 (u - x)) = ils (us.set f (u - x)) := by simp [ils, List.map_set]
      rw [← e]; exact hst
    have e0 : (w4.setCell ⟨g, f, none⟩ (.int .i64 (u - x))).cell? ⟨g, t, none⟩ = some (.int .i64 v) := (hst2.cellAt t (by omega)).trans (by rw [ils, List.getElem?_map, HVV.out]; rfl)
    have e1 := hst2.frozenAt t
    have hst3 := (hst2.stored t (.int .i64 (v + x))).1
    have hst4 : ((w4.setCell ⟨g, f, none⟩ (.int .i64 (u - x))).setCell ⟨g, t, none⟩ (.int .i64 (v + x))).ownsRow w3.heap.size 3 1 (.slice (some ⟨g, 0, none⟩) m c) m (ils ((us.set f (u - x)).set t (v + x))) := by
      have e : (ils (us.set f (u - x))).set t (.int .i64 (v + x)) = ils ((us.set f (u - x)).set t (v + x)) := by simp [ils, List.map_set]
      rw [← e]; exact hst3
    have hlen : ((us.set f (u - x)).set t (v + x)).length = m := by simp [HM.out]
    have hg4 : w3.heap.size ≤ g := (hown.lt g rfl).1
    have hg5 : w.heap.size ≤ g := Nat.le_trans hB3.size hg4
    have HH := Lib.hid hst4
    have HLEN := Lib.hid hlen
    have f0' : (0 : Int) ≤ (f : Int) := by omega
    have t0' : (0 : Int) ≤ (t : Int) := by omega
    clear hst hst2 hst3 hst4 hown hlen hI3
    go_wp2
    go_ret2
    exact ⟨some ⟨g, 0, none⟩, c, by rw [HE.out, HL.out, HLEN.out]; rfl, (hB4.setCell hg5 _).setCell hg5 _, by rw [HL.out]; exact ints_of_own HLEN.out HH.out⟩

/-- the seats of the example -/
def fv : List (Int × Int) := [(-1, -1), (0, -1), (0, -1), (1, -1), (-1, -1)]
def pcs (p : Int × Int) : List Value := [.int .i64 p.1, .int .i64 p.2]
theorem Row.prs {w : World} {g t : Nat} {l : List (Int × Int)} (h : Row w g t (l.flatMap pcs).toArray) : Prs w (some ⟨g, 0, none⟩) l := fun _ => ⟨g, 0, rfl, fun j p hj => by
  have hl : ∀ x, (pcs x).length = 2 := fun _ => rfl
  have a0 := Gen.flat_at hl l j p hj 0 (by omega)
  have a1 := Gen.flat_at hl l j p hj 1 (by omega)
  exact ⟨by rw [Nat.zero_add, h.cell, List.getElem?_toArray]; exact a0, by rw [Nat.zero_add, h.cell, List.getElem?_toArray]; exact a1⟩⟩
end Go.Proofs.Ytpekedhcnijgcaa.Book
