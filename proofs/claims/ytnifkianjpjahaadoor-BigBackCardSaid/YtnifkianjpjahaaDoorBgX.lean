/- Big integers: division by one digit; div. -/
import Derived.Test.YtnifkianjpjahaaDoorBgW
namespace Go.Proofs.YtnifkianjpjahaaDoor.Bg
open Go.ChangeShapes Go.WideShapes Go.ChangeAt Go.RowKit Go.Proofs.YtnifkianjpjahaaDoor.Cell
set_option linter.unusedVariables false
set_option linter.unusedSimpArgs false

/-- division by one digit, from the last digit on -/
structure Dd (a Q : List Int) (d : Int) (k : Nat) (r : Int) : Prop where
  dQ : Dg Q
  len : Q.length = a.length
  rng : 0 ≤ r ∧ r < d
  eq : val (a.drop k) = d * val (Q.drop k) + r
theorem Dd.start (a : List Int) {d : Int} (hd : 1 ≤ d) : Dd a (List.replicate a.length 0) d a.length 0 :=
  ⟨fun x hx => by have := List.eq_of_mem_replicate hx; omega, List.length_replicate, by omega, by rw [List.drop_of_length_le (Nat.le_refl _), List.drop_of_length_le (by rw [List.length_replicate]; exact Nat.le_refl _), val_nil]; simp⟩
theorem Dd.step {a Q : List Int} {d r x : Int} {k : Nat} (h : Dd a Q d (k + 1) r) (da : Dg a) (hx : a[k]? = some x) : Dd a (Q.set k ((r * 1048576 + x) / d)) d k ((r * 1048576 + x) % d) := by
  have h1 := da.at_ hx
  have h2 := h.rng
  have hk := lt_of_at hx
  have h3 : 0 ≤ (r * 1048576 + x) / d := Int.ediv_nonneg (by omega) (by omega)
  have h4 : (r * 1048576 + x) / d < 1048576 := Int.ediv_lt_of_lt_mul (by omega) (by omega)
  refine ⟨fun y hy => ?_, by rw [List.length_set]; exact h.len, ⟨Int.emod_nonneg _ (by omega), Int.emod_lt_of_pos _ (by omega)⟩, ?_⟩
  · rcases List.mem_or_eq_of_mem_set hy with hy | rfl
    · exact h.dQ y hy
    · omega
  · have e1 : val (a.drop k) = x + 1048576 * val (a.drop (k + 1)) := val_drop hx
    have e2 : val ((Q.set k ((r * 1048576 + x) / d)).drop k) = (r * 1048576 + x) / d + 1048576 * val (Q.drop (k + 1)) := by
      rw [val_drop (List.getElem?_set_self (by rw [h.len]; exact hk)), List.drop_set, if_pos (by omega)]
    have e3 := Int.mul_ediv_add_emod (r * 1048576 + x) d
    rw [e1, e2, h.eq]
    obtain ⟨q, hq⟩ : ∃ q, (r * 1048576 + x) / d = q := ⟨_, rfl⟩
    obtain ⟨m, hm⟩ : ∃ m, (r * 1048576 + x) % d = m := ⟨_, rfl⟩
    rw [hq, hm] at e3
    rw [hq, hm]
    have h5 : x = d * q + m - r * 1048576 := by omega
    rw [h5]
    grind
theorem Dd.done {a Q : List Int} {d r : Int} (h : Dd a Q d 0 r) : val Q = val a / d ∧ r = val a % d := by
  have h1 := h.eq
  rw [List.drop_zero, List.drop_zero] at h1
  have h2 := (Int.ediv_emod_unique (a := val a) (b := d) (r := r) (q := val Q) (by have := h.rng; omega)).2 ⟨by omega, h.rng.1, h.rng.2⟩
  exact ⟨h2.1.symm, h2.2.symm⟩
set_option maxRecDepth 100000 in
set_option maxHeartbeats 8000000 in
theorem divDigit_any {A : Option Addr} {n c : Nat} {a : List Int} {d : Int} (w : World) (hn : a.length = n) (ha : Ints w A a) (da : Dg a) (hd : 1 ≤ d ∧ d < 1048576) (hbig : n ≤ 1000) :
    Calls Tryd.prog 47 #[.slice A n c, .int .i64 d] w fun e w' => ∃ A1 c1 lq A2 c2 lr, e = .returned (.tuple #[.slice A1 (List.length lq) c1, .slice A2 (List.length lr) c2]) ∧ Ints w' A1 lq ∧ Ints w' A2 lr ∧ Nm lq (val a / d) ∧ Nm lr (val a % d) ∧ Below w.heap.size w w' := by
  have HN := Lib.hid hn
  have HDA := Lib.hid da
  obtain ⟨iI, hiI, hzI, hyI, hxI⟩ := info_parts infoI
  have hmk : ∀ W : World, (Instr.makeSlice 22 (.int .i64 n) (.int .i64 n)).run Tryd.prog W = .ok (.slice (some ⟨W.heap.size, 0, none⟩) n n) (W.alloc (.cells (ics (List.replicate n 0)) 3)) := fun W => by
    have hr := run_make (P := Tryd.prog) W 22 3 iI (.int .i64 0) Tryd.underlying22 hiI hzI .i64 .i64 n n (by omega) (Int.le_refl _) (by rw [hxI]; omega) (by omega)
    rw [hyI, Int.toNat_natCast, made_ints] at hr
    exact hr
  have hkm := wrap_km n (by omega)
  have hkd : (n : Int) - 1 = km n := rfl
  have HD0 : Hid (Dd a (List.replicate n 0) d n 0) := Lib.hid (by rw [← hn]; exact Dd.start a hd.1)
  have HR0 : Hid (Row (w.alloc (.cells (ics (List.replicate n 0)) 3)) w.heap.size 3 (ics (List.replicate n 0))) := Lib.hid (Row.new _ _ _)
  have HB0 : Hid (Below w.heap.size w (w.alloc (.cells (ics (List.replicate n 0)) 3))) := Lib.hid (Gen.b_alloc (Below.refl _ _))
  clear hn da hiI hzI hyI hxI
  go_enter Tryd.func47, Tryd.ntmps47
  go_wp2
  clear hmk hkm hkd
  go_loopw [7, 8] (fun rv iv wr => ∃ (k : Nat) (Q : List Int) (r : Int), k ≤ n ∧ iv = .int .i64 (km k) ∧ rv = .int .i64 r ∧ Hid (Row wr w.heap.size 3 (ics Q)) ∧ Hid (Dd a Q d k r) ∧ Hid (Below w.heap.size w wr)) (fun _ iv _ => (intOf iv + 1).toNat)
  case atStart => exact ⟨n, _, 0, Nat.le_refl _, rfl, rfl, HR0, HD0, HB0⟩
  case round =>
    clear HR0 HD0 HB0
    obtain ⟨k, Q, r, hk, rfl, rfl, HR, HD, HB⟩ := hrel
    have hg := HR.out.lt
    have hrr := HD.out.rng
    cases k with
    | zero =>
      rw [km_zero]
      have HE := Lib.hid HD.out.done
      have HQL : Hid (Q.length = n) := Lib.hid (by rw [HD.out.len, HN.out])
      have HQD := Lib.hid HD.out.dQ
      have HQI := Lib.hid HR.out.ints
      have HRD : Hid (Dg [r]) := Lib.hid fun x hx => by
        obtain rfl := List.mem_singleton.1 hx
        omega
      clear HR HD
      go_wp2_with (fail)
      go_must (refine (trim_any _ n n Q _ HQL.out HQI.out (Nat.le_refl _) (by omega)).mono ?_)
      rintro e w1 ⟨k1, hk1, rfl, hT1, hv1, rfl⟩
      have HT1 := Lib.hid hT1
      have HV1 := Lib.hid hv1
      have hI1 : Ints (w1.alloc (.cells #[.int .i64 r] 3)) (some ⟨w1.heap.size, 0, none⟩) [r] := (show Row _ _ 3 (ics [r]) from Row.new _ _ _).ints
      have HI1 := Lib.hid hI1
      clear hT1 hv1 hI1
      go_wp2_with (fail)
      go_must (refine (trim_any _ 1 1 [r] _ rfl HI1.out (Nat.le_refl _) (by omega)).mono ?_)
      rintro e w2 ⟨k2, hk2, rfl, hT2, hv2, rfl⟩
      have HT2 := Lib.hid hT2
      have HV2 := Lib.hid hv2
      clear hT2 hv2
      go_wp2
      refine bodyPost_ret (v := .tuple #[.slice (some ⟨w.heap.size, 0, none⟩) k1 n, .slice (some ⟨w1.heap.size, 0, none⟩) k2 1]) ?_ rfl ⟨some ⟨w.heap.size, 0, none⟩, n, Q.take k1, some ⟨w1.heap.size, 0, none⟩, 1, [r].take k2, ?_, ints_take (HQI.out.keep (Gen.b_alloc (Below.refl _ _))) k1, ints_take HI1.out k2, ⟨HQD.out.take k1, HT1.out, HV1.out.trans HE.out.1⟩, ⟨HRD.out.take k2, HT2.out, HV2.out.trans ?_⟩, Gen.b_alloc HB.out⟩
      · simp [results, Tryd.results47, go_sem]
      · rw [List.length_take, List.length_take, HQL.out, Nat.min_eq_left hk1, List.length_singleton, Nat.min_eq_left hk2]
      · rw [← HE.out.2, val_cons, val_nil]; omega
    | succ j =>
      rw [km_succ]
      obtain ⟨bl, ol, rfl, hcell⟩ := (ha.keep HB.out) (by rw [HN.out]; omega)
      obtain ⟨x, hx⟩ := at_ a j (by rw [HN.out]; omega)
      have c0 := hcell j x hx
      obtain ⟨y, hy⟩ := at_ Q j (by rw [HD.out.len, HN.out]; omega)
      have l1 : wr.cell? ⟨w.heap.size, j, none⟩ = some (.int .i64 y) := HR.out.intAt hy
      have hf := HR.out.frozen j
      have hxd := HDA.out.at_ hx
      have j0 : (0 : Int) ≤ (j : Int) := by omega
      have jl : (j : Int) < (n : Int) := by omega
      have hw1 : IntKind.i64.wrap (r * 1048576) = r * 1048576 := IntWalk.i64_in _ (by omega)
      have hor := or_join r x (by omega) hxd
      have hst := HD.out.step HDA.out hx
      obtain ⟨t, ht⟩ : ∃ t, r * 1048576 + x = t := ⟨_, rfl⟩
      rw [ht] at hor hst
      have ht0 : 0 ≤ t ∧ t < 1099511627776 := by omega
      have hw2 : IntKind.i64.wrap (j : Int) = (j : Int) := IntWalk.i64_in _ (by omega)
      have HST := Lib.hid hst
      have HR2 : Hid (Row (wr.setCell ⟨w.heap.size, j, none⟩ (.int .i64 (t / d))) w.heap.size 3 (ics (Q.set j (t / d)))) := Lib.hid (by rw [← ics_set]; exact HR.out.set _ _)
      have HB2 : Hid (Below w.heap.size w (wr.setCell ⟨w.heap.size, j, none⟩ (.int .i64 (t / d)))) := Lib.hid (Gen.b_set HB.out (Nat.le_refl _))
      have hmod : t.tmod d = t % d := IntWalk.rem_in _ _ ht0.1
      have hquo := IntWalk.i64_quo t d (by omega)
      have hd0 : (d == 0) = false := by simp; omega
      clear hcell hx hy hst ht
      go_wp2
      go_region
      all_goals
        go_wp2
        go_roundw
        case rel => exact ⟨j, _, _, by omega, rfl, rfl, HR2, HST, Lib.hid HB2.out.drew⟩
        case measure => simp [intOf, km]
theorem field_dig (W : World) (s : Int) (A : Option Addr) (n c : Nat) : (Instr.field 24 (bigV s A n c) 1).run Tryd.prog W = .ok (.slice A n c) W := by kernel_rfl
section
variable {A A' : Option Addr} {n n' c c' : Nat} {a b : List Int}
def DivP (w : World) (a b : List Int) (e : Ending) (w' : World) : Prop := ∃ A1 c1 lq A2 c2 lr, e = .returned (.tuple #[.slice A1 (List.length lq) c1, .slice A2 (List.length lr) c2]) ∧ Ints w' A1 lq ∧ Ints w' A2 lr ∧ Nm lq (val a / val b) ∧ Nm lr (val a % val b) ∧ Below w.heap.size w w'
set_option maxRecDepth 100000 in
set_option maxHeartbeats 8000000 in
theorem div_a (w : World) (hn : a.length = n) (hn' : b.length = n') (ha : Ints w A a) (hb : Ints w A' b) (da : Dg a) (db : Dg b) (ta : Tr a) (tb : Tr b) (hbig : n ≤ 100) (hbig' : n' ≤ 100) (hlt : val a < val b) :
    Calls Tryd.prog 32 #[.slice A n c, .slice A' n' c'] w (DivP w a b) := by
  have HC := Lib.hid (cmpI_lt hlt)
  have HQ : Hid (val a / val b = 0 ∧ val a % val b = val a) := Lib.hid ⟨Int.ediv_eq_zero_of_lt (val_nonneg da) hlt, Int.emod_eq_of_lt (val_nonneg da) hlt⟩
  have HNA : Hid (Nm a (val a)) := Lib.hid ⟨da, ta, rfl⟩
  have HN := Lib.hid hn
  clear hlt hn
  go_enter Tryd.func32, Tryd.ntmps32
  go_wp2_with (fail)
  go_must (refine (compare_any _ HN.out hn' ha hb da db ta tb (by omega) (by omega)).mono ?_)
  rintro e w1 ⟨rfl, q, rfl⟩
  rw [HC.out]
  go_wp2_with (fail)
  go_must (refine (clone_any _ HN.out (ha.keep (Gen.dN (Below.refl _ _) q)) (by omega)).mono ?_)
  rintro e w2 ⟨A2, c2, rfl, hI2, hb2⟩
  have HI := Lib.hid hI2
  have HB := Lib.hid (Gen.over hb2 (Gen.dN (Below.refl _ _) q))
  clear ha hb hI2 hb2
  go_wp2
  refine bodyPost_ret (v := .tuple #[.slice none 0 0, .slice A2 n c2]) ?_ rfl ⟨none, 0, [], A2, c2, a, ?_, fun h => by simp at h, HI.out, by rw [HQ.out.1]; exact Nm.zero, by rw [HQ.out.2]; exact HNA.out, HB.out⟩
  · simp [results, Tryd.results32, go_sem]
  · rw [HN.out]; rfl
set_option maxRecDepth 100000 in
set_option maxHeartbeats 8000000 in
theorem div_b (w : World) (hn : a.length = n) (hn' : b.length = n') (ha : Ints w A a) (hb : Ints w A' b) (da : Dg a) (db : Dg b) (ta : Tr a) (tb : Tr b) (hbig : n ≤ 100) (hbig' : n' ≤ 100) (hle : val b ≤ val a) (hb0 : 0 < val b) (hm : val a < 18446744073709551616) :
    Calls Tryd.prog 32 #[.slice A n c, .slice A' n' c'] w (DivP w a b) := by
  obtain ⟨cm, hcm, hcm0⟩ : ∃ k, cmpI (val a) (val b) = k ∧ ¬ (k < 0) := ⟨_, rfl, by unfold cmpI; rw [if_neg (by omega)]; split <;> omega⟩
  have HC := Lib.hid hcm
  obtain ⟨u, hu⟩ : ∃ u, val a = u := ⟨_, rfl⟩
  obtain ⟨v, hv⟩ : ∃ v, val b = v := ⟨_, rfl⟩
  have HU := Lib.hid hu
  have HV := Lib.hid hv
  have hu0 : 0 ≤ u := by rw [← hu]; exact val_nonneg da
  rw [hu] at hle hm
  rw [hv] at hle hb0
  have q0 : 0 ≤ u / v := Int.ediv_nonneg hu0 (by omega)
  have q1 : u / v ≤ u := Int.ediv_le_self _ hu0
  have m0 : 0 ≤ u % v := Int.emod_nonneg _ (by omega)
  have m1 : u % v < v := Int.emod_lt_of_pos _ hb0
  have hv0 : (v == 0) = false := by simp; omega
  have hvn : ¬ (v = 0) := by omega
  have hquo := IntWalk.u64_quo u v (by omega)
  have hmod : u.tmod v = u % v := IntWalk.rem_in _ _ hu0
  have hmodw : IntKind.u64.wrap (u % v) = u % v := IntWalk.u64_in _ (by omega)
  have HSQ : Hid (u / v ≠ 0 → (1 : Int) = sg (u / v)) := Lib.hid fun _ => (sg_pos (by omega)).symm
  have HSM : Hid (u % v ≠ 0 → (1 : Int) = sg (u % v)) := Lib.hid fun _ => (sg_pos (by omega)).symm
  clear hcm hu hv
  go_enter Tryd.func32, Tryd.ntmps32
  go_wp2_with (fail)
  go_must (refine (compare_any _ hn hn' ha hb da db ta tb (by omega) (by omega)).mono ?_)
  rintro e w1 ⟨rfl, q, rfl⟩
  rw [HC.out]
  go_wp2_with (fail)
  go_must (refine (mag_yes _ hn (ha.keep (Gen.dN (Below.refl _ _) q)) da ta (by rw [HU.out]; exact hm)).mono ?_)
  rintro e w2 ⟨rfl, rfl⟩
  rw [HU.out]
  go_wp2_with (fail)
  go_must (refine (mag_yes _ hn' (hb.keep (Gen.dN (Below.refl _ _) q)) db tb (by rw [HV.out]; omega)).mono ?_)
  rintro e w2 ⟨rfl, rfl⟩
  rw [HV.out]
  have HB0 := Lib.hid (Gen.dN (Below.refl w.heap.size w) q)
  have hfd := field_dig
  clear ha hb
  go_wp2_with (fail)
  go_region_held3 (fun W' : World => Below w.heap.size w W')
    (first | exact HB0.out.drew | exact Gen.over (by assumption) (by assumption))
    (first
      | (go_at_call 29; (with_reducible refine (ofMag_any (z := u / v) _ (by omega) (by omega) HSQ.out).mono ?_); rintro e' w' ⟨x1, rfl, hx1, hb1⟩; obtain ⟨A1, c1, l1, rfl, hI1, hN1, hL1⟩ := hx1.ex)
      | (go_at_call 29; (with_reducible refine (ofMag_any (z := u % v) _ (by omega) (by omega) HSM.out).mono ?_); rintro e' w' ⟨x2, rfl, hx2, hb2⟩; obtain ⟨A2, c2, l2, rfl, hI2, hN2, hL2⟩ := hx2.ex))
  all_goals
    go_wp2
    refine bodyPost_ret (v := .tuple #[.slice A1 l1.length c1, .slice A2 l2.length c2]) ?_ rfl ⟨A1, c1, l1, A2, c2, l2, rfl, by first | exact hI1 | exact hI1.keep hb2, by first | exact hI2 | exact hI2.keep hb1, hN1.to (by rw [HU.out, HV.out]; omega), hN2.to (by rw [HU.out, HV.out]; omega), by assumption⟩
    simp [results, Tryd.results32, go_sem]
end
end Go.Proofs.YtnifkianjpjahaaDoor.Bg
