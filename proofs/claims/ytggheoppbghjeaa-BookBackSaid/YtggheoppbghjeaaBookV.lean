/- The reference of book: the contracts of Level, Root, Held, Move. -/
import Derived.Test.YtggheoppbghjeaaBookM
namespace Go.Proofs.Ytggheoppbghjeaa.Book
open Go.ChangeShapes Go.WideShapes Go.ChangeAt Go.RowKit Go.Proofs.Ytggheoppbghjeaa.Cell
set_option linter.unusedVariables false
set_option linter.unusedSimpArgs false

set_option maxRecDepth 100000 in
set_option maxHeartbeats 4000000 in
theorem rlevel_any (A : Option Addr) (n cap : Nat) (ss : List (Int × Int)) (i : Int) (w : World) (hn : ss.length = n) (hc : Prs w A ss) (hbig : n ≤ 1000000) :
    Calls Try.prog 16 #[.slice A n cap, .int .i64 i] w fun e w' => e = .returned (.int .i64 (lvO ss i)) ∧ Below w.heap.size w w' := by
  have HN := Lib.hid hn
  clear hn
  cases hi : isS ss i
  · have HF := Lib.hid (show lvO ss i = -1 from by unfold lvO; rw [hi]; rfl)
    go_enter Try.func16, Try.ntmps16
    go_wp2_with (fail)
    go_must (refine (is_is _ HN.out hc hbig hi).mono ?_)
    rintro e w1 ⟨rfl, hb⟩
    go_wp2
    go_ret
    exact ⟨ret_int HF.out.symm, hb⟩
  · obtain ⟨⟨h0, h1⟩, h2, h3⟩ := isS_in hi
    obtain ⟨c, rfl⟩ := Int.eq_ofNat_of_zero_le h0
    rw [HN.out] at h1 h2
    obtain ⟨y, hy⟩ := at_ (acc lv0 ss) c (by rw [acc_length, HN.out]; omega)
    have HF := Lib.hid (show lvO ss c = y from by
      unfold lvO
      rw [hi, if_pos rfl, Int.toNat_natCast, List.getD_eq_getElem?_getD, hy]; rfl)
    have HO := Lib.hid (show pre ss from fun k s hs => ((okF_iff ss).1 h3 k s hs).1)
    have HI := Lib.hid hi
    have HY := Lib.hid hy
    clear hi h3 hy h0
    go_enter Try.func16, Try.ntmps16
    go_wp2_with (fail)
    go_must (refine (is_is _ HN.out hc hbig HI.out).mono ?_)
    rintro e w1 ⟨rfl, hb⟩
    replace hc := hc.keep hb
    go_wp2_with (fail)
    go_must (refine (above_any _ _ _ _ _ _ _ HN.out hc hbig HO.out HY.out).mono ?_)
    rintro e w2 ⟨rfl, hb2⟩
    have hB := Gen.over hb2 hb
    go_wp2
    go_ret
    exact ⟨ret_int HF.out.symm, hB⟩
theorem rlevel_is {A : Option Addr} {n cap : Nat} {ss : List (Int × Int)} {i x : Int} (w : World) (hn : ss.length = n) (hc : Prs w A ss) (hbig : n ≤ 1000000) (h : lvO ss i = x) : Calls Try.prog 16 #[.slice A n cap, .int .i64 i] w fun e w' => e = .returned (.int .i64 x) ∧ Below w.heap.size w w' := by
  have hh := rlevel_any A n cap ss i w hn hc hbig
  rw [h] at hh
  exact hh

set_option maxRecDepth 100000 in
set_option maxHeartbeats 4000000 in
theorem rroot_any (A : Option Addr) (n cap : Nat) (ss : List (Int × Int)) (i : Int) (w : World) (hn : ss.length = n) (hc : Prs w A ss) (hbig : n ≤ 1000000) :
    Calls Try.prog 18 #[.slice A n cap, .int .i64 i] w fun e w' => e = .returned (.int .i64 (rtO ss i)) ∧ Below w.heap.size w w' := by
  have HN := Lib.hid hn
  clear hn
  cases hi : isS ss i
  · have HF := Lib.hid (show rtO ss i = -1 from by unfold rtO; rw [hi]; rfl)
    go_enter Try.func18, Try.ntmps18
    go_wp2_with (fail)
    go_must (refine (is_is _ HN.out hc hbig hi).mono ?_)
    rintro e w1 ⟨rfl, hb⟩
    go_wp2
    go_ret
    exact ⟨ret_int HF.out.symm, hb⟩
  · obtain ⟨⟨h0, h1⟩, h2, h3⟩ := isS_in hi
    obtain ⟨c, rfl⟩ := Int.eq_ofNat_of_zero_le h0
    rw [HN.out] at h1 h2
    obtain ⟨y, hy⟩ := at_ (acc rt0 ss) c (by rw [acc_length, HN.out]; omega)
    have HF := Lib.hid (show rtO ss c = y from by
      unfold rtO
      rw [hi, if_pos rfl, Int.toNat_natCast, List.getD_eq_getElem?_getD, hy]; rfl)
    have HO := Lib.hid h3
    have HI := Lib.hid hi
    have HY := Lib.hid hy
    clear hi h3 hy h0
    go_enter Try.func18, Try.ntmps18
    go_wp2_with (fail)
    go_must (refine (is_is _ HN.out hc hbig HI.out).mono ?_)
    rintro e w1 ⟨rfl, hb⟩
    replace hc := hc.keep hb
    go_wp2_with (fail)
    go_loop [1] (fun cv => ∃ k : Nat, k < n ∧ cv = .int .i64 k ∧ (acc rt0 ss)[k]? = some y) (fun cv => (intOf cv).toNat)
    case atStart => exact ⟨c, by omega, rfl, HY.out⟩
    case round =>
      obtain ⟨k, hk, rfl, hx⟩ := hrel
      obtain ⟨b, off, rfl, hcell⟩ := hc (by rw [HN.out]; omega)
      obtain ⟨s, hs⟩ := at_ ss k (by rw [HN.out]; exact hk)
      obtain ⟨c0, c1⟩ := hcell k s hs
      by_cases hp : 0 ≤ s.1
      · obtain ⟨hpk, hz⟩ := root_up HO.out hs hx hp
        have HZ := Lib.hid hz
        clear hcell hs hx hz hc
        obtain ⟨p, o⟩ := s
        dsimp only at c0 c1 hp hpk HZ
        obtain ⟨q, rfl⟩ := Int.eq_ofNat_of_zero_le hp
        rw [Int.toNat_natCast] at hpk HZ
        go_wp2
        go_round
        case rel => exact ⟨q, by omega, rfl, HZ.out⟩
        case measure => simp [intOf]; omega
      · have hy := root_top hs hx (by omega)
        have HM := Lib.hid hy
        have hp' : s.1 < 0 := by omega
        clear hcell hs hx hy hp
        obtain ⟨p, o⟩ := s
        dsimp only at c0 c1 hp'
        go_wp2
        go_ret
        exact ⟨ret_int (by rw [HF.out, HM.out]), hb⟩
theorem rroot_is {A : Option Addr} {n cap : Nat} {ss : List (Int × Int)} {i x : Int} (w : World) (hn : ss.length = n) (hc : Prs w A ss) (hbig : n ≤ 1000000) (h : rtO ss i = x) : Calls Try.prog 18 #[.slice A n cap, .int .i64 i] w fun e w' => e = .returned (.int .i64 x) ∧ Below w.heap.size w w' := by
  have hh := rroot_any A n cap ss i w hn hc hbig
  rw [h] at hh
  exact hh

set_option maxRecDepth 100000 in
set_option maxHeartbeats 8000000 in
theorem rheld_any (A : Option Addr) (n cap : Nat) (ss : List (Int × Int)) (A' : Option Addr) (m cap' : Nat) (us : List Int) (i : Int) (w : World) (hn : ss.length = n) (hc : Prs w A ss) (hbig : n ≤ 1000000) (hm : us.length = m) (hc' : Ints w A' us) (hbig' : m ≤ 1000000) :
    Calls Try.prog 22 #[.slice A n cap, .slice A' m cap', .int .i64 i] w fun e w' => e = .returned (.int .i64 (hO ss us i)) ∧ Below w.heap.size w w' := by
  have HN := Lib.hid hn
  have HM := Lib.hid hm
  clear hn hm
  cases hv : vd ss us
  · have HF := Lib.hid (show hO ss us i = 0 from if_neg (by rw [hv]; simp))
    have HV := Lib.hid hv
    clear hv
    go_enter Try.func22, Try.ntmps22
    go_wp2_with (fail)
    go_must (refine (units_is _ HN.out hc hbig HM.out hc' hbig' HV.out).mono ?_)
    rintro e w1 ⟨rfl, hb⟩
    go_wp2
    go_ret
    exact ⟨ret_int HF.out.symm, hb⟩
  have HV := Lib.hid hv
  have hd := vd_in hv
  have HR := Lib.hid hd.1
  have hmn : m = n := by rw [← HM.out, ← HN.out]; exact hd.2.1
  subst hmn
  clear hv hd
  cases hi : isS ss i
  · have HF := Lib.hid (show hO ss us i = 0 from if_neg (fun h => by
      unfold isS at hi
      rw [HR.out, Bool.and_true] at hi
      exact of_decide_eq_false hi ⟨h.1, h.2.1⟩))
    have HI := Lib.hid hi
    clear hi
    go_enter Try.func22, Try.ntmps22
    go_wp2_with (fail)
    go_must (refine (units_is _ HN.out hc hbig HM.out hc' hbig' HV.out).mono ?_)
    rintro e w1 ⟨rfl, hb⟩
    go_wp2_with (fail)
    go_must (refine (is_is _ HN.out (hc.keep hb) hbig HI.out).mono ?_)
    rintro e w2 ⟨rfl, hb2⟩
    have hB := Gen.over hb2 hb
    go_wp2
    go_ret
    exact ⟨ret_int HF.out.symm, hB⟩
  obtain ⟨⟨h0, h1⟩, h2, h3⟩ := isS_in hi
  have HF := Lib.hid (show hO ss us i = yesR us (acc (bl0 i.toNat) ss) from if_pos ⟨h0, h1, HV.out⟩)
  obtain ⟨t, rfl⟩ := Int.eq_ofNat_of_zero_le h0
  rw [Int.toNat_natCast] at HF
  rw [HN.out] at h1 h2
  have ht : t < m := by omega
  have HI := Lib.hid hi
  have HP := Lib.hid (pre_of HR.out)
  clear hi h0 h1 h3
  go_enter Try.func22, Try.ntmps22
  go_wp2_with (fail)
  go_must (refine (units_is _ HN.out hc hbig HM.out hc' hbig' HV.out).mono ?_)
  rintro e w1 ⟨rfl, hb⟩
  go_wp2_with (fail)
  go_must (refine (is_is _ HN.out (hc.keep hb) hbig HI.out).mono ?_)
  rintro e w2 ⟨rfl, hb2⟩
  have hB := Gen.over hb2 hb
  replace hc := hc.keep hB
  replace hc' := hc'.keep hB
  clear hb hb2
  go_wp2_with (fail)
  go_loopw [7, 8] (fun sv iv wr => ∃ k : Nat, k ≤ m ∧ iv = .int .i64 k ∧ sv = .int .i64 (yesR (us.take k) ((acc (bl0 t) ss).take k)) ∧ Below w2.heap.size w2 wr) (fun _ iv _ => m - (intOf iv).toNat)
  case atStart => exact ⟨0, Nat.zero_le _, rfl, rfl, Below.refl _ _⟩
  case round =>
    obtain ⟨k, hk, rfl, rfl, hW⟩ := hrel
    have s01 := yesR_in (xs := us.take k) ((acc (bl0 t) ss).take k) fun u hu => vd_all HV.out u (List.mem_of_mem_take hu)
    have t01 := total_in (us := us.take k) fun u hu => vd_all HV.out u (List.mem_of_mem_take hu)
    have hl : ((us.take k).length : Int) ≤ 1000000 := by
      have := List.length_take_le k us
      omega
    have s0 := s01.1
    have s1 : yesR (us.take k) ((acc (bl0 t) ss).take k) ≤ 1000000000000000 := by omega
    clear s01 t01 hl
    by_cases hlt : k < m
    · have hcr := hc.keep hW
      obtain ⟨b', off', rfl, hcell'⟩ := (hc'.keep hW) (by rw [HM.out]; omega)
      obtain ⟨u, hu⟩ := at_ us k (by rw [HM.out]; exact hlt)
      have d0 := hcell' k u hu
      obtain ⟨u0, u1⟩ := vd_all HV.out u (mem_of_at hu)
      obtain ⟨y, hy⟩ := at_ (acc (bl0 t) ss) k (by rw [acc_length, HN.out]; exact hlt)
      have HS := Lib.hid (show yesR (us.take (k + 1)) ((acc (bl0 t) ss).take (k + 1)) = yesR (us.take k) ((acc (bl0 t) ss).take k) + if y = true then u else 0 from by
        rw [take_snoc hu, take_snoc hy, yesR_snoc u y (by rw [List.length_take, List.length_take, acc_length, HN.out, HM.out])])
      have HY := Lib.hid hy
      have k0 : (0 : Int) ≤ (k : Int) := by omega
      clear hcell' hu hy
      cases y
      · rw [if_neg (by simp)] at HS
        go_wp2_with (fail)
        go_must (refine (below_any _ _ _ _ _ _ _ _ HN.out hcr hbig HP.out HY.out ht).mono ?_)
        rintro e w3 ⟨rfl, hb3⟩
        have hW3 := Gen.over hb3 hW
        go_wp2
        go_roundw
        case rel => exact ⟨k + 1, by omega, by go_num, by rw [HS.out]; go_num, hW3⟩
        case measure => simp [intOf]; omega
      · rw [if_pos rfl] at HS
        go_wp2_with (fail)
        go_must (refine (below_any _ _ _ _ _ _ _ _ HN.out hcr hbig HP.out HY.out ht).mono ?_)
        rintro e w3 ⟨rfl, hb3⟩
        have hW3 := Gen.over hb3 hW
        have d1 := Gen.keep hb3 d0
        go_wp2
        go_roundw
        case rel => exact ⟨k + 1, by omega, by go_num, by rw [HS.out], hW3⟩
        case measure => simp [intOf]; omega
    · obtain rfl : m = k := by omega
      have HF2 := Lib.hid (show hO ss us t = yesR (us.take m) ((acc (bl0 t) ss).take m) from by
        rw [HF.out, List.take_of_length_le (by rw [HM.out]; exact Nat.le_refl _), List.take_of_length_le (by rw [acc_length, HN.out]; exact Nat.le_refl _)])
      have hWB := Gen.over hW hB
      go_wp2
      go_ret
      exact ⟨ret_int HF2.out.symm, hWB⟩
theorem rheld_is {A : Option Addr} {n cap : Nat} {ss : List (Int × Int)} {A' : Option Addr} {m cap' : Nat} {us : List Int} {i x : Int} (w : World) (hn : ss.length = n) (hc : Prs w A ss) (hbig : n ≤ 1000000) (hm : us.length = m) (hc' : Ints w A' us) (hbig' : m ≤ 1000000) (h : hO ss us i = x) :
    Calls Try.prog 22 #[.slice A n cap, .slice A' m cap', .int .i64 i] w fun e w' => e = .returned (.int .i64 x) ∧ Below w.heap.size w w' := by
  have hh := rheld_any A n cap ss A' m cap' us i w hn hc hbig hm hc' hbig'
  rw [h] at hh
  exact hh
end Go.Proofs.Ytggheoppbghjeaa.Book
