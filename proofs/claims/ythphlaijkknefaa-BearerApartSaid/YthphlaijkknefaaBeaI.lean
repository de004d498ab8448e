/- Bearer pieces: Open, Few, the example. -/
import Derived.Test.YthphlaijkknefaaBeaH
import Derived.BigRegion
namespace Go.Proofs.Ythphlaijkknefaa.Bea
open Go.ChangeShapes Go.WideShapes Go.ChangeAt Go.RowKit Go.Proofs.Ythphlaijkknefaa.Cell
set_option linter.unusedVariables false
set_option linter.unusedSimpArgs false

/-- what is open of a piece -/
def opt (is c : Int) (x : Pc) : Int := if x.is = is ∧ 0 ≤ c ∧ x.pd[c.toNat]? = some false then x.un else 0
def opn (l : List Pc) (is c : Int) : Int := total (l.map (opt is c))
theorem opt_in {is c : Int} {x : Pc} (h : rgtP x = true) : 0 ≤ opt is c x ∧ opt is c x ≤ 1000000000 := by
  have := (of_decide_eq_true h).2.1
  unfold opt
  split <;> omega
theorem opn_snoc (l : List Pc) (x : Pc) (is c : Int) : total ((l ++ [x]).map (opt is c)) = total (l.map (opt is c)) + opt is c x := by
  rw [List.map_append, List.map_cons, List.map_nil, total_snoc]
set_option maxRecDepth 100000 in
set_option maxHeartbeats 8000000 in
theorem open_any (is c : Int) (A : Option Addr) (n cap : Nat) (l : List Pc) (w : World) (hn : l.length = n) (hc : Pcl w A l) (hv : rgtL l = true) :
    Calls Try.prog 12 #[.slice A n cap, .int .i64 is, .int .i64 c] w fun e w' => e = .returned (.int .i64 (opn l is c)) ∧ Below w.heap.size w w' := by
  have hl := (rgtL_in hv).1
  have HS := Lib.hid (rgt_size hv)
  have HV := Lib.hid hv
  have HN := Lib.hid hn
  have HSZ : Hid (∀ y ∈ l, y.pd.length ≤ 9223372036854775807) := Lib.hid fun y hy => by have := HS.out y hy; omega
  go_enter Try.func12, Try.ntmps12
  go_wp2_with (fail)
  go_must (refine (Right_any _ n cap l w hn hc HSZ.out (by omega)).mono ?_)
  rintro e w1 ⟨rfl, hb1⟩
  rw [HV.out]
  have HB1 := Lib.hid hb1
  have hnb : (n : Int) ≤ 1000 := by omega
  clear hb1 hn hv
  go_wp2
  go_loopw [7, 15] (fun sv iv wr => ∃ (k : Nat) (s : Int), k ≤ n ∧ iv = .int .i64 k ∧ sv = .int .i64 s ∧ Hid (0 ≤ s ∧ s ≤ (k : Int) * 1000000000) ∧ Hid (total ((l.take k).map (opt is c)) = s) ∧ Hid (Below w.heap.size w wr)) (fun _ iv _ => n - (intOf iv).toNat)
  case atStart => exact ⟨0, 0, Nat.zero_le _, rfl, rfl, Lib.hid ⟨by omega, by omega⟩, Lib.hid (by rw [List.take_zero]; rfl), HB1⟩
  case round =>
    clear HB1
    obtain ⟨k, s, hk, rfl, rfl, HSS, HT, HB⟩ := hrel
    obtain ⟨s0, s1⟩ := HSS.out
    have k0 : (0 : Int) ≤ (k : Int) := by omega
    by_cases hlt : k < n
    · have hltI : (k : Int) < (n : Int) := by omega
      obtain ⟨b, off, rfl, hcell⟩ := (hc.keep HB.out) (by rw [HN.out]; omega)
      obtain ⟨x, hx⟩ := at_ l k (by rw [HN.out]; exact hlt)
      obtain ⟨c0, c1, ⟨A2, c2, c2', hbo⟩, c3, c4⟩ := hcell k x hx
      have hxr := (rgtL_in HV.out).2 x (mem_of_at hx)
      have ho := opt_in (is := is) (c := c) hxr
      have hs := HS.out x (mem_of_at hx)
      have HX : Hid (total ((l.take (k + 1)).map (opt is c)) = s + opt is c x) := Lib.hid (by rw [take_snoc hx, opn_snoc, HT.out])
      have HOX := Lib.hid ho
      clear hcell hx hxr
      obtain ⟨xi, xu, xp, xl, xs⟩ := x
      dsimp only at c0 c1 c2' c3 c4 hs hbo
      by_cases h0 : xi = is
      · obtain rfl : is = xi := h0.symm
        by_cases h1 : 0 ≤ c
        · obtain ⟨m, rfl⟩ : ∃ m : Nat, c = m := ⟨c.toNat, by omega⟩
          by_cases h2 : m < xp.length
          · have h2I : (m : Int) < (xp.length : Int) := by omega
            obtain ⟨b2, o2, rfl, hb2⟩ := hbo (by omega)
            obtain ⟨y, hy⟩ := at_ xp m h2
            have e2 := hb2 m y hy
            have e3 := Gen.keep (Gen.b_alloc (x := .cells #[.int .i64 is, .int .i64 xu, .slice (some ⟨b2, o2, none⟩) xp.length c2, .int .i64 xl, .int .i64 xs] 36) (Below.refl _ _)) e2
            have HB2 := Lib.hid (Gen.b_alloc (x := .cells #[.int .i64 is, .int .i64 xu, .slice (some ⟨b2, o2, none⟩) xp.length c2, .int .i64 xl, .int .i64 xs] 36) HB.out)
            cases y
            · have eo : opt is (m : Int) ⟨is, xu, xp, xl, xs⟩ = xu := if_pos ⟨rfl, h1, by simpa using hy⟩
              rw [eo] at HX HOX ho
              have hw : IntKind.i64.wrap (s + xu) = s + xu := IntWalk.i64_in _ (by omega)
              have hr : Hid (0 ≤ s + xu ∧ s + xu ≤ ((k + 1 : Nat) : Int) * 1000000000) := Lib.hid (by omega)
              clear eo hy hb2 hbo
              go_wp2
              go_roundw
              case rel => exact ⟨k + 1, s + xu, by omega, by go_num, rfl, hr, HX, HB2⟩
              case measure => simp [intOf]; omega
            · have eo : opt is (m : Int) ⟨is, xu, xp, xl, xs⟩ = 0 := if_neg (fun h => by have h2 := h.2.2; simp at h2; rw [hy] at h2; cases h2)
              rw [eo, Int.add_zero] at HX
              have hr : Hid (0 ≤ s ∧ s ≤ ((k + 1 : Nat) : Int) * 1000000000) := Lib.hid (by omega)
              clear eo hy hb2 hbo
              go_wp2
              go_roundw
              case rel => exact ⟨k + 1, s, by omega, by go_num, rfl, hr, HX, HB2⟩
              case measure => simp [intOf]; omega
          · have h2I : xp.length ≤ m := by omega
            have h2D : decide (m < xp.length) = false := decide_eq_false h2
            have eo : opt is (m : Int) ⟨is, xu, xp, xl, xs⟩ = 0 := if_neg (fun h => by have h2 := h.2.2; simp at h2; have := lt_of_at h2; omega)
            rw [eo, Int.add_zero] at HX
            have hr : Hid (0 ≤ s ∧ s ≤ ((k + 1 : Nat) : Int) * 1000000000) := Lib.hid (by omega)
            have HB2 := Lib.hid (Gen.b_alloc (x := .cells #[.int .i64 is, .int .i64 xu, .slice A2 xp.length c2, .int .i64 xl, .int .i64 xs] 36) HB.out)
            clear eo hbo
            go_wp2
            go_roundw
            case rel => exact ⟨k + 1, s, by omega, by go_num, rfl, hr, HX, HB2⟩
            case measure => simp [intOf]; omega
        · have eo : opt is c ⟨is, xu, xp, xl, xs⟩ = 0 := if_neg (fun h => h1 h.2.1)
          have h1D : decide (0 ≤ c) = false := decide_eq_false h1
          rw [eo, Int.add_zero] at HX
          have hr : Hid (0 ≤ s ∧ s ≤ ((k + 1 : Nat) : Int) * 1000000000) := Lib.hid (by omega)
          have HB2 := Lib.hid (Gen.b_alloc (x := .cells #[.int .i64 is, .int .i64 xu, .slice A2 xp.length c2, .int .i64 xl, .int .i64 xs] 36) HB.out)
          clear eo hbo
          go_wp2
          go_roundw
          case rel => exact ⟨k + 1, s, by omega, by go_num, rfl, hr, HX, HB2⟩
          case measure => simp [intOf]; omega
      · have h0b : (xi == is) = false := by simpa using h0
        have eo : opt is c ⟨xi, xu, xp, xl, xs⟩ = 0 := if_neg (fun h => h0 h.1)
        rw [eo, Int.add_zero] at HX
        have hr : Hid (0 ≤ s ∧ s ≤ ((k + 1 : Nat) : Int) * 1000000000) := Lib.hid (by omega)
        have HB2 := Lib.hid (Gen.b_alloc (x := .cells #[.int .i64 xi, .int .i64 xu, .slice A2 xp.length c2, .int .i64 xl, .int .i64 xs] 36) HB.out)
        clear eo hbo
        go_wp2
        go_roundw
        case rel => exact ⟨k + 1, s, by omega, by go_num, rfl, hr, HX, HB2⟩
        case measure => simp [intOf]; omega
    · obtain rfl : k = n := by omega
      have HF : Hid (opn l is c = s) := Lib.hid (by have := HT.out; rwa [List.take_of_length_le (by rw [HN.out]; exact Nat.le_refl _)] at this)
      go_wp2
      go_ret
      exact ⟨ret_int HF.out.symm, HB.out⟩
def few31 (l : List Pc) : Bool := decide (l.length ≤ 12) && l.all fun x => decide (x.pd.length ≤ 10)
theorem few31_no {l : List Pc} {x : Pc} (hx : x ∈ l) (h : 10 < x.pd.length) : few31 l = false := by
  have : (l.all fun x => decide (x.pd.length ≤ 10)) = false := by rw [List.all_eq_false]; exact ⟨x, hx, by simp; omega⟩
  unfold few31
  rw [this, Bool.and_false]
set_option maxRecDepth 100000 in
set_option maxHeartbeats 4000000 in
theorem few31_any (A : Option Addr) (n cap : Nat) (l : List Pc) (w : World) (hn : l.length = n) (hc : Pcl w A l) (hbig : n ≤ 9223372036854775807) :
    Calls Try.prog 8 #[.slice A n cap] w fun e w' => e = .returned (.bool (few31 l)) ∧ w = w' := by
  have HN := Lib.hid hn
  clear hn
  go_enter Try.func8, Try.ntmps8
  go_wp2_with (fail)
  go_loopw [3] (fun iv wr => ∃ k : Nat, k ≤ n ∧ k ≤ 13 ∧ iv = .int .i64 k ∧ Hid (∀ x ∈ l.take k, x.pd.length ≤ 10) ∧ wr = w) (fun iv _ => n - (intOf iv).toNat)
  case atStart => exact ⟨0, Nat.zero_le _, by omega, rfl, Lib.hid (by simp), rfl⟩
  case round =>
    obtain ⟨k, hk, hk2, rfl, HA, rfl⟩ := hrel
    by_cases hlt : k < n
    · by_cases h40 : k ≤ 12
      · obtain ⟨b, off, rfl, hcell⟩ := hc (by rw [HN.out]; omega)
        obtain ⟨x, hx⟩ := at_ l k (by rw [HN.out]; exact hlt)
        obtain ⟨c0, c1, ⟨A2, c2, c2', hbo⟩, c3, c4⟩ := hcell k x hx
        have hltI : (k : Int) < (n : Int) := by omega
        have hk3 : (k : Int) ≤ 12 := by omega
        have k0 : (0 : Int) ≤ (k : Int) := by omega
        have HX := Lib.hid hx
        clear hcell hx
        obtain ⟨xi, xu, xp, xl, xs⟩ := x
        dsimp only at c0 c1 c2' c3 c4
        by_cases h5 : 10 < xp.length
        · have HF := Lib.hid (few31_no (mem_of_at HX.out) h5)
          have h5I : (10 : Int) < (xp.length : Int) := by omega
          go_wp2
          go_ret
          exact ⟨ret_bool HF.out.symm, rfl⟩
        · have h5I : (xp.length : Int) ≤ 10 := by omega
          have HB := Lib.hid (show ∀ x ∈ l.take (k + 1), x.pd.length ≤ 10 from fun y hy => by
            rw [take_snoc HX.out, List.mem_append] at hy
            rcases hy with hy | hy
            · exact HA.out y hy
            · rw [List.mem_singleton.1 hy]; show xp.length ≤ 10; omega)
          go_wp2
          go_roundw
          case rel => first | exact ⟨k + 1, by omega, by omega, by go_num, HB, trivial⟩ | exact ⟨k + 1, by omega, by omega, by go_num, HB, rfl⟩
          case measure => simp [intOf]; omega
      · have hltI : (k : Int) < (n : Int) := by omega
        have hk3 : ¬ (k : Int) ≤ 12 := by omega
        have hk4 : ¬ (n : Int) ≤ 12 := by omega
        have HF := Lib.hid (show few31 l = false from by unfold few31; rw [decide_eq_false (show ¬ l.length ≤ 12 by rw [HN.out]; omega)]; rfl)
        go_wp2
        go_ret
        exact ⟨ret_bool (by rw [HF.out]; try exact decide_eq_false (by omega)), rfl⟩
    · obtain rfl : n = k := by omega
      have HF := Lib.hid (show few31 l = decide (n ≤ 12) from by
        unfold few31
        rw [HN.out]
        have : (l.all fun x => decide (x.pd.length ≤ 10)) = true := List.all_eq_true.2 fun x hx => decide_eq_true (HA.out x (by rw [List.take_of_length_le (by rw [HN.out]; exact Nat.le_refl _)]; exact hx))
        rw [this, Bool.and_true])
      go_wp2
      go_ret
      exact ⟨ret_bool (by rw [HF.out]; exact decide_eq_decide.2 (by omega)), rfl⟩
abbrev l0 : List Pc := [⟨4, 10, [false, false], -1, -1⟩, ⟨4, 20, [false, false], -1, -1⟩]
theorem boo_row {W : World} {a : Nat} {l : List Bool} (h : Row W a 4 (bcs l)) : Boos W (some ⟨a, 0, none⟩) l := fun _ => ⟨a, 0, rfl, fun j x hx => by rw [Nat.zero_add]; exact (h.cell j).trans (bcs_at hx)⟩
theorem sample_pcl {W : World} {a b g : Nat} (ha : Row W a 4 (bcs [false, false])) (hb : Row W b 4 (bcs [false, false]))
    (hg : Row W g 36 #[.int .i64 4, .int .i64 10, .slice (some ⟨a, 0, none⟩) 2 2, .int .i64 (-1), .int .i64 (-1), .int .i64 4, .int .i64 20, .slice (some ⟨b, 0, none⟩) 2 2, .int .i64 (-1), .int .i64 (-1)]) : Pcl W (some ⟨g, 0, none⟩) l0 := fun _ => by
  refine ⟨g, 0, rfl, fun j x hx => ?_⟩
  have hj := lt_of_at hx
  have hj2 : j = 0 ∨ j = 1 := by simp at hj; omega
  rcases hj2 with rfl | rfl
  · simp at hx
    subst hx
    exact ⟨hg.cell 0, hg.cell 1, ⟨_, 2, hg.cell 2, boo_row ha⟩, hg.cell 3, hg.cell 4⟩
  · simp at hx
    subst hx
    exact ⟨hg.cell 5, hg.cell 6, ⟨_, 2, hg.cell 7, boo_row hb⟩, hg.cell 8, hg.cell 9⟩
set_option maxRecDepth 100000 in
set_option maxHeartbeats 4000000 in
theorem sample_any (w : World) : Calls Try.prog 21 #[] w fun e w' => ∃ A c, e = .returned (.slice A 2 c) ∧ Pcl w' A l0 ∧ Below w.heap.size w w' := by
  obtain ⟨iB, hiB, hzB, hyB, hxB⟩ := info_parts' infoB
  have hmk : ∀ W : World, (Instr.makeSlice 34 (.int .i64 2) (.int .i64 2)).run Try.prog W = .ok (.slice (some ⟨W.heap.size, 0, none⟩) 2 2) (W.alloc (.cells (bcs (List.replicate 2 false)) 4)) := fun W => by
    have hr := run_make (P := Try.prog) W 34 4 iB (.bool false) Try.underlying34 hiB hzB .i64 .i64 (2 : Nat) (2 : Nat) (by omega) (Int.le_refl _) (by rw [hxB]; omega) (by omega)
    rw [hyB, Int.toNat_natCast, made_bools] at hr
    exact hr
  go_enter Try.func21, Try.ntmps21
  go_wp2
  go_region
  all_goals
    go_wp2
    go_ret
    refine ⟨_, _, rfl, ?_, by go_grown⟩
    first
      | exact sample_pcl (a := w.heap.size) (b := w.heap.size + 1) ((((Row.new _ _ _).alloc _).alloc _).keep (Below.refl _ _).drew) (((Gen.rowAt _ _ _ (by simp)).alloc _).keep (Below.refl _ _).drew) ((Gen.rowAt _ _ _ (by simp)).keep (Below.refl _ _).drew)
      | exact sample_pcl (a := w.heap.size + 1) (b := w.heap.size) (((Gen.rowAt _ _ _ (by simp)).alloc _).keep (Below.refl _ _).drew) ((((Row.new _ _ _).alloc _).alloc _).keep (Below.refl _ _).drew) ((Gen.rowAt _ _ _ (by simp)).keep (Below.refl _ _).drew)
end Go.Proofs.Ythphlaijkknefaa.Bea
