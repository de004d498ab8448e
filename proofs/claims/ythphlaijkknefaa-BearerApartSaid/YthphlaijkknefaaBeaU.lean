/- Bearer pieces: Open whatever the list; the reference's Open. -/
import Derived.Test.YthphlaijkknefaaBeaT
import Derived.Test.YthphlaijkknefaaBeaI
namespace Go.Proofs.Ythphlaijkknefaa.Bea
open Go.ChangeShapes Go.WideShapes Go.ChangeAt Go.RowKit Go.Proofs.Ythphlaijkknefaa.Cell
set_option linter.unusedVariables false
set_option linter.unusedSimpArgs false

def openL (l : List Pc) (is c : Int) : Int := if rgtL l = true then opn l is c else 0
set_option maxRecDepth 100000 in
set_option maxHeartbeats 8000000 in
theorem open_wrong (is c : Int) (A : Option Addr) (n cap : Nat) (l : List Pc) (w : World) (hn : l.length = n) (hc : Pcl w A l) (hsz : ∀ x ∈ l, x.pd.length ≤ 9223372036854775807) (hbig : n ≤ 9223372036854775807) (hv : rgtL l = false) :
    Calls Try.prog 12 #[.slice A n cap, .int .i64 is, .int .i64 c] w fun e w' => e = .returned (.int .i64 0) ∧ Below w.heap.size w w' := by
  have HV := Lib.hid hv
  go_enter Try.func12, Try.ntmps12
  go_wp2_with (fail)
  go_must (refine (Right_any _ n cap l w hn hc hsz hbig).mono ?_)
  rintro e w1 ⟨rfl, hb1⟩
  rw [HV.out]
  clear hn hc hsz
  go_wp2
  go_ret
  exact ⟨rfl, hb1⟩
theorem open_all (is c : Int) (A : Option Addr) (n cap : Nat) (l : List Pc) (w : World) (hn : l.length = n) (hc : Pcl w A l) (hsz : ∀ x ∈ l, x.pd.length ≤ 9223372036854775807) (hbig : n ≤ 9223372036854775807) :
    Calls Try.prog 12 #[.slice A n cap, .int .i64 is, .int .i64 c] w fun e w' => e = .returned (.int .i64 (openL l is c)) ∧ Below w.heap.size w w' := by
  unfold openL
  by_cases hv : rgtL l = true
  · rw [if_pos hv]
    exact open_any is c A n cap l w hn hc hv
  · rw [if_neg hv]
    exact open_wrong is c A n cap l w hn hc hsz hbig (by simpa using hv)
set_option maxRecDepth 100000 in
set_option maxHeartbeats 8000000 in
theorem rOpen_wrong (is c : Int) (A : Option Addr) (n cap : Nat) (l : List Pc) (w : World) (hn : l.length = n) (hc : Pcl w A l) (hsz : ∀ x ∈ l, x.pd.length ≤ 9223372036854775807) (hbig : n ≤ 9223372036854775807) (hv : rgtL l = false) :
    Calls Try.prog 13 #[.slice A n cap, .int .i64 is, .int .i64 c] w fun e w' => e = .returned (.int .i64 0) ∧ Below w.heap.size w w' := by
  have HV := Lib.hid hv
  have hn0 : 0 < n := by
    rcases Nat.eq_zero_or_pos n with h | h
    · exfalso
      have : l = [] := List.length_eq_zero_iff.1 (hn.trans h)
      subst this
      exact absurd hv (by decide)
    · exact h
  have hn1 : (0 : Int) < (n : Int) := by omega
  have HN := Lib.hid hn
  have HC := Lib.hid hc
  have HSZ := Lib.hid hsz
  clear hn hc hsz hv
  go_enter Try.func13, Try.ntmps13
  go_wp2
  go_loopw [7, 8] (fun sv iv wr => iv = .int .i64 0 ∧ sv = .int .i64 0 ∧ Hid (Below w.heap.size w wr)) (fun _ iv _ => 0)
  case atStart => exact ⟨rfl, rfl, Lib.hid (Below.refl _ _)⟩
  case round =>
    obtain ⟨rfl, rfl, HB⟩ := hrel
    go_wp2_with (fail)
    go_must (refine (rRight_any _ n cap l _ HN.out (HC.out.keep HB.out) HSZ.out hbig).mono ?_)
    rintro e w1 ⟨rfl, hb1⟩
    rw [HV.out]
    have HB2 := Lib.hid (Gen.over hb1 HB.out)
    clear hb1
    go_wp2
    go_ret
    exact ⟨rfl, HB2.out⟩
set_option maxRecDepth 100000 in
set_option maxHeartbeats 8000000 in
theorem rOpen_right (is c : Int) (A : Option Addr) (n cap : Nat) (l : List Pc) (w : World) (hn : l.length = n) (hc : Pcl w A l) (hv : rgtL l = true) :
    Calls Try.prog 13 #[.slice A n cap, .int .i64 is, .int .i64 c] w fun e w' => e = .returned (.int .i64 (opn l is c)) ∧ Below w.heap.size w w' := by
  have hl := (rgtL_in hv).1
  have HS := Lib.hid (rgt_size hv)
  have HV := Lib.hid hv
  have HN := Lib.hid hn
  have HSZ : Hid (∀ y ∈ l, y.pd.length ≤ 9223372036854775807) := Lib.hid fun y hy => by have := HS.out y hy; omega
  go_enter Try.func13, Try.ntmps13
  have HB1 : Hid (Below w.heap.size w w) := Lib.hid (Below.refl _ _)
  have hnb : (n : Int) ≤ 1000 := by omega
  have hnz : n ≤ 9223372036854775807 := by omega
  clear hn hv
  go_wp2
  go_loopw [7, 8] (fun sv iv wr => ∃ (k : Nat) (s : Int), k ≤ n ∧ iv = .int .i64 k ∧ sv = .int .i64 s ∧ Hid (0 ≤ s ∧ s ≤ (k : Int) * 1000000000) ∧ Hid (total ((l.take k).map (opt is c)) = s) ∧ Hid (Below w.heap.size w wr)) (fun _ iv _ => n - (intOf iv).toNat)
  case atStart => exact ⟨0, 0, Nat.zero_le _, rfl, rfl, Lib.hid ⟨by omega, by omega⟩, Lib.hid (by rw [List.take_zero]; rfl), HB1⟩
  case round =>
    clear HB1
    obtain ⟨k, s, hk, rfl, rfl, HSS, HT, HB⟩ := hrel
    obtain ⟨s0, s1⟩ := HSS.out
    have k0 : (0 : Int) ≤ (k : Int) := by omega
    by_cases hlt : k < n
    · have hltI : (k : Int) < (n : Int) := by omega
      have HB0 := HB
      clear HB
      clear s0 s1
      go_wp2_with (fail)
      go_must (refine (rRight_any _ n cap l _ HN.out (hc.keep HB0.out) HSZ.out hnz).mono ?_)
      rintro e w1 ⟨rfl, hb1⟩
      rw [HV.out]
      have HB := Lib.hid (Gen.over hb1 HB0.out)
      clear hb1 HB0
      obtain ⟨s0, s1⟩ := HSS.out
      obtain ⟨b, off, rfl, hcell⟩ := (hc.keep HB.out) (by rw [HN.out]; omega)
      obtain ⟨x, hx⟩ := at_ l k (by rw [HN.out]; exact hlt)
      obtain ⟨c0, c1, ⟨A2, c2, c2', hbo⟩, c3, c4⟩ := hcell k x hx
      have hxr := (rgtL_in HV.out).2 x (mem_of_at hx)
      have ho := opt_in (is := is) (c := c) hxr
      have hs := HS.out x (mem_of_at hx)
      have HX : Hid (total ((l.take (k + 1)).map (opt is c)) = s + opt is c x) := Lib.hid (by rw [take_snoc hx, opn_snoc, HT.out])
      have HOX := Lib.hid ho
      clear hcell hx hxr
      obtain ⟨xi, xu, xp, xl, xs⟩ := x
      dsimp only at c0 c1 c2' c3 c4 hs hbo
      by_cases h0 : xi = is
      · obtain rfl : is = xi := h0.symm
        have h0f : (is != is) = false := by simp
        by_cases h1 : 0 ≤ c
        · have h1f : decide (c < 0) = false := decide_eq_false (by omega)
          obtain ⟨m, rfl⟩ : ∃ m : Nat, c = m := ⟨c.toNat, by omega⟩
          by_cases h2 : m < xp.length
          · have h2I : (m : Int) < (xp.length : Int) := by omega
            have h2f : decide ((xp.length : Int) ≤ (m : Int)) = false := decide_eq_false (by omega)
            obtain ⟨b2, o2, rfl, hb2⟩ := hbo (by omega)
            obtain ⟨y, hy⟩ := at_ xp m h2
            have e2 := hb2 m y hy
            have e3 := Gen.keep (Gen.b_alloc (x := .cells #[.int .i64 is, .int .i64 xu, .slice (some ⟨b2, o2, none⟩) xp.length c2, .int .i64 xl, .int .i64 xs] 36) (Below.refl _ _)) e2
            have HB2 := Lib.hid (Gen.b_alloc (x := .cells #[.int .i64 is, .int .i64 xu, .slice (some ⟨b2, o2, none⟩) xp.length c2, .int .i64 xl, .int .i64 xs] 36) HB.out)
            cases y
            · have eo : opt is (m : Int) ⟨is, xu, xp, xl, xs⟩ = xu := if_pos ⟨rfl, h1, by simpa using hy⟩
              rw [eo] at HX HOX ho
              have hw : IntKind.i64.wrap (s + xu) = s + xu := IntWalk.i64_in _ (by omega)
              have hr : Hid (0 ≤ s + xu ∧ s + xu ≤ ((k + 1 : Nat) : Int) * 1000000000) := Lib.hid (by omega)
              clear eo hy hb2 hbo
              go_wp2
              go_roundw
              case rel => exact ⟨k + 1, s + xu, by omega, by go_num, rfl, hr, HX, HB2⟩
              case measure => simp [intOf]; omega
            · have eo : opt is (m : Int) ⟨is, xu, xp, xl, xs⟩ = 0 := if_neg (fun h => by have h2 := h.2.2; simp at h2; rw [hy] at h2; cases h2)
              rw [eo, Int.add_zero] at HX
              have hr : Hid (0 ≤ s ∧ s ≤ ((k + 1 : Nat) : Int) * 1000000000) := Lib.hid (by omega)
              clear eo hy hb2 hbo
              go_wp2
              go_roundw
              case rel => exact ⟨k + 1, s, by omega, by go_num, rfl, hr, HX, HB2⟩
              case measure => simp [intOf]; omega
          · have h2I : xp.length ≤ m := by omega
            have h2J : (xp.length : Int) ≤ (m : Int) := by omega
            have eo : opt is (m : Int) ⟨is, xu, xp, xl, xs⟩ = 0 := if_neg (fun h => by have h2 := h.2.2; simp at h2; have := lt_of_at h2; omega)
            rw [eo, Int.add_zero] at HX
            have hr : Hid (0 ≤ s ∧ s ≤ ((k + 1 : Nat) : Int) * 1000000000) := Lib.hid (by omega)
            have HB2 := Lib.hid (Gen.b_alloc (x := .cells #[.int .i64 is, .int .i64 xu, .slice A2 xp.length c2, .int .i64 xl, .int .i64 xs] 36) HB.out)
            clear eo hbo
            go_wp2
            go_roundw
            case rel => exact ⟨k + 1, s, by omega, by go_num, rfl, hr, HX, HB2⟩
            case measure => simp [intOf]; omega
        · have eo : opt is c ⟨is, xu, xp, xl, xs⟩ = 0 := if_neg (fun h => h1 h.2.1)
          have h1D : c < 0 := by omega
          rw [eo, Int.add_zero] at HX
          have hr : Hid (0 ≤ s ∧ s ≤ ((k + 1 : Nat) : Int) * 1000000000) := Lib.hid (by omega)
          have HB2 := Lib.hid (Gen.b_alloc (x := .cells #[.int .i64 is, .int .i64 xu, .slice A2 xp.length c2, .int .i64 xl, .int .i64 xs] 36) HB.out)
          clear eo hbo
          go_wp2
          go_roundw
          case rel => exact ⟨k + 1, s, by omega, by go_num, rfl, hr, HX, HB2⟩
          case measure => simp [intOf]; omega
      · have h0b : (xi != is) = true := by simpa using h0
        have eo : opt is c ⟨xi, xu, xp, xl, xs⟩ = 0 := if_neg (fun h => h0 h.1)
        rw [eo, Int.add_zero] at HX
        have hr : Hid (0 ≤ s ∧ s ≤ ((k + 1 : Nat) : Int) * 1000000000) := Lib.hid (by omega)
        have HB2 := Lib.hid (Gen.b_alloc (x := .cells #[.int .i64 xi, .int .i64 xu, .slice A2 xp.length c2, .int .i64 xl, .int .i64 xs] 36) HB.out)
        clear eo hbo
        go_wp2
        go_roundw
        case rel => exact ⟨k + 1, s, by omega, by go_num, rfl, hr, HX, HB2⟩
        case measure => simp [intOf]; omega
    · obtain rfl : k = n := by omega
      have HF : Hid (opn l is c = s) := Lib.hid (by have := HT.out; rwa [List.take_of_length_le (by rw [HN.out]; exact Nat.le_refl _)] at this)
      go_wp2
      go_ret
      exact ⟨ret_int HF.out.symm, HB.out⟩
theorem rOpen_all (is c : Int) (A : Option Addr) (n cap : Nat) (l : List Pc) (w : World) (hn : l.length = n) (hc : Pcl w A l) (hsz : ∀ x ∈ l, x.pd.length ≤ 9223372036854775807) (hbig : n ≤ 9223372036854775807) :
    Calls Try.prog 13 #[.slice A n cap, .int .i64 is, .int .i64 c] w fun e w' => e = .returned (.int .i64 (openL l is c)) ∧ Below w.heap.size w w' := by
  unfold openL
  by_cases hv : rgtL l = true
  · rw [if_pos hv]
    exact rOpen_right is c A n cap l w hn hc hv
  · rw [if_neg hv]
    exact rOpen_wrong is c A n cap l w hn hc hsz hbig (by simpa using hv)
end Go.Proofs.Ythphlaijkknefaa.Bea
