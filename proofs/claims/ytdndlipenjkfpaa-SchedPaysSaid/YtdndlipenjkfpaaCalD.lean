/- Package cal: the contracts of BinarySearch, open, Right, Business. -/
import Derived.Test.YtdndlipenjkfpaaCalC
namespace Go.Proofs.Ytdndlipenjkfpaa.Dat
open Go.ChangeShapes Go.WideShapes Go.ChangeAt Go.RowKit Go.Proofs.Ytdndlipenjkfpaa.Cell
set_option linter.unusedVariables false
set_option linter.unusedSimpArgs false

/-- strictly ascending -/
def asc (l : List Int) : Prop := ∀ (i j : Nat) x y, i < j → l[i]? = some x → l[j]? = some y → x < y
/-- what a binary search knows -/
structure BS (l : List Int) (t : Int) (i j : Nat) : Prop where
  le : i ≤ j
  len : j ≤ l.length
  lo : ∀ k x, k < i → l[k]? = some x → x < t
  hi : ∀ k x, j ≤ k → l[k]? = some x → t ≤ x
theorem BS.start (l : List Int) (t : Int) : BS l t 0 l.length := ⟨Nat.zero_le _, Nat.le_refl _, fun k x h => by omega, fun k x h h2 => by
  have := lt_of_at h2
  omega⟩
theorem BS.up {l : List Int} {t : Int} {i j h : Nat} {x : Int} (b : BS l t i j) (ha : asc l) (h1 : i ≤ h) (h2 : h < j) (hx : l[h]? = some x) (hlt : x < t) : BS l t (h + 1) j :=
  ⟨by omega, b.len, fun k y hk hy => by
    by_cases e : k = h
    · subst e; rw [hx] at hy; injection hy with hy; omega
    · have := ha k h y x (by omega) hy hx; omega, b.hi⟩
theorem BS.down {l : List Int} {t : Int} {i j h : Nat} {x : Int} (b : BS l t i j) (ha : asc l) (h1 : i ≤ h) (h2 : h < j) (hx : l[h]? = some x) (hge : t ≤ x) : BS l t i h :=
  ⟨h1, by have := b.len; omega, b.lo, fun k y hk hy => by
    by_cases e : k = h
    · subst e; rw [hx] at hy; injection hy with hy; omega
    · have := ha h k x y (by omega) hx hy; omega⟩
theorem BS.out {l : List Int} {t : Int} {i : Nat} (b : BS l t i i) (hi : l.length ≤ i) : t ∉ l := fun hm => by
  obtain ⟨k, hk⟩ := List.mem_iff_getElem?.1 hm
  have := lt_of_at hk
  have := b.lo k t (by omega) hk
  omega
theorem BS.at_ {l : List Int} {t x : Int} {i : Nat} (b : BS l t i i) (ha : asc l) (hx : l[i]? = some x) : t ∈ l ↔ x = t := by
  constructor
  · intro hm
    obtain ⟨k, hk⟩ := List.mem_iff_getElem?.1 hm
    rcases Nat.lt_trichotomy k i with c | c | c
    · have := b.lo k t c hk; omega
    · subst c; rw [hx] at hk; injection hk
    · have := ha i k x t c hx hk
      have := b.hi i x (Nat.le_refl _) hx
      omega
  · intro e; subst e; exact mem_of_at hx

set_option maxRecDepth 100000 in
set_option maxHeartbeats 2000000 in
theorem bsearch_is {A : Option Addr} {n cap : Nat} {zs : List Int} {t : Int} {b : Bool} (w : World) (hn : zs.length = n) (hc : Ints w A zs) (hbig : n ≤ 1000000) (ha : asc zs) (h : decide (t ∈ zs) = b) :
    Calls Try.prog 64 #[.slice A n cap, .int .i64 t] w fun e w' => ∃ i : Nat, e = .returned (.tuple #[.int .i64 i, .bool b]) ∧ BS zs t i i ∧ w = w' := by
  have HN := Lib.hid hn
  have HA := Lib.hid ha
  have HT := Lib.hid h
  clear hn ha h
  go_enter Try.func64, Try.ntmps64
  go_wp2_with (fail)
  go_loop [7, 8] (fun iv jv => ∃ i j : Nat, i ≤ j ∧ j ≤ n ∧ iv = .int .i64 i ∧ jv = .int .i64 j ∧ BS zs t i j) (fun iv jv => ((intOf jv) - (intOf iv)).toNat)
  case atStart => exact ⟨0, n, Nat.zero_le _, Nat.le_refl _, rfl, rfl, by have := BS.start zs t; rw [HN.out] at this; exact this⟩
  case round =>
    obtain ⟨i, j, hij, hjn, rfl, rfl, hb⟩ := hrel
    by_cases hlt : i < j
    · obtain ⟨b', off, rfl, hcell⟩ := hc (by rw [HN.out]; omega)
      have q0 : i ≤ (i + j) / 2 := by omega
      have q1 : (i + j) / 2 < j := by omega
      obtain ⟨z, hz⟩ := Cell.at_ zs ((i + j) / 2) (by rw [HN.out]; omega)
      have d0 := hcell _ z hz
      by_cases hzt : z < t
      · have HB := Lib.hid (hb.up HA.out q0 q1 hz hzt)
        have HL := Lib.hid (decide_eq_true hzt)
        clear hcell hz hb hzt
        go_wp2_with (fail)
        go_must (refine (less_is _ HL.out).mono ?_)
        rintro e w1 ⟨rfl, rfl⟩
        go_wp2
        go_round
        case rel => exact ⟨(i + j) / 2 + 1, j, by omega, by omega, by go_num, rfl, HB.out⟩
        case measure => simp [intOf]; omega
      · have HB := Lib.hid (hb.down HA.out q0 q1 hz (by omega))
        have HL := Lib.hid (decide_eq_false hzt)
        clear hcell hz hb hzt
        go_wp2_with (fail)
        go_must (refine (less_is _ HL.out).mono ?_)
        rintro e w1 ⟨rfl, rfl⟩
        go_wp2
        go_round
        case rel => exact ⟨i, (i + j) / 2, by omega, by omega, rfl, by go_num, HB.out⟩
        case measure => simp [intOf]; omega
    · obtain rfl : j = i := by omega
      by_cases hin : j < n
      · obtain ⟨b', off, rfl, hcell⟩ := hc (by rw [HN.out]; omega)
        obtain ⟨z, hz⟩ := Cell.at_ zs j (by rw [HN.out]; exact hin)
        have d0 := hcell j z hz
        have hm := hb.at_ HA.out hz
        have HB := Lib.hid hb
        cases b
        · have hzt : z ≠ t := fun e => of_decide_eq_false HT.out (hm.2 e)
          have hbt : (z == t) = false := by simpa using hzt
          clear hcell hz hb hm hzt hc
          go_wp2_with (fail)
          go_must (refine (snan_any _ _).mono ?_)
          rintro e w1 ⟨rfl, rfl⟩
          go_wp2
          exact bodyPost_ret (v := .tuple #[.int .i64 j, .bool false]) (by simp [results, Try.results64, go_sem]) rfl ⟨j, rfl, HB.out, rfl⟩
        · have hzt : z = t := hm.1 (of_decide_eq_true HT.out)
          have hbt : (z == t) = true := by simpa using hzt
          clear hcell hz hb hm hzt hc
          go_wp2
          exact bodyPost_ret (v := .tuple #[.int .i64 j, .bool true]) (by simp [results, Try.results64, go_sem]) rfl ⟨j, rfl, HB.out, rfl⟩
      · have hb0 : b = false := by
          rw [← HT.out]
          exact decide_eq_false (hb.out (by rw [HN.out]; omega))
        subst hb0
        have HB := Lib.hid hb
        clear hb hc
        go_wp2
        exact bodyPost_ret (v := .tuple #[.int .i64 j, .bool false]) (by simp [results, Try.results64, go_sem]) rfl ⟨j, rfl, HB.out, rfl⟩

theorem asc_of {m b : Int} {l : List Int} (h : ascA m b l = true) : asc l := ascA_lt h
/-- the box of a calendar -/
def cal2 (A : Option Addr) (n c : Nat) (A' : Option Addr) (m c' : Nat) : Array Value := #[.slice A n c, .slice A' m c']

section
variable {A A' : Option Addr} {n cap m cap' : Nat} {rs ds : List Int}
set_option maxRecDepth 100000 in
set_option maxHeartbeats 2000000 in
theorem open_is {b : Bool} {day : Int} (w : World) (hn : rs.length = n) (hc : Ints w A rs) (hbig : n ≤ 1000000) (hm : ds.length = m) (hc' : Ints w A' ds) (hbig' : m ≤ 1000000) (hd : asc ds) (h0 : 0 ≤ day) (h1 : day ≤ 200000) (h : bd rs ds day = b) :
    Calls Try.prog 48 #[.agg #[.slice A n cap, .slice A' m cap'], .int .i64 day] w fun e w' => e = .returned (.bool b) ∧ Below w.heap.size w w' := by
  have hB0 : Below w.heap.size w (w.alloc (.cells #[.slice A n cap, .slice A' m cap'] 24)) := Gen.b_alloc (Below.refl _ _)
  have hc1 := hc.keep hB0
  have hc1' := hc'.keep hB0
  have HN := Lib.hid hn
  have HM := Lib.hid hm
  have HD := Lib.hid hd
  have HB0 := Lib.hid hB0
  clear hn hm hd hB0
  unfold bd at h
  cases hr : decide (day % 7 ∈ rs)
  · rw [hr] at h
    cases hx : decide (day ∈ ds)
    all_goals
      rw [hx] at h
      simp at h
      subst h
      have HR := Lib.hid hr
      have HX := Lib.hid hx
      clear hr hx
      go_enter Try.func48, Try.ntmps48
      go_wp2_with (fail)
      go_must (refine (contains_is _ HN.out hc1 hbig HR.out).mono ?_)
      rintro e w1 ⟨rfl, rfl⟩
      go_wp2_with (fail)
      go_must (refine (bsearch_is _ HM.out hc1' hbig' HD.out HX.out).mono ?_)
      rintro e w1 ⟨i, rfl, hbs, rfl⟩
      clear hbs
      go_wp2
      go_ret
      exact ⟨rfl, HB0.out⟩
  · rw [hr] at h
    simp at h
    subst h
    have HR := Lib.hid hr
    clear hr
    go_enter Try.func48, Try.ntmps48
    go_wp2_with (fail)
    go_must (refine (contains_is _ HN.out hc1 hbig HR.out).mono ?_)
    rintro e w1 ⟨rfl, rfl⟩
    go_wp2
    go_ret
    exact ⟨rfl, HB0.out⟩

set_option maxRecDepth 100000 in
set_option maxHeartbeats 2000000 in
theorem right_is {b : Bool} (w : World) (hn : rs.length = n) (hc : Ints w A rs) (hbig : n ≤ 1000000) (hm : ds.length = m) (hc' : Ints w A' ds) (hbig' : m ≤ 1000000) (h : rt rs ds = b) :
    Calls Try.prog 20 #[.agg #[.slice A n cap, .slice A' m cap']] w fun e w' => e = .returned (.bool b) ∧ Below w.heap.size w w' := by
  have hB0 : Below w.heap.size w (w.alloc (.cells #[.slice A n cap, .slice A' m cap'] 24)) := Gen.b_alloc (Below.refl _ _)
  have hc1 := hc.keep hB0
  have hc1' := hc'.keep hB0
  have HN := Lib.hid hn
  have HM := Lib.hid hm
  have HB0 := Lib.hid hB0
  clear hB0
  unfold rt at h
  rw [hn, hm] at h
  clear hn hm
  by_cases h6 : n ≤ 6
  · by_cases h4 : m ≤ 4000
    · rw [decide_eq_true h6, decide_eq_true h4, Bool.true_and, Bool.true_and] at h
      cases hr : ascA 6 (-1) rs
      · rw [hr, Bool.false_and] at h
        have HR := Lib.hid hr
        subst h
        clear hr
        go_enter Try.func20, Try.ntmps20
        go_wp2_with (fail)
        go_must (refine (asc_is _ HN.out hc1 hbig HR.out).mono ?_)
        rintro e w1 ⟨rfl, rfl⟩
        go_wp2
        go_ret
        exact ⟨rfl, HB0.out⟩
      · rw [hr, Bool.true_and] at h
        have HR := Lib.hid hr
        have HX := Lib.hid h
        clear hr h
        go_enter Try.func20, Try.ntmps20
        go_wp2_with (fail)
        go_must (refine (asc_is _ HN.out hc1 hbig HR.out).mono ?_)
        rintro e w1 ⟨rfl, rfl⟩
        go_wp2_with (fail)
        go_must (refine (asc_is _ HM.out hc1' hbig' HX.out).mono ?_)
        rintro e w1 ⟨rfl, rfl⟩
        go_wp2
        go_ret
        exact ⟨rfl, HB0.out⟩
    · rw [decide_eq_false h4, Bool.false_and, Bool.and_false] at h
      subst h
      have h4' : 4000 < m := by omega
      clear h4
      go_enter Try.func20, Try.ntmps20
      go_wp2
      go_ret
      exact ⟨rfl, HB0.out⟩
  · rw [decide_eq_false h6, Bool.false_and] at h
    subst h
    have h6' : 6 < n := by omega
    clear h6
    go_enter Try.func20, Try.ntmps20
    go_wp2
    go_ret
    exact ⟨rfl, HB0.out⟩

set_option maxRecDepth 100000 in
set_option maxHeartbeats 2000000 in
theorem bus_is {b : Bool} {day : Int} (w : World) (hn : rs.length = n) (hc : Ints w A rs) (hbig : n ≤ 1000000) (hm : ds.length = m) (hc' : Ints w A' ds) (hbig' : m ≤ 1000000) (h : bz rs ds day = b) :
    Calls Try.prog 22 #[.agg #[.slice A n cap, .slice A' m cap'], .int .i64 day] w fun e w' => e = .returned (.bool b) ∧ Below w.heap.size w w' := by
  have hB0 : Below w.heap.size w (w.alloc (.cells #[.slice A n cap, .slice A' m cap'] 24)) := Gen.b_alloc (Below.refl _ _)
  have hr0 : Row (w.alloc (.cells #[.slice A n cap, .slice A' m cap'] 24)) w.heap.size 24 #[.slice A n cap, .slice A' m cap'] := Row.new _ _ _
  have hc1 := hc.keep hB0
  have hc1' := hc'.keep hB0
  have HN := Lib.hid hn
  have HM := Lib.hid hm
  have HB0 := Lib.hid hB0
  clear hB0 hn hm
  unfold bz at h
  cases hr : rt rs ds
  · rw [hr, Bool.false_and] at h
    subst h
    have HR := Lib.hid hr
    clear hr hr0
    go_enter Try.func22, Try.ntmps22
    go_wp2_with (fail)
    go_must (refine (right_is _ HN.out hc1 hbig HM.out hc1' hbig' HR.out).mono ?_)
    rintro e w1 ⟨rfl, hb1⟩
    have hB1 := Gen.over hb1 HB0.out
    go_wp2
    go_ret
    exact ⟨rfl, hB1⟩
  · rw [hr, Bool.true_and] at h
    have HR := Lib.hid hr
    have HA := Lib.hid (asc_of (rt_in hr).2.2.2)
    clear hr
    cases hd : dy day
    · rw [hd, Bool.false_and] at h
      subst h
      have HD := Lib.hid hd
      clear hd hr0
      go_enter Try.func22, Try.ntmps22
      go_wp2_with (fail)
      go_must (refine (right_is _ HN.out hc1 hbig HM.out hc1' hbig' HR.out).mono ?_)
      rintro e w1 ⟨rfl, hb1⟩
      have hB1 := Gen.over hb1 HB0.out
      go_wp2_with (fail)
      go_must (refine (isDay_is _ HD.out).mono ?_)
      rintro e w1 ⟨rfl, rfl⟩
      go_wp2
      go_ret
      exact ⟨rfl, hB1⟩
    · rw [hd, Bool.true_and] at h
      have HD := Lib.hid hd
      have HX := Lib.hid h
      obtain ⟨h0, h1⟩ := dy_in hd
      clear hd h
      go_enter Try.func22, Try.ntmps22
      go_wp2_with (fail)
      go_must (refine (right_is _ HN.out hc1 hbig HM.out hc1' hbig' HR.out).mono ?_)
      rintro e w1 ⟨rfl, hb1⟩
      have hB1 := Gen.over hb1 HB0.out
      have k0 := (hr0.keep hb1).cell 0
      have k1 := (hr0.keep hb1).cell 1
      have hc2 := hc1.keep hb1
      have hc2' := hc1'.keep hb1
      clear hr0 hc1 hc1' hb1
      go_wp2_with (fail)
      go_must (refine (isDay_is _ HD.out).mono ?_)
      rintro e w1 ⟨rfl, rfl⟩
      go_wp2_with (fail)
      go_must (refine (open_is _ HN.out hc2 hbig HM.out hc2' hbig' HA.out h0 h1 HX.out).mono ?_)
      rintro e w2 ⟨rfl, hb2⟩
      have hB2 := Gen.over hb2 hB1
      go_wp2
      go_ret
      exact ⟨rfl, hB2⟩
end
end Go.Proofs.Ytdndlipenjkfpaa.Dat
