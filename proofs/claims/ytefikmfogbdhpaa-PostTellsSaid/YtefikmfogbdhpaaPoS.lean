/- Post: slices.BinarySearch. -/
import Derived.Test.YtefikmfogbdhpaaPoP
import Derived.WalkSpells
namespace Go.Proofs.Ytefikmfogbdhpaa.Po
open Go.ChangeShapes Go.WideShapes Go.ChangeAt Go.RowKit Go.Proofs.Ytefikmfogbdhpaa.Cell
set_option linter.unusedVariables false
set_option linter.unusedSimpArgs false

set_option maxHeartbeats 1000000 in
theorem cnan_any (x : Int) (w : World) : Calls Try.prog 31 #[.int .i64 x] w fun e w' => e = .returned (.bool false) ∧ w = w' := by
  go_enter Try.func31, Try.ntmps31
  go_wp2
  go_ret
  exact ⟨ret_bool (by simp), rfl⟩
set_option maxHeartbeats 1000000 in
theorem snan_any (x : Int) (w : World) : Calls Try.prog 28 #[.int .i64 x] w fun e w' => e = .returned (.bool false) ∧ w = w' := by
  go_enter Try.func28, Try.ntmps28
  go_wp2
  go_ret
  exact ⟨ret_bool (by simp), rfl⟩
set_option maxHeartbeats 1000000 in
theorem less_any (x y : Int) (w : World) : Calls Try.prog 27 #[.int .i64 x, .int .i64 y] w fun e w' => e = .returned (.bool (decide (x < y))) ∧ w = w' := by
  go_enter Try.func27, Try.ntmps27
  go_wp2_with (fail)
  go_must (refine (cnan_any _ _).mono ?_)
  rintro e w1 ⟨rfl, rfl⟩
  go_wp2
  go_ret
  exact ⟨rfl, rfl⟩
theorem less_is {x y : Int} {b : Bool} (w : World) (h : decide (x < y) = b) : Calls Try.prog 27 #[.int .i64 x, .int .i64 y] w fun e w' => e = .returned (.bool b) ∧ w = w' := by
  have hh := less_any x y w
  rw [h] at hh
  exact hh
/-- strictly ascending -/
def asc (l : List Int) : Prop := ∀ (i j : Nat) x y, i < j → l[i]? = some x → l[j]? = some y → x < y
/-- what a binary search knows -/
structure BS (l : List Int) (t : Int) (i j : Nat) : Prop where
  le : i ≤ j
  len : j ≤ l.length
  lo : ∀ k x, k < i → l[k]? = some x → x < t
  hi : ∀ k x, j ≤ k → l[k]? = some x → t ≤ x
theorem BS.start (l : List Int) (t : Int) : BS l t 0 l.length := ⟨Nat.zero_le _, Nat.le_refl _, fun k x h => by omega, fun k x h h2 => by
  have := lt_of_at h2
  omega⟩
theorem BS.up {l : List Int} {t : Int} {i j h : Nat} {x : Int} (b : BS l t i j) (ha : asc l) (h1 : i ≤ h) (h2 : h < j) (hx : l[h]? = some x) (hlt : x < t) : BS l t (h + 1) j :=
  ⟨by omega, b.len, fun k y hk hy => by
    by_cases e : k = h
    · subst e; rw [hx] at hy; injection hy with hy; omega
    · have := ha k h y x (by omega) hy hx; omega, b.hi⟩
theorem BS.down {l : List Int} {t : Int} {i j h : Nat} {x : Int} (b : BS l t i j) (ha : asc l) (h1 : i ≤ h) (h2 : h < j) (hx : l[h]? = some x) (hge : t ≤ x) : BS l t i h :=
  ⟨h1, by have := b.len; omega, b.lo, fun k y hk hy => by
    by_cases e : k = h
    · subst e; rw [hx] at hy; injection hy with hy; omega
    · have := ha h k x y (by omega) hx hy; omega⟩
theorem BS.out {l : List Int} {t : Int} {i : Nat} (b : BS l t i i) (hi : l.length ≤ i) : t ∉ l := fun hm => by
  obtain ⟨k, hk⟩ := List.mem_iff_getElem?.1 hm
  have := lt_of_at hk
  have := b.lo k t (by omega) hk
  omega
theorem BS.at_ {l : List Int} {t x : Int} {i : Nat} (b : BS l t i i) (ha : asc l) (hx : l[i]? = some x) : t ∈ l ↔ x = t := by
  constructor
  · intro hm
    obtain ⟨k, hk⟩ := List.mem_iff_getElem?.1 hm
    rcases Nat.lt_trichotomy k i with c | c | c
    · have := b.lo k t c hk; omega
    · subst c; rw [hx] at hk; injection hk
    · have := ha i k x t c hx hk
      have := b.hi i x (Nat.le_refl _) hx
      omega
  · intro e; subst e; exact mem_of_at hx

set_option maxRecDepth 100000 in
set_option maxHeartbeats 2000000 in
theorem bsearch_is {A : Option Addr} {n cap : Nat} {zs : List Int} {t : Int} {b : Bool} (w : World) (hn : zs.length = n) (hc : Ints w A zs) (hbig : n ≤ 1000000) (ha : asc zs) (h : decide (t ∈ zs) = b) :
    Calls Try.prog 23 #[.slice A n cap, .int .i64 t] w fun e w' => ∃ i : Nat, e = .returned (.tuple #[.int .i64 i, .bool b]) ∧ BS zs t i i ∧ w = w' := by
  have HN := Lib.hid hn
  have HA := Lib.hid ha
  have HT := Lib.hid h
  clear hn ha h
  go_enter Try.func23, Try.ntmps23
  go_wp2_with (fail)
  go_loop [7, 8] (fun iv jv => ∃ i j : Nat, i ≤ j ∧ j ≤ n ∧ iv = .int .i64 i ∧ jv = .int .i64 j ∧ BS zs t i j) (fun iv jv => ((intOf jv) - (intOf iv)).toNat)
  case atStart => exact ⟨0, n, Nat.zero_le _, Nat.le_refl _, rfl, rfl, by have := BS.start zs t; rw [HN.out] at this; exact this⟩
  case round =>
    obtain ⟨i, j, hij, hjn, rfl, rfl, hb⟩ := hrel
    by_cases hlt : i < j
    · obtain ⟨b', off, rfl, hcell⟩ := hc (by rw [HN.out]; omega)
      have q0 : i ≤ (i + j) / 2 := by omega
      have q1 : (i + j) / 2 < j := by omega
      obtain ⟨z, hz⟩ := Cell.at_ zs ((i + j) / 2) (by rw [HN.out]; omega)
      have d0 := hcell _ z hz
      by_cases hzt : z < t
      · have HB := Lib.hid (hb.up HA.out q0 q1 hz hzt)
        have HL := Lib.hid (decide_eq_true hzt)
        clear hcell hz hb hzt
        go_wp2_with (fail)
        go_must (refine (less_is _ HL.out).mono ?_)
        rintro e w1 ⟨rfl, rfl⟩
        go_wp2
        go_round
        case rel => exact ⟨(i + j) / 2 + 1, j, by omega, by omega, by go_num, rfl, HB.out⟩
        case measure => simp [intOf]; omega
      · have HB := Lib.hid (hb.down HA.out q0 q1 hz (by omega))
        have HL := Lib.hid (decide_eq_false hzt)
        clear hcell hz hb hzt
        go_wp2_with (fail)
        go_must (refine (less_is _ HL.out).mono ?_)
        rintro e w1 ⟨rfl, rfl⟩
        go_wp2
        go_round
        case rel => exact ⟨i, (i + j) / 2, by omega, by omega, rfl, by go_num, HB.out⟩
        case measure => simp [intOf]; omega
    · obtain rfl : j = i := by omega
      by_cases hin : j < n
      · obtain ⟨b', off, rfl, hcell⟩ := hc (by rw [HN.out]; omega)
        obtain ⟨z, hz⟩ := Cell.at_ zs j (by rw [HN.out]; exact hin)
        have d0 := hcell j z hz
        have hm := hb.at_ HA.out hz
        have HB := Lib.hid hb
        cases b
        · have hzt : z ≠ t := fun e => of_decide_eq_false HT.out (hm.2 e)
          have hbt : (z == t) = false := by simpa using hzt
          clear hcell hz hb hm hzt hc
          go_wp2_with (fail)
          go_must (refine (snan_any _ _).mono ?_)
          rintro e w1 ⟨rfl, rfl⟩
          go_wp2
          exact bodyPost_ret (v := .tuple #[.int .i64 j, .bool false]) (by simp [results, Try.results23, go_sem]) rfl ⟨j, rfl, HB.out, rfl⟩
        · have hzt : z = t := hm.1 (of_decide_eq_true HT.out)
          have hbt : (z == t) = true := by simpa using hzt
          clear hcell hz hb hm hzt hc
          go_wp2
          exact bodyPost_ret (v := .tuple #[.int .i64 j, .bool true]) (by simp [results, Try.results23, go_sem]) rfl ⟨j, rfl, HB.out, rfl⟩
      · have hb0 : b = false := by
          rw [← HT.out]
          exact decide_eq_false (hb.out (by rw [HN.out]; omega))
        subst hb0
        have HB := Lib.hid hb
        clear hb hc
        go_wp2
        exact bodyPost_ret (v := .tuple #[.int .i64 j, .bool false]) (by simp [results, Try.results23, go_sem]) rfl ⟨j, rfl, HB.out, rfl⟩

end Go.Proofs.Ytefikmfogbdhpaa.Po
