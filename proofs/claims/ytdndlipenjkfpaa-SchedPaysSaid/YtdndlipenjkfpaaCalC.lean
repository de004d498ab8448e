/- Package cal: the contracts of ascending, isDay, Right, Contains, BinarySearch, open, Business. -/
import Derived.Test.YtdndlipenjkfpaaCalP
import Derived.Test.YtdndlipenjkfpaaDatC
namespace Go.Proofs.Ytdndlipenjkfpaa.Dat
open Go.ChangeShapes Go.WideShapes Go.ChangeAt Go.RowKit Go.Proofs.Ytdndlipenjkfpaa.Cell
set_option linter.unusedVariables false
set_option linter.unusedSimpArgs false

set_option maxHeartbeats 1000000 in
theorem asc_any (A : Option Addr) (n cap : Nat) (zs : List Int) (m : Int) (w : World) (hn : zs.length = n) (hc : Ints w A zs) (hbig : n ≤ 1000000) :
    Calls Try.prog 45 #[.slice A n cap, .int .i64 m] w fun e w' => e = .returned (.bool (ascA m (-1) zs)) ∧ w = w' := by
  have HN := Lib.hid hn
  clear hn
  go_enter Try.func45, Try.ntmps45
  go_wp2_with (fail)
  go_loop [5, 10] (fun bv iv => ∃ (k : Nat) (b : Int), k ≤ n ∧ iv = .int .i64 k ∧ bv = .int .i64 b ∧ ascA m (-1) zs = ascA m b (zs.drop k)) (fun _ iv => n - (intOf iv).toNat)
  case atStart => exact ⟨0, -1, Nat.zero_le _, rfl, rfl, rfl⟩
  case round =>
    obtain ⟨k, b, hk, rfl, rfl, hq⟩ := hrel
    by_cases hlt : k < n
    · obtain ⟨b', off, rfl, hcell⟩ := hc (by rw [HN.out]; omega)
      obtain ⟨z, hz⟩ := at_ zs k (by rw [HN.out]; exact hlt)
      have d0 := hcell k z hz
      by_cases h1 : b < z ∧ z ≤ m
      · have HS := Lib.hid (hq.trans (ascA_step hz h1.1 h1.2))
        obtain ⟨h1, h2⟩ := h1
        clear hcell hz hq hc
        go_wp2
        go_round
        case rel => exact ⟨k + 1, z, by omega, by go_num, rfl, HS.out⟩
        case measure => simp [intOf]; omega
      · have HS := Lib.hid (hq.trans (ascA_stop hz h1))
        rcases (show z ≤ b ∨ (b < z ∧ m < z) by omega) with a | ⟨a, c⟩
        all_goals
          clear hcell hz hq h1 hc
          go_wp2
          go_ret
          exact ⟨ret_bool HS.out.symm, rfl⟩
    · have HS := Lib.hid (hq.trans (ascA_end (by rw [HN.out]; omega)))
      clear hq hc
      go_wp2
      go_ret
      exact ⟨ret_bool HS.out.symm, rfl⟩
theorem asc_is {A : Option Addr} {n cap : Nat} {zs : List Int} {m : Int} {b : Bool} (w : World) (hn : zs.length = n) (hc : Ints w A zs) (hbig : n ≤ 1000000) (h : ascA m (-1) zs = b) :
    Calls Try.prog 45 #[.slice A n cap, .int .i64 m] w fun e w' => e = .returned (.bool b) ∧ w = w' := by
  have hh := asc_any A n cap zs m w hn hc hbig
  rw [h] at hh
  exact hh

theorem dy_yes {day : Int} (h0 : 0 ≤ day) (h1 : day ≤ 200000) : dy day = true := decide_eq_true ⟨h0, h1⟩
theorem dy_no {day : Int} (h : ¬ (0 ≤ day ∧ day ≤ 200000)) : dy day = false := decide_eq_false h
theorem dy_in {day : Int} (h : dy day = true) : 0 ≤ day ∧ day ≤ 200000 := of_decide_eq_true h
theorem dy_out {day : Int} (h : dy day = false) : day < 0 ∨ (0 ≤ day ∧ 200000 < day) := by
  have := of_decide_eq_false h
  omega
set_option maxHeartbeats 1000000 in
theorem isDay_any (day : Int) (w : World) :
    Calls Try.prog 47 #[.int .i64 day] w fun e w' => e = .returned (.bool (dy day)) ∧ w = w' := by
  cases h : dy day
  · rcases dy_out h with a | ⟨a, b⟩
    · clear h
      go_enter Try.func47, Try.ntmps47
      go_wp2
      go_ret
      exact ⟨rfl, rfl⟩
    · clear h
      go_enter Try.func47, Try.ntmps47
      go_wp2
      go_ret
      exact ⟨ret_bool (decide_eq_false (by omega)), rfl⟩
  · obtain ⟨a, b⟩ := dy_in h
    clear h
    go_enter Try.func47, Try.ntmps47
    go_wp2
    go_ret
    exact ⟨rfl, rfl⟩
theorem isDay_is {day : Int} {b : Bool} (w : World) (h : dy day = b) :
    Calls Try.prog 47 #[.int .i64 day] w fun e w' => e = .returned (.bool b) ∧ w = w' := by
  have hh := isDay_any day w
  rw [h] at hh
  exact hh

/-- the place of the first one that is v, or -1 -/
def ix (v : Int) : Nat → List Int → Int
  | _, [] => -1
  | k, z :: zs => if v = z then k else ix v (k + 1) zs
theorem ix_step {v z : Int} {l : List Int} {k : Nat} (h : l[k]? = some z) (h1 : v ≠ z) : ix v k (l.drop k) = ix v (k + 1) (l.drop (k + 1)) := by
  rw [drop_cons h, ix, if_neg h1]
theorem ix_here {v z : Int} {l : List Int} {k : Nat} (h : l[k]? = some z) (h1 : v = z) : ix v k (l.drop k) = k := by
  rw [drop_cons h, ix, if_pos h1]
theorem ix_end {v : Int} {l : List Int} {k j : Nat} (h : l.length ≤ k) : ix v j (l.drop k) = -1 := by
  rw [List.drop_of_length_le h]; rfl
theorem ix_mem {v : Int} : ∀ (l : List Int) (k : Nat), (v ∈ l → 0 ≤ ix v k l) ∧ (v ∉ l → ix v k l = -1)
  | [], k => ⟨fun h => by simp at h, fun _ => rfl⟩
  | z :: l, k => by
    have := ix_mem (v := v) l (k + 1)
    rw [ix]
    by_cases h : v = z
    · rw [if_pos h]
      exact ⟨fun _ => by omega, fun hn => absurd (by simp [h]) hn⟩
    · rw [if_neg h]
      exact ⟨fun hm => this.1 (by simpa [h] using hm), fun hn => this.2 fun hm => hn (by simp [hm])⟩
set_option maxHeartbeats 1000000 in
theorem index_any (A : Option Addr) (n cap : Nat) (zs : List Int) (v : Int) (w : World) (hn : zs.length = n) (hc : Ints w A zs) (hbig : n ≤ 1000000) :
    Calls Try.prog 69 #[.slice A n cap, .int .i64 v] w fun e w' => e = .returned (.int .i64 (ix v 0 zs)) ∧ w = w' := by
  have HN := Lib.hid hn
  clear hn
  go_enter Try.func69, Try.ntmps69
  go_wp2_with (fail)
  go_loop [8] (fun iv => ∃ k : Nat, k ≤ n ∧ iv = .int .i64 k ∧ ix v 0 zs = ix v k (zs.drop k)) (fun iv => n - (intOf iv).toNat)
  case atStart => exact ⟨0, Nat.zero_le _, rfl, rfl⟩
  case round =>
    obtain ⟨k, hk, rfl, hq⟩ := hrel
    by_cases hlt : k < n
    · obtain ⟨b', off, rfl, hcell⟩ := hc (by rw [HN.out]; omega)
      obtain ⟨z, hz⟩ := at_ zs k (by rw [HN.out]; exact hlt)
      have d0 := hcell k z hz
      by_cases h1 : v = z
      · have HS := Lib.hid (hq.trans (ix_here hz h1))
        have hb : (v == z) = true := by simpa using h1
        clear hcell hz hq hc h1
        go_wp2
        go_ret
        exact ⟨ret_int HS.out.symm, rfl⟩
      · have HS := Lib.hid (hq.trans (ix_step hz h1))
        have hb : (v == z) = false := by simpa using h1
        clear hcell hz hq hc h1
        go_wp2
        go_round
        case rel => exact ⟨k + 1, by omega, by go_num, HS.out⟩
        case measure => simp [intOf]; omega
    · have HS := Lib.hid (hq.trans (ix_end (by rw [HN.out]; omega)))
      clear hq hc
      go_wp2
      go_ret
      exact ⟨ret_int HS.out.symm, rfl⟩
theorem index_is {A : Option Addr} {n cap : Nat} {zs : List Int} {v x : Int} (w : World) (hn : zs.length = n) (hc : Ints w A zs) (hbig : n ≤ 1000000) (h : ix v 0 zs = x) :
    Calls Try.prog 69 #[.slice A n cap, .int .i64 v] w fun e w' => e = .returned (.int .i64 x) ∧ w = w' := by
  have hh := index_any A n cap zs v w hn hc hbig
  rw [h] at hh
  exact hh
set_option maxHeartbeats 1000000 in
theorem contains_is {A : Option Addr} {n cap : Nat} {zs : List Int} {v : Int} {b : Bool} (w : World) (hn : zs.length = n) (hc : Ints w A zs) (hbig : n ≤ 1000000) (h : decide (v ∈ zs) = b) :
    Calls Try.prog 63 #[.slice A n cap, .int .i64 v] w fun e w' => e = .returned (.bool b) ∧ w = w' := by
  obtain ⟨x, hx⟩ : ∃ x, ix v 0 zs = x := ⟨_, rfl⟩
  have hm := ix_mem (v := v) zs 0
  rw [hx] at hm
  have HX := Lib.hid hx
  have HN := Lib.hid hn
  cases b
  · have x0 := hm.2 (of_decide_eq_false h)
    subst x0
    clear hm h hx hn
    go_enter Try.func63, Try.ntmps63
    go_wp2_with (fail)
    go_must (refine (index_is _ HN.out hc hbig HX.out).mono ?_)
    rintro e w1 ⟨rfl, rfl⟩
    go_wp2
    go_ret
    exact ⟨rfl, rfl⟩
  · have x0 := hm.1 (of_decide_eq_true h)
    clear hm h hx hn
    go_enter Try.func63, Try.ntmps63
    go_wp2_with (fail)
    go_must (refine (index_is _ HN.out hc hbig HX.out).mono ?_)
    rintro e w1 ⟨rfl, rfl⟩
    go_wp2
    go_ret
    exact ⟨rfl, rfl⟩

set_option maxHeartbeats 1000000 in
theorem cnan_any (x : Int) (w : World) : Calls Try.prog 74 #[.int .i64 x] w fun e w' => e = .returned (.bool false) ∧ w = w' := by
  go_enter Try.func74, Try.ntmps74
  go_wp2
  go_ret
  exact ⟨ret_bool (by simp), rfl⟩
set_option maxHeartbeats 1000000 in
theorem snan_any (x : Int) (w : World) : Calls Try.prog 71 #[.int .i64 x] w fun e w' => e = .returned (.bool false) ∧ w = w' := by
  go_enter Try.func71, Try.ntmps71
  go_wp2
  go_ret
  exact ⟨ret_bool (by simp), rfl⟩
set_option maxHeartbeats 1000000 in
theorem less_any (x y : Int) (w : World) : Calls Try.prog 70 #[.int .i64 x, .int .i64 y] w fun e w' => e = .returned (.bool (decide (x < y))) ∧ w = w' := by
  go_enter Try.func70, Try.ntmps70
  go_wp2_with (fail)
  go_must (refine (cnan_any _ _).mono ?_)
  rintro e w1 ⟨rfl, rfl⟩
  go_wp2
  go_ret
  exact ⟨rfl, rfl⟩
theorem less_is {x y : Int} {b : Bool} (w : World) (h : decide (x < y) = b) : Calls Try.prog 70 #[.int .i64 x, .int .i64 y] w fun e w' => e = .returned (.bool b) ∧ w = w' := by
  have hh := less_any x y w
  rw [h] at hh
  exact hh
end Go.Proofs.Ytdndlipenjkfpaa.Dat
