/- Package vote: the examples of the statements hold. -/
import Derived.Test.YtblegaclcpoonaaVoteE
import Derived.Deep.RegionHeld3
namespace Go.Proofs.Ytblegaclcpoonaa.Vote
open Go.ChangeShapes Go.WideShapes Go.ChangeAt Go.RowKit
set_option linter.unusedVariables false

def ul : List Int := [10, 20, 30]
def dl : List Int := [0, 1, 3, 4, 9]
def wl : List Int := [0, 10, 40, 10, 30]
def ics (zs : List Int) : Array Value := (zs.map (Value.int .i64)).toArray
theorem ics_at {zs : List Int} {j : Nat} {z : Int} (h : zs[j]? = some z) : (ics zs)[j]? = some (.int .i64 z) := by simp [ics, h]
theorem Row.ints {w : World} {g : Nat} {zs : List Int} (h : Row w g 3 (ics zs)) : Ints w (some ⟨g, 0, none⟩) zs := fun _ => ⟨g, 0, rfl, fun j z hz => by rw [Nat.zero_add]; exact (h.cell j).trans (ics_at hz)⟩

theorem ex_tally {k : Nat} {d x : Int} (hd : dl[k]? = some d) (hx : wl[k]? = some x) : tY ul smp d = x ∧ tA ul smp = 60 ∧ tE ul smp = 0 := by
  have hk : k < 5 := (List.getElem?_eq_some_iff.1 hd).1
  match k, hk, hd, hx with
  | 0, _, hd, hx => simp [dl] at hd; simp [wl] at hx; subst hd hx; decide
  | 1, _, hd, hx => simp [dl] at hd; simp [wl] at hx; subst hd hx; decide
  | 2, _, hd, hx => simp [dl] at hd; simp [wl] at hx; subst hd hx; decide
  | 3, _, hd, hx => simp [dl] at hd; simp [wl] at hx; subst hd hx; decide
  | 4, _, hd, hx => simp [dl] at hd; simp [wl] at hx; subst hd hx; decide

theorem tally_ex {k : Nat} {d x : Int} (hd : dl[k]? = some d) (hx : wl[k]? = some x) (g g' : Nat) (w : World) (hc : Ints w (some ⟨g, 0, none⟩) ul) (hc' : Votes w (some ⟨g', 0, none⟩) smp) :
    Calls Try.prog 31 #[.slice (some ⟨g, 0, none⟩) 3 3, .slice (some ⟨g', 0, none⟩) 4 4, .int .i64 d] w fun e w' => e = .returned (.tuple #[.int .i64 x, .int .i64 60, .int .i64 0]) ∧ Below w.heap.size w w' := by
  have h := tally_any (some ⟨g, 0, none⟩) 3 3 ul (some ⟨g', 0, none⟩) 4 4 smp d w rfl hc (by omega) rfl hc' (by omega)
  obtain ⟨e1, e2, e3⟩ := ex_tally hd hx
  rw [e1, e2, e3] at h
  exact h

theorem rowAt (w : World) (t : TypeId) (cs : Array Value) {g : Nat} (h : g = w.heap.size) : Row (w.alloc (.cells cs t)) g t cs := by
  subst h
  exact Row.new _ _ _
theorem reach_ex (w : World) : Calls Try.prog 33 #[.int .i64 666, .int .i64 40, .int .i64 60] w fun e w' => e = .returned (.bool true) ∧ w = w' := by
  have h := reached_any 666 40 60 w
  rw [show rch 666 40 60 = true from by decide] at h
  exact h
theorem reach_ex2 (w : World) : Calls Try.prog 33 #[.int .i64 667, .int .i64 40, .int .i64 60] w fun e w' => e = .returned (.bool false) ∧ w = w' := by
  have h := reached_any 667 40 60 w
  rw [show rch 667 40 60 = false from by decide] at h
  exact h
theorem miss_ex (w : World) : Calls Try.prog 35 #[.int .i64 667, .int .i64 40, .int .i64 60] w fun e w' => e = .returned (.int .i64 1) ∧ w = w' := by
  have h := missing_any 667 40 60 w
  rw [show mis 667 40 60 = 1 from by decide] at h
  exact h
theorem miss_ex2 (w : World) : Calls Try.prog 35 #[.int .i64 1000, .int .i64 10, .int .i64 60] w fun e w' => e = .returned (.int .i64 50) ∧ w = w' := by
  have h := missing_any 1000 10 60 w
  rw [show mis 1000 10 60 = 50 from by decide] at h
  exact h
theorem last_ex (g : Nat) (w : World) (hc : Votes w (some ⟨g, 0, none⟩) smp) :
    Calls Try.prog 38 #[.slice (some ⟨g, 0, none⟩) 4 4, .int .i64 3, .int .i64 3] w fun e w' => e = .returned (.slice (some ⟨w.heap.size, 0, none⟩) 3 3) ∧ Below w.heap.size w w' ∧ Row w' w.heap.size 4 (bcs [true, false, true]) := by
  have h := last_any (some ⟨g, 0, none⟩) 4 4 smp 3 3 w rfl hc (by omega) (by omega) (by omega)
  rw [show lastV 3 3 smp = [true, false, true] from by decide] at h
  exact h
theorem bools_ex (g g' : Nat) (w : World) (h : Row w g 4 (bcs [true, false, true])) (h' : Row w g' 4 (bcs [true, false, true])) :
    Calls Try.prog 37 #[.slice (some ⟨g, 0, none⟩) 3 3, .slice (some ⟨g', 0, none⟩) 3 3] w fun e w' => e = .returned (.bool true) ∧ Below w.heap.size w w' := by
  have hh := bools_any (some ⟨g, 0, none⟩) 3 3 [true, false, true] (some ⟨g', 0, none⟩) 3 3 [true, false, true] w rfl h.boos (by omega) rfl h'.boos (by omega)
  rw [show bEq [true, false, true] [true, false, true] = true from by decide] at hh
  exact hh

/-- what holds of the three slices of the example -/
theorem held_s {w W W' : World} {g k : Nat} {d : Int} {U D X : Array Value} (hb : Below W.heap.size W W')
    (h : Below w.heap.size w W ∧ Row W g 3 U ∧ Row W (g + 1) 3 D ∧ Row W (g + 1 + 1) 3 X ∧ W.cell? ⟨g + 1, k, none⟩ = some (.int .i64 d)) :
    Below w.heap.size w W' ∧ Row W' g 3 U ∧ Row W' (g + 1) 3 D ∧ Row W' (g + 1 + 1) 3 X ∧ W'.cell? ⟨g + 1, k, none⟩ = some (.int .i64 d) :=
  ⟨over hb h.1, h.2.1.keep hb, h.2.2.1.keep hb, h.2.2.2.1.keep hb, keep hb _ _ _ h.2.2.2.2⟩
theorem held_i {w W : World} {g k : Nat} {d : Int} {D X : Array Value}
    (h : Below w.heap.size w W ∧ Row W g 3 (ics ul) ∧ Row W (g + 1) 3 D ∧ Row W (g + 1 + 1) 3 X ∧ W.cell? ⟨g + 1, k, none⟩ = some (.int .i64 d)) : Ints W (some ⟨g, 0, none⟩) ul := h.2.1.ints

set_option maxRecDepth 100000 in
set_option maxHeartbeats 4000000 in
theorem small_any (w : World) : Calls Try.prog 30 #[] w fun e w' => e = .returned (.bool true) ∧ Below w.heap.size w w' := by
  go_enter Try.func30, Try.ntmps30
  go_wp2
  go_loopw [4] (fun i wr => ∃ k : Nat, k ≤ 5 ∧ i = .int .i64 k ∧ Row wr w.heap.size 3 (ics ul) ∧ Row wr (w.heap.size + 1) 3 (ics dl) ∧ Row wr (w.heap.size + 1 + 1) 3 (ics wl) ∧ Below w.heap.size w wr) (fun i _ => 5 - (intOf i).toNat)
  case atStart =>
    refine ⟨0, by omega, rfl, ?_, ?_, ?_, by go_grown⟩
    · exact ((Row.new _ _ _).alloc _).alloc _
    · exact (rowAt _ _ _ (by simp)).alloc _
    · exact rowAt _ _ _ (by simp)
  case round =>
    obtain ⟨k, hk, rfl, hU, hD, hX, hB⟩ := hrel
    by_cases hlt : k < 5
    · obtain ⟨d, hd⟩ := at_ dl k (by simpa [dl] using hlt)
      obtain ⟨x, hx⟩ := at_ wl k (by simpa [wl] using hlt)
      have cd : wr.cell? ⟨w.heap.size + 1, k, none⟩ = some (.int .i64 d) := (hD.cell k).trans (ics_at hd)
      have HD := Lib.hid hd
      have HX := Lib.hid hx
      have k0 : (0 : Int) ≤ (k : Int) := by omega
      have k1 : (k : Int) < 5 := by omega
      clear hd hx
      go_wp2
      go_region_held3 (fun W' => Below w.heap.size w W' ∧ Row W' w.heap.size 3 (ics ul) ∧ Row W' (w.heap.size + 1) 3 (ics dl) ∧ Row W' (w.heap.size + 1 + 1) 3 (ics wl) ∧ W'.cell? ⟨w.heap.size + 1, k, none⟩ = some (.int .i64 d))
        (first | exact ⟨hB.drew, hU, hD, hX, cd⟩ | exact held_s (by assumption) (by assumption))
        (first | (go_at_call 60; refine (sample_any _).mono ?_; rintro e w' ⟨rfl, hb', hv'⟩) | (go_at_call 31; refine (tally_ex HD.out HX.out _ _ _ (held_i (by assumption)) (by assumption)).mono ?_; rintro e w' ⟨rfl, hb'⟩))
      rename_i hH
      obtain ⟨hB', hU', hD', hX', _⟩ := hH
      have cx := (hX'.cell k).trans (ics_at HX.out)
      have hS : w.heap.size ≤ w'.heap.size := hB'.size
      go_wp2
      go_roundw
      case rel => exact ⟨k + 1, by omega, by go_num, hU', hD', hX', hB'⟩
      case measure => simp [intOf]; omega
    · obtain rfl : k = 5 := by omega
      have hS : w.heap.size ≤ wr.heap.size := hB.size
      clear hU hD hX
      go_wp2_with (fail)
      refine (reach_ex _).mono ?_
      rintro e w' ⟨rfl, rfl⟩
      go_wp2_with (fail)
      refine (reach_ex2 _).mono ?_
      rintro e w' ⟨rfl, rfl⟩
      go_wp2_with (fail)
      refine (miss_ex _).mono ?_
      rintro e w' ⟨rfl, rfl⟩
      go_wp2_with (fail)
      refine (miss_ex2 _).mono ?_
      rintro e w' ⟨rfl, rfl⟩
      go_wp2_with (fail)
      refine (sample_any _).mono ?_
      rintro e w1 ⟨rfl, hb1, hv1⟩
      go_wp2_with (fail)
      refine (last_ex _ _ hv1).mono ?_
      rintro e w2 ⟨rfl, hb2, hr2⟩
      have hB2 : Below w.heap.size w w2 := over hb2 (over hb1 hB)
      have hS2 : w.heap.size ≤ w2.heap.size := hB2.size
      clear hb1 hb2 hv1 hB
      go_wp2_with (fail)
      refine (bools_ex _ _ _ (hr2.alloc _) (Row.new _ _ _)).mono ?_
      rintro e w3 ⟨rfl, hb3⟩
      have hB3 : Below w.heap.size w w3 := over hb3 (by go_grown)
      clear hb3 hr2 hB2
      go_wp2
      go_ret
      exact ⟨rfl, hB3⟩
end Go.Proofs.Ytblegaclcpoonaa.Vote
