/- Who is paid, in plain words; the contracts of late and runs, the program's and the reference's. -/
import Derived.Test.YtpekedhcnijgcaaEntA
namespace Go.Proofs.Ytpekedhcnijgcaa.Book
open Go.ChangeShapes Go.WideShapes Go.ChangeAt Go.RowKit Go.Proofs.Ytpekedhcnijgcaa.Cell
set_option linter.unusedVariables false
set_option linter.unusedSimpArgs false

def late (day : Int) (x : Tr) : Bool := decide (x.k = 0 ∧ x.d ≤ day ∧ (x.o = -1 ∨ day < x.o))
def runs (day : Int) (x : Tr) : Bool := decide (x.k = 1 ∧ 0 ≤ x.o ∧ x.o ≤ day ∧ day < x.b)
def bump (us : List Int) (i v : Int) : List Int := us.set i.toNat (us.getD i.toNat 0 + v)
/-- what a trade does to the units of the seats -/
def stp (day : Int) (us : List Int) (x : Tr) : List Int :=
  if late day x = true then bump (bump us x.f (-x.u)) x.t x.u else if runs day x = true then bump (bump us x.f x.u) x.t (-x.u) else us
def sums (day : Int) (us : List Int) (l : List Tr) : List Int := l.foldl (stp day) us
theorem bump_length (us : List Int) (i v : Int) : (bump us i v).length = us.length := by simp [bump]
theorem stp_length (day : Int) (us : List Int) (x : Tr) : (stp day us x).length = us.length := by
  unfold stp
  split
  · rw [bump_length, bump_length]
  · split
    · rw [bump_length, bump_length]
    · rfl
theorem sums_snoc (day : Int) (us : List Int) (l : List Tr) (x : Tr) : sums day us (l ++ [x]) = stp day (sums day us l) x := by simp [sums]
theorem sums_length (day : Int) (us : List Int) (l : List Tr) : (sums day us l).length = us.length := by
  induction l generalizing us with
  | nil => rfl
  | cons x l ih => rw [sums, List.foldl_cons]; exact (ih _).trans (stp_length _ _ _)
theorem late_runs {day : Int} {x : Tr} (h : late day x = true) : runs day x = false := by
  have h1 := of_decide_eq_true h
  exact decide_eq_false (by omega)
/-- what a trade adds to what a seat is paid for -/
def dlt (day : Int) (x : Tr) (i : Int) : Int :=
  if late day x = true then (if x.f = i then -x.u else 0) + (if x.t = i then x.u else 0) else if runs day x = true then (if x.f = i then x.u else 0) + (if x.t = i then -x.u else 0) else 0
theorem bump_at {us : List Int} {i j : Int} {v : Int} (hi : 0 ≤ i ∧ i < us.length) (hj : 0 ≤ j) : (bump us i v).getD j.toNat 0 = us.getD j.toNat 0 + if i = j then v else 0 := by
  unfold bump
  by_cases h : i = j
  · subst h
    rw [if_pos rfl, List.getD_eq_getElem?_getD (l := us.set _ _), List.getElem?_set_self (by omega)]
    rfl
  · rw [if_neg h, List.getD_eq_getElem?_getD (l := us.set _ _), List.getElem?_set_ne (by omega), ← List.getD_eq_getElem?_getD]
    omega
theorem stp_at {day : Int} {us : List Int} {x : Tr} {j : Int} (hf : 0 ≤ x.f ∧ x.f < us.length) (ht : 0 ≤ x.t ∧ x.t < us.length) (hj : 0 ≤ j) : (stp day us x).getD j.toNat 0 = us.getD j.toNat 0 + dlt day x j := by
  unfold stp dlt
  split
  · rw [bump_at (by rw [bump_length]; exact ht) hj, bump_at hf hj]; omega
  · split
    · rw [bump_at (by rw [bump_length]; exact ht) hj, bump_at hf hj]; omega
    · omega
theorem okD_u {x : Tr} (h : okD x = true) : 1 ≤ x.u ∧ x.u ≤ 1000000000 ∧ x.f ≠ x.t := by
  have := of_decide_eq_true h
  omega
theorem dlt_in {day : Int} {x : Tr} (h : okD x = true) (i : Int) : -1000000000 ≤ dlt day x i ∧ dlt day x i ≤ 1000000000 := by
  have hu := okD_u h
  unfold dlt
  repeat' split
  all_goals omega
/-- seats and trades that are right -/
structure Rt (ss : List (Int × Int)) (us : List Int) (l : List Tr) : Prop where
  v : vd ss us = true
  r : rtT ss l = true
theorem Rt.len {ss : List (Int × Int)} {us : List Int} {l : List Tr} (h : Rt ss us l) : us.length = ss.length := (vd_in h.v).2.1
theorem Rt.mem {ss : List (Int × Int)} {us : List Int} {l : List Tr} (h : Rt ss us l) {k : Nat} {x : Tr} (hx : l[k]? = some x) : (0 ≤ x.f ∧ x.f < us.length) ∧ (0 ≤ x.t ∧ x.t < us.length) ∧ okD x = true ∧ lf ss x.f = true ∧ lf ss x.t = true := by
  obtain ⟨a, b, c⟩ := okT_in ((rtT_in h.r).2.2 x (mem_of_at hx))
  have := lf_in a
  have := lf_in b
  have := h.len
  exact ⟨by omega, by omega, c, a, b⟩
theorem sums_in {ss : List (Int × Int)} {us : List Int} {l : List Tr} (h : Rt ss us l) (day : Int) : ∀ (k : Nat), k ≤ l.length → ∀ j : Nat, j < us.length → -(1000000000 * (k : Int)) ≤ (sums day us (l.take k)).getD j 0 ∧ (sums day us (l.take k)).getD j 0 ≤ 1000000000 + 1000000000 * (k : Int)
  | 0, _, j, hj => by
    have : (us.getD j 0) = us[j] := by rw [List.getD_eq_getElem?_getD, List.getElem?_eq_getElem hj]; rfl
    have hu := vd_all h.v us[j] (List.getElem_mem hj)
    simp only [List.take_zero, sums, List.foldl_nil]
    rw [this]
    omega
  | k + 1, hk, j, hj => by
    obtain ⟨x, hx⟩ := at_ l k (by omega)
    obtain ⟨a, b, c, _, _⟩ := h.mem hx
    have ih := sums_in h day k (by omega) j hj
    have hs := stp_at (day := day) (us := sums day us (l.take k)) (x := x) (j := (j : Int)) (by rw [sums_length]; exact a) (by rw [sums_length]; exact b) (by omega)
    rw [Int.toNat_natCast] at hs
    rw [take_snoc hx, sums_snoc, hs]
    have := dlt_in (day := day) c (j : Int)
    omega
def pf (us : List Int) (i : Nat) : Option (Int × Int) := match us[i]? with
  | some u => if u = 0 then none else some ((i : Int), u)
  | none => none
theorem pf_at {us : List Int} {i : Nat} {u : Int} (h : us[i]? = some u) : pf us i = if u = 0 then none else some ((i : Int), u) := by unfold pf; rw [h]
def pdO (ss : List (Int × Int)) (us : List Int) (l : List Tr) (day : Int) : List (Int × Int) × Int :=
  if vd ss us = true ∧ rtT ss l = true ∧ 0 ≤ day ∧ day ≤ 200000 then (sel (pf (sums day us l)) ss.length, 0) else ([], 1)
set_option maxHeartbeats 1000000 in
theorem elate_0 (k f t u m d o b day : Int) (w : World) (h0 : (k == 0) = false) :
    Calls Try.prog 63 #[.agg #[.int .i64 k, .int .i64 f, .int .i64 t, .int .i64 u, .int .i64 m, .int .i64 d, .int .i64 o, .int .i64 b], .int .i64 day] w fun e w' => e = .returned (.bool (late day ⟨k, f, t, u, m, d, o, b⟩)) ∧ Below w.heap.size w w' := by
  have h0o : ¬ k = 0 := by simpa using h0
  have HF := Lib.hid (show late day ⟨k, f, t, u, m, d, o, b⟩ = false from decide_eq_false (by dsimp only; omega))
  clear h0o
  go_enter Try.func63, Try.ntmps63
  go_wp2
  go_ret
  exact ⟨ret_bool HF.out.symm, by go_grown⟩
set_option maxHeartbeats 1000000 in
theorem elate_1 (k f t u m d o b day : Int) (w : World) (h0 : k = 0) (h1 : day < d) :
    Calls Try.prog 63 #[.agg #[.int .i64 k, .int .i64 f, .int .i64 t, .int .i64 u, .int .i64 m, .int .i64 d, .int .i64 o, .int .i64 b], .int .i64 day] w fun e w' => e = .returned (.bool (late day ⟨k, f, t, u, m, d, o, b⟩)) ∧ Below w.heap.size w w' := by
  have HF := Lib.hid (show late day ⟨k, f, t, u, m, d, o, b⟩ = false from decide_eq_false (by dsimp only; omega))
  subst h0
  go_enter Try.func63, Try.ntmps63
  go_wp2
  go_ret
  exact ⟨ret_bool HF.out.symm, by go_grown⟩
set_option maxHeartbeats 1000000 in
theorem elate_2 (k f t u m d o b day : Int) (w : World) (h0 : k = 0) (h1 : d ≤ day) (h2 : o = -1) :
    Calls Try.prog 63 #[.agg #[.int .i64 k, .int .i64 f, .int .i64 t, .int .i64 u, .int .i64 m, .int .i64 d, .int .i64 o, .int .i64 b], .int .i64 day] w fun e w' => e = .returned (.bool (late day ⟨k, f, t, u, m, d, o, b⟩)) ∧ Below w.heap.size w w' := by
  have HF := Lib.hid (show late day ⟨k, f, t, u, m, d, o, b⟩ = true from decide_eq_true (by dsimp only; omega))
  subst h0
  subst h2
  go_enter Try.func63, Try.ntmps63
  go_wp2
  go_ret
  exact ⟨ret_bool HF.out.symm, by go_grown⟩
set_option maxHeartbeats 1000000 in
theorem elate_3 (k f t u m d o b day : Int) (w : World) (h0 : k = 0) (h1 : d ≤ day) (h2 : (o == -1) = false) :
    Calls Try.prog 63 #[.agg #[.int .i64 k, .int .i64 f, .int .i64 t, .int .i64 u, .int .i64 m, .int .i64 d, .int .i64 o, .int .i64 b], .int .i64 day] w fun e w' => e = .returned (.bool (late day ⟨k, f, t, u, m, d, o, b⟩)) ∧ Below w.heap.size w w' := by
  have h2o : ¬ o = -1 := by simpa using h2
  have HF := Lib.hid (show late day ⟨k, f, t, u, m, d, o, b⟩ = decide (day < o) from decide_eq_decide.2 (by dsimp only; omega))
  clear h2o
  subst h0
  go_enter Try.func63, Try.ntmps63
  go_wp2
  go_ret
  exact ⟨ret_bool HF.out.symm, by go_grown⟩
theorem elate_is {k f t u m d o b day : Int} {z : Bool} (w : World) (h : late day ⟨k, f, t, u, m, d, o, b⟩ = z) :
    Calls Try.prog 63 #[.agg #[.int .i64 k, .int .i64 f, .int .i64 t, .int .i64 u, .int .i64 m, .int .i64 d, .int .i64 o, .int .i64 b], .int .i64 day] w fun e w' => e = .returned (.bool z) ∧ Below w.heap.size w w' := by
  have N : ∀ {a c : Int}, ¬ a = c → (a == c) = false := fun h => by rw [beq_eq_false_iff_ne]; exact h
  rw [← h]
  by_cases h0 : k = 0
  · by_cases h1 : day < d
    · exact elate_1 k f t u m d o b day w h0 h1
    · by_cases h2 : o = -1
      · exact elate_2 k f t u m d o b day w h0 (by omega) h2
      · exact elate_3 k f t u m d o b day w h0 (by omega) (N h2)
  · exact elate_0 k f t u m d o b day w (N h0)
set_option maxHeartbeats 1000000 in
theorem eruns_0 (k f t u m d o b day : Int) (w : World) (h0 : (k == 1) = false) :
    Calls Try.prog 64 #[.agg #[.int .i64 k, .int .i64 f, .int .i64 t, .int .i64 u, .int .i64 m, .int .i64 d, .int .i64 o, .int .i64 b], .int .i64 day] w fun e w' => e = .returned (.bool (runs day ⟨k, f, t, u, m, d, o, b⟩)) ∧ Below w.heap.size w w' := by
  have h0o : ¬ k = 1 := by simpa using h0
  have HF := Lib.hid (show runs day ⟨k, f, t, u, m, d, o, b⟩ = false from decide_eq_false (by dsimp only; omega))
  clear h0o
  go_enter Try.func64, Try.ntmps64
  go_wp2
  go_ret
  exact ⟨ret_bool HF.out.symm, by go_grown⟩
set_option maxHeartbeats 1000000 in
theorem eruns_1 (k f t u m d o b day : Int) (w : World) (h0 : k = 1) (h1 : o < 0) :
    Calls Try.prog 64 #[.agg #[.int .i64 k, .int .i64 f, .int .i64 t, .int .i64 u, .int .i64 m, .int .i64 d, .int .i64 o, .int .i64 b], .int .i64 day] w fun e w' => e = .returned (.bool (runs day ⟨k, f, t, u, m, d, o, b⟩)) ∧ Below w.heap.size w w' := by
  have HF := Lib.hid (show runs day ⟨k, f, t, u, m, d, o, b⟩ = false from decide_eq_false (by dsimp only; omega))
  subst h0
  go_enter Try.func64, Try.ntmps64
  go_wp2
  go_ret
  exact ⟨ret_bool HF.out.symm, by go_grown⟩
set_option maxHeartbeats 1000000 in
theorem eruns_2 (k f t u m d o b day : Int) (w : World) (h0 : k = 1) (h1 : 0 ≤ o) (h2 : day < o) :
    Calls Try.prog 64 #[.agg #[.int .i64 k, .int .i64 f, .int .i64 t, .int .i64 u, .int .i64 m, .int .i64 d, .int .i64 o, .int .i64 b], .int .i64 day] w fun e w' => e = .returned (.bool (runs day ⟨k, f, t, u, m, d, o, b⟩)) ∧ Below w.heap.size w w' := by
  have HF := Lib.hid (show runs day ⟨k, f, t, u, m, d, o, b⟩ = false from decide_eq_false (by dsimp only; omega))
  subst h0
  go_enter Try.func64, Try.ntmps64
  go_wp2
  go_ret
  exact ⟨ret_bool HF.out.symm, by go_grown⟩
set_option maxHeartbeats 1000000 in
theorem eruns_3 (k f t u m d o b day : Int) (w : World) (h0 : k = 1) (h1 : 0 ≤ o) (h2 : o ≤ day) :
    Calls Try.prog 64 #[.agg #[.int .i64 k, .int .i64 f, .int .i64 t, .int .i64 u, .int .i64 m, .int .i64 d, .int .i64 o, .int .i64 b], .int .i64 day] w fun e w' => e = .returned (.bool (runs day ⟨k, f, t, u, m, d, o, b⟩)) ∧ Below w.heap.size w w' := by
  have HF := Lib.hid (show runs day ⟨k, f, t, u, m, d, o, b⟩ = decide (day < b) from decide_eq_decide.2 (by dsimp only; omega))
  subst h0
  go_enter Try.func64, Try.ntmps64
  go_wp2
  go_ret
  exact ⟨ret_bool HF.out.symm, by go_grown⟩
theorem eruns_is {k f t u m d o b day : Int} {z : Bool} (w : World) (h : runs day ⟨k, f, t, u, m, d, o, b⟩ = z) :
    Calls Try.prog 64 #[.agg #[.int .i64 k, .int .i64 f, .int .i64 t, .int .i64 u, .int .i64 m, .int .i64 d, .int .i64 o, .int .i64 b], .int .i64 day] w fun e w' => e = .returned (.bool z) ∧ Below w.heap.size w w' := by
  have N : ∀ {a c : Int}, ¬ a = c → (a == c) = false := fun h => by rw [beq_eq_false_iff_ne]; exact h
  rw [← h]
  by_cases h0 : k = 1
  · by_cases h1 : o < 0
    · exact eruns_1 k f t u m d o b day w h0 h1
    · by_cases h2 : day < o
      · exact eruns_2 k f t u m d o b day w h0 (by omega) h2
      · exact eruns_3 k f t u m d o b day w h0 (by omega) (by omega)
  · exact eruns_0 k f t u m d o b day w (N h0)
set_option maxHeartbeats 1000000 in
theorem rlate_0 (k f t u m d o b day : Int) (w : World) (h0 : (k == 0) = false) :
    Calls Try.prog 37 #[.agg #[.int .i64 k, .int .i64 f, .int .i64 t, .int .i64 u, .int .i64 m, .int .i64 d, .int .i64 o, .int .i64 b], .int .i64 day] w fun e w' => e = .returned (.bool (late day ⟨k, f, t, u, m, d, o, b⟩)) ∧ Below w.heap.size w w' := by
  have h0o : ¬ k = 0 := by simpa using h0
  have HF := Lib.hid (show late day ⟨k, f, t, u, m, d, o, b⟩ = false from decide_eq_false (by dsimp only; omega))
  clear h0o
  go_enter Try.func37, Try.ntmps37
  go_wp2
  go_ret
  exact ⟨ret_bool HF.out.symm, by go_grown⟩
set_option maxHeartbeats 1000000 in
theorem rlate_1 (k f t u m d o b day : Int) (w : World) (h0 : k = 0) (h1 : day < d) :
    Calls Try.prog 37 #[.agg #[.int .i64 k, .int .i64 f, .int .i64 t, .int .i64 u, .int .i64 m, .int .i64 d, .int .i64 o, .int .i64 b], .int .i64 day] w fun e w' => e = .returned (.bool (late day ⟨k, f, t, u, m, d, o, b⟩)) ∧ Below w.heap.size w w' := by
  have HF := Lib.hid (show late day ⟨k, f, t, u, m, d, o, b⟩ = false from decide_eq_false (by dsimp only; omega))
  subst h0
  go_enter Try.func37, Try.ntmps37
  go_wp2
  go_ret
  exact ⟨ret_bool HF.out.symm, by go_grown⟩
set_option maxHeartbeats 1000000 in
theorem rlate_2 (k f t u m d o b day : Int) (w : World) (h0 : k = 0) (h1 : d ≤ day) (h2 : o = -1) :
    Calls Try.prog 37 #[.agg #[.int .i64 k, .int .i64 f, .int .i64 t, .int .i64 u, .int .i64 m, .int .i64 d, .int .i64 o, .int .i64 b], .int .i64 day] w fun e w' => e = .returned (.bool (late day ⟨k, f, t, u, m, d, o, b⟩)) ∧ Below w.heap.size w w' := by
  have HF := Lib.hid (show late day ⟨k, f, t, u, m, d, o, b⟩ = true from decide_eq_true (by dsimp only; omega))
  subst h0
  subst h2
  go_enter Try.func37, Try.ntmps37
  go_wp2
  go_ret
  exact ⟨ret_bool HF.out.symm, by go_grown⟩
set_option maxHeartbeats 1000000 in
theorem rlate_3 (k f t u m d o b day : Int) (w : World) (h0 : k = 0) (h1 : d ≤ day) (h2 : (o == -1) = false) :
    Calls Try.prog 37 #[.agg #[.int .i64 k, .int .i64 f, .int .i64 t, .int .i64 u, .int .i64 m, .int .i64 d, .int .i64 o, .int .i64 b], .int .i64 day] w fun e w' => e = .returned (.bool (late day ⟨k, f, t, u, m, d, o, b⟩)) ∧ Below w.heap.size w w' := by
  have h2o : ¬ o = -1 := by simpa using h2
  have HF := Lib.hid (show late day ⟨k, f, t, u, m, d, o, b⟩ = decide (day < o) from decide_eq_decide.2 (by dsimp only; omega))
  clear h2o
  subst h0
  go_enter Try.func37, Try.ntmps37
  go_wp2
  go_ret
  exact ⟨ret_bool HF.out.symm, by go_grown⟩
theorem rlate_is {k f t u m d o b day : Int} {z : Bool} (w : World) (h : late day ⟨k, f, t, u, m, d, o, b⟩ = z) :
    Calls Try.prog 37 #[.agg #[.int .i64 k, .int .i64 f, .int .i64 t, .int .i64 u, .int .i64 m, .int .i64 d, .int .i64 o, .int .i64 b], .int .i64 day] w fun e w' => e = .returned (.bool z) ∧ Below w.heap.size w w' := by
  have N : ∀ {a c : Int}, ¬ a = c → (a == c) = false := fun h => by rw [beq_eq_false_iff_ne]; exact h
  rw [← h]
  by_cases h0 : k = 0
  · by_cases h1 : day < d
    · exact rlate_1 k f t u m d o b day w h0 h1
    · by_cases h2 : o = -1
      · exact rlate_2 k f t u m d o b day w h0 (by omega) h2
      · exact rlate_3 k f t u m d o b day w h0 (by omega) (N h2)
  · exact rlate_0 k f t u m d o b day w (N h0)
set_option maxHeartbeats 1000000 in
theorem rruns_0 (k f t u m d o b day : Int) (w : World) (h0 : (k == 1) = false) :
    Calls Try.prog 38 #[.agg #[.int .i64 k, .int .i64 f, .int .i64 t, .int .i64 u, .int .i64 m, .int .i64 d, .int .i64 o, .int .i64 b], .int .i64 day] w fun e w' => e = .returned (.bool (runs day ⟨k, f, t, u, m, d, o, b⟩)) ∧ Below w.heap.size w w' := by
  have h0o : ¬ k = 1 := by simpa using h0
  have HF := Lib.hid (show runs day ⟨k, f, t, u, m, d, o, b⟩ = false from decide_eq_false (by dsimp only; omega))
  clear h0o
  go_enter Try.func38, Try.ntmps38
  go_wp2
  go_ret
  exact ⟨ret_bool HF.out.symm, by go_grown⟩
set_option maxHeartbeats 1000000 in
theorem rruns_1 (k f t u m d o b day : Int) (w : World) (h0 : k = 1) (h1 : o < 0) :
    Calls Try.prog 38 #[.agg #[.int .i64 k, .int .i64 f, .int .i64 t, .int .i64 u, .int .i64 m, .int .i64 d, .int .i64 o, .int .i64 b], .int .i64 day] w fun e w' => e = .returned (.bool (runs day ⟨k, f, t, u, m, d, o, b⟩)) ∧ Below w.heap.size w w' := by
  have HF := Lib.hid (show runs day ⟨k, f, t, u, m, d, o, b⟩ = false from decide_eq_false (by dsimp only; omega))
  subst h0
  go_enter Try.func38, Try.ntmps38
  go_wp2
  go_ret
  exact ⟨ret_bool HF.out.symm, by go_grown⟩
set_option maxHeartbeats 1000000 in
theorem rruns_2 (k f t u m d o b day : Int) (w : World) (h0 : k = 1) (h1 : 0 ≤ o) (h2 : day < o) :
    Calls Try.prog 38 #[.agg #[.int .i64 k, .int .i64 f, .int .i64 t, .int .i64 u, .int .i64 m, .int .i64 d, .int .i64 o, .int .i64 b], .int .i64 day] w fun e w' => e = .returned (.bool (runs day ⟨k, f, t, u, m, d, o, b⟩)) ∧ Below w.heap.size w w' := by
  have HF := Lib.hid (show runs day ⟨k, f, t, u, m, d, o, b⟩ = false from decide_eq_false (by dsimp only; omega))
  subst h0
  go_enter Try.func38, Try.ntmps38
  go_wp2
  go_ret
  exact ⟨ret_bool HF.out.symm, by go_grown⟩
set_option maxHeartbeats 1000000 in
theorem rruns_3 (k f t u m d o b day : Int) (w : World) (h0 : k = 1) (h1 : 0 ≤ o) (h2 : o ≤ day) :
    Calls Try.prog 38 #[.agg #[.int .i64 k, .int .i64 f, .int .i64 t, .int .i64 u, .int .i64 m, .int .i64 d, .int .i64 o, .int .i64 b], .int .i64 day] w fun e w' => e = .returned (.bool (runs day ⟨k, f, t, u, m, d, o, b⟩)) ∧ Below w.heap.size w w' := by
  have HF := Lib.hid (show runs day ⟨k, f, t, u, m, d, o, b⟩ = decide (day < b) from decide_eq_decide.2 (by dsimp only; omega))
  subst h0
  go_enter Try.func38, Try.ntmps38
  go_wp2
  go_ret
  exact ⟨ret_bool HF.out.symm, by go_grown⟩
theorem rruns_is {k f t u m d o b day : Int} {z : Bool} (w : World) (h : runs day ⟨k, f, t, u, m, d, o, b⟩ = z) :
    Calls Try.prog 38 #[.agg #[.int .i64 k, .int .i64 f, .int .i64 t, .int .i64 u, .int .i64 m, .int .i64 d, .int .i64 o, .int .i64 b], .int .i64 day] w fun e w' => e = .returned (.bool z) ∧ Below w.heap.size w w' := by
  have N : ∀ {a c : Int}, ¬ a = c → (a == c) = false := fun h => by rw [beq_eq_false_iff_ne]; exact h
  rw [← h]
  by_cases h0 : k = 1
  · by_cases h1 : o < 0
    · exact rruns_1 k f t u m d o b day w h0 h1
    · by_cases h2 : day < o
      · exact rruns_2 k f t u m d o b day w h0 (by omega) h2
      · exact rruns_3 k f t u m d o b day w h0 (by omega) (by omega)
  · exact rruns_0 k f t u m d o b day w (N h0)
end Go.Proofs.Ytpekedhcnijgcaa.Book
