/- Bearer pieces: each call, whatever its arguments. -/
import Derived.Test.YthphlaijkknefaaBeaK
namespace Go.Proofs.Ythphlaijkknefaa.Bea
open Go.ChangeShapes Go.WideShapes Go.ChangeAt Go.RowKit Go.Proofs.Ythphlaijkknefaa.Cell
set_option linter.unusedVariables false
set_option linter.unusedSimpArgs false

/-- the piece with a number -/
def pieceAt (l : List Pc) (q : Int) : Option Pc := if q < 0 then none else l[q.toNat]?
def presX (x : Pc) (k wh d : Int) : Int :=
  match (if k < 0 then none else x.pd[k.toNat]?) with
  | none => 4
  | some true => 5
  | some false => if x.lo ≠ -1 ∧ x.se ≠ wh then 18 else if x.lo ≠ -1 ∧ d < x.lo + 365 then 20 else 0
def presE (l : List Pc) (q k wh d : Int) : Int :=
  if rgtL l = false ∨ ¬ (0 ≤ wh ∧ wh < 20000) ∨ ¬ (0 ≤ d ∧ d ≤ 200000) then 1
  else match pieceAt l q with
  | none => 4
  | some x => presX x k wh d
def repoE (l : List Pc) (q d : Int) : Int :=
  if rgtL l = false ∨ ¬ (0 ≤ d ∧ d ≤ 200000) then 1
  else match pieceAt l q with
  | none => 4
  | some x => if x.lo ≠ -1 then 5 else 0
def secuE (l : List Pc) (q wh : Int) : Int :=
  if rgtL l = false ∨ ¬ (0 ≤ wh ∧ wh < 20000) then 1
  else match pieceAt l q with
  | none => 4
  | some x => if x.lo = -1 then 7 else if x.se ≠ -1 then 5 else 0
def findE (l : List Pc) (q : Int) : Int :=
  if rgtL l = false then 1
  else match pieceAt l q with
  | none => 4
  | some x => if x.lo = -1 then 7 else 0
/-- a list with one piece changed -/
def chg (l : List Pc) (q : Int) (f : Pc → Pc) : List Pc := match pieceAt l q with
  | none => l
  | some x => l.set q.toNat (f x)
theorem pieceAt_none {l : List Pc} {q : Int} (h : pieceAt l q = none) : ¬ (0 ≤ q ∧ q < (l.length : Int)) := by
  unfold pieceAt at h
  split at h
  · omega
  · have := List.getElem?_eq_none_iff.1 h
    omega
theorem pieceAt_some {l : List Pc} {q : Int} {x : Pc} (h : pieceAt l q = some x) : ∃ p : Nat, q = p ∧ l[p]? = some x := by
  unfold pieceAt at h
  split at h
  · cases h
  · exact ⟨q.toNat, by omega, h⟩
theorem chg_at {l : List Pc} {p : Nat} {x : Pc} {f : Pc → Pc} (h : pieceAt l (p : Int) = some x) : chg l (p : Int) f = l.set p (f x) := by
  unfold chg
  rw [h, Int.toNat_natCast]
variable {A : Option Addr} {n cap : Nat} {l : List Pc} {w : World}
theorem find_all (q : Int) (hn : l.length = n) (hc : Pcl w A l) (hsz : ∀ x ∈ l, x.pd.length ≤ 9223372036854775807) (hbig : n ≤ 9223372036854775807) :
    Calls Try.prog 19 #[.slice A n cap, .int .i64 q] w fun e w' => (findE l q ≠ 0 ∧ e = .returned (.tuple #[.slice none 0 0, .int .i64 (findE l q)]) ∧ Below w.heap.size w w') ∨
      (findE l q = 0 ∧ ∃ v, e = .returned (.tuple #[v, .int .i64 0]) ∧ Out w w' n v (chg l q fun x => { x with lo := -1, se := -1 })) := by
  unfold findE
  by_cases hv : rgtL l = false
  · rw [if_pos hv]
    exact (find_wrong hn hc hsz hbig hv).mono fun e w' h => .inl ⟨by decide, h⟩
  · rw [if_neg hv]
    have hv : rgtL l = true := by simpa using hv
    cases hq : pieceAt l q with
    | none => exact (find_none hn hc hsz hbig hv (by have := pieceAt_none hq; omega)).mono fun e w' h => .inl ⟨by decide, h⟩
    | some x =>
      obtain ⟨p, rfl, hx⟩ := pieceAt_some hq
      dsimp only
      by_cases h0 : x.lo = -1
      · rw [if_pos h0]
        exact (find_state hn hc hv hx h0).mono fun e w' h => .inl ⟨by decide, h⟩
      · rw [if_neg h0]
        refine (find_ok hn hc hv hx h0).mono fun e w' h => .inr ⟨rfl, ?_⟩
        rw [chg_at hq]
        exact h
theorem report_all (q d : Int) (hn : l.length = n) (hc : Pcl w A l) (hsz : ∀ x ∈ l, x.pd.length ≤ 9223372036854775807) (hbig : n ≤ 9223372036854775807) :
    Calls Try.prog 16 #[.slice A n cap, .int .i64 q, .int .i64 d] w fun e w' => (repoE l q d ≠ 0 ∧ e = .returned (.tuple #[.slice none 0 0, .int .i64 (repoE l q d)]) ∧ Below w.heap.size w w') ∨
      (repoE l q d = 0 ∧ ∃ v, e = .returned (.tuple #[v, .int .i64 0]) ∧ Out w w' n v (chg l q fun x => { x with lo := d })) := by
  unfold repoE
  by_cases hv : rgtL l = false
  · rw [if_pos (.inl hv)]
    exact (report_wrong hn hc hsz hbig hv).mono fun e w' h => .inl ⟨by decide, h⟩
  · have hv : rgtL l = true := by simpa using hv
    by_cases hd : 0 ≤ d ∧ d ≤ 200000
    · rw [if_neg (fun h => by rcases h with h | h; rw [hv] at h; cases h; exact h hd)]
      cases hq : pieceAt l q with
      | none => exact (report_none hn hc hsz hbig hv hd (by have := pieceAt_none hq; omega)).mono fun e w' h => .inl ⟨by decide, h⟩
      | some x =>
        obtain ⟨p, rfl, hx⟩ := pieceAt_some hq
        dsimp only
        by_cases h0 : x.lo = -1
        · rw [if_neg (fun h => h h0)]
          refine (report_ok hn hc hv hx hd h0).mono fun e w' h => .inr ⟨rfl, ?_⟩
          rw [chg_at hq]
          exact h
        · rw [if_pos h0]
          exact (report_twice hn hc hv hx hd h0).mono fun e w' h => .inl ⟨by decide, h⟩
    · rw [if_pos (.inr hd)]
      exact (report_isDay hn hc hsz hbig hv hd).mono fun e w' h => .inl ⟨by decide, h⟩
theorem secure_all (q wh : Int) (hn : l.length = n) (hc : Pcl w A l) (hsz : ∀ x ∈ l, x.pd.length ≤ 9223372036854775807) (hbig : n ≤ 9223372036854775807) :
    Calls Try.prog 18 #[.slice A n cap, .int .i64 q, .int .i64 wh] w fun e w' => (secuE l q wh ≠ 0 ∧ e = .returned (.tuple #[.slice none 0 0, .int .i64 (secuE l q wh)]) ∧ Below w.heap.size w w') ∨
      (secuE l q wh = 0 ∧ ∃ v, e = .returned (.tuple #[v, .int .i64 0]) ∧ Out w w' n v (chg l q fun x => { x with se := wh })) := by
  unfold secuE
  by_cases hv : rgtL l = false
  · rw [if_pos (.inl hv)]
    exact (secure_wrong hn hc hsz hbig hv).mono fun e w' h => .inl ⟨by decide, h⟩
  · have hv : rgtL l = true := by simpa using hv
    by_cases hd : 0 ≤ wh ∧ wh < 20000
    · rw [if_neg (fun h => by rcases h with h | h; rw [hv] at h; cases h; exact h hd)]
      cases hq : pieceAt l q with
      | none => exact (secure_none hn hc hsz hbig hv hd (by have := pieceAt_none hq; omega)).mono fun e w' h => .inl ⟨by decide, h⟩
      | some x =>
        obtain ⟨p, rfl, hx⟩ := pieceAt_some hq
        dsimp only
        by_cases h0 : x.lo = -1
        · rw [if_pos h0]
          exact (secure_state hn hc hv hx hd h0).mono fun e w' h => .inl ⟨by decide, h⟩
        · rw [if_neg h0]
          by_cases h1 : x.se = -1
          · rw [if_neg (fun h => h h1)]
            refine (secure_ok hn hc hv hx hd h0 h1).mono fun e w' h => .inr ⟨rfl, ?_⟩
            rw [chg_at hq]
            exact h
          · rw [if_pos h1]
            exact (secure_twice hn hc hv hx hd h0 h1).mono fun e w' h => .inl ⟨by decide, h⟩
    · rw [if_pos (.inr hd)]
      exact (secure_isSeat hn hc hsz hbig hv hd).mono fun e w' h => .inl ⟨by decide, h⟩
/-- the units that are paid -/
def unitsAt (l : List Pc) (q : Int) : Int := match pieceAt l q with
  | none => 0
  | some x => x.un
theorem present_all (q k wh d : Int) (hn : l.length = n) (hc : Pcl w A l) (hsz : ∀ x ∈ l, x.pd.length ≤ 9223372036854775807) (hbig : n ≤ 9223372036854775807) :
    Calls Try.prog 17 #[.slice A n cap, .int .i64 q, .int .i64 k, .int .i64 wh, .int .i64 d] w fun e w' => (presE l q k wh d ≠ 0 ∧ e = .returned (.tuple #[.slice none 0 0, .int .i64 0, .int .i64 (presE l q k wh d)]) ∧ Below w.heap.size w w') ∨
      (presE l q k wh d = 0 ∧ ∃ v, e = .returned (.tuple #[v, .int .i64 (unitsAt l q), .int .i64 0]) ∧ Out w w' n v (chg l q fun x => { x with pd := x.pd.set k.toNat true })) := by
  unfold presE
  by_cases hv : rgtL l = false
  · rw [if_pos (.inl hv)]
    exact (present_wrong hn hc hsz hbig hv).mono fun e w' h => .inl ⟨by decide, h⟩
  · have hv : rgtL l = true := by simpa using hv
    by_cases hw : 0 ≤ wh ∧ wh < 20000
    · by_cases hd : 0 ≤ d ∧ d ≤ 200000
      · rw [if_neg (fun h => by rcases h with h | h | h; rw [hv] at h; cases h; exact h hw; exact h hd)]
        cases hq : pieceAt l q with
        | none => exact (present_none hn hc hsz hbig hv hw hd (by have := pieceAt_none hq; omega)).mono fun e w' h => .inl ⟨(show (4 : Int) ≠ 0 by decide), h⟩
        | some x =>
          obtain ⟨p, rfl, hx⟩ := pieceAt_some hq
          dsimp only
          unfold presX
          by_cases hk0 : k < 0
          · rw [if_pos hk0]
            exact (present_coupon hn hc hv hx hw hd (by omega)).mono fun e w' h => .inl ⟨(show (4 : Int) ≠ 0 by decide), h⟩
          · rw [if_neg hk0]
            obtain ⟨m, rfl⟩ : ∃ m : Nat, k = m := ⟨k.toNat, by omega⟩
            rw [Int.toNat_natCast]
            cases hk : x.pd[m]? with
            | none =>
              have := List.getElem?_eq_none_iff.1 hk
              exact (present_coupon hn hc hv hx hw hd (by omega)).mono fun e w' h => .inl ⟨(show (4 : Int) ≠ 0 by decide), h⟩
            | some b =>
              cases b
              · dsimp only
                have hu : unitsAt l (p : Int) = x.un := by unfold unitsAt; rw [hq]
                rw [hu, chg_at hq]
                by_cases h0 : x.lo = -1
                · rw [if_neg (fun h => h.1 h0), if_neg (fun h => h.1 h0)]
                  exact (present_fresh hn hc hv hx hw hd hk h0).mono fun e w' h => .inr ⟨rfl, h⟩
                · by_cases h1 : x.se = wh
                  · rw [if_neg (fun h => h.2 h1)]
                    by_cases h2 : d < x.lo + 365
                    · rw [if_pos ⟨h0, h2⟩]
                      exact (present_early hn hc hv hx hw hd hk h0 h1 h2).mono fun e w' h => .inl ⟨by decide, h⟩
                    · rw [if_neg (fun h => h2 h.2)]
                      exact (present_late hn hc hv hx hw hd hk h0 h1 (by omega)).mono fun e w' h => .inr ⟨rfl, h⟩
                  · rw [if_pos ⟨h0, h1⟩]
                    exact (present_key hn hc hv hx hw hd hk h0 h1).mono fun e w' h => .inl ⟨by decide, h⟩
              · exact (present_paid hn hc hv hx hw hd hk).mono fun e w' h => .inl ⟨(show (5 : Int) ≠ 0 by decide), h⟩
      · rw [if_pos (.inr (.inr hd))]
        exact (present_isDay hn hc hsz hbig hv hw hd).mono fun e w' h => .inl ⟨by decide, h⟩
    · rw [if_pos (.inr (.inl hw))]
      exact (present_isSeat hn hc hsz hbig hv hw).mono fun e w' h => .inl ⟨by decide, h⟩
end Go.Proofs.Ythphlaijkknefaa.Bea
