/- Bearer pieces: the reference's Do, whatever happens. -/
import Derived.Test.YthphlaijkknefaaBeaS
namespace Go.Proofs.Ythphlaijkknefaa.Bea
open Go.ChangeShapes Go.WideShapes Go.ChangeAt Go.RowKit Go.Proofs.Ythphlaijkknefaa.Cell
set_option linter.unusedVariables false
set_option linter.unusedSimpArgs false
variable {A : Option Addr} {n cap : Nat} {l : List Pc} {w : World}
theorem presX_ok {x : Pc} {k wh d : Int} (h : presX x k wh d = 0) : ∃ m : Nat, k = m ∧ x.pd[m]? = some false := by
  unfold presX at h
  by_cases hk0 : k < 0
  · rw [if_pos hk0] at h
    dsimp only at h; omega
  · rw [if_neg hk0] at h
    obtain ⟨m, rfl⟩ : ∃ m : Nat, k = m := ⟨k.toNat, by omega⟩
    rw [Int.toNat_natCast] at h
    cases hk : x.pd[m]? with
    | none => rw [hk] at h; dsimp only at h; omega
    | some b =>
      rw [hk] at h
      cases b
      · exact ⟨m, rfl, hk⟩
      · dsimp only at h; omega
/-- what goes through, goes through at a right list and a piece that is there -/
theorem doE_ok {a : Ac} (h : doE l a = 0) : rgtL l = true ∧ ∃ (p : Nat) (x : Pc), a.pi = p ∧ l[p]? = some x ∧ pieceAt l (p : Int) = some x ∧ (a.kd = 0 → ∃ m : Nat, a.co = m ∧ x.pd[m]? = some false) := by
  obtain ⟨kd, q, k, wh, d⟩ := a
  unfold doE at h
  dsimp only at h ⊢
  by_cases hv : rgtL l = false
  · have h1 : presE l q k wh d = 1 := if_pos (.inl hv)
    have h2 : repoE l q d = 1 := if_pos (.inl hv)
    have h3 : secuE l q wh = 1 := if_pos (.inl hv)
    have h4 : findE l q = 1 := if_pos hv
    rw [h1, h2, h3, h4] at h
    revert h
    split
    · intro h; exact absurd h (by decide)
    · split
      · intro h; exact absurd h (by decide)
      · split <;> (intro h; exact absurd h (by decide))
  · refine ⟨by simpa using hv, ?_⟩
    cases hq : pieceAt l q with
    | none =>
      exfalso
      unfold presE repoE secuE findE at h
      rw [hq] at h
      revert h
      dsimp only
      repeat' split
      all_goals (intro h; exact absurd h (by decide))
    | some x =>
      obtain ⟨p, rfl, hx⟩ := pieceAt_some hq
      refine ⟨p, x, rfl, hx, hq, fun h0 => ?_⟩
      rw [if_pos h0] at h
      unfold presE at h
      rw [hq] at h
      dsimp only at h
      split at h
      · exact absurd h (by decide)
      · exact presX_ok h
theorem rdo_any (a : Ac) (hk : 0 ≤ a.kd ∧ a.kd ≤ 3) (hn : l.length = n) (hc : Pcl w A l) (hsz : ∀ x ∈ l, x.pd.length ≤ 9223372036854775807) (hbig : n ≤ 9223372036854775807) :
    Calls Try.prog 10 #[.slice A n cap, .agg #[.int .i64 a.kd, .int .i64 a.pi, .int .i64 a.co, .int .i64 a.wh, .int .i64 a.dy]] w (DoP w n l a) := by
  by_cases hE : doE l a = 0
  case neg => exact rdo_no a hn hc hsz hbig hE
  obtain ⟨hv, p, x, hp, hx, hq, h0⟩ := doE_ok hE
  obtain ⟨kd, q, k, wh, d⟩ := a
  dsimp only at hk hp h0 ⊢
  subst hp
  have hN : doN l ⟨kd, p, k, wh, d⟩ = if kd = 0 then x.un else 0 := by
    unfold doN unitsAt
    dsimp only
    rw [hq]
  have hL : doL l ⟨kd, p, k, wh, d⟩ = l.set p (doF ⟨kd, p, k, wh, d⟩ x) := chg_at hq
  by_cases k0 : kd = 0
  · subst k0
    obtain ⟨m, rfl, hm⟩ := h0 rfl
    refine (rdo_0 hn hc hv hx hm hE).mono ?_
    rintro e w' ⟨v, rfl, hO⟩
    exact .inr ⟨hE, v, by rw [hN, if_pos rfl], by rw [hL]; exact hO⟩
  by_cases k1 : kd = 1
  · subst k1
    refine (rdo_1 hn hc hv hx hE).mono ?_
    rintro e w' ⟨v, rfl, hO⟩
    exact .inr ⟨hE, v, by rw [hN]; rfl, by rw [hL]; exact hO⟩
  by_cases k2 : kd = 2
  · subst k2
    refine (rdo_2 hn hc hv hx hE).mono ?_
    rintro e w' ⟨v, rfl, hO⟩
    exact .inr ⟨hE, v, by rw [hN]; rfl, by rw [hL]; exact hO⟩
  obtain rfl : kd = 3 := by omega
  refine (rdo_3 hn hc hv hx hE).mono ?_
  rintro e w' ⟨v, rfl, hO⟩
  exact .inr ⟨hE, v, by rw [hN]; rfl, by rw [hL]; exact hO⟩
end Go.Proofs.Ythphlaijkknefaa.Bea
