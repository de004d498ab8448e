/- Bearer pieces: the reference's wrong tells what do tells. -/
import Derived.Test.YthphlaijkknefaaBeaQ
namespace Go.Proofs.Ythphlaijkknefaa.Bea
open Go.ChangeShapes Go.WideShapes Go.ChangeAt Go.RowKit Go.Proofs.Ythphlaijkknefaa.Cell
set_option linter.unusedVariables false
set_option linter.unusedSimpArgs false
variable {A : Option Addr} {n cap : Nat} {l : List Pc} {w : World}
theorem wrong_any (a : Ac) (hn : l.length = n) (hc : Pcl w A l) (hsz : ∀ x ∈ l, x.pd.length ≤ 9223372036854775807) (hbig : n ≤ 9223372036854775807) :
    Calls Try.prog 22 #[.slice A n cap, .agg #[.int .i64 a.kd, .int .i64 a.pi, .int .i64 a.co, .int .i64 a.wh, .int .i64 a.dy]] w fun e w' => e = .returned (.int .i64 (doE l a)) ∧ Below w.heap.size w w' := by
  obtain ⟨kd, q, k, wh, d⟩ := a
  dsimp only
  unfold doE
  dsimp only
  by_cases hv : rgtL l = false
  · have h1 : presE l q k wh d = 1 := if_pos (.inl hv)
    have h2 : repoE l q d = 1 := if_pos (.inl hv)
    have h3 : secuE l q wh = 1 := if_pos (.inl hv)
    have h4 : findE l q = 1 := if_pos hv
    rw [h1, h2, h3, h4]
    have : (if kd = 0 then (1 : Int) else if kd = 1 then 1 else if kd = 2 then 1 else 1) = 1 := by split; rfl; split; rfl; split <;> rfl
    rw [this]
    exact wrong_list hn hc hsz hbig hv
  have hv : rgtL l = true := by simpa using hv
  have hnv : ¬ rgtL l = false := by rw [hv]; simp
  by_cases k0 : kd = 0
  · rw [if_pos k0]
    have b0 : (kd == 0) = true := by rw [k0]; rfl
    unfold presE
    by_cases hw : 0 ≤ wh ∧ wh < 20000
    case neg => rw [if_pos (.inr (.inl hw))]; exact wrong_0_seat hn hc hsz hbig hv b0 hw
    by_cases hd : 0 ≤ d ∧ d ≤ 200000
    case neg => rw [if_pos (.inr (.inr hd))]; exact wrong_0_day hn hc hsz hbig hv b0 hw hd
    rw [if_neg (fun h => by rcases h with h | h | h; exact hnv h; exact h hw; exact h hd)]
    cases hq : pieceAt l q with
    | none =>
      have hh := pieceAt_none hq
      dsimp only
      by_cases q0 : q < 0
      · exact wrong_0_low hn hc hsz hbig hv b0 hw hd q0
      · obtain ⟨p, rfl⟩ : ∃ p : Nat, q = p := ⟨q.toNat, by omega⟩
        exact wrong_0_high hn hc hsz hbig hv b0 hw hd (by omega)
    | some x =>
      obtain ⟨p, rfl, hx⟩ := pieceAt_some hq
      dsimp only
      unfold presX
      by_cases hk0 : k < 0
      · rw [if_pos hk0]
        exact wrong_0_coupon_low hn hc hsz hbig hv b0 hw hd hx hk0
      · rw [if_neg hk0]
        obtain ⟨m, rfl⟩ : ∃ m : Nat, k = m := ⟨k.toNat, by omega⟩
        rw [Int.toNat_natCast]
        cases hk : x.pd[m]? with
        | none => exact wrong_0_coupon_high hn hc hsz hbig hv b0 hw hd hx (List.getElem?_eq_none_iff.1 hk)
        | some b =>
          cases b
          · dsimp only
            by_cases h0 : x.lo = -1
            · rw [if_neg (fun h => h.1 h0), if_neg (fun h => h.1 h0)]
              exact wrong_0_fresh hn hc hsz hbig hv b0 hw hd hx hk h0
            · by_cases h1 : x.se = wh
              · rw [if_neg (fun h => h.2 h1)]
                by_cases h2 : d < x.lo + 365
                · rw [if_pos ⟨h0, h2⟩]
                  exact wrong_0_early hn hc hsz hbig hv b0 hw hd hx hk h0 h1 h2
                · rw [if_neg (fun h => h2 h.2)]
                  exact wrong_0_late hn hc hsz hbig hv b0 hw hd hx hk h0 h1 (by omega)
              · rw [if_pos ⟨h0, h1⟩]
                exact wrong_0_key hn hc hsz hbig hv b0 hw hd hx hk h0 h1
          · exact wrong_0_paid hn hc hsz hbig hv b0 hw hd hx hk
  rw [if_neg k0]
  have b0 : (kd == 0) = false := by simpa using k0
  by_cases k1 : kd = 1
  · rw [if_pos k1]
    have b1 : (kd == 1) = true := by rw [k1]; rfl
    have b1n : (kd != 1) = false := by rw [k1]; rfl
    have b2 : (kd == 2) = false := by rw [k1]; rfl
    unfold repoE
    by_cases hd : 0 ≤ d ∧ d ≤ 200000
    case neg => rw [if_pos (.inr hd)]; exact wrong_1_day hn hc hsz hbig hv b0 b1 b1n b2 hd
    rw [if_neg (fun h => by rcases h with h | h; exact hnv h; exact h hd)]
    cases hq : pieceAt l q with
    | none =>
      have hh := pieceAt_none hq
      dsimp only
      by_cases q0 : q < 0
      · exact wrong_1_low hn hc hsz hbig hv b0 b1 b1n b2 hd q0
      · obtain ⟨p, rfl⟩ : ∃ p : Nat, q = p := ⟨q.toNat, by omega⟩
        exact wrong_1_high hn hc hsz hbig hv b0 b1 b1n b2 hd (by omega)
    | some x =>
      obtain ⟨p, rfl, hx⟩ := pieceAt_some hq
      dsimp only
      by_cases h0 : x.lo = -1
      · rw [if_neg (fun h => h h0)]
        exact wrong_1_ok hn hc hsz hbig hv b0 b1 b1n b2 hd hx h0
      · rw [if_pos h0]
        exact wrong_1_twice hn hc hsz hbig hv b0 b1 b1n b2 hd hx h0
  rw [if_neg k1]
  have b1 : (kd == 1) = false := by simpa using k1
  have b1n : (kd != 1) = true := by simpa using k1
  by_cases k2 : kd = 2
  · rw [if_pos k2]
    have b2 : (kd == 2) = true := by rw [k2]; rfl
    unfold secuE
    by_cases hw : 0 ≤ wh ∧ wh < 20000
    case neg => rw [if_pos (.inr hw)]; exact wrong_2_seat hn hc hsz hbig hv b0 b1 b1n b2 hw
    rw [if_neg (fun h => by rcases h with h | h; exact hnv h; exact h hw)]
    cases hq : pieceAt l q with
    | none =>
      have hh := pieceAt_none hq
      dsimp only
      by_cases q0 : q < 0
      · exact wrong_2_low hn hc hsz hbig hv b0 b1 b1n b2 hw q0
      · obtain ⟨p, rfl⟩ : ∃ p : Nat, q = p := ⟨q.toNat, by omega⟩
        exact wrong_2_high hn hc hsz hbig hv b0 b1 b1n b2 hw (by omega)
    | some x =>
      obtain ⟨p, rfl, hx⟩ := pieceAt_some hq
      dsimp only
      by_cases h0 : x.lo = -1
      · rw [if_pos h0]
        exact wrong_2_state hn hc hsz hbig hv b0 b1 b1n b2 hw hx h0
      · rw [if_neg h0]
        by_cases h1 : x.se = -1
        · rw [if_neg (fun h => h h1)]
          exact wrong_2_ok hn hc hsz hbig hv b0 b1 b1n b2 hw hx h0 h1
        · rw [if_pos h1]
          exact wrong_2_twice hn hc hsz hbig hv b0 b1 b1n b2 hw hx h0 h1
  rw [if_neg k2]
  have b2 : (kd == 2) = false := by simpa using k2
  unfold findE
  rw [if_neg hnv]
  cases hq : pieceAt l q with
  | none =>
    have hh := pieceAt_none hq
    dsimp only
    by_cases q0 : q < 0
    · exact wrong_3_low hn hc hsz hbig hv b0 b1 b1n b2 q0
    · obtain ⟨p, rfl⟩ : ∃ p : Nat, q = p := ⟨q.toNat, by omega⟩
      exact wrong_3_high hn hc hsz hbig hv b0 b1 b1n b2 (by omega)
  | some x =>
    obtain ⟨p, rfl, hx⟩ := pieceAt_some hq
    dsimp only
    by_cases h0 : x.lo = -1
    · rw [if_pos h0]
      exact wrong_3_state hn hc hsz hbig hv b0 b1 b1n b2 hx h0
    · rw [if_neg h0]
      exact wrong_3_ok hn hc hsz hbig hv b0 b1 b1n b2 hx h0
end Go.Proofs.Ythphlaijkknefaa.Bea
