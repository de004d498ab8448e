/- Big integers: gcd. -/
import Derived.Test.YtnifkianjpjahaaDoorBhD
namespace Go.Proofs.YtnifkianjpjahaaDoor.Bg
open Go.ChangeShapes Go.WideShapes Go.ChangeAt Go.RowKit Go.Proofs.YtnifkianjpjahaaDoor.Cell
set_option linter.unusedVariables false
set_option linter.unusedSimpArgs false

/-- a slice that holds a number's digits -/
def Sl (W : World) (v : Value) (X : Nat) : Prop := ∃ A c l n, v = .slice A n c ∧ l.length = n ∧ Ints W A l ∧ Nm l (X : Int) ∧ n ≤ 60
theorem Ints.uniq {W : World} {A : Option Addr} {l l' : List Int} (h : Ints W A l) (h' : Ints W A l') (hl : l.length = l'.length) : l = l' := by
  by_cases h0 : 0 < l.length
  · obtain ⟨b, o, e, hc⟩ := h h0
    obtain ⟨b', o', e', hc'⟩ := h' (by omega)
    rw [e] at e'
    cases e'
    refine List.ext_getElem? fun k => ?_
    by_cases hk : k < l.length
    · obtain ⟨x, hx⟩ := at_ l k hk
      obtain ⟨y, hy⟩ := at_ l' k (by omega)
      have h1 := hc k x hx
      have h2 := hc' k y hy
      rw [h1] at h2
      cases h2
      rw [hx, hy]
    · rw [List.getElem?_eq_none (by omega), List.getElem?_eq_none (by omega)]
  · rw [List.eq_nil_of_length_eq_zero (show l.length = 0 by omega), List.eq_nil_of_length_eq_zero (show l'.length = 0 by omega)]
theorem Sl.uniq {W : World} {v : Value} {X Y : Nat} (h : Sl W v X) (h' : Sl W v Y) : X = Y := by
  obtain ⟨A, c, l, n, e, hl, hi, hn, _⟩ := h
  obtain ⟨A', c', l', n', e', hl', hi', hn', _⟩ := h'
  rw [e] at e'
  cases e'
  have := Ints.uniq hi hi' (hl.trans hl'.symm)
  subst this
  have := hn.2.2.symm.trans hn'.2.2
  omega
open Classical in
noncomputable def valAt (W : World) (v : Value) : Nat := if h : ∃ X, Sl W v X then h.choose else 0
theorem valAt_eq {W : World} {v : Value} {X : Nat} (h : Sl W v X) : valAt W v = X := by
  unfold valAt
  rw [dif_pos ⟨X, h⟩]
  exact Sl.uniq (Exists.choose_spec (⟨X, h⟩ : ∃ X, Sl W v X)) h
theorem len_mono {a b : List Int} {X Y : Nat} (na : Nm a X) (nb : Nm b Y) (h : Y ≤ X) : b.length ≤ a.length := by
  by_cases hl : b.length ≤ a.length
  · exact hl
  · have := val_len_lt na.1 nb.1 nb.2.1 (show a.length < b.length by omega)
    rw [na.2.2, nb.2.2] at this
    omega
def GcdP (G : Nat) (w : World) (e : Ending) (w' : World) : Prop := ∃ A c l, e = .returned (.slice A (List.length l) c) ∧ Ints w' A l ∧ Nm l (G : Int) ∧ Below w.heap.size w w'
set_option maxRecDepth 100000 in
set_option maxHeartbeats 8000000 in
theorem gcd_any {va vb : Value} {X0 Y0 : Nat} (w : World) (ha : Sl w va X0) (hb : Sl w vb Y0) :
    Calls Tryd.prog 36 #[va, vb] w (GcdP (Nat.gcd X0 Y0) w) := by
  have HA0 := Lib.hid ha
  have HB0 := Lib.hid hb
  clear ha hb
  obtain ⟨G, hG⟩ : ∃ G, Nat.gcd X0 Y0 = G := ⟨_, rfl⟩
  have HG0 := Lib.hid hG
  rw [hG]
  clear hG
  go_enter Tryd.func36, Tryd.ntmps36
  go_wp2
  go_loopw [0, 1] (fun av bv wr => ∃ (X Y : Nat), Hid (Sl wr av X) ∧ Hid (Sl wr bv Y) ∧ Hid (Nat.gcd X Y = G) ∧ Hid (Below w.heap.size w wr)) (fun av bv wr => valAt wr av + valAt wr bv)
  case atStart => exact ⟨X0, Y0, HA0, HB0, HG0, Lib.hid (Below.refl _ _)⟩
  case round =>
    clear HA0 HB0 HG0
    obtain ⟨Xa, Xb, HA, HB, HG, HW⟩ := hrel
    have VA := Lib.hid (valAt_eq HA.out)
    have VB := Lib.hid (valAt_eq HB.out)
    obtain ⟨Aa, ca, la, na, rfl, hla, hia, hna, h60a⟩ := HA.out
    obtain ⟨Ab, cb, lb, nb, rfl, hlb, hib, hnb, h60b⟩ := HB.out
    have La := Lib.hid hla
    have Lb := Lib.hid hlb
    have Na := Lib.hid hna
    have Nb := Lib.hid hnb
    clear HA HB
    go_wp2_with (fail)
    go_must (refine (compare_any _ La.out Lb.out hia hib Na.out.1 Nb.out.1 Na.out.2.1 Nb.out.2.1 (by omega) (by omega)).mono ?_)
    rintro e w1 ⟨rfl, q, rfl⟩
    rw [Na.out.2.2, Nb.out.2.2]
    have Ia := Lib.hid (hia.keep (Gen.dN (Below.refl _ _) q))
    have Ib := Lib.hid (hib.keep (Gen.dN (Below.refl _ _) q))
    have W1 := Lib.hid (Gen.dN HW.out q)
    clear hla hlb hia hib hna hnb HW
    generalize wr.drewN q = wz at Ia Ib W1 ⊢
    by_cases hlt : Xa < Xb
    · rw [cmpI_lt (by omega)]
      have hle : Xa ≤ Xb := by omega
      have hnn : na ≤ nb := by
        have := len_mono Nb.out Na.out hle
        rw [Lb.out, La.out] at this
        exact this
      have HG2 : Hid (Nat.gcd Xb Xa = G) := Lib.hid (by first | exact HG.out | (rw [Nat.gcd_comm]; exact HG.out))
      by_cases h0 : na = 0
      · have h0b : ((na : Int) == 0) = true := by simp [h0]
        have HE : Hid (Xb = G) := Lib.hid (by
          have h := Na.out.nil.1 (List.eq_nil_of_length_eq_zero (La.out.trans h0))
          have h1 := HG2.out
          rw [show Xa = 0 by omega, Nat.gcd_zero_right] at h1
          exact h1)
        clear h0
        go_wp2_with (fail)
        go_must (refine (clone_any _ Lb.out Ib.out (by omega)).mono ?_)
        rintro e w3 ⟨A3, c3, rfl, hI3, hb3⟩
        have HF := Lib.hid (show GcdP G w (.returned (.slice A3 nb c3)) w3 from ⟨A3, c3, lb, by rw [Lb.out], hI3, by rw [← HE.out]; exact Nb.out, Gen.over hb3 W1.out⟩)
        clear hI3 hb3
        go_wp2
        go_ret
        exact HF.out
      · have h0b : ((na : Int) == 0) = false := by simp [h0]
        have h20 : 0 < Xa := by
          have h := Na.out.nil
          have : ¬ (Xa : Int) = 0 := fun e => h0 (by rw [← La.out, h.2 e]; rfl)
          omega
        by_cases hs : Xb < 18446744073709551616
        · go_wp2_with (fail)
          go_must (refine (mag_yes _ Lb.out Ib.out Nb.out.1 Nb.out.2.1 (by rw [Nb.out.2.2]; omega)).mono ?_)
          rintro e w3 ⟨rfl, rfl⟩
          rw [Nb.out.2.2]
          go_wp2_with (fail)
          go_must (refine (mag_yes _ La.out Ia.out Na.out.1 Na.out.2.1 (by rw [Na.out.2.2]; omega)).mono ?_)
          rintro e w3 ⟨rfl, rfl⟩
          rw [Na.out.2.2]
          go_wp2_with (fail)
          go_must (refine (gcdSmall_any _ Xb Xa (by omega) (by omega)).mono ?_)
          rintro e w4 ⟨rfl, hb4⟩
          have hGl : G ≤ 18446744073709551615 := by
            have := Nat.le_of_dvd h20 (Nat.gcd_dvd_right Xb Xa)
            rw [HG2.out] at this
            omega
          have hGp : 0 < G := by rw [← HG2.out]; exact Nat.gcd_pos_of_pos_right _ h20
          rw [HG2.out]
          have HB4 := Lib.hid hb4
          clear hb4
          go_wp2_with (fail)
          go_must (refine (ofMag_any (z := (G : Int)) _ (by omega) (by omega) (fun _ => (sg_pos (by omega)).symm)).mono ?_)
          rintro e w5 ⟨v, rfl, hv, hb5⟩
          obtain ⟨A3, c3, l3, rfl, hI3, hN3, _⟩ := hv.ex
          have HF := Lib.hid (show GcdP G w (.returned (.slice A3 (List.length l3) c3)) w5 from ⟨A3, c3, l3, rfl, hI3, hN3.to (by omega), Gen.over hb5 (Gen.over HB4.out W1.out)⟩)
          have hfd := field_dig w5 (sg (G : Int)) A3 (List.length l3) c3
          clear hI3 hb5 hv HB4
          go_wp2
          go_ret
          exact HF.out
        · have h4 : 4 ≤ nb := by
            by_cases h : 4 ≤ nb
            · exact h
            · have := (Nb.out.len 3).1 (by rw [Lb.out]; omega)
              rw [pw_3] at this
              omega
          go_wp2_with (fail)
          go_must (refine (mag_no _ Lb.out Ib.out Nb.out.1 (by rw [Nb.out.2.2]; omega) (by omega)).mono ?_)
          rintro e w3 ⟨rfl, rfl⟩
          go_wp2_with (fail)
          go_must (refine (steps_any _ Lb.out La.out Ib.out Ia.out Nb.out.1 Na.out.1 h4 hnn (by omega)).mono ?_)
          rintro e w3 ⟨m0, m1, m2, m3, P, ra, rb, x, y, d, rfl, hLe, hb3⟩
          rw [Nb.out.2.2, Na.out.2.2] at hLe
          have J1 := Lib.hid (Ib.out.keep (Gen.over (Gen.b_alloc (x := .cells (i4 m0 m1 m2 m3) 70) (Below.refl _ w3)) hb3))
          have J2 := Lib.hid (Ia.out.keep (Gen.over (Gen.b_alloc (x := .cells (i4 m0 m1 m2 m3) 70) (Below.refl _ w3)) hb3))
          have W3 := Lib.hid (Gen.over (Gen.b_alloc (x := .cells (i4 m0 m1 m2 m3) 70) (Below.refl _ w3)) (Gen.over hb3 W1.out))
          have R3 := Lib.hid (Row.new w3 70 (i4 m0 m1 m2 m3))
          have HLE := Lib.hid hLe
          clear hLe hb3 Ib Ia W1
          rcases d with _ | _
          · skip
            go_wp2_with (fail)
            go_must (refine (div_any _ Lb.out La.out J1.out J2.out Nb.out.1 Na.out.1 Nb.out.2.1 Na.out.2.1 (by omega) (by omega) (by rw [Na.out.2.2]; omega)).mono ?_)
            rintro e w4 ⟨A3, c3, lq, A4, c4, lr, rfl, hi3, hi4, hn3, hn4, hb4⟩
            rw [Nb.out.2.2, Na.out.2.2] at hn4
            have hmod := Nat.mod_lt Xb h20
            have hN4 : Nm lr ((Xb % Xa : Nat) : Int) := hn4.to rfl
            have S1 := Lib.hid (show Sl w4 (.slice Aa na ca) Xa from ⟨_, _, _, _, rfl, La.out, J2.out.keep hb4, Na.out, by omega⟩)
            have S2 := Lib.hid (show Sl w4 (.slice A4 (List.length lr) c4) (Xb % Xa) from ⟨_, _, _, _, rfl, rfl, hi4, hN4, by
              have := len_mono Na.out hN4 (by omega)
              rw [La.out] at this
              omega⟩)
            have W4 := Lib.hid (Gen.over hb4 W3.out)
            have HG3 : Hid (Nat.gcd Xa (Xb % Xa) = G) := Lib.hid (by rw [← HG2.out, Nat.gcd_comm Xb Xa, Nat.gcd_rec Xa Xb, Nat.gcd_comm])
            have V1 := valAt_eq S1.out
            have V2 := valAt_eq S2.out
            have V3 := VA.out
            have V4 := VB.out
            clear hi3 hi4 hn3 hn4 hb4 hN4
            go_wp2
            go_roundw
            case rel => exact ⟨Xa, Xb % Xa, S1, S2, HG3, W4⟩
            case measure => rw [V1, V2, V3, V4]; omega
          · skip
            have hAB := HLE.out.dn rfl
            have hpA := HLE.out.posA
            have hpB := HLE.out.posB
            have hgg := HLE.out.g
            have hp0 := HLE.out.b0
            have hp1 := HLE.out.b1
            have hp2 := HLE.out.b2
            have hp3 := HLE.out.b3
            have hlt1 := val_lt Nb.out.1
            rw [Lb.out, Nb.out.2.2] at hlt1
            have h60v := (Nb.out.len 60).1 (by rw [Lb.out]; omega)
            have D1 := Lib.hid Nb.out.1
            have D2 := Lib.hid Na.out.1
            have HC1 : Hid (0 ≤ m0 * val lb + m1 * val la ∧ m0 * val lb + m1 * val la < pw nb) := Lib.hid (by rw [Nb.out.2.2, Na.out.2.2]; omega)
            have HC2 : Hid (0 ≤ m2 * val lb + m3 * val la ∧ m2 * val lb + m3 * val la < pw nb) := Lib.hid (by rw [Nb.out.2.2, Na.out.2.2]; omega)
            have HZ1 : Hid (∀ l, Nm l (m0 * val lb + m1 * val la) → Nm l ((m0 * (Xb : Int) + m1 * (Xa : Int)).natAbs : Int) ∧ l.length ≤ 60) := Lib.hid fun l h => by
              have h' : Nm l ((m0 * (Xb : Int) + m1 * (Xa : Int)).natAbs : Int) := h.to (by rw [Nb.out.2.2, Na.out.2.2]; omega)
              exact ⟨h', (h'.len 60).2 (by omega)⟩
            have HZ2 : Hid (∀ l, Nm l (m2 * val lb + m3 * val la) → Nm l ((m2 * (Xb : Int) + m3 * (Xa : Int)).natAbs : Int) ∧ l.length ≤ 60) := Lib.hid fun l h => by
              have h' : Nm l ((m2 * (Xb : Int) + m3 * (Xa : Int)).natAbs : Int) := h.to (by rw [Nb.out.2.2, Na.out.2.2]; omega)
              exact ⟨h', (h'.len 60).2 (by omega)⟩
            obtain ⟨X5, hX5⟩ : ∃ z, (m0 * (Xb : Int) + m1 * (Xa : Int)).natAbs = z := ⟨_, rfl⟩
            obtain ⟨X6, hX6⟩ : ∃ z, (m2 * (Xb : Int) + m3 * (Xa : Int)).natAbs = z := ⟨_, rfl⟩
            have HLT : Hid (X5 < Xb + 1 ∧ X6 < X5 ∧ X5 ≤ Xa) := Lib.hid (by omega)
            have HG3 : Hid (Nat.gcd X5 X6 = G) := Lib.hid (by
              rw [← HG2.out, ← hX5, ← hX6]
              exact hgg)
            rw [hX5] at HZ1
            rw [hX6] at HZ2
            clear hAB hpA hpB hgg hX5 hX6 hlt1 h60v HLE
            have c0 := R3.out.cell 0
            have c1 := R3.out.cell 1
            have c2 := R3.out.cell 2
            have c3 := R3.out.cell 3
            have C0 : Hid (_ = some (Value.int .i64 m0)) := Lib.hid c0
            have C1 : Hid (_ = some (Value.int .i64 m1)) := Lib.hid c1
            have C2 : Hid (_ = some (Value.int .i64 m2)) := Lib.hid c2
            have C3 : Hid (_ = some (Value.int .i64 m3)) := Lib.hid c3
            unfold i4 at c0 c1 c2 c3 J1 J2 W3 C0 C1 C2 C3
            clear R3
            go_wp2_with (fail)
            generalize w3.alloc (.cells #[.int .i64 m0, .int .i64 m1, .int .i64 m2, .int .i64 m3] 70) = w4 at c0 c1 c2 c3 J1 J2 W3 C0 C1 C2 C3 ⊢
            go_region_held3 (fun W' : World => Below w4.heap.size w4 W' ∧ W'.cell? ⟨w3.heap.size, 0, none⟩ = some (.int .i64 m0) ∧ W'.cell? ⟨w3.heap.size, 1, none⟩ = some (.int .i64 m1) ∧ W'.cell? ⟨w3.heap.size, 2, none⟩ = some (.int .i64 m2) ∧ W'.cell? ⟨w3.heap.size, 3, none⟩ = some (.int .i64 m3))
              (first | exact hS5 | exact ⟨(Below.refl _ _).drew, C0.out, C1.out, C2.out, C3.out⟩)
              (first
                | (go_at_call 51; (with_reducible refine (combine_any (p := m0) (q := m1) _ Lb.out La.out (J1.out.keep (And.left (by assumption))) (J2.out.keep (And.left (by assumption))) D1.out D2.out hp0 hp1 hnn HC1.out.1 HC1.out.2 (by omega)).mono ?_); rintro e' w' ⟨A5, c5, l5, rfl, hi5, hn5, hb5⟩; have hS5 := (show (Below w4.heap.size w4 w' ∧ w'.cell? ⟨w3.heap.size, 0, none⟩ = some (.int .i64 m0) ∧ w'.cell? ⟨w3.heap.size, 1, none⟩ = some (.int .i64 m1) ∧ w'.cell? ⟨w3.heap.size, 2, none⟩ = some (.int .i64 m2) ∧ w'.cell? ⟨w3.heap.size, 3, none⟩ = some (.int .i64 m3)) from ⟨Gen.over hb5 (And.left (by assumption)), Gen.keep hb5 (And.left (And.right (by assumption))), Gen.keep hb5 (And.left (And.right (And.right (by assumption)))), Gen.keep hb5 (And.left (And.right (And.right (And.right (by assumption))))), Gen.keep hb5 (And.right (And.right (And.right (And.right (by assumption)))))⟩))
                | (go_at_call 51; (with_reducible refine (combine_any (p := m2) (q := m3) _ Lb.out La.out (J1.out.keep (And.left (by assumption))) (J2.out.keep (And.left (by assumption))) D1.out D2.out hp2 hp3 hnn HC2.out.1 HC2.out.2 (by omega)).mono ?_); rintro e' w' ⟨A6, c6, l6, rfl, hi6, hn6, hb6⟩; have hS5 := (show (Below w4.heap.size w4 w' ∧ w'.cell? ⟨w3.heap.size, 0, none⟩ = some (.int .i64 m0) ∧ w'.cell? ⟨w3.heap.size, 1, none⟩ = some (.int .i64 m1) ∧ w'.cell? ⟨w3.heap.size, 2, none⟩ = some (.int .i64 m2) ∧ w'.cell? ⟨w3.heap.size, 3, none⟩ = some (.int .i64 m3)) from ⟨Gen.over hb6 (And.left (by assumption)), Gen.keep hb6 (And.left (And.right (by assumption))), Gen.keep hb6 (And.left (And.right (And.right (by assumption)))), Gen.keep hb6 (And.left (And.right (And.right (And.right (by assumption))))), Gen.keep hb6 (And.right (And.right (And.right (And.right (by assumption)))))⟩))
                | fail "no arm")
            all_goals
              have hI5 : Ints w' A5 l5 := (by first | exact hi5 | exact hi5.keep hb6)
              have hI6 : Ints w' A6 l6 := (by first | exact hi6 | exact hi6.keep hb5)
              have S1 := Lib.hid (show Sl w' (.slice A5 (List.length l5) c5) X5 from ⟨_, _, _, _, rfl, rfl, hI5, (HZ1.out l5 hn5).1, (HZ1.out l5 hn5).2⟩)
              have S2 := Lib.hid (show Sl w' (.slice A6 (List.length l6) c6) X6 from ⟨_, _, _, _, rfl, rfl, hI6, (HZ2.out l6 hn6).1, (HZ2.out l6 hn6).2⟩)
              have W4 := Lib.hid (Gen.over hS5.1 W3.out)
              have V1 := valAt_eq S1.out
              have V2 := valAt_eq S2.out
              have V3 := VA.out
              have V4 := VB.out
              have hlt5 := HLT.out
              go_wp2
              go_roundw
              case rel => exact ⟨X5, X6, S1, S2, HG3, W4⟩
              case measure => rw [V1, V2, V3, V4]; omega
    · obtain ⟨z, hz, hz0⟩ : ∃ z, cmpI (Xa : Int) (Xb : Int) = z ∧ ¬ z < 0 := ⟨_, rfl, by
        by_cases h : Xb < Xa
        · rw [cmpI_gt (by omega)]; omega
        · rw [cmpI_eq (by omega)]; omega⟩
      rw [hz]
      clear hz
      have hle : Xb ≤ Xa := by omega
      have hnn : nb ≤ na := by
        have := len_mono Na.out Nb.out hle
        rw [La.out, Lb.out] at this
        exact this
      have HG2 : Hid (Nat.gcd Xa Xb = G) := Lib.hid (by first | exact HG.out | (rw [Nat.gcd_comm]; exact HG.out))
      by_cases h0 : nb = 0
      · have h0b : ((nb : Int) == 0) = true := by simp [h0]
        have HE : Hid (Xa = G) := Lib.hid (by
          have h := Nb.out.nil.1 (List.eq_nil_of_length_eq_zero (Lb.out.trans h0))
          have h1 := HG2.out
          rw [show Xb = 0 by omega, Nat.gcd_zero_right] at h1
          exact h1)
        clear h0
        go_wp2_with (fail)
        go_must (refine (clone_any _ La.out Ia.out (by omega)).mono ?_)
        rintro e w3 ⟨A3, c3, rfl, hI3, hb3⟩
        have HF := Lib.hid (show GcdP G w (.returned (.slice A3 na c3)) w3 from ⟨A3, c3, la, by rw [La.out], hI3, by rw [← HE.out]; exact Na.out, Gen.over hb3 W1.out⟩)
        clear hI3 hb3
        go_wp2
        go_ret
        exact HF.out
      · have h0b : ((nb : Int) == 0) = false := by simp [h0]
        have h20 : 0 < Xb := by
          have h := Nb.out.nil
          have : ¬ (Xb : Int) = 0 := fun e => h0 (by rw [← Lb.out, h.2 e]; rfl)
          omega
        by_cases hs : Xa < 18446744073709551616
        · go_wp2_with (fail)
          go_must (refine (mag_yes _ La.out Ia.out Na.out.1 Na.out.2.1 (by rw [Na.out.2.2]; omega)).mono ?_)
          rintro e w3 ⟨rfl, rfl⟩
          rw [Na.out.2.2]
          go_wp2_with (fail)
          go_must (refine (mag_yes _ Lb.out Ib.out Nb.out.1 Nb.out.2.1 (by rw [Nb.out.2.2]; omega)).mono ?_)
          rintro e w3 ⟨rfl, rfl⟩
          rw [Nb.out.2.2]
          go_wp2_with (fail)
          go_must (refine (gcdSmall_any _ Xa Xb (by omega) (by omega)).mono ?_)
          rintro e w4 ⟨rfl, hb4⟩
          have hGl : G ≤ 18446744073709551615 := by
            have := Nat.le_of_dvd h20 (Nat.gcd_dvd_right Xa Xb)
            rw [HG2.out] at this
            omega
          have hGp : 0 < G := by rw [← HG2.out]; exact Nat.gcd_pos_of_pos_right _ h20
          rw [HG2.out]
          have HB4 := Lib.hid hb4
          clear hb4
          go_wp2_with (fail)
          go_must (refine (ofMag_any (z := (G : Int)) _ (by omega) (by omega) (fun _ => (sg_pos (by omega)).symm)).mono ?_)
          rintro e w5 ⟨v, rfl, hv, hb5⟩
          obtain ⟨A3, c3, l3, rfl, hI3, hN3, _⟩ := hv.ex
          have HF := Lib.hid (show GcdP G w (.returned (.slice A3 (List.length l3) c3)) w5 from ⟨A3, c3, l3, rfl, hI3, hN3.to (by omega), Gen.over hb5 (Gen.over HB4.out W1.out)⟩)
          have hfd := field_dig w5 (sg (G : Int)) A3 (List.length l3) c3
          clear hI3 hb5 hv HB4
          go_wp2
          go_ret
          exact HF.out
        · have h4 : 4 ≤ na := by
            by_cases h : 4 ≤ na
            · exact h
            · have := (Na.out.len 3).1 (by rw [La.out]; omega)
              rw [pw_3] at this
              omega
          go_wp2_with (fail)
          go_must (refine (mag_no _ La.out Ia.out Na.out.1 (by rw [Na.out.2.2]; omega) (by omega)).mono ?_)
          rintro e w3 ⟨rfl, rfl⟩
          go_wp2_with (fail)
          go_must (refine (steps_any _ La.out Lb.out Ia.out Ib.out Na.out.1 Nb.out.1 h4 hnn (by omega)).mono ?_)
          rintro e w3 ⟨m0, m1, m2, m3, P, ra, rb, x, y, d, rfl, hLe, hb3⟩
          rw [Na.out.2.2, Nb.out.2.2] at hLe
          have J1 := Lib.hid (Ia.out.keep (Gen.over (Gen.b_alloc (x := .cells (i4 m0 m1 m2 m3) 70) (Below.refl _ w3)) hb3))
          have J2 := Lib.hid (Ib.out.keep (Gen.over (Gen.b_alloc (x := .cells (i4 m0 m1 m2 m3) 70) (Below.refl _ w3)) hb3))
          have W3 := Lib.hid (Gen.over (Gen.b_alloc (x := .cells (i4 m0 m1 m2 m3) 70) (Below.refl _ w3)) (Gen.over hb3 W1.out))
          have R3 := Lib.hid (Row.new w3 70 (i4 m0 m1 m2 m3))
          have HLE := Lib.hid hLe
          clear hLe hb3 Ia Ib W1
          rcases d with _ | _
          · skip
            go_wp2_with (fail)
            go_must (refine (div_any _ La.out Lb.out J1.out J2.out Na.out.1 Nb.out.1 Na.out.2.1 Nb.out.2.1 (by omega) (by omega) (by rw [Nb.out.2.2]; omega)).mono ?_)
            rintro e w4 ⟨A3, c3, lq, A4, c4, lr, rfl, hi3, hi4, hn3, hn4, hb4⟩
            rw [Na.out.2.2, Nb.out.2.2] at hn4
            have hmod := Nat.mod_lt Xa h20
            have hN4 : Nm lr ((Xa % Xb : Nat) : Int) := hn4.to rfl
            have S1 := Lib.hid (show Sl w4 (.slice Ab nb cb) Xb from ⟨_, _, _, _, rfl, Lb.out, J2.out.keep hb4, Nb.out, by omega⟩)
            have S2 := Lib.hid (show Sl w4 (.slice A4 (List.length lr) c4) (Xa % Xb) from ⟨_, _, _, _, rfl, rfl, hi4, hN4, by
              have := len_mono Nb.out hN4 (by omega)
              rw [Lb.out] at this
              omega⟩)
            have W4 := Lib.hid (Gen.over hb4 W3.out)
            have HG3 : Hid (Nat.gcd Xb (Xa % Xb) = G) := Lib.hid (by rw [← HG2.out, Nat.gcd_comm Xa Xb, Nat.gcd_rec Xb Xa, Nat.gcd_comm])
            have V1 := valAt_eq S1.out
            have V2 := valAt_eq S2.out
            have V3 := VA.out
            have V4 := VB.out
            clear hi3 hi4 hn3 hn4 hb4 hN4
            go_wp2
            go_roundw
            case rel => exact ⟨Xb, Xa % Xb, S1, S2, HG3, W4⟩
            case measure => rw [V1, V2, V3, V4]; omega
          · skip
            have hAB := HLE.out.dn rfl
            have hpA := HLE.out.posA
            have hpB := HLE.out.posB
            have hgg := HLE.out.g
            have hp0 := HLE.out.b0
            have hp1 := HLE.out.b1
            have hp2 := HLE.out.b2
            have hp3 := HLE.out.b3
            have hlt1 := val_lt Na.out.1
            rw [La.out, Na.out.2.2] at hlt1
            have h60v := (Na.out.len 60).1 (by rw [La.out]; omega)
            have D1 := Lib.hid Na.out.1
            have D2 := Lib.hid Nb.out.1
            have HC1 : Hid (0 ≤ m0 * val la + m1 * val lb ∧ m0 * val la + m1 * val lb < pw na) := Lib.hid (by rw [Na.out.2.2, Nb.out.2.2]; omega)
            have HC2 : Hid (0 ≤ m2 * val la + m3 * val lb ∧ m2 * val la + m3 * val lb < pw na) := Lib.hid (by rw [Na.out.2.2, Nb.out.2.2]; omega)
            have HZ1 : Hid (∀ l, Nm l (m0 * val la + m1 * val lb) → Nm l ((m0 * (Xa : Int) + m1 * (Xb : Int)).natAbs : Int) ∧ l.length ≤ 60) := Lib.hid fun l h => by
              have h' : Nm l ((m0 * (Xa : Int) + m1 * (Xb : Int)).natAbs : Int) := h.to (by rw [Na.out.2.2, Nb.out.2.2]; omega)
              exact ⟨h', (h'.len 60).2 (by omega)⟩
            have HZ2 : Hid (∀ l, Nm l (m2 * val la + m3 * val lb) → Nm l ((m2 * (Xa : Int) + m3 * (Xb : Int)).natAbs : Int) ∧ l.length ≤ 60) := Lib.hid fun l h => by
              have h' : Nm l ((m2 * (Xa : Int) + m3 * (Xb : Int)).natAbs : Int) := h.to (by rw [Na.out.2.2, Nb.out.2.2]; omega)
              exact ⟨h', (h'.len 60).2 (by omega)⟩
            obtain ⟨X5, hX5⟩ : ∃ z, (m0 * (Xa : Int) + m1 * (Xb : Int)).natAbs = z := ⟨_, rfl⟩
            obtain ⟨X6, hX6⟩ : ∃ z, (m2 * (Xa : Int) + m3 * (Xb : Int)).natAbs = z := ⟨_, rfl⟩
            have HLT : Hid (X5 < Xa + 1 ∧ X6 < X5 ∧ X5 ≤ Xb) := Lib.hid (by omega)
            have HG3 : Hid (Nat.gcd X5 X6 = G) := Lib.hid (by
              rw [← HG2.out, ← hX5, ← hX6]
              exact hgg)
            rw [hX5] at HZ1
            rw [hX6] at HZ2
            clear hAB hpA hpB hgg hX5 hX6 hlt1 h60v HLE
            have c0 := R3.out.cell 0
            have c1 := R3.out.cell 1
            have c2 := R3.out.cell 2
            have c3 := R3.out.cell 3
            have C0 : Hid (_ = some (Value.int .i64 m0)) := Lib.hid c0
            have C1 : Hid (_ = some (Value.int .i64 m1)) := Lib.hid c1
            have C2 : Hid (_ = some (Value.int .i64 m2)) := Lib.hid c2
            have C3 : Hid (_ = some (Value.int .i64 m3)) := Lib.hid c3
            unfold i4 at c0 c1 c2 c3 J1 J2 W3 C0 C1 C2 C3
            clear R3
            go_wp2_with (fail)
            generalize w3.alloc (.cells #[.int .i64 m0, .int .i64 m1, .int .i64 m2, .int .i64 m3] 70) = w4 at c0 c1 c2 c3 J1 J2 W3 C0 C1 C2 C3 ⊢
            go_region_held3 (fun W' : World => Below w4.heap.size w4 W' ∧ W'.cell? ⟨w3.heap.size, 0, none⟩ = some (.int .i64 m0) ∧ W'.cell? ⟨w3.heap.size, 1, none⟩ = some (.int .i64 m1) ∧ W'.cell? ⟨w3.heap.size, 2, none⟩ = some (.int .i64 m2) ∧ W'.cell? ⟨w3.heap.size, 3, none⟩ = some (.int .i64 m3))
              (first | exact hS5 | exact ⟨(Below.refl _ _).drew, C0.out, C1.out, C2.out, C3.out⟩)
              (first
                | (go_at_call 51; (with_reducible refine (combine_any (p := m0) (q := m1) _ La.out Lb.out (J1.out.keep (And.left (by assumption))) (J2.out.keep (And.left (by assumption))) D1.out D2.out hp0 hp1 hnn HC1.out.1 HC1.out.2 (by omega)).mono ?_); rintro e' w' ⟨A5, c5, l5, rfl, hi5, hn5, hb5⟩; have hS5 := (show (Below w4.heap.size w4 w' ∧ w'.cell? ⟨w3.heap.size, 0, none⟩ = some (.int .i64 m0) ∧ w'.cell? ⟨w3.heap.size, 1, none⟩ = some (.int .i64 m1) ∧ w'.cell? ⟨w3.heap.size, 2, none⟩ = some (.int .i64 m2) ∧ w'.cell? ⟨w3.heap.size, 3, none⟩ = some (.int .i64 m3)) from ⟨Gen.over hb5 (And.left (by assumption)), Gen.keep hb5 (And.left (And.right (by assumption))), Gen.keep hb5 (And.left (And.right (And.right (by assumption)))), Gen.keep hb5 (And.left (And.right (And.right (And.right (by assumption))))), Gen.keep hb5 (And.right (And.right (And.right (And.right (by assumption)))))⟩))
                | (go_at_call 51; (with_reducible refine (combine_any (p := m2) (q := m3) _ La.out Lb.out (J1.out.keep (And.left (by assumption))) (J2.out.keep (And.left (by assumption))) D1.out D2.out hp2 hp3 hnn HC2.out.1 HC2.out.2 (by omega)).mono ?_); rintro e' w' ⟨A6, c6, l6, rfl, hi6, hn6, hb6⟩; have hS5 := (show (Below w4.heap.size w4 w' ∧ w'.cell? ⟨w3.heap.size, 0, none⟩ = some (.int .i64 m0) ∧ w'.cell? ⟨w3.heap.size, 1, none⟩ = some (.int .i64 m1) ∧ w'.cell? ⟨w3.heap.size, 2, none⟩ = some (.int .i64 m2) ∧ w'.cell? ⟨w3.heap.size, 3, none⟩ = some (.int .i64 m3)) from ⟨Gen.over hb6 (And.left (by assumption)), Gen.keep hb6 (And.left (And.right (by assumption))), Gen.keep hb6 (And.left (And.right (And.right (by assumption)))), Gen.keep hb6 (And.left (And.right (And.right (And.right (by assumption))))), Gen.keep hb6 (And.right (And.right (And.right (And.right (by assumption)))))⟩))
                | fail "no arm")
            all_goals
              have hI5 : Ints w' A5 l5 := (by first | exact hi5 | exact hi5.keep hb6)
              have hI6 : Ints w' A6 l6 := (by first | exact hi6 | exact hi6.keep hb5)
              have S1 := Lib.hid (show Sl w' (.slice A5 (List.length l5) c5) X5 from ⟨_, _, _, _, rfl, rfl, hI5, (HZ1.out l5 hn5).1, (HZ1.out l5 hn5).2⟩)
              have S2 := Lib.hid (show Sl w' (.slice A6 (List.length l6) c6) X6 from ⟨_, _, _, _, rfl, rfl, hI6, (HZ2.out l6 hn6).1, (HZ2.out l6 hn6).2⟩)
              have W4 := Lib.hid (Gen.over hS5.1 W3.out)
              have V1 := valAt_eq S1.out
              have V2 := valAt_eq S2.out
              have V3 := VA.out
              have V4 := VB.out
              have hlt5 := HLT.out
              go_wp2
              go_roundw
              case rel => exact ⟨X5, X6, S1, S2, HG3, W4⟩
              case measure => rw [V1, V2, V3, V4]; omega
end Go.Proofs.YtnifkianjpjahaaDoor.Bg
