/- Restatements: derived values in memory; ascending, Right. -/
import Derived.Test.YtohbdffmidbjhaaReP
import Derived.BigQuiet
namespace Go.Proofs.Ytohbdffmidbjhaa.Re
open Go.ChangeShapes Go.WideShapes Go.ChangeAt Go.RowKit Go.Proofs.Ytohbdffmidbjhaa.Cell
set_option linter.unusedVariables false
set_option linter.unusedSimpArgs false
/-- a derived value in memory -/
structure DvAt (w : World) (b o : Nat) (d : Dv) (A1 : Option Addr) (c1 : Nat) (A2 : Option Addr) (c2 : Nat) : Prop where
  k0 : w.cell? ⟨b, o, none⟩ = some (.slice A1 d.fr.length c1)
  k1 : w.cell? ⟨b, o + 1, none⟩ = some (.slice A2 d.fa.length c2)
  fr : Ints w A1 d.fr
  fa : Ints w A2 d.fa
theorem DvAt.keep {w w1 : World} {b o : Nat} {d : Dv} {A1 A2 : Option Addr} {c1 c2 : Nat} (h : DvAt w b o d A1 c1 A2 c2) (hb : Below w.heap.size w w1) : DvAt w1 b o d A1 c1 A2 c2 :=
  ⟨keep0 hb _ _ _ h.k0, keep0 hb _ _ _ h.k1, h.fr.keep hb, h.fa.keep hb⟩
/-- derived values in memory -/
def Dvs (w : World) (A : Option Addr) (l : List Dv) : Prop := 0 < l.length → ∃ b off, A = some ⟨b, off, none⟩ ∧ ∀ (j : Nat) d, l[j]? = some d → ∃ A1 c1 A2 c2, DvAt w b (off + j * 2) d A1 c1 A2 c2
theorem Dvs.keep {w w1 : World} {A : Option Addr} {l : List Dv} (h : Dvs w A l) (hb : Below w.heap.size w w1) : Dvs w1 A l := fun h0 => by
  obtain ⟨b, off, e, hc⟩ := h h0
  refine ⟨b, off, e, fun j d hd => ?_⟩
  obtain ⟨A1, c1, A2, c2, k⟩ := hc j d hd
  exact ⟨A1, c1, A2, c2, k.keep hb⟩
theorem drop_at {α : Type} {l : List α} {k : Nat} {x : α} (h : l[k]? = some x) : l.drop k = x :: l.drop (k + 1) := by
  obtain ⟨hk, rfl⟩ := List.getElem?_eq_some_iff.1 h
  exact List.drop_eq_getElem_cons hk
set_option maxRecDepth 100000 in
set_option maxHeartbeats 4000000 in
theorem asc_any {w : World} {A : Option Addr} {n c : Nat} {l : List Int} (hn : l.length = n) (hc : Ints w A l) (hbig : n ≤ 9223372036854775807) :
    Calls Try.prog 26 #[.slice A n c] w fun e w' => e = .returned (.bool (asc (-1) l)) ∧ w' = w := by
  have HN := Lib.hid hn
  have HC := Lib.hid hc
  obtain ⟨R, hR⟩ : ∃ R, asc (-1) l = R := ⟨_, rfl⟩
  rw [hR]
  have HR := Lib.hid hR
  clear hn hc hR
  go_enter Try.func26, Try.ntmps26
  go_wp2_with (fail)
  go_loopw [3, 8] (fun bv iv wr => ∃ (k : Nat) (b : Int), k ≤ n ∧ iv = .int .i64 k ∧ bv = .int .i64 b ∧ Hid (asc b (l.drop k) = R) ∧ wr = w) (fun _ iv _ => n - (intOf iv).toNat)
  case atStart => exact ⟨0, -1, Nat.zero_le _, rfl, rfl, by rw [List.drop_zero]; exact HR, rfl⟩
  case round =>
    obtain ⟨k, b, hk, rfl, rfl, HA, rfl⟩ := hrel
    have k0 : (0 : Int) ≤ (k : Int) := by omega
    by_cases hlt : k < n
    · have hltI : (k : Int) < (n : Int) := by omega
      obtain ⟨x, hx⟩ := at_ l k (by rw [HN.out]; exact hlt)
      obtain ⟨g, off, rfl, hcell⟩ := HC.out (by rw [HN.out]; omega)
      have c0 := hcell k x hx
      have hA := HA.out
      rw [drop_at hx, asc] at hA
      by_cases hbx : x ≤ b
      · obtain rfl : R = false := by rw [← hA, decide_eq_false (show ¬ b < x by omega)]; rfl
        clear hcell hx hA hlt
        go_wp2
        go_ret
        exact ⟨rfl, rfl⟩
      · have hlb : b < x := by omega
        have HA2 : Hid (asc x (l.drop (k + 1)) = R) := Lib.hid (by rw [← hA, decide_eq_true hlb, Bool.true_and])
        clear hcell hx hA hlt HA
        go_wp2
        go_roundw
        case rel => first | exact ⟨k + 1, x, by omega, by go_num, rfl, HA2, rfl⟩ | exact ⟨k + 1, x, by omega, by go_num, rfl, HA2, trivial⟩
        case measure => simp [intOf]; omega
    · obtain rfl : n = k := by omega
      have hA := HA.out
      rw [List.drop_of_length_le (by rw [HN.out]; exact Nat.le_refl _), asc] at hA
      subst hA
      clear hlt
      go_wp2
      go_ret
      exact ⟨rfl, rfl⟩
set_option maxRecDepth 100000 in
set_option maxHeartbeats 8000000 in
theorem right_any {w : World} {A : Option Addr} {n c : Nat} {l : List Dv} (hn : l.length = n) (hc : Dvs w A l) (hbig : n ≤ 9223372036854775807) (hin : ∀ d ∈ l, d.fr.length ≤ 9223372036854775807 ∧ d.fa.length ≤ 9223372036854775807) :
    Calls Try.prog 12 #[.slice A n c] w fun e w' => e = .returned (.bool (rgB l)) ∧ Below w.heap.size w w' := by
  have HN := Lib.hid hn
  have HC := Lib.hid hc
  have HIN := Lib.hid hin
  obtain ⟨R, hR⟩ : ∃ R, rgB l = R := ⟨_, rfl⟩
  rw [hR]
  unfold rgB at hR
  rw [hn] at hR
  by_cases hbn : n ≤ 10000
  case neg =>
    rw [decide_eq_false hbn, Bool.false_and] at hR
    subst hR
    have h1 : (10000 : Int) < (n : Int) := by omega
    clear hn hc hin
    go_enter Try.func12, Try.ntmps12
    go_wp2
    go_ret
    exact ⟨rfl, Below.refl _ _⟩
  rw [decide_eq_true hbn, Bool.true_and] at hR
  have h1 : ¬((10000 : Int) < (n : Int)) := by omega
  have HR := Lib.hid hR
  clear hn hc hin hR
  go_enter Try.func12, Try.ntmps12
  go_wp2_with (fail)
  clear h1
  go_loopw [10] (fun iv wr => ∃ (k : Nat), k ≤ n ∧ iv = .int .i64 k ∧ Hid (allOk k (l.drop k) = R) ∧ Below w.heap.size w wr) (fun iv _ => n - (intOf iv).toNat)
  case atStart => exact ⟨0, Nat.zero_le _, rfl, by rw [List.drop_zero]; exact HR, Below.refl _ _⟩
  case round =>
    obtain ⟨k, hk, rfl, HA, hW⟩ := hrel
    have k0 : (0 : Int) ≤ (k : Int) := by omega
    by_cases hlt : k < n
    · have hltI : (k : Int) < (n : Int) := by omega
      obtain ⟨⟨fr, fa⟩, hx⟩ := at_ l k (by rw [HN.out]; exact hlt)
      obtain ⟨g, off, rfl, hcell⟩ := (HC.out.keep hW) (by rw [HN.out]; omega)
      obtain ⟨A1, c1, A2, c2, hd⟩ := hcell k _ hx
      have hA := HA.out
      rw [drop_at hx, allOk] at hA
      obtain ⟨L1, L2⟩ := HIN.out _ (mem_of_at hx)
      dsimp only at L1 L2
      have d0 := hd.k0
      have d1 := hd.k1
      dsimp only at d0 d1
      obtain ⟨n1, hn1⟩ : ∃ n1, fr.length = n1 := ⟨_, rfl⟩
      obtain ⟨n2, hn2⟩ : ∃ n2, fa.length = n2 := ⟨_, rfl⟩
      rw [hn1] at d0 L1
      rw [hn2] at d1 L2
      have HN1 := Lib.hid hn1
      have HN2 := Lib.hid hn2
      have hx0 : Below wr.heap.size wr (wr.alloc (.cells #[.slice A1 n1 c1, .slice A2 n2 c2] 38)) := Gen.b_alloc (Below.refl _ _)
      have HF1 := Lib.hid (hd.fr.keep hx0)
      have HF2 := Lib.hid (hd.fa.keep hx0)
      have HW := Lib.hid (Gen.over hx0 hW)
      have HA1 := Lib.hid hA
      clear hcell hx hd hn1 hn2 hx0 hW hA HA hlt
      go_wp2_with (fail)
      go_must (refine (asc_any HN1.out HF1.out L1).mono ?_)
      rintro e1 w1 ⟨rfl, rfl⟩
      have hA := HA1.out
      unfold dvOk at hA
      dsimp only at hA
      cases h1 : asc (-1) fr
      · rw [h1] at hA
        obtain rfl : R = false := by rw [← hA]; rfl
        clear hA h1 HA1
        go_wp2
        go_ret
        exact ⟨rfl, HW.out⟩
      · rw [h1, Bool.true_and] at hA
        have HA2 := Lib.hid hA
        clear hA h1 HA1
        go_wp2_with (fail)
        go_must (refine (asc_any HN2.out HF2.out L2).mono ?_)
        rintro e1 w1 ⟨rfl, rfl⟩
        have hA := HA2.out
        cases h2 : asc (-1) fa
        · rw [h2] at hA
          obtain rfl : R = false := by rw [← hA]; rfl
          clear hA h2 HA2
          go_wp2
          go_ret
          exact ⟨rfl, HW.out⟩
        · rw [h2, Bool.true_and] at hA
          have HA3 := Lib.hid hA
          clear hA h2 HA2
          by_cases hz : n1 = 0
          · have hl : lastOk fr k = true := by
              have : fr = [] := List.length_eq_zero_iff.1 (by rw [HN1.out]; exact hz)
              rw [this]
              rfl
            have hA := HA3.out
            rw [hl, Bool.true_and] at hA
            have HA4 := Lib.hid hA
            have hz1 : ¬((0 : Int) < (n1 : Int)) := by omega
            clear hA hl HA3 hz
            go_wp2
            go_roundw
            case rel => exact ⟨k + 1, by omega, by go_num, HA4, HW.out⟩
            case measure => simp [intOf]; omega
          · obtain ⟨p, hp⟩ : ∃ p, n1 = p + 1 := ⟨n1 - 1, by omega⟩
            obtain ⟨y, hy⟩ := at_ fr p (by rw [HN1.out]; omega)
            have hgl : fr.getLast? = some y := by rw [List.getLast?_eq_getElem?, HN1.out, hp]; exact hy
            obtain ⟨g1, o1, rfl, hc1⟩ := HF1.out (by rw [HN1.out]; omega)
            have m0 := hc1 p y hy
            have p0 : (0 : Int) ≤ (p : Int) := by omega
            have p1 : (p : Int) < (n1 : Int) := by omega
            have pw : IntKind.i64.wrap ((n1 : Int) - 1) = (p : Int) := by rw [show (n1 : Int) - 1 = (p : Int) by omega]; exact IntWalk.i64_in _ (by omega)
            have hz1 : (0 : Int) < (n1 : Int) := by omega
            have hA := HA3.out
            unfold lastOk at hA
            rw [hgl] at hA
            dsimp only at hA
            by_cases hyk : y < (k : Int)
            · rw [decide_eq_true hyk, Bool.true_and] at hA
              have HA4 := Lib.hid hA
              have hyk2 : ¬((k : Int) ≤ y) := by omega
              clear hA HA3 hz hp hgl hy hc1 hyk
              go_wp2
              go_roundw
              case rel => exact ⟨k + 1, by omega, by go_num, HA4, HW.out⟩
              case measure => simp [intOf]; omega
            · rw [decide_eq_false hyk] at hA
              obtain rfl : R = false := by rw [← hA]; rfl
              have hyk2 : (k : Int) ≤ y := by omega
              clear hA HA3 hz hp hgl hy hc1 hyk
              go_wp2
              go_ret
              exact ⟨rfl, HW.out⟩
    · obtain rfl : n = k := by omega
      have hA := HA.out
      rw [List.drop_of_length_le (by rw [HN.out]; exact Nat.le_refl _), allOk] at hA
      subst hA
      clear hlt
      go_wp2
      go_ret
      exact ⟨rfl, hW⟩
end Go.Proofs.Ytohbdffmidbjhaa.Re
