/- The reference of entitle: Same, Small; the reference's Few. -/
import Derived.Test.YtpekedhcnijgcaaEntD
namespace Go.Proofs.Ytpekedhcnijgcaa.Book
open Go.ChangeShapes Go.WideShapes Go.ChangeAt Go.RowKit Go.Proofs.Ytpekedhcnijgcaa.Cell
set_option linter.unusedVariables false
set_option linter.unusedSimpArgs false

def sEq (a b : List (Int × Int)) : Bool := decide (a = b)
set_option maxRecDepth 100000 in
set_option maxHeartbeats 4000000 in
theorem same_any (A : Option Addr) (n cap : Nat) (xs : List (Int × Int)) (A' : Option Addr) (m cap' : Nat) (ys : List (Int × Int)) (w : World) (hn : xs.length = n) (hc : Prs w A xs) (hbig : n ≤ 1000000)
    (hm : ys.length = m) (hc' : Prs w A' ys) (hbig' : m ≤ 1000000) :
    Calls Try.prog 33 #[.slice A n cap, .slice A' m cap'] w fun e w' => e = .returned (.bool (sEq xs ys)) ∧ Below w.heap.size w w' := by
  have HN := Lib.hid hn
  have HM := Lib.hid hm
  clear hn hm
  by_cases hnm : n = m
  · subst hnm
    go_enter Try.func33, Try.ntmps33
    go_wp2
    go_loopw [5] (fun i wr => ∃ k : Nat, k ≤ n ∧ i = .int .i64 k ∧ xs.take k = ys.take k ∧ ∃ nq, wr = w.drewN nq) (fun i _ => n - (intOf i).toNat)
    case atStart => exact ⟨0, Nat.zero_le _, rfl, by simp, 0, rfl⟩
    case round =>
      obtain ⟨k, hk, rfl, he, nq, rfl⟩ := hrel
      have HE := Lib.hid he
      clear he
      by_cases hlt : k < n
      · obtain ⟨b, off, rfl, hcell⟩ := hc (by rw [HN.out]; omega)
        obtain ⟨b', off', rfl, hcell'⟩ := hc' (by rw [HM.out]; omega)
        obtain ⟨x, hx⟩ := at_ xs k (by rw [HN.out]; exact hlt)
        obtain ⟨y, hy⟩ := at_ ys k (by rw [HM.out]; exact hlt)
        obtain ⟨c0, c1⟩ := hcell k x hx
        obtain ⟨c2, c3⟩ := hcell' k y hy
        have HX := Lib.hid hx
        have HY := Lib.hid hy
        have k0 : (0 : Int) ≤ (k : Int) := by omega
        have k1 : (k : Int) < (n : Int) := by omega
        clear hcell hcell' hx hy hc hc'
        obtain ⟨x0, x1⟩ := x
        obtain ⟨y0, y1⟩ := y
        dsimp only at c0 c1 c2 c3
        have HF : ((x0, x1) : Int × Int) ≠ (y0, y1) → sEq xs ys = false := fun hxy => decide_eq_false (fun e => hxy (by
            have h1 := HX.out
            rw [e, HY.out] at h1
            exact (Option.some.inj h1).symm))
        have HFF := Lib.hid HF
        clear HF
        by_cases h0 : x0 = y0
        · subst h0
          by_cases h1 : x1 = y1
          · subst h1
            go_wp2
            go_quiet (fail)
            go_wp2
            go_roundw
            case rel => exact ⟨k + 1, by omega, by go_num, by rw [take_snoc HX.out, take_snoc HY.out, HE.out], _, rfl⟩
            case measure => simp [intOf]; omega
          · have HR := Lib.hid (HFF.out (fun c => h1 (congrArg Prod.snd c)))
            have b1 : (x1 == y1) = false := by rw [beq_eq_false_iff_ne]; exact h1
            go_wp2
            go_quiet (fail)
            go_wp2
            go_ret
            exact ⟨ret_bool HR.out.symm, Gen.dN (Gen.dN (Below.refl _ _) _) _⟩
        · have HR := Lib.hid (HFF.out (fun c => h0 (congrArg Prod.fst c)))
          have b0 : (x0 == y0) = false := by rw [beq_eq_false_iff_ne]; exact h0
          go_wp2
          go_quiet (fail)
          go_wp2
          go_ret
          exact ⟨ret_bool HR.out.symm, Gen.dN (Gen.dN (Below.refl _ _) _) _⟩
      · obtain rfl : k = n := by omega
        have HF := Lib.hid (show sEq xs ys = true from decide_eq_true (by
          have h1 := HE.out
          have e1 : xs.take k = xs := by rw [← HN.out, List.take_length]
          have e2 : ys.take k = ys := by rw [← HM.out, List.take_length]
          rwa [e1, e2] at h1))
        go_wp2
        go_ret
        exact ⟨ret_bool HF.out.symm, Gen.dN (Below.refl _ _) _⟩
  · have HF := Lib.hid (show sEq xs ys = false from decide_eq_false (fun e => hnm (by rw [← HN.out, ← HM.out, e])))
    have hnb : ((n : Int) != (m : Int)) = true := by rw [bne_iff_ne]; omega
    go_enter Try.func33, Try.ntmps33
    go_wp2
    go_ret
    exact ⟨ret_bool HF.out.symm, Below.refl _ _⟩
theorem same_is {A : Option Addr} {n cap : Nat} {xs : List (Int × Int)} {A' : Option Addr} {m cap' : Nat} {ys : List (Int × Int)} (w : World) (hn : xs.length = n) (hc : Prs w A xs) (hbig : n ≤ 1000000)
    (hm : ys.length = m) (hc' : Prs w A' ys) (hbig' : m ≤ 1000000) {b : Bool} (h : sEq xs ys = b) :
    Calls Try.prog 33 #[.slice A n cap, .slice A' m cap'] w fun e w' => e = .returned (.bool b) ∧ Below w.heap.size w w' := by
  have hh := same_any A n cap xs A' m cap' ys w hn hc hbig hm hc' hbig'
  rw [h] at hh
  exact hh
def fewB (n m q : Nat) : Bool := decide (n ≤ 10) && decide (m ≤ 10) && decide (q ≤ 12)
theorem fewB_in {n m q : Nat} (h : fewB n m q = true) : n ≤ 10 ∧ m ≤ 10 ∧ q ≤ 12 := by
  unfold fewB at h
  simp only [Bool.and_eq_true, decide_eq_true_eq] at h
  exact ⟨h.1.1, h.1.2, h.2⟩
set_option maxHeartbeats 1000000 in
theorem tfew_is {A A' A3 : Option Addr} {n cap m cap' q cap3 : Nat} {b : Bool} (w : World) (hn : n ≤ 9223372036854775807) (hm : m ≤ 9223372036854775807) (hq : q ≤ 9223372036854775807) (h : fewB n m q = b) :
    Calls Try.prog 13 #[.slice A n cap, .slice A' m cap', .slice A3 q cap3] w fun e w' => e = .returned (.bool b) ∧ w = w' := by
  have HF := Lib.hid h
  clear h
  rcases (show 10 < n ∨ (n ≤ 10 ∧ 10 < m) ∨ (n ≤ 10 ∧ m ≤ 10 ∧ 12 < q) ∨ (n ≤ 10 ∧ m ≤ 10 ∧ q ≤ 12) by omega) with h1 | ⟨h1, h2⟩ | ⟨h1, h2, h3⟩ | ⟨h1, h2, h3⟩
  · have HE := Lib.hid (show b = false from by rw [← HF.out]; unfold fewB; rw [decide_eq_false (by omega)]; rfl)
    have e1 : 10 < (n : Int) := by omega
    go_enter Try.func13, Try.ntmps13
    go_wp2
    go_ret
    exact ⟨ret_bool HE.out.symm, rfl⟩
  · have HE := Lib.hid (show b = false from by rw [← HF.out]; unfold fewB; rw [decide_eq_false (show ¬ m ≤ 10 by omega), Bool.and_false]; rfl)
    have e1 : (n : Int) ≤ 10 := by omega
    have e2 : 10 < (m : Int) := by omega
    go_enter Try.func13, Try.ntmps13
    go_wp2
    go_ret
    first | exact ⟨ret_bool HE.out.symm, rfl⟩ | exact ⟨ret_bool (by rw [HE.out]; first | exact decide_eq_false (by omega) | (simp; omega)), rfl⟩
  · have HE := Lib.hid (show b = false from by rw [← HF.out]; unfold fewB; rw [decide_eq_false (show ¬ q ≤ 12 by omega), Bool.and_false])
    have e1 : (n : Int) ≤ 10 := by omega
    have e2 : (m : Int) ≤ 10 := by omega
    have e3 : 12 < (q : Int) := by omega
    go_enter Try.func13, Try.ntmps13
    go_wp2
    go_ret
    first | exact ⟨ret_bool HE.out.symm, rfl⟩ | exact ⟨ret_bool (by rw [HE.out]; first | exact decide_eq_false (by omega) | (simp; omega)), rfl⟩
  · have HE := Lib.hid (show b = true from by rw [← HF.out]; unfold fewB; rw [decide_eq_true h1, decide_eq_true h2, decide_eq_true h3]; rfl)
    have e1 : (n : Int) ≤ 10 := by omega
    have e2 : (m : Int) ≤ 10 := by omega
    have e3 : (q : Int) ≤ 12 := by omega
    go_enter Try.func13, Try.ntmps13
    go_wp2
    go_ret
    first | exact ⟨ret_bool HE.out.symm, rfl⟩ | exact ⟨ret_bool (by rw [HE.out]; first | exact decide_eq_true (by omega) | (simp; omega)), rfl⟩
end Go.Proofs.Ytpekedhcnijgcaa.Book
