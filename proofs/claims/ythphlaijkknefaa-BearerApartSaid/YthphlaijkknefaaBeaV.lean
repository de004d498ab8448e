/- Bearer pieces: the reference's Same, at equal lists. -/
import Derived.Test.YthphlaijkknefaaBeaU
namespace Go.Proofs.Ythphlaijkknefaa.Bea
open Go.ChangeShapes Go.WideShapes Go.ChangeAt Go.RowKit Go.Proofs.Ythphlaijkknefaa.Cell
set_option linter.unusedVariables false
set_option linter.unusedSimpArgs false
set_option maxRecDepth 100000 in
set_option maxHeartbeats 16000000 in
theorem same_eq (A A' : Option Addr) (n cap cap' : Nat) (l : List Pc) (w : World) (hn : l.length = n) (hc : Pcl w A l) (hc' : Pcl w A' l) (hsz : ∀ x ∈ l, x.pd.length ≤ 400) (hbig : n ≤ 1000) :
    Calls Try.prog 11 #[.slice A n cap, .slice A' n cap'] w fun e w' => e = .returned (.bool true) ∧ Below w.heap.size w w' := by
  have HN := Lib.hid hn
  have HC := Lib.hid hc
  have HC' := Lib.hid hc'
  have HSZ := Lib.hid hsz
  have hnn : ((n : Int) != (n : Int)) = false := by simp
  clear hn hc hc' hsz
  go_enter Try.func11, Try.ntmps11
  go_wp2
  clear hnn
  go_loopw [5] (fun iv wr => ∃ k : Nat, k ≤ n ∧ iv = .int .i64 k ∧ Hid (Below w.heap.size w wr)) (fun iv _ => n - (intOf iv).toNat)
  case atStart => exact ⟨0, Nat.zero_le _, rfl, Lib.hid (Below.refl _ _)⟩
  case round =>
    obtain ⟨k, hk, rfl, HB⟩ := hrel
    have k0 : (0 : Int) ≤ (k : Int) := by omega
    by_cases hlt : k < n
    · have hltI : (k : Int) < (n : Int) := by omega
      obtain ⟨x, hx⟩ := at_ l k (by rw [HN.out]; exact hlt)
      obtain ⟨b, off, rfl, hcell⟩ := HC.out (by rw [HN.out]; omega)
      obtain ⟨b', off', rfl, hcell'⟩ := HC'.out (by rw [HN.out]; omega)
      have hs := HSZ.out x (mem_of_at hx)
      obtain ⟨c0, c1, ⟨A2, d2, c2, hbo⟩, c3, c4⟩ := pcl_cells (HC.out.keep HB.out) hx
      obtain ⟨e0, e1, ⟨A3, d3, e2, hbo'⟩, e3, e4⟩ := pcl_cells (HC'.out.keep HB.out) hx
      clear hcell hcell'
      obtain ⟨xi, xu, xp, xl, xs⟩ := x
      dsimp only at c0 c1 c2 c3 c4 e0 e1 e2 e3 e4 hs hbo hbo'
      have h0 : (xi != xi) = false := by simp
      have h1 : (xu != xu) = false := by simp
      have h2 : (xl != xl) = false := by simp
      have h3 : (xs != xs) = false := by simp
      have h4 : ((xp.length : Int) != (xp.length : Int)) = false := by simp
      have HBO := Lib.hid hbo
      have HBO' := Lib.hid hbo'
      clear hbo hbo'
      go_wp2
      go_quiet (fail)
      have HB2 : Hid (Below w.heap.size w (wr.drewN nq)) := Lib.hid (Gen.dN HB.out nq)
      generalize wr.drewN nq = w2 at HB2 ⊢
      have hsI : (xp.length : Int) ≤ 400 := by omega
      clear c0 c1 c2 c3 c4 e0 e1 e2 e3 e4 h0 h1 h2 h3 h4 HBO HBO' HB
      go_wp2
      go_loopw [6] (fun jv wq => ∃ m : Nat, m ≤ xp.length ∧ jv = .int .i64 m ∧ Hid (Below w.heap.size w wq)) (fun jv _ => xp.length - (intOf jv).toNat)
      case atStart => exact ⟨0, Nat.zero_le _, rfl, HB2⟩
      case round =>
        clear HB2
        obtain ⟨m, hm, rfl, HB⟩ := hrel
        have m0 : (0 : Int) ≤ (m : Int) := by omega
        obtain ⟨_, _, ⟨A4, d4, c2, hbo⟩, _, _⟩ := pcl_cells (HC.out.keep HB.out) hx
        obtain ⟨_, _, ⟨A5, d5, e2, hbo'⟩, _, _⟩ := pcl_cells (HC'.out.keep HB.out) hx
        dsimp only at c2 e2 hbo hbo'
        by_cases hml : m < xp.length
        · have hmI : (m : Int) < (xp.length : Int) := by omega
          obtain ⟨b2, o2, rfl, hb2⟩ := hbo (by omega)
          obtain ⟨b3, o3, rfl, hb3⟩ := hbo' (by omega)
          obtain ⟨y, hy⟩ := at_ xp m hml
          have f2 := hb2 m y hy
          have f3 := hb3 m y hy
          have hyy : (y != y) = false := by simp
          clear hb2 hb3 hbo hbo' hy
          go_wp2
          go_quiet (fail)
          go_wp2
          go_roundw
          case rel => exact ⟨m + 1, by omega, by go_num, Lib.hid (Gen.dN HB.out _)⟩
          case measure => simp [intOf]; omega
        · obtain rfl : m = xp.length := by omega
          clear hbo hbo'
          go_wp2
          go_roundw
          case rel => exact ⟨k + 1, by omega, by go_num, HB⟩
          case measure => simp [intOf]; omega
    · obtain rfl : k = n := by omega
      go_wp2
      go_ret
      exact ⟨rfl, HB.out⟩
end Go.Proofs.Ythphlaijkknefaa.Bea
