/- Package vote: the contract of 'Tally'. -/
import Derived.Test.YtblegaclcpoonaaVoteC
namespace Go.Proofs.Ytblegaclcpoonaa.Vote
open Go.ChangeShapes Go.WideShapes Go.ChangeAt Go.RowKit
set_option linter.unusedVariables false

/-- the units of those who have said yes -/
def yesR : List Int → List Bool → Int
  | z :: zs, b :: bs => (if b = true then z else 0) + yesR zs bs
  | _, _ => 0
theorem total_add (zs : List Int) (a : Int) : zs.foldl (· + ·) a = a + total zs := by
  induction zs generalizing a with
  | nil => simp [total]
  | cons z zs ih => unfold total; rw [List.foldl_cons, List.foldl_cons, ih, ih (0 + z)]; omega
theorem total_cons (z : Int) (zs : List Int) : total (z :: zs) = z + total zs := by
  show (z :: zs).foldl (· + ·) 0 = _
  rw [List.foldl_cons, total_add]; omega
theorem yesR_snoc {xs : List Int} {ys : List Bool} (x : Int) (y : Bool) (h : xs.length = ys.length) : yesR (xs ++ [x]) (ys ++ [y]) = yesR xs ys + if y = true then x else 0 := by
  induction xs generalizing ys with
  | nil => cases ys with
    | nil => simp [yesR]
    | cons b bs => simp at h
  | cons z zs ih => cases ys with
    | nil => simp at h
    | cons b bs =>
      have := ih (ys := bs) (by simpa using h)
      simp only [List.cons_append, yesR, this]
      omega
theorem yesR_in {xs : List Int} (ys : List Bool) (h : xs.all goodU = true) : 0 ≤ yesR xs ys ∧ yesR xs ys ≤ total xs := by
  induction xs generalizing ys with
  | nil => simp [yesR, total]
  | cons z zs ih =>
    rw [List.all_cons, Bool.and_eq_true] at h
    have b := goodU_in h.1
    have t := total_in zs h.2
    rw [total_cons]
    cases ys with
    | nil => simp only [yesR]; omega
    | cons y ys =>
      have i := ih ys h.2
      simp only [yesR]
      split <;> omega

/-- units and votes are right -/
def okT (zs : List Int) (vs : List V) : Bool := sumB zs && rgt zs.length vs
def tY (zs : List Int) (vs : List V) (u : Int) : Int := if okT zs vs = true then yesR zs (lastV zs.length u vs) else 0
def tA (zs : List Int) (vs : List V) : Int := if okT zs vs = true then total zs else 0
def tE (zs : List Int) (vs : List V) : Int := if okT zs vs = true then 0 else 1

theorem ret3 {a a' b b' c c' : Int} (h : a' = a ∧ b' = b ∧ c' = c) : Ending.returned (.tuple #[.int .i64 a, .int .i64 b, .int .i64 c]) = .returned (.tuple #[.int .i64 a', .int .i64 b', .int .i64 c']) := by rw [h.1, h.2.1, h.2.2]
theorem tally_no {zs : List Int} {vs : List V} (h : okT zs vs = false) (u : Int) : tY zs vs u = 0 ∧ tA zs vs = 0 ∧ tE zs vs = 1 := by
  unfold tY tA tE
  simp [h]
theorem tally_yes {zs : List Int} {vs : List V} (h : okT zs vs = true) (u : Int) : tY zs vs u = yesR zs (lastV zs.length u vs) ∧ tA zs vs = total zs ∧ tE zs vs = 0 := by
  unfold tY tA tE
  simp [h]

set_option maxHeartbeats 4000000 in
theorem tally_any (A : Option Addr) (n cap : Nat) (zs : List Int) (A' : Option Addr) (m cap' : Nat) (vs : List V) (u : Int) (w : World) (hn : zs.length = n) (hc : Ints w A zs) (hbig : n ≤ 9223372036854775807)
    (hm : vs.length = m) (hc' : Votes w A' vs) (hbig' : m ≤ 9223372036854775807) :
    Calls Try.prog 31 #[.slice A n cap, .slice A' m cap', .int .i64 u] w fun e w' => e = .returned (.tuple #[.int .i64 (tY zs vs u), .int .i64 (tA zs vs), .int .i64 (tE zs vs)]) ∧ Below w.heap.size w w' := by
  have HN := Lib.hid hn
  have HM := Lib.hid hm
  clear hn hm
  cases hs : sumB zs
  · have E := Lib.hid (tally_no (zs := zs) (vs := vs) (by unfold okT; rw [hs]; rfl) u)
    go_enter Try.func31, Try.ntmps31
    go_wp2_with (go_at_call 61; refine (sum_any _ _ _ zs _ HN.out hc hbig).mono ?_; rintro e w' ⟨rfl, rfl⟩)
    go_ret3
    exact ⟨ret3 E.out, by go_grown⟩
  · cases hr : rgt n vs
    · have E := Lib.hid (tally_no (zs := zs) (vs := vs) (by unfold okT; rw [hs, HN.out, hr]; rfl) u)
      go_enter Try.func31, Try.ntmps31
      go_wp2_with (fail)
      refine (sum_any _ _ _ zs _ HN.out hc hbig).mono ?_
      rintro e w' ⟨rfl, rfl⟩
      go_wp2_with (fail)
      refine (right_any _ _ _ vs _ _ HM.out hc' hbig').mono ?_
      rintro e w1 ⟨rfl, hb⟩
      go_wp2
      go_ret3
      exact ⟨ret3 E.out, by go_grown⟩
    · have hok : okT zs vs = true := by unfold okT; rw [hs, HN.out, hr]; rfl
      have E := Lib.hid (tally_yes hok u)
      have hall : allU zs = true := by
        unfold sumB at hs
        rw [Bool.and_eq_true] at hs
        exact hs.1
      have hV := (sum_yes hall).1
      have hl : n ≤ 20000 := by
        unfold allU at hall
        rw [Bool.and_eq_true] at hall
        have h1 := of_decide_eq_true hall.1
        have h2 := HN.out
        omega
      have hg : zs.all goodU = true := by
        unfold allU at hall
        rw [Bool.and_eq_true] at hall
        exact hall.2
      have HG := Lib.hid hg
      have HV := Lib.hid hV
      clear hall hV hg hok
      go_enter Try.func31, Try.ntmps31
      go_wp2_with (fail)
      refine (sum_any _ _ _ zs _ HN.out hc hbig).mono ?_
      rintro e w' ⟨rfl, rfl⟩
      go_wp2_with (fail)
      refine (right_any _ _ _ vs _ _ HM.out hc' hbig').mono ?_
      rintro e w1 ⟨rfl, hb⟩
      go_wp2_with (fail)
      refine (last_any _ _ _ vs _ _ _ HM.out (hc'.keep hb) hbig' (by omega) (by omega)).mono ?_
      rintro e w2 ⟨rfl, hb2, hrow⟩
      have hB : Below w.heap.size w w2 := over hb2 hb
      have hcI := (hc.keep hb).keep hb2
      rw [Int.toNat_natCast]
      have hLL := lastV_length n u vs
      rw [Int.toNat_natCast] at hLL
      have HLL := Lib.hid hLL
      clear hLL hc hc' hb hb2
      go_wp2
      generalize hbs : lastV n u vs = bs at hrow HLL
      have HBS := Lib.hid hbs
      clear hbs
      go_loop [6, 32] (fun s i => ∃ k : Nat, k ≤ n ∧ i = .int .i64 k ∧ s = .int .i64 (yesR (zs.take k) (bs.take k))) (fun _ i => n - (intOf i).toNat)
      case atStart => exact ⟨0, Nat.zero_le _, rfl, by simp [yesR]⟩
      case round =>
        obtain ⟨k, hk, rfl, rfl⟩ := hrel
        have hin := yesR_in (xs := zs.take k) (bs.take k) (by
          rw [List.all_eq_true]
          exact fun x hx => List.all_eq_true.1 HG.out x (List.mem_of_mem_take hx))
        have hto := total_in (zs.take k) (by
          rw [List.all_eq_true]
          exact fun x hx => List.all_eq_true.1 HG.out x (List.mem_of_mem_take hx))
        have hle : ((zs.take k).length : Int) ≤ 20000 := by
          have := List.length_take_le k zs
          omega
        have b1 := hin.1
        have b2 : yesR (zs.take k) (bs.take k) ≤ 20000000000000 := by omega
        clear hin hto hle
        by_cases hlt : k < n
        · obtain ⟨b, off, rfl, hcell⟩ := hcI (by rw [HN.out]; omega)
          obtain ⟨z, hz⟩ := at_ zs k (by rw [HN.out]; exact hlt)
          obtain ⟨y, hy⟩ := at_ bs k (by rw [HLL.out]; exact hlt)
          have c0 := hcell k z hz
          have c1 : w2.cell? ⟨w1.heap.size, k, none⟩ = some (.bool y) := (hrow.cell k).trans (bcs_at hy)
          have g := goodU_in (List.all_eq_true.1 HG.out z (mem_of_at hz))
          have g1 := g.1
          have g2 := g.2
          have HS := Lib.hid (show yesR (zs.take (k + 1)) (bs.take (k + 1)) = yesR (zs.take k) (bs.take k) + if y = true then z else 0 from by
            rw [take_snoc hz, take_snoc hy, yesR_snoc]
            simp [HN.out, HLL.out])
          clear hcell hz hy g hrow hcI
          cases y
          · go_wp2
            go_round
            case rel => exact ⟨k + 1, by omega, by go_num, by rw [HS.out]; simp⟩
            case measure => simp [intOf]; omega
          · go_wp2
            go_round
            case rel => exact ⟨k + 1, by omega, by go_num, by rw [HS.out]; simp⟩
            case measure => simp [intOf]; omega
        · obtain rfl : k = n := by omega
          have HF := Lib.hid (show tY zs vs u = yesR (zs.take k) (bs.take k) ∧ tA zs vs = sumV zs ∧ tE zs vs = 0 from by
            refine ⟨?_, by rw [E.out.2.1, HV.out], E.out.2.2⟩
            have e1 : zs.take k = zs := by rw [← HN.out, List.take_length]
            have e2 : bs.take k = bs := by rw [← HLL.out, List.take_length]
            rw [E.out.1, e1, e2, HN.out, HBS.out])
          go_wp2
          go_ret3
          exact ⟨ret3 HF.out, by go_grown⟩
end Go.Proofs.Ytblegaclcpoonaa.Vote
