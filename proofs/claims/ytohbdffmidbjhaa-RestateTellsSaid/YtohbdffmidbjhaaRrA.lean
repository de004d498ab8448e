/- Restatements: the reference's Right and Changed. -/
import Derived.Test.YtohbdffmidbjhaaReX
import Derived.Test.YtohbdffmidbjhaaReZ
import Derived.Test.YtohbdffmidbjhaaLReCl
namespace Go.Proofs.Ytohbdffmidbjhaa.Re
open Go.ChangeShapes Go.WideShapes Go.ChangeAt Go.RowKit Go.Maps Go.Proofs.Ytohbdffmidbjhaa.Cell Go.Proofs.Ytohbdffmidbjhaa.Rk
set_option linter.unusedVariables false
set_option linter.unusedSimpArgs false
/-- sources that ascend and lie before a value -/
def chF (i : Nat) : Int → List Int → Bool
  | _, [] => true
  | b, x :: l => decide (b < x) && decide (x < (i : Int)) && chF i x l
theorem chF_eq (i : Nat) : ∀ (l : List Int) (b : Int), chF i b l = (asc b l && lastOk l i)
  | [], b => by simp [chF, asc, lastOk]
  | [x], b => by simp [chF, asc, lastOk]
  | x :: y :: l, b => by
    have ih := chF_eq i (y :: l) x
    rw [chF, ih, show asc b (x :: y :: l) = (decide (b < x) && asc x (y :: l)) from rfl]
    have hl : lastOk (x :: y :: l) i = lastOk (y :: l) i := by unfold lastOk; rw [List.getLast?_cons_cons]
    rw [hl]
    by_cases h1 : b < x
    · rw [decide_eq_true h1]
      cases h2 : asc x (y :: l) && lastOk (y :: l) i with
      | false => simp [h2]
      | true =>
        rw [Bool.and_eq_true] at h2
        have h3 : x < (i : Int) := by
          have h4 := asc_lt h2.1 y (by simp)
          have h5 := h2.2
          unfold lastOk at h5
          cases hg : (y :: l).getLast? with
          | none => simp at hg
          | some z =>
            rw [hg] at h5
            simp only [decide_eq_true_eq] at h5
            have := asc_last h2.1 hg y (by simp)
            omega
        rw [decide_eq_true h3, h2.1, h2.2]
        try rfl
    · rw [decide_eq_false h1]
      simp
theorem dvOk_eq (i : Nat) (d : Dv) : dvOk i d = (chF i (-1) d.fr && asc (-1) d.fa) := by
  rw [chF_eq]
  unfold dvOk
  cases asc (-1) d.fr <;> cases asc (-1) d.fa <;> simp
/-- where a walk over a list stands: behind its first j numbers, the last of which is b -/
def Stands (l : List Int) (j : Nat) (b : Int) : Prop := (j = 0 ∧ b = -1) ∨ ∃ p, j = p + 1 ∧ l[p]? = some b ∧ 0 ≤ b
set_option maxRecDepth 100000 in
set_option maxHeartbeats 8000000 in
theorem rright_any {w : World} {A : Option Addr} {n c : Nat} {l : List Dv} (hn : l.length = n) (hc : Dvs w A l) (hbig : n ≤ 9223372036854775807) (hin : ∀ d ∈ l, d.fr.length ≤ 1000000 ∧ d.fa.length ≤ 1000000) :
    Calls Try.prog 13 #[.slice A n c] w fun e w' => e = .returned (.bool (rgB l)) ∧ w' = w := by
  have HN := Lib.hid hn
  have HC := Lib.hid hc
  have HIN := Lib.hid hin
  obtain ⟨R, hR⟩ : ∃ R, rgB l = R := ⟨_, rfl⟩
  rw [hR]
  unfold rgB at hR
  rw [hn] at hR
  by_cases hbn : n ≤ 10000
  case neg =>
    rw [decide_eq_false hbn, Bool.false_and] at hR
    subst hR
    have h1 : (10000 : Int) < (n : Int) := by omega
    clear hn hc hin
    go_enter Try.func13, Try.ntmps13
    go_wp2
    go_ret
    exact ⟨rfl, by first | rfl | trivial⟩
  rw [decide_eq_true hbn, Bool.true_and] at hR
  have h1 : ¬((10000 : Int) < (n : Int)) := by omega
  have HR := Lib.hid (show allOk 0 (l.drop 0) = R from hR)
  clear hn hc hin hR
  go_enter Try.func13, Try.ntmps13
  go_wp2_with (fail)
  clear h1
  go_loopw [3] (fun iv wr => ∃ (k : Nat), k ≤ n ∧ iv = .int .i64 k ∧ Hid (allOk k (l.drop k) = R) ∧ w = wr) (fun iv _ => n - (intOf iv).toNat)
  case atStart => exact ⟨0, Nat.zero_le _, rfl, HR, rfl⟩
  case round =>
    obtain ⟨k, hk, rfl, HA, hww⟩ := hrel
    subst hww
    have k0 : (0 : Int) ≤ (k : Int) := by omega
    by_cases hlt : k < n
    · have hltI : (k : Int) < (n : Int) := by omega
      obtain ⟨⟨fr, fa⟩, hx⟩ := at_ l k (by rw [HN.out]; exact hlt)
      obtain ⟨g, off, rfl, hcell⟩ := HC.out (by rw [HN.out]; omega)
      obtain ⟨A1, c1, A2, c2, hd⟩ := hcell k _ hx
      obtain ⟨L1, L2⟩ := HIN.out _ (mem_of_at hx)
      dsimp only at L1 L2
      have d0 := hd.k0
      have d1 := hd.k1
      dsimp only at d0 d1
      have hA := HA.out
      rw [drop_at hx, allOk, dvOk_eq] at hA
      dsimp only at hA
      obtain ⟨n1, hn1⟩ : ∃ n1, fr.length = n1 := ⟨_, rfl⟩
      obtain ⟨n2, hn2⟩ : ∃ n2, fa.length = n2 := ⟨_, rfl⟩
      rw [hn1] at d0 L1
      rw [hn2] at d1 L2
      have HN1 := Lib.hid hn1
      have HN2 := Lib.hid hn2
      have HFR := Lib.hid (show Ints w A1 fr from hd.fr)
      have HFA := Lib.hid (show Ints w A2 fa from hd.fa)
      obtain ⟨X, hX⟩ : ∃ X, allOk (k + 1) (l.drop (k + 1)) = X := ⟨_, rfl⟩
      rw [hX] at hA
      have HX := Lib.hid hX
      have HA1 := Lib.hid (show (chF k (-1) (fr.drop 0) && asc (-1) fa && X) = R from hA)
      clear hcell hx hd hn1 hn2 hA HA hlt hX HR
      go_wp2_with (fail)
      go_loopw [4] (fun jv wr => ∃ (j : Nat) (b : Int), j ≤ n1 ∧ jv = .int .i64 j ∧ Hid (Stands fr j b) ∧ Hid ((chF k b (fr.drop j) && asc (-1) fa && X) = R) ∧ w = wr) (fun jv _ => n1 - (intOf jv).toNat)
      case atStart => exact ⟨0, -1, Nat.zero_le _, rfl, Lib.hid (.inl ⟨rfl, rfl⟩), HA1, rfl⟩
      case round =>
        obtain ⟨j, b, hj, rfl, HST, HA, hww⟩ := hrel
        subst hww
        have j0 : (0 : Int) ≤ (j : Int) := by omega
        by_cases hlt : j < n1
        · have hltJ : (j : Int) < (n1 : Int) := by omega
          obtain ⟨x, hx⟩ := at_ fr j (by rw [HN1.out]; exact hlt)
          obtain ⟨bb, of2, rfl, hcell⟩ := HFR.out (by rw [HN1.out]; omega)
          have e0 := hcell j x hx
          have hA := HA.out
          rw [drop_at hx, chF] at hA
          by_cases h1 : x < 0
          · have hb : -1 ≤ b := by
              rcases HST.out with ⟨_, h⟩ | ⟨p, _, _, h⟩ <;> omega
            obtain rfl : R = false := by rw [← hA, decide_eq_false (show ¬ b < x by omega)]; rfl
            clear hcell hx hA HA HST hlt
            go_wp2
            go_ret
            exact ⟨rfl, by first | rfl | trivial⟩
          · by_cases h2 : (k : Int) ≤ x
            · obtain rfl : R = false := by rw [← hA, decide_eq_false (show ¬ x < (k : Int) by omega), Bool.and_false]; rfl
              clear hcell hx hA HA HST hlt
              go_wp2
              go_ret
              exact ⟨rfl, by first | rfl | trivial⟩
            · rw [decide_eq_true (show x < (k : Int) by omega), Bool.and_true] at hA
              rcases HST.out with ⟨hj0, hb⟩ | ⟨p, hjp, hp, hb⟩
              · subst hj0
                rw [Nat.add_zero] at e0
                rw [decide_eq_true (show b < x by omega), Bool.true_and] at hA
                have HA2 := Lib.hid hA
                have HS2 : Hid (Stands fr (0 + 1) x) := Lib.hid (.inr ⟨0, rfl, hx, by omega⟩)
                clear hcell hx hA HA HST hlt hb
                go_wp2
                go_roundw
                case rel => first | exact ⟨1, x, by omega, by go_num, HS2, HA2, rfl⟩ | exact ⟨1, x, by omega, by go_num, HS2, HA2, trivial⟩ | exact ⟨1, x, by omega, by go_num, HS2, HA2⟩
                case measure => simp [intOf]; omega
              · subst hjp
                have e1 := hcell p b hp
                have p0 : (0 : Int) ≤ (p : Int) := by omega
                have p1 : (0 : Int) < ((p + 1 : Nat) : Int) := by omega
                have p2' : (p : Int) < (n1 : Int) := by omega
                have pw3 : IntKind.i64.wrap (p : Int) = (p : Int) := IntWalk.i64_in _ (by omega)
                have pw : IntKind.i64.wrap (((p + 1 : Nat) : Int) - 1) = (p : Int) := by rw [show ((p + 1 : Nat) : Int) - 1 = (p : Int) by omega]; exact pw3
                have pw2 : (if (p : Int) < 0 then 0 else (p : Int)) = (p : Int) := if_neg (by omega)
                by_cases h3 : x ≤ b
                · obtain rfl : R = false := by rw [← hA, decide_eq_false (show ¬ b < x by omega)]; rfl
                  clear hcell hx hA HA HST hlt hp
                  go_wp2
                  go_ret
                  exact ⟨rfl, by first | rfl | trivial⟩
                · rw [decide_eq_true (show b < x by omega), Bool.true_and] at hA
                  have HA2 := Lib.hid hA
                  have HS2 : Hid (Stands fr (p + 1 + 1) x) := Lib.hid (.inr ⟨p + 1, rfl, hx, by omega⟩)
                  clear hcell hx hA HA HST hlt hp
                  go_wp2
                  go_roundw
                  case rel => first | exact ⟨p + 1 + 1, x, by omega, by go_num, HS2, HA2, rfl⟩ | exact ⟨p + 1 + 1, x, by omega, by go_num, HS2, HA2, trivial⟩ | exact ⟨p + 1 + 1, x, by omega, by go_num, HS2, HA2⟩
                  case measure => simp [intOf]; omega
        · obtain rfl : n1 = j := by omega
          have hA := HA.out
          rw [List.drop_of_length_le (by rw [HN1.out]; exact Nat.le_refl _), chF, Bool.true_and] at hA
          have HA3 := Lib.hid (show (asc (-1) (fa.drop 0) && X) = R from hA)
          clear hA HA HST hlt HA1
          go_wp2_with (fail)
          go_loopw [6] (fun jv wr => ∃ (j : Nat) (b : Int), j ≤ n2 ∧ jv = .int .i64 j ∧ Hid (Stands fa j b) ∧ Hid ((asc b (fa.drop j) && X) = R) ∧ w = wr) (fun jv _ => n2 - (intOf jv).toNat)
          case atStart => exact ⟨0, -1, Nat.zero_le _, rfl, Lib.hid (.inl ⟨rfl, rfl⟩), HA3, rfl⟩
          case round =>
            obtain ⟨j, b, hj, rfl, HST, HA, hww⟩ := hrel
            subst hww
            have j0 : (0 : Int) ≤ (j : Int) := by omega
            by_cases hlt : j < n2
            · have hltJ : (j : Int) < (n2 : Int) := by omega
              obtain ⟨x, hx⟩ := at_ fa j (by rw [HN2.out]; exact hlt)
              obtain ⟨bb, of2, rfl, hcell⟩ := HFA.out (by rw [HN2.out]; omega)
              have e0 := hcell j x hx
              have hA := HA.out
              rw [drop_at hx, asc] at hA
              by_cases h1 : x < 0
              · have hb : -1 ≤ b := by
                  rcases HST.out with ⟨_, h⟩ | ⟨p, _, _, h⟩ <;> omega
                obtain rfl : R = false := by rw [← hA, decide_eq_false (show ¬ b < x by omega)]; rfl
                clear hcell hx hA HA HST hlt
                go_wp2
                go_ret
                exact ⟨rfl, by first | rfl | trivial⟩
              · rcases HST.out with ⟨hj0, hb⟩ | ⟨p, hjp, hp, hb⟩
                · subst hj0
                  rw [Nat.add_zero] at e0
                  rw [decide_eq_true (show b < x by omega), Bool.true_and] at hA
                  have HA2 := Lib.hid hA
                  have HS2 : Hid (Stands fa (0 + 1) x) := Lib.hid (.inr ⟨0, rfl, hx, by omega⟩)
                  clear hcell hx hA HA HST hlt hb
                  go_wp2
                  go_roundw
                  case rel => first | exact ⟨1, x, by omega, by go_num, HS2, HA2, rfl⟩ | exact ⟨1, x, by omega, by go_num, HS2, HA2, trivial⟩ | exact ⟨1, x, by omega, by go_num, HS2, HA2⟩
                  case measure => simp [intOf]; omega
                · subst hjp
                  have e1 := hcell p b hp
                  have p0 : (0 : Int) ≤ (p : Int) := by omega
                  have p1 : (0 : Int) < ((p + 1 : Nat) : Int) := by omega
                  have p2' : (p : Int) < (n2 : Int) := by omega
                  have pw3 : IntKind.i64.wrap (p : Int) = (p : Int) := IntWalk.i64_in _ (by omega)
                  have pw : IntKind.i64.wrap (((p + 1 : Nat) : Int) - 1) = (p : Int) := by rw [show ((p + 1 : Nat) : Int) - 1 = (p : Int) by omega]; exact pw3
                  have pw2 : (if (p : Int) < 0 then 0 else (p : Int)) = (p : Int) := if_neg (by omega)
                  by_cases h3 : x ≤ b
                  · obtain rfl : R = false := by rw [← hA, decide_eq_false (show ¬ b < x by omega)]; rfl
                    clear hcell hx hA HA HST hlt hp
                    go_wp2
                    go_ret
                    exact ⟨rfl, by first | rfl | trivial⟩
                  · rw [decide_eq_true (show b < x by omega), Bool.true_and] at hA
                    have HA2 := Lib.hid hA
                    have HS2 : Hid (Stands fa (p + 1 + 1) x) := Lib.hid (.inr ⟨p + 1, rfl, hx, by omega⟩)
                    clear hcell hx hA HA HST hlt hp
                    go_wp2
                    go_roundw
                    case rel => first | exact ⟨p + 1 + 1, x, by omega, by go_num, HS2, HA2, rfl⟩ | exact ⟨p + 1 + 1, x, by omega, by go_num, HS2, HA2, trivial⟩ | exact ⟨p + 1 + 1, x, by omega, by go_num, HS2, HA2⟩
                    case measure => simp [intOf]; omega
            · obtain rfl : n2 = j := by omega
              have hA := HA.out
              rw [List.drop_of_length_le (by rw [HN2.out]; exact Nat.le_refl _), asc, Bool.true_and, ← HX.out] at hA
              have HA4 := Lib.hid hA
              clear hA HA HST hlt HA3
              go_wp2
              go_roundw
              case rel => first | exact ⟨k + 1, by omega, by go_num, HA4, rfl⟩ | exact ⟨k + 1, by omega, by go_num, HA4, trivial⟩ | exact ⟨k + 1, by omega, by go_num, HA4⟩
              case measure => simp [intOf]; omega
    · obtain rfl : n = k := by omega
      have hA := HA.out
      rw [List.drop_of_length_le (by rw [HN.out]; exact Nat.le_refl _), allOk] at hA
      subst hA
      clear hlt
      go_wp2
      go_ret
      exact ⟨rfl, by first | rfl | trivial⟩
theorem val_by {facts : List Int} {l : List Dv} (h : rgB l = true) {k : Nat} {d : Dv} (hd : l[k]? = some d) : val facts (us facts l k) d = (ow facts d || thr (ch facts l k) d) := by
  have hk := lt_of_at hd
  unfold val ow thr
  congr 1
  have hf := dvOk_fr (rg_at h hd)
  have key : ∀ j : Nat, j < k → (ch facts l k).contains (j : Int) = (us facts l k)[j]?.getD false := fun j hj => by
    rw [Bool.eq_iff_iff, List.contains_iff_mem, mem_ch]
    rw [us_all (k := k) rfl (by omega) hj |>.symm]
    constructor
    · rintro ⟨i, hi, e, hu⟩
      obtain rfl : j = i := by omega
      exact hu
    · intro hu
      exact ⟨j, hj, rfl, hu⟩
  rw [Bool.eq_iff_iff, List.any_eq_true, List.any_eq_true]
  constructor
  · rintro ⟨j, hj, e⟩
    have := hf j hj
    refine ⟨j, hj, ?_⟩
    have e2 := key j.toNat (by omega)
    rw [show ((j.toNat : Nat) : Int) = j by omega] at e2
    rw [e2]
    exact e
  · rintro ⟨j, hj, e⟩
    have := hf j hj
    refine ⟨j, hj, ?_⟩
    have e2 := key j.toNat (by omega)
    rw [show ((j.toNat : Nat) : Int) = j by omega] at e2
    rw [← e2]
    exact e
set_option maxRecDepth 100000 in
set_option maxHeartbeats 8000000 in
theorem rchanged_any {w : World} {A Af : Option Addr} {n c nf cf : Nat} {l : List Dv} {facts : List Int} (hn : l.length = n) (hc : Dvs w A l) (hnf : facts.length = nf) (hcf : Ints w Af facts) (hbig : n ≤ 1000) (hbf : nf ≤ 1000)
    (hin : ∀ d ∈ l, d.fr.length ≤ 1000000 ∧ d.fa.length ≤ 1000000) :
    Calls Try.prog 16 #[.slice A n c, .slice Af nf cf] w fun e w' => ∃ B m d, m = (chg facts l).length ∧ e = .returned (.slice B m d) ∧ Ints w' B (chg facts l) ∧ Below w.heap.size w w' := by
  obtain ⟨iI, hiI, hzI, hyI, hxI⟩ := info_parts' infoI
  have HN := Lib.hid hn
  have HC := Lib.hid hc
  have HNF := Lib.hid hnf
  have HCF := Lib.hid hcf
  have HIN := Lib.hid hin
  clear hn hc hnf hcf hin
  go_enter Try.func16, Try.ntmps16
  go_wp2_with (fail)
  go_must (refine (rright_any HN.out HC.out (by omega) HIN.out).mono ?_)
  rintro e w1 ⟨rfl, hw1⟩
  have hw1 := hw1.symm
  subst hw1
  cases hrg : rgB l
  · have HE := Lib.hid (chg_no (facts := facts) hrg)
    clear hrg
    go_wp2
    go_ret
    exact ⟨none, 0, 0, by rw [HE.out]; rfl, rfl, by rw [HE.out]; exact fun h => by simp at h, Below.refl _ _⟩
  have HRG := Lib.hid hrg
  clear hrg
  go_wp2_with (fail)
  go_loopw [5, 6] (fun ov iv wr => ∃ (k m : Nat) (Ao : Option Addr) (co : Nat), k ≤ n ∧ iv = .int .i64 k ∧ ov = .slice Ao m co ∧ m ≤ k ∧ Hid ((ch facts l k).length = m) ∧ Hid (wr.ownsRow w.heap.size 3 1 (.slice Ao m co) m (ils (ch facts l k))) ∧ Hid (Below w.heap.size w wr)) (fun _ iv _ => n - (intOf iv).toNat)
  case atStart => exact ⟨0, 0, none, 0, Nat.zero_le _, rfl, rfl, Nat.le_refl _, Lib.hid rfl, Lib.hid (own_nil _ _), Lib.hid (Below.refl _ _)⟩
  case round =>
    obtain ⟨k, m, Ao, co, hk, rfl, rfl, hmk, HML, HO, HB⟩ := hrel
    have k0 : (0 : Int) ≤ (k : Int) := by omega
    by_cases hlt : k < n
    · have hltI : (k : Int) < (n : Int) := by omega
      obtain ⟨⟨fr, fa⟩, hx⟩ := at_ l k (by rw [HN.out]; exact hlt)
      have HCk := Lib.hid (HC.out.keep HB.out)
      have HFk := Lib.hid (HCF.out.keep HB.out)
      obtain ⟨g, off, rfl, hcell⟩ := HCk.out (by rw [HN.out]; omega)
      obtain ⟨A1, c1, A2, c2, hd⟩ := hcell k _ hx
      obtain ⟨L1, L2⟩ := HIN.out _ (mem_of_at hx)
      dsimp only at L1 L2
      have d0 := hd.k0
      have d1 := hd.k1
      dsimp only at d0 d1
      have HCH := Lib.hid (ch_next (facts := facts) hx)
      rw [val_by HRG.out hx] at HCH
      obtain ⟨n1, hn1⟩ : ∃ n1, fr.length = n1 := ⟨_, rfl⟩
      obtain ⟨n2, hn2⟩ : ∃ n2, fa.length = n2 := ⟨_, rfl⟩
      rw [hn1] at d0 L1
      rw [hn2] at d1 L2
      have HN1 := Lib.hid hn1
      have HN2 := Lib.hid hn2
      have HFR := Lib.hid (show Ints wr A1 fr from hd.fr)
      have HFA := Lib.hid (show Ints wr A2 fa from hd.fa)
      have HI := Lib.hid (ints_own HO.out)
      clear hcell hx hd hn1 hn2 hlt
      obtain ⟨w2, hw2⟩ : ∃ w2 : World, w2 = wr := ⟨_, rfl⟩
      go_wp2_with (fail)
      rw [← hw2]
      rw [← hw2] at d0 d1 HO HB HCk HFk HFR HFA HI
      clear hw2
      go_loopw [7, 8] (fun ov jv wr => ∃ (j : Nat) (o : Bool), j ≤ n2 ∧ jv = .int .i64 j ∧ ov = .bool o ∧ Hid (o = (fa.take j).any fun f => facts.contains f) ∧ w2 = wr) (fun _ jv _ => n2 - (intOf jv).toNat)
      case atStart => exact ⟨0, false, Nat.zero_le _, rfl, rfl, Lib.hid (by simp), rfl⟩
      case round =>
        obtain ⟨j, o, hj, rfl, rfl, HOO, hww⟩ := hrel
        subst hww
        have j0 : (0 : Int) ≤ (j : Int) := by omega
        by_cases hlt : j < n2
        · have hltJ : (j : Int) < (n2 : Int) := by omega
          obtain ⟨x, hx⟩ := at_ fa j (by rw [HN2.out]; exact hlt)
          obtain ⟨b, of2, rfl, hcell⟩ := HFA.out (by rw [HN2.out]; omega)
          have c0 := hcell j x hx
          have HS := Lib.hid (any_snoc (p := fun f => facts.contains f) hx)
          clear hcell hx hlt
          cases o
          · go_wp2_with (fail)
            go_must (refine (has_any HNF.out HFk.out (by omega) x).mono ?_)
            rintro e w3 ⟨rfl, hw3⟩
            subst hw3
            have HO2 : Hid (facts.contains x = (fa.take (j + 1)).any fun f => facts.contains f) := Lib.hid (by rw [HS.out, ← HOO.out, Bool.false_or])
            obtain ⟨z, hz⟩ : ∃ z, facts.contains x = z := ⟨_, rfl⟩
            rw [hz] at HO2 ⊢
            clear hz
            go_wp2
            go_roundw
            case rel => first | exact ⟨j + 1, z, by omega, by go_num, rfl, HO2, rfl⟩ | exact ⟨j + 1, z, by omega, by go_num, rfl, HO2, trivial⟩ | exact ⟨j + 1, z, by omega, by go_num, rfl, HO2⟩
            case measure => simp [intOf]; omega
          · have HO2 : Hid (true = (fa.take (j + 1)).any fun f => facts.contains f) := Lib.hid (by rw [HS.out, ← HOO.out, Bool.true_or])
            go_wp2
            go_roundw
            case rel => first | exact ⟨j + 1, true, by omega, by go_num, rfl, HO2, rfl⟩ | exact ⟨j + 1, true, by omega, by go_num, rfl, HO2, trivial⟩ | exact ⟨j + 1, true, by omega, by go_num, rfl, HO2⟩ | exact ⟨j + 1, true, by omega, by go_num, HO2⟩
            case measure => simp [intOf]; omega
        · obtain rfl : n2 = j := by omega
          have HOW : Hid (o = ow facts ⟨fr, fa⟩) := Lib.hid (by rw [HOO.out, any_take HN2.out]; rfl)
          clear hlt HOO
          go_wp2_with (fail)
          go_loopw [7, 9] (fun tv jv wr => ∃ (j : Nat) (t : Bool), j ≤ n1 ∧ jv = .int .i64 j ∧ tv = .bool t ∧ Hid (t = (o || (fr.take j).any fun x => (ch facts l k).contains x)) ∧ w2 = wr) (fun _ jv _ => n1 - (intOf jv).toNat)
          case atStart => exact ⟨0, o, Nat.zero_le _, rfl, rfl, Lib.hid (by simp), rfl⟩
          case round =>
            obtain ⟨j, t, hj, rfl, rfl, HT, hww⟩ := hrel
            subst hww
            have j0 : (0 : Int) ≤ (j : Int) := by omega
            by_cases hlt : j < n1
            · have hltJ : (j : Int) < (n1 : Int) := by omega
              obtain ⟨x, hx⟩ := at_ fr j (by rw [HN1.out]; exact hlt)
              obtain ⟨b, of2, rfl, hcell⟩ := HFR.out (by rw [HN1.out]; omega)
              have c0 := hcell j x hx
              have HS := Lib.hid (any_snoc (p := fun x => (ch facts l k).contains x) hx)
              clear hcell hx hlt
              cases t
              · go_wp2_with (fail)
                go_must (refine (has_any HML.out HI.out (by omega) x).mono ?_)
                rintro e w3 ⟨rfl, hw3⟩
                subst hw3
                have HT2 : Hid ((ch facts l k).contains x = (o || (fr.take (j + 1)).any fun x => (ch facts l k).contains x)) := Lib.hid (by rw [HS.out, ← Bool.or_assoc, ← HT.out, Bool.false_or])
                obtain ⟨z, hz⟩ : ∃ z, (ch facts l k).contains x = z := ⟨_, rfl⟩
                rw [hz] at HT2 ⊢
                clear hz
                go_wp2
                go_roundw
                case rel => first | exact ⟨j + 1, z, by omega, by go_num, rfl, HT2, rfl⟩ | exact ⟨j + 1, z, by omega, by go_num, rfl, HT2, trivial⟩ | exact ⟨j + 1, z, by omega, by go_num, rfl, HT2⟩
                case measure => simp [intOf]; omega
              · have HT2 : Hid (true = (o || (fr.take (j + 1)).any fun x => (ch facts l k).contains x)) := Lib.hid (by rw [HS.out, ← Bool.or_assoc, ← HT.out, Bool.true_or])
                go_wp2
                go_roundw
                case rel => first | exact ⟨j + 1, true, by omega, by go_num, rfl, HT2, rfl⟩ | exact ⟨j + 1, true, by omega, by go_num, rfl, HT2, trivial⟩ | exact ⟨j + 1, true, by omega, by go_num, rfl, HT2⟩ | exact ⟨j + 1, true, by omega, by go_num, HT2⟩
                case measure => simp [intOf]; omega
            · obtain rfl : n1 = j := by omega
              have HTT : Hid (t = (ow facts ⟨fr, fa⟩ || thr (ch facts l k) ⟨fr, fa⟩)) := Lib.hid (by rw [HT.out, any_take HN1.out, HOW.out]; rfl)
              rw [← HTT.out] at HCH
              clear hlt HT HOW HTT
              cases t
              · have HE : Hid (ch facts l (k + 1) = ch facts l k) := Lib.hid (by rw [HCH.out]; simp)
                clear HCH
                go_wp2
                go_roundw
                case rel => exact ⟨k + 1, m, Ao, co, by omega, by go_num, rfl, by omega, by rw [HE.out]; exact HML, by rw [HE.out]; exact HO, HB⟩
                case measure => simp [intOf]; omega
              · have HE : Hid (ch facts l (k + 1) = ch facts l k ++ [(k : Int)]) := Lib.hid (by rw [HCH.out]; simp)
                have HML2 : Hid ((ch facts l (k + 1)).length = m + 1) := Lib.hid (by rw [HE.out, List.length_append, HML.out]; rfl)
                have N1 := Lib.hid (show m + 1 ≤ maxLen by simp only [maxLen]; omega)
                have N2 := Lib.hid (show (m + 1) * 8 ≤ 140737488355328 by omega)
                clear HCH
                go_wp2_with (first
                  | (at_builtin
                     go_must (refine App.wpList_append_any _ rfl (.tmp 66) (.tmp 68) _ rfl w.heap.size 3 iI _ 1 8 Try.underlying23 hiI hzI hyI hxI rfl (by omega) (.slice Ao m co) m (ils (ch facts l k)) rfl (Gen.own_keep HO.out (Gen.b_alloc (Below.refl _ _))) _ _ 1 1 [.int .i64 (k : Int)] rfl (Gen.reads_blk (by simp) rfl) (by simp [Value.oneCell']) N1.out N2.out (Nat.le_trans HB.out.size (Gen.b_alloc (Below.refl _ _)).size) ?_
                              intro v7 w7 ho7 hg7 ha7
                              have hx7 : Below w2.heap.size w2 (w2.alloc (.cells #[.int .i64 (k : Int)] 3)) := Gen.b_alloc (Below.refl _ _)
                              have HB7 := Lib.hid (Gen.g_below (w := w) (Gen.own_keep HO.out hx7) hg7 (Gen.over hx7 HB.out) (Nat.le_refl _))
                              obtain ⟨A7, c7, rfl, _⟩ := Gen.own_slice ho7
                              have HO7 := Lib.hid (show w7.ownsRow w.heap.size 3 1 (.slice A7 (m + 1) c7) (m + 1) (ils (ch facts l (k + 1))) by rw [HE.out, ils_snoc]; exact ho7)
                              clear ho7 hg7 ha7 hx7))
                  | fail)
                go_roundw
                case rel => exact ⟨k + 1, m + 1, A7, c7, by omega, by go_num, rfl, by omega, HML2, HO7, HB7⟩
                case measure => simp [intOf]; omega
    · obtain rfl : n = k := by omega
      have HE := Lib.hid (ints_own HO.out)
      have HL : Hid (m = (chg facts l).length) := Lib.hid (by rw [chg_yes HRG.out, HN.out]; exact HML.out.symm)
      clear HO hlt
      go_wp2
      go_ret
      exact ⟨_, m, _, HL.out, rfl, by rw [chg_yes HRG.out, HN.out]; exact HE.out, HB.out⟩
end Go.Proofs.Ytohbdffmidbjhaa.Re
