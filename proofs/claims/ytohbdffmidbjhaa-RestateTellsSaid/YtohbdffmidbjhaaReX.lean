/- Restatements: the law's derive. -/
import Derived.Test.YtohbdffmidbjhaaReV
import Derived.BigRegion
namespace Go.Proofs.Ytohbdffmidbjhaa.Re
open Go.ChangeShapes Go.WideShapes Go.ChangeAt Go.RowKit Go.Maps Go.Proofs.Ytohbdffmidbjhaa.Cell Go.Proofs.Ytohbdffmidbjhaa.Rk
set_option linter.unusedVariables false
set_option linter.unusedSimpArgs false
theorem tm_in {x m : Int} (h0 : 0 ≤ x) (hm : 0 < m) : 0 ≤ x.tmod m ∧ x.tmod m < m := ⟨Int.tmod_nonneg m h0, Int.tmod_lt_of_pos x hm⟩
theorem dl_in {facts : List Int} {sh : Int} {l : List Dv} (h : rgB l = true) (hs0 : 0 ≤ sh) : ∀ k, ∀ x ∈ dl facts sh l k, 0 ≤ x ∧ x < 10007 := by
  have h1 : ∀ (q : List Int) (n : Int), (∀ f ∈ q, 0 ≤ f) → 0 ≤ n ∧ n < 10007 → 0 ≤ dfa facts sh q n ∧ dfa facts sh q n < 10007 := fun q => by
    induction q with
    | nil => intro n _ hn; exact hn
    | cons f q ih =>
      intro n hf hn
      unfold dfa
      refine ih _ (fun g hg => hf g (by simp [hg])) (tm_in ?_ (by omega))
      have := (tm_in (hf f (by simp)) (show (0 : Int) < 997 by omega)).1
      split <;> omega
  have h2 : ∀ (o : List Int), (∀ x ∈ o, 0 ≤ x) → ∀ (q : List Int) (n : Int), 0 ≤ n ∧ n < 10007 → 0 ≤ dfr o q n ∧ dfr o q n < 10007 := fun o ho q => by
    induction q with
    | nil => intro n hn; exact hn
    | cons j q ih =>
      intro n hn
      unfold dfr
      refine ih _ (tm_in ?_ (by omega))
      cases hj : o[j.toNat]? with
      | none => simp; omega
      | some z => have := ho z (mem_of_at hj); simp; omega
  intro k
  induction k with
  | zero => simp [dl]
  | succ k ih =>
    unfold dl
    cases hd : l[k]? with
    | none => exact ih
    | some d =>
      intro x hx
      dsimp only at hx
      rw [List.mem_append] at hx
      rcases hx with hx | hx
      · exact ih x hx
      · rw [List.mem_singleton] at hx
        subst hx
        unfold dval1
        have hdv := rg_at h hd
        have hfa : ∀ f ∈ d.fa, 0 ≤ f := fun f hf => by
          unfold dvOk at hdv
          simp only [Bool.and_eq_true] at hdv
          have := asc_lt hdv.1.2 f hf
          omega
        have := tm_in (x := 17 * (k : Int)) (m := 101) (by omega) (by omega)
        exact h2 _ (fun x hx => (ih x hx).1) _ _ (h1 _ _ hfa (by omega))
set_option maxRecDepth 100000 in
set_option maxHeartbeats 8000000 in
theorem derive_any {w : World} {A Af : Option Addr} {n c nf cf : Nat} {l : List Dv} {facts : List Int} (hn : l.length = n) (hc : Dvs w A l) (hnf : facts.length = nf) (hcf : Ints w Af facts) (hbig : n ≤ 1000) (hbf : nf ≤ 1000) (hrg : rgB l = true)
    (hin : ∀ d ∈ l, d.fr.length ≤ 20 ∧ d.fa.length ≤ 20) (sh : Int) (hs0 : 0 ≤ sh) (hs1 : sh ≤ 255) :
    Calls Try.prog 19 #[.slice A n c, .slice Af nf cf, .int .i64 sh] w fun e w' => ∃ B d, e = .returned (.slice B n d) ∧ Ints w' B (dl facts sh l n) ∧ Below w.heap.size w w' := by
  obtain ⟨iI, hiI, hzI, hyI, hxI⟩ := info_parts' infoI
  have HN := Lib.hid hn
  have HC := Lib.hid hc
  have HNF := Lib.hid hnf
  have HCF := Lib.hid hcf
  have HRG := Lib.hid hrg
  have HIN := Lib.hid hin
  have HDI := Lib.hid (dl_in (facts := facts) hrg hs0)
  clear hn hc hnf hcf hrg hin
  go_enter Try.func19, Try.ntmps19
  go_wp2_with (fail)
  go_loopw [7, 8] (fun ov iv wr => ∃ (k : Nat) (Ao : Option Addr) (co : Nat), k ≤ n ∧ iv = .int .i64 k ∧ ov = .slice Ao k co ∧ Hid (wr.ownsRow w.heap.size 3 1 (.slice Ao k co) k (ils (dl facts sh l k))) ∧ Hid (Below w.heap.size w wr)) (fun _ iv _ => n - (intOf iv).toNat)
  case atStart => exact ⟨0, none, 0, Nat.zero_le _, rfl, rfl, Lib.hid (own_nil _ _), Lib.hid (Below.refl _ _)⟩
  case round =>
    obtain ⟨k, Ao, co, hk, rfl, rfl, HO, HB⟩ := hrel
    have k0 : (0 : Int) ≤ (k : Int) := by omega
    by_cases hlt : k < n
    · have hltI : (k : Int) < (n : Int) := by omega
      obtain ⟨⟨fr, fa⟩, hx⟩ := at_ l k (by rw [HN.out]; exact hlt)
      have hdv := rg_at HRG.out hx
      have hfr := dvOk_fr hdv
      have hfa : ∀ f ∈ fa, 0 ≤ f := fun f hf => by
        unfold dvOk at hdv
        simp only [Bool.and_eq_true] at hdv
        have := asc_lt hdv.1.2 f hf
        omega
      dsimp only at hfr
      have HFR2 := Lib.hid hfr
      have HFA2 := Lib.hid hfa
      have HCk := Lib.hid (HC.out.keep HB.out)
      have HCF2 := Lib.hid (HCF.out.keep HB.out)
      obtain ⟨g, off, rfl, hcell⟩ := HCk.out (by rw [HN.out]; omega)
      obtain ⟨A1, c1, A2, c2, hd⟩ := hcell k _ hx
      obtain ⟨L1, L2⟩ := HIN.out _ (mem_of_at hx)
      dsimp only at L1 L2
      have d0 := hd.k0
      have d1 := hd.k1
      dsimp only at d0 d1
      obtain ⟨n1, hn1⟩ : ∃ n1, fr.length = n1 := ⟨_, rfl⟩
      obtain ⟨n2, hn2⟩ : ∃ n2, fa.length = n2 := ⟨_, rfl⟩
      rw [hn1] at d0 L1
      rw [hn2] at d1 L2
      have HN1 := Lib.hid hn1
      have HN2 := Lib.hid hn2
      have HFR := Lib.hid (show Ints wr A1 fr from hd.fr)
      have HFA := Lib.hid (show Ints wr A2 fa from hd.fa)
      have HDL := Lib.hid (dl_succ (facts := facts) (sh := sh) hx)
      have hm0 := tm_in (x := 17 * (k : Int)) (m := 101) (by omega) (by omega)
      have w17 : IntKind.i64.wrap (17 * (k : Int)) = 17 * (k : Int) := IntWalk.i64_in _ (by omega)
      obtain ⟨v0, hv0⟩ : ∃ v0, (17 * (k : Int)).tmod 101 = v0 := ⟨_, rfl⟩
      rw [hv0] at hm0
      have HV0 := Lib.hid hv0
      have w18 : IntKind.i64.wrap v0 = v0 := IntWalk.i64_in _ (by omega)
      clear hcell hx hd hn1 hn2 hlt hdv hfr hfa
      go_wp2_with (fail)
      clear w17 w18 hv0
      obtain ⟨wo, hwo⟩ : ∃ wo : World, wo = wr := ⟨_, rfl⟩
      go_loopw [9, 10] (fun vv jv wq => ∃ (j : Nat) (v : Int), j ≤ n2 ∧ jv = .int .i64 j ∧ vv = .int .i64 v ∧ 0 ≤ v ∧ v < 10007 ∧ Hid (dfa facts sh (fa.drop j) v = dfa facts sh fa v0) ∧ wr = wq) (fun _ jv _ => n2 - (intOf jv).toNat)
      case atStart => exact ⟨0, v0, Nat.zero_le _, rfl, rfl, hm0.1, by omega, Lib.hid (by rw [List.drop_zero]), rfl⟩
      case round =>
        obtain ⟨j, v, hj, rfl, rfl, hv1, hv2, HA, hww⟩ := hrel
        subst hww
        have j0 : (0 : Int) ≤ (j : Int) := by omega
        by_cases hlt : j < n2
        · have hltJ : (j : Int) < (n2 : Int) := by omega
          obtain ⟨x, hx⟩ := at_ fa j (by rw [HN2.out]; exact hlt)
          obtain ⟨b, of2, rfl, hcell⟩ := HFA.out (by rw [HN2.out]; omega)
          have e0 := hcell j x hx
          have hx0 := HFA2.out x (mem_of_at hx)
          have hA := HA.out
          rw [drop_at hx, dfa] at hA
          obtain ⟨r1, r2⟩ := tm_in hx0 (show (0 : Int) < 997 by omega)
          obtain ⟨r, hr⟩ : ∃ r, x.tmod 997 = r := ⟨_, rfl⟩
          rw [hr] at r1 r2 hA
          have w1 : IntKind.i64.wrap r = r := IntWalk.i64_in _ (by omega)
          have w2 : IntKind.i64.wrap (v * 31) = v * 31 := IntWalk.i64_in _ (by omega)
          have HA1 := Lib.hid hA
          have HH := Lib.hid (has_any (c := cf) HNF.out HCF2.out (by omega) x)
          clear hcell hx hlt HA hA
          go_wp2_with (fail)
          go_must (refine (HH.out).mono ?_)
          rintro e w3 ⟨rfl, hw3⟩
          subst hw3
          have hA := HA1.out
          cases hz : facts.contains x
          · rw [hz, if_neg (by decide), Int.add_zero] at hA
            have w3 : IntKind.i64.wrap (v * 31 + r) = v * 31 + r := IntWalk.i64_in _ (by omega)
            obtain ⟨q1, q2⟩ := tm_in (x := v * 31 + r) (m := 10007) (by omega) (by omega)
            obtain ⟨q, hq⟩ : ∃ q, (v * 31 + r).tmod 10007 = q := ⟨_, rfl⟩
            rw [hq] at q1 q2 hA
            have w4 : IntKind.i64.wrap q = q := IntWalk.i64_in _ (by omega)
            have HA2 := Lib.hid hA
            clear hA HA1 hz HH
            go_wp2
            go_roundw
            case rel => first | exact ⟨j + 1, q, by omega, by go_num, rfl, q1, q2, HA2, rfl⟩ | exact ⟨j + 1, q, by omega, by go_num, rfl, q1, q2, HA2, trivial⟩ | exact ⟨j + 1, q, by omega, by go_num, rfl, q1, q2, HA2⟩
            case measure => simp [intOf]; omega
          · rw [hz, if_pos rfl] at hA
            have w5 : IntKind.i64.wrap (r + sh) = r + sh := IntWalk.i64_in _ (by omega)
            have w3 : IntKind.i64.wrap (v * 31 + (r + sh)) = v * 31 + (r + sh) := IntWalk.i64_in _ (by omega)
            obtain ⟨q1, q2⟩ := tm_in (x := v * 31 + (r + sh)) (m := 10007) (by omega) (by omega)
            obtain ⟨q, hq⟩ : ∃ q, (v * 31 + (r + sh)).tmod 10007 = q := ⟨_, rfl⟩
            rw [hq] at q1 q2 hA
            have w4 : IntKind.i64.wrap q = q := IntWalk.i64_in _ (by omega)
            have HA2 := Lib.hid hA
            clear hA HA1 hz HH
            go_wp2
            go_roundw
            case rel => first | exact ⟨j + 1, q, by omega, by go_num, rfl, q1, q2, HA2, rfl⟩ | exact ⟨j + 1, q, by omega, by go_num, rfl, q1, q2, HA2, trivial⟩ | exact ⟨j + 1, q, by omega, by go_num, rfl, q1, q2, HA2⟩
            case measure => simp [intOf]; omega
        · obtain rfl : n2 = j := by omega
          have hA := HA.out
          rw [List.drop_of_length_le (by rw [HN2.out]; exact Nat.le_refl _), dfa] at hA
          have HV := Lib.hid hA
          clear hlt hA HA
          have HI := Lib.hid (ints_own HO.out)
          have HL := Lib.hid (dl_len (facts := facts) (sh := sh) (l := l) k (by rw [HN.out]; exact hk))
          go_wp2_with (fail)
          go_loopw [9, 12] (fun vv jv wq => ∃ (j : Nat) (u : Int), j ≤ n1 ∧ jv = .int .i64 j ∧ vv = .int .i64 u ∧ 0 ≤ u ∧ u < 10007 ∧ Hid (dfr (dl facts sh l k) (fr.drop j) u = dfr (dl facts sh l k) fr v) ∧ wr = wq) (fun _ jv _ => n1 - (intOf jv).toNat)
          case atStart => exact ⟨0, v, Nat.zero_le _, rfl, rfl, hv1, hv2, Lib.hid (by rw [List.drop_zero]), rfl⟩
          case round =>
            obtain ⟨j, u, hj, rfl, rfl, hu1, hu2, HA, hww⟩ := hrel
            subst hww
            have j0 : (0 : Int) ≤ (j : Int) := by omega
            by_cases hlt : j < n1
            · have hltJ : (j : Int) < (n1 : Int) := by omega
              obtain ⟨x, hx⟩ := at_ fr j (by rw [HN1.out]; exact hlt)
              obtain ⟨b, of2, rfl, hcell⟩ := HFR.out (by rw [HN1.out]; omega)
              have e0 := hcell j x hx
              obtain ⟨x0, x1⟩ := HFR2.out x (mem_of_at hx)
              obtain ⟨p, rfl⟩ : ∃ p : Nat, x = (p : Int) := ⟨x.toNat, by omega⟩
              have hp : p < k := by omega
              obtain ⟨y, hy⟩ := at_ (dl facts sh l k) p (by rw [HL.out]; exact hp)
              obtain ⟨b5, of5, rfl, hcell5⟩ := HI.out (by rw [HL.out]; omega)
              have e1 := hcell5 p y hy
              obtain ⟨y0, y1⟩ := HDI.out k y (mem_of_at hy)
              have hA := HA.out
              rw [drop_at hx, dfr, show ((p : Int)).toNat = p by omega, hy, Option.getD_some] at hA
              have w2 : IntKind.i64.wrap (u * 37) = u * 37 := IntWalk.i64_in _ (by omega)
              have w3 : IntKind.i64.wrap (u * 37 + y) = u * 37 + y := IntWalk.i64_in _ (by omega)
              obtain ⟨q1, q2⟩ := tm_in (x := u * 37 + y) (m := 10007) (by omega) (by omega)
              obtain ⟨q, hq⟩ : ∃ q, (u * 37 + y).tmod 10007 = q := ⟨_, rfl⟩
              rw [hq] at q1 q2 hA
              have w4 : IntKind.i64.wrap q = q := IntWalk.i64_in _ (by omega)
              have HA2 := Lib.hid hA
              clear hcell hx hlt HA hA hcell5 hy
              go_wp2
              go_roundw
              case rel => first | exact ⟨j + 1, q, by omega, by go_num, rfl, q1, q2, HA2, rfl⟩ | exact ⟨j + 1, q, by omega, by go_num, rfl, q1, q2, HA2, trivial⟩ | exact ⟨j + 1, q, by omega, by go_num, rfl, q1, q2, HA2⟩
              case measure => simp [intOf]; omega
            · obtain rfl : n1 = j := by omega
              have hA := HA.out
              rw [List.drop_of_length_le (by rw [HN1.out]; exact Nat.le_refl _), dfr] at hA
              have HE := Lib.hid (show dl facts sh l (k + 1) = dl facts sh l k ++ [u] by rw [HDL.out]; unfold dval1; dsimp only; rw [HV0.out, ← HV.out, ← hA])
              have N1 := Lib.hid (show k + 1 ≤ maxLen by simp only [maxLen]; omega)
              have N2 := Lib.hid (show (k + 1) * 8 ≤ 140737488355328 by omega)
              clear hlt hA HA
              go_wp2_with (first
                | (at_builtin
                   go_must (refine App.wpList_append_any _ rfl (.tmp 84) (.tmp 86) _ rfl w.heap.size 3 iI _ 1 8 Try.underlying23 hiI hzI hyI hxI rfl (by omega) (.slice Ao k co) k (ils (dl facts sh l k)) rfl (Gen.own_keep HO.out (Gen.b_alloc (Below.refl _ _))) _ _ 1 1 [.int .i64 u] rfl (Gen.reads_blk (by simp) rfl) (by simp [Value.oneCell']) N1.out N2.out (Nat.le_trans HB.out.size (Gen.b_alloc (Below.refl _ _)).size) ?_
                            intro v7 w7 ho7 hg7 ha7
                            have hx7 : Below wr.heap.size wr (wr.alloc (.cells #[.int .i64 u] 3)) := Gen.b_alloc (Below.refl _ _)
                            have HB7 := Lib.hid (Gen.g_below (w := w) (Gen.own_keep HO.out hx7) hg7 (Gen.over hx7 HB.out) (Nat.le_refl _))
                            obtain ⟨A7, c7, rfl, _⟩ := Gen.own_slice ho7
                            have HO7 := Lib.hid (show w7.ownsRow w.heap.size 3 1 (.slice A7 (k + 1) c7) (k + 1) (ils (dl facts sh l (k + 1))) by rw [HE.out, ils_snoc]; exact ho7)
                            clear ho7 hg7 ha7 hx7))
                | fail)
              go_roundw
              case rel => exact ⟨k + 1, A7, c7, by omega, by go_num, rfl, HO7, HB7⟩
              case measure => simp [intOf]; omega
    · obtain rfl : n = k := by omega
      have HE := Lib.hid (ints_own HO.out)
      clear HO hlt
      go_wp2
      go_ret
      exact ⟨_, _, rfl, HE.out, HB.out⟩
end Go.Proofs.Ytohbdffmidbjhaa.Re
