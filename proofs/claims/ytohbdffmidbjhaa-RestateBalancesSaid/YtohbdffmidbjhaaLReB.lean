/- Restatements: RestateBalances. -/
import Derived.Test.YtohbdffmidbjhaaLReBl
namespace Go.Proofs.Ytohbdffmidbjhaa.Re
open Go.ChangeShapes Go.WideShapes Go.ChangeAt Go.RowKit Go.Maps Go.Proofs.Ytohbdffmidbjhaa.Cell Go.Proofs.Ytohbdffmidbjhaa.Rk
set_option linter.unusedVariables false
set_option linter.unusedSimpArgs false
theorem ofA_in {M : List (Int × Int)} {seats : List Int} (h : ShOk M seats) (s : Int) : 0 ≤ ofA M s ∧ ofA M s ≤ 1000000000000000 := by
  rw [lk_ofA]
  cases e : lk M s with
  | none => simp
  | some z =>
    have := h.am _ (lk_mem e)
    simp only [Option.getD_some]
    omega
theorem seats_next {l : List Py} {k : Nat} {x : Py} (h : l[k]? = some x) : ils ((l.map (·.se)).take (k + 1)) = ils ((l.map (·.se)).take k) ++ [.int .i64 x.se] := by
  rw [take_snoc (x := x.se) (by rw [List.getElem?_map, h]; rfl)]
  simp [ils]
set_option maxRecDepth 100000 in
set_option maxHeartbeats 16000000 in
theorem balances_any {w : World} {A A1 A2 : Option Addr} {n n1 n2 c c1 c2 : Nat} {l : List Py} {due : List Int} {good : List Bool} (hn : l.length = n) (hn1 : due.length = n1) (hn2 : good.length = n2) (hc : Pys w A l) (hd : Ints w A1 due) (hg : Bos w A2 good) (hbig : n ≤ 9223372036854775807) (hbig1 : n1 ≤ 9223372036854775807) (hbig2 : n2 ≤ 9223372036854775807) (hwf : ∀ x ∈ l, wfI x.se) :
    Calls Try.prog 6 #[.slice A n c, .slice A1 n1 c1, .slice A2 n2 c2] w fun e w' => e = .returned (.bool true) ∧ Below w.heap.size w w' := by
  obtain ⟨iI, hiI, hzI, hyI, hxI⟩ := info_parts' infoI
  have HN := Lib.hid hn
  have HN1 := Lib.hid hn1
  have HN2 := Lib.hid hn2
  have HC := Lib.hid hc
  have HD := Lib.hid hd
  have HG := Lib.hid hg
  have HWF := Lib.hid hwf
  clear hn hn1 hn2 hc hd hg hwf
  go_enter Try.func6, Try.ntmps6
  go_wp2_with (fail)
  go_must (refine (small_any _).mono ?_)
  rintro e w1 ⟨rfl, hb⟩
  have HB1 := Lib.hid hb
  have HC := Lib.hid (HC.out.keep hb)
  have HD := Lib.hid (HD.out.keep hb)
  have HG := Lib.hid (HG.out.keep hb)
  clear hb
  by_cases h20 : n ≤ 20
  case neg =>
    have h1 : (20 : Int) < (n : Int) := by omega
    clear h20
    go_wp2
    go_ret
    exact ⟨rfl, HB1.out⟩
  have h20I : ¬ ((20 : Int) < (n : Int)) := by omega
  clear hbig
  go_wp2_with (fail)
  go_must (refine (back_l HN.out HN1.out HN2.out HC.out HD.out HG.out (by omega) hbig1 hbig2 HWF.out).mono ?_)
  rintro e w2 ⟨hb, hq⟩
  have HB2 := Lib.hid (Gen.over hb HB1.out)
  have HC := Lib.hid (HC.out.keep hb)
  have HD := Lib.hid (HD.out.keep hb)
  have HG := Lib.hid (HG.out.keep hb)
  clear hb HB1 h20I
  rcases hq with ⟨hok, rfl⟩ | ⟨hok, hov, rfl⟩ | ⟨hok, hov, v1, v2, rfl, hl1, ho1, hl2, ho2⟩
  · clear hok
    go_wp2
    go_ret
    exact ⟨rfl, HB2.out⟩
  · clear hok hov
    go_wp2
    go_ret
    exact ⟨rfl, HB2.out⟩
  obtain ⟨e1, e2⟩ : n1 = n ∧ n2 = n := by
    have h := hok
    unfold bkOk at h
    simp only [Bool.and_eq_true, decide_eq_true_eq] at h
    rw [HN.out, HN1.out, HN2.out] at h
    exact h.1
  subst e1
  subst e2
  have HBAL := Lib.hid (fun (s : Int) => bal HN.out HN1.out HN2.out s n2 (Nat.le_refl _))
  have HIN := Lib.hid (fun (s : Int) => bal_in hok s)
  have hsh := sh_ok hov
  rw [HN.out] at hov hl1 ho1 hl2 ho2 hsh
  obtain ⟨L, hL⟩ : ∃ L, rL l due good n2 = L := ⟨_, rfl⟩
  rw [hL] at hov hl1 ho1 hl2 ho2 hsh HBAL
  obtain ⟨B1, d1, rfl, _⟩ := Gen.own_slice ho1
  obtain ⟨B2, d2, rfl, _⟩ := Gen.own_slice ho2
  obtain ⟨m1, hm1⟩ : ∃ m1, L.1.length = m1 := ⟨_, rfl⟩
  obtain ⟨m2, hm2⟩ : ∃ m2, L.2.length = m2 := ⟨_, rfl⟩
  have HS1 := Lib.hid (rs_own (f := p2) (K := 2) (fun _ => rfl) rfl ho1)
  have HS2 := Lib.hid (rs_own (f := p2) (K := 2) (fun _ => rfl) rfl ho2)
  simp only [HN.out, hL, hm1, hm2] at hl1 hl2 ⊢
  have HM1 := Lib.hid hm1
  have HM2 := Lib.hid hm2
  have HO1 := Lib.hid hsh.1
  have HO2 := Lib.hid hsh.2
  obtain ⟨sl, hsl⟩ : ∃ sl, sl = l.map (·.se) := ⟨_, rfl⟩
  rw [← hsl] at HO1 HO2
  have HSL := Lib.hid hsl
  have HSN : Hid (sl.length = n2) := Lib.hid (by rw [hsl, List.length_map]; exact HN.out)
  have hnn : ((n2 : Int) != (n2 : Int)) = false := by simp
  clear hL ho1 ho2 hm1 hm2 hov hok hsh hsl
  go_wp2_with (fail)
  clear hnn
  go_loopw [11, 12] (fun ov iv wr => ∃ (k : Nat) (Ao : Option Addr) (co : Nat), k ≤ n2 ∧ iv = .int .i64 k ∧ ov = .slice Ao k co ∧ Hid (wr.ownsRow w2.heap.size 3 1 (.slice Ao k co) k (ils (sl.take k))) ∧ Hid (Below w2.heap.size w2 wr)) (fun _ iv _ => n2 - (intOf iv).toNat)
  case atStart => exact ⟨0, none, 0, Nat.zero_le _, rfl, rfl, Lib.hid (own_nil _ _), Lib.hid (Below.refl _ _)⟩
  case round =>
    obtain ⟨k, Ao, co, hk, rfl, rfl, HO, HB⟩ := hrel
    have k0 : (0 : Int) ≤ (k : Int) := by omega
    by_cases hlt : k < n2
    · have hltI : (k : Int) < (n2 : Int) := by omega
      obtain ⟨⟨xi, xs, xd, xu, xp, xe⟩, hx⟩ := at_ l k (by rw [HN.out]; exact hlt)
      obtain ⟨b, off, rfl, hcell⟩ := (HC.out.keep HB.out) (by rw [HN.out]; omega)
      obtain ⟨q0, m1', _, _, _, _⟩ := hcell k _ hx
      dsimp only at m1'
      have HNX := Lib.hid (seats_next hx)
      rw [← HSL.out] at HNX
      have N1 := Lib.hid (show k + 1 ≤ maxLen by simp only [maxLen]; omega)
      have N2 := Lib.hid (show (k + 1) * 8 ≤ 140737488355328 by omega)
      clear hcell hx q0 hlt
      go_wp2_with (first
        | (at_builtin
           go_must (refine App.wpList_append_any _ rfl (.tmp 65) (.tmp 71) _ rfl w2.heap.size 3 iI _ 1 8 Try.underlying23 hiI hzI hyI hxI rfl (by omega) (.slice Ao k co) k (ils (sl.take k)) rfl (Gen.own_keep HO.out (Gen.b_alloc (Below.refl _ _))) _ _ 1 1 [.int .i64 xs] rfl (Gen.reads_blk (by simp) rfl) (by simp [Value.oneCell']) N1.out N2.out (Nat.le_trans HB.out.size (Gen.b_alloc (Below.refl _ _)).size) ?_
                    intro v7 w7 ho7 hg7 ha7
                    have hx7 : Below wr.heap.size wr (wr.alloc (.cells #[.int .i64 xs] 3)) := Gen.b_alloc (Below.refl _ _)
                    have HB7 := Lib.hid (Gen.g_below (w := w2) (Gen.own_keep HO.out hx7) hg7 (Gen.over hx7 HB.out) (Nat.le_refl _))
                    obtain ⟨A7, c7, rfl, _⟩ := Gen.own_slice ho7
                    have HO7 := Lib.hid (show w7.ownsRow w2.heap.size 3 1 (.slice A7 (k + 1) c7) (k + 1) (ils (sl.take (k + 1))) by rw [HNX.out]; exact ho7)
                    clear ho7 hg7 ha7 hx7))
        | fail)
      go_roundw
      case rel => exact ⟨k + 1, A7, c7, by omega, by go_num, rfl, HO7, HB7⟩
      case measure => simp [intOf]; omega
    · obtain rfl : n2 = k := by omega
      have hsi := ints_own HO.out
      rw [List.take_of_length_le (by rw [HSN.out]; exact Nat.le_refl _)] at hsi
      have HI := Lib.hid hsi
      have HB3 := Lib.hid (Gen.over HB.out HB2.out)
      have HC := Lib.hid (HC.out.keep HB.out)
      have HD := Lib.hid (HD.out.keep HB.out)
      have HG := Lib.hid (HG.out.keep HB.out)
      have HS1 := Lib.hid (HS1.out.keep HB.out)
      have HS2 := Lib.hid (HS2.out.keep HB.out)
      obtain ⟨w3, hw3⟩ : ∃ w3, wr = w3 := ⟨_, rfl⟩
      subst hw3
      clear hlt HO HB HB2 hsi
      go_wp2_with (fail)
      obtain ⟨w3, hw3⟩ : ∃ w3 : World, w3 = wr := ⟨_, rfl⟩
      rw [← hw3]
      rw [← hw3] at HI HB3 HC HD HG HS1 HS2
      clear hw3
      go_loopw [13] (fun kv wr => ∃ (k : Nat), k ≤ n2 ∧ kv = .int .i64 k ∧ Hid (Below w3.heap.size w3 wr)) (fun kv _ => n2 - (intOf kv).toNat)
      case atStart => exact ⟨0, Nat.zero_le _, rfl, Lib.hid (Below.refl _ _)⟩
      case round =>
        obtain ⟨k, hk, rfl, HBK⟩ := hrel
        have k0 : (0 : Int) ≤ (k : Int) := by omega
        by_cases hlt : k < n2
        · have hltI : (k : Int) < (n2 : Int) := by omega
          obtain ⟨s, hs⟩ := at_ sl k (by rw [HSN.out]; exact hlt)
          have HSX := Lib.hid hs
          clear hs hlt
          go_wp2_with (fail)
          go_loopw [14, 15, 16] (fun pv wv iv wr => ∃ (i : Nat) (P W : Int), i ≤ n2 ∧ iv = .int .i64 i ∧ pv = .int .i64 P ∧ wv = .int .i64 W ∧ Hid (pdS l s i = P) ∧ Hid (wtS l due good s i = W) ∧ Hid (Below w3.heap.size w3 wr)) (fun _ _ iv _ => n2 - (intOf iv).toNat)
          case atStart => exact ⟨0, 0, 0, Nat.zero_le _, rfl, rfl, rfl, Lib.hid rfl, Lib.hid rfl, HBK⟩
          case round =>
            obtain ⟨i, P, W, hi, rfl, rfl, rfl, HP, HW, HBI⟩ := hrel
            have i0 : (0 : Int) ≤ (i : Int) := by omega
            obtain ⟨⟨b1, b2⟩, b3, b4⟩ := HIN.out s i
            rw [HP.out] at b1 b2
            rw [HW.out] at b3 b4
            by_cases hlt : i < n2
            · have hlt2 : (i : Int) < (n2 : Int) := by omega
              obtain ⟨⟨xi, xs, xd, xu, xp, xe⟩, hx⟩ := at_ l i (by rw [HN.out]; exact hlt)
              obtain ⟨d, hd⟩ := at_ due i (by rw [HN1.out]; exact hlt)
              obtain ⟨z, hz⟩ := at_ good i (by rw [HN2.out]; exact hlt)
              obtain ⟨b, off, rfl, hcell⟩ := (HC.out.keep HBI.out) (by rw [HN.out]; omega)
              obtain ⟨bd, od, rfl, hcelld⟩ := (HD.out.keep HBI.out) (by rw [HN1.out]; omega)
              obtain ⟨bg, og, rfl, hcellg⟩ := (HG.out.keep HBI.out) (by rw [HN2.out]; omega)
              obtain ⟨bs, os, rfl, hcells⟩ := (HI.out.keep HBI.out) (by rw [HSN.out]; omega)
              obtain ⟨q0, e1, _, _, e4, _⟩ := hcell i _ hx
              dsimp only at e1 e4
              have ed := hcelld i d hd
              have ez := hcellg i z hz
              have es := hcells k s HSX.out
              have hP := pdS_next (s := s) hx
              have hW := wtS_next (s := s) hx hd hz
              rw [HP.out] at hP
              rw [HW.out] at hW
              dsimp only at hP hW
              obtain ⟨⟨c1', c2'⟩, c3', c4'⟩ := HIN.out s (i + 1)
              clear hcell hcelld hcellg hcells q0 hx hd hz hlt
              by_cases hse : xs = s
              · rw [if_pos hse] at hP hW
                subst hse
                have hne : (xs != xs) = false := by simp
                rw [hP] at c1' c2'
                have hw1 : IntKind.i64.wrap (P + xp) = P + xp := IntWalk.i64_in _ (by omega)
                have HP2 := Lib.hid hP
                cases z
                · rw [if_neg (by decide)] at hW
                  rw [hW] at c3' c4'
                  have hw2 : IntKind.i64.wrap (W + d) = W + d := IntWalk.i64_in _ (by omega)
                  have HW2 := Lib.hid hW
                  clear hP hW HP HW
                  go_wp2
                  go_quiet (fail)
                  go_wp2
                  go_roundw
                  case rel => exact ⟨i + 1, P + xp, W + d, by omega, by go_num, rfl, rfl, HP2, HW2, Lib.hid (Gen.dN HBI.out _)⟩
                  case measure => simp [intOf]; omega
                · rw [if_pos rfl] at hW
                  obtain ⟨mm, hmm⟩ : ∃ mm, max xp d = mm := ⟨_, rfl⟩
                  rw [show mxI xp d = max xp d by unfold mxI; split <;> omega, hmm] at hW
                  rw [hW] at c3' c4'
                  have hw2 : IntKind.i64.wrap (W + mm) = W + mm := IntWalk.i64_in _ (by omega)
                  have HW2 := Lib.hid hW
                  clear hP hW HP HW
                  go_wp2
                  go_quiet (fail)
                  go_wp2
                  go_quiet (fail)
                  go_wp2
                  go_roundw
                  case rel => exact ⟨i + 1, P + xp, W + mm, by omega, by go_num, rfl, rfl, HP2, HW2, Lib.hid (by first | exact Gen.dN HBI.out _ | exact Gen.dN (Gen.dN HBI.out _) _)⟩
                  case measure => simp [intOf]; omega
              · rw [if_neg hse, Int.add_zero] at hP hW
                have hne : (xs != s) = true := by simp [hse]
                have HP2 := Lib.hid hP
                have HW2 := Lib.hid hW
                clear hP hW HP HW
                go_wp2
                go_quiet (fail)
                go_wp2
                go_roundw
                case rel => exact ⟨i + 1, P, W, by omega, by go_num, rfl, rfl, HP2, HW2, Lib.hid (Gen.dN HBI.out _)⟩
                case measure => simp [intOf]; omega
            · obtain rfl : n2 = i := by omega
              have hbal := HBAL.out s
              rw [HP.out, HW.out] at hbal
              obtain ⟨o1, o2⟩ := ofA_in HO1.out s
              obtain ⟨o3, o4⟩ := ofA_in HO2.out s
              obtain ⟨a, ha⟩ : ∃ a, ofA L.1 s = a := ⟨_, rfl⟩
              obtain ⟨bb, hbb⟩ : ∃ bb, ofA L.2 s = bb := ⟨_, rfl⟩
              obtain ⟨bs, os, rfl, hcells⟩ := (HI.out.keep HBI.out) (by rw [HSN.out]; omega)
              have es := hcells k s HSX.out
              have HH1 := Lib.hid (fun (W' : World) (hb : Below wr.heap.size wr W') => of_any (c := d1) HM1.out ((HS1.out.keep HBI.out).keep hb) (by omega) s)
              have HH2 := Lib.hid (fun (W' : World) (hb : Below wr.heap.size wr W') => of_any (c := d2) HM2.out ((HS2.out.keep HBI.out).keep hb) (by omega) s)
              rw [ha] at HH1 o1 o2 hbal
              rw [hbb] at HH2 o3 o4 hbal
              have hw1 : IntKind.i64.wrap (P - a) = P - a := IntWalk.i64_in _ (by omega)
              have hw2 : IntKind.i64.wrap (P - a + bb) = P - a + bb := IntWalk.i64_in _ (by omega)
              have hne : (P - a + bb != W) = false := by simp; omega
              clear hlt ha hbb hbal HP HW hcells o1 o2 o3 o4
              go_wp2
              go_region_held3 (fun W' : World => Below wr.heap.size wr W' ∧ W'.cell? ⟨bs, os + k, none⟩ = some (.int .i64 s))
                (first | exact ⟨(Below.refl _ _), es⟩ | exact ⟨(Below.refl _ _).drew, es⟩ | assumption | fail "keep")
                (first | (go_at_call 20; first | (with_reducible refine (HH1.out _ (by first | exact (Below.refl _ _).drew | exact Below.refl _ _)).mono ?_; rintro e' w4 ⟨rfl, rfl⟩) | (with_reducible refine (HH2.out _ (by first | exact (Below.refl _ _).drew | exact Below.refl _ _)).mono ?_; rintro e' w4 ⟨rfl, rfl⟩)) | fail "arm")
              all_goals
                go_wp2
                go_roundw
                case rel => exact ⟨k + 1, by omega, by go_num, Lib.hid (HBI.out.drew)⟩
                case measure => simp [intOf]; omega
        · obtain rfl : n2 = k := by omega
          have HB4 := Lib.hid (Gen.over HBK.out HB3.out)
          have HS1 := Lib.hid (HS1.out.keep HBK.out)
          have HS2 := Lib.hid (HS2.out.keep HBK.out)
          have HI := Lib.hid (HI.out.keep HBK.out)
          clear hlt
          go_upto_region 29 with (fail)
          exact bal_last HS1 HS2 HM1 HM2 HO1 HO2 HSN HI HB4 h20 (by omega) (by omega) (by assumption)
end Go.Proofs.Ytohbdffmidbjhaa.Re
