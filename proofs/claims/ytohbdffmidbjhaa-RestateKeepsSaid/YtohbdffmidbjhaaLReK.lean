/- Restatements: RestateKeeps. -/
import Derived.Test.YtohbdffmidbjhaaLReCl
import Derived.Test.YtohbdffmidbjhaaReX
namespace Go.Proofs.Ytohbdffmidbjhaa.Re
open Go.ChangeShapes Go.WideShapes Go.ChangeAt Go.RowKit Go.Maps Go.Proofs.Ytohbdffmidbjhaa.Cell Go.Proofs.Ytohbdffmidbjhaa.Rk
set_option linter.unusedVariables false
set_option linter.unusedSimpArgs false
theorem ints_reads {w : World} {A : Option Addr} {us : List Int} {n : Nat} (hn : us.length = n) (h : Ints w A us) : App.Reads w w.heap.size 1 A n (ils us) :=
  ⟨by simp [ils, hn], fun h0 => by
    obtain ⟨b, off, e, hc⟩ := h (by omega)
    obtain ⟨z, hz⟩ := at_ us 0 (by omega)
    have hb : b < w.heap.size := World.block_lt_of_cell? w ⟨b, off + 0, none⟩ (hc 0 z hz)
    exact ⟨⟨b, off, none⟩, e, hb, fun j u hu => by
      rw [ils, List.getElem?_map] at hu
      cases hx : us[j]? with
      | none => rw [hx] at hu; simp at hu
      | some x =>
        rw [hx] at hu
        simp at hu
        subst hu
        have := hc j x hx
        rwa [Addr.add_lit]⟩⟩
theorem ils_one (l : List Int) : ∀ u ∈ ils l, u.oneCell' = true := fun u hu => by
  unfold ils at hu
  obtain ⟨x, _, rfl⟩ := List.mem_map.1 hu
  rfl
theorem ch_more {facts more : List Int} {l : List Dv} (h : rgB l = true) (hm : ∀ f, facts.contains f = true → more.contains f = true) : ∀ x ∈ ch facts l l.length, (ch more l l.length).contains x = true := fun x hx => by
  obtain ⟨i, hi, rfl, hu⟩ := mem_ch.1 hx
  rw [ch_has hi]
  exact us_more h hm (i + 1) i (by omega) hi hu
theorem ch_none {l : List Dv} (h : rgB l = true) : ch [] l l.length = [] := by
  cases e : ch [] l l.length with
  | nil => rfl
  | cons x q =>
    have : x ∈ ch [] l l.length := by rw [e]; simp
    obtain ⟨i, hi, rfl, hu⟩ := mem_ch.1 this
    rw [us_none h (i + 1) i (by omega) hi] at hu
    cases hu
set_option maxRecDepth 100000 in
set_option maxHeartbeats 16000000 in
theorem keeps_any {w : World} {A Af : Option Addr} {n c nf cf : Nat} {l : List Dv} {facts : List Int} (hn : l.length = n) (hc : Dvs w A l) (hnf : facts.length = nf) (hcf : Ints w Af facts)
    (hbig : n ≤ 9223372036854775807) (hbf : nf ≤ 9223372036854775807) (hin : ∀ d ∈ l, d.fr.length ≤ 9223372036854775807 ∧ d.fa.length ≤ 9223372036854775807) (hwf : ∀ x ∈ facts, wfI x) (hwd : ∀ d ∈ l, ∀ x ∈ d.fa, wfI x)
    (sh : Int) (hs0 : 0 ≤ sh) (hs1 : sh ≤ 255) (mo : Int) (hmo : wfI mo) :
    Calls Try.prog 5 #[.slice A n c, .slice Af nf cf, .int .u8 sh, .int .i64 mo] w fun e w' => e = .returned (.bool true) ∧ Below w.heap.size w w' := by
  obtain ⟨iI, hiI, hzI, hyI, hxI⟩ := info_parts' infoI
  have HMO := Lib.hid hmo
  have HN := Lib.hid hn
  have HC := Lib.hid hc
  have HNF := Lib.hid hnf
  have HCF := Lib.hid hcf
  have HIN := Lib.hid hin
  have HWF := Lib.hid hwf
  have HWD := Lib.hid hwd
  clear hn hc hnf hcf hin hwf hwd hmo
  go_enter Try.func5, Try.ntmps5
  go_wp2_with (fail)
  go_must (refine (small_any _).mono ?_)
  rintro e w1 ⟨rfl, hb⟩
  have HB1 := Lib.hid hb
  have HC := Lib.hid (HC.out.keep hb)
  have HCF := Lib.hid (HCF.out.keep hb)
  clear hb
  go_wp2_with (fail)
  go_must (refine (few_any (m := 30) HN.out HC.out hbig (by omega) HIN.out).mono ?_)
  rintro e w2 ⟨rfl, rfl⟩
  cases hfew : fewB l 30
  · clear hfew
    go_wp2
    go_ret
    exact ⟨rfl, HB1.out⟩
  have hfw := hfew
  unfold fewB at hfw
  rw [Bool.and_eq_true, decide_eq_true_eq, HN.out] at hfw
  have HSH : Hid (∀ d ∈ l, d.fr.length ≤ 20 ∧ d.fa.length ≤ 20) := Lib.hid (fun d hd => by
    have := List.all_eq_true.1 hfw.2 d hd
    unfold shB at this
    simpa using this)
  have hn30 : n ≤ 30 := hfw.1
  clear hfw hfew hbig
  by_cases hf20 : nf ≤ 20
  case neg =>
    have h1 : (20 : Int) < (nf : Int) := by omega
    clear hf20
    go_wp2
    go_ret
    exact ⟨rfl, HB1.out⟩
  have hf20I : ¬ ((20 : Int) < (nf : Int)) := by omega
  clear hbf
  go_wp2_with (fail)
  go_must (refine (right_any HN.out HC.out (by omega) HIN.out).mono ?_)
  rintro e w3 ⟨rfl, hb⟩
  have HB3 := Lib.hid (Gen.over hb HB1.out)
  have HC := Lib.hid (HC.out.keep hb)
  have HCF := Lib.hid (HCF.out.keep hb)
  clear hb HB1
  cases hrg : rgB l
  · clear hrg
    go_wp2
    go_ret
    exact ⟨rfl, HB3.out⟩
  have HRG := Lib.hid hrg
  clear hrg hf20I
  go_wp2_with (fail)
  go_must (refine (changed_l HN.out HC.out HNF.out HCF.out (by omega) (by omega) (fun d hd => by have := HSH.out d hd; omega) HWF.out HWD.out).mono ?_)
  rintro e w2 ⟨B8, m, d8, hm, rfl, hi, hb⟩
  have hml := chg_le facts l
  rw [← hm, HN.out] at hml
  rw [chg_yes HRG.out] at hm hi
  obtain ⟨I, hI⟩ : ∃ I, ch facts l l.length = I := ⟨_, rfl⟩
  rw [hI] at hm hi
  have HII := Lib.hid hI
  have HM := Lib.hid hm.symm
  have HI := Lib.hid hi
  have HB2 := Lib.hid (Gen.over hb HB3.out)
  have HC := Lib.hid (HC.out.keep hb)
  have HF2 := Lib.hid (HCF.out.keep hb)
  clear hm hi hb HB3 hI HCF HIN
  have HIN := HSH
  have sw : IntKind.i64.wrap sh = sh := IntWalk.i64_in _ (by omega)
  go_wp2_with (fail)
  go_must (refine (derive_any HN.out HC.out HNF.out HF2.out (by omega) (by omega) HRG.out HIN.out 0 (by omega) (by omega)).mono ?_)
  rintro e w3 ⟨Ba, da, rfl, hi, hb⟩
  have HB2 := Lib.hid (Gen.over hb HB2.out)
  have HC := Lib.hid (HC.out.keep hb)
  have HF2 := Lib.hid (HF2.out.keep hb)
  have HI := Lib.hid (HI.out.keep hb)
  have HDA := Lib.hid hi
  clear hi hb
  go_wp2_with (fail)
  go_must (refine (derive_any HN.out HC.out HNF.out HF2.out (by omega) (by omega) HRG.out HIN.out sh hs0 hs1).mono ?_)
  rintro e w2 ⟨Bb, db, rfl, hi, hb⟩
  have HB2 := Lib.hid (Gen.over hb HB2.out)
  have HC := Lib.hid (HC.out.keep hb)
  have HF2 := Lib.hid (HF2.out.keep hb)
  have HI := Lib.hid (HI.out.keep hb)
  have HDA := Lib.hid (HDA.out.keep hb)
  have HDB := Lib.hid hi
  clear hi hb sw
  go_wp2_with (fail)
  go_loopw [13] (fun iv wr => ∃ (k : Nat), k ≤ n ∧ iv = .int .i64 k ∧ Hid (Below w2.heap.size w2 wr)) (fun iv _ => n - (intOf iv).toNat)
  case atStart => exact ⟨0, Nat.zero_le _, rfl, Lib.hid (Below.refl _ _)⟩
  case round =>
    obtain ⟨k, hk, rfl, HBK⟩ := hrel
    have k0 : (0 : Int) ≤ (k : Int) := by omega
    by_cases hlt : k < n
    · have hltI : (k : Int) < (n : Int) := by omega
      have hla := dl_len (facts := facts) (sh := 0) (l := l) n (by rw [HN.out]; exact Nat.le_refl _)
      have hlb := dl_len (facts := facts) (sh := sh) (l := l) n (by rw [HN.out]; exact Nat.le_refl _)
      obtain ⟨xa, hxa⟩ := at_ (dl facts 0 l n) k (by rw [hla]; exact hlt)
      obtain ⟨xb, hxb⟩ := at_ (dl facts sh l n) k (by rw [hlb]; exact hlt)
      obtain ⟨b1, of1, rfl, hcell1⟩ := (HDA.out.keep HBK.out) (by rw [hla]; omega)
      obtain ⟨b2, of2, rfl, hcell2⟩ := (HDB.out.keep HBK.out) (by rw [hlb]; omega)
      have e1 := hcell1 k xa hxa
      have e2 := hcell2 k xb hxb
      have hIk : I.contains (k : Int) = (us facts l l.length)[k]?.getD false := by rw [← HII.out]; exact ch_has (by rw [HN.out]; exact hlt)
      have hsame := dl_same (facts := facts) (sh := sh) HRG.out n (by rw [HN.out]; exact Nat.le_refl _) k hlt
      rw [← hIk, hxa, hxb] at hsame
      have HH := Lib.hid (has_any (c := d8) HM.out ((HI.out.keep HBK.out).keep (Below.drew (Below.refl _ _))) (by omega) (k : Int))
      cases hz : I.contains (k : Int)
      · have hab : xa = xb := Option.some.inj (hsame hz)
        subst hab
        rw [hz] at HH
        have hne : (xa != xa) = false := by simp
        clear hla hlb hxa hxb hcell1 hcell2 hIk hsame hz hlt
        go_wp2
        refine wp_region_held_drew (S := (fun W' : World => W'.cell? ⟨b1, of1 + k, none⟩ = some (.int .i64 xa) ∧ W'.cell? ⟨b2, of2 + k, none⟩ = some (.int .i64 xa))) (by kernel_rfl) (⟨e1, e2⟩) (fun hHeld => ?_)
        refine wpAnyH_take (i := 0) (v := .slice B8 m d8) rfl (by kernel_rfl) (by kernel_rfl) (by kernel_rfl) (fun _ _ _ h => h) (Or.inl ⟨by rfl, (by intro w hSw; (try dsimp only at hSw); go_simp <;> first | with_reducible rfl | (with_reducible assumption) | omega | (simp only [hne]; done))⟩) (by assumption) ?_
        (try simp only [Act.put, List.getElem_toArray, List.getElem_cons_succ, List.getElem_cons_zero, List.setIfInBounds_toArray, List.set_cons_zero, List.set_cons_succ])
        refine wpAnyH_take (i := 1) (v := .int .i64 (k : Int)) rfl (by kernel_rfl) (by kernel_rfl) (by kernel_rfl) (fun _ _ _ h => h) (Or.inl ⟨by rfl, (by intro w hSw; (try dsimp only at hSw); go_simp <;> first | with_reducible rfl | (with_reducible assumption) | omega | (simp only [hne]; done))⟩) (by assumption) ?_
        (try simp only [Act.put, List.getElem_toArray, List.getElem_cons_succ, List.getElem_cons_zero, List.setIfInBounds_toArray, List.set_cons_zero, List.set_cons_succ])
        refine wpAnyH_ready (rs := [2]) (by kernel_rfl) (by simp) ?_
        refine AllReadyH.cons rfl (fun K hK => ?_) AllReadyH.nil
        rw [if_pos (by rfl)]
        (try simp only [Act.put, List.getElem_toArray, List.getElem_cons_succ, List.getElem_cons_zero, List.setIfInBounds_toArray, List.set_cons_zero, List.set_cons_succ])
        go_simp
        go_at_call 18
        refine (HH.out).mono ?_
        rintro e' w3 ⟨rfl, rfl⟩
        refine hK.out _ _ (by assumption) (fun hH39 => ?_)
        clear hK K
        (try simp only [Act.put, List.getElem_toArray, List.getElem_cons_succ, List.getElem_cons_zero, List.setIfInBounds_toArray, List.set_cons_zero, List.set_cons_succ])
        refine wpAnyH_take (i := 3) (v := .bool true) rfl (by kernel_rfl) (by kernel_rfl) (by kernel_rfl) (fun _ _ _ h => h) (Or.inl ⟨by rfl, (by intro w hSw; (try dsimp only at hSw); go_simp <;> first | with_reducible rfl | (with_reducible assumption) | omega | (simp only [hne]; done))⟩) (by assumption) ?_
        (try simp only [Act.put, List.getElem_toArray, List.getElem_cons_succ, List.getElem_cons_zero, List.setIfInBounds_toArray, List.set_cons_zero, List.set_cons_succ])
        refine wpAnyH_take (i := 4) (v := .bool true) rfl (by kernel_rfl) (by kernel_rfl) (by kernel_rfl) (fun _ _ _ h => h) (Or.inl ⟨by rfl, (by intro w hSw; (try dsimp only at hSw); go_simp <;> first | with_reducible rfl | (with_reducible assumption) | omega | (simp only [hne]; done))⟩) (by assumption) ?_
        (try simp only [Act.put, List.getElem_toArray, List.getElem_cons_succ, List.getElem_cons_zero, List.setIfInBounds_toArray, List.set_cons_zero, List.set_cons_succ])
        refine wpAnyH_take (i := 5) (v := .slice (some ⟨b1, of1, none⟩) n da) rfl (by kernel_rfl) (by kernel_rfl) (by kernel_rfl) (fun _ _ _ h => h) (Or.inl ⟨by rfl, (by intro w hSw; (try dsimp only at hSw); go_simp <;> first | with_reducible rfl | (with_reducible assumption) | omega | (simp only [hne]; done))⟩) (by assumption) ?_
        (try simp only [Act.put, List.getElem_toArray, List.getElem_cons_succ, List.getElem_cons_zero, List.setIfInBounds_toArray, List.set_cons_zero, List.set_cons_succ])
        refine wpAnyH_take (i := 6) (v := .int .i64 (k : Int)) rfl (by kernel_rfl) (by kernel_rfl) (by kernel_rfl) (fun _ _ _ h => h) (Or.inl ⟨by rfl, (by intro w hSw; (try dsimp only at hSw); go_simp <;> first | with_reducible rfl | (with_reducible assumption) | omega | (simp only [hne]; done))⟩) (by assumption) ?_
        (try simp only [Act.put, List.getElem_toArray, List.getElem_cons_succ, List.getElem_cons_zero, List.setIfInBounds_toArray, List.set_cons_zero, List.set_cons_succ])
        refine wpAnyH_take (i := 7) (v := .pointer (some ⟨b1, of1 + k, none⟩)) rfl (by kernel_rfl) (by kernel_rfl) (by kernel_rfl) (fun _ _ _ h => h) (Or.inl ⟨by rfl, (by intro w hSw; (try dsimp only at hSw); go_simp <;> first | with_reducible rfl | (with_reducible assumption) | omega | (simp only [hne]; done))⟩) (by assumption) ?_
        (try simp only [Act.put, List.getElem_toArray, List.getElem_cons_succ, List.getElem_cons_zero, List.setIfInBounds_toArray, List.set_cons_zero, List.set_cons_succ])
        refine wpAnyH_take (i := 8) (v := .int .i64 xa) rfl (by kernel_rfl) (by kernel_rfl) (by kernel_rfl) (fun _ _ _ h => h) (Or.inl ⟨by rfl, (by intro w hSw; (try dsimp only at hSw); go_simp <;> first | with_reducible rfl | (with_reducible assumption) | omega | (simp only [hne]; done))⟩) (by assumption) ?_
        (try simp only [Act.put, List.getElem_toArray, List.getElem_cons_succ, List.getElem_cons_zero, List.setIfInBounds_toArray, List.set_cons_zero, List.set_cons_succ])
        refine wpAnyH_take (i := 9) (v := .slice (some ⟨b2, of2, none⟩) n db) rfl (by kernel_rfl) (by kernel_rfl) (by kernel_rfl) (fun _ _ _ h => h) (Or.inl ⟨by rfl, (by intro w hSw; (try dsimp only at hSw); go_simp <;> first | with_reducible rfl | (with_reducible assumption) | omega | (simp only [hne]; done))⟩) (by assumption) ?_
        (try simp only [Act.put, List.getElem_toArray, List.getElem_cons_succ, List.getElem_cons_zero, List.setIfInBounds_toArray, List.set_cons_zero, List.set_cons_succ])
        refine wpAnyH_take (i := 10) (v := .int .i64 (k : Int)) rfl (by kernel_rfl) (by kernel_rfl) (by kernel_rfl) (fun _ _ _ h => h) (Or.inl ⟨by rfl, (by intro w hSw; (try dsimp only at hSw); go_simp <;> first | with_reducible rfl | (with_reducible assumption) | omega | (simp only [hne]; done))⟩) (by assumption) ?_
        (try simp only [Act.put, List.getElem_toArray, List.getElem_cons_succ, List.getElem_cons_zero, List.setIfInBounds_toArray, List.set_cons_zero, List.set_cons_succ])
        refine wpAnyH_take (i := 11) (v := .pointer (some ⟨b2, of2 + k, none⟩)) rfl (by kernel_rfl) (by kernel_rfl) (by kernel_rfl) (fun _ _ _ h => h) (Or.inl ⟨by rfl, (by intro w hSw; (try dsimp only at hSw); go_simp <;> first | with_reducible rfl | (with_reducible assumption) | omega | (simp only [hne]; done))⟩) (by assumption) ?_
        (try simp only [Act.put, List.getElem_toArray, List.getElem_cons_succ, List.getElem_cons_zero, List.setIfInBounds_toArray, List.set_cons_zero, List.set_cons_succ])
        refine wpAnyH_take (i := 12) (v := .int .i64 xa) rfl (by kernel_rfl) (by kernel_rfl) (by kernel_rfl) (fun _ _ _ h => h) (Or.inl ⟨by rfl, (by intro w hSw; (try dsimp only at hSw); go_simp <;> first | with_reducible rfl | (with_reducible assumption) | omega | (simp only [hne]; done))⟩) (by assumption) ?_
        (try simp only [Act.put, List.getElem_toArray, List.getElem_cons_succ, List.getElem_cons_zero, List.setIfInBounds_toArray, List.set_cons_zero, List.set_cons_succ])
        refine wpAnyH_take (i := 13) (v := .bool false) rfl (by kernel_rfl) (by kernel_rfl) (by kernel_rfl) (fun _ _ _ h => h) (Or.inl ⟨by rfl, (by intro w hSw; (try dsimp only at hSw); go_simp <;> first | with_reducible rfl | (with_reducible assumption) | omega | (simp only [hne]; done))⟩) (by assumption) ?_
        (try simp only [Act.put, List.getElem_toArray, List.getElem_cons_succ, List.getElem_cons_zero, List.setIfInBounds_toArray, List.set_cons_zero, List.set_cons_succ])
        refine wpAnyH_take (i := 14) (v := .bool false) rfl (by kernel_rfl) (by kernel_rfl) (by kernel_rfl) (fun _ _ _ h => h) (Or.inl ⟨by rfl, (by intro w hSw; (try dsimp only at hSw); go_simp <;> first | with_reducible rfl | (with_reducible assumption) | omega | (simp only [hne]; done))⟩) (by assumption) ?_
        (try simp only [Act.put, List.getElem_toArray, List.getElem_cons_succ, List.getElem_cons_zero, List.setIfInBounds_toArray, List.set_cons_zero, List.set_cons_succ])
        refine wpAnyH_done (by kernel_rfl) ?_ _
        go_wp2
        go_roundw
        case rel => exact ⟨k + 1, by omega, by go_num, Lib.hid HBK.out.drew⟩
        case measure => simp [intOf]; omega
      · rw [hz] at HH
        clear hla hlb hxa hxb hcell1 hcell2 hIk hsame hz hlt
        go_wp2
        refine wp_region_held_drew (S := (fun W' : World => W'.cell? ⟨b1, of1 + k, none⟩ = some (.int .i64 xa) ∧ W'.cell? ⟨b2, of2 + k, none⟩ = some (.int .i64 xb))) (by kernel_rfl) (⟨e1, e2⟩) (fun hHeld => ?_)
        refine wpAnyH_take (i := 0) (v := .slice B8 m d8) rfl (by kernel_rfl) (by kernel_rfl) (by kernel_rfl) (fun _ _ _ h => h) (Or.inl ⟨by rfl, (by intro w hSw; (try dsimp only at hSw); go_simp <;> first | with_reducible rfl | (with_reducible assumption) | omega)⟩) (by assumption) ?_
        (try simp only [Act.put, List.getElem_toArray, List.getElem_cons_succ, List.getElem_cons_zero, List.setIfInBounds_toArray, List.set_cons_zero, List.set_cons_succ])
        refine wpAnyH_take (i := 1) (v := .int .i64 (k : Int)) rfl (by kernel_rfl) (by kernel_rfl) (by kernel_rfl) (fun _ _ _ h => h) (Or.inl ⟨by rfl, (by intro w hSw; (try dsimp only at hSw); go_simp <;> first | with_reducible rfl | (with_reducible assumption) | omega)⟩) (by assumption) ?_
        (try simp only [Act.put, List.getElem_toArray, List.getElem_cons_succ, List.getElem_cons_zero, List.setIfInBounds_toArray, List.set_cons_zero, List.set_cons_succ])
        refine wpAnyH_ready (rs := [2]) (by kernel_rfl) (by simp) ?_
        refine AllReadyH.cons rfl (fun K hK => ?_) AllReadyH.nil
        rw [if_pos (by rfl)]
        (try simp only [Act.put, List.getElem_toArray, List.getElem_cons_succ, List.getElem_cons_zero, List.setIfInBounds_toArray, List.set_cons_zero, List.set_cons_succ])
        go_simp
        go_at_call 18
        refine (HH.out).mono ?_
        rintro e' w3 ⟨rfl, rfl⟩
        refine hK.out _ _ (by assumption) (fun hH39 => ?_)
        clear hK K
        (try simp only [Act.put, List.getElem_toArray, List.getElem_cons_succ, List.getElem_cons_zero, List.setIfInBounds_toArray, List.set_cons_zero, List.set_cons_succ])
        refine wpAnyH_take (i := 3) (v := .bool false) rfl (by kernel_rfl) (by kernel_rfl) (by kernel_rfl) (fun _ _ _ h => h) (Or.inl ⟨by rfl, (by intro w hSw; (try dsimp only at hSw); go_simp <;> first | with_reducible rfl | (with_reducible assumption) | omega)⟩) (by assumption) ?_
        (try simp only [Act.put, List.getElem_toArray, List.getElem_cons_succ, List.getElem_cons_zero, List.setIfInBounds_toArray, List.set_cons_zero, List.set_cons_succ])
        refine wpAnyH_take (i := 4) (v := .bool false) rfl (by kernel_rfl) (by kernel_rfl) (by kernel_rfl) (fun _ _ _ h => h) (Or.inl ⟨by rfl, (by intro w hSw; (try dsimp only at hSw); go_simp <;> first | with_reducible rfl | (with_reducible assumption) | omega)⟩) (by assumption) ?_
        (try simp only [Act.put, List.getElem_toArray, List.getElem_cons_succ, List.getElem_cons_zero, List.setIfInBounds_toArray, List.set_cons_zero, List.set_cons_succ])
        refine wpAnyH_take (i := 5) (v := undef) rfl (by kernel_rfl) (by kernel_rfl) (by kernel_rfl) (fun _ _ _ h => h) (Or.inr ⟨by rfl, rfl⟩) (by assumption) ?_
        (try simp only [Act.put, List.getElem_toArray, List.getElem_cons_succ, List.getElem_cons_zero, List.setIfInBounds_toArray, List.set_cons_zero, List.set_cons_succ])
        refine wpAnyH_take (i := 6) (v := undef) rfl (by kernel_rfl) (by kernel_rfl) (by kernel_rfl) (fun _ _ _ h => h) (Or.inr ⟨by rfl, rfl⟩) (by assumption) ?_
        (try simp only [Act.put, List.getElem_toArray, List.getElem_cons_succ, List.getElem_cons_zero, List.setIfInBounds_toArray, List.set_cons_zero, List.set_cons_succ])
        refine wpAnyH_take (i := 7) (v := undef) rfl (by kernel_rfl) (by kernel_rfl) (by kernel_rfl) (fun _ _ _ h => h) (Or.inr ⟨by rfl, rfl⟩) (by assumption) ?_
        (try simp only [Act.put, List.getElem_toArray, List.getElem_cons_succ, List.getElem_cons_zero, List.setIfInBounds_toArray, List.set_cons_zero, List.set_cons_succ])
        refine wpAnyH_take (i := 8) (v := undef) rfl (by kernel_rfl) (by kernel_rfl) (by kernel_rfl) (fun _ _ _ h => h) (Or.inr ⟨by rfl, rfl⟩) (by assumption) ?_
        (try simp only [Act.put, List.getElem_toArray, List.getElem_cons_succ, List.getElem_cons_zero, List.setIfInBounds_toArray, List.set_cons_zero, List.set_cons_succ])
        refine wpAnyH_take (i := 9) (v := undef) rfl (by kernel_rfl) (by kernel_rfl) (by kernel_rfl) (fun _ _ _ h => h) (Or.inr ⟨by rfl, rfl⟩) (by assumption) ?_
        (try simp only [Act.put, List.getElem_toArray, List.getElem_cons_succ, List.getElem_cons_zero, List.setIfInBounds_toArray, List.set_cons_zero, List.set_cons_succ])
        refine wpAnyH_take (i := 10) (v := undef) rfl (by kernel_rfl) (by kernel_rfl) (by kernel_rfl) (fun _ _ _ h => h) (Or.inr ⟨by rfl, rfl⟩) (by assumption) ?_
        (try simp only [Act.put, List.getElem_toArray, List.getElem_cons_succ, List.getElem_cons_zero, List.setIfInBounds_toArray, List.set_cons_zero, List.set_cons_succ])
        refine wpAnyH_take (i := 11) (v := undef) rfl (by kernel_rfl) (by kernel_rfl) (by kernel_rfl) (fun _ _ _ h => h) (Or.inr ⟨by rfl, rfl⟩) (by assumption) ?_
        (try simp only [Act.put, List.getElem_toArray, List.getElem_cons_succ, List.getElem_cons_zero, List.setIfInBounds_toArray, List.set_cons_zero, List.set_cons_succ])
        refine wpAnyH_take (i := 12) (v := undef) rfl (by kernel_rfl) (by kernel_rfl) (by kernel_rfl) (fun _ _ _ h => h) (Or.inr ⟨by rfl, rfl⟩) (by assumption) ?_
        (try simp only [Act.put, List.getElem_toArray, List.getElem_cons_succ, List.getElem_cons_zero, List.setIfInBounds_toArray, List.set_cons_zero, List.set_cons_succ])
        refine wpAnyH_take (i := 13) (v := undef) rfl (by kernel_rfl) (by kernel_rfl) (by kernel_rfl) (fun _ _ _ h => h) (Or.inr ⟨by rfl, rfl⟩) (by assumption) ?_
        (try simp only [Act.put, List.getElem_toArray, List.getElem_cons_succ, List.getElem_cons_zero, List.setIfInBounds_toArray, List.set_cons_zero, List.set_cons_succ])
        refine wpAnyH_take (i := 14) (v := .bool false) rfl (by kernel_rfl) (by kernel_rfl) (by kernel_rfl) (fun _ _ _ h => h) (Or.inl ⟨by rfl, (by intro w hSw; (try dsimp only at hSw); go_simp <;> first | with_reducible rfl | (with_reducible assumption) | omega)⟩) (by assumption) ?_
        (try simp only [Act.put, List.getElem_toArray, List.getElem_cons_succ, List.getElem_cons_zero, List.setIfInBounds_toArray, List.set_cons_zero, List.set_cons_succ])
        refine wpAnyH_done (by kernel_rfl) ?_ _
        go_wp2
        go_roundw
        case rel => exact ⟨k + 1, by omega, by go_num, Lib.hid HBK.out.drew⟩
        case measure => simp [intOf]; omega
    · obtain rfl : n = k := by omega
      have HB5 := Lib.hid (Gen.over HBK.out HB2.out)
      have HC := Lib.hid (HC.out.keep HBK.out)
      have HF2 := Lib.hid (HF2.out.keep HBK.out)
      have HI := Lib.hid (HI.out.keep HBK.out)
      clear hlt HDA HDB HB2 HBK
      have N1 := Lib.hid (show 0 + nf ≤ maxLen by simp only [maxLen]; omega)
      have N2 := Lib.hid (show (0 + nf) * 8 ≤ 140737488355328 by omega)
      have N3 := Lib.hid (show nf + 1 ≤ maxLen by simp only [maxLen]; omega)
      have N4 := Lib.hid (show (nf + 1) * 8 ≤ 140737488355328 by omega)
      have hx0 : Below wr.heap.size wr (wr.alloc (.cells #[] 3)) := Gen.b_alloc (Below.refl _ _)
      have HC6 := Lib.hid (HC.out.keep hx0)
      have HI6 := Lib.hid (HI.out.keep hx0)
      have HF6 := Lib.hid (HF2.out.keep hx0)
      have HB6 := Lib.hid (Gen.over hx0 HB5.out)
      have HO0 := Lib.hid (row_own (K := 1) (n := 0) (show Row (wr.alloc (.cells #[] 3)) wr.heap.size 3 #[] from Row.new _ _ _) rfl (by simp [maxLen]))
      clear hx0
      go_wp2_with (first
        | (have _g := HO1
           at_builtin
           go_must (refine App.wpList_append_any _ rfl (.tmp 66) (.tmp 68) _ rfl wr.heap.size 3 iI _ 1 8 Try.underlying23 hiI hzI hyI hxI rfl (by omega) (.slice A7 nf c7) nf (ils facts) rfl (Gen.own_keep HO1.out (Gen.b_alloc (Below.refl _ _))) _ _ 1 1 [.int .i64 mo] rfl (Gen.reads_blk (by simp) rfl) (by simp [Value.oneCell']) N3.out N4.out (Nat.le_trans HZ7.out (Gen.b_alloc (Below.refl _ _)).size) ?_
                    intro v8 w8 ho8 hg8 ha8
                    have hx8 : Below w7.heap.size w7 (w7.alloc (.cells #[.int .i64 mo] 3)) := Gen.b_alloc (Below.refl _ _)
                    have HB8 := Lib.hid (Gen.g_below (w := wr) (Gen.own_keep HO1.out hx8) hg8 (Gen.over hx8 HB7.out) (Nat.le_refl _))
                    obtain ⟨A8, c8, rfl, _⟩ := Gen.own_slice ho8
                    have HF8 := Lib.hid (show Ints w8 A8 (facts ++ [mo]) from ints_own (show w8.ownsRow wr.heap.size 3 1 (.slice A8 (nf + 1) c8) (nf + 1) (ils (facts ++ [mo])) by rw [ils_snoc]; exact ho8))
                    clear ho8 hg8 ha8 hx8 HO1))
        | (at_builtin
           go_must (refine App.wpList_append_any _ rfl (.tmp 64) (.tmp 65) _ rfl wr.heap.size 3 iI _ 1 8 Try.underlying23 hiI hzI hyI hxI rfl (by omega) (.slice (some ⟨wr.heap.size, 0, none⟩) 0 0) 0 [] rfl HO0.out _ Af nf cf (ils facts) rfl (ints_reads HNF.out HF6.out) (ils_one _) N1.out N2.out (Gen.b_alloc (Below.refl _ _)).size ?_
                    intro v7 w7 ho7 hg7 ha7
                    rw [Nat.zero_add, List.nil_append] at ho7
                    obtain ⟨A7, c7, rfl, _⟩ := Gen.own_slice ho7
                    have HB7 := Lib.hid (Gen.g_below (w := wr) HO0.out hg7 (Gen.b_alloc (Below.refl _ _)) (Nat.le_refl _))
                    have HZ7 := Lib.hid (show wr.heap.size ≤ w7.heap.size from HB7.out.size)
                    have HO1 := Lib.hid ho7
                    clear ho7 hg7 ha7))
        | fail)
      have HC8 := Lib.hid (HC.out.keep HB8.out)
      have HI8 := Lib.hid (HI.out.keep HB8.out)
      have HB9 := Lib.hid (Gen.over HB8.out HB5.out)
      clear HC6 HI6 HF6 HB6 HO0 HB7 HZ7
      go_must (refine (changed_l (facts := facts ++ [mo]) HN.out HC8.out (by rw [List.length_append, HNF.out]; rfl) HF8.out (by omega) (by omega) (fun d hd => by have := HSH.out d hd; omega) (fun x hx => by rw [List.mem_append] at hx; rcases hx with hx | hx; exact HWF.out x hx; (rw [List.mem_singleton] at hx; rw [hx]; exact HMO.out)) HWD.out).mono ?_)
      rintro e w3 ⟨B9, m9, d9, hm, rfl, hi, hb⟩
      have hml9 := chg_le (facts ++ [mo]) l
      rw [← hm, HN.out] at hml9
      rw [chg_yes HRG.out] at hm hi
      have HM9 := Lib.hid hm.symm
      have HI9 := Lib.hid hi
      have HSUB : Hid (∀ x ∈ I, (ch (facts ++ [mo]) l l.length).contains x = true) := Lib.hid (by rw [← HII.out]; exact ch_more HRG.out (fun f hf => by rw [List.contains_iff_mem] at hf ⊢; exact List.mem_append_left _ hf))
      have HC8 := Lib.hid (HC8.out.keep hb)
      have HI8 := Lib.hid (HI8.out.keep hb)
      have HB9 := Lib.hid (Gen.over hb HB9.out)
      clear hm hi hb
      go_wp2_with (fail)
      go_loopw [15] (fun iv wq => ∃ (i : Nat), i ≤ m ∧ iv = .int .i64 i ∧ w3 = wq) (fun iv _ => m - (intOf iv).toNat)
      case atStart => exact ⟨0, Nat.zero_le _, rfl, rfl⟩
      case round =>
        obtain ⟨i, hi, rfl, hww⟩ := hrel
        subst hww
        have i0 : (0 : Int) ≤ (i : Int) := by omega
        by_cases hlt : i < m
        · have hltI : (i : Int) < (m : Int) := by omega
          obtain ⟨x, hx⟩ := at_ I i (by rw [HM.out]; exact hlt)
          obtain ⟨b, of2, rfl, hcell⟩ := HI8.out (by rw [HM.out]; omega)
          have c0 := hcell i x hx
          have HH := Lib.hid (has_any (c := d9) HM9.out HI9.out (by omega) x)
          rw [HSUB.out x (mem_of_at hx)] at HH
          clear hcell hx hlt
          go_wp2_with (fail)
          go_must (refine (HH.out).mono ?_)
          rintro e w4 ⟨rfl, hw4⟩
          subst hw4
          go_wp2
          go_roundw
          case rel => first | exact ⟨i + 1, by omega, by go_num, rfl⟩ | exact ⟨i + 1, by omega, by go_num, trivial⟩ | exact ⟨i + 1, by omega, by go_num⟩
          case measure => simp [intOf]; omega
        · obtain rfl : m = i := by omega
          clear hlt
          go_wp2_with (fail)
          go_must (refine (changed_l (facts := []) (nf := 0) HN.out HC8.out rfl (fun h => by simp at h) (by omega) (by omega) (fun d hd => by have := HSH.out d hd; omega) (fun x hx => by simp at hx) HWD.out).mono ?_)
          rintro e w4 ⟨B7, m7, d7, hm, rfl, hi, hb⟩
          rw [chg_yes HRG.out, ch_none HRG.out] at hm
          obtain rfl : m7 = 0 := hm
          have HBE := Lib.hid (Gen.over hb HB9.out)
          clear hb hi
          go_wp2
          go_ret
          exact ⟨rfl, HBE.out⟩
end Go.Proofs.Ytohbdffmidbjhaa.Re
