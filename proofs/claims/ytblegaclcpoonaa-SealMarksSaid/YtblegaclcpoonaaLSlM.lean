/- SealMarks returns true: every list of pairs; no condition. -/
import Derived.Test.YtblegaclcpoonaaSelK
import Derived.BigQuiet
import Derived.Deep.DeepCutAuto
import Derived.Deep.RegionLaw
namespace Go.Proofs.Ytblegaclcpoonaa.Seal
open Go.ChangeShapes Go.WideShapes Go.ChangeAt Go.RowKit Go.Joins Go.Maps Go.WideMaps Go.Proofs.Ytblegaclcpoonaa.Cell
set_option linter.unusedVariables false
set_option linter.unusedSimpArgs false
section
variable {A : Option Addr} {n cap : Nat} {l : List En}
set_option maxRecDepth 100000 in
set_option maxHeartbeats 4000000 in
theorem slm_a (w : World) (hn : l.length = n) (hc : Els w A l) (hbig : n ≤ 9223372036854775807) (hf : few44 l = false) :
    Calls Try.prog 14 #[.slice A n cap] w fun e w' => e = .returned (.bool true) ∧ Below w.heap.size w w' := by
  have HN := Lib.hid hn
  have HF := Lib.hid hf
  clear hn hf
  go_enter Try.func14, Try.ntmps14
  go_wp2_with (fail)
  go_must (refine (small44_any _).mono ?_)
  rintro e w1 ⟨rfl, hb1⟩
  go_wp2_with (fail)
  go_must (refine (new_ex _).mono ?_)
  rintro e w2 ⟨g, gm, rfl, hr, hg1, hg2, hb2⟩
  have hB := Gen.over hb2 hb1
  go_wp2_with (fail)
  go_must (refine (few44_any A n cap l _ HN.out (hc.keep hB) hbig).mono ?_)
  rintro e w3 ⟨rfl, rfl⟩
  rw [HF.out]
  go_wp2
  go_ret
  exact ⟨rfl, hB⟩
set_option maxRecDepth 100000 in
set_option maxHeartbeats 8000000 in
theorem slm_b (w : World) (hn : l.length = n) (hc : Els w A l) (hok : ∀ x ∈ l, okE x) (hf : few44 l = true) :
    Calls Try.prog 14 #[.slice A n cap] w fun e w' => e = .returned (.bool true) ∧ Below w.heap.size w w' := by
  obtain ⟨h40, _⟩ := few44_in hf
  rw [hn] at h40
  have HN := Lib.hid hn
  have HF := Lib.hid hf
  have HOK := Lib.hid hok
  obtain ⟨iE, hiE, hzE, hyE, hxE⟩ := info_parts' infoE
  obtain ⟨iG, hiG, hzG, hyG, hxG⟩ := info_parts' infoG
  clear hn hf hok
  go_enter Try.func14, Try.ntmps14
  go_wp2_with (fail)
  go_must (refine (small44_any _).mono ?_)
  rintro e w1 ⟨rfl, hb1⟩
  go_wp2_with (fail)
  go_must (refine (new_ex _).mono ?_)
  rintro e w2 ⟨g, gm, rfl, hr, hg1, hg2, hb2⟩
  have hB := Gen.over hb2 hb1
  go_wp2_with (fail)
  go_must (refine (few44_any A n cap l _ HN.out (hc.keep hB) (by omega)).mono ?_)
  rintro e w3 ⟨rfl, rfl⟩
  rw [HF.out]
  have HS0 := Lib.hid (show Sm w w2.heap.size g gm l w2 0 (.slice none 0 0) (.slice none 0 0) [] [] none from
    ⟨hr, ⟨rfl, .inl ⟨rfl, rfl⟩⟩, ⟨rfl, .inl ⟨rfl, rfl⟩⟩, rfl, fun j x m h1 h2 => by simp at h2, fun q h => (by cases h), fun q h => (by cases h), fun q h => (by cases h), hB, hg2, by have := hb1.size; omega, Nat.le_refl _, Nat.le_refl _⟩)
  clear hr hg1 hg2 hb1 hb2 hB
  go_wp2_with (fail)
  go_loopw [5, 6, 7] (fun wv mv iv wr => ∃ (i : Nat) (v5 v6 : Value) (L : List En) (M : List Sg) (eb : Option Nat), i ≤ n ∧ iv = .int .i64 i ∧ v5 = wv ∧ v6 = mv ∧ Hid (Sm w w2.heap.size g gm l wr i v5 v6 L M eb)) (fun _ _ iv _ => n - (intOf iv).toNat)
  case atStart => exact ⟨0, _, _, [], [], none, Nat.zero_le _, rfl, rfl, rfl, HS0⟩
  case round =>
    obtain ⟨i, v5, v6, L, M, eb, hi, rfl, rfl, rfl, HS⟩ := hrel
    by_cases hlt : i < n
    · have hiI : (i : Int) < (n : Int) := by omega
      have i0 : (0 : Int) ≤ (i : Int) := by omega
      obtain ⟨bl, ol, rfl, hcl⟩ := (hc.keep HS.out.bl) (by rw [HN.out]; omega)
      obtain ⟨x, hx⟩ := at_ l i (by rw [HN.out]; exact hlt)
      obtain ⟨c0, c1⟩ := hcl i x hx
      have HX := Lib.hid hx
      have HOX := Lib.hid (HOK.out x (mem_of_at hx))
      have hLL := HS.out.ll
      have hbA : Below wr.heap.size wr (wr.alloc (.cells #[.int .i64 0, .string ⟨#[]⟩, .int .i64 0] 62)) := Gen.b_alloc (Below.refl _ _)
      have hZ : Row (wr.alloc (.cells #[.int .i64 0, .string ⟨#[]⟩, .int .i64 0] 62)) wr.heap.size 62 #[.int .i64 0, .string ⟨#[]⟩, .int .i64 0] := Row.new _ _ _
      have e0 := Gen.keep hbA c0
      have e1 := Gen.keep hbA c1
      have hw0 := HS.out.bl.size
      clear hcl hx
      obtain ⟨k, s⟩ := x
      dsimp only at c0 c1 e0 e1
      go_wp2
      go_cut [8] (fun pv wx => ∃ gx m L' eb', pv = .pointer (some ⟨gx, 0, none⟩) ∧ Mid w wr g gm L eb (k, s) wx gx m L' eb')
      case first =>
        go_region_law (first
          | (go_simp; go_at_call 45; refine (sign_any (W0 := w) (HS.out.r.keep (by first | exact (Below.refl _ _).drew | exact (Gen.b_alloc (Below.refl _ _)).drew)) HOX.out (by omega) (by first | exact HS.out.bl.drew | exact (Gen.b_alloc HS.out.bl).drew) HS.out.w0g).mono ?_; rintro e' w5 ⟨m, L', eb', rfl, hS, hR, hE, hB5, hs5, hK5⟩; first | (have HE := Lib.hid (Mid.early HS.out.r (by simp) (hZ.keep (Below.refl _ _).drew) hS hR hE hB5 hs5 hK5 (fun q hq => hbA.block q hq) hw0); have t0 := HE.out.1.cell 0; have t1 := HE.out.1.cell 1; have t2 := HE.out.1.cell 2; have f0 := HE.out.1.frozen 0; have f1 := HE.out.1.frozen 1; have f2 := HE.out.1.frozen 2) | (have HE := Lib.hid (Mid.late (wr := wr) (by simp) hS hR hE hB5 hs5 hK5 (fun q hq => rfl)))))
        all_goals
          go_wp2
          go_meet
          first | exact ⟨_, m, L', eb', rfl, HE.out.2⟩ | exact ⟨_, m, L', eb', rfl, HE.out⟩
      case rest =>
        obtain ⟨gx, m, L', eb', rfl, hM⟩ := hcut
        obtain ⟨w6, rfl⟩ : ∃ w' : World, w' = wc := ⟨_, rfl⟩
        have HM := Lib.hid hM
        have t0 := hM.row.cell 0
        have t1 := hM.row.cell 1
        have t2 := hM.row.cell 2
        obtain ⟨d0, d1⟩ := Els.two (hc.keep hM.bl) HX.out
        have o6 := hM.away HS.out.o6 HS.out.gB HS.out.d6
        clear hM c0 c1 e0 e1 hbA hZ
        go_upto_region 11 with (fail)
        go_cut [6] (fun mv wx => ∃ v7, v7 = mv ∧ Hid (Pst w w2.heap.size g gm wx i v5 v7 L L' M (k, s) m gx eb'))
        case first =>
          go_wp2_with (first
            | (at_builtin
               go_must (refine App.wpList_append_any _ rfl (.tmp 44) (.tmp 46) _ rfl w2.heap.size 62 iG _ 3 32 Try.underlying79 hiG hzG hyG hxG rfl (by omega) _ i (M.flatMap scs) rfl (Gen.own_keep o6 (Gen.b_alloc (Below.refl _ _))) (w6.heap.size + 1) (some ⟨w6.heap.size, 0, none⟩) 1 1 (scs m) rfl (Gen.reads_blk (W := w6) rfl rfl) (by simp [scs, Value.oneCell']) (by simp only [maxLen]; omega) (by omega) (by have := HS.out.sB; have := HM.out.sz; simp; omega) ?_)
               intro v7 w7 ho7 hg7 ha7)
            | fail)
          go_meet
          exact ⟨v7, rfl, Lib.hid (Mid.pst HS.out HM.out (Gen.b_alloc (Below.refl _ _)) hg7 ho7 ha7)⟩
        case rest =>
          obtain ⟨v7, rfl, HP⟩ := hcut
          obtain ⟨w7, rfl⟩ : ∃ w' : World, w' = wc := ⟨_, rfl⟩
          clear t0 t1 t2 d0 d1 o6 HM
          have t0 := HP.out.row.cell 0
          have t1 := HP.out.row.cell 1
          have t2 := HP.out.row.cell 2
          obtain ⟨d0, d1⟩ := Els.two (hc.keep HP.out.bl) HX.out
          by_cases hk : 0 ≤ k ∧ k < 200
          · obtain ⟨hk0, hk1⟩ := hk
            have HK := Lib.hid (isK_yes hk0 hk1)
            obtain ⟨A5, c5, hv5, _⟩ := Gen.own_slice HP.out.o5
            subst hv5
            by_cases hm : (k, s) ∈ L
            · obtain ⟨hL', p, hp, hmk⟩ := SgnR.old HP.out.s HK.out hm
              have HND := Lib.hid (hL' ▸ HP.out.r.nd)
              have HR := Lib.hid (Pst.next HS.out HP.out HX.out hL')
              have HPP := Lib.hid hp
              have hpl := lt_of_at hp
              subst hmk
              clear hL' hp
              dsimp only at t0 t1 t2 d0 d1
              go_wp2
              go_loopw [9, 10] (fun ov kv wx => ∃ (kk : Nat) (ob : Bool) (nq : Nat), kk ≤ L.length ∧ kv = .int .i64 kk ∧ ov = .bool ob ∧ ob = decide (p < kk) ∧ wx = w7.drewN nq) (fun _ kv _ => L.length - (intOf kv).toNat)
              case atStart => exact ⟨0, false, 0, Nat.zero_le _, rfl, rfl, (decide_eq_false (by omega)).symm, rfl⟩
              case round =>
                obtain ⟨kk, ob, nq, hkk, rfl, rfl, hob, rfl⟩ := hrel
                have kk0 : (0 : Int) ≤ (kk : Int) := by omega
                by_cases hl : kk < L.length
                · have hlI : (kk : Int) < (L.length : Int) := by omega
                  by_cases hpk : p < kk
                  · obtain rfl : ob = true := hob.trans (decide_eq_true hpk)
                    clear hob
                    go_wp2
                    go_quiet (fail)
                    go_wp2
                    go_roundw
                    case rel => first | exact ⟨kk + 1, true, _, by omega, by go_num, rfl, (decide_eq_true (by omega)).symm, rfl⟩ | exact ⟨kk + 1, true, by omega, by go_num, rfl, (decide_eq_true (by omega)).symm⟩
                    case measure => simp [intOf]; omega
                  · obtain rfl : ob = false := hob.trans (decide_eq_false hpk)
                    clear hob
                    obtain ⟨y, hy⟩ := at_ L kk hl
                    obtain ⟨b5, hA5, p0, p1⟩ := own_two rfl HP.out.o5 hy
                    subst hA5
                    by_cases he : kk = p
                    · subst he
                      obtain rfl : y = (k, s) := by rw [HPP.out] at hy; injection hy with hy; exact hy.symm
                      clear hy
                      dsimp only at p0 p1
                      go_wp2
                      go_quiet (fail)
                      go_wp2
                      go_roundw
                      case rel => first | exact ⟨kk + 1, true, _, by omega, by go_num, rfl, (decide_eq_true (by omega)).symm, rfl⟩ | exact ⟨kk + 1, true, by omega, by go_num, rfl, (decide_eq_true (by omega)).symm⟩
                      case measure => simp [intOf]; omega
                    · have hne : y ≠ (k, s) := fun c => he (at_inj HND.out (c ▸ hy) HPP.out)
                      clear hy
                      obtain ⟨yk, ys⟩ := y
                      dsimp only at p0 p1
                      by_cases hyk : yk = k
                      · have hys : ¬ ys.toList = s.toList := fun c => hne (by rw [hyk, str_inj c])
                        obtain rfl : k = yk := hyk.symm
                        clear hne
                        go_wp2
                        go_quiet (fail)
                        go_wp2
                        go_roundw
                        case rel => first | exact ⟨kk + 1, false, _, by omega, by go_num, rfl, (decide_eq_false (by omega)).symm, rfl⟩ | exact ⟨kk + 1, false, by omega, by go_num, rfl, (decide_eq_false (by omega)).symm⟩
                        case measure => simp [intOf]; omega
                      · clear hne
                        go_wp2
                        go_quiet (fail)
                        go_wp2
                        go_roundw
                        case rel => first | exact ⟨kk + 1, false, _, by omega, by go_num, rfl, (decide_eq_false (by omega)).symm, rfl⟩ | exact ⟨kk + 1, false, by omega, by go_num, rfl, (decide_eq_false (by omega)).symm⟩
                        case measure => simp [intOf]; omega
                · obtain rfl : ob = true := hob.trans (decide_eq_true (by omega))
                  clear hob
                  obtain ⟨b5, hA5, p0, p1⟩ := own_two rfl HP.out.o5 HPP.out
                  subst hA5
                  dsimp only at p0 p1
                  have p0I : (0 : Int) ≤ (p : Int) := by omega
                  have p1I : (p : Int) < (L.length : Int) := by omega
                  go_wp2
                  go_quiet (fail)
                  all_goals
                    go_wp2
                    go_roundw
                    case rel => exact ⟨i + 1, _, _, _, _, _, by omega, by go_num, rfl, rfl, by first | exact HR | exact Lib.hid (HR.out.keep (Gen.dN (Below.refl _ _) _))⟩
                    case measure => simp [intOf]; omega
            · obtain ⟨hL', hmk⟩ := SgnR.fresh HP.out.s HK.out hm
              have HNM := Lib.hid hm
              have HLL := Lib.hid hL'
              subst hmk
              clear hL' hm
              dsimp only at t0 t1 t2 d0 d1
              go_wp2
              go_loopw [9, 10] (fun ov kv wx => ∃ (kk : Nat) (nq : Nat), kk ≤ L.length ∧ kv = .int .i64 kk ∧ ov = .bool false ∧ wx = w7.drewN nq) (fun _ kv _ => L.length - (intOf kv).toNat)
              case atStart => exact ⟨0, 0, Nat.zero_le _, rfl, rfl, rfl⟩
              case round =>
                obtain ⟨kk, nq, hkk, rfl, rfl, rfl⟩ := hrel
                have kk0 : (0 : Int) ≤ (kk : Int) := by omega
                by_cases hl : kk < L.length
                · have hlI : (kk : Int) < (L.length : Int) := by omega
                  obtain ⟨y, hy⟩ := at_ L kk hl
                  obtain ⟨b5, hA5, p0, p1⟩ := own_two rfl HP.out.o5 hy
                  subst hA5
                  have hne : y ≠ (k, s) := fun c => HNM.out (c ▸ mem_of_at hy)
                  clear hy
                  obtain ⟨yk, ys⟩ := y
                  dsimp only at p0 p1
                  by_cases hyk : yk = k
                  · have hys : ¬ ys.toList = s.toList := fun c => hne (by rw [hyk, str_inj c])
                    obtain rfl : k = yk := hyk.symm
                    clear hne
                    go_wp2
                    go_quiet (fail)
                    go_wp2
                    go_roundw
                    case rel => first | exact ⟨kk + 1, _, by omega, by go_num, rfl, rfl⟩ | exact ⟨kk + 1, by omega, by go_num, rfl⟩ | exact ⟨kk + 1, by omega, by go_num⟩
                    case measure => simp [intOf]; omega
                  · clear hne
                    go_wp2
                    go_quiet (fail)
                    go_wp2
                    go_roundw
                    case rel => first | exact ⟨kk + 1, _, by omega, by go_num, rfl, rfl⟩ | exact ⟨kk + 1, by omega, by go_num, rfl⟩ | exact ⟨kk + 1, by omega, by go_num⟩
                    case measure => simp [intOf]; omega
                · have o5 := HP.out.o5
                  have sB := HP.out.sB
                  go_wp2_with (first
                    | (at_builtin
                       go_must (refine App.wpList_append_any _ rfl (.tmp 82) (.tmp 87) _ rfl w2.heap.size 70 iE _ 2 24 Try.underlying60 hiE hzE hyE hxE rfl (by omega) _ L.length (L.flatMap ecs) rfl (Gen.own_keep o5 (Gen.b_alloc (Gen.dN (Below.refl _ _) _))) (w7.heap.size + 1) (some ⟨w7.heap.size, 0, none⟩) 1 1 (ecs (k, s)) rfl (Gen.reads_blk (W := w7.drewN nq) rfl rfl) (by simp [ecs, Value.oneCell']) (by simp only [maxLen]; omega) (by omega) (by simp only [World.size_alloc, dN_size]; omega) ?_)
                       go_must (intro v8 w8 ho8 hg8 ha8
                                obtain ⟨A8, c8, hv8, _⟩ := Gen.own_slice ho8
                                subst hv8
                                have HG := Lib.hid (Pst.grow HS.out HP.out HX.out HLL.out (Gen.b_alloc (Gen.dN (Below.refl _ _) _)) hg8 ho8 ha8)
                                have HR := Lib.hid HG.out.1
                                have r2 := HG.out.2.cell 2
                                have e8 : (L ++ [(k, s)]).flatMap ecs = L.flatMap ecs ++ ecs (k, s) := by simp
                                obtain ⟨b8, hA8, p0, p1⟩ := own_two (l := L ++ [(k, s)]) (j := L.length) (x := (k, s)) (by simp) (e8 ▸ ho8) (by simp)
                                subst hA8
                                obtain ⟨d0, d1⟩ := Els.two (hc.keep HR.out.bl) HX.out
                                have L0 : (0 : Int) ≤ (L.length : Int) := by omega
                                have L1 : (L.length : Int) < ((L.length + 1 : Nat) : Int) := by omega
                                dsimp only at p0 p1 d0 d1
                                clear ho8 hg8 ha8 HG))
                    | fail)
                  clear HP HS
                  go_quiet (fail)
                  all_goals
                    go_wp2
                    go_roundw
                    case rel => exact ⟨i + 1, _, _, _, _, _, by omega, by go_num, rfl, rfl, by first | exact HR | exact Lib.hid (HR.out.keep (Gen.dN (Below.refl _ _) _))⟩
                    case measure => simp [intOf]; omega
          · have HR := Lib.hid (Pst.next HS.out HP.out HX.out (SgnR.bad HP.out.s (isK_no (by omega))).1)
            clear HP HS
            by_cases hk0 : k < 0
            · go_wp2
              go_roundw
              case rel => exact ⟨i + 1, _, _, _, _, _, by omega, by go_num, rfl, rfl, by first | exact HR | exact Lib.hid (HR.out.keep (Gen.dN (Below.refl _ _) _))⟩
              case measure => simp [intOf]; omega
            · have hk1 : (200 : Int) ≤ k := by omega
              go_wp2
              go_roundw
              case rel => exact ⟨i + 1, _, _, _, _, _, by omega, by go_num, rfl, rfl, by first | exact HR | exact Lib.hid (HR.out.keep (Gen.dN (Below.refl _ _) _))⟩
              case measure => simp [intOf]; omega
    · obtain rfl : n = i := by omega
      obtain ⟨A5, c5, hv5, _⟩ := Gen.own_slice HS.out.o5
      subst hv5
      obtain ⟨A6, c6, hv6, _⟩ := Gen.own_slice HS.out.o6
      subst hv6
      have hLL := HS.out.ll
      go_wp2_with (fail)
      go_must (refine (all_any HS.out.r (by omega)).mono ?_)
      rintro e w8 ⟨A8, c8, rfl, ho8, hb8⟩
      have HS8 := Lib.hid (HS.out.keep hb8)
      go_wp2_with (fail)
      go_must (refine (same44_is A8 A5 L.length c8 c5 L w8 rfl (els_own rfl ho8) (els_own rfl HS8.out.o5) (by omega)).mono ?_)
      rintro e w9 ⟨rfl, hb9⟩
      have HS9 := Lib.hid (HS8.out.keep hb9)
      clear HS HS8 ho8 hb8 hb9 HS0
      go_wp2
      go_loopw [11] (fun jv wr => ∃ j : Nat, j ≤ n ∧ jv = .int .i64 j ∧ Hid (Sm w w2.heap.size g gm l wr n (.slice A5 L.length c5) (.slice A6 n c6) L M eb)) (fun jv _ => n - (intOf jv).toNat)
      case atStart => exact ⟨0, Nat.zero_le _, rfl, HS9⟩
      case round =>
        obtain ⟨j, hj, rfl, HT⟩ := hrel
        clear HS9
        have j0 : (0 : Int) ≤ (j : Int) := by omega
        by_cases hlt : j < n
        · have hjI : (j : Int) < (n : Int) := by omega
          obtain ⟨bl, ol, rfl, hcl⟩ := (hc.keep HT.out.bl) (by rw [HN.out]; omega)
          obtain ⟨x, hx⟩ := at_ l j (by rw [HN.out]; exact hlt)
          obtain ⟨c0, c1⟩ := hcl j x hx
          obtain ⟨m, hm⟩ : ∃ m, M[j]? = some m := ⟨_, List.getElem?_eq_getElem (by rw [HT.out.ml]; exact hlt)⟩
          have HM := Lib.hid (HT.out.ms j x m hx hm)
          have HOX := Lib.hid (HOK.out x (mem_of_at hx))
          obtain ⟨b6, hA6, hb6, t0, t1, t2⟩ := own_three HT.out.ml HT.out.o6 hm
          subst hA6
          clear hcl hx hm
          obtain ⟨k, s⟩ := x
          dsimp only at c0 c1
          go_wp2
          go_region_law (first
            | (go_simp; go_at_call 45; go_must (refine (sign_again (HT.out.r.keep (Below.refl _ _).drew) HOX.out HM.out).mono ?_; rintro e' w5 ⟨rfl, hB5⟩; have hB6 := Gen.over hB5 (Below.refl wr.heap.size wr).drew; have s0 := Gen.keep hB6 t0; have s1 := Gen.keep hB6 t1; have s2 := Gen.keep hB6 t2; have HV := Lib.hid (HT.out.keep hB6))))
          all_goals
            go_wp2
            go_roundw
            case rel => exact ⟨j + 1, by omega, by go_num, HV⟩
            case measure => simp [intOf]; omega
        · obtain rfl : n = j := by omega
          go_wp2_with (fail)
          go_must (refine (all_any HT.out.r (by omega)).mono ?_)
          rintro e w10 ⟨A10, c10, rfl, ho10, hb10⟩
          have HT10 := Lib.hid (HT.out.keep hb10)
          go_wp2_with (fail)
          go_must (refine (same44_is A10 A5 L.length c10 c5 L w10 rfl (els_own rfl ho10) (els_own rfl HT10.out.o5) (by omega)).mono ?_)
          rintro e w11 ⟨rfl, hb11⟩
          have HB := Lib.hid (Gen.over hb11 HT10.out.bl)
          go_wp2
          go_ret
          exact ⟨rfl, HB.out⟩
theorem slm_any (w : World) (hn : l.length = n) (hc : Els w A l) (hbig : n ≤ 9223372036854775807) (hok : ∀ x ∈ l, okE x) :
    Calls Try.prog 14 #[.slice A n cap] w fun e w' => e = .returned (.bool true) ∧ Below w.heap.size w w' := by
  cases hf : few44 l
  · exact slm_a w hn hc hbig hf
  · exact slm_b w hn hc hok hf
end
end Go.Proofs.Ytblegaclcpoonaa.Seal
