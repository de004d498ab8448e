/- SealMakes returns true: every list of pairs and every signature; no condition. -/
import Derived.Test.YtblegaclcpoonaaSelL
import Derived.BigQuiet
import Derived.Deep.DeepCutAuto
import Derived.Deep.RegionLaw
namespace Go.Proofs.Ytblegaclcpoonaa.Seal
open Go.ChangeShapes Go.WideShapes Go.ChangeAt Go.RowKit Go.Joins Go.Maps Go.WideMaps Go.Proofs.Ytblegaclcpoonaa.Cell
set_option linter.unusedVariables false
set_option linter.unusedSimpArgs false
section
variable {A : Option Addr} {n cap : Nat} {l : List En} {sk sm : Int} {ss : ByteArray}
set_option maxRecDepth 100000 in
set_option maxHeartbeats 4000000 in
theorem slk_a (w : World) (hn : l.length = n) (hc : Els w A l) (hbig : n ≤ 9223372036854775807) (hf : few44 l = false) :
    Calls Try.prog 13 #[.slice A n cap, .agg #[.int .i64 sk, .string ss, .int .i64 sm]] w fun e w' => e = .returned (.bool true) ∧ Below w.heap.size w w' := by
  have HN := Lib.hid hn
  have HF := Lib.hid hf
  clear hn hf
  go_enter Try.func13, Try.ntmps13
  go_wp2_with (fail)
  go_must (refine (small44_any _).mono ?_)
  rintro e w1 ⟨rfl, hb1⟩
  go_wp2_with (fail)
  go_must (refine (new_ex _).mono ?_)
  rintro e w2 ⟨g, gm, rfl, hr, hg1, hg2, hb2⟩
  have hB := Gen.over hb2 hb1
  have hA : Below w.heap.size w (w.alloc (.cells #[.int .i64 sk, .string ss, .int .i64 sm] 62)) := Gen.b_alloc (Below.refl _ _)
  go_wp2_with (fail)
  go_must (refine (few44_any A n cap l _ HN.out (hc.keep (Gen.over hB hA)) (by omega)).mono ?_)
  rintro e w3 ⟨rfl, rfl⟩
  rw [HF.out]
  go_wp2
  go_ret
  exact ⟨rfl, Gen.over hB hA⟩
set_option maxRecDepth 100000 in
set_option maxHeartbeats 8000000 in
theorem slk_b (w : World) (hn : l.length = n) (hc : Els w A l) (hok : ∀ x ∈ l, okE x) (hs : okE (sk, ss)) (hf : few44 l = true) :
    Calls Try.prog 13 #[.slice A n cap, .agg #[.int .i64 sk, .string ss, .int .i64 sm]] w fun e w' => e = .returned (.bool true) ∧ Below w.heap.size w w' := by
  obtain ⟨h40, _⟩ := few44_in hf
  rw [hn] at h40
  have HN := Lib.hid hn
  have HF := Lib.hid hf
  have HOK := Lib.hid hok
  have HOS := Lib.hid hs
  obtain ⟨iG, hiG, hzG, hyG, hxG⟩ := info_parts' infoG
  clear hn hf hok hs
  go_enter Try.func13, Try.ntmps13
  go_wp2_with (fail)
  go_must (refine (small44_any _).mono ?_)
  rintro e w1 ⟨rfl, hb1⟩
  go_wp2_with (fail)
  go_must (refine (new_ex _).mono ?_)
  rintro e w2 ⟨g, gm, rfl, hr, hg1, hg2, hb2⟩
  have hB := Gen.over hb2 hb1
  have hA : Below w.heap.size w (w.alloc (.cells #[.int .i64 sk, .string ss, .int .i64 sm] 62)) := Gen.b_alloc (Below.refl _ _)
  go_wp2_with (fail)
  go_must (refine (few44_any A n cap l _ HN.out (hc.keep (Gen.over hB hA)) (by omega)).mono ?_)
  rintro e w3 ⟨rfl, rfl⟩
  rw [HF.out]
  have HS0 := Lib.hid (show Sk (w.alloc (.cells #[.int .i64 sk, .string ss, .int .i64 sm] 62)) w2.heap.size g gm w2 0 (.slice none 0 0) [] [] none from
    ⟨hr, ⟨rfl, .inl ⟨rfl, rfl⟩⟩, fun m hm => by simp at hm, fun p x hx => by simp at hx, fun q h => (by cases h), hB, hg2, by have := hb1.size; omega, Nat.le_refl _, Nat.le_refl _, Nat.le_refl _⟩)
  clear hr hg1 hg2 hb1 hb2
  obtain ⟨wS, hwS⟩ : ∃ x, x = w.alloc (.cells #[.int .i64 sk, .string ss, .int .i64 sm] 62) := ⟨_, rfl⟩
  rw [← hwS] at hB hA HS0
  have HRS : Hid (Row wS w.heap.size 62 #[.int .i64 sk, .string ss, .int .i64 sm]) := Lib.hid (by rw [hwS]; exact Row.new _ _ _)
  replace hc := hc.keep hA
  have HA := Lib.hid hA
  clear hwS hA hB
  go_wp2_with (fail)
  go_loopw [7, 8] (fun mv iv wr => ∃ (i : Nat) (v5 : Value) (L : List En) (M : List Sg) (eb : Option Nat), i ≤ n ∧ iv = .int .i64 i ∧ v5 = mv ∧ Hid (Sk wS w2.heap.size g gm wr i v5 L M eb)) (fun _ iv _ => n - (intOf iv).toNat)
  case atStart => exact ⟨0, _, [], [], none, Nat.zero_le _, rfl, rfl, HS0⟩
  case round =>
    obtain ⟨i, v5, L, M, eb, hi, rfl, rfl, HS⟩ := hrel
    have i0 : (0 : Int) ≤ (i : Int) := by omega
    by_cases hlt : i < n
    · have hiI : (i : Int) < (n : Int) := by omega
      obtain ⟨bl, ol, rfl, hcl⟩ := (hc.keep HS.out.bl) (by rw [HN.out]; omega)
      obtain ⟨x, hx⟩ := at_ l i (by rw [HN.out]; exact hlt)
      obtain ⟨c0, c1⟩ := hcl i x hx
      have HX := Lib.hid hx
      have HOX := Lib.hid (HOK.out x (mem_of_at hx))
      have hLL := HS.out.ll
      have hML := HS.out.ml
      have hbA : Below wr.heap.size wr (wr.alloc (.cells #[.int .i64 0, .string ⟨#[]⟩, .int .i64 0] 62)) := Gen.b_alloc (Below.refl _ _)
      have hZ : Row (wr.alloc (.cells #[.int .i64 0, .string ⟨#[]⟩, .int .i64 0] 62)) wr.heap.size 62 #[.int .i64 0, .string ⟨#[]⟩, .int .i64 0] := Row.new _ _ _
      have e0 := Gen.keep hbA c0
      have e1 := Gen.keep hbA c1
      have hw0 := HS.out.bl.size
      clear hcl hx
      obtain ⟨k, s⟩ := x
      dsimp only at c0 c1 e0 e1
      go_wp2
      go_cut [9] (fun pv wx => ∃ gx m L' eb', pv = .pointer (some ⟨gx, 0, none⟩) ∧ Mid wS wr g gm L eb (k, s) wx gx m L' eb')
      case first =>
        go_region_law (first
          | (go_simp; go_at_call 45; refine (sign_any (W0 := wS) (HS.out.r.keep (by first | exact (Below.refl _ _).drew | exact (Gen.b_alloc (Below.refl _ _)).drew)) HOX.out (by omega) (by first | exact HS.out.bl.drew | exact (Gen.b_alloc HS.out.bl).drew) HS.out.w0g).mono ?_; rintro e' w5 ⟨m, L', eb', rfl, hS, hR, hE, hB5, hs5, hK5⟩; first | (have HE := Lib.hid (Mid.early HS.out.r (by simp) (hZ.keep (Below.refl _ _).drew) hS hR hE hB5 hs5 hK5 (fun q hq => hbA.block q hq) hw0); have t0 := HE.out.1.cell 0; have t1 := HE.out.1.cell 1; have t2 := HE.out.1.cell 2; have f0 := HE.out.1.frozen 0; have f1 := HE.out.1.frozen 1; have f2 := HE.out.1.frozen 2) | (have HE := Lib.hid (Mid.late (wr := wr) (by simp) hS hR hE hB5 hs5 hK5 (fun q hq => rfl)))))
        all_goals
          go_wp2
          go_meet
          first | exact ⟨_, m, L', eb', rfl, HE.out.2⟩ | exact ⟨_, m, L', eb', rfl, HE.out⟩
      case rest =>
        obtain ⟨gx, m, L', eb', rfl, hM⟩ := hcut
        obtain ⟨w6, rfl⟩ : ∃ w' : World, w' = wc := ⟨_, rfl⟩
        have HM := Lib.hid hM
        have t0 := hM.row.cell 0
        have t1 := hM.row.cell 1
        have t2 := hM.row.cell 2
        obtain ⟨d0, d1⟩ := Els.two (hc.keep hM.bl) HX.out
        have o6 := hM.away HS.out.o5 HS.out.gB HS.out.d5
        have hsB : w2.heap.size ≤ w6.heap.size := Nat.le_trans HS.out.sB hM.sz
        dsimp only at d0 d1
        clear hM c0 c1 e0 e1 hbA hZ
        by_cases hk : 0 ≤ k ∧ k < 200
        · obtain ⟨hk0, hk1⟩ := hk
          have HK := Lib.hid (isK_yes hk0 hk1)
          obtain ⟨p, _, hmk⟩ := HM.out.s.made HK.out
          subst hmk
          dsimp only at t0 t1 t2
          go_wp2
          go_quiet (fail)
          go_wp2_with (first
            | (at_builtin
               go_must (refine App.wpList_append_any _ rfl (.tmp 81) (.tmp 83) _ rfl w2.heap.size 62 iG _ 3 32 Try.underlying79 hiG hzG hyG hxG rfl (by omega) _ M.length (M.flatMap scs) rfl (Gen.own_keep o6 (Gen.b_alloc (Gen.dN (Below.refl _ _) _))) (w6.heap.size + 1) (some ⟨w6.heap.size, 0, none⟩) 1 1 (scs ⟨k, s, p⟩) rfl (Gen.reads_blk (W := w6.drewN _) rfl rfl) (by simp [scs, Value.oneCell']) (by simp only [maxLen]; omega) (by omega) (by simp only [World.size_alloc, dN_size]; omega) ?_
                        intro v7 w7 ho7 hg7 ha7
                        have HS7 := Lib.hid (Mid.sk HS.out HM.out HOX.out HK.out (Gen.b_alloc (Gen.dN (Below.refl _ _) _)) hg7 ho7 ha7)
                        clear ho7 hg7 ha7))
            | fail)
          obtain ⟨M7, hM7⟩ : ∃ x, x = M ++ [(⟨k, s, p⟩ : Sg)] := ⟨_, rfl⟩
          rw [← hM7] at HS7
          clear hM7 HM HS o6
          obtain ⟨A7, c7, hv7, _⟩ := Gen.own_slice HS7.out.o5
          subst hv7
          have hml7 := HS7.out.ml
          go_wp2
          go_loopw [10] (fun kv wr => ∃ kk : Nat, kk ≤ M7.length ∧ kv = .int .i64 kk ∧ Hid (Sk wS w2.heap.size g gm wr (i + 1) (.slice A7 M7.length c7) L' M7 eb')) (fun kv _ => M7.length - (intOf kv).toNat)
          case atStart => exact ⟨0, Nat.zero_le _, rfl, by first | exact HS7 | exact Lib.hid (HS7.out.keep (Gen.dN (Below.refl _ _) _))⟩
          case round =>
            obtain ⟨kk, hkk, rfl, HT⟩ := hrel
            clear HS7
            have kk0 : (0 : Int) ≤ (kk : Int) := by omega
            by_cases hl : kk < M7.length
            · have hlI : (kk : Int) < (M7.length : Int) := by omega
              obtain ⟨y, hy⟩ : ∃ y, M7[kk]? = some y := ⟨_, List.getElem?_eq_getElem hl⟩
              obtain ⟨b7, hA7, _, p0, p1, p2⟩ := own_three rfl HT.out.o5 hy
              subst hA7
              have HY := Lib.hid (List.mem_of_getElem? hy)
              clear hy
              obtain ⟨yk, ys, ym⟩ := y
              dsimp only at p0 p1 p2
              go_wp2_with (fail)
              go_must (refine (HT.out.holds (Below.refl _ _) HY.out).mono ?_)
              rintro e wv ⟨rfl, hbv⟩
              have HV := Lib.hid (HT.out.keep hbv)
              clear hbv
              go_wp2
              go_roundw
              case rel => exact ⟨kk + 1, by omega, by go_num, HV⟩
              case measure => simp [intOf]; omega
            · go_wp2
              go_roundw
              case rel => exact ⟨i + 1, _, _, _, _, by omega, by go_num, rfl, HT⟩
              case measure => simp [intOf]; omega
        · obtain ⟨hS7, hm0⟩ := Mid.sk0 HS.out HM.out (isK_no (by omega))
          have HS7 := Lib.hid hS7
          clear hS7
          subst hm0
          dsimp only [sg0] at t0 t1 t2
          clear HM HS o6
          by_cases hk0 : k < 0
          · go_wp2
            obtain ⟨A7, c7, hv7, _⟩ := Gen.own_slice HS7.out.o5
            subst hv7
            have hml7 := HS7.out.ml
            go_wp2
            go_loopw [10] (fun kv wr => ∃ kk : Nat, kk ≤ M.length ∧ kv = .int .i64 kk ∧ Hid (Sk wS w2.heap.size g gm wr (i + 1) (.slice A7 M.length c7) L M eb')) (fun kv _ => M.length - (intOf kv).toNat)
            case atStart => exact ⟨0, Nat.zero_le _, rfl, by first | exact HS7 | exact Lib.hid (HS7.out.keep (Gen.dN (Below.refl _ _) _))⟩
            case round =>
              obtain ⟨kk, hkk, rfl, HT⟩ := hrel
              clear HS7
              have kk0 : (0 : Int) ≤ (kk : Int) := by omega
              by_cases hl : kk < M.length
              · have hlI : (kk : Int) < (M.length : Int) := by omega
                obtain ⟨y, hy⟩ : ∃ y, M[kk]? = some y := ⟨_, List.getElem?_eq_getElem hl⟩
                obtain ⟨b7, hA7, _, p0, p1, p2⟩ := own_three rfl HT.out.o5 hy
                subst hA7
                have HY := Lib.hid (List.mem_of_getElem? hy)
                clear hy
                obtain ⟨yk, ys, ym⟩ := y
                dsimp only at p0 p1 p2
                go_wp2_with (fail)
                go_must (refine (HT.out.holds (Below.refl _ _) HY.out).mono ?_)
                rintro e wv ⟨rfl, hbv⟩
                have HV := Lib.hid (HT.out.keep hbv)
                clear hbv
                go_wp2
                go_roundw
                case rel => exact ⟨kk + 1, by omega, by go_num, HV⟩
                case measure => simp [intOf]; omega
              · go_wp2
                go_roundw
                case rel => exact ⟨i + 1, _, _, _, _, by omega, by go_num, rfl, HT⟩
                case measure => simp [intOf]; omega
          · have hk1 : (200 : Int) ≤ k := by omega
            go_wp2
            obtain ⟨A7, c7, hv7, _⟩ := Gen.own_slice HS7.out.o5
            subst hv7
            have hml7 := HS7.out.ml
            go_wp2
            go_loopw [10] (fun kv wr => ∃ kk : Nat, kk ≤ M.length ∧ kv = .int .i64 kk ∧ Hid (Sk wS w2.heap.size g gm wr (i + 1) (.slice A7 M.length c7) L M eb')) (fun kv _ => M.length - (intOf kv).toNat)
            case atStart => exact ⟨0, Nat.zero_le _, rfl, by first | exact HS7 | exact Lib.hid (HS7.out.keep (Gen.dN (Below.refl _ _) _))⟩
            case round =>
              obtain ⟨kk, hkk, rfl, HT⟩ := hrel
              clear HS7
              have kk0 : (0 : Int) ≤ (kk : Int) := by omega
              by_cases hl : kk < M.length
              · have hlI : (kk : Int) < (M.length : Int) := by omega
                obtain ⟨y, hy⟩ : ∃ y, M[kk]? = some y := ⟨_, List.getElem?_eq_getElem hl⟩
                obtain ⟨b7, hA7, _, p0, p1, p2⟩ := own_three rfl HT.out.o5 hy
                subst hA7
                have HY := Lib.hid (List.mem_of_getElem? hy)
                clear hy
                obtain ⟨yk, ys, ym⟩ := y
                dsimp only at p0 p1 p2
                go_wp2_with (fail)
                go_must (refine (HT.out.holds (Below.refl _ _) HY.out).mono ?_)
                rintro e wv ⟨rfl, hbv⟩
                have HV := Lib.hid (HT.out.keep hbv)
                clear hbv
                go_wp2
                go_roundw
                case rel => exact ⟨kk + 1, by omega, by go_num, HV⟩
                case measure => simp [intOf]; omega
              · go_wp2
                go_roundw
                case rel => exact ⟨i + 1, _, _, _, _, by omega, by go_num, rfl, HT⟩
                case measure => simp [intOf]; omega
    · obtain rfl : n = i := by omega
      obtain ⟨W9, rfl⟩ : ∃ W : World, W = wr := ⟨_, rfl⟩
      obtain ⟨A5, c5, hv5, _⟩ := Gen.own_slice HS.out.o5
      subst hv5
      have hML := HS.out.ml
      have HR := Lib.hid (HRS.out.keep HS.out.bl)
      have q0 := HR.out.cell 0
      have q1 := HR.out.cell 1
      have q2 := HR.out.cell 2
      clear HRS HS0
      go_wp2_with (first
        | (at_builtin
           go_must (refine App.wpList_append_any _ rfl (.tmp 102) (.tmp 103) _ rfl W9.heap.size 62 iG _ 3 32 Try.underlying79 hiG hzG hyG hxG rfl (by omega) (.slice (some ⟨W9.heap.size, 0, none⟩) 1 1) 1 _ rfl (own_blkN (W := W9) (cs := #[.int .i64 sk, .string ss, .int .i64 sm]) (K := 3) (n := 1) rfl (by decide)) W9.heap.size A5 M.length c5 (M.flatMap scs) rfl ((App.Reads.of_own HS.out.o5).alloc (Nat.le_refl _) _) (scs_one M) (by simp only [maxLen]; omega) (by omega) (by simp) ?_
                    intro v9 w9 ho9 hg9 ha9
                    have HA9 := Lib.hid (Ak.first (m := ⟨sk, ss, sm⟩) rfl HOS.out (fun a ha => (HS.out.mm a ha).1) ho9 hg9)
                    clear ho9 hg9 ha9))
        | fail)
      clear q0 q1 q2
      go_wp2
      go_loopw [11, 12] (fun av iv wr => ∃ (j : Nat) (Al : List Sg) (N : Nat) (v9 : Value), j ≤ M.length ∧ iv = .int .i64 j ∧ v9 = av ∧ Hid (Ak W9 wr v9 N Al (1 + M.length + 4 * j))) (fun _ iv _ => M.length - (intOf iv).toNat)
      case atStart => exact ⟨0, _, _, _, Nat.zero_le _, rfl, rfl, HA9⟩
      case round =>
        clear HA9
        obtain ⟨j, Al, N, v9, hj, rfl, rfl, HA9⟩ := hrel
        have j0 : (0 : Int) ≤ (j : Int) := by omega
        by_cases hlt : j < M.length
        · have hjI : (j : Int) < (M.length : Int) := by omega
          obtain ⟨y, hy⟩ : ∃ y, M[j]? = some y := ⟨_, List.getElem?_eq_getElem hlt⟩
          obtain ⟨b7, hA7, _, p0, p1, p2⟩ := own_three rfl (HS.out.keep HA9.out.bl).o5 hy
          subst hA7
          have HY := Lib.hid (HS.out.mm y (List.mem_of_getElem? hy))
          have hN := HA9.out.le
          have q0 := (HR.out.keep HA9.out.bl).cell 0
          have q1 := (HR.out.keep HA9.out.bl).cell 1
          have q2 := (HR.out.keep HA9.out.bl).cell 2
          clear hy
          obtain ⟨yk, ys, ym⟩ := y
          dsimp only at p0 p1 p2
          obtain ⟨hoy, p, hp, hmp⟩ := HY.out
          have hpl := lt_of_at hp
          have hll := HS.out.ll
          dsimp only at hmp hoy
          have y0 : (0 : Int) ≤ ym := by omega
          have y1 : ym ≤ 100 := by omega
          have hX : Below wr.heap.size wr (wr.alloc (.cells #[.int .i64 yk, .string ys, .int .i64 ym] 62)) := Gen.b_alloc (Below.refl _ _)
          have r0 := Gen.keep hX q0
          have r1 := Gen.keep hX q1
          have r2 := Gen.keep hX q2
          have e4 : 1 + M.length + 4 * j + 4 = 1 + M.length + 4 * (j + 1) := by omega
          have HOY := Lib.hid hoy
          clear hp hmp HY hoy
          go_wp2_with (first
            | (at_builtin
               go_must (refine App.wpList_append_any _ rfl (.tmp 115) (.tmp 145) _ rfl W9.heap.size 62 iG _ 3 32 Try.underlying79 hiG hzG hyG hxG rfl (by omega) _ N (Al.flatMap scs) rfl (Gen.own_keep HA9.out.o (Gen.b_alloc hX)) (wr.heap.size + 1 + 1) (some ⟨wr.heap.size + 1, 0, none⟩) 4 4 _ rfl (reads_blkN (W := wr.alloc (.cells #[.int .i64 yk, .string ys, .int .i64 ym] 62)) (K := 3) (n := 4) (by simp) rfl) (by simp [Value.oneCell']) (by simp only [maxLen]; omega) (by omega) (by have := HA9.out.bl.size; simp only [World.size_alloc]; omega) ?_
                        intro v8 w8 ho8 hg8 ha8
                        have HA8 := Lib.hid (Ak.more (R := [⟨sk, ys, ym⟩, ⟨yk, ss, ym⟩, ⟨yk, ys, sm⟩, ⟨yk, ys, ym + 1⟩]) HA9.out (Gen.b_alloc hX) hg8 ho8 rfl rfl (by
                          intro a ha
                          simp at ha
                          rcases ha with rfl | rfl | rfl | rfl
                          · exact ⟨HOS.out.1, HOY.out.2⟩
                          · exact ⟨HOY.out.1, HOS.out.2⟩
                          · exact HOY.out
                          · exact HOY.out))
                        rw [e4] at HA8
                        clear ho8 hg8 ha8 e4))
            | fail)
          go_roundw
          case rel => exact ⟨j + 1, _, _, _, by omega, by go_num, rfl, HA8⟩
          case measure => simp [intOf]; omega
        · obtain ⟨WX, rfl⟩ : ∃ W : World, W = wr := ⟨_, rfl⟩
          obtain ⟨A9, c9, hv9, _⟩ := Gen.own_slice HA9.out.o
          subst hv9
          have HSX := Lib.hid (HS.out.keep HA9.out.bl)
          have hNle := HA9.out.le
          clear HR
          go_wp2
          go_loopw [14] (fun iv wr => ∃ j : Nat, j ≤ N ∧ iv = .int .i64 j ∧ Hid (Below WX.heap.size WX wr)) (fun iv _ => N - (intOf iv).toNat)
          case atStart => exact ⟨0, Nat.zero_le _, rfl, Lib.hid (Below.refl _ _)⟩
          case round =>
            obtain ⟨j, hj, rfl, HB⟩ := hrel
            have j0 : (0 : Int) ≤ (j : Int) := by omega
            by_cases hlt : j < N
            · have hjI : (j : Int) < (N : Int) := by omega
              obtain ⟨WY, rfl⟩ : ∃ W : World, W = wr := ⟨_, rfl⟩
              obtain ⟨y, hy⟩ : ∃ y, Al[j]? = some y := ⟨_, List.getElem?_eq_getElem (by rw [HA9.out.len]; exact hlt)⟩
              obtain ⟨b9, hA9, _, p0, p1, p2⟩ := own_three HA9.out.len (Gen.own_keep HA9.out.o HB.out) hy
              subst hA9
              have HOY := Lib.hid (HA9.out.ok y (List.mem_of_getElem? hy))
              have HSY := Lib.hid (HSX.out.keep HB.out)
              clear hy
              obtain ⟨yk, ys, ym⟩ := y
              dsimp only at p0 p1 p2
              go_wp2
              go_loopw [15, 16] (fun ov kv wr => ∃ (kk : Nat) (ob : Bool) (nq : Nat), kk ≤ M.length ∧ kv = .int .i64 kk ∧ ov = .bool ob ∧ Hid (Was ob M kk ⟨yk, ys, ym⟩) ∧ wr = WY.drewN nq) (fun _ kv _ => M.length - (intOf kv).toNat)
              case atStart => exact ⟨0, false, 0, Nat.zero_le _, rfl, rfl, Lib.hid was_none, rfl⟩
              case round =>
                obtain ⟨kk, ob, nq, hkk, rfl, rfl, HO, rfl⟩ := hrel
                have kk0 : (0 : Int) ≤ (kk : Int) := by omega
                by_cases hl : kk < M.length
                · have hlI : (kk : Int) < (M.length : Int) := by omega
                  obtain ⟨z, hz⟩ : ∃ z, M[kk]? = some z := ⟨_, List.getElem?_eq_getElem hl⟩
                  obtain ⟨b7, hA7, _, r0, r1, r2⟩ := own_three rfl HSY.out.o5 hz
                  subst hA7
                  have HZ := Lib.hid hz
                  clear hz
                  obtain ⟨zk, zs, zm⟩ := z
                  dsimp only at r0 r1 r2
                  by_cases hob : ob = true
                  · subst hob
                    have HO2 := Lib.hid (any_old HO.out)
                    go_wp2
                    go_quiet (fail)
                    go_wp2
                    go_roundw
                    case rel => first | exact ⟨kk + 1, true, _, by omega, by go_num, rfl, HO2, rfl⟩ | exact ⟨kk + 1, true, by omega, by go_num, rfl, HO2⟩
                    case measure => simp [intOf]; omega
                  · have hob : ob = false := by simpa using hob
                    subst hob
                    by_cases hk : zk = yk
                    · obtain rfl : yk = zk := hk.symm
                      by_cases hs : zs.toList = ys.toList
                      · obtain rfl : ys = zs := (str_inj hs).symm
                        clear hs
                        by_cases hm : zm = ym
                        · obtain rfl : ym = zm := hm.symm
                          have HO2 := Lib.hid (any_here HZ.out)
                          go_wp2
                          go_quiet (fail)
                          go_wp2
                          go_roundw
                          case rel => first | exact ⟨kk + 1, true, _, by omega, by go_num, rfl, HO2, rfl⟩ | exact ⟨kk + 1, true, by omega, by go_num, rfl, HO2⟩
                          case measure => simp [intOf]; omega
                        · have HO2 := Lib.hid (any_not HO.out HZ.out (fun c => by injection c with c1 c2 c3; exact hm c3))
                          go_wp2
                          go_quiet (fail)
                          go_wp2
                          go_roundw
                          case rel => first | exact ⟨kk + 1, false, _, by omega, by go_num, rfl, HO2, rfl⟩ | exact ⟨kk + 1, false, by omega, by go_num, rfl, HO2⟩
                          case measure => simp [intOf]; omega
                      · have HO2 := Lib.hid (any_not HO.out HZ.out (fun c => hs (by injection c with c1 c2 c3; rw [c2])))
                        go_wp2
                        go_quiet (fail)
                        go_wp2
                        go_roundw
                        case rel => first | exact ⟨kk + 1, false, _, by omega, by go_num, rfl, HO2, rfl⟩ | exact ⟨kk + 1, false, by omega, by go_num, rfl, HO2⟩
                        case measure => simp [intOf]; omega
                    · have HO2 := Lib.hid (any_not HO.out HZ.out (fun c => by injection c with c1 c2 c3; exact hk c1))
                      go_wp2
                      go_quiet (fail)
                      go_wp2
                      go_roundw
                      case rel => first | exact ⟨kk + 1, false, _, by omega, by go_num, rfl, HO2, rfl⟩ | exact ⟨kk + 1, false, by omega, by go_num, rfl, HO2⟩
                      case measure => simp [intOf]; omega
                · obtain rfl : kk = M.length := by omega
                  go_wp2_with (fail)
                  go_must (refine (HSY.out.valid (Gen.dN (Below.refl _ _) _) HOY.out).mono ?_)
                  rintro e wv ⟨b, rfl, hb, hbv⟩
                  obtain rfl : ob = b := any_all HO.out hb
                  have HV := Lib.hid (Gen.over (Gen.over hbv (Gen.dN (Below.refl _ _) _)) HB.out)
                  clear hb hbv
                  go_wp2
                  go_roundw
                  case rel => exact ⟨j + 1, by omega, by go_num, HV⟩
                  case measure => simp [intOf]; omega
            · have HF9 := Lib.hid (Gen.over HB.out (Gen.over HA9.out.bl (Gen.over HS.out.bl HA.out)))
              go_wp2
              go_ret
              exact ⟨rfl, HF9.out⟩
theorem slk_any (w : World) (hn : l.length = n) (hc : Els w A l) (hbig : n ≤ 9223372036854775807) (hok : ∀ x ∈ l, okE x) (hs : okE (sk, ss)) :
    Calls Try.prog 13 #[.slice A n cap, .agg #[.int .i64 sk, .string ss, .int .i64 sm]] w fun e w' => e = .returned (.bool true) ∧ Below w.heap.size w w' := by
  cases hf : few44 l
  · exact slk_a w hn hc hbig hf
  · exact slk_b w hn hc hok hs hf
end
end Go.Proofs.Ytblegaclcpoonaa.Seal
