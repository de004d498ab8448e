/- BearerOnce returns true: every list of pieces, every list of things that happen; no condition. -/
import Derived.Test.YthphlaijkknefaaBeaZ
import Derived.Deep.RegionHeld3
import Derived.BigQuiet
namespace Go.Proofs.Ythphlaijkknefaa.Bea
open Go.ChangeShapes Go.WideShapes Go.ChangeAt Go.RowKit Go.Proofs.Ythphlaijkknefaa.Cell
set_option linter.unusedVariables false
set_option linter.unusedSimpArgs false
section
variable {A B : Option Addr} {n cap m cap2 : Nat} {l : List Pc} {ks : List Ac}
set_option maxRecDepth 100000 in
set_option maxHeartbeats 8000000 in
theorem once_a (w : World) (hn : l.length = n) (hc : Pcl w A l) (hsz : ∀ x ∈ l, x.pd.length ≤ 9223372036854775807) (hbig : n ≤ 9223372036854775807) (hm : ks.length = m) (ha : Acl w B ks) (hmb : m ≤ 9223372036854775807) (hf : few31 l = false) :
    Calls Try.prog 4 #[.slice A n cap, .slice B m cap2] w fun e w' => e = .returned (.bool true) ∧ Below w.heap.size w w' := by
  have HF := Lib.hid hf
  clear hf
  go_enter Try.func4, Try.ntmps4
  go_wp2_with (fail)
  go_must (refine (small31_any _).mono ?_)
  rintro e w1 ⟨rfl, hb1⟩
  go_wp2_with (fail)
  go_must (refine (few31_any _ n cap l _ hn (hc.keep hb1) hbig).mono ?_)
  rintro e w2 ⟨rfl, rfl⟩
  rw [HF.out]
  clear hn
  go_wp2
  go_ret
  exact ⟨rfl, hb1⟩
set_option maxRecDepth 100000 in
set_option maxHeartbeats 8000000 in
theorem once_b (w : World) (hn : l.length = n) (hc : Pcl w A l) (hsz : ∀ x ∈ l, x.pd.length ≤ 9223372036854775807) (hbig : n ≤ 9223372036854775807) (hm : ks.length = m) (ha : Acl w B ks) (hmb : m ≤ 9223372036854775807) (hf : few31 l = true) (h60 : 60 < m) :
    Calls Try.prog 4 #[.slice A n cap, .slice B m cap2] w fun e w' => e = .returned (.bool true) ∧ Below w.heap.size w w' := by
  have HF := Lib.hid hf
  clear hf
  have h60I : (60 : Int) < (m : Int) := by omega
  go_enter Try.func4, Try.ntmps4
  go_wp2_with (fail)
  go_must (refine (small31_any _).mono ?_)
  rintro e w1 ⟨rfl, hb1⟩
  go_wp2_with (fail)
  go_must (refine (few31_any _ n cap l _ hn (hc.keep hb1) hbig).mono ?_)
  rintro e w2 ⟨rfl, rfl⟩
  rw [HF.out]
  clear hn hm
  go_wp2
  go_ret
  exact ⟨rfl, hb1⟩
set_option maxRecDepth 100000 in
set_option maxHeartbeats 8000000 in
theorem once_c (w : World) (hn : l.length = n) (hc : Pcl w A l) (hsz : ∀ x ∈ l, x.pd.length ≤ 9223372036854775807) (hbig : n ≤ 9223372036854775807) (hm : ks.length = m) (ha : Acl w B ks) (hmb : m ≤ 9223372036854775807) (hf : few31 l = true) (h60 : m ≤ 60) (hr : rgtL l = false) :
    Calls Try.prog 4 #[.slice A n cap, .slice B m cap2] w fun e w' => e = .returned (.bool true) ∧ Below w.heap.size w w' := by
  have HF := Lib.hid hf
  have HR := Lib.hid hr
  clear hf hr
  have h60I : (m : Int) ≤ 60 := by omega
  go_enter Try.func4, Try.ntmps4
  go_wp2_with (fail)
  go_must (refine (small31_any _).mono ?_)
  rintro e w1 ⟨rfl, hb1⟩
  go_wp2_with (fail)
  go_must (refine (few31_any _ n cap l _ hn (hc.keep hb1) hbig).mono ?_)
  rintro e w2 ⟨rfl, rfl⟩
  rw [HF.out]
  go_wp2_with (fail)
  go_must (refine (Right_any _ n cap l _ hn (hc.keep hb1) hsz hbig).mono ?_)
  rintro e w2 ⟨rfl, hb2⟩
  rw [HR.out]
  clear hn hm
  go_wp2
  go_ret
  exact ⟨rfl, Gen.over hb2 hb1⟩
set_option maxRecDepth 100000 in
set_option maxHeartbeats 8000000 in
theorem once_d (w : World) (hn : l.length = n) (hc : Pcl w A l) (hsz : ∀ x ∈ l, x.pd.length ≤ 9223372036854775807) (hbig : n ≤ 9223372036854775807) (hm : ks.length = m) (ha : Acl w B ks) (hmb : m ≤ 9223372036854775807) (hf : few31 l = true) (h60 : m ≤ 60) (hr : rgtL l = true) :
    Calls Try.prog 4 #[.slice A n cap, .slice B m cap2] w fun e w' => e = .returned (.bool true) ∧ Below w.heap.size w w' := by
  have HF := Lib.hid hf
  have HR := Lib.hid hr
  have H12 := Lib.hid (few_in hf)
  have hn12 : n ≤ 12 := by have := H12.out.1; omega
  have hn12I : (n : Int) ≤ 12 := by omega
  have HN := Lib.hid hn
  have HA := Lib.hid ha
  have HM := Lib.hid hm
  have HC := Lib.hid hc
  obtain ⟨iA, hiA, hzA, hyA, hxA⟩ := info_parts' infoAc
  clear hf hr
  have h60I : (m : Int) ≤ 60 := by omega
  go_enter Try.func4, Try.ntmps4
  go_wp2_with (fail)
  go_must (refine (small31_any _).mono ?_)
  rintro e w1 ⟨rfl, hb1⟩
  go_wp2_with (fail)
  go_must (refine (few31_any _ n cap l _ hn (hc.keep hb1) hbig).mono ?_)
  rintro e w2 ⟨rfl, rfl⟩
  rw [HF.out]
  go_wp2_with (fail)
  go_must (refine (Right_any _ n cap l _ hn (hc.keep hb1) hsz hbig).mono ?_)
  rintro e w2 ⟨rfl, hb2⟩
  rw [HR.out]
  have HB1 := Lib.hid (Gen.over hb2 hb1)
  have HC1 := Lib.hid (hc.keep (Gen.over hb2 hb1))
  clear hn hm hb1 hb2 hc ha hsz
  go_wp2
  go_loopw [6, 7, 8] (fun cv pv iv wr => ∃ (k : Nat) (A1 : Option Addr) (c1 : Nat) (L : List Pc) (P : List Ac) (A2 : Option Addr) (c9 : Nat), k ≤ m ∧ iv = .int .i64 k ∧ cv = .slice A1 n c1 ∧ pv = .slice A2 P.length c9 ∧ Hid (L.length = n) ∧ Hid (Pcl wr A1 L) ∧ Hid (∀ x ∈ L, x.pd.length ≤ 10) ∧ Hid (Inv l L P) ∧ P.length ≤ k ∧ Hid (wr.ownsRow w.heap.size 27 5 (.slice A2 P.length c9) P.length (P.flatMap acv)) ∧ Hid (Below w.heap.size w wr)) (fun _ _ iv _ => m - (intOf iv).toNat)
  case atStart => exact ⟨0, A, cap, l, [], none, 0, Nat.zero_le _, rfl, rfl, rfl, HN, HC1, Lib.hid H12.out.2, Lib.hid (Inv.start HR.out), Nat.le_refl _, Lib.hid (World.ownsRow_nil _ _ _ _), HB1⟩
  case round =>
    clear HB1 HC1
    obtain ⟨k, A1, c1, L, P, A2, c9, hk, rfl, rfl, rfl, HLN, HLP, HLS, HIN, hPk, HOW, HB⟩ := hrel
    have k0 : (0 : Int) ≤ (k : Int) := by omega
    have HSZ : Hid (∀ x ∈ L, x.pd.length ≤ 9223372036854775807) := Lib.hid fun x hx => by have := HLS.out x hx; omega
    by_cases hlt : k < m
    · have hltI : (k : Int) < (m : Int) := by omega
      obtain ⟨a, hak⟩ := at_ ks k (by rw [HM.out]; exact hlt)
      obtain ⟨b, off, hBe, hcell⟩ := (HA.out.keep HB.out) (by rw [HM.out]; omega)
      subst hBe
      obtain ⟨a0, a1, a2, a3, a4⟩ := hcell k a hak
      clear hcell hak
      obtain ⟨kd, q, co, wh, d⟩ := a
      dsimp only at a0 a1 a2 a3 a4
      have HK3 := Lib.hid (k3_in kd)
      have HQB : Hid (∀ q, (Value.slice A2 P.length c9).ownBlock = some q → q < wr.heap.size) := Lib.hid fun q hq => (HOW.out.lt q hq).2
      go_upto_region 11 with (fail)
      obtain ⟨kq, hkq⟩ : ∃ v, bits .and .i64 kd 3 = v := ⟨_, rfl⟩
      have HK : Hid (0 ≤ kq ∧ kq ≤ 3) := Lib.hid (by rw [← hkq]; exact HK3.out)
      rw [hkq]
      have hB0 : Below wr.heap.size wr (wr.alloc (.cells #[.int .i64 kq, .int .i64 q, .int .i64 co, .int .i64 wh, .int .i64 d] 27)) := Gen.b_alloc (Below.refl _ _)
      have hr0 : Row (wr.alloc (.cells #[.int .i64 kq, .int .i64 q, .int .i64 co, .int .i64 wh, .int .i64 d] 27)) wr.heap.size 27 #[.int .i64 kq, .int .i64 q, .int .i64 co, .int .i64 wh, .int .i64 d] := Row.new _ _ _
      clear hkq HK3 a0 a1 a2 a3 a4
      go_wp2_with (fail)
      go_must (refine (do_any ⟨kq, q, co, wh, d⟩ HLN.out (HLP.out.keep hB0) HSZ.out (by omega)).mono ?_)
      rintro e w2 (⟨hE, rfl, hb2⟩ | ⟨hE, v, rfl, hO⟩)
      · have HP2 := Lib.hid ((HLP.out.keep hB0).keep hb2)
        have HB2 := Lib.hid (Gen.over hb2 (Gen.over hB0 HB.out))
        have HO2 := Lib.hid (Gen.own_keep (Gen.own_keep HOW.out hB0) hb2)
        obtain ⟨E, hEE⟩ : ∃ E, doE L ⟨kq, q, co, wh, d⟩ = E := ⟨_, rfl⟩
        rw [hEE] at hE ⊢
        have hE1 : (E != 0) = true := by simpa using hE
        clear hEE hE hb2 hB0 hr0
        go_wp2
        go_roundw
        case rel => exact ⟨k + 1, A1, c1, L, P, A2, c9, by omega, by go_num, rfl, rfl, HLN, HP2, HLS, HIN, by omega, HO2, HB2⟩
        case measure => simp [intOf]; omega
      · have HE := Lib.hid hE
        have HUP := Lib.hid hO.up
        obtain ⟨⟨g, c2, rfl, hp2⟩, hn2, hb2, _⟩ := hO
        have HB2 := Lib.hid (Gen.over hb2 (Gen.over hB0 HB.out))
        have HMS0 := Lib.hid (doL_pd (a := ⟨kq, q, co, wh, d⟩) HLS.out)
        have HO2 := Lib.hid (Gen.own_keep (Gen.own_keep HOW.out hB0) hb2)
        have r2 := hr0.keep hb2
        have HIM : Hid (kq ≠ 0 → Inv l (doL L ⟨kq, q, co, wh, d⟩) P) := Lib.hid fun h => HIN.out.move hE h
        have HIP : Hid (kq = 0 → _) := Lib.hid fun (h : kq = 0) => HIN.out.pay hE h
        have HRM : Hid (rgtL (doL L ⟨kq, q, co, wh, d⟩) = true) := Lib.hid (by
          by_cases h0 : kq = 0
          · obtain ⟨_, _, _, _, _, _, _, _, _, hI⟩ := HIN.out.pay (a := ⟨kq, q, co, wh, d⟩) hE h0
            exact hI.ok
          · exact (HIN.out.move (a := ⟨kq, q, co, wh, d⟩) hE h0).ok)
        have hN0 : kq ≠ 0 → doN L ⟨kq, q, co, wh, d⟩ = 0 := fun h => if_neg h
        obtain ⟨M, hM⟩ : ∃ M, doL L ⟨kq, q, co, wh, d⟩ = M := ⟨_, rfl⟩
        obtain ⟨N, hN⟩ : ∃ N, doN L ⟨kq, q, co, wh, d⟩ = N := ⟨_, rfl⟩
        rw [hN] at HIP hN0 ⊢
        rw [hM] at hp2 hn2 HUP HIM HIP HRM HMS0
        have HMN := Lib.hid hn2
        have HMZ : Hid (∀ x ∈ M, x.pd.length ≤ 9223372036854775807) := Lib.hid fun x hx => by have := HMS0.out x hx; omega
        have hnn : ((n : Int) != (n : Int)) = false := by simp
        have HP2 := Lib.hid hp2
        have hgz := hr0.lt
        clear hM hN hp2 hn2 hE
        go_wp2_with (fail)
        go_must (refine (Right_any _ n c2 M _ HMN.out HP2.out HMZ.out (by omega)).mono ?_)
        rintro e w3 ⟨rfl, hb3⟩
        rw [HRM.out]
        have HP3 := Lib.hid (HP2.out.keep hb3)
        have HB3 := Lib.hid (Gen.over hb3 HB2.out)
        have HO3 := Lib.hid (Gen.own_keep HO2.out hb3)
        have HU3 := Lib.hid (HUP.out.keep hb3)
        have r3 := r2.keep hb3
        have f0 : w3.cell? ⟨wr.heap.size, 0, none⟩ = some (.int .i64 kq) := r3.cell 0
        have f1 : w3.cell? ⟨wr.heap.size, 1, none⟩ = some (.int .i64 q) := r3.cell 1
        have f2 : w3.cell? ⟨wr.heap.size, 2, none⟩ = some (.int .i64 co) := r3.cell 2
        have f3 : w3.cell? ⟨wr.heap.size, 3, none⟩ = some (.int .i64 wh) := r3.cell 3
        have f4 : w3.cell? ⟨wr.heap.size, 4, none⟩ = some (.int .i64 d) := r3.cell 4
        clear hnn hb3 hb2 hB0 hr0 r2
        by_cases hk0 : kq = 0
        case neg =>
          have hkb : (kq != 0) = true := by simpa using hk0
          obtain rfl : N = 0 := hN0 hk0
          have HIN2 := Lib.hid (HIM.out hk0)
          clear hN0 HIM HIP hk0 r3
          go_wp2
          go_roundw
          case rel => exact ⟨k + 1, _, c2, M, P, A2, c9, by omega, by go_num, rfl, rfl, HMN, HP3, HMS0, HIN2, by omega, HO3, HB3⟩
          case measure => simp [intOf]; omega
        have hkb : (kq != 0) = false := by simpa using hk0
        obtain ⟨p, c, x, hp, hcc, hx, hxc, hNx, hnew, hI⟩ := HIP.out hk0
        try dsimp only at hp
        try dsimp only at hcc
        subst hp hcc hk0
        have HIN2 := Lib.hid hI
        have HNEW := Lib.hid hnew
        have HX := Lib.hid hx
        have hpn : p < n := by have := lt_of_at hx; rw [HN.out] at this; exact this
        have p0 : (0 : Int) ≤ (p : Int) := by omega
        have p1 : (p : Int) < (n : Int) := by omega
        have hcl := lt_of_at hxc
        have q0 : (0 : Int) ≤ (c : Int) := by omega
        have q1 : (c : Int) < (x.pd.length : Int) := by omega
        obtain ⟨bl, ol, hAe, _⟩ := HC.out (by rw [HN.out]; omega)
        subst hAe
        obtain ⟨_, d1, ⟨A5, c5, d2, hbo⟩, _, _⟩ := pcl_cells (HC.out.keep HB3.out) hx
        obtain ⟨b5, o5, rfl, hb5⟩ := hbo (by omega)
        have d5 := hb5 c _ hxc
        have HD5 := Lib.hid d5
        have hNN : (N != x.un) = false := by rw [hNx]; simp
        clear hI hnew hx hbo hb5 HIM HIP hN0
        go_wp2
        go_quiet (fail)
        have hD : Below w3.heap.size w3 (w3.drewN nq) := Gen.dN (Below.refl _ _) nq
        have HP4 := Lib.hid (HP3.out.keep hD)
        have HB4 := Lib.hid (Gen.over hD HB3.out)
        have HO4 := Lib.hid (Gen.own_keep HO3.out hD)
        have HU4 := Lib.hid (HU3.out.keep hD)
        have R4 := Lib.hid (r3.keep hD)
        generalize w3.drewN nq = w4 at HP4 HB4 HO4 HU4 R4 ⊢
        clear hD f0 f1 f2 f3 f4 d1 d2 d5 HD5 r3 HB3 HO3 HU3 HP3 HB2 HO2 HUP HP2
        have hPI : (P.length : Int) ≤ 60 := by omega
        go_wp2
        go_loopw [13] (fun jv wq => ∃ j : Nat, j ≤ P.length ∧ jv = .int .i64 j ∧ Hid (Below w4.heap.size w4 wq)) (fun jv _ => P.length - (intOf jv).toNat)
        case atStart => exact ⟨0, Nat.zero_le _, rfl, Lib.hid (Below.refl _ _)⟩
        case round =>
          obtain ⟨j, hj, rfl, HBQ⟩ := hrel
          have j0 : (0 : Int) ≤ (j : Int) := by omega
          have rq := R4.out.keep HBQ.out
          have f1 : _ = some (Value.int .i64 p) := rq.cell 1
          have f2 : _ = some (Value.int .i64 c) := rq.cell 2
          by_cases hjl : j < P.length
          · have hjI : (j : Int) < (P.length : Int) := by omega
            obtain ⟨y, hy⟩ := at_ P j hjl
            have hny := HNEW.out y (mem_of_at hy)
            obtain ⟨b7, o7, hA7, hc7⟩ := acl_own' (Gen.own_keep HO4.out HBQ.out) (by omega)
            subst hA7
            obtain ⟨_, g1, g2, _, _⟩ := hc7 j y hy
            clear hc7 hy rq
            obtain ⟨yk, yp, yc, yw, yd⟩ := y
            dsimp only at hny g1 g2
            by_cases e1 : yp = p
            · have e1b : (yp == (p : Int)) = true := by simpa using e1
              have e2b : (yc == (c : Int)) = false := by
                have : yc ≠ (c : Int) := fun h => hny ⟨e1, h⟩
                simpa using this
              clear hny e1
              go_wp2
              go_quiet (fail)
              go_wp2
              go_roundw
              case rel => exact ⟨j + 1, by omega, by go_num, Lib.hid (Gen.dN HBQ.out _)⟩
              case measure => simp [intOf]; omega
            · have e1b : (yp == (p : Int)) = false := by simpa using e1
              clear hny e1
              go_wp2
              go_quiet (fail)
              go_wp2
              go_roundw
              case rel => exact ⟨j + 1, by omega, by go_num, Lib.hid (Gen.dN HBQ.out _)⟩
              case measure => simp [intOf]; omega
          · obtain rfl : j = P.length := by omega
            have f0 : _ = some (Value.int .i64 0) := rq.cell 0
            have f3 : _ = some (Value.int .i64 wh) := rq.cell 3
            have f4 : _ = some (Value.int .i64 d) := rq.cell 4
            have HOQ := Lib.hid (Gen.own_keep HO4.out HBQ.out)
            have HPQ := Lib.hid (HP4.out.keep HBQ.out)
            have HUQ := Lib.hid (HU4.out.keep HBQ.out)
            have HBW := Lib.hid (Gen.over HBQ.out HB4.out)
            have N1 : Hid (P.length + 1 ≤ maxLen) := Lib.hid (by simp only [maxLen]; omega)
            have N2 : Hid ((P.length + 1) * 40 ≤ 140737488355328) := Lib.hid (by omega)
            clear rq
            go_wp2_with (first
              | (at_builtin
                 go_must (refine App.wpList_append_any _ rfl (.tmp 122) (.tmp 124) _ rfl w.heap.size 27 iA _ 5 40 Try.underlying23 hiA hzA hyA hxA rfl (by omega) (.slice A2 P.length c9) P.length (P.flatMap acv) rfl (Gen.own_keep HOQ.out (Gen.b_alloc (Below.refl _ _))) _ _ 1 1 (acv ⟨0, p, c, wh, d⟩) rfl (Gen.reads_blk (by simp) rfl) (by simp [acv, Value.oneCell']) N1.out N2.out (Nat.le_trans HBW.out.size (Gen.b_alloc (Below.refl _ _)).size) ?_)
                 intro v7 w7 ho7 hg7 ha7
                 have HB7 := Lib.hid (Gen.g_below HOQ.out hg7 (Gen.b_alloc HBW.out) (Nat.le_refl _))
                 have HP7 := Lib.hid ((HPQ.out.keep (Gen.b_alloc (Below.refl _ _))).grow (HUQ.out.keep (Gen.b_alloc (Below.refl _ _))) hg7 (fun q hq => by have := HQB.out q hq; simp; omega))
                 obtain ⟨A7, c7, hv7, _⟩ := Gen.own_slice ho7
                 subst hv7
                 have HO7 := Lib.hid ho7
                 clear hg7 ha7 ho7)
              | fail)
            go_roundw
            case rel => exact ⟨k + 1, _, c2, M, P ++ [⟨0, p, c, wh, d⟩], A7, c7, by omega, by go_num, rfl, by rw [List.length_append]; rfl, HMN, HP7, HMS0, HIN2, by rw [List.length_append]; simp; omega, Lib.hid (by rw [List.length_append, List.flatMap_append]; simpa [acv] using HO7.out), HB7⟩
            case measure => simp [intOf]; omega
    · obtain rfl : k = m := by omega
      have HAP : Hid (Acl wr A2 P) := Lib.hid (acl_own' HOW.out)
      have HLW : Hid (Pcl wr A l) := Lib.hid (HC.out.keep HB.out)
      have hP60 : P.length ≤ 60 := by omega
      have HBD : Hid (∀ is c : Int, 0 ≤ opn l is c ∧ opn l is c ≤ 12000000000) := Lib.hid (opn_in HR.out H12.out.1)
      have HS1 := Lib.hid H12.out.2
      obtain ⟨wo, rfl⟩ : ∃ wo : World, wo = wr := ⟨_, rfl⟩
      have HWW := Lib.hid HB.out
      clear HOW HC HSZ k0 hPk H12 HA HM HB
      go_wp2
      go_loopw [14] (fun iv wq => ∃ i : Nat, i ≤ n ∧ iv = .int .i64 i ∧ Hid (Below wo.heap.size wo wq)) (fun iv _ => n - (intOf iv).toNat)
      case atStart => exact ⟨0, Nat.zero_le _, rfl, Lib.hid (Below.refl _ _)⟩
      case round =>
        obtain ⟨i, hi, rfl, HBI⟩ := hrel
        have i0 : (0 : Int) ≤ (i : Int) := by omega
        by_cases hin : i < n
        · have hiI : (i : Int) < (n : Int) := by omega
          obtain ⟨bl, ol, hAe, _⟩ := HLW.out (by rw [HN.out]; omega)
          subst hAe
          obtain ⟨x, hx⟩ := at_ l i (by rw [HN.out]; exact hin)
          have HX := Lib.hid hx
          have hx10 := HS1.out x (mem_of_at hx)
          obtain ⟨wi, rfl⟩ : ∃ wi : World, wi = wr := ⟨_, rfl⟩
          clear hx
          obtain ⟨xi, xu, xp, xl, xs⟩ := x
          dsimp only at hx10
          go_wp2
          go_loopw [15] (fun cv wq => ∃ c : Nat, c ≤ xp.length ∧ cv = .int .i64 c ∧ Hid (Below wo.heap.size wo wq)) (fun cv _ => xp.length - (intOf cv).toNat)
          case atStart => exact ⟨0, Nat.zero_le _, rfl, HBI⟩
          case round =>
            clear HBI
            obtain ⟨c, hc, rfl, HBC⟩ := hrel
            have c0 : (0 : Int) ≤ (c : Int) := by omega
            obtain ⟨d0, d1, ⟨A5, c5, d2, _⟩, _, _⟩ := pcl_cells (HLW.out.keep HBC.out) HX.out
            dsimp only at d0 d1 d2
            by_cases hcl : c < xp.length
            · have hcI : (c : Int) < (xp.length : Int) := by omega
              obtain ⟨wc, rfl⟩ : ∃ wc : World, wc = wr := ⟨_, rfl⟩
              go_wp2
              clear d0 d1 d2
              go_loopw [16, 17] (fun sv kv wq => ∃ (k : Nat) (s : Int), k ≤ P.length ∧ kv = .int .i64 k ∧ sv = .int .i64 s ∧ Hid (total ((P.take k).map (pay1 l xi c)) = s) ∧ Hid (Below wo.heap.size wo wq)) (fun _ kv _ => P.length - (intOf kv).toNat)
              case atStart => exact ⟨0, 0, Nat.zero_le _, rfl, rfl, Lib.hid (by rw [List.take_zero]; rfl), HBC⟩
              case round =>
                clear HBC
                obtain ⟨k, s, hk, rfl, rfl, HT, HBK⟩ := hrel
                have k0 : (0 : Int) ≤ (k : Int) := by omega
                have hs := pay1_in HIN.out HR.out xi c k hk
                rw [HT.out] at hs
                obtain ⟨s0, s1⟩ := hs
                obtain ⟨d0, d1, _, _, _⟩ := pcl_cells (HLW.out.keep HBK.out) HX.out
                dsimp only at d0 d1
                by_cases hkl : k < P.length
                · have hkI : (k : Int) < (P.length : Int) := by omega
                  obtain ⟨y, hy⟩ := at_ P k hkl
                  have HX1 := Lib.hid (pay1_snoc (l := l) xi c hy)
                  obtain ⟨p, x2, hyp, hx2, hpay, u0, u1⟩ := pay1_at HIN.out HR.out xi c (mem_of_at hy)
                  obtain ⟨b7, o7, hA7, hc7⟩ := (HAP.out.keep HBK.out) (by omega)
                  subst hA7
                  obtain ⟨_, g1, g2, _, _⟩ := hc7 k y hy
                  obtain ⟨e0, e1, _, _, _⟩ := pcl_cells (HLW.out.keep HBK.out) hx2
                  have hpn : p < n := by have := lt_of_at hx2; rw [HN.out] at this; exact this
                  have p0 : (0 : Int) ≤ (p : Int) := by omega
                  have p1 : (p : Int) < (n : Int) := by omega
                  rw [hpay, HT.out] at HX1
                  clear hc7 hy hx2 hpay
                  obtain ⟨yk, yp, yc, yw, yd⟩ := y
                  obtain ⟨zi, zu, zp, zl, zs⟩ := x2
                  dsimp only at g1 g2 e0 e1 hyp u0 u1 HX1
                  subst hyp
                  by_cases q1 : zi = xi
                  · by_cases q2 : yc = (c : Int)
                    · subst q1 q2
                      rw [if_pos ⟨rfl, rfl⟩] at HX1
                      have hw : IntKind.i64.wrap (s + zu) = s + zu := IntWalk.i64_in _ (by omega)
                      go_wp2
                      go_quiet (fail)
                      go_wp2
                      go_roundw
                      case rel => exact ⟨k + 1, s + zu, by omega, by go_num, rfl, HX1, Lib.hid (Gen.dN HBK.out _)⟩
                      case measure => simp [intOf]; omega
                    · have q1b : (zi == xi) = true := by simpa using q1
                      have q2b : (yc == (c : Int)) = false := by simpa using q2
                      rw [if_neg (fun h => q2 h.2), Int.add_zero] at HX1
                      clear q1 q2
                      go_wp2
                      go_quiet (fail)
                      go_wp2
                      go_roundw
                      case rel => exact ⟨k + 1, s, by omega, by go_num, rfl, HX1, Lib.hid (Gen.dN HBK.out _)⟩
                      case measure => simp [intOf]; omega
                  · have q1b : (zi == xi) = false := by simpa using q1
                    rw [if_neg (fun h => q1 h.1), Int.add_zero] at HX1
                    clear q1
                    go_wp2
                    go_quiet (fail)
                    go_wp2
                    go_roundw
                    case rel => exact ⟨k + 1, s, by omega, by go_num, rfl, HX1, Lib.hid (Gen.dN HBK.out _)⟩
                    case measure => simp [intOf]; omega
                · obtain rfl : k = P.length := by omega
                  have HT2 : Hid (total (P.map (pay1 l xi c)) = s) := Lib.hid (by rw [List.take_length] at HT; exact HT.out)
                  have hsum := HIN.out.sum xi c c0
                  rw [HT2.out] at hsum
                  have hbd := HBD.out xi c
                  obtain ⟨O, hO⟩ : ∃ O, opn L xi c = O := ⟨_, rfl⟩
                  obtain ⟨U, hU⟩ : ∃ U, opn l xi c = U := ⟨_, rfl⟩
                  rw [hO, hU] at hsum
                  rw [hU] at hbd
                  have hw : IntKind.i64.wrap U = U := IntWalk.i64_in _ (by omega)
                  have hne : (U != U) = false := by simp
                  have HSO := Lib.hid hO
                  have HSU := Lib.hid hU
                  have hSS : ∀ W' : World, Below wr.heap.size wr W' → Below wr.heap.size wr W' ∧ W'.cell? ⟨bl, ol + i * 5, none⟩ = some (.int .i64 xi) := fun W' hB => ⟨hB, Gen.keep hB d0⟩
                  have HSS := Lib.hid hSS
                  have hsz : L.length = n := HLN.out
                  clear hSS hbd hO hU HT HT2 d1 s0 s1
                  go_upto_region 44 with (fail)
                  go_cut [202] (fun c wx => c = .bool false ∧ Below wr.heap.size wr wx)
                  case first =>
                    go_region_held3 (fun W' : World => Below wr.heap.size wr W' ∧ W'.cell? ⟨bl, ol + i * 5, none⟩ = some (.int .i64 xi))
                      (first | exact HSS.out _ (Below.refl _ _).drew | exact HSS.out _ (Gen.over (by assumption) (And.left (by assumption))))
                      (first
                        | (go_at_call 12; (with_reducible refine (open_any xi c A1 n c1 L _ HLN.out (HLP.out.keep (Gen.over (And.left (by assumption)) HBK.out)) HIN.out.ok).mono ?_); rw [HSO.out]; rintro e' w' ⟨rfl, hB'⟩)
                        | (go_at_call 12; (with_reducible refine (open_any xi c (some ⟨bl, ol, none⟩) n cap l _ HN.out (HLW.out.keep (Gen.over (And.left (by assumption)) HBK.out)) HR.out).mono ?_); rw [HSU.out]; rintro e' w' ⟨rfl, hB'⟩))
                    all_goals
                      go_wp2
                      go_meet
                      exact ⟨rfl, And.left (by assumption)⟩
                  case rest =>
                    obtain ⟨rfl, hbx⟩ := hcut
                    go_wp2
                    go_roundw
                    case rel => exact ⟨c + 1, by omega, by go_num, Lib.hid (Gen.over hbx HBK.out)⟩
                    case measure => simp [intOf]; omega
            · obtain rfl : c = xp.length := by omega
              go_wp2
              go_roundw
              case rel => exact ⟨i + 1, by omega, by go_num, HBC⟩
              case measure => simp [intOf]; omega
        · obtain rfl : i = n := by omega
          go_wp2
          go_ret
          exact ⟨rfl, Gen.over HBI.out HWW.out⟩
theorem once_any (w : World) (hn : l.length = n) (hc : Pcl w A l) (hsz : ∀ x ∈ l, x.pd.length ≤ 9223372036854775807) (hbig : n ≤ 9223372036854775807) (hm : ks.length = m) (ha : Acl w B ks) (hmb : m ≤ 9223372036854775807) :
    Calls Try.prog 4 #[.slice A n cap, .slice B m cap2] w fun e w' => e = .returned (.bool true) ∧ Below w.heap.size w w' := by
  cases hf : few31 l
  · exact once_a w hn hc hsz hbig hm ha hmb hf
  · by_cases h60 : m ≤ 60
    · cases hr : rgtL l
      · exact once_c w hn hc hsz hbig hm ha hmb hf h60 hr
      · exact once_d w hn hc hsz hbig hm ha hmb hf h60 hr
    · exact once_b w hn hc hsz hbig hm ha hmb hf (by omega)
end
end Go.Proofs.Ythphlaijkknefaa.Bea
