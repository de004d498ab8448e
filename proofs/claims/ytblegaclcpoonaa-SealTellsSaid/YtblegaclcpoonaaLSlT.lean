/- SealTells returns true: every list of pairs and every signature; no condition. -/
import Derived.Test.YtblegaclcpoonaaSelQ
import Derived.BigQuiet
import Derived.Deep.DeepCutAuto
import Derived.Deep.RegionHeld3
namespace Go.Proofs.Ytblegaclcpoonaa.Seal
open Go.ChangeShapes Go.WideShapes Go.ChangeAt Go.RowKit Go.Joins Go.Maps Go.WideMaps Go.Proofs.Ytblegaclcpoonaa.Cell
set_option linter.unusedVariables false
set_option linter.unusedSimpArgs false
theorem Bad.uniq {l : List En} {c d : Int} (h1 : Bad l c) (h2 : Bad l d) : c = d := by
  rcases h1 with ⟨⟨x, hx, hk⟩, rfl⟩ | ⟨h, hn, rfl⟩ <;> rcases h2 with ⟨⟨y, hy, hk'⟩, rfl⟩ | ⟨h', hn', rfl⟩
  · rfl
  · have := h' x hx; rw [hk] at this; cases this
  · have := h y hy; rw [hk'] at this; cases this
  · rfl
theorem Bad.not {l : List En} {c : Int} (h1 : Bad l c) (h : ∀ x ∈ l, isK x.1 = true) (hn : l.Nodup) : False := by
  rcases h1 with ⟨⟨x, hx, hk⟩, rfl⟩ | ⟨_, hn', rfl⟩
  · have := h x hx; rw [hk] at this; cases this
  · exact hn' hn
section
variable {A : Option Addr} {n cap : Nat} {l : List En} {sk sm : Int} {ss : ByteArray}
set_option maxRecDepth 100000 in
set_option maxHeartbeats 4000000 in
theorem slt_a (w : World) (hn : l.length = n) (hc : Els w A l) (hbig : n ≤ 9223372036854775807) (hf : few44 l = false) :
    Calls Try.prog 12 #[.slice A n cap, .agg #[.int .i64 sk, .string ss, .int .i64 sm]] w fun e w' => e = .returned (.bool true) ∧ Below w.heap.size w w' := by
  have HN := Lib.hid hn
  have HF := Lib.hid hf
  clear hn hf
  go_enter Try.func12, Try.ntmps12
  go_wp2_with (fail)
  go_must (refine (small44_any _).mono ?_)
  rintro e w1 ⟨rfl, hb1⟩
  have hA : Below w.heap.size w (w.alloc (.cells #[.int .i64 sk, .string ss, .int .i64 sm] 62)) := Gen.b_alloc (Below.refl _ _)
  go_wp2_with (fail)
  go_must (refine (few44_any A n cap l _ HN.out (hc.keep (Gen.over hb1 hA)) (by omega)).mono ?_)
  rintro e w3 ⟨rfl, rfl⟩
  rw [HF.out]
  go_wp2
  go_ret
  exact ⟨rfl, Gen.over hb1 hA⟩
set_option maxRecDepth 100000 in
set_option maxHeartbeats 8000000 in
theorem slt_b (w : World) (hn : l.length = n) (hc : Els w A l) (hok : ∀ x ∈ l, okE x) (hs : okE (sk, ss)) (hf : few44 l = true) :
    Calls Try.prog 12 #[.slice A n cap, .agg #[.int .i64 sk, .string ss, .int .i64 sm]] w fun e w' => e = .returned (.bool true) ∧ Below w.heap.size w w' := by
  obtain ⟨h40, _⟩ := few44_in hf
  rw [hn] at h40
  have HN := Lib.hid hn
  have HF := Lib.hid hf
  have HOK := Lib.hid hok
  have HOS := Lib.hid hs
  clear hn hf hok hs
  go_enter Try.func12, Try.ntmps12
  go_wp2_with (fail)
  go_must (refine (small44_any _).mono ?_)
  rintro e w1 ⟨rfl, hb1⟩
  have hA : Below w.heap.size w (w.alloc (.cells #[.int .i64 sk, .string ss, .int .i64 sm] 62)) := Gen.b_alloc (Below.refl _ _)
  go_wp2_with (fail)
  go_must (refine (few44_any A n cap l _ HN.out (hc.keep (Gen.over hb1 hA)) (by omega)).mono ?_)
  rintro e w3 ⟨rfl, rfl⟩
  rw [HF.out]
  go_wp2_with (fail)
  go_must (refine (new_ex _).mono ?_)
  rintro e w2 ⟨g, gm, rfl, hr, hg1, hg2, hb2⟩
  go_wp2_with (fail)
  go_must (refine (rnew_any _).mono ?_)
  rintro e w4 ⟨rfl, hq, hb4⟩
  obtain ⟨gq, hgq⟩ : ∃ x, x = w2.heap.size := ⟨_, rfl⟩
  have HT0 := Lib.hid (show Tw (w.alloc (.cells #[.int .i64 sk, .string ss, .int .i64 sm] 62)) g gm w2.heap.size w4 none none [] [] from
    ⟨hr.keep hb4, hq, Gen.over hb4 (Gen.over hb2 hb1), by have := hb1.size; omega, hg2, (fun c => by cases c), (fun q c => by cases c)⟩)
  rw [← hgq] at HT0 ⊢
  clear hr hg1 hg2 hb1 hb2 hq hb4 hgq
  obtain ⟨wS, hwS⟩ : ∃ x, x = w.alloc (.cells #[.int .i64 sk, .string ss, .int .i64 sm] 62) := ⟨_, rfl⟩
  rw [← hwS] at hA HT0
  have HRS : Hid (Row wS w.heap.size 62 #[.int .i64 sk, .string ss, .int .i64 sm]) := Lib.hid (by rw [hwS]; exact Row.new _ _ _)
  replace hc := hc.keep hA
  have HA := Lib.hid hA
  clear hwS hA
  go_wp2
  go_loopw [8] (fun iv wr => ∃ (i : Nat) (L : List En) (eb eq : Option Nat), i ≤ n ∧ iv = .int .i64 i ∧ L.length ≤ i ∧ Hid (Tw wS g gm gq wr eb eq L L)) (fun iv _ => n - (intOf iv).toNat)
  case atStart => exact ⟨0, [], none, none, Nat.zero_le _, rfl, Nat.le_refl _, HT0⟩
  case round =>
    clear HT0
    obtain ⟨i, L, eb, eq, hi, rfl, hLi, HT⟩ := hrel
    have i0 : (0 : Int) ≤ (i : Int) := by omega
    by_cases hlt : i < n
    · have hiI : (i : Int) < (n : Int) := by omega
      obtain ⟨bl, ol, rfl, hcl⟩ := hc (by rw [HN.out]; omega)
      obtain ⟨x, hx⟩ := at_ l i (by rw [HN.out]; exact hlt)
      obtain ⟨c0, c1⟩ := hcl i x hx
      have HOX := Lib.hid (HOK.out x (mem_of_at hx))
      clear hcl hx
      obtain ⟨k, s⟩ := x
      dsimp only at c0 c1
      obtain ⟨L', m, hsg⟩ := sgn_ex L (k, s)
      obtain ⟨b, hb⟩ := hol_ex L' sk ss sm
      have hl1 := hsg.len
      have HSG := Lib.hid hsg
      have HH := Lib.hid hb
      have HND := Lib.hid HT.out.r.nd
      have z0 : wS.cell? ⟨w.heap.size, 0, none⟩ = some (.int .i64 sk) := HRS.out.cell 0
      have z1 : wS.cell? ⟨w.heap.size, 1, none⟩ = some (.string ss) := HRS.out.cell 1
      have z2 : wS.cell? ⟨w.heap.size, 2, none⟩ = some (.int .i64 sm) := HRS.out.cell 2
      have hSS : ∀ W' : World, Below wS.heap.size wS W' → Below wS.heap.size wS W' ∧ W'.cell? ⟨bl, ol + i * 2, none⟩ = some (.int .i64 k) ∧ W'.cell? ⟨bl, ol + i * 2 + 1, none⟩ = some (.string s) ∧ W'.cell? ⟨w.heap.size, 0, none⟩ = some (.int .i64 sk) ∧ W'.cell? ⟨w.heap.size, 1, none⟩ = some (.string ss) ∧ W'.cell? ⟨w.heap.size, 2, none⟩ = some (.int .i64 sm) :=
        fun W' hB => ⟨hB, Gen.keep hB c0, Gen.keep hB c1, Gen.keep hB z0, Gen.keep hB z1, Gen.keep hB z2⟩
      have HSS := Lib.hid hSS
      have hT0 := HT.out.keep (Below.refl wr.heap.size wr).drew
      clear hsg hb hSS c0 c1 z0 z1 z2
      go_upto_region 11 with (fail)
      go_cut [61] (fun c wx => c = .bool false ∧ ∃ eb' eq', Tw wS g gm gq wx eb' eq' L' L')
      case first =>
        go_region_held3 (fun W' : World => Below wS.heap.size wS W' ∧ W'.cell? ⟨bl, ol + i * 2, none⟩ = some (.int .i64 k) ∧ W'.cell? ⟨bl, ol + i * 2 + 1, none⟩ = some (.string s) ∧ W'.cell? ⟨w.heap.size, 0, none⟩ = some (.int .i64 sk) ∧ W'.cell? ⟨w.heap.size, 1, none⟩ = some (.string ss) ∧ W'.cell? ⟨w.heap.size, 2, none⟩ = some (.int .i64 sm))
          (first | exact HSS.out _ HT.out.bl.drew | exact HSS.out _ (Tw.bl (by assumption)))
          (first
            | (go_at_call 45; refine (Tw.sign_r (by assumption) HOX.out (by omega) HSG.out).mono ?_; rintro e' w' ⟨rfl, eb', hT'⟩)
            | (go_at_call 46; refine (Tw.sign_q (by assumption) HND.out (by omega) HSG.out).mono ?_; rintro e' w' ⟨rfl, eq', hT'⟩)
            | (go_at_call 47; refine (Tw.valid_r (by assumption) HOS.out HH.out).mono ?_; rintro e' w' ⟨rfl, hT'⟩)
            | (go_at_call 48; refine (Tw.valid_q (by assumption) (by omega) HH.out).mono ?_; rintro e' w' ⟨rfl, hT'⟩))
        all_goals
          go_wp2
          go_meet
          exact ⟨rfl, _, _, by assumption⟩
      case rest =>
        obtain ⟨rfl, eb', eq', hT'⟩ := hcut
        have HV := Lib.hid hT'
        clear hT' hT0 HT
        go_wp2
        go_roundw
        case rel => exact ⟨i + 1, _, _, _, by omega, by go_num, by omega, HV⟩
        case measure => simp [intOf]; omega
    · obtain rfl : n = i := by omega
      obtain ⟨WE, rfl⟩ : ∃ W : World, W = wr := ⟨_, rfl⟩
      go_wp2_with (fail)
      go_must (refine (sopen_any A n cap l _ HN.out (hc.keep HT.out.bl) HOK.out (by omega)).mono ?_)
      rintro e w8 (⟨g2, gm2, eb2, rfl, hA2, hR2, _, hb8⟩ | ⟨c, rfl, hbd, hb8⟩)
      · have HT8 := Lib.hid (HT.out.keep hb8)
        have HR2 := Lib.hid hR2
        have HA2 := Lib.hid hA2
        clear hR2 hA2 hb8 HT
        go_wp2_with (fail)
        go_must (refine (ropen_any A n cap l _ HN.out (hc.keep HT8.out.bl) (by omega)).mono ?_)
        rintro e w9 (⟨g3, eb3, rfl, _, hR3, _, hb9⟩ | ⟨c, rfl, hbd, hb9⟩)
        · have HT9 := Lib.hid (HT8.out.keep hb9)
          have HX9 := Lib.hid (HR2.out.keep hb9)
          have HY9 := Lib.hid hR3
          obtain ⟨b, hb⟩ := hol_ex l sk ss sm
          have HH := Lib.hid hb
          have HR9 := HRS.out.keep HT9.out.bl
          have z0 : w9.cell? ⟨w.heap.size, 0, none⟩ = some (.int .i64 sk) := HR9.cell 0
          have z1 : w9.cell? ⟨w.heap.size, 1, none⟩ = some (.string ss) := HR9.cell 1
          have z2 : w9.cell? ⟨w.heap.size, 2, none⟩ = some (.int .i64 sm) := HR9.cell 2
          have hSS : ∀ W' : World, Below w9.heap.size w9 W' → Below w9.heap.size w9 W' ∧ W'.cell? ⟨w.heap.size, 0, none⟩ = some (.int .i64 sk) ∧ W'.cell? ⟨w.heap.size, 1, none⟩ = some (.string ss) ∧ W'.cell? ⟨w.heap.size, 2, none⟩ = some (.int .i64 sm) :=
            fun W' hB => ⟨hB, Gen.keep hB z0, Gen.keep hB z1, Gen.keep hB z2⟩
          have HSS := Lib.hid hSS
          clear hb hSS z0 z1 z2 hR3 hb9 HT8 HR2 HR9
          go_upto_region 17 with (fail)
          go_cut [104] (fun c wx => c = .bool false ∧ Below w9.heap.size w9 wx)
          case first =>
            go_region_held3 (fun W' : World => Below w9.heap.size w9 W' ∧ W'.cell? ⟨w.heap.size, 0, none⟩ = some (.int .i64 sk) ∧ W'.cell? ⟨w.heap.size, 1, none⟩ = some (.string ss) ∧ W'.cell? ⟨w.heap.size, 2, none⟩ = some (.int .i64 sm))
              (first | exact HSS.out _ (Below.refl _ _).drew | exact HSS.out _ (Gen.over (by assumption) (And.left (by assumption))))
              (first
                | (go_at_call 52; refine (all_any (HX9.out.keep (And.left (by assumption))) (by rw [HN.out]; omega)).mono ?_; rintro e' w' ⟨A8, c8, rfl, ho8, hBx⟩; have hEx := els_own rfl ho8; clear ho8)
                | (go_at_call 53; refine (rall_any (HY9.out.keep (And.left (by assumption))) (by rw [HN.out]; omega)).mono ?_; rintro e' w' ⟨A9, c9, rfl, ho9, hBy⟩; have hEy := els_own rfl ho9; clear ho9)
                | (go_at_call 51; refine (same44_is _ _ l.length _ _ l _ rfl (by first | exact hEx | exact hEx.keep hBy) (by first | exact hEy | exact hEy.keep hBx) (by rw [HN.out]; omega)).mono ?_; rintro e' w' ⟨rfl, hBs⟩)
                | (go_at_call 47; refine ((HX9.out.keep (And.left (by assumption))).valid HOS.out HH.out).mono ?_; rintro e' w' ⟨rfl, hBv⟩)
                | (go_at_call 48; refine (rvalid_is (HY9.out.keep (And.left (by assumption))) (by rw [HN.out]; omega) HH.out).mono ?_; rintro e' w' ⟨rfl, hBw⟩))
            all_goals
              go_wp2
              go_meet
              exact ⟨rfl, And.left (by assumption)⟩
          case rest =>
            obtain ⟨rfl, hbx⟩ := hcut
            have HTT := Lib.hid (HT9.out.keep hbx)
            clear hbx HT9 HX9 HY9
            go_wp2_with (fail)
            go_must (refine (all_any HTT.out.r (by omega)).mono ?_)
            rintro e w20 ⟨A20, c20, rfl, ho20, hb20⟩
            have HT20 := Lib.hid (HTT.out.keep hb20)
            have HE20 := Lib.hid (els_own rfl ho20)
            clear ho20 hb20
            go_wp2_with (fail)
            go_must (refine (rall_any HT20.out.f (by omega)).mono ?_)
            rintro e w21 ⟨A21, c21, rfl, ho21, hb21⟩
            have HT21 := Lib.hid (HT20.out.keep hb21)
            have HE21 := Lib.hid (els_own rfl ho21)
            have HE22 := Lib.hid (HE20.out.keep hb21)
            clear ho21 hb21
            go_wp2_with (fail)
            go_must (refine (same44_is _ _ L.length c20 c21 L _ rfl HE22.out HE21.out (by omega)).mono ?_)
            rintro e w22 ⟨rfl, hb22⟩
            have HBF := Lib.hid (Gen.over hb22 (Gen.over HT21.out.bl HA.out))
            clear hb22
            go_wp2
            go_ret
            exact ⟨rfl, HBF.out⟩
        · exact (hbd.not HA2.out HR2.out.nd).elim
      · have HT8 := Lib.hid (HT.out.keep hb8)
        have HBD := Lib.hid hbd
        clear hb8 HT hbd
        go_wp2_with (fail)
        go_must (refine (ropen_any A n cap l _ HN.out (hc.keep HT8.out.bl) (by omega)).mono ?_)
        rintro e w9 (⟨g3, eb3, rfl, ha3, hR3, _, hb9⟩ | ⟨d, rfl, hbd, hb9⟩)
        · exact (HBD.out.not ha3.1 ha3.2).elim
        · obtain rfl : c = d := Bad.uniq HBD.out hbd
          have HT9 := Lib.hid (HT8.out.keep hb9)
          clear hbd hb9 HT8 HBD
          go_upto_region 17 with (fail)
          go_quiet (fail)
          have HTT := Lib.hid (HT9.out.keep (Gen.dN (Below.refl w9.heap.size w9) nq))
          clear HT9
          go_wp2_with (fail)
          go_must (refine (all_any HTT.out.r (by omega)).mono ?_)
          rintro e w20 ⟨A20, c20, rfl, ho20, hb20⟩
          have HT20 := Lib.hid (HTT.out.keep hb20)
          have HE20 := Lib.hid (els_own rfl ho20)
          clear ho20 hb20
          go_wp2_with (fail)
          go_must (refine (rall_any HT20.out.f (by omega)).mono ?_)
          rintro e w21 ⟨A21, c21, rfl, ho21, hb21⟩
          have HT21 := Lib.hid (HT20.out.keep hb21)
          have HE21 := Lib.hid (els_own rfl ho21)
          have HE22 := Lib.hid (HE20.out.keep hb21)
          clear ho21 hb21
          go_wp2_with (fail)
          go_must (refine (same44_is _ _ L.length c20 c21 L _ rfl HE22.out HE21.out (by omega)).mono ?_)
          rintro e w22 ⟨rfl, hb22⟩
          have HBF := Lib.hid (Gen.over hb22 (Gen.over HT21.out.bl HA.out))
          clear hb22
          go_wp2
          go_ret
          exact ⟨rfl, HBF.out⟩
theorem slt_any (w : World) (hn : l.length = n) (hc : Els w A l) (hbig : n ≤ 9223372036854775807) (hok : ∀ x ∈ l, okE x) (hs : okE (sk, ss)) :
    Calls Try.prog 12 #[.slice A n cap, .agg #[.int .i64 sk, .string ss, .int .i64 sm]] w fun e w' => e = .returned (.bool true) ∧ Below w.heap.size w w' := by
  cases hf : few44 l
  · exact slt_a w hn hc hbig hf
  · exact slt_b w hn hc hok hs hf
end
end Go.Proofs.Ytblegaclcpoonaa.Seal
