/- SealOpens returns true: every list of pairs and every further pair; no condition. -/
import Derived.Test.YtblegaclcpoonabSelO
import Derived.Test.YtblegaclcpoonabSelS
import Derived.BigQuiet
import Derived.Deep.DeepCutAuto
import Derived.Deep.RegionLaw
import Derived.Deep.RegionHeld3
namespace Go.Proofs.Ytblegaclcpoonab.Seal
open Go.ChangeShapes Go.WideShapes Go.ChangeAt Go.RowKit Go.Joins Go.Maps Go.WideMaps Go.Proofs.Ytblegaclcpoonab.Cell
set_option linter.unusedVariables false
set_option linter.unusedSimpArgs false
theorem Bad.uniq' {l : List En} {c d : Int} (h1 : Bad l c) (h2 : Bad l d) : c = d := by
  rcases h1 with ⟨⟨x, hx, hk⟩, rfl⟩ | ⟨h, hn, rfl⟩ <;> rcases h2 with ⟨⟨y, hy, hk'⟩, rfl⟩ | ⟨h', hn', rfl⟩
  · rfl
  · have := h' x hx; rw [hk] at this; cases this
  · have := h y hy; rw [hk'] at this; cases this
  · rfl
theorem Bad.not' {l : List En} {c : Int} (h1 : Bad l c) (h : ∀ x ∈ l, isK x.1 = true) (hn : l.Nodup) : False := by
  rcases h1 with ⟨⟨x, hx, hk⟩, rfl⟩ | ⟨_, hn', rfl⟩
  · have := h x hx; rw [hk] at this; cases this
  · exact hn' hn
theorem sopen_bad {A : Option Addr} {n cap : Nat} {l : List En} {c : Int} {w : World} (hn : l.length = n) (hc : Els w A l) (hok : ∀ x ∈ l, okE x) (hbig : n ≤ 100) (hb : Bad l c) :
    Calls Try.prog 13 #[.slice A n cap] w fun e w' => e = .returned (.tuple #[.pointer none, .int .i64 c]) ∧ Below w.heap.size w w' := by
  refine (sopen_any A n cap l w hn hc hok hbig).mono ?_
  rintro e w1 (⟨g, gm, eb, rfl, h1, h2, _, h3⟩ | ⟨d, rfl, h1, h2⟩)
  · exact (hb.not' h1 h2.nd).elim
  · rw [Bad.uniq' hb h1]
    exact ⟨rfl, h2⟩
theorem ok_x {ms : ByteArray} (h : ms.size ≤ 500) : okE (0, ms ++ ⟨#[120]⟩) := by
  refine ⟨(show (Lit.int .i64 0).wf = true by decide), ?_⟩
  have h1 : (⟨#[120]⟩ : ByteArray).size = 1 := rfl
  have h2 : (ms ++ ⟨#[120]⟩ : ByteArray).size = ms.size + 1 := by rw [ByteArray.size_append, h1]
  show (ms ++ ⟨#[120]⟩ : ByteArray).size ≤ maxLen
  rw [h2]; simp only [maxLen]; omega
section
variable {A : Option Addr} {n cap : Nat} {l : List En} {mk : Int} {ms : ByteArray}
set_option maxRecDepth 100000 in
set_option maxHeartbeats 4000000 in
theorem slo_a (w : World) (hn : l.length = n) (hc : Els w A l) (hbig : n ≤ 9223372036854775807) (hf : few44 l = false) :
    Calls Try.prog 3 #[.slice A n cap, .agg #[.int .i64 mk, .string ms]] w fun e w' => e = .returned (.bool true) ∧ Below w.heap.size w w' := by
  have HN := Lib.hid hn
  have HF := Lib.hid hf
  clear hn hf
  go_enter Try.func3, Try.ntmps3
  go_wp2_with (fail)
  go_must (refine (small44_any _).mono ?_)
  rintro e w1 ⟨rfl, hb1⟩
  go_wp2_with (fail)
  go_must (refine (new_ex _).mono ?_)
  rintro e w2 ⟨g, gm, rfl, hr, hg1, hg2, hb2⟩
  have hB := Gen.over hb2 hb1
  have hA : Below w.heap.size w (w.alloc (.cells #[.int .i64 mk, .string ms] 24)) := Gen.b_alloc (Below.refl _ _)
  have hRS : Row w2 w.heap.size 24 #[.int .i64 mk, .string ms] := (Row.new w 24 #[.int .i64 mk, .string ms]).keep hB
  have z1 : w2.cell? ⟨w.heap.size, 1, none⟩ = some (.string ms) := hRS.cell 1
  go_wp2_with (fail)
  go_must (refine (few44_any A n cap l _ HN.out (hc.keep (Gen.over hB hA)) (by omega)).mono ?_)
  rintro e w3 ⟨rfl, rfl⟩
  rw [HF.out]
  go_wp2
  go_ret
  exact ⟨rfl, Gen.over hB hA⟩
set_option maxRecDepth 100000 in
set_option maxHeartbeats 4000000 in
theorem slo_c (w : World) (hn : l.length = n) (hc : Els w A l) (hbig : n ≤ 9223372036854775807) (hf : few44 l = true) (hm : 500 < ms.size) :
    Calls Try.prog 3 #[.slice A n cap, .agg #[.int .i64 mk, .string ms]] w fun e w' => e = .returned (.bool true) ∧ Below w.heap.size w w' := by
  have HN := Lib.hid hn
  have HF := Lib.hid hf
  have hmI : (500 : Int) < (ms.size : Int) := by omega
  clear hn hf
  go_enter Try.func3, Try.ntmps3
  go_wp2_with (fail)
  go_must (refine (small44_any _).mono ?_)
  rintro e w1 ⟨rfl, hb1⟩
  go_wp2_with (fail)
  go_must (refine (new_ex _).mono ?_)
  rintro e w2 ⟨g, gm, rfl, hr, hg1, hg2, hb2⟩
  have hB := Gen.over hb2 hb1
  have hA : Below w.heap.size w (w.alloc (.cells #[.int .i64 mk, .string ms] 24)) := Gen.b_alloc (Below.refl _ _)
  have hRS : Row w2 w.heap.size 24 #[.int .i64 mk, .string ms] := (Row.new w 24 #[.int .i64 mk, .string ms]).keep hB
  have z1 : w2.cell? ⟨w.heap.size, 1, none⟩ = some (.string ms) := hRS.cell 1
  go_wp2_with (fail)
  go_must (refine (few44_any A n cap l _ HN.out (hc.keep (Gen.over hB hA)) (by omega)).mono ?_)
  rintro e w3 ⟨rfl, rfl⟩
  rw [HF.out]
  go_wp2
  go_ret
  exact ⟨rfl, Gen.over hB hA⟩
set_option maxRecDepth 100000 in
set_option maxHeartbeats 16000000 in
theorem slo_b (w : World) (hn : l.length = n) (hc : Els w A l) (hok : ∀ x ∈ l, okE x) (hs : okE (mk, ms)) (hf : few44 l = true) (hm : ms.size ≤ 500) :
    Calls Try.prog 3 #[.slice A n cap, .agg #[.int .i64 mk, .string ms]] w fun e w' => e = .returned (.bool true) ∧ Below w.heap.size w w' := by
  obtain ⟨h40, _⟩ := few44_in hf
  rw [hn] at h40
  have HN := Lib.hid hn
  have HF := Lib.hid hf
  have HOK := Lib.hid hok
  have HOS := Lib.hid hs
  have hmI : ¬ (500 : Int) < (ms.size : Int) := by omega
  obtain ⟨iG, hiG, hzG, hyG, hxG⟩ := info_parts' infoG
  obtain ⟨iE, hiE, hzE, hyE, hxE⟩ := info_parts' infoE
  clear hn hf hok hs
  go_enter Try.func3, Try.ntmps3
  go_wp2_with (fail)
  go_must (refine (small44_any _).mono ?_)
  rintro e w1 ⟨rfl, hb1⟩
  go_wp2_with (fail)
  go_must (refine (new_ex _).mono ?_)
  rintro e w2 ⟨g, gm, rfl, hr, hg1, hg2, hb2⟩
  have hB := Gen.over hb2 hb1
  have hA : Below w.heap.size w (w.alloc (.cells #[.int .i64 mk, .string ms] 24)) := Gen.b_alloc (Below.refl _ _)
  have hRS : Row w2 w.heap.size 24 #[.int .i64 mk, .string ms] := (Row.new w 24 #[.int .i64 mk, .string ms]).keep hB
  have z1 : w2.cell? ⟨w.heap.size, 1, none⟩ = some (.string ms) := hRS.cell 1
  go_wp2_with (fail)
  go_must (refine (few44_any A n cap l _ HN.out (hc.keep (Gen.over hB hA)) (by omega)).mono ?_)
  rintro e w3 ⟨rfl, rfl⟩
  rw [HF.out]
  have HS0 := Lib.hid (show Sk (w.alloc (.cells #[.int .i64 mk, .string ms] 24)) w2.heap.size g gm w2 0 (.slice none 0 0) [] [] none from
    ⟨hr, ⟨rfl, .inl ⟨rfl, rfl⟩⟩, fun m hm => by simp at hm, fun p x hx => by simp at hx, fun q h => (by cases h), hB, hg2, by have := hb1.size; omega, Nat.le_refl _, Nat.le_refl _, Nat.le_refl _, fun x hx => by simp at hx⟩)
  go_wp2
  clear hr hg1 hg2 hb1 hb2 hRS z1
  obtain ⟨wS, hwS⟩ : ∃ x, x = w.alloc (.cells #[.int .i64 mk, .string ms] 24) := ⟨_, rfl⟩
  rw [← hwS] at hB hA HS0
  have HRS : Hid (Row wS w.heap.size 24 #[.int .i64 mk, .string ms]) := Lib.hid (by rw [hwS]; exact Row.new _ _ _)
  replace hc := hc.keep hA
  have HA := Lib.hid hA
  clear hwS hA hB
  go_loopw [7, 8] (fun mv iv wr => ∃ (i : Nat) (v5 : Value) (L : List En) (M : List Sg) (eb : Option Nat), i ≤ n ∧ iv = .int .i64 i ∧ v5 = mv ∧ Hid (Sk wS w2.heap.size g gm wr i v5 L M eb)) (fun _ iv _ => n - (intOf iv).toNat)
  case atStart => exact ⟨0, _, [], [], none, Nat.zero_le _, rfl, rfl, HS0⟩
  case round =>
    clear HS0
    obtain ⟨i, v5, L, M, eb, hi, rfl, rfl, HS⟩ := hrel
    have i0 : (0 : Int) ≤ (i : Int) := by omega
    by_cases hlt : i < n
    · have hiI : (i : Int) < (n : Int) := by omega
      obtain ⟨bl, ol, rfl, hcl⟩ := (hc.keep HS.out.bl) (by rw [HN.out]; omega)
      obtain ⟨x, hx⟩ := at_ l i (by rw [HN.out]; exact hlt)
      obtain ⟨c0, c1⟩ := hcl i x hx
      have HX := Lib.hid hx
      have HOX := Lib.hid (HOK.out x (mem_of_at hx))
      have hLL := HS.out.ll
      have hML := HS.out.ml
      have hbA : Below wr.heap.size wr (wr.alloc (.cells #[.int .i64 0, .string ⟨#[]⟩, .int .i64 0] 31)) := Gen.b_alloc (Below.refl _ _)
      have hZ : Row (wr.alloc (.cells #[.int .i64 0, .string ⟨#[]⟩, .int .i64 0] 31)) wr.heap.size 31 #[.int .i64 0, .string ⟨#[]⟩, .int .i64 0] := Row.new _ _ _
      have e0 := Gen.keep hbA c0
      have e1 := Gen.keep hbA c1
      have hw0 := HS.out.bl.size
      clear hcl hx
      obtain ⟨k, s⟩ := x
      dsimp only at c0 c1 e0 e1
      go_wp2
      go_cut [9] (fun pv wx => ∃ gx m L' eb', pv = .pointer (some ⟨gx, 0, none⟩) ∧ Mid wS wr g gm L eb (k, s) wx gx m L' eb')
      case first =>
        go_region_law (first
          | (go_simp; go_at_call 11; refine (sign_any (W0 := wS) (HS.out.r.keep (by first | exact (Below.refl _ _).drew | exact (Gen.b_alloc (Below.refl _ _)).drew)) HOX.out (by omega) (by first | exact HS.out.bl.drew | exact (Gen.b_alloc HS.out.bl).drew) HS.out.w0g).mono ?_; rintro e' w5 ⟨m, L', eb', rfl, hS, hR, hE, hB5, hs5, hK5⟩; first | (have HE := Lib.hid (Mid.early HS.out.r (by simp) (hZ.keep (Below.refl _ _).drew) hS hR hE hB5 hs5 hK5 (fun q hq => hbA.block q hq) hw0); have t0 := HE.out.1.cell 0; have t1 := HE.out.1.cell 1; have t2 := HE.out.1.cell 2; have f0 := HE.out.1.frozen 0; have f1 := HE.out.1.frozen 1; have f2 := HE.out.1.frozen 2) | (have HE := Lib.hid (Mid.late (wr := wr) (by simp) hS hR hE hB5 hs5 hK5 (fun q hq => rfl)))))
        all_goals
          go_wp2
          go_meet
          first | exact ⟨_, m, L', eb', rfl, HE.out.2⟩ | exact ⟨_, m, L', eb', rfl, HE.out⟩
      case rest =>
        obtain ⟨gx, m, L', eb', rfl, hM⟩ := hcut
        obtain ⟨w6, rfl⟩ : ∃ w' : World, w' = wc := ⟨_, rfl⟩
        have HM := Lib.hid hM
        have t0 := hM.row.cell 0
        have t1 := hM.row.cell 1
        have t2 := hM.row.cell 2
        obtain ⟨d0, d1⟩ := Els.two (hc.keep hM.bl) HX.out
        have o6 := hM.away HS.out.o5 HS.out.gB HS.out.d5
        have hsB : w2.heap.size ≤ w6.heap.size := Nat.le_trans HS.out.sB hM.sz
        dsimp only at d0 d1
        clear hM c0 c1 e0 e1 hbA hZ
        by_cases hk : 0 ≤ k ∧ k < 200
        · obtain ⟨hk0, hk1⟩ := hk
          have HK := Lib.hid (isK_yes hk0 hk1)
          go_wp2_with (first
            | (at_builtin
               go_must (refine App.wpList_append_any _ rfl (.tmp 73) (.tmp 75) _ rfl w2.heap.size 31 iG _ 3 32 Try.underlying29 hiG hzG hyG hxG rfl (by omega) _ M.length (M.flatMap scs) rfl (Gen.own_keep o6 (Gen.b_alloc (Below.refl _ _))) (w6.heap.size + 1) (some ⟨w6.heap.size, 0, none⟩) 1 1 (scs m) rfl (Gen.reads_blk (W := w6) rfl rfl) (by simp [scs, Value.oneCell']) (by simp only [maxLen]; omega) (by omega) (by simp only [World.size_alloc]; omega) ?_
                        intro v7 w7 ho7 hg7 ha7
                        have HS7 := Lib.hid (Mid.sk HS.out HM.out HOX.out HK.out (Gen.b_alloc (Below.refl _ _)) hg7 ho7 ha7)
                        clear ho7 hg7 ha7))
            | fail)
          go_roundw
          case rel => exact ⟨i + 1, _, _, _, _, by omega, by go_num, rfl, HS7⟩
          case measure => simp [intOf]; omega
        · obtain ⟨hS7, hm0⟩ := Mid.sk0 HS.out HM.out (isK_no (by omega))
          have HS7 := Lib.hid hS7
          clear hS7 HM HS o6
          by_cases hk0 : k < 0
          · go_wp2
            go_roundw
            case rel => exact ⟨i + 1, _, _, _, _, by omega, by go_num, rfl, HS7⟩
            case measure => simp [intOf]; omega
          · have hk1 : (200 : Int) ≤ k := by omega
            go_wp2
            go_roundw
            case rel => exact ⟨i + 1, _, _, _, _, by omega, by go_num, rfl, HS7⟩
            case measure => simp [intOf]; omega
    · obtain rfl : n = i := by omega
      obtain ⟨W1, rfl⟩ : ∃ W : World, W = wr := ⟨_, rfl⟩
      obtain ⟨A5, c5, hv5, _⟩ := Gen.own_slice HS.out.o5
      subst hv5
      have hML := HS.out.ml
      have hLL := HS.out.ll
      go_wp2_with (fail)
      go_must (refine (all_any HS.out.r (by omega)).mono ?_)
      rintro e w8 ⟨A8, c8, rfl, ho8, hb8⟩
      have HO8 := Lib.hid ho8
      have HB8 := Lib.hid hb8
      clear ho8 hb8
      go_wp2_with (fail)
      go_must (refine (sopen_any A8 L.length c8 L w8 rfl (els_own rfl HO8.out) HS.out.r.ok (by omega)).mono ?_)
      rintro e w9 (⟨g2, gm2, eb2, rfl, _, hR2, _, hb9⟩ | ⟨c, rfl, hbd, _⟩)
      · have HR2 := Lib.hid hR2
        have HB9 := Lib.hid (Gen.over hb9 HB8.out)
        have HO9 := Lib.hid (Gen.own_keep HO8.out hb9)
        clear hR2 hb9 HO8 HB8
        go_wp2_with (fail)
        go_must (refine (all_any HR2.out (by omega)).mono ?_)
        rintro e w10 ⟨A10, c10, rfl, ho10, hb10⟩
        have HO10 := Lib.hid (Gen.own_keep HO9.out hb10)
        have HE10 := Lib.hid (els_own rfl ho10)
        have HR10 := Lib.hid (HR2.out.keep hb10)
        have HB10 := Lib.hid (Gen.over hb10 HB9.out)
        clear ho10 hb10 HO9 HR2 HB9
        go_wp2_with (fail)
        go_must (refine (same44_is A10 A8 L.length c10 c8 L w10 rfl HE10.out (els_own rfl HO10.out) (by omega)).mono ?_)
        rintro e w11 ⟨rfl, hb11⟩
        have HO11 := Lib.hid (Gen.own_keep HO10.out hb11)
        have HR11 := Lib.hid (HR10.out.keep hb11)
        have HB11 := Lib.hid (Gen.over hb11 HB10.out)
        clear hb11 HO10 HR10 HB10 HE10
        go_wp2
        go_loopw [13] (fun iv wr => ∃ j : Nat, j ≤ M.length ∧ iv = .int .i64 j ∧ Hid (Below w11.heap.size w11 wr)) (fun iv _ => M.length - (intOf iv).toNat)
        case atStart => exact ⟨0, Nat.zero_le _, rfl, Lib.hid (Below.refl _ _)⟩
        case round =>
          obtain ⟨j, hj, rfl, HB⟩ := hrel
          have j0 : (0 : Int) ≤ (j : Int) := by omega
          by_cases hlt : j < M.length
          · have hjI : (j : Int) < (M.length : Int) := by omega
            obtain ⟨y, hy⟩ : ∃ y, M[j]? = some y := ⟨_, List.getElem?_eq_getElem hlt⟩
            obtain ⟨b7, hA7, _, p0, p1, p2⟩ := own_three rfl (Gen.own_keep HS.out.o5 (Gen.over HB.out HB11.out)) hy
            subst hA7
            have HY := Lib.hid (HS.out.mm y (List.mem_of_getElem? hy))
            clear hy
            obtain ⟨yk, ys, ym⟩ := y
            dsimp only at p0 p1 p2
            go_wp2_with (fail)
            go_must (refine ((HR11.out.keep HB.out).valid HY.out.1 (b := true) ⟨fun _ => HY.out.2, fun _ => rfl⟩).mono ?_)
            rintro e wv ⟨rfl, hbv⟩
            have HV := Lib.hid (Gen.over hbv HB.out)
            clear hbv
            go_wp2
            go_roundw
            case rel => exact ⟨j + 1, by omega, by go_num, HV⟩
            case measure => simp [intOf]; omega
          · obtain ⟨W5, rfl⟩ : ∃ W : World, W = wr := ⟨_, rfl⟩
            have HBX := Lib.hid (Gen.over HB.out HB11.out)
            have HOX := Lib.hid (Gen.own_keep HO11.out HB.out)
            clear HB HB11 HO11 HR11
            by_cases hL0 : L = []
            · have hLz : L.length = 0 := by rw [hL0]; rfl
              have hLn : ¬ (0 : Int) < (L.length : Int) := by omega
              have hLm : ¬ 0 < L.length := by omega
              have HBZ := HBX
              have HOZ := HOX
              obtain ⟨WZ, rfl⟩ : ∃ W : World, W = W5 := ⟨_, rfl⟩
              clear hLz HBX HOX hL0
              go_wp2_with (fail)
              clear hLn hLm
              go_must (refine (copy_any (HS.out.r.keep HBZ.out) (by omega)).mono ?_)
              rintro e w20 ⟨g3, gm3, eb3, rfl, hl3, hb20, _⟩
              have hsz : W1.heap.size ≤ WZ.heap.size := HBZ.out.size
              have HL20 := Lib.hid hl3
              have HR20 := Lib.hid ((HS.out.r.keep HBZ.out).keep hb20)
              have HO20 := Lib.hid (Gen.own_keep HOZ.out hb20)
              have HB20 := Lib.hid (Gen.over hb20 (Gen.over HBZ.out HS.out.bl))
              clear hl3 hb20 HOZ
              go_wp2_with (fail)
              go_must (refine (all_l HL20.out (by omega)).mono ?_)
              rintro e w21 ⟨A21, c21, rfl, _, hb21⟩
              have HL21 := Lib.hid (HL20.out.keep hb21)
              have HR21 := Lib.hid (HR20.out.keep hb21)
              have HO21 := Lib.hid (Gen.own_keep HO20.out hb21)
              have HB21 := Lib.hid (Gen.over hb21 HB20.out)
              have hrs := HRS.out.keep HB21.out
              have q0 := hrs.cell 0
              have q1 := hrs.cell 1
              clear hb21 HL20 HR20 HO20 HB20 hrs
              go_wp2_with (fail)
              go_must (refine (sign_any (W0 := wS) HR21.out HOS.out (by omega) HB21.out HS.out.w0g).mono ?_)
              rintro e w22 ⟨m2, L2, ebr, rfl, hs2, hr22, he22, hB22, hs22, hk22⟩
              have hl2 := hs2.len
              have HL22 := Lib.hid (HL21.out.after HS.out.r hsz hk22)
              have HO22 := Lib.hid (own_after HO21.out HS.out.r (Nat.le_refl _) hk22)
              have HR22 := Lib.hid hr22
              have HE22 := Lib.hid he22
              have HB22 := Lib.hid hB22
              clear hs2 hr22 he22 hB22 hk22 HR21 HO21 HB21 q0 q1
              go_wp2_with (fail)
              go_must (refine (all_any HR22.out (by omega)).mono ?_)
              rintro e w23 ⟨A23, c23, rfl, ho23, hb23⟩
              have HN23 := Lib.hid ho23
              have HL23 := Lib.hid (HL22.out.keep hb23)
              have HO23 := Lib.hid (Gen.own_keep HO22.out hb23)
              have HR23 := Lib.hid (HR22.out.keep hb23)
              have HB23 := Lib.hid (Gen.over hb23 HB22.out)
              clear ho23 hb23 HL22 HO22 HR22 HB22
              go_wp2_with (fail)
              go_must (refine (all_l HL23.out (by omega)).mono ?_)
              rintro e w24 ⟨A24, c24, rfl, _, hb24⟩
              have HN24 := Lib.hid (Gen.own_keep HN23.out hb24)
              have HL24 := Lib.hid (HL23.out.keep hb24)
              have HO24 := Lib.hid (Gen.own_keep HO23.out hb24)
              have HR24 := Lib.hid (HR23.out.keep hb24)
              have HB24 := Lib.hid (Gen.over hb24 HB23.out)
              clear hb24 HN23 HL23 HO23 HR23 HB23
              go_wp2_with (fail)
              go_must (refine (all_l HL24.out (by omega)).mono ?_)
              rintro e w25 ⟨A25, c25, rfl, ho25, hb25⟩
              have HE25 := Lib.hid (els_own rfl ho25)
              have HN25 := Lib.hid (Gen.own_keep HN24.out hb25)
              have HL25 := Lib.hid (HL24.out.keep hb25)
              have HO25 := Lib.hid (Gen.own_keep HO24.out hb25)
              have HR25 := Lib.hid (HR24.out.keep hb25)
              have HB25 := Lib.hid (Gen.over hb25 HB24.out)
              clear ho25 hb25 HN24 HL24 HO24 HR24 HB24
              go_wp2_with (fail)
              go_must (refine (same44_is _ _ L.length c25 c8 L _ rfl HE25.out (els_own rfl HO25.out) (by omega)).mono ?_)
              rintro e w26 ⟨rfl, hb26⟩
              have HN26 := Lib.hid (Gen.own_keep HN25.out hb26)
              have HL26 := Lib.hid (HL25.out.keep hb26)
              have HR26 := Lib.hid (HR25.out.keep hb26)
              have HB26 := Lib.hid (Gen.over hb26 HB25.out)
              have hrs := HRS.out.keep HB26.out
              have q1 := hrs.cell 1
              have hws : wS.heap.size ≤ WZ.heap.size := (Gen.over HBZ.out HS.out.bl).size
              clear hb26 HN25 HL25 HO25 HR25 HB25 hrs HE25
              go_wp2_with (fail)
              go_must (refine (sign_l (W0 := wS) HL26.out (ok_x hm) (by omega) HB26.out hws).mono ?_)
              rintro e w27 ⟨m3, rfl, hB27, hs27, hk27⟩
              have HR27 := Lib.hid (Rg_before HR26.out HL21.out HS.out.r hsz HE22.out hk27)
              have HN27 := Lib.hid (own_behind HN26.out HL21.out hs22 hk27)
              have HB27 := Lib.hid hB27
              clear hB27 hs27 hk27 HR26 HN26 HB26 HL26 HL21 q1
              go_wp2_with (fail)
              go_must (refine (all_any HR27.out (by omega)).mono ?_)
              rintro e w28 ⟨A28, c28, rfl, ho28, hb28⟩
              have HE28 := Lib.hid (els_own rfl ho28)
              have HN28 := Lib.hid (Gen.own_keep HN27.out hb28)
              have HB28 := Lib.hid (Gen.over hb28 HB27.out)
              clear ho28 hb28 HR27 HN27 HB27
              go_wp2_with (fail)
              go_must (refine (same44_is _ _ L2.length c28 c23 L2 _ rfl HE28.out (els_own rfl HN28.out) (by omega)).mono ?_)
              rintro e w29 ⟨rfl, hb29⟩
              have HB29 := Lib.hid (Gen.over hb29 (Gen.over HB28.out HA.out))
              clear hb29
              go_wp2
              go_ret
              exact ⟨rfl, HB29.out⟩
            · skip
              obtain ⟨p, hp⟩ : ∃ p, L.length = p + 1 := ⟨L.length - 1, by have := List.length_pos_iff.2 hL0; omega⟩
              obtain ⟨x, hx⟩ := at_ L p (by omega)
              obtain ⟨x0, hx0⟩ := at_ L 0 (by omega)
              obtain ⟨b8, hA8, p0, p1⟩ := own_two rfl HOX.out hx
              subst hA8
              obtain ⟨b8', hA8', r0, r1⟩ := own_two rfl HOX.out hx0
              obtain rfl : b8 = b8' := by injection hA8' with e; injection e
              have HBD5 : Hid (Bad (L ++ [x]) 5) := Lib.hid (.inr ⟨fun y hy => by
                rcases List.mem_append.1 hy with hy | hy
                · exact HS.out.ky y hy
                · rw [List.mem_singleton.1 hy]; exact HS.out.ky x (mem_of_at hx), fun c => (List.nodup_append.1 c).2.2 x (mem_of_at hx) x (by simp) rfl, rfl⟩)
              have HBD1 : Hid (Bad (L ++ [x0, ((200 : Int), (⟨#[]⟩ : ByteArray))]) 1) := Lib.hid (.inl ⟨⟨((200 : Int), (⟨#[]⟩ : ByteArray)), by simp, by decide⟩, rfl⟩)
              have HOK5 : Hid (∀ y ∈ L ++ [x], okE y) := Lib.hid (fun y hy => by
                rcases List.mem_append.1 hy with hy | hy
                · exact HS.out.r.ok y hy
                · rw [List.mem_singleton.1 hy]; exact HS.out.r.ok x (mem_of_at hx))
              have HOK1 : Hid (∀ y ∈ L ++ [x0, ((200 : Int), (⟨#[]⟩ : ByteArray))], okE y) := Lib.hid (fun y hy => by
                rcases List.mem_append.1 hy with hy | hy
                · exact HS.out.r.ok y hy
                · simp at hy
                  rcases hy with rfl | rfl
                  · exact HS.out.r.ok _ (mem_of_at hx0)
                  · exact ⟨by decide, by decide⟩)
              have HRR : Hid (App.Reads W5 W5.heap.size 2 (some ⟨b8, 0, none⟩) (p + 1) (L.flatMap ecs)) := Lib.hid (by have := App.Reads.of_own HOX.out; rwa [hp] at this)
              have HP := Lib.hid hp
              have hpl : p ≤ 40 := by omega
              have hp0 : (0 : Int) ≤ (p : Int) := by omega
              have hp1 : (p : Int) ≤ 40 := by omega
              have hp2 : (p : Int) < ((p + 1 : Nat) : Int) := by omega
              have hp3 : (p : Int) < (p : Int) + 1 := by omega
              have hpw : IntKind.i64.wrap (p : Int) = (p : Int) := IntWalk.i64_in _ (by omega)
              rw [hp]
              obtain ⟨k, s⟩ := x
              obtain ⟨k0, s0⟩ := x0
              dsimp only at p0 p1 r0 r1
              rw [Nat.zero_mul] at r0 r1
              rw [Nat.zero_add] at r1
              clear hx hx0 hA8' hp
              have HSS : Hid (∀ W' : World, Below W5.heap.size W5 W' → Below W5.heap.size W5 W' ∧ W'.cell? ⟨b8, p * 2, none⟩ = some (.int .i64 k) ∧ W'.cell? ⟨b8, p * 2 + 1, none⟩ = some (.string s)) := Lib.hid fun W' hB => ⟨hB, Gen.keep hB p0, Gen.keep hB p1⟩
              go_upto_region 24 with (fail)
              go_cut [14, 15] (fun x f wx => x = .pointer none ∧ f = .int .i64 5 ∧ Below W5.heap.size W5 wx)
              case first =>
                go_region_held3 (fun W' : World => Below W5.heap.size W5 W' ∧ W'.cell? ⟨b8, p * 2, none⟩ = some (.int .i64 k) ∧ W'.cell? ⟨b8, p * 2 + 1, none⟩ = some (.string s))
                  (first | exact HSS.out _ (Below.refl _ _).drew | exact HSS.out _ (by assumption) | exact HSS.out _ (Gen.b_alloc (And.left (by assumption))) | exact HSS.out _ (Gen.over (by assumption) (And.left (by assumption))))
                  (first
                    | (refine App.step_append_any _ (by rfl) (.tmp 112) (.tmp 113) _ (by rfl) W5.heap.size 24 iE _ 2 24 Try.underlying22 hiE hzE hyE hxE rfl (by omega) (.slice (some ⟨_, 0, none⟩) 0 0) 0 [] rfl (own_empty (by first | exact Gen.rowAt _ _ _ (by simp) | exact (Gen.rowAt _ _ _ (by simp)).alloc _) (by omega)) W5.heap.size (some ⟨b8, 0, none⟩) (p + 1) c8 (L.flatMap ecs) rfl (HRR.out.below (And.left (by assumption))) (ecs_one L) (by simp only [maxLen]; omega) (by omega) (Below.size (And.left (by assumption))) ?_; intro v7 w7 ho7 hg7 ha7; rw [List.nil_append, Nat.zero_add] at ho7; have hBk := Below.grown (And.left (by assumption)) hg7 (Below.size (And.left (by assumption))) (fun q hq => by simp [Value.ownBlock] at hq <;> omega); obtain ⟨A7, c7, hv7, _⟩ := Gen.own_slice ho7; subst hv7)
                    | (refine App.step_append_any _ (by rfl) (.tmp 114) (.tmp 121) _ (by rfl) W5.heap.size 24 iE _ 2 24 Try.underlying22 hiE hzE hyE hxE rfl (by omega) (.slice A7 (p + 1) c7) (p + 1) (L.flatMap ecs) rfl (by first | exact ho7 | exact ho7.alloc _) _ (some ⟨_, 0, none⟩) 1 1 (ecs (k, s)) rfl (by first | exact reads_row (Gen.rowAt _ _ _ (by simp)) rfl | exact reads_row ((hg7.block _ (by simp only [World.size_alloc, World.size_drew]; omega) (fun e => by simp [Value.ownBlock] at e <;> omega)).trans (Gen.rowAt _ _ _ (by simp))) rfl | exact reads_row ((hg7.block _ (by simp only [World.size_alloc, World.size_drew]; omega) (fun e => by simp [Value.ownBlock] at e <;> omega)).trans ((Gen.rowAt _ _ _ (by simp)).alloc _)) rfl) (by simp [ecs, Value.oneCell']) (by simp only [maxLen]; omega) (by omega) (Below.size (And.left (by assumption))) ?_; intro v9 w9' ho9 hg9 ha9; have hBk2 := Below.grown (And.left (by assumption)) hg9 (Below.size (And.left (by assumption))) (fun q hq => (ho7.lt q hq).1); obtain ⟨A9, c9, hv9, _⟩ := Gen.own_slice ho9; subst hv9; have hE9 := els_own (l := L ++ [((k, s) : En)]) (n := p + 1 + 1) (by simp [HP.out]) (by rw [List.flatMap_append]; exact ho9))
                    | (go_at_call 13; refine (sopen_bad (l := L ++ [((k, s) : En)]) (c := 5) (by simp [HP.out]) hE9 HOK5.out (by omega) HBD5.out).mono ?_; rintro e' w' ⟨rfl, hBo⟩))
                all_goals
                  go_wp2
                  go_meet
                  exact ⟨rfl, rfl, And.left (by assumption)⟩
              case rest =>
                obtain ⟨rfl, rfl, hb24⟩ := hcut
                obtain ⟨W6, rfl⟩ : ∃ W : World, W = wc := ⟨_, rfl⟩
                have y0 := Gen.keep hb24 r0
                have y1 := Gen.keep hb24 r1
                have HBY := Lib.hid (Gen.over hb24 HBX.out)
                have HOY := Lib.hid (Gen.own_keep HOX.out hb24)
                replace HRR : Hid (App.Reads W6 W6.heap.size 2 (some ⟨b8, 0, none⟩) (p + 1) (L.flatMap ecs)) := Lib.hid (by have := App.Reads.of_own HOY.out; rwa [HP.out] at this)
                clear HSS hb24 p0 p1 r0 r1 HBX HOX
                have HSS : Hid (∀ W' : World, Below W6.heap.size W6 W' → Below W6.heap.size W6 W' ∧ W'.cell? ⟨b8, 0, none⟩ = some (.int .i64 k0) ∧ W'.cell? ⟨b8, 1, none⟩ = some (.string s0)) := Lib.hid fun W' hB => ⟨hB, Gen.keep hB y0, Gen.keep hB y1⟩
                go_upto_region 25 with (fail)
                go_cut [16, 17] (fun x f wx => x = .pointer none ∧ f = .int .i64 1 ∧ Below W6.heap.size W6 wx)
                case first =>
                  go_region_held3 (fun W' : World => Below W6.heap.size W6 W' ∧ W'.cell? ⟨b8, 0, none⟩ = some (.int .i64 k0) ∧ W'.cell? ⟨b8, 1, none⟩ = some (.string s0))
                    (first | exact HSS.out _ (Below.refl _ _).drew | exact HSS.out _ (by assumption) | exact HSS.out _ (Gen.b_alloc (And.left (by assumption))) | exact HSS.out _ (Gen.over (by assumption) (And.left (by assumption))))
                    (first
                      | (refine App.step_append_any _ (by rfl) (.tmp 127) (.tmp 128) _ (by rfl) W6.heap.size 24 iE _ 2 24 Try.underlying22 hiE hzE hyE hxE rfl (by omega) (.slice (some ⟨_, 0, none⟩) 0 0) 0 [] rfl (own_empty (by first | exact Gen.rowAt _ _ _ (by simp) | exact (Gen.rowAt _ _ _ (by simp)).alloc _) (by omega)) W6.heap.size (some ⟨b8, 0, none⟩) (p + 1) c8 (L.flatMap ecs) rfl (HRR.out.below (And.left (by assumption))) (ecs_one L) (by simp only [maxLen]; omega) (by omega) (Below.size (And.left (by assumption))) ?_; intro v7 w7 ho7 hg7 ha7; rw [List.nil_append, Nat.zero_add] at ho7; have hBk := Below.grown (And.left (by assumption)) hg7 (Below.size (And.left (by assumption))) (fun q hq => by simp [Value.ownBlock] at hq <;> omega); obtain ⟨A7, c7, hv7, _⟩ := Gen.own_slice ho7; subst hv7)
                      | (refine App.step_append_any _ (by rfl) (.tmp 129) (.tmp 134) _ (by rfl) W6.heap.size 24 iE _ 2 24 Try.underlying22 hiE hzE hyE hxE rfl (by omega) (.slice A7 (p + 1) c7) (p + 1) (L.flatMap ecs) rfl (by first | exact ho7 | exact ho7.alloc _) _ (some ⟨_, 0, none⟩) 2 2 (ecs (k0, s0)++ecs ((200 : Int), (⟨#[]⟩ : ByteArray))) rfl (by first | exact reads_row (Gen.rowAt _ _ _ (by simp)) rfl | exact reads_row ((hg7.block _ (by simp only [World.size_alloc, World.size_drew]; omega) (fun e => by simp [Value.ownBlock] at e <;> omega)).trans (Gen.rowAt _ _ _ (by simp))) rfl | exact reads_row ((hg7.block _ (by simp only [World.size_alloc, World.size_drew]; omega) (fun e => by simp [Value.ownBlock] at e <;> omega)).trans ((Gen.rowAt _ _ _ (by simp)).alloc _)) rfl) (by simp [ecs, Value.oneCell']) (by simp only [maxLen]; omega) (by omega) (Below.size (And.left (by assumption))) ?_; intro v9 w9' ho9 hg9 ha9; have hBk2 := Below.grown (And.left (by assumption)) hg9 (Below.size (And.left (by assumption))) (fun q hq => (ho7.lt q hq).1); obtain ⟨A9, c9, hv9, _⟩ := Gen.own_slice ho9; subst hv9; have hE9 := els_own (l := L ++ [((k0, s0) : En), (((200 : Int), (⟨#[]⟩ : ByteArray)) : En)]) (n := p + 1 + 2) (by simp [HP.out]) (by rw [List.flatMap_append]; exact ho9))
                      | (go_at_call 13; refine (sopen_bad (l := L ++ [((k0, s0) : En), (((200 : Int), (⟨#[]⟩ : ByteArray)) : En)]) (c := 1) (by simp [HP.out]) hE9 HOK1.out (by omega) HBD1.out).mono ?_; rintro e' w' ⟨rfl, hBo⟩))
                  all_goals
                    go_wp2
                    go_meet
                    exact ⟨rfl, rfl, And.left (by assumption)⟩
                case rest =>
                  obtain ⟨rfl, rfl, hb25⟩ := hcut
                  obtain ⟨W7, rfl⟩ : ∃ W : World, W = wc := ⟨_, rfl⟩
                  have HBZ := Lib.hid (Gen.over hb25 HBY.out)
                  have HOZ := Lib.hid (Gen.own_keep HOY.out hb25)
                  clear HSS hb25 y0 y1 HBY HOY HRR
                  obtain ⟨WZ, rfl⟩ : ∃ W : World, W = W7 := ⟨_, rfl⟩
                  rw [← HP.out]
                  go_wp2_with (fail)
                  go_must (refine (copy_any (HS.out.r.keep HBZ.out) (by omega)).mono ?_)
                  rintro e w20 ⟨g3, gm3, eb3, rfl, hl3, hb20, _⟩
                  have hsz : W1.heap.size ≤ WZ.heap.size := HBZ.out.size
                  have HL20 := Lib.hid hl3
                  have HR20 := Lib.hid ((HS.out.r.keep HBZ.out).keep hb20)
                  have HO20 := Lib.hid (Gen.own_keep HOZ.out hb20)
                  have HB20 := Lib.hid (Gen.over hb20 (Gen.over HBZ.out HS.out.bl))
                  clear hl3 hb20 HOZ
                  go_wp2_with (fail)
                  go_must (refine (all_l HL20.out (by omega)).mono ?_)
                  rintro e w21 ⟨A21, c21, rfl, _, hb21⟩
                  have HL21 := Lib.hid (HL20.out.keep hb21)
                  have HR21 := Lib.hid (HR20.out.keep hb21)
                  have HO21 := Lib.hid (Gen.own_keep HO20.out hb21)
                  have HB21 := Lib.hid (Gen.over hb21 HB20.out)
                  have hrs := HRS.out.keep HB21.out
                  have q0 := hrs.cell 0
                  have q1 := hrs.cell 1
                  clear hb21 HL20 HR20 HO20 HB20 hrs
                  go_wp2_with (fail)
                  go_must (refine (sign_any (W0 := wS) HR21.out HOS.out (by omega) HB21.out HS.out.w0g).mono ?_)
                  rintro e w22 ⟨m2, L2, ebr, rfl, hs2, hr22, he22, hB22, hs22, hk22⟩
                  have hl2 := hs2.len
                  have HL22 := Lib.hid (HL21.out.after HS.out.r hsz hk22)
                  have HO22 := Lib.hid (own_after HO21.out HS.out.r (Nat.le_refl _) hk22)
                  have HR22 := Lib.hid hr22
                  have HE22 := Lib.hid he22
                  have HB22 := Lib.hid hB22
                  clear hs2 hr22 he22 hB22 hk22 HR21 HO21 HB21 q0 q1
                  go_wp2_with (fail)
                  go_must (refine (all_any HR22.out (by omega)).mono ?_)
                  rintro e w23 ⟨A23, c23, rfl, ho23, hb23⟩
                  have HN23 := Lib.hid ho23
                  have HL23 := Lib.hid (HL22.out.keep hb23)
                  have HO23 := Lib.hid (Gen.own_keep HO22.out hb23)
                  have HR23 := Lib.hid (HR22.out.keep hb23)
                  have HB23 := Lib.hid (Gen.over hb23 HB22.out)
                  clear ho23 hb23 HL22 HO22 HR22 HB22
                  go_wp2_with (fail)
                  go_must (refine (all_l HL23.out (by omega)).mono ?_)
                  rintro e w24 ⟨A24, c24, rfl, _, hb24⟩
                  have HN24 := Lib.hid (Gen.own_keep HN23.out hb24)
                  have HL24 := Lib.hid (HL23.out.keep hb24)
                  have HO24 := Lib.hid (Gen.own_keep HO23.out hb24)
                  have HR24 := Lib.hid (HR23.out.keep hb24)
                  have HB24 := Lib.hid (Gen.over hb24 HB23.out)
                  clear hb24 HN23 HL23 HO23 HR23 HB23
                  go_wp2_with (fail)
                  go_must (refine (all_l HL24.out (by omega)).mono ?_)
                  rintro e w25 ⟨A25, c25, rfl, ho25, hb25⟩
                  have HE25 := Lib.hid (els_own rfl ho25)
                  have HN25 := Lib.hid (Gen.own_keep HN24.out hb25)
                  have HL25 := Lib.hid (HL24.out.keep hb25)
                  have HO25 := Lib.hid (Gen.own_keep HO24.out hb25)
                  have HR25 := Lib.hid (HR24.out.keep hb25)
                  have HB25 := Lib.hid (Gen.over hb25 HB24.out)
                  clear ho25 hb25 HN24 HL24 HO24 HR24 HB24
                  go_wp2_with (fail)
                  go_must (refine (same44_is _ _ L.length c25 c8 L _ rfl HE25.out (els_own rfl HO25.out) (by omega)).mono ?_)
                  rintro e w26 ⟨rfl, hb26⟩
                  have HN26 := Lib.hid (Gen.own_keep HN25.out hb26)
                  have HL26 := Lib.hid (HL25.out.keep hb26)
                  have HR26 := Lib.hid (HR25.out.keep hb26)
                  have HB26 := Lib.hid (Gen.over hb26 HB25.out)
                  have hrs := HRS.out.keep HB26.out
                  have q1 := hrs.cell 1
                  have hws : wS.heap.size ≤ WZ.heap.size := (Gen.over HBZ.out HS.out.bl).size
                  clear hb26 HN25 HL25 HO25 HR25 HB25 hrs HE25
                  go_wp2_with (fail)
                  go_must (refine (sign_l (W0 := wS) HL26.out (ok_x hm) (by omega) HB26.out hws).mono ?_)
                  rintro e w27 ⟨m3, rfl, hB27, hs27, hk27⟩
                  have HR27 := Lib.hid (Rg_before HR26.out HL21.out HS.out.r hsz HE22.out hk27)
                  have HN27 := Lib.hid (own_behind HN26.out HL21.out hs22 hk27)
                  have HB27 := Lib.hid hB27
                  clear hB27 hs27 hk27 HR26 HN26 HB26 HL26 HL21 q1
                  go_wp2_with (fail)
                  go_must (refine (all_any HR27.out (by omega)).mono ?_)
                  rintro e w28 ⟨A28, c28, rfl, ho28, hb28⟩
                  have HE28 := Lib.hid (els_own rfl ho28)
                  have HN28 := Lib.hid (Gen.own_keep HN27.out hb28)
                  have HB28 := Lib.hid (Gen.over hb28 HB27.out)
                  clear ho28 hb28 HR27 HN27 HB27
                  go_wp2_with (fail)
                  go_must (refine (same44_is _ _ L2.length c28 c23 L2 _ rfl HE28.out (els_own rfl HN28.out) (by omega)).mono ?_)
                  rintro e w29 ⟨rfl, hb29⟩
                  have HB29 := Lib.hid (Gen.over hb29 (Gen.over HB28.out HA.out))
                  clear hb29
                  go_wp2
                  go_ret
                  exact ⟨rfl, HB29.out⟩
      · exact (hbd.not' HS.out.ky HS.out.r.nd).elim
theorem slo_any (w : World) (hn : l.length = n) (hc : Els w A l) (hbig : n ≤ 9223372036854775807) (hok : ∀ x ∈ l, okE x) (hs : okE (mk, ms)) :
    Calls Try.prog 3 #[.slice A n cap, .agg #[.int .i64 mk, .string ms]] w fun e w' => e = .returned (.bool true) ∧ Below w.heap.size w w' := by
  cases hf : few44 l
  · exact slo_a w hn hc hbig hf
  · by_cases hm : ms.size ≤ 500
    · exact slo_b w hn hc hok hs hf hm
    · exact slo_c w hn hc hbig hf (by omega)
end
end Go.Proofs.Ytblegaclcpoonab.Seal
