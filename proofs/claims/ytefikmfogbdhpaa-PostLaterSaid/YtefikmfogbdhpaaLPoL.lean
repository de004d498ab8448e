/- PostLater returns true: every list, every number; no condition. -/
import Derived.Test.YtefikmfogbdhpaaPoK
import Derived.Test.YtefikmfogbdhpaaPoT
import Derived.Deep.DeepCutAuto
namespace Go.Proofs.Ytefikmfogbdhpaa.Po
open Go.ChangeShapes Go.WideShapes Go.ChangeAt Go.RowKit Go.Proofs.Ytefikmfogbdhpaa.Cell
set_option linter.unusedVariables false
set_option linter.unusedSimpArgs false
theorem k6 {v W W1 : World} {g h : Nat} {a b d a' b' d' : Value} (H : Below v.heap.size v W ∧ W.cell? ⟨g, 0, none⟩ = some a ∧ W.cell? ⟨g, 1, none⟩ = some b ∧ W.cell? ⟨g, 2, none⟩ = some d ∧ W.cell? ⟨h, 0, none⟩ = some a' ∧ W.cell? ⟨h, 1, none⟩ = some b' ∧ W.cell? ⟨h, 2, none⟩ = some d') (hb : Below W.heap.size W W1) : Below v.heap.size v W1 ∧ W1.cell? ⟨g, 0, none⟩ = some a ∧ W1.cell? ⟨g, 1, none⟩ = some b ∧ W1.cell? ⟨g, 2, none⟩ = some d ∧ W1.cell? ⟨h, 0, none⟩ = some a' ∧ W1.cell? ⟨h, 1, none⟩ = some b' ∧ W1.cell? ⟨h, 2, none⟩ = some d' := by
  obtain ⟨h0, h1, h2, h3, h4, h5, h6⟩ := H
  exact ⟨Gen.over hb h0, Gen.keep hb h1, Gen.keep hb h2, Gen.keep hb h3, Gen.keep hb h4, Gen.keep hb h5, Gen.keep hb h6⟩
section
variable {A0 A1 A3 : Option Addr} {n l mm c0 c1 c3 : Nat} {S M : List En} {ns : List Int}
set_option maxRecDepth 100000 in
set_option maxHeartbeats 8000000 in
theorem later_1 (w : World) (hn : n ≤ 9223372036854775807) (hl : l ≤ 9223372036854775807) (hm : mm ≤ 9223372036854775807) (h1 : 30 < n) :
    Calls Try.prog 6 #[.slice A0 n c0, .slice A1 l c1, .slice A3 mm c3] w fun e w' => e = .returned (.bool true) ∧ Below w.heap.size w w' := by
  have g1 : (30 : Int) < (n : Int) := by omega
  go_enter Try.func6, Try.ntmps6
  go_wp2_with (fail)
  go_must (refine (small43 _).mono ?_)
  rintro e w1 ⟨rfl, hb1⟩
  go_wp2
  go_ret
  exact ⟨rfl, hb1⟩
set_option maxRecDepth 100000 in
set_option maxHeartbeats 8000000 in
theorem later_2 (w : World) (hn : n ≤ 9223372036854775807) (hl : l ≤ 9223372036854775807) (hm : mm ≤ 9223372036854775807) (h1 : n ≤ 30) (h2 : 30 < l) :
    Calls Try.prog 6 #[.slice A0 n c0, .slice A1 l c1, .slice A3 mm c3] w fun e w' => e = .returned (.bool true) ∧ Below w.heap.size w w' := by
  have g1 : ¬ (30 : Int) < (n : Int) := by omega
  have g2 : (30 : Int) < (l : Int) := by omega
  go_enter Try.func6, Try.ntmps6
  go_wp2_with (fail)
  go_must (refine (small43 _).mono ?_)
  rintro e w1 ⟨rfl, hb1⟩
  go_wp2
  go_ret
  exact ⟨rfl, hb1⟩
set_option maxRecDepth 100000 in
set_option maxHeartbeats 8000000 in
theorem later_3 (w : World) (hn : n ≤ 9223372036854775807) (hl : l ≤ 9223372036854775807) (hm : mm ≤ 9223372036854775807) (h1 : n ≤ 30) (h2 : l ≤ 30) (h3 : 10 < mm) :
    Calls Try.prog 6 #[.slice A0 n c0, .slice A1 l c1, .slice A3 mm c3] w fun e w' => e = .returned (.bool true) ∧ Below w.heap.size w w' := by
  have g1 : ¬ (30 : Int) < (n : Int) := by omega
  have g2 : ¬ (30 : Int) < (l : Int) := by omega
  have g3 : (10 : Int) < (mm : Int) := by omega
  go_enter Try.func6, Try.ntmps6
  go_wp2_with (fail)
  go_must (refine (small43 _).mono ?_)
  rintro e w1 ⟨rfl, hb1⟩
  go_wp2
  go_ret
  exact ⟨rfl, hb1⟩
set_option maxRecDepth 100000 in
set_option maxHeartbeats 16000000 in
theorem later_b (w : World) (hS : S.length = n) (hM : M.length = mm) (hN : ns.length = l) (hES : Ens w A0 S) (hEM : Ens w A3 M) (hI : Ints w A1 ns) (hc : n ≤ c0) (h1 : n ≤ 30) (h2 : l ≤ 30) (h3 : mm ≤ 10) :
    Calls Try.prog 6 #[.slice A0 n c0, .slice A1 l c1, .slice A3 mm c3] w fun e w' => e = .returned (.bool true) ∧ Below w.heap.size w w' := by
  have g1 : ¬ (30 : Int) < (n : Int) := by omega
  have g2 : ¬ (30 : Int) < (l : Int) := by omega
  have g3 : ¬ (10 : Int) < (mm : Int) := by omega
  have HS := Lib.hid hS
  have HM := Lib.hid hM
  have HN := Lib.hid hN
  have HES := Lib.hid hES
  have HEM := Lib.hid hEM
  have HI := Lib.hid hI
  obtain ⟨i0, hi0, hz0, hz1, hz2⟩ := info_parts' infoE
  clear hS hM hN hES hEM hI
  go_enter Try.func6, Try.ntmps6
  go_wp2_with (fail)
  go_must (refine (small43 _).mono ?_)
  rintro e w1 ⟨rfl, hb1⟩
  have HB1 := Lib.hid hb1
  clear hb1
  go_upto_region 5 with (fail)
  have HX : Hid (Below w.heap.size w ((w1.alloc (.cells #[.slice A0 n c0, .int .i64 0, .slice none 0 0] 27)).alloc (.cells #[] 36))) := Lib.hid (Gen.b_alloc (Gen.b_alloc HB1.out))
  have HRX : Hid (Row ((w1.alloc (.cells #[.slice A0 n c0, .int .i64 0, .slice none 0 0] 27)).alloc (.cells #[] 36)) w1.heap.size 27 #[.slice A0 n c0, .int .i64 0, .slice none 0 0]) := Lib.hid ((Row.new _ _ _).alloc _)
  have HOX : Hid (((w1.alloc (.cells #[.slice A0 n c0, .int .i64 0, .slice none 0 0] 27)).alloc (.cells #[] 36)).ownsRow (w1.heap.size + 1) 36 5 (.slice (some ⟨w1.heap.size + 1, 0, none⟩) 0 0) 0 []) := Lib.hid (by have := own_made (w := w1.alloc (.cells #[.slice A0 n c0, .int .i64 0, .slice none 0 0] 27)) 36 5; simpa using this)
  go_upto_region 6 with (first
    | (have _g := HO5
       at_builtin
       go_must (refine App.wpList_append_any _ rfl (.tmp 37) (.tmp 38) _ rfl (w1.heap.size + 1) 36 i0 _ 5 40 Try.underlying22 hi0 hz0 hz1 hz2 rfl (by omega) (.slice A5 n c5) n (S.flatMap ecs) rfl HO5.out _ A3 mm c3 (M.flatMap ecs) rfl (ens_reads HM.out (HEM.out.keep HB5.out)) (ecs_one _) (by simp only [maxLen]; omega) (by omega) (by have := HZ5.out; simp at this; omega) ?_
                intro v6 w6 hown6 hg6 hat6
                obtain ⟨A6, c6, rfl, _⟩ := Gen.own_slice hown6
                have HO6 := Lib.hid hown6
                have HR6 := Lib.hid (Gen.g_row (g := w1.heap.size) HO5.out hg6 (by omega) HR5.out)
                have HB6 := Lib.hid (Gen.g_below HO5.out hg6 HB5.out (by have := HB1.out.size; omega))
                have HZ6 := Lib.hid hg6.size
                clear hown6 hg6 hat6))
    | (at_builtin
       go_must (refine App.wpList_append_any _ rfl (.tmp 35) (.tmp 36) _ rfl (w1.heap.size + 1) 36 i0 _ 5 40 Try.underlying22 hi0 hz0 hz1 hz2 rfl (by omega) (.slice (some ⟨w1.heap.size + 1, 0, none⟩) 0 0) 0 [] rfl HOX.out _ A0 n c0 (S.flatMap ecs) rfl (ens_reads HS.out (HES.out.keep HX.out)) (ecs_one _) (by simp only [maxLen]; omega) (by omega) (by simp) ?_
                intro v5 w5 hown5 hg5 hat5
                rw [Nat.zero_add, List.nil_append] at hown5
                obtain ⟨A5, c5, rfl, _⟩ := Gen.own_slice hown5
                have HO5 := Lib.hid hown5
                have HR5 := Lib.hid (Gen.g_row (g := w1.heap.size) HOX.out hg5 (by omega) HRX.out)
                have HB5 := Lib.hid (Gen.g_below HOX.out hg5 HX.out (by have := HB1.out.size; omega))
                have HZ5 := Lib.hid hg5.size
                clear hown5 hg5 hat5))
    | fail)
  have hcap := own_cap HO6.out
  have HW6 := Lib.hid (Wq.start (W := w6) (A := A6) (c := c6) (S := S ++ M) (show (S ++ M).length = n + mm by rw [List.length_append, HS.out, HM.out]) (ens_own (by rw [List.length_append, HS.out, HM.out]) (by rw [List.flatMap_append]; exact HO6.out)) (by omega) hcap)
  have HLO := Lib.hid (show Ll w (w6.alloc (.cells #[.slice A6 (n + mm) c6, .int .i64 0, .slice none 0 0] 27)) w1.heap.size w6.heap.size A0 n c0 0 none 0 0 A6 mm c6 none 0 S M (fa n) from ⟨Wq.start HS.out (HES.out.keep (Gen.b_alloc HB6.out)) (by omega) hc, by
    have h := HW6.out.keep (Gen.b_alloc (x := .cells #[.slice A6 (n + mm) c6, .int .i64 0, .slice none 0 0] 27) (Below.refl _ _))
    have : fa (n + mm) = fa n ++ fa mm := by unfold fa; rw [List.replicate_append_replicate]
    rwa [this] at h, HR6.out.alloc _, Row.new _ _ _, HR6.out.lt, Gen.b_alloc HB6.out, HB1.out.size⟩)
  clear HW6 HO6 HR6 HZ6 HB6 HO5 HR5 HB5 HZ5 HX HRX HOX
  go_wp2
  go_loopw [10, 11] (fun nv iv wr => ∃ (k : Nat) (A : Option Addr) (c q : Nat) (A2 : Option Addr) (n2 c2 : Nat) (B : Option Addr) (cb : Nat) (B2 : Option Addr) (d2 : Nat) (H : List Bool), k ≤ l ∧ iv = .int .i64 k ∧ nv = .int .i64 q ∧ Hid (Ll w wr w1.heap.size w6.heap.size A n c q A2 n2 c2 B mm cb B2 d2 S M H)) (fun _ iv _ => l - (intOf iv).toNat)
  case atStart => exact ⟨0, A0, c0, 0, none, 0, 0, A6, c6, none, 0, fa n, Nat.zero_le _, rfl, rfl, HLO⟩
  case round =>
    clear HLO
    obtain ⟨k, A, c, q, A2, n2, c2, B, cb, B2, d2, H, hk, rfl, rfl, HL⟩ := hrel
    have k0 : (0 : Int) ≤ (k : Int) := by omega
    by_cases hlt : k < l
    · have hltI : (k : Int) < (l : Int) := by omega
      obtain ⟨nu, hnu⟩ := at_ ns k (by rw [HN.out]; exact hlt)
      obtain ⟨b1, off1, hA1, hcell⟩ := (HI.out.keep HL.out.bl) (by rw [HN.out]; omega)
      subst hA1
      have a0 := hcell k nu hnu
      clear hcell hnu
      by_cases hbig : (n : Int) ≤ nu
      · go_wp2
        go_roundw
        case rel => exact ⟨k + 1, A, c, q, A2, n2, c2, B, cb, B2, d2, H, by omega, by go_num, by go_num, HL⟩
        case measure => simp [intOf]; omega
      · go_upto_region 11 with (fail)
        have hbad : nu < 0 ∨ (∃ p : Nat, nu = p ∧ H[p]? = some true) ∨ ∃ p : Nat, nu = p ∧ H[p]? = some false := by
          by_cases h1 : nu < 0
          · exact .inl h1
          · obtain ⟨p, rfl⟩ := Int.eq_ofNat_of_zero_le (show 0 ≤ nu by omega)
            rcases get_of_nx (H := H) (j := p) (by rw [HL.out.wa.hl]; omega) with h | h
            · exact .inr (.inl ⟨p, rfl, h⟩)
            · exact .inr (.inr ⟨p, rfl, h⟩)
        rcases hbad with hbad | ⟨p, rfl, hp⟩ | ⟨p, rfl, hp⟩
        · have HBAD := Lib.hid hbad
          clear hbad
          have HS0 : Hid (Below wr.heap.size wr wr ∧ wr.cell? ⟨w1.heap.size, 0, none⟩ = some (.slice A n c) ∧ wr.cell? ⟨w1.heap.size, 1, none⟩ = some (.int .i64 (q : Int)) ∧ wr.cell? ⟨w1.heap.size, 2, none⟩ = some (.slice A2 n2 c2) ∧ wr.cell? ⟨b1, off1 + k, none⟩ = some (.int .i64 nu)) := Lib.hid ⟨Below.refl _ _, HL.out.ra.cell 0, HL.out.ra.cell 1, HL.out.ra.cell 2, a0⟩
          have HBL := Lib.hid (World.block_lt_of_cell? wr _ a0)
          have HG := Lib.hid HL.out.ra.lt
          have HCN := Lib.hid a0
          clear a0
          go_cut [13, 14] (fun lv ev wx => lv = .slice none 0 0 ∧ ev = .int .i64 4 ∧ Hid (Below wr.heap.size wr wx))
          case first =>
            go_region_held3 (fun W' : World => Below wr.heap.size wr W' ∧ W'.cell? ⟨w1.heap.size, 0, none⟩ = some (.slice A n c) ∧ W'.cell? ⟨w1.heap.size, 1, none⟩ = some (.int .i64 (q : Int)) ∧ W'.cell? ⟨w1.heap.size, 2, none⟩ = some (.slice A2 n2 c2) ∧ W'.cell? ⟨b1, off1 + k, none⟩ = some (.int .i64 nu))
              (first | with_reducible exact hS1 | with_reducible exact ky_set (by assumption) (by first | exact Nat.le_refl _ | exact hS1.1.size) HG.out HBL.out | exact ⟨HS0.out.1.drew, HS0.out.2⟩ | exact ky (by assumption) (Gen.b_alloc (Below.refl _ _)) | fail "keep")
              (first
                | (go_at_call 11; (with_reducible refine (wq_none (HL.out.wa.keep (And.left (by assumption))) (.inl HBAD.out)).mono ?_); rintro e' w' ⟨rfl, hb⟩; have hS1 := (show Below wr.heap.size wr w' ∧ w'.cell? ⟨w1.heap.size, 0, none⟩ = some (.slice A n c) ∧ w'.cell? ⟨w1.heap.size, 1, none⟩ = some (.int .i64 (q : Int)) ∧ w'.cell? ⟨w1.heap.size, 2, none⟩ = some (.slice A2 n2 c2) ∧ w'.cell? ⟨b1, off1 + k, none⟩ = some (.int .i64 nu) from ky (by assumption) hb); (first | have hRw := (show Row _ _ 27 #[.slice none 0 0, .int .i64 0, .slice none 0 0] from Row.new _ _ _).keep hb | have hRw := (show Row _ _ 27 #[.slice none 0 0, .int .i64 0, .slice none 0 0] from rowd _ _ _).keep hb | skip); (try have cz0 := hRw.cell 0); (try have cz1 := hRw.cell 1); (try have cz2 := hRw.cell 2); (try have fz0 := hRw.frozen 0); (try have fz1 := hRw.frozen 1); (try have fz2 := hRw.frozen 2); (try have hRl := hRw.lt))
                | fail "arm")
            all_goals
              go_wp2
              go_meet
              first
                | exact ⟨rfl, rfl, Lib.hid (Gen.b_alloc hS1.1)⟩
                | exact ⟨rfl, rfl, Lib.hid (below_set3 hS1.1 (Nat.le_refl _))⟩
          case rest =>
          obtain ⟨rfl, rfl, HB8⟩ := hcut
          obtain ⟨wx, rfl⟩ : ∃ wx, wx = wc := ⟨_, rfl⟩
          have HL8 := Lib.hid (HL.out.keep HB8.out)
          have HC8 := Lib.hid (Gen.keep HB8.out HCN.out)
          clear HL HCN HS0 HBL HG HB8
          have HS0 : Hid (Below wx.heap.size wx wx ∧ wx.cell? ⟨w6.heap.size, 0, none⟩ = some (.slice B (n + mm) cb) ∧ wx.cell? ⟨w6.heap.size, 1, none⟩ = some (.int .i64 (q : Int)) ∧ wx.cell? ⟨w6.heap.size, 2, none⟩ = some (.slice B2 n2 d2) ∧ wx.cell? ⟨b1, off1 + k, none⟩ = some (.int .i64 nu)) := Lib.hid ⟨Below.refl _ _, HL8.out.rb.cell 0, HL8.out.rb.cell 1, HL8.out.rb.cell 2, HC8.out⟩
          have HBL := Lib.hid (World.block_lt_of_cell? wx _ HC8.out)
          have HG := Lib.hid HL8.out.rb.lt
          go_upto_region 12 with (fail)
          go_cut [16, 17] (fun lv ev wy => lv = .slice none 0 0 ∧ ev = .int .i64 4 ∧ Hid (Below wx.heap.size wx wy))
          case first =>
            go_region_held3 (fun W' : World => Below wx.heap.size wx W' ∧ W'.cell? ⟨w6.heap.size, 0, none⟩ = some (.slice B (n + mm) cb) ∧ W'.cell? ⟨w6.heap.size, 1, none⟩ = some (.int .i64 (q : Int)) ∧ W'.cell? ⟨w6.heap.size, 2, none⟩ = some (.slice B2 n2 d2) ∧ W'.cell? ⟨b1, off1 + k, none⟩ = some (.int .i64 nu))
              (first | with_reducible exact hS1 | with_reducible exact ky_set (by assumption) (by first | exact Nat.le_refl _ | exact hS1.1.size) HG.out HBL.out | exact ⟨HS0.out.1.drew, HS0.out.2⟩ | exact ky (by assumption) (Gen.b_alloc (Below.refl _ _)) | fail "keep")
              (first
                | (go_at_call 11; (with_reducible refine (wq_none (HL8.out.wb.keep (And.left (by assumption))) (.inl HBAD.out)).mono ?_); rintro e' w' ⟨rfl, hb⟩; have hS1 := (show Below wx.heap.size wx w' ∧ w'.cell? ⟨w6.heap.size, 0, none⟩ = some (.slice B (n + mm) cb) ∧ w'.cell? ⟨w6.heap.size, 1, none⟩ = some (.int .i64 (q : Int)) ∧ w'.cell? ⟨w6.heap.size, 2, none⟩ = some (.slice B2 n2 d2) ∧ w'.cell? ⟨b1, off1 + k, none⟩ = some (.int .i64 nu) from ky (by assumption) hb); (first | have hRw := (show Row _ _ 27 #[.slice none 0 0, .int .i64 0, .slice none 0 0] from Row.new _ _ _).keep hb | have hRw := (show Row _ _ 27 #[.slice none 0 0, .int .i64 0, .slice none 0 0] from rowd _ _ _).keep hb | skip); (try have cz0 := hRw.cell 0); (try have cz1 := hRw.cell 1); (try have cz2 := hRw.cell 2); (try have fz0 := hRw.frozen 0); (try have fz1 := hRw.frozen 1); (try have fz2 := hRw.frozen 2); (try have hRl := hRw.lt))
                | fail "arm")
            all_goals
              go_wp2
              go_meet
              first
                | exact ⟨rfl, rfl, Lib.hid (Gen.b_alloc hS1.1)⟩
                | exact ⟨rfl, rfl, Lib.hid (below_set3 hS1.1 (Nat.le_refl _))⟩
          case rest =>
          obtain ⟨rfl, rfl, HB9⟩ := hcut
          have HL9 := Lib.hid (HL8.out.keep HB9.out)
          have hqn := HL9.out.qn
          clear HL8 HC8 HS0 HBL HG HB9
          go_wp2_with (fail)
          go_must (refine (same_eq (n := 0) (l := []) _ rfl ens_nil ens_nil (by decide)).mono ?_)
          rintro e w9 ⟨rfl, hb9⟩
          have HLX := Lib.hid (HL9.out.keep hb9)
          clear hb9 HL9
          go_wp2
          go_roundw
          case rel => exact ⟨k + 1, A, c, q, A2, n2, c2, B, cb, B2, d2, H, by omega, by go_num, by go_num, HLX⟩
          case measure => simp [intOf]; omega
        · have HP := Lib.hid hp
          clear hp
          have HS0 : Hid (Below wr.heap.size wr wr ∧ wr.cell? ⟨w1.heap.size, 0, none⟩ = some (.slice A n c) ∧ wr.cell? ⟨w1.heap.size, 1, none⟩ = some (.int .i64 (q : Int)) ∧ wr.cell? ⟨w1.heap.size, 2, none⟩ = some (.slice A2 n2 c2) ∧ wr.cell? ⟨b1, off1 + k, none⟩ = some (.int .i64 (p : Int))) := Lib.hid ⟨Below.refl _ _, HL.out.ra.cell 0, HL.out.ra.cell 1, HL.out.ra.cell 2, a0⟩
          have HBL := Lib.hid (World.block_lt_of_cell? wr _ a0)
          have HG := Lib.hid HL.out.ra.lt
          have HCN := Lib.hid a0
          clear a0
          go_cut [13, 14] (fun lv ev wx => lv = .slice none 0 0 ∧ ev = .int .i64 5 ∧ Hid (Below wr.heap.size wr wx))
          case first =>
            go_region_held3 (fun W' : World => Below wr.heap.size wr W' ∧ W'.cell? ⟨w1.heap.size, 0, none⟩ = some (.slice A n c) ∧ W'.cell? ⟨w1.heap.size, 1, none⟩ = some (.int .i64 (q : Int)) ∧ W'.cell? ⟨w1.heap.size, 2, none⟩ = some (.slice A2 n2 c2) ∧ W'.cell? ⟨b1, off1 + k, none⟩ = some (.int .i64 (p : Int)))
              (first | with_reducible exact hS1 | with_reducible exact ky_set (by assumption) (by first | exact Nat.le_refl _ | exact hS1.1.size) HG.out HBL.out | exact ⟨HS0.out.1.drew, HS0.out.2⟩ | exact ky (by assumption) (Gen.b_alloc (Below.refl _ _)) | fail "keep")
              (first
                | (go_at_call 11; (with_reducible refine (wq_twice (HL.out.wa.keep (And.left (by assumption))) HP.out).mono ?_); rintro e' w' ⟨rfl, hb⟩; have hS1 := (show Below wr.heap.size wr w' ∧ w'.cell? ⟨w1.heap.size, 0, none⟩ = some (.slice A n c) ∧ w'.cell? ⟨w1.heap.size, 1, none⟩ = some (.int .i64 (q : Int)) ∧ w'.cell? ⟨w1.heap.size, 2, none⟩ = some (.slice A2 n2 c2) ∧ w'.cell? ⟨b1, off1 + k, none⟩ = some (.int .i64 (p : Int)) from ky (by assumption) hb); (first | have hRw := (show Row _ _ 27 #[.slice none 0 0, .int .i64 0, .slice none 0 0] from Row.new _ _ _).keep hb | have hRw := (show Row _ _ 27 #[.slice none 0 0, .int .i64 0, .slice none 0 0] from rowd _ _ _).keep hb | skip); (try have cz0 := hRw.cell 0); (try have cz1 := hRw.cell 1); (try have cz2 := hRw.cell 2); (try have fz0 := hRw.frozen 0); (try have fz1 := hRw.frozen 1); (try have fz2 := hRw.frozen 2); (try have hRl := hRw.lt))
                | fail "arm")
            all_goals
              go_wp2
              go_meet
              first
                | exact ⟨rfl, rfl, Lib.hid (Gen.b_alloc hS1.1)⟩
                | exact ⟨rfl, rfl, Lib.hid (below_set3 hS1.1 (Nat.le_refl _))⟩
          case rest =>
          obtain ⟨rfl, rfl, HB8⟩ := hcut
          obtain ⟨wx, rfl⟩ : ∃ wx, wx = wc := ⟨_, rfl⟩
          have HL8 := Lib.hid (HL.out.keep HB8.out)
          have HC8 := Lib.hid (Gen.keep HB8.out HCN.out)
          clear HL HCN HS0 HBL HG HB8
          have HS0 : Hid (Below wx.heap.size wx wx ∧ wx.cell? ⟨w6.heap.size, 0, none⟩ = some (.slice B (n + mm) cb) ∧ wx.cell? ⟨w6.heap.size, 1, none⟩ = some (.int .i64 (q : Int)) ∧ wx.cell? ⟨w6.heap.size, 2, none⟩ = some (.slice B2 n2 d2) ∧ wx.cell? ⟨b1, off1 + k, none⟩ = some (.int .i64 (p : Int))) := Lib.hid ⟨Below.refl _ _, HL8.out.rb.cell 0, HL8.out.rb.cell 1, HL8.out.rb.cell 2, HC8.out⟩
          have HBL := Lib.hid (World.block_lt_of_cell? wx _ HC8.out)
          have HG := Lib.hid HL8.out.rb.lt
          go_upto_region 12 with (fail)
          go_cut [16, 17] (fun lv ev wy => lv = .slice none 0 0 ∧ ev = .int .i64 5 ∧ Hid (Below wx.heap.size wx wy))
          case first =>
            go_region_held3 (fun W' : World => Below wx.heap.size wx W' ∧ W'.cell? ⟨w6.heap.size, 0, none⟩ = some (.slice B (n + mm) cb) ∧ W'.cell? ⟨w6.heap.size, 1, none⟩ = some (.int .i64 (q : Int)) ∧ W'.cell? ⟨w6.heap.size, 2, none⟩ = some (.slice B2 n2 d2) ∧ W'.cell? ⟨b1, off1 + k, none⟩ = some (.int .i64 (p : Int)))
              (first | with_reducible exact hS1 | with_reducible exact ky_set (by assumption) (by first | exact Nat.le_refl _ | exact hS1.1.size) HG.out HBL.out | exact ⟨HS0.out.1.drew, HS0.out.2⟩ | exact ky (by assumption) (Gen.b_alloc (Below.refl _ _)) | fail "keep")
              (first
                | (go_at_call 11; (with_reducible refine (wq_twice (HL8.out.wb.keep (And.left (by assumption))) (at_more HP.out mm)).mono ?_); rintro e' w' ⟨rfl, hb⟩; have hS1 := (show Below wx.heap.size wx w' ∧ w'.cell? ⟨w6.heap.size, 0, none⟩ = some (.slice B (n + mm) cb) ∧ w'.cell? ⟨w6.heap.size, 1, none⟩ = some (.int .i64 (q : Int)) ∧ w'.cell? ⟨w6.heap.size, 2, none⟩ = some (.slice B2 n2 d2) ∧ w'.cell? ⟨b1, off1 + k, none⟩ = some (.int .i64 (p : Int)) from ky (by assumption) hb); (first | have hRw := (show Row _ _ 27 #[.slice none 0 0, .int .i64 0, .slice none 0 0] from Row.new _ _ _).keep hb | have hRw := (show Row _ _ 27 #[.slice none 0 0, .int .i64 0, .slice none 0 0] from rowd _ _ _).keep hb | skip); (try have cz0 := hRw.cell 0); (try have cz1 := hRw.cell 1); (try have cz2 := hRw.cell 2); (try have fz0 := hRw.frozen 0); (try have fz1 := hRw.frozen 1); (try have fz2 := hRw.frozen 2); (try have hRl := hRw.lt))
                | fail "arm")
            all_goals
              go_wp2
              go_meet
              first
                | exact ⟨rfl, rfl, Lib.hid (Gen.b_alloc hS1.1)⟩
                | exact ⟨rfl, rfl, Lib.hid (below_set3 hS1.1 (Nat.le_refl _))⟩
          case rest =>
          obtain ⟨rfl, rfl, HB9⟩ := hcut
          have HL9 := Lib.hid (HL8.out.keep HB9.out)
          have hqn := HL9.out.qn
          clear HL8 HC8 HS0 HBL HG HB9
          go_wp2_with (fail)
          go_must (refine (same_eq (n := 0) (l := []) _ rfl ens_nil ens_nil (by decide)).mono ?_)
          rintro e w9 ⟨rfl, hb9⟩
          have HLX := Lib.hid (HL9.out.keep hb9)
          clear hb9 HL9
          go_wp2
          go_roundw
          case rel => exact ⟨k + 1, A, c, q, A2, n2, c2, B, cb, B2, d2, H, by omega, by go_num, by go_num, HLX⟩
          case measure => simp [intOf]; omega
        · have HP := Lib.hid hp
          have hpn : p < n := by omega
          clear hp
          have HS0 : Hid (Below wr.heap.size wr wr ∧ wr.cell? ⟨w1.heap.size, 0, none⟩ = some (.slice A n c) ∧ wr.cell? ⟨w1.heap.size, 1, none⟩ = some (.int .i64 (q : Int)) ∧ wr.cell? ⟨w1.heap.size, 2, none⟩ = some (.slice A2 n2 c2) ∧ wr.cell? ⟨b1, off1 + k, none⟩ = some (.int .i64 (p : Int))) := Lib.hid ⟨Below.refl _ _, HL.out.ra.cell 0, HL.out.ra.cell 1, HL.out.ra.cell 2, a0⟩
          have HBL := Lib.hid (World.block_lt_of_cell? wr _ a0)
          have HG := Lib.hid HL.out.ra.lt
          have HCN := Lib.hid a0
          clear a0
          go_cut [12, 13, 14] (fun pv lv ev wx => ∃ (g8 : Nat) (A' : Option Addr) (c' q' : Nat) (B' : Option Addr) (n' k' : Nat) (D : Option Addr) (m1 l1 : Nat), pv = .pointer (some ⟨g8, 0, none⟩) ∧ lv = .slice D m1 l1 ∧ ev = .int .i64 0 ∧ Hid (wr.heap.size ≤ g8) ∧ Hid (Row wx g8 27 #[.slice A' n c', .int .i64 (q' : Int), .slice B' n' k']) ∧ Hid (Wq wx A' n c' q' B' n' k' S (H.set p true)) ∧ Hid (Below wr.heap.size wr wx) ∧ Hid (∀ a, A' = some a → wr.heap.size ≤ a.block) ∧ Hid (∀ a, B' = some a → wr.heap.size ≤ a.block) ∧ Hid ((dlv S H p).length = m1) ∧ Hid (Ens wx D (dlv S H p)))
          case first =>
            go_region_held3 (fun W' : World => Below wr.heap.size wr W' ∧ W'.cell? ⟨w1.heap.size, 0, none⟩ = some (.slice A n c) ∧ W'.cell? ⟨w1.heap.size, 1, none⟩ = some (.int .i64 (q : Int)) ∧ W'.cell? ⟨w1.heap.size, 2, none⟩ = some (.slice A2 n2 c2) ∧ W'.cell? ⟨b1, off1 + k, none⟩ = some (.int .i64 (p : Int)))
              (first | with_reducible exact hS1 | with_reducible exact ky_set (by assumption) (by first | exact Nat.le_refl _ | exact hS1.1.size) HG.out HBL.out | exact ⟨HS0.out.1.drew, HS0.out.2⟩ | exact ky (by assumption) (Gen.b_alloc (Below.refl _ _)) | fail "keep")
              (first
                | (go_at_call 11; (with_reducible refine (wq_ok (HL.out.wa.keep (And.left (by assumption))) HP.out).mono ?_); rintro e' w' ⟨A', c', q', B', n', k', D, m1, l1, rfl, hW, hmm, hED, hb, hab1, hab2, hab3⟩; have hS1 := (show Below wr.heap.size wr w' ∧ w'.cell? ⟨w1.heap.size, 0, none⟩ = some (.slice A n c) ∧ w'.cell? ⟨w1.heap.size, 1, none⟩ = some (.int .i64 (q : Int)) ∧ w'.cell? ⟨w1.heap.size, 2, none⟩ = some (.slice A2 n2 c2) ∧ w'.cell? ⟨b1, off1 + k, none⟩ = some (.int .i64 (p : Int)) from ky (by assumption) hb); have hlo := Nat.le_trans (Below.size (And.left (by assumption))) hb.size; have hab1' : ∀ a, A' = some a → wr.heap.size ≤ a.block := (fun a h => Nat.le_trans (Below.size (And.left (by assumption))) (hab1 a h)); have hab2' : ∀ a, B' = some a → wr.heap.size ≤ a.block := (fun a h => Nat.le_trans (Below.size (And.left (by assumption))) (hab2 a h)); (first | have hRw := (show Row _ _ 27 #[.slice none 0 0, .int .i64 0, .slice none 0 0] from Row.new _ _ _).keep hb | have hRw := (show Row _ _ 27 #[.slice none 0 0, .int .i64 0, .slice none 0 0] from rowd _ _ _).keep hb | skip); (try have cz0 := hRw.cell 0); (try have cz1 := hRw.cell 1); (try have cz2 := hRw.cell 2); (try have fz0 := hRw.frozen 0); (try have fz1 := hRw.frozen 1); (try have fz2 := hRw.frozen 2); (try have hRl := hRw.lt))
                | fail "arm")
            all_goals
              go_wp2
              go_meet
              first
                | exact ⟨w'.heap.size, A', c', q', B', n', k', D, m1, l1, rfl, rfl, rfl, Lib.hid hlo, Lib.hid (Row.new _ _ _), Lib.hid (hW.keep (Gen.b_alloc (Below.refl _ _))), Lib.hid (Gen.b_alloc hS1.1), Lib.hid hab1', Lib.hid hab2', Lib.hid hmm, Lib.hid (hED.keep (Gen.b_alloc (Below.refl _ _)))⟩
                | exact ⟨wr.heap.size, A', c', q', B', n', k', D, m1, l1, rfl, rfl, rfl, Lib.hid (Nat.le_refl _), Lib.hid (row_set3 hRw), Lib.hid (wq_set3 hW (fun a h => by have := hab1 a h; simp at this; omega) (fun a h => by have := hab2 a h; simp at this; omega)), Lib.hid (below_set3 hS1.1 (Nat.le_refl _)), Lib.hid hab1', Lib.hid hab2', Lib.hid hmm, Lib.hid (ens_set3 hED (fun a h => by have := hab3 a h; simp at this; omega))⟩
          case rest =>
          obtain ⟨g8, A', c', q', B', n', k', D, m1, l1, rfl, rfl, rfl, HG8, HR8, HW8, HB8, HA8, HB8', HM8, HE8⟩ := hcut
          obtain ⟨wx, rfl⟩ : ∃ wx, wx = wc := ⟨_, rfl⟩
          have HL8 := Lib.hid (HL.out.keep HB8.out)
          have HC8 := Lib.hid (Gen.keep HB8.out HCN.out)
          have HSZ := Lib.hid HB8.out.size
          clear HCN HS0 HBL HG
          have HS0 : Hid (Below wx.heap.size wx wx ∧ wx.cell? ⟨w6.heap.size, 0, none⟩ = some (.slice B (n + mm) cb) ∧ wx.cell? ⟨w6.heap.size, 1, none⟩ = some (.int .i64 (q : Int)) ∧ wx.cell? ⟨w6.heap.size, 2, none⟩ = some (.slice B2 n2 d2) ∧ wx.cell? ⟨b1, off1 + k, none⟩ = some (.int .i64 (p : Int))) := Lib.hid ⟨Below.refl _ _, HL8.out.rb.cell 0, HL8.out.rb.cell 1, HL8.out.rb.cell 2, HC8.out⟩
          have HBL := Lib.hid (World.block_lt_of_cell? wx _ HC8.out)
          have HG := Lib.hid HL8.out.rb.lt
          go_upto_region 12 with (fail)
          go_cut [15, 16, 17] (fun pv lv ev wy => ∃ (g9 : Nat) (Ab : Option Addr) (cx qb : Nat) (Bb : Option Addr) (nb kb : Nat) (Db : Option Addr) (m2 l2 : Nat), pv = .pointer (some ⟨g9, 0, none⟩) ∧ lv = .slice Db m2 l2 ∧ ev = .int .i64 0 ∧ Hid (wx.heap.size ≤ g9) ∧ Hid (Row wy g9 27 #[.slice Ab (n + mm) cx, .int .i64 (qb : Int), .slice Bb nb kb]) ∧ Hid (Wq wy Ab (n + mm) cx qb Bb nb kb (S ++ M) ((H ++ fa mm).set p true)) ∧ Hid (Below wx.heap.size wx wy) ∧ Hid (∀ a, Ab = some a → wx.heap.size ≤ a.block) ∧ Hid (∀ a, Bb = some a → wx.heap.size ≤ a.block) ∧ Hid ((dlv (S ++ M) (H ++ fa mm) p).length = m2) ∧ Hid (Ens wy Db (dlv (S ++ M) (H ++ fa mm) p)))
          case first =>
            go_region_held3 (fun W' : World => Below wx.heap.size wx W' ∧ W'.cell? ⟨w6.heap.size, 0, none⟩ = some (.slice B (n + mm) cb) ∧ W'.cell? ⟨w6.heap.size, 1, none⟩ = some (.int .i64 (q : Int)) ∧ W'.cell? ⟨w6.heap.size, 2, none⟩ = some (.slice B2 n2 d2) ∧ W'.cell? ⟨b1, off1 + k, none⟩ = some (.int .i64 (p : Int)))
              (first | with_reducible exact hS1 | with_reducible exact ky_set (by assumption) (by first | exact Nat.le_refl _ | exact hS1.1.size) HG.out HBL.out | exact ⟨HS0.out.1.drew, HS0.out.2⟩ | exact ky (by assumption) (Gen.b_alloc (Below.refl _ _)) | fail "keep")
              (first
                | (go_at_call 11; (with_reducible refine (wq_ok (HL8.out.wb.keep (And.left (by assumption))) (at_more HP.out mm)).mono ?_); rintro e' w' ⟨Ab, cx, qb, Bb, nb, kb, Db, m2, l2, rfl, hW, hmm, hED, hb, hab1, hab2, hab3⟩; have hS1 := (show Below wx.heap.size wx w' ∧ w'.cell? ⟨w6.heap.size, 0, none⟩ = some (.slice B (n + mm) cb) ∧ w'.cell? ⟨w6.heap.size, 1, none⟩ = some (.int .i64 (q : Int)) ∧ w'.cell? ⟨w6.heap.size, 2, none⟩ = some (.slice B2 n2 d2) ∧ w'.cell? ⟨b1, off1 + k, none⟩ = some (.int .i64 (p : Int)) from ky (by assumption) hb); have hlo := Nat.le_trans (Below.size (And.left (by assumption))) hb.size; have hab1' : ∀ a, Ab = some a → wx.heap.size ≤ a.block := (fun a h => Nat.le_trans (Below.size (And.left (by assumption))) (hab1 a h)); have hab2' : ∀ a, Bb = some a → wx.heap.size ≤ a.block := (fun a h => Nat.le_trans (Below.size (And.left (by assumption))) (hab2 a h)); (first | have hRw := (show Row _ _ 27 #[.slice none 0 0, .int .i64 0, .slice none 0 0] from Row.new _ _ _).keep hb | have hRw := (show Row _ _ 27 #[.slice none 0 0, .int .i64 0, .slice none 0 0] from rowd _ _ _).keep hb | skip); (try have cz0 := hRw.cell 0); (try have cz1 := hRw.cell 1); (try have cz2 := hRw.cell 2); (try have fz0 := hRw.frozen 0); (try have fz1 := hRw.frozen 1); (try have fz2 := hRw.frozen 2); (try have hRl := hRw.lt))
                | fail "arm")
            all_goals
              go_wp2
              go_meet
              first
                | exact ⟨w'.heap.size, Ab, cx, qb, Bb, nb, kb, Db, m2, l2, rfl, rfl, rfl, Lib.hid hlo, Lib.hid (Row.new _ _ _), Lib.hid (hW.keep (Gen.b_alloc (Below.refl _ _))), Lib.hid (Gen.b_alloc hS1.1), Lib.hid hab1', Lib.hid hab2', Lib.hid hmm, Lib.hid (hED.keep (Gen.b_alloc (Below.refl _ _)))⟩
                | exact ⟨wx.heap.size, Ab, cx, qb, Bb, nb, kb, Db, m2, l2, rfl, rfl, rfl, Lib.hid (Nat.le_refl _), Lib.hid (row_set3 hRw), Lib.hid (wq_set3 hW (fun a h => by have := hab1 a h; simp at this; omega) (fun a h => by have := hab2 a h; simp at this; omega)), Lib.hid (below_set3 hS1.1 (Nat.le_refl _)), Lib.hid hab1', Lib.hid hab2', Lib.hid hmm, Lib.hid (ens_set3 hED (fun a h => by have := hab3 a h; simp at this; omega))⟩
          case rest =>
          obtain ⟨g9, Ab, cx, qb, Bb, nb, kb, Db, m2, l2, rfl, rfl, rfl, HG9, HR9, HW9, HB9, HA9, HB9', HM9, HE9⟩ := hcut
          have HDM := Lib.hid (dlv_more (S := S) (M := M) (H := H) (p := p) (by rw [HL.out.wa.hl, HL.out.wa.hn]) (by rw [HL.out.wa.hl]; omega) mm)
          obtain rfl : m2 = m1 := by rw [← HM9.out, ← HM8.out, HDM.out]
          obtain ⟨wy, rfl⟩ : ∃ wy, wy = wc := ⟨_, rfl⟩
          have HE9' := Lib.hid (show Ens wy Db (dlv S H p) from by rw [← HDM.out]; exact HE9.out)
          have HE8' := Lib.hid (HE8.out.keep HB9.out)
          have HML := Lib.hid (show m2 ≤ 1000000 from by
            rw [← HM8.out, (dlv_ends (S := S) (by rw [HL.out.wa.hl, HL.out.wa.hn]) HP.out).2.2]
            have := nx_le (H.set p true)
            rw [List.length_set, HL.out.wa.hl] at this
            omega)
          clear HS0 HBL HG HC8 HL8
          go_wp2_with (fail)
          go_must (refine (same_eq (l := dlv S H p) _ HM8.out HE8'.out HE9'.out HML.out).mono ?_)
          rintro e w9 ⟨rfl, hb9⟩
          have hq : q + m2 = q' := by
            have h1 := dlv_ends (S := S) (by rw [HL.out.wa.hl, HL.out.wa.hn]) HP.out
            have h2 := h1.2.1
            have h3 := h1.2.2
            rw [HM8.out, HL.out.wa.hq, HW8.out.hq] at h3
            rw [HL.out.wa.hq, HW8.out.hq] at h2
            omega
          have hq30 : q' ≤ n := by
            have := nx_le (H.set p true)
            rw [List.length_set, HL.out.wa.hl, HW8.out.hq] at this
            exact this
          have HLN := Lib.hid (HL.out.put hpn (Gen.over hb9 (Gen.over HB9.out HB8.out)) (HW8.out.keep (Gen.over hb9 HB9.out)) HA8.out HB8'.out (HW9.out.keep hb9) (fun a e => by have := HA9.out a e; have := HSZ.out; omega) (fun a e => by have := HB9'.out a e; have := HSZ.out; omega))
          have r8 := (HR8.out.keep HB9.out).keep hb9
          have r9 := HR9.out.keep hb9
          have ra := HL.out.ra.keep (Gen.over hb9 (Gen.over HB9.out HB8.out))
          have rb := HL.out.rb.keep (Gen.over hb9 (Gen.over HB9.out HB8.out))
          have hg8 := HG8.out
          have hg9 := HG9.out
          have hsz := HSZ.out
          have hl1 := HL.out.ra.lt
          have hl2 := HL.out.rb.lt
          have rr := row_set3_ne (g := w1.heap.size) (v0 := .slice A' n c') (v1 := .int .i64 (q' : Int)) (v2 := .slice B' n' k') r9 (by omega)
          have rb' := row_set3_ne (g := w1.heap.size) (v0 := .slice A' n c') (v1 := .int .i64 (q' : Int)) (v2 := .slice B' n' k') rb (by have := HL.out.ne; omega)
          have e0 := r8.cell 0
          have e1 := r8.cell 1
          have e2 := r8.cell 2
          have k0' := ra.cell 0
          have k1 := ra.cell 1
          have k2 := ra.cell 2
          have f0 := ra.frozen 0
          have f1 := ra.frozen 1
          have f2 := ra.frozen 2
          have fl := ra.lt
          have s0 := rr.cell 0
          have s1 := rr.cell 1
          have s2 := rr.cell 2
          have t0 := rb'.cell 0
          have t1 := rb'.cell 1
          have t2 := rb'.cell 2
          have u0 := rb'.frozen 0
          have u1 := rb'.frozen 1
          have u2 := rb'.frozen 2
          have ul := rb'.lt
          clear hb9 r8 r9 ra rb rr rb' HL
          go_wp2
          go_roundw
          case rel =>
            obtain ⟨rfl, rfl, hLN⟩ := HLN.out
            exact ⟨k + 1, A', c', qb, B', nb, k', Ab, cx, Bb, kb, (H.set p true), by omega, by go_num, by go_num, Lib.hid hLN⟩
          case measure => simp [intOf]; omega
    · obtain rfl : k = l := by omega
      have hqn := HL.out.qn
      obtain ⟨d, hd⟩ : ∃ d, n - q = d := ⟨_, rfl⟩
      have hqd : (q : Int) + (d : Int) = (n : Int) := by omega
      have hw1 : IntKind.i64.wrap (n : Int) = (n : Int) := IntWalk.i64_in _ (by omega)
      have hw2 : IntKind.i64.wrap ((d : Int) + (mm : Int)) = (d : Int) + (mm : Int) := IntWalk.i64_in _ (by omega)
      have HD1 : Hid ((S.drop q).length = d) := Lib.hid (by rw [List.length_drop, HS.out]; exact hd)
      have HD2 : Hid (((S ++ M).drop q).length = d + mm) := Lib.hid (by rw [List.length_drop, List.length_append, HS.out, HM.out]; omega)
      have hn2b : n2 ≤ 1000000 := by have h1 := ea_len H; rw [HL.out.wa.hn2, HL.out.wa.hl] at h1; omega
      have HEB := Lib.hid (show Ints wr B2 (ea H) from by have h1 := HL.out.wb.hi; rw [ea_more] at h1; exact h1)
      clear hd
      go_upto_region 19 with (fail)
      have HS3 := Lib.hid (show Below wr.heap.size wr wr.drew ∧ wr.drew.cell? ⟨w1.heap.size, 0, none⟩ = some (.slice A n c) ∧ wr.drew.cell? ⟨w1.heap.size, 1, none⟩ = some (.int .i64 (q : Int)) ∧ wr.drew.cell? ⟨w1.heap.size, 2, none⟩ = some (.slice A2 n2 c2) ∧ wr.drew.cell? ⟨w6.heap.size, 0, none⟩ = some (.slice B (n + mm) cb) ∧ wr.drew.cell? ⟨w6.heap.size, 1, none⟩ = some (.int .i64 (q : Int)) ∧ wr.drew.cell? ⟨w6.heap.size, 2, none⟩ = some (.slice B2 n2 d2) from ⟨(Below.refl _ _).drew, HL.out.ra.cell 0, HL.out.ra.cell 1, HL.out.ra.cell 2, HL.out.rb.cell 0, HL.out.rb.cell 1, HL.out.rb.cell 2⟩)
      go_cut [6] (fun cv wy => cv = .bool true ∧ Hid (Below wr.heap.size wr wy))
      case first =>
        go_region_held3 (fun W' : World => Below wr.heap.size wr W' ∧ W'.cell? ⟨w1.heap.size, 0, none⟩ = some (.slice A n c) ∧ W'.cell? ⟨w1.heap.size, 1, none⟩ = some (.int .i64 (q : Int)) ∧ W'.cell? ⟨w1.heap.size, 2, none⟩ = some (.slice A2 n2 c2) ∧ W'.cell? ⟨w6.heap.size, 0, none⟩ = some (.slice B (n + mm) cb) ∧ W'.cell? ⟨w6.heap.size, 1, none⟩ = some (.int .i64 (q : Int)) ∧ W'.cell? ⟨w6.heap.size, 2, none⟩ = some (.slice B2 n2 d2))
          (first | exact HS3.out | exact k6 (by assumption) (by assumption) | fail "keep")
          (first
            | (go_at_call 12; with_reducible refine (wq_flight' (HL.out.wa.keep (And.left (by assumption)))).mono ?_; rintro e' z2 ⟨Af, mf, cf, rfl, hmf, hEf, hz2, hab⟩; rw [HD1.out] at hmf; subst hmf)
            | (go_at_call 12; with_reducible refine (wq_flight' (HL.out.wb.keep (And.left (by assumption)))).mono ?_; rintro e' z2 ⟨Af, mf, cf, rfl, hmf, hEf, hz2, hab⟩; rw [HD2.out] at hmf; subst hmf)
            | (go_at_call 18; with_reducible refine (ints_eq (l := ea H) _ HL.out.wa.hn2 (HL.out.wa.hi.keep (And.left (by assumption))) (HEB.out.keep (And.left (by assumption))) hn2b).mono ?_; rintro e' z3 ⟨rfl, hz3⟩)
            | fail "arm")
        all_goals
          rename_i hKK
          go_wp2
          go_meet
          exact ⟨rfl, Lib.hid hKK.1⟩
      case rest =>
        obtain ⟨rfl, HB5⟩ := hcut
        have HBF := Lib.hid (Gen.over HB5.out HL.out.bl)
        go_wp2
        go_ret
        exact ⟨rfl, HBF.out⟩
theorem later_any (w : World) (hS : S.length = n) (hES : Ens w A0 S) (hn : n ≤ 9223372036854775807) (hc : n ≤ c0) (hN : ns.length = l) (hI : Ints w A1 ns) (hl : l ≤ 9223372036854775807) (hM : M.length = mm) (hEM : Ens w A3 M) (hm : mm ≤ 9223372036854775807) :
    Calls Try.prog 6 #[.slice A0 n c0, .slice A1 l c1, .slice A3 mm c3] w fun e w' => e = .returned (.bool true) ∧ Below w.heap.size w w' := by
  by_cases h1 : n ≤ 30
  · by_cases h2 : l ≤ 30
    · by_cases h3 : mm ≤ 10
      · exact later_b w hS hM hN hES hEM hI hc h1 h2 h3
      · exact later_3 w hn hl hm h1 h2 (by omega)
    · exact later_2 w hn hl hm h1 (by omega)
  · exact later_1 w hn hl hm (by omega)
end
end Go.Proofs.Ytefikmfogbdhpaa.Po
