/- PostAgain returns true: every list of things that happen, every turn; no condition. -/
import Derived.Test.YtefikmfogbdhpaaPoK
import Derived.Test.YtefikmfogbdhpaaPoR
import Derived.Test.YtefikmfogbdhpaaLPoO
import Derived.Deep.DeepCutAuto
namespace Go.Proofs.Ytefikmfogbdhpaa.Po
open Go.ChangeShapes Go.WideShapes Go.ChangeAt Go.RowKit Go.Proofs.Ytefikmfogbdhpaa.Cell
set_option linter.unusedVariables false
set_option linter.unusedSimpArgs false
section
variable {A0 : Option Addr} {m cap : Nat} {ks : List Ac} {u : Int}
set_option maxRecDepth 100000 in
set_option maxHeartbeats 8000000 in
theorem again_a (w : World) (hm : ks.length = m) (ha : Acl w A0 ks) (hmb : m ≤ 9223372036854775807) (h60 : 40 < m) :
    Calls Try.prog 5 #[.slice A0 m cap, .int .u8 u] w fun e w' => e = .returned (.bool true) ∧ Below w.heap.size w w' := by
  have h60I : (40 : Int) < (m : Int) := by omega
  go_enter Try.func5, Try.ntmps5
  go_wp2_with (fail)
  go_must (refine (small43 _).mono ?_)
  rintro e w1 ⟨rfl, hb1⟩
  clear hm
  go_wp2
  go_ret
  exact ⟨rfl, hb1⟩
set_option maxRecDepth 100000 in
set_option maxHeartbeats 16000000 in
theorem again_b (w : World) (hm : ks.length = m) (ha : Acl w A0 ks) (h60 : m ≤ 40) (hu : 0 ≤ u ∧ u ≤ 255) :
    Calls Try.prog 5 #[.slice A0 m cap, .int .u8 u] w fun e w' => e = .returned (.bool true) ∧ Below w.heap.size w w' := by
  obtain ⟨t, rfl⟩ := Int.eq_ofNat_of_zero_le hu.1
  have ht : t ≤ 255 := by omega
  have ht0 : (0 : Int) ≤ (t : Int) := by omega
  have h60I : (m : Int) ≤ 40 := by omega
  have HM := Lib.hid hm
  have HA := Lib.hid ha
  obtain ⟨i0, hi0, hz0, hz1, hz2⟩ := info_parts' infoE
  clear hm ha hu
  go_enter Try.func5, Try.ntmps5
  go_wp2_with (fail)
  go_must (refine (small43 _).mono ?_)
  rintro e w1 ⟨rfl, hb1⟩
  have HLO := Lib.hid (show Lf w (w1.alloc (.cells #[.slice none 0 0, .int .i64 0, .slice none 0 0] 27)) w1.heap.size 0 none 0 0 0 none 0 0 [] [] from ⟨Wq.nil _, Row.new _ _ _, Nat.le_refl _, Gen.b_alloc hb1, hb1.size⟩)
  clear hb1
  go_wp2
  go_loopw [7] (fun iv wr => ∃ (k : Nat) (A : Option Addr) (n c q : Nat) (A2 : Option Addr) (n2 c2 : Nat) (S : List En) (H : List Bool), k ≤ m ∧ iv = .int .i64 k ∧ Hid (Lf w wr w1.heap.size k A n c q A2 n2 c2 S H)) (fun iv _ => m - (intOf iv).toNat)
  case atStart => exact ⟨0, none, 0, 0, 0, none, 0, 0, [], [], Nat.zero_le _, rfl, HLO⟩
  case round =>
    clear HLO
    obtain ⟨k, A, n, c, q, A2, n2, c2, S, H, hk, rfl, HL⟩ := hrel
    have k0 : (0 : Int) ≤ (k : Int) := by omega
    have hnk := HL.out.nk
    by_cases hlt : k < m
    · have hltI : (k : Int) < (m : Int) := by omega
      obtain ⟨a, hak⟩ := at_ ks k (by rw [HM.out]; exact hlt)
      obtain ⟨b0, off0, hA0, hcell⟩ := (HA.out.keep HL.out.bl) (by rw [HM.out]; omega)
      subst hA0
      obtain ⟨a0, a1, a2, a3, a4, a5, a6⟩ := hcell k a hak
      clear hcell hak
      obtain ⟨kd, nu, ⟨x0, x1, x2, x3, x4⟩⟩ := a
      dsimp only at a0 a1 a2 a3 a4 a5 a6
      have HBL := Lib.hid (World.block_lt_of_cell? wr _ a0)
      have HG := Lib.hid HL.out.r.lt
      have HS0 : Hid (Below wr.heap.size wr wr ∧ wr.cell? ⟨w1.heap.size, 0, none⟩ = some (.slice A n c) ∧ wr.cell? ⟨w1.heap.size, 1, none⟩ = some (.int .i64 (q : Int)) ∧ wr.cell? ⟨w1.heap.size, 2, none⟩ = some (.slice A2 n2 c2) ∧ wr.cell? ⟨b0, off0 + k * 7 + 1, none⟩ = some (.int .i64 nu) ∧ wr.cell? ⟨b0, off0 + k * 7 + 2, none⟩ = some (.int .i64 x0) ∧ wr.cell? ⟨b0, off0 + k * 7 + 3, none⟩ = some (.int .i64 x1) ∧ wr.cell? ⟨b0, off0 + k * 7 + 4, none⟩ = some (.int .i64 x2) ∧ wr.cell? ⟨b0, off0 + k * 7 + 5, none⟩ = some (.int .i64 x3) ∧ wr.cell? ⟨b0, off0 + k * 7 + 6, none⟩ = some (.int .i64 x4)) := Lib.hid ⟨Below.refl _ _, HL.out.r.cell 0, HL.out.r.cell 1, HL.out.r.cell 2, a1, a2, a3, a4, a5, a6⟩
      by_cases hkd : kd = 0
      · have hkdT : (kd == 0) = true := by rw [hkd]; rfl
        have HKD := Lib.hid hkd
        clear hkd
        have hn60 : n < 10000 := by omega
        clear a1 a2 a3 a4 a5 a6
        go_upto_region 9 with (fail)
        clear a0
        go_cut [8, 9] (fun p ev wx => ∃ (g8 : Nat) (A' : Option Addr) (c' q' : Nat) (B' : Option Addr) (n' k' : Nat), p = .pointer (some ⟨g8, 0, none⟩) ∧ ev = .int .i64 0 ∧ Hid (wr.heap.size ≤ g8) ∧ Hid (Row wx g8 27 #[.slice A' (n + 1) c', .int .i64 (q' : Int), .slice B' n' k']) ∧ Hid (Wq wx A' (n + 1) c' q' B' n' k' (S ++ [⟨x0, x1, x2, x3, x4⟩]) (H ++ [false])) ∧ Hid (Below wr.heap.size wr wx) ∧ Hid (∀ a, A' = some a → wr.heap.size ≤ a.block) ∧ Hid (∀ a, B' = some a → wr.heap.size ≤ a.block))
        case first =>
          go_region_held3 (fun W' : World => Below wr.heap.size wr W' ∧ W'.cell? ⟨w1.heap.size, 0, none⟩ = some (.slice A n c) ∧ W'.cell? ⟨w1.heap.size, 1, none⟩ = some (.int .i64 (q : Int)) ∧ W'.cell? ⟨w1.heap.size, 2, none⟩ = some (.slice A2 n2 c2) ∧ W'.cell? ⟨b0, off0 + k * 7 + 1, none⟩ = some (.int .i64 nu) ∧ W'.cell? ⟨b0, off0 + k * 7 + 2, none⟩ = some (.int .i64 x0) ∧ W'.cell? ⟨b0, off0 + k * 7 + 3, none⟩ = some (.int .i64 x1) ∧ W'.cell? ⟨b0, off0 + k * 7 + 4, none⟩ = some (.int .i64 x2) ∧ W'.cell? ⟨b0, off0 + k * 7 + 5, none⟩ = some (.int .i64 x3) ∧ W'.cell? ⟨b0, off0 + k * 7 + 6, none⟩ = some (.int .i64 x4))
            (first | with_reducible exact hS1 | with_reducible exact kx_set (by assumption) (by first | exact Nat.le_refl _ | exact hS1.1.size) HG.out HBL.out | exact ⟨HS0.out.1.drew, HS0.out.2⟩ | exact kx (by assumption) (Gen.b_alloc (Below.refl _ _)) | fail "keep")
            (first
              | (go_at_call 10; (with_reducible refine (wq_send ⟨x0, x1, x2, x3, x4⟩ (HL.out.wq.keep (And.left (by assumption))) hn60).mono ?_); rintro e' w' ⟨A', c', q', B', n', k', rfl, hW, hb, hab1, hab2⟩; have hS1 := (show Below wr.heap.size wr w' ∧ w'.cell? ⟨w1.heap.size, 0, none⟩ = some (.slice A n c) ∧ w'.cell? ⟨w1.heap.size, 1, none⟩ = some (.int .i64 (q : Int)) ∧ w'.cell? ⟨w1.heap.size, 2, none⟩ = some (.slice A2 n2 c2) ∧ w'.cell? ⟨b0, off0 + k * 7 + 1, none⟩ = some (.int .i64 nu) ∧ w'.cell? ⟨b0, off0 + k * 7 + 2, none⟩ = some (.int .i64 x0) ∧ w'.cell? ⟨b0, off0 + k * 7 + 3, none⟩ = some (.int .i64 x1) ∧ w'.cell? ⟨b0, off0 + k * 7 + 4, none⟩ = some (.int .i64 x2) ∧ w'.cell? ⟨b0, off0 + k * 7 + 5, none⟩ = some (.int .i64 x3) ∧ w'.cell? ⟨b0, off0 + k * 7 + 6, none⟩ = some (.int .i64 x4) from kx (by assumption) hb); have hlo := Nat.le_trans (Below.size (And.left (by assumption))) hb.size; have hab1' : ∀ a, A' = some a → wr.heap.size ≤ a.block := (fun a h => Nat.le_trans (Below.size (And.left (by assumption))) (hab1 a h)); have hab2' : ∀ a, B' = some a → wr.heap.size ≤ a.block := (fun a h => Nat.le_trans (Below.size (And.left (by assumption))) (hab2 a h)); (first | have hRw := (show Row _ _ 27 #[.slice none 0 0, .int .i64 0, .slice none 0 0] from Row.new _ _ _).keep hb | have hRw := (show Row _ _ 27 #[.slice none 0 0, .int .i64 0, .slice none 0 0] from rowd _ _ _).keep hb | skip); (try have cz0 := hRw.cell 0); (try have cz1 := hRw.cell 1); (try have cz2 := hRw.cell 2); (try have fz0 := hRw.frozen 0); (try have fz1 := hRw.frozen 1); (try have fz2 := hRw.frozen 2); (try have hRl := hRw.lt))
              | fail "arm")
          all_goals
            go_wp2
            go_meet
            first
              | exact ⟨w'.heap.size, A', c', q', B', n', k', rfl, rfl, Lib.hid hlo, Lib.hid (Row.new _ _ _), Lib.hid (hW.keep (Gen.b_alloc (Below.refl _ _))), Lib.hid (Gen.b_alloc hS1.1), Lib.hid hab1', Lib.hid hab2'⟩
              | exact ⟨wr.heap.size, A', c', q', B', n', k', rfl, rfl, Lib.hid (Nat.le_refl _), Lib.hid (row_set3 hRw), Lib.hid (wq_set3 hW (fun a h => by have := hab1 a h; simp at this; omega) (fun a h => by have := hab2 a h; simp at this; omega)), Lib.hid (below_set3 hS1.1 (Nat.le_refl _)), Lib.hid hab1', Lib.hid hab2'⟩
        case rest =>
          obtain ⟨g8, A', c', q', B', n', k', rfl, rfl, HG8, HR8, HW8, HB8, HA8, HB8'⟩ := hcut
          have HLN := Lib.hid (HL.out.put (N := n + 1) (by omega) HB8.out HW8.out HA8.out HB8'.out)
          have e0 := HR8.out.cell 0
          have e1 := HR8.out.cell 1
          have e2 := HR8.out.cell 2
          have hrg := HL.out.r.keep HB8.out
          have k0' := hrg.cell 0
          have k1 := hrg.cell 1
          have k2 := hrg.cell 2
          have f0 := hrg.frozen 0
          have f1 := hrg.frozen 1
          have f2 := hrg.frozen 2
          have fl := hrg.lt
          clear hrg
          go_wp2
          go_roundw
          case rel => exact ⟨k + 1, A', n + 1, c', q', B', n', k', _, _, by omega, by go_num, HLN⟩
          case measure => simp [intOf]; omega
      · have hkdF : (kd == 0) = false := by simpa using hkd
        clear hkd a1 a2 a3 a4 a5 a6
        have HNL := Lib.hid (show H.length = n from HL.out.wq.hl)
        go_upto_region 13 with (fail)
        clear a0
        by_cases hok : ∃ p : Nat, nu = p ∧ H[p]? = some false
        · obtain ⟨p, rfl, hp⟩ := hok
          have HP := Lib.hid hp
          have hpn : p < n := by have := lt_of_at hp; rw [HNL.out] at this; exact this
          clear hp
          go_cut [10, 12] (fun pv ev wx => ∃ (g8 : Nat) (A' : Option Addr) (c' q' : Nat) (B' : Option Addr) (n' k' : Nat), pv = .pointer (some ⟨g8, 0, none⟩) ∧ ev = .int .i64 0 ∧ Hid (wr.heap.size ≤ g8) ∧ Hid (Row wx g8 27 #[.slice A' n c', .int .i64 (q' : Int), .slice B' n' k']) ∧ Hid (Wq wx A' n c' q' B' n' k' S (H.set p true)) ∧ Hid (Below wr.heap.size wr wx) ∧ Hid (∀ a, A' = some a → wr.heap.size ≤ a.block) ∧ Hid (∀ a, B' = some a → wr.heap.size ≤ a.block))
          case first =>
            go_region_held3 (fun W' : World => Below wr.heap.size wr W' ∧ W'.cell? ⟨w1.heap.size, 0, none⟩ = some (.slice A n c) ∧ W'.cell? ⟨w1.heap.size, 1, none⟩ = some (.int .i64 (q : Int)) ∧ W'.cell? ⟨w1.heap.size, 2, none⟩ = some (.slice A2 n2 c2) ∧ W'.cell? ⟨b0, off0 + k * 7 + 1, none⟩ = some (.int .i64 (p : Int)) ∧ W'.cell? ⟨b0, off0 + k * 7 + 2, none⟩ = some (.int .i64 x0) ∧ W'.cell? ⟨b0, off0 + k * 7 + 3, none⟩ = some (.int .i64 x1) ∧ W'.cell? ⟨b0, off0 + k * 7 + 4, none⟩ = some (.int .i64 x2) ∧ W'.cell? ⟨b0, off0 + k * 7 + 5, none⟩ = some (.int .i64 x3) ∧ W'.cell? ⟨b0, off0 + k * 7 + 6, none⟩ = some (.int .i64 x4))
              (first | with_reducible exact hS1 | with_reducible exact kx_set (by assumption) (by first | exact Nat.le_refl _ | exact hS1.1.size) HG.out HBL.out | exact ⟨HS0.out.1.drew, HS0.out.2⟩ | exact kx (by assumption) (Gen.b_alloc (Below.refl _ _)) | fail "keep")
              (first
                | (go_at_call 11; (with_reducible refine (wq_ok (HL.out.wq.keep (And.left (by assumption))) HP.out).mono ?_); rintro e' w' ⟨A', c', q', B', n', k', D, mm, l, rfl, hW, hmm, hED, hb, hab1, hab2, hab3⟩; have hS1 := (show Below wr.heap.size wr w' ∧ w'.cell? ⟨w1.heap.size, 0, none⟩ = some (.slice A n c) ∧ w'.cell? ⟨w1.heap.size, 1, none⟩ = some (.int .i64 (q : Int)) ∧ w'.cell? ⟨w1.heap.size, 2, none⟩ = some (.slice A2 n2 c2) ∧ w'.cell? ⟨b0, off0 + k * 7 + 1, none⟩ = some (.int .i64 (p : Int)) ∧ w'.cell? ⟨b0, off0 + k * 7 + 2, none⟩ = some (.int .i64 x0) ∧ w'.cell? ⟨b0, off0 + k * 7 + 3, none⟩ = some (.int .i64 x1) ∧ w'.cell? ⟨b0, off0 + k * 7 + 4, none⟩ = some (.int .i64 x2) ∧ w'.cell? ⟨b0, off0 + k * 7 + 5, none⟩ = some (.int .i64 x3) ∧ w'.cell? ⟨b0, off0 + k * 7 + 6, none⟩ = some (.int .i64 x4) from kx (by assumption) hb); have hlo := Nat.le_trans (Below.size (And.left (by assumption))) hb.size; have hab1' : ∀ a, A' = some a → wr.heap.size ≤ a.block := (fun a h => Nat.le_trans (Below.size (And.left (by assumption))) (hab1 a h)); have hab2' : ∀ a, B' = some a → wr.heap.size ≤ a.block := (fun a h => Nat.le_trans (Below.size (And.left (by assumption))) (hab2 a h)); (first | have hRw := (show Row _ _ 27 #[.slice none 0 0, .int .i64 0, .slice none 0 0] from Row.new _ _ _).keep hb | have hRw := (show Row _ _ 27 #[.slice none 0 0, .int .i64 0, .slice none 0 0] from rowd _ _ _).keep hb | skip); (try have cz0 := hRw.cell 0); (try have cz1 := hRw.cell 1); (try have cz2 := hRw.cell 2); (try have fz0 := hRw.frozen 0); (try have fz1 := hRw.frozen 1); (try have fz2 := hRw.frozen 2); (try have hRl := hRw.lt))
                | fail "arm")
            all_goals
              go_wp2
              go_meet
              first
                | exact ⟨w'.heap.size, A', c', q', B', n', k', rfl, rfl, Lib.hid hlo, Lib.hid (Row.new _ _ _), Lib.hid (hW.keep (Gen.b_alloc (Below.refl _ _))), Lib.hid (Gen.b_alloc hS1.1), Lib.hid hab1', Lib.hid hab2'⟩
                | exact ⟨wr.heap.size, A', c', q', B', n', k', rfl, rfl, Lib.hid (Nat.le_refl _), Lib.hid (row_set3 hRw), Lib.hid (wq_set3 hW (fun a h => by have := hab1 a h; simp at this; omega) (fun a h => by have := hab2 a h; simp at this; omega)), Lib.hid (below_set3 hS1.1 (Nat.le_refl _)), Lib.hid hab1', Lib.hid hab2'⟩
          case rest =>
            obtain ⟨g8, A', c', q', B', n', k', rfl, rfl, HG8, HR8, HW8, HB8, HA8, HB8'⟩ := hcut
            have HLN := Lib.hid (HL.out.put (N := n) (by omega) HB8.out HW8.out HA8.out HB8'.out)
            have e0 := HR8.out.cell 0
            have e1 := HR8.out.cell 1
            have e2 := HR8.out.cell 2
            have hrg := HL.out.r.keep HB8.out
            have k0' := hrg.cell 0
            have k1 := hrg.cell 1
            have k2 := hrg.cell 2
            have f0 := hrg.frozen 0
            have f1 := hrg.frozen 1
            have f2 := hrg.frozen 2
            have fl := hrg.lt
            clear hrg
            go_wp2
            go_roundw
            case rel => exact ⟨k + 1, A', n, c', q', B', n', k', S, (H.set p true), by omega, by go_num, HLN⟩
            case measure => simp [intOf]; omega
        · have hbad : (nu < 0 ∨ (n : Int) ≤ nu) ∨ ∃ p : Nat, nu = p ∧ H[p]? = some true := by
            by_cases h1 : nu < 0
            · exact .inl (.inl h1)
            · by_cases h2 : (n : Int) ≤ nu
              · exact .inl (.inr h2)
              · obtain ⟨p, rfl⟩ := Int.eq_ofNat_of_zero_le (show 0 ≤ nu by omega)
                rcases get_of_nx (H := H) (j := p) (by rw [HNL.out]; omega) with h | h
                · exact .inr ⟨p, rfl, h⟩
                · exact absurd ⟨p, rfl, h⟩ hok
          clear hok
          go_cut [10, 12] (fun pv ev wx => ∃ (g8 : Nat) (E : Int), pv = .pointer (some ⟨g8, 0, none⟩) ∧ ev = .int .i64 E ∧ Hid (E = 4 ∨ E = 5) ∧ Hid (Below wr.heap.size wr wx))
          case first =>
            rcases hbad with hbad | ⟨p, rfl, hp⟩
            · have HBAD := Lib.hid hbad
              clear hbad
              go_region_held3 (fun W' : World => Below wr.heap.size wr W' ∧ W'.cell? ⟨w1.heap.size, 0, none⟩ = some (.slice A n c) ∧ W'.cell? ⟨w1.heap.size, 1, none⟩ = some (.int .i64 (q : Int)) ∧ W'.cell? ⟨w1.heap.size, 2, none⟩ = some (.slice A2 n2 c2) ∧ W'.cell? ⟨b0, off0 + k * 7 + 1, none⟩ = some (.int .i64 nu) ∧ W'.cell? ⟨b0, off0 + k * 7 + 2, none⟩ = some (.int .i64 x0) ∧ W'.cell? ⟨b0, off0 + k * 7 + 3, none⟩ = some (.int .i64 x1) ∧ W'.cell? ⟨b0, off0 + k * 7 + 4, none⟩ = some (.int .i64 x2) ∧ W'.cell? ⟨b0, off0 + k * 7 + 5, none⟩ = some (.int .i64 x3) ∧ W'.cell? ⟨b0, off0 + k * 7 + 6, none⟩ = some (.int .i64 x4))
                (first | with_reducible exact hS1 | with_reducible exact kx_set (by assumption) (by first | exact Nat.le_refl _ | exact hS1.1.size) HG.out HBL.out | exact ⟨HS0.out.1.drew, HS0.out.2⟩ | exact kx (by assumption) (Gen.b_alloc (Below.refl _ _)) | fail "keep")
                (first
                  | (go_at_call 11; (with_reducible refine (wq_none (HL.out.wq.keep (And.left (by assumption))) HBAD.out).mono ?_); rintro e' w' ⟨rfl, hb⟩; have hS1 := (show Below wr.heap.size wr w' ∧ w'.cell? ⟨w1.heap.size, 0, none⟩ = some (.slice A n c) ∧ w'.cell? ⟨w1.heap.size, 1, none⟩ = some (.int .i64 (q : Int)) ∧ w'.cell? ⟨w1.heap.size, 2, none⟩ = some (.slice A2 n2 c2) ∧ w'.cell? ⟨b0, off0 + k * 7 + 1, none⟩ = some (.int .i64 nu) ∧ w'.cell? ⟨b0, off0 + k * 7 + 2, none⟩ = some (.int .i64 x0) ∧ w'.cell? ⟨b0, off0 + k * 7 + 3, none⟩ = some (.int .i64 x1) ∧ w'.cell? ⟨b0, off0 + k * 7 + 4, none⟩ = some (.int .i64 x2) ∧ w'.cell? ⟨b0, off0 + k * 7 + 5, none⟩ = some (.int .i64 x3) ∧ w'.cell? ⟨b0, off0 + k * 7 + 6, none⟩ = some (.int .i64 x4) from kx (by assumption) hb); (first | have hRw := (show Row _ _ 27 #[.slice none 0 0, .int .i64 0, .slice none 0 0] from Row.new _ _ _).keep hb | have hRw := (show Row _ _ 27 #[.slice none 0 0, .int .i64 0, .slice none 0 0] from rowd _ _ _).keep hb | skip); (try have cz0 := hRw.cell 0); (try have cz1 := hRw.cell 1); (try have cz2 := hRw.cell 2); (try have fz0 := hRw.frozen 0); (try have fz1 := hRw.frozen 1); (try have fz2 := hRw.frozen 2); (try have hRl := hRw.lt))
                  | fail "arm")
              all_goals
                go_wp2
                go_meet
                first
                  | exact ⟨w'.heap.size, 4, rfl, rfl, Lib.hid (.inl rfl), Lib.hid (Gen.b_alloc hS1.1)⟩
                  | exact ⟨wr.heap.size, 4, rfl, rfl, Lib.hid (.inl rfl), Lib.hid (below_set3 hS1.1 (Nat.le_refl _))⟩
            · have HP := Lib.hid hp
              have hpn : p < n := by have := lt_of_at hp; rw [HNL.out] at this; exact this
              clear hp
              go_region_held3 (fun W' : World => Below wr.heap.size wr W' ∧ W'.cell? ⟨w1.heap.size, 0, none⟩ = some (.slice A n c) ∧ W'.cell? ⟨w1.heap.size, 1, none⟩ = some (.int .i64 (q : Int)) ∧ W'.cell? ⟨w1.heap.size, 2, none⟩ = some (.slice A2 n2 c2) ∧ W'.cell? ⟨b0, off0 + k * 7 + 1, none⟩ = some (.int .i64 (p : Int)) ∧ W'.cell? ⟨b0, off0 + k * 7 + 2, none⟩ = some (.int .i64 x0) ∧ W'.cell? ⟨b0, off0 + k * 7 + 3, none⟩ = some (.int .i64 x1) ∧ W'.cell? ⟨b0, off0 + k * 7 + 4, none⟩ = some (.int .i64 x2) ∧ W'.cell? ⟨b0, off0 + k * 7 + 5, none⟩ = some (.int .i64 x3) ∧ W'.cell? ⟨b0, off0 + k * 7 + 6, none⟩ = some (.int .i64 x4))
                (first | with_reducible exact hS1 | with_reducible exact kx_set (by assumption) (by first | exact Nat.le_refl _ | exact hS1.1.size) HG.out HBL.out | exact ⟨HS0.out.1.drew, HS0.out.2⟩ | exact kx (by assumption) (Gen.b_alloc (Below.refl _ _)) | fail "keep")
                (first
                  | (go_at_call 11; (with_reducible refine (wq_twice (HL.out.wq.keep (And.left (by assumption))) HP.out).mono ?_); rintro e' w' ⟨rfl, hb⟩; have hS1 := (show Below wr.heap.size wr w' ∧ w'.cell? ⟨w1.heap.size, 0, none⟩ = some (.slice A n c) ∧ w'.cell? ⟨w1.heap.size, 1, none⟩ = some (.int .i64 (q : Int)) ∧ w'.cell? ⟨w1.heap.size, 2, none⟩ = some (.slice A2 n2 c2) ∧ w'.cell? ⟨b0, off0 + k * 7 + 1, none⟩ = some (.int .i64 (p : Int)) ∧ w'.cell? ⟨b0, off0 + k * 7 + 2, none⟩ = some (.int .i64 x0) ∧ w'.cell? ⟨b0, off0 + k * 7 + 3, none⟩ = some (.int .i64 x1) ∧ w'.cell? ⟨b0, off0 + k * 7 + 4, none⟩ = some (.int .i64 x2) ∧ w'.cell? ⟨b0, off0 + k * 7 + 5, none⟩ = some (.int .i64 x3) ∧ w'.cell? ⟨b0, off0 + k * 7 + 6, none⟩ = some (.int .i64 x4) from kx (by assumption) hb); (first | have hRw := (show Row _ _ 27 #[.slice none 0 0, .int .i64 0, .slice none 0 0] from Row.new _ _ _).keep hb | have hRw := (show Row _ _ 27 #[.slice none 0 0, .int .i64 0, .slice none 0 0] from rowd _ _ _).keep hb | skip); (try have cz0 := hRw.cell 0); (try have cz1 := hRw.cell 1); (try have cz2 := hRw.cell 2); (try have fz0 := hRw.frozen 0); (try have fz1 := hRw.frozen 1); (try have fz2 := hRw.frozen 2); (try have hRl := hRw.lt))
                  | fail "arm")
              all_goals
                go_wp2
                go_meet
                first
                  | exact ⟨w'.heap.size, 5, rfl, rfl, Lib.hid (.inr rfl), Lib.hid (Gen.b_alloc hS1.1)⟩
                  | exact ⟨wr.heap.size, 5, rfl, rfl, Lib.hid (.inr rfl), Lib.hid (below_set3 hS1.1 (Nat.le_refl _))⟩
          case rest =>
            obtain ⟨g8, E, rfl, rfl, HE, HB8⟩ := hcut
            have HLX := Lib.hid (HL.out.keep HB8.out).next
            have hE0 : (E == 0) = false := by rw [beq_eq_false_iff_ne]; rcases HE.out with h | h <;> omega
            go_wp2
            go_roundw
            case rel => exact ⟨k + 1, A, n, c, q, A2, n2, c2, S, H, by omega, by go_num, HLX⟩
            case measure => simp [intOf]; omega
    · obtain rfl : k = m := by omega
      have d0 := HL.out.r.cell 0
      have d1 := HL.out.r.cell 1
      have d2 := HL.out.r.cell 2
      have HNB := Lib.hid HL.out.wq.hb
      go_wp2_with (fail)
      go_must (refine (wq_again' HL.out.wq).mono ?_)
      rintro e w2 ⟨Ag, mg, cg, rfl, hmg, hag, hb2, hab⟩
      have HL2 := Lib.hid (HL.out.keep hb2)
      have HG2 := Lib.hid (Nat.lt_of_lt_of_le HL.out.r.lt hb2.size)
      have HMG := Lib.hid hmg
      have HAG := Lib.hid hag
      have HABG := Lib.hid (show ∀ a, Ag = some a → a.block ≠ w1.heap.size from fun a e => by have := hab a e; have := HL.out.r.lt; omega)
      have HLEN := Lib.hid (show mg ≤ n from by rw [← hmg, ← HL.out.wq.hl]; exact ag_len H)
      have HBB := Lib.hid hb2
      clear hmg hag hab hb2 d0 d1 d2
      have d0 := HL2.out.r.cell 0
      have d1 := HL2.out.r.cell 1
      have d2 := HL2.out.r.cell 2
      go_wp2_with (fail)
      go_must (refine (wq_flight' HL2.out.wq).mono ?_)
      rintro e w3 ⟨Af, mf, cf, rfl, hmf, hef, hb3, hab3⟩
      have HL3 := Lib.hid (HL2.out.keep hb3)
      have HMF := Lib.hid hmf
      have HSTART := Lib.hid (show Lg w w3 w1.heap.size w3.heap.size A n c q A2 n2 c2 S H H t 0 q Ag Af none 0 0 from ⟨HL3.out.wq, HL3.out.r, by rw [List.drop_take, Nat.sub_self]; exact own_nil 0 _ _ _, by omega, Tn.start _ _, HAG.out.keep hb3, hef, fun h0 a e => ⟨HABG.out a e, Nat.lt_of_lt_of_le (ints_lt HAG.out h0 a e) hb3.size⟩, fun h0 a e => ⟨by have := hab3 a e; have := HL2.out.r.lt; omega, ens_lt hef h0 a e⟩, HL3.out.bl, HL3.out.wg, HL3.out.r.lt⟩)
      have hnB := HNB.out
      have hmg2 := HLEN.out
      clear hmf hef hab3 hb3 d0 d1 d2 HL2 HL3 HAG HABG HBB HL HNB HLEN HA HM
      have HBW := Lib.hid (Nat.le_refl w3.heap.size)
      obtain ⟨B, hB⟩ : ∃ B, w3.heap.size = B := ⟨_, rfl⟩
      rw [hB] at HSTART
      have HBW := Lib.hid (show B ≤ w3.heap.size by omega)
      clear hB
      go_wp2
      go_loopw [15, 16] (fun gv iv wr => ∃ (i : Nat) (A' : Option Addr) (c' q' : Nat) (B' : Option Addr) (n' k' : Nat) (H' : List Bool) (A5 : Option Addr) (gl c5 : Nat), i ≤ mg ∧ iv = .int .i64 i ∧ gv = .slice A5 gl c5 ∧ Hid (B ≤ wr.heap.size) ∧ Hid (Lg w wr w1.heap.size B A' n c' q' B' n' k' S H' H t i q Ag Af A5 gl c5)) (fun _ iv _ => mg - (intOf iv).toNat)
      case atStart => exact ⟨0, A, c, q, A2, n2, c2, H, none, 0, 0, Nat.zero_le _, rfl, rfl, HBW, HSTART⟩
      case round =>
        clear HSTART HBW
        obtain ⟨i, A', c', q', B', n', k', H', A5, gl, c5, hi, rfl, rfl, HBS, HG⟩ := hrel
        have i0' : (0 : Int) ≤ (i : Int) := by omega
        by_cases hlt : i < mg
        · have hltI : (i : Int) < (mg : Int) := by omega
          obtain ⟨p, hp1, hp2, hp3, hp4⟩ := HG.out.tn.next (by rw [HMG.out]; exact hlt)
          obtain ⟨b0, off0, hA0, hcell⟩ := HG.out.ia (by rw [HMG.out]; omega)
          subst hA0
          have a0 := hcell _ _ hp1
          rw [HMG.out] at a0
          have HP2 := Lib.hid hp2
          have HP3 := Lib.hid hp3
          have HP4 := Lib.hid hp4
          clear hcell hp1 hp2 hp3 hp4
          have hrlt := Nat.mod_lt (i + t) (show 0 < mg by omega)
          obtain ⟨r, hr⟩ : ∃ r, (i + t) % mg = r := ⟨_, rfl⟩
          have hmod : ((i : Int) + (t : Int)) % (mg : Int) = (r : Int) := by rw [← hr]; simp
          rw [hr] at a0 hrlt
          clear hr
          have hr0 : (0 : Int) ≤ (r : Int) := by omega
          have hrltI : (r : Int) < (mg : Int) := by omega
          have hmgI : (mg : Int) ≠ 0 := by omega
          have d0 := HG.out.r.cell 0
          have d1 := HG.out.r.cell 1
          have d2 := HG.out.r.cell 2
          go_upto_region 23 with (fail)
          go_wp2_with (fail)
          go_must (refine (wq_ok HG.out.wq HP2.out).mono ?_)
          rintro e w4 ⟨Ax, cx, qx, Bx, nx1, kx1, D, m1, l1, rfl, hW, hmm, hED, hb4, hab1, hab2, hab3⟩
          have HW4 := Lib.hid hW
          have HMM := Lib.hid hmm
          have HED := Lib.hid hED
          have HB4 := Lib.hid hb4
          have HA1 := Lib.hid hab1
          have HA2 := Lib.hid hab2
          clear hW hmm hED hb4 hab1 hab2 hab3 a0 d0 d1 d2
          go_upto_region 24 with (fail)
          go_wp2_with (fail)
          go_must (refine (wq_twice (HW4.out.keep (Gen.b_alloc (Below.refl _ _))) HP4.out).mono ?_)
          rintro e w6 ⟨rfl, hb6⟩
          have HB6 := Lib.hid (Gen.over hb6 (Gen.b_alloc HB4.out))
          have HB6' := Lib.hid (Gen.over hb6 (Gen.b_alloc (Below.refl _ _)))
          have HR6 := Lib.hid ((Row.new _ _ _).keep hb6)
          have HZ4 := Lib.hid HB4.out.size
          clear hb6
          have HMB := Lib.hid (show m1 ≤ 1000000 ∧ gl ≤ 1000000 from by
            have h1 := dlv_ends (S := S) (by rw [HG.out.wq.hl, HG.out.wq.hn]) HP2.out
            have h2 := h1.2.2
            rw [HMM.out] at h2
            have h3 := nx_le (H'.set p true)
            rw [List.length_set, HG.out.wq.hl] at h3
            have h4 := HG.out.gl
            have h5 := nx_le H'
            rw [HG.out.wq.hl, HG.out.wq.hq] at h5
            have h6 := HG.out.wq.hb
            omega)
          have HGB := Lib.hid (Nat.lt_of_lt_of_le HG.out.r.lt HB6.out.size)
          go_upto_region 28 with (first
            | (at_builtin
               go_must (refine App.wpList_append_any _ rfl (.tmp 114) (.tmp 115) _ rfl B 36 i0 _ 5 40 Try.underlying22 hi0 hz0 hz1 hz2 rfl (by omega) (.slice A5 gl c5) gl (((S.take q').drop q).flatMap ecs) rfl (Gen.own_keep HG.out.o5 (Gen.b_alloc HB6.out)) _ D m1 l1 ((dlv S H' p).flatMap ecs) rfl (ens_reads HMM.out (HED.out.keep (Gen.b_alloc HB6'.out))) (ecs_one _) (by have := HMB.out; simp only [maxLen]; omega) (by have := HMB.out; omega) (by have := HB6.out.size; have := HBS.out; simp; omega) ?_
                        intro v5 w5 hown5 hg5 hat5
                        obtain ⟨A7, c7, rfl, _⟩ := Gen.own_slice hown5
                        have hLn := HG.out.got HP2.out HP3.out (Gen.b_alloc HB6.out) (HW4.out.keep (Gen.b_alloc HB6'.out)) HA1.out HA2.out hown5 HMM.out hg5
                        have hr8 := Gen.g_rowUp (g := w4.heap.size) HG.out.o5 hg5 HZ4.out (HR6.out.alloc _)
                        have hrg := Gen.g_row (g := w1.heap.size) HG.out.o5 hg5 HG.out.gB ((HG.out.r.keep HB6.out).alloc _)
                        have HLN := Lib.hid hLn
                        have HR85 := Lib.hid hr8
                        have HRG5 := Lib.hid hrg
                        have HBN := Lib.hid (show B ≤ (((w5.setCell ⟨w1.heap.size, 0, none⟩ (.slice Ax n cx)).setCell ⟨w1.heap.size, 1, none⟩ (.int .i64 (qx : Int))).setCell ⟨w1.heap.size, 2, none⟩ (.slice Bx nx1 kx1)).heap.size from by have h1 := HBS.out; have h2 := HB6.out.size; have h3 := hg5.size; simp at h3 ⊢; omega)
                        clear hown5 hg5 hat5 hLn hr8 hrg))
            | fail)
          have e0 := HR85.out.cell 0
          have e1 := HR85.out.cell 1
          have e2 := HR85.out.cell 2
          have k0' := HRG5.out.cell 0
          have k1 := HRG5.out.cell 1
          have k2 := HRG5.out.cell 2
          have f0 := HRG5.out.frozen 0
          have f1 := HRG5.out.frozen 1
          have f2 := HRG5.out.frozen 2
          have fl := HRG5.out.lt
          go_wp2
          go_roundw
          case rel => exact ⟨i + 1, Ax, cx, qx, Bx, nx1, kx1, (H'.set p true), A7, gl + m1, c7, by omega, by go_num, rfl, HBN, HLN⟩
          case measure => simp [intOf]; omega
        · obtain rfl : i = mg := by omega
          have hst := Lg.stop (show Lg w wr w1.heap.size B A' n c' q' B' n' k' S H' H t (ag H).length q Ag Af A5 gl c5 from by rw [HMG.out]; exact HG.out)
          obtain ⟨hqn, hag0, hgot, hng⟩ := hst
          subst hqn
          have HLS := Lib.hid (show (S.drop q).length = gl from by rw [List.length_drop, HG.out.wq.hn]; omega)
          obtain rfl : gl = mf := by rw [← HLS.out, HMF.out]
          have HO5 := Lib.hid (show Ens wr A5 (S.drop q) from ens_own HLS.out (by rw [← hgot]; exact HG.out.o5))
          have HD1 := Lib.hid (show (S.drop q').length = 0 from by rw [List.length_drop, HG.out.wq.hn, Nat.sub_self])
          have HAG0 := Lib.hid hag0
          have hglb : gl ≤ 1000000 := by have := HG.out.wq.hb; omega
          have HBL := Lib.hid HG.out.bl
          clear hgot hag0 hng
          go_upto_region 29 with (fail)
          have HS3 := Lib.hid (show Below wr.heap.size wr wr.drew ∧ wr.drew.cell? ⟨w1.heap.size, 0, none⟩ = some (.slice A' q' c') ∧ wr.drew.cell? ⟨w1.heap.size, 1, none⟩ = some (.int .i64 (q' : Int)) ∧ wr.drew.cell? ⟨w1.heap.size, 2, none⟩ = some (.slice B' n' k') from ⟨(Below.refl _ _).drew, HG.out.r.cell 0, HG.out.r.cell 1, HG.out.r.cell 2⟩)
          go_cut [4] (fun cv wy => cv = .bool true ∧ Hid (Below wr.heap.size wr wy))
          case first =>
            go_region_held3 (fun W' : World => Below wr.heap.size wr W' ∧ W'.cell? ⟨w1.heap.size, 0, none⟩ = some (.slice A' q' c') ∧ W'.cell? ⟨w1.heap.size, 1, none⟩ = some (.int .i64 (q' : Int)) ∧ W'.cell? ⟨w1.heap.size, 2, none⟩ = some (.slice B' n' k'))
              (first | exact HS3.out | exact k3 (by assumption) (by assumption) | fail "keep")
              (first
                | (go_at_call 16; with_reducible refine (same_eq (l := S.drop q) _ HLS.out (HO5.out.keep (And.left (by assumption))) (HG.out.ef.keep (And.left (by assumption))) hglb).mono ?_; rintro e' z1 ⟨rfl, hz1⟩)
                | (go_at_call 12; with_reducible refine (wq_flight' (HG.out.wq.keep (And.left (by assumption)))).mono ?_; rintro e' z2 ⟨Ae, me, ce, rfl, hme, hEe, hz2, hab⟩; rw [HD1.out] at hme; subst hme)
                | (go_at_call 13; with_reducible refine (wq_again' (HG.out.wq.keep (And.left (by assumption)))).mono ?_; rintro e' z3 ⟨Ae3, me3, ce3, rfl, hme3, hIe, hz3, hab3⟩; rw [HAG0.out] at hme3; subst hme3)
                | fail "arm")
            all_goals
              rename_i hKK
              go_wp2
              go_meet
              exact ⟨rfl, Lib.hid hKK.1⟩
          case rest =>
            obtain ⟨rfl, HB5⟩ := hcut
            have HBF := Lib.hid (Gen.over HB5.out HBL.out)
            go_wp2
            go_ret
            exact ⟨rfl, HBF.out⟩
theorem agains_any (w : World) (hm : ks.length = m) (ha : Acl w A0 ks) (hmb : m ≤ 9223372036854775807) (hu : 0 ≤ u ∧ u ≤ 255) :
    Calls Try.prog 5 #[.slice A0 m cap, .int .u8 u] w fun e w' => e = .returned (.bool true) ∧ Below w.heap.size w w' := by
  by_cases h : m ≤ 40
  · exact again_b w hm ha h hu
  · exact again_a w hm ha hmb (by omega)
end
end Go.Proofs.Ytefikmfogbdhpaa.Po
