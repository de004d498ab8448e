/- PostOnce returns true: every list of things that happen; no condition. -/
import Derived.Test.YtefikmfogbdhpaaPoK
import Derived.Test.YtefikmfogbdhpaaPoN
import Derived.Deep.DeepCutAuto
namespace Go.Proofs.Ytefikmfogbdhpaa.Po
open Go.ChangeShapes Go.WideShapes Go.ChangeAt Go.RowKit Go.Proofs.Ytefikmfogbdhpaa.Cell
set_option linter.unusedVariables false
set_option linter.unusedSimpArgs false
theorem k3 {v W W1 : World} {g : Nat} {a b d : Value} (h : Below v.heap.size v W ∧ W.cell? ⟨g, 0, none⟩ = some a ∧ W.cell? ⟨g, 1, none⟩ = some b ∧ W.cell? ⟨g, 2, none⟩ = some d) (hb : Below W.heap.size W W1) : Below v.heap.size v W1 ∧ W1.cell? ⟨g, 0, none⟩ = some a ∧ W1.cell? ⟨g, 1, none⟩ = some b ∧ W1.cell? ⟨g, 2, none⟩ = some d := by
  obtain ⟨h0, h1, h2, h3⟩ := h
  exact ⟨Gen.over hb h0, Gen.keep hb h1, Gen.keep hb h2, Gen.keep hb h3⟩
theorem qq_send {W W' : World} {A : Option Addr} {n c q : Nat} {A2 : Option Addr} {n2 c2 : Nat} {S : List En} {H : List Bool} {A' : Option Addr} {N c' q' : Nat} {B' : Option Addr} {n' k' : Nat} {S' : List En} (h : Wq W A n c q A2 n2 c2 S H) (h' : Wq W' A' N c' q' B' n' k' S' (H ++ [false])) : q' = q := by rw [← h'.hq, nx_send, h.hq]
theorem kx {v W W1 : World} {g b1 : Nat} {o1 o2 o3 o4 o5 o6 : Nat} {a b d e1 e2 e3 e4 e5 e6 : Value} (h : Below v.heap.size v W ∧ W.cell? ⟨g, 0, none⟩ = some a ∧ W.cell? ⟨g, 1, none⟩ = some b ∧ W.cell? ⟨g, 2, none⟩ = some d ∧ W.cell? ⟨b1, o1, none⟩ = some e1 ∧ W.cell? ⟨b1, o2, none⟩ = some e2 ∧ W.cell? ⟨b1, o3, none⟩ = some e3 ∧ W.cell? ⟨b1, o4, none⟩ = some e4 ∧ W.cell? ⟨b1, o5, none⟩ = some e5 ∧ W.cell? ⟨b1, o6, none⟩ = some e6) (hb : Below W.heap.size W W1) :
    Below v.heap.size v W1 ∧ W1.cell? ⟨g, 0, none⟩ = some a ∧ W1.cell? ⟨g, 1, none⟩ = some b ∧ W1.cell? ⟨g, 2, none⟩ = some d ∧ W1.cell? ⟨b1, o1, none⟩ = some e1 ∧ W1.cell? ⟨b1, o2, none⟩ = some e2 ∧ W1.cell? ⟨b1, o3, none⟩ = some e3 ∧ W1.cell? ⟨b1, o4, none⟩ = some e4 ∧ W1.cell? ⟨b1, o5, none⟩ = some e5 ∧ W1.cell? ⟨b1, o6, none⟩ = some e6 := by
  obtain ⟨h0, h1, h2, h3, h4, h5, h6, h7, h8, h9⟩ := h
  exact ⟨Gen.over hb h0, Gen.keep hb h1, Gen.keep hb h2, Gen.keep hb h3, Gen.keep hb h4, Gen.keep hb h5, Gen.keep hb h6, Gen.keep hb h7, Gen.keep hb h8, Gen.keep hb h9⟩
theorem kx_set {v W : World} {g b1 gg : Nat} {o1 o2 o3 o4 o5 o6 : Nat} {a b d e1 e2 e3 e4 e5 e6 v0 v1 v2 : Value} (h : Below v.heap.size v W ∧ W.cell? ⟨g, 0, none⟩ = some a ∧ W.cell? ⟨g, 1, none⟩ = some b ∧ W.cell? ⟨g, 2, none⟩ = some d ∧ W.cell? ⟨b1, o1, none⟩ = some e1 ∧ W.cell? ⟨b1, o2, none⟩ = some e2 ∧ W.cell? ⟨b1, o3, none⟩ = some e3 ∧ W.cell? ⟨b1, o4, none⟩ = some e4 ∧ W.cell? ⟨b1, o5, none⟩ = some e5 ∧ W.cell? ⟨b1, o6, none⟩ = some e6) (hg : v.heap.size ≤ gg) (h1 : g < v.heap.size) (h2 : b1 < v.heap.size) :
    Below v.heap.size v (((W.setCell ⟨gg, 0, none⟩ v0).setCell ⟨gg, 1, none⟩ v1).setCell ⟨gg, 2, none⟩ v2) ∧ (((W.setCell ⟨gg, 0, none⟩ v0).setCell ⟨gg, 1, none⟩ v1).setCell ⟨gg, 2, none⟩ v2).cell? ⟨g, 0, none⟩ = some a ∧ (((W.setCell ⟨gg, 0, none⟩ v0).setCell ⟨gg, 1, none⟩ v1).setCell ⟨gg, 2, none⟩ v2).cell? ⟨g, 1, none⟩ = some b ∧ (((W.setCell ⟨gg, 0, none⟩ v0).setCell ⟨gg, 1, none⟩ v1).setCell ⟨gg, 2, none⟩ v2).cell? ⟨g, 2, none⟩ = some d ∧ (((W.setCell ⟨gg, 0, none⟩ v0).setCell ⟨gg, 1, none⟩ v1).setCell ⟨gg, 2, none⟩ v2).cell? ⟨b1, o1, none⟩ = some e1 ∧ (((W.setCell ⟨gg, 0, none⟩ v0).setCell ⟨gg, 1, none⟩ v1).setCell ⟨gg, 2, none⟩ v2).cell? ⟨b1, o2, none⟩ = some e2 ∧ (((W.setCell ⟨gg, 0, none⟩ v0).setCell ⟨gg, 1, none⟩ v1).setCell ⟨gg, 2, none⟩ v2).cell? ⟨b1, o3, none⟩ = some e3 ∧ (((W.setCell ⟨gg, 0, none⟩ v0).setCell ⟨gg, 1, none⟩ v1).setCell ⟨gg, 2, none⟩ v2).cell? ⟨b1, o4, none⟩ = some e4 ∧ (((W.setCell ⟨gg, 0, none⟩ v0).setCell ⟨gg, 1, none⟩ v1).setCell ⟨gg, 2, none⟩ v2).cell? ⟨b1, o5, none⟩ = some e5 ∧ (((W.setCell ⟨gg, 0, none⟩ v0).setCell ⟨gg, 1, none⟩ v1).setCell ⟨gg, 2, none⟩ v2).cell? ⟨b1, o6, none⟩ = some e6 := by
  obtain ⟨h0, h3, h4, h5, h6, h7, h8, h9, h10, h11⟩ := h
  have c1 : g < gg := by omega
  have c2 : b1 < gg := by omega
  exact ⟨below_set3 h0 hg, keep_set3 h3 c1, keep_set3 h4 c1, keep_set3 h5 c1, keep_set3 h6 c2, keep_set3 h7 c2, keep_set3 h8 c2, keep_set3 h9 c2, keep_set3 h10 c2, keep_set3 h11 c2⟩
section
variable {A0 : Option Addr} {m cap : Nat} {ks : List Ac}
set_option maxRecDepth 100000 in
set_option maxHeartbeats 8000000 in
theorem once_a (w : World) (hm : ks.length = m) (ha : Acl w A0 ks) (hmb : m ≤ 9223372036854775807) (h60 : 60 < m) :
    Calls Try.prog 4 #[.slice A0 m cap] w fun e w' => e = .returned (.bool true) ∧ Below w.heap.size w w' := by
  have h60I : (60 : Int) < (m : Int) := by omega
  go_enter Try.func4, Try.ntmps4
  go_wp2_with (fail)
  go_must (refine (small43 _).mono ?_)
  rintro e w1 ⟨rfl, hb1⟩
  clear hm
  go_wp2
  go_ret
  exact ⟨rfl, hb1⟩
set_option maxRecDepth 100000 in
set_option maxHeartbeats 16000000 in
theorem once_b (w : World) (hm : ks.length = m) (ha : Acl w A0 ks) (h60 : m ≤ 60) :
    Calls Try.prog 4 #[.slice A0 m cap] w fun e w' => e = .returned (.bool true) ∧ Below w.heap.size w w' := by
  have h60I : (m : Int) ≤ 60 := by omega
  have HM := Lib.hid hm
  have HA := Lib.hid ha
  obtain ⟨i0, hi0, hz0, hz1, hz2⟩ := info_parts' infoE
  clear hm ha
  go_enter Try.func4, Try.ntmps4
  go_wp2_with (fail)
  go_must (refine (small43 _).mono ?_)
  rintro e w1 ⟨rfl, hb1⟩
  have HLO := Lib.hid (show Lo w (w1.alloc (.cells #[.slice none 0 0, .int .i64 0, .slice none 0 0] 27)) w1.heap.size (w1.heap.size + 1) 0 none 0 0 0 none 0 0 [] [] none 0 none 0 from ⟨Wq.nil _, Row.new _ _ _, own_nil 0 _ _ _, own_nil 0 _ _ _, fun g h => (by cases h), Nat.le_refl _, Gen.b_alloc hb1, by omega, hb1.size⟩)
  clear hb1
  go_wp2
  go_loopw [5, 6, 7] (fun sv gv iv wr => ∃ (k : Nat) (A : Option Addr) (n c q : Nat) (A2 : Option Addr) (n2 c2 : Nat) (S : List En) (H : List Bool) (A5 : Option Addr) (c5 : Nat) (A6 : Option Addr) (c6 : Nat), k ≤ m ∧ iv = .int .i64 k ∧ sv = .slice A5 n c5 ∧ gv = .slice A6 q c6 ∧ Hid (Lo w wr w1.heap.size (w1.heap.size + 1) k A n c q A2 n2 c2 S H A5 c5 A6 c6)) (fun _ _ iv _ => m - (intOf iv).toNat)
  case atStart => exact ⟨0, none, 0, 0, 0, none, 0, 0, [], [], none, 0, none, 0, Nat.zero_le _, rfl, rfl, rfl, HLO⟩
  case round =>
    clear HLO
    obtain ⟨k, A, n, c, q, A2, n2, c2, S, H, A5, c5, A6, c6, hk, rfl, rfl, rfl, HL⟩ := hrel
    have k0 : (0 : Int) ≤ (k : Int) := by omega
    have hnk := HL.out.nk
    have hqn := HL.out.qn
    by_cases hlt : k < m
    · have hltI : (k : Int) < (m : Int) := by omega
      obtain ⟨a, hak⟩ := at_ ks k (by rw [HM.out]; exact hlt)
      obtain ⟨b0, off0, hA0, hcell⟩ := (HA.out.keep HL.out.bl) (by rw [HM.out]; omega)
      subst hA0
      obtain ⟨a0, a1, a2, a3, a4, a5, a6⟩ := hcell k a hak
      clear hcell hak
      obtain ⟨kd, nu, ⟨x0, x1, x2, x3, x4⟩⟩ := a
      dsimp only at a0 a1 a2 a3 a4 a5 a6
      have HBL := Lib.hid (World.block_lt_of_cell? wr _ a0)
      have HG := Lib.hid HL.out.r.lt
      have HS0 : Hid (Below wr.heap.size wr wr ∧ wr.cell? ⟨w1.heap.size, 0, none⟩ = some (.slice A n c) ∧ wr.cell? ⟨w1.heap.size, 1, none⟩ = some (.int .i64 (q : Int)) ∧ wr.cell? ⟨w1.heap.size, 2, none⟩ = some (.slice A2 n2 c2) ∧ wr.cell? ⟨b0, off0 + k * 7 + 1, none⟩ = some (.int .i64 nu) ∧ wr.cell? ⟨b0, off0 + k * 7 + 2, none⟩ = some (.int .i64 x0) ∧ wr.cell? ⟨b0, off0 + k * 7 + 3, none⟩ = some (.int .i64 x1) ∧ wr.cell? ⟨b0, off0 + k * 7 + 4, none⟩ = some (.int .i64 x2) ∧ wr.cell? ⟨b0, off0 + k * 7 + 5, none⟩ = some (.int .i64 x3) ∧ wr.cell? ⟨b0, off0 + k * 7 + 6, none⟩ = some (.int .i64 x4)) := Lib.hid ⟨Below.refl _ _, HL.out.r.cell 0, HL.out.r.cell 1, HL.out.r.cell 2, a1, a2, a3, a4, a5, a6⟩
      have HSA := Lib.hid (show ∀ W' : World, Below wr.heap.size wr W' → Below wr.heap.size wr W' ∧ W'.cell? ⟨w1.heap.size, 0, none⟩ = some (.slice A n c) ∧ W'.cell? ⟨w1.heap.size, 1, none⟩ = some (.int .i64 (q : Int)) ∧ W'.cell? ⟨w1.heap.size, 2, none⟩ = some (.slice A2 n2 c2) ∧ W'.cell? ⟨b0, off0 + k * 7 + 1, none⟩ = some (.int .i64 nu) ∧ W'.cell? ⟨b0, off0 + k * 7 + 2, none⟩ = some (.int .i64 x0) ∧ W'.cell? ⟨b0, off0 + k * 7 + 3, none⟩ = some (.int .i64 x1) ∧ W'.cell? ⟨b0, off0 + k * 7 + 4, none⟩ = some (.int .i64 x2) ∧ W'.cell? ⟨b0, off0 + k * 7 + 5, none⟩ = some (.int .i64 x3) ∧ W'.cell? ⟨b0, off0 + k * 7 + 6, none⟩ = some (.int .i64 x4) from fun W' hb => kx HS0.out hb)
      by_cases hkd : kd = 0
      · have hkdT : (kd == 0) = true := by rw [hkd]; rfl
        have HKD := Lib.hid hkd
        clear hkd
        have hn60 : n < 10000 := by omega
        clear a1 a2 a3 a4 a5 a6
        go_upto_region 11 with (fail)
        clear a0
        go_cut [8, 9] (fun p ev wx => ∃ (g8 : Nat) (A' : Option Addr) (c' q' : Nat) (B' : Option Addr) (n' k' : Nat), p = .pointer (some ⟨g8, 0, none⟩) ∧ ev = .int .i64 0 ∧ Hid (wr.heap.size ≤ g8) ∧ Hid (Row wx g8 27 #[.slice A' (n + 1) c', .int .i64 (q' : Int), .slice B' n' k']) ∧ Hid (Wq wx A' (n + 1) c' q' B' n' k' (S ++ [⟨x0, x1, x2, x3, x4⟩]) (H ++ [false])) ∧ Hid (Below wr.heap.size wr wx) ∧ Hid (∀ a, A' = some a → wr.heap.size ≤ a.block) ∧ Hid (∀ a, B' = some a → wr.heap.size ≤ a.block))
        case first =>
          go_region_held3 (fun W' : World => Below wr.heap.size wr W' ∧ W'.cell? ⟨w1.heap.size, 0, none⟩ = some (.slice A n c) ∧ W'.cell? ⟨w1.heap.size, 1, none⟩ = some (.int .i64 (q : Int)) ∧ W'.cell? ⟨w1.heap.size, 2, none⟩ = some (.slice A2 n2 c2) ∧ W'.cell? ⟨b0, off0 + k * 7 + 1, none⟩ = some (.int .i64 nu) ∧ W'.cell? ⟨b0, off0 + k * 7 + 2, none⟩ = some (.int .i64 x0) ∧ W'.cell? ⟨b0, off0 + k * 7 + 3, none⟩ = some (.int .i64 x1) ∧ W'.cell? ⟨b0, off0 + k * 7 + 4, none⟩ = some (.int .i64 x2) ∧ W'.cell? ⟨b0, off0 + k * 7 + 5, none⟩ = some (.int .i64 x3) ∧ W'.cell? ⟨b0, off0 + k * 7 + 6, none⟩ = some (.int .i64 x4))
            (first | with_reducible exact hS1 | with_reducible exact kx_set (by assumption) (by first | exact Nat.le_refl _ | exact hS1.1.size) HG.out HBL.out | exact ⟨HS0.out.1.drew, HS0.out.2⟩ | exact kx (by assumption) (Gen.b_alloc (Below.refl _ _)) | fail "keep")
            (first
              | (go_at_call 10; (with_reducible refine (wq_send ⟨x0, x1, x2, x3, x4⟩ (HL.out.wq.keep (And.left (by assumption))) hn60).mono ?_); rintro e' w' ⟨A', c', q', B', n', k', rfl, hW, hb, hab1, hab2⟩; have hS1 := (show Below wr.heap.size wr w' ∧ w'.cell? ⟨w1.heap.size, 0, none⟩ = some (.slice A n c) ∧ w'.cell? ⟨w1.heap.size, 1, none⟩ = some (.int .i64 (q : Int)) ∧ w'.cell? ⟨w1.heap.size, 2, none⟩ = some (.slice A2 n2 c2) ∧ w'.cell? ⟨b0, off0 + k * 7 + 1, none⟩ = some (.int .i64 nu) ∧ w'.cell? ⟨b0, off0 + k * 7 + 2, none⟩ = some (.int .i64 x0) ∧ w'.cell? ⟨b0, off0 + k * 7 + 3, none⟩ = some (.int .i64 x1) ∧ w'.cell? ⟨b0, off0 + k * 7 + 4, none⟩ = some (.int .i64 x2) ∧ w'.cell? ⟨b0, off0 + k * 7 + 5, none⟩ = some (.int .i64 x3) ∧ w'.cell? ⟨b0, off0 + k * 7 + 6, none⟩ = some (.int .i64 x4) from kx (by assumption) hb); have hlo := Nat.le_trans (Below.size (And.left (by assumption))) hb.size; have hab1' : ∀ a, A' = some a → wr.heap.size ≤ a.block := (fun a h => Nat.le_trans (Below.size (And.left (by assumption))) (hab1 a h)); have hab2' : ∀ a, B' = some a → wr.heap.size ≤ a.block := (fun a h => Nat.le_trans (Below.size (And.left (by assumption))) (hab2 a h)); (first | have hRw := (show Row _ _ 27 #[.slice none 0 0, .int .i64 0, .slice none 0 0] from Row.new _ _ _).keep hb | have hRw := (show Row _ _ 27 #[.slice none 0 0, .int .i64 0, .slice none 0 0] from rowd _ _ _).keep hb | skip); (try have cz0 := hRw.cell 0); (try have cz1 := hRw.cell 1); (try have cz2 := hRw.cell 2); (try have fz0 := hRw.frozen 0); (try have fz1 := hRw.frozen 1); (try have fz2 := hRw.frozen 2); (try have hRl := hRw.lt))
              | fail "arm")
          all_goals
            go_wp2
            go_meet
            first
              | exact ⟨w'.heap.size, A', c', q', B', n', k', rfl, rfl, Lib.hid hlo, Lib.hid (Row.new _ _ _), Lib.hid (hW.keep (Gen.b_alloc (Below.refl _ _))), Lib.hid (Gen.b_alloc hS1.1), Lib.hid hab1', Lib.hid hab2'⟩
              | exact ⟨wr.heap.size, A', c', q', B', n', k', rfl, rfl, Lib.hid (Nat.le_refl _), Lib.hid (row_set3 hRw), Lib.hid (wq_set3 hW (fun a h => by have := hab1 a h; simp at this; omega) (fun a h => by have := hab2 a h; simp at this; omega)), Lib.hid (below_set3 hS1.1 (Nat.le_refl _)), Lib.hid hab1', Lib.hid hab2'⟩
        case rest =>
          obtain ⟨g8, A', c', q', B', n', k', rfl, rfl, HG8, HR8, HW8, HB8, HA8, HB8'⟩ := hcut
          have hs1 := HSA.out _ HB8.out
          obtain ⟨_, _, _, _, _, a2, a3, a4, a5, a6⟩ := hs1
          have d0 := HR8.out.cell 0
          have HO5 := Lib.hid (Gen.own_keep HL.out.o5 HB8.out)
          have hgl := HG.out
          go_upto_region 15 with (first
            | (at_builtin
               go_must (refine App.wpList_append_any _ rfl (.tmp 43) (.tmp 49) _ rfl (w1.heap.size + 1) 36 i0 _ 5 40 Try.underlying22 hi0 hz0 hz1 hz2 rfl (by omega) (.slice A5 n c5) n (S.flatMap ecs) rfl (Gen.own_keep HO5.out (Gen.b_alloc (Below.refl _ _))) _ (some ⟨_, 0, none⟩) 1 1 (ecs ⟨x0, x1, x2, x3, x4⟩) rfl (Gen.reads_blk rfl rfl) (ecs_one1 _) (by simp only [maxLen]; omega) (by omega) (by have := HB8.out.size; simp; omega) ?_
                        intro v5 w5 hown5 hg5 hat5
                        obtain ⟨A7, c7, rfl, _⟩ := Gen.own_slice hown5
                        have hLn := HL.out.sent HB8.out HW8.out HA8.out HB8'.out hown5 hg5 hat5
                        have hr8 := Gen.g_rowUp (g := g8) HL.out.o5 hg5 HG8.out (HR8.out.alloc _)
                        have hrg := Gen.g_row (g := w1.heap.size) HL.out.o5 hg5 (by omega) ((HL.out.r.keep HB8.out).alloc _)
                        have HLN := Lib.hid hLn
                        have HR85 := Lib.hid hr8
                        have HRG5 := Lib.hid hrg
                        clear hown5 hg5 hat5 hLn hr8 hrg))
            | fail)
          clear a2 a3 a4 a5 a6 d0
          have e0 := HR85.out.cell 0
          have e1 := HR85.out.cell 1
          have e2 := HR85.out.cell 2
          have k0' := HRG5.out.cell 0
          have k1 := HRG5.out.cell 1
          have k2 := HRG5.out.cell 2
          have f0 := HRG5.out.frozen 0
          have f1 := HRG5.out.frozen 1
          have f2 := HRG5.out.frozen 2
          have fl := HRG5.out.lt
          go_wp2
          go_roundw
          case rel => exact ⟨k + 1, A', n + 1, c', q', B', n', k', _, _, A7, c7, A6, c6, by omega, by go_num, rfl, by rw [qq_send HL.out.wq HW8.out], HLN⟩
          case measure => simp [intOf]; omega
      · have hkdF : (kd == 0) = false := by simpa using hkd
        clear hkd a1 a2 a3 a4 a5 a6
        have HNL := Lib.hid (show H.length = n from HL.out.wq.hl)
        go_upto_region 16 with (fail)
        clear a0
        by_cases hok : ∃ p : Nat, nu = p ∧ H[p]? = some false
        · obtain ⟨p, rfl, hp⟩ := hok
          have HP := Lib.hid hp
          have hpn : p < n := by have := lt_of_at hp; rw [HNL.out] at this; exact this
          clear hp
          go_cut [10, 11, 12] (fun pv lv ev wx => ∃ (g8 : Nat) (A' : Option Addr) (c' q' : Nat) (B' : Option Addr) (n' k' : Nat) (D : Option Addr) (mm l : Nat), pv = .pointer (some ⟨g8, 0, none⟩) ∧ lv = .slice D mm l ∧ ev = .int .i64 0 ∧ Hid (wr.heap.size ≤ g8) ∧ Hid (Row wx g8 27 #[.slice A' n c', .int .i64 (q' : Int), .slice B' n' k']) ∧ Hid (Wq wx A' n c' q' B' n' k' S (H.set p true)) ∧ Hid (Below wr.heap.size wr wx) ∧ Hid (∀ a, A' = some a → wr.heap.size ≤ a.block) ∧ Hid (∀ a, B' = some a → wr.heap.size ≤ a.block) ∧ Hid ((dlv S H p).length = mm) ∧ Hid (Ens wx D (dlv S H p)))
          case first =>
            go_region_held3 (fun W' : World => Below wr.heap.size wr W' ∧ W'.cell? ⟨w1.heap.size, 0, none⟩ = some (.slice A n c) ∧ W'.cell? ⟨w1.heap.size, 1, none⟩ = some (.int .i64 (q : Int)) ∧ W'.cell? ⟨w1.heap.size, 2, none⟩ = some (.slice A2 n2 c2) ∧ W'.cell? ⟨b0, off0 + k * 7 + 1, none⟩ = some (.int .i64 (p : Int)) ∧ W'.cell? ⟨b0, off0 + k * 7 + 2, none⟩ = some (.int .i64 x0) ∧ W'.cell? ⟨b0, off0 + k * 7 + 3, none⟩ = some (.int .i64 x1) ∧ W'.cell? ⟨b0, off0 + k * 7 + 4, none⟩ = some (.int .i64 x2) ∧ W'.cell? ⟨b0, off0 + k * 7 + 5, none⟩ = some (.int .i64 x3) ∧ W'.cell? ⟨b0, off0 + k * 7 + 6, none⟩ = some (.int .i64 x4))
              (first | with_reducible exact hS1 | with_reducible exact kx_set (by assumption) (by first | exact Nat.le_refl _ | exact hS1.1.size) HG.out HBL.out | exact ⟨HS0.out.1.drew, HS0.out.2⟩ | exact kx (by assumption) (Gen.b_alloc (Below.refl _ _)) | fail "keep")
              (first
                | (go_at_call 11; (with_reducible refine (wq_ok (HL.out.wq.keep (And.left (by assumption))) HP.out).mono ?_); rintro e' w' ⟨A', c', q', B', n', k', D, mm, l, rfl, hW, hmm, hED, hb, hab1, hab2, hab3⟩; have hS1 := (show Below wr.heap.size wr w' ∧ w'.cell? ⟨w1.heap.size, 0, none⟩ = some (.slice A n c) ∧ w'.cell? ⟨w1.heap.size, 1, none⟩ = some (.int .i64 (q : Int)) ∧ w'.cell? ⟨w1.heap.size, 2, none⟩ = some (.slice A2 n2 c2) ∧ w'.cell? ⟨b0, off0 + k * 7 + 1, none⟩ = some (.int .i64 (p : Int)) ∧ w'.cell? ⟨b0, off0 + k * 7 + 2, none⟩ = some (.int .i64 x0) ∧ w'.cell? ⟨b0, off0 + k * 7 + 3, none⟩ = some (.int .i64 x1) ∧ w'.cell? ⟨b0, off0 + k * 7 + 4, none⟩ = some (.int .i64 x2) ∧ w'.cell? ⟨b0, off0 + k * 7 + 5, none⟩ = some (.int .i64 x3) ∧ w'.cell? ⟨b0, off0 + k * 7 + 6, none⟩ = some (.int .i64 x4) from kx (by assumption) hb); have hlo := Nat.le_trans (Below.size (And.left (by assumption))) hb.size; have hab1' : ∀ a, A' = some a → wr.heap.size ≤ a.block := (fun a h => Nat.le_trans (Below.size (And.left (by assumption))) (hab1 a h)); have hab2' : ∀ a, B' = some a → wr.heap.size ≤ a.block := (fun a h => Nat.le_trans (Below.size (And.left (by assumption))) (hab2 a h)); (first | have hRw := (show Row _ _ 27 #[.slice none 0 0, .int .i64 0, .slice none 0 0] from Row.new _ _ _).keep hb | have hRw := (show Row _ _ 27 #[.slice none 0 0, .int .i64 0, .slice none 0 0] from rowd _ _ _).keep hb | skip); (try have cz0 := hRw.cell 0); (try have cz1 := hRw.cell 1); (try have cz2 := hRw.cell 2); (try have fz0 := hRw.frozen 0); (try have fz1 := hRw.frozen 1); (try have fz2 := hRw.frozen 2); (try have hRl := hRw.lt))
                | fail "arm")
            all_goals
              go_wp2
              go_meet
              first
                | exact ⟨w'.heap.size, A', c', q', B', n', k', D, mm, l, rfl, rfl, rfl, Lib.hid hlo, Lib.hid (Row.new _ _ _), Lib.hid (hW.keep (Gen.b_alloc (Below.refl _ _))), Lib.hid (Gen.b_alloc hS1.1), Lib.hid hab1', Lib.hid hab2', Lib.hid hmm, Lib.hid (hED.keep (Gen.b_alloc (Below.refl _ _)))⟩
                | exact ⟨wr.heap.size, A', c', q', B', n', k', D, mm, l, rfl, rfl, rfl, Lib.hid (Nat.le_refl _), Lib.hid (row_set3 hRw), Lib.hid (wq_set3 hW (fun a h => by have := hab1 a h; simp at this; omega) (fun a h => by have := hab2 a h; simp at this; omega)), Lib.hid (below_set3 hS1.1 (Nat.le_refl _)), Lib.hid hab1', Lib.hid hab2', Lib.hid hmm, Lib.hid (ens_set3 hED (fun a h => by have := hab3 a h; simp at this; omega))⟩
          case rest =>
          obtain ⟨g8, A', c', q', B', n', k', D, mm, l, rfl, rfl, rfl, HG8, HR8, HW8, HB8, HA8, HB8', HMM, HED⟩ := hcut
          have hqm : q + mm ≤ 60 := by
            obtain ⟨d1, d2, d3⟩ := dlv_ends (S := S) (by rw [HL.out.wq.hl, HL.out.wq.hn]) HP.out
            rw [HMM.out, HW8.out.hq, HL.out.wq.hq] at d3
            have hx := nx_le (H.set p true)
            rw [List.length_set, HW8.out.hq, HNL.out] at hx
            omega
          have HO6 := Lib.hid (Gen.own_keep HL.out.o6 HB8.out)
          have hgl := HG.out
          go_upto_region 21 with (first
            | (at_builtin
               go_must (refine App.wpList_append_any _ rfl (.tmp 101) (.tmp 102) _ rfl (w1.heap.size + 1) 36 i0 _ 5 40 Try.underlying22 hi0 hz0 hz1 hz2 rfl (by omega) (.slice A6 q c6) q ((S.take q).flatMap ecs) rfl HO6.out _ D mm l ((dlv S H p).flatMap ecs) rfl (ens_reads HMM.out HED.out) (ecs_one _) (by simp only [maxLen]; omega) (by omega) (by have := HB8.out.size; omega) ?_
                        intro v5 w5 hown5 hg5 hat5
                        obtain ⟨A7, c7, rfl, _⟩ := Gen.own_slice hown5
                        have hLn := HL.out.got HP.out HB8.out HW8.out HA8.out HB8'.out hown5 HMM.out hg5 hat5
                        have hr8 := Gen.g_rowUp (g := g8) HL.out.o6 hg5 HG8.out HR8.out
                        have hrg := Gen.g_row (g := w1.heap.size) HL.out.o6 hg5 (by omega) (HL.out.r.keep HB8.out)
                        have HLN := Lib.hid hLn
                        have HR85 := Lib.hid hr8
                        have HRG5 := Lib.hid hrg
                        clear hown5 hg5 hat5 hLn hr8 hrg))
            | fail)
          have e0 := HR85.out.cell 0
          have e1 := HR85.out.cell 1
          have e2 := HR85.out.cell 2
          have k0' := HRG5.out.cell 0
          have k1 := HRG5.out.cell 1
          have k2 := HRG5.out.cell 2
          have f0 := HRG5.out.frozen 0
          have f1 := HRG5.out.frozen 1
          have f2 := HRG5.out.frozen 2
          have fl := HRG5.out.lt
          go_upto_region 22 with (fail)
          clear e0 e1 e2 k0' k1 k2 f0 f1 f2 fl
          obtain ⟨hqq, hLN⟩ := HLN.out
          rw [hqq]
          have HQQ := Lib.hid hqq
          clear hqq
          have HLX := Lib.hid hLN
          clear hLN HLN HRG5 HR85
          have d0 := HLX.out.r.cell 0
          have d1 := HLX.out.r.cell 1
          have d2 := HLX.out.r.cell 2
          have hq1 := HLX.out.qn
          have hn60 := HLX.out.nk
          have hqF : ¬ (n : Int) < (q' : Int) := by omega
          go_wp2_with (fail)
          go_must (refine (wq_right HLX.out.wq).mono ?_)
          rintro e w3 ⟨rfl, hb3⟩
          have HLY := Lib.hid (HLX.out.keep hb3)
          clear hb3 d0 d1 d2 HLX
          go_upto_region 24 with (fail)
          have HQ := Lib.hid HLY.out.wq.hq
          have HD1 := Lib.hid (show (S.take (q')).length = q' by rw [List.length_take, HLY.out.wq.hn]; omega)
          have HD2 := Lib.hid (show (S.drop (q')).length = n - (q') by rw [List.length_drop, HLY.out.wq.hn])
          have HE6 := Lib.hid (ens_own HD1.out HLY.out.o6)
          have HE5 := Lib.hid (ens_pre (ens_own HLY.out.wq.hn HLY.out.o5) (q'))
          have HE5r := Lib.hid (ens_rest (ens_own HLY.out.wq.hn HLY.out.o5) (q'))
          have hc5 := own_cap HLY.out.o5
          have hq0 : (0 : Int) ≤ (q' : Int) := by omega
          have hq2 : (q' : Int) ≤ (c5 : Int) := by omega
          have hq3 : (q' : Int) ≤ (n : Int) := by omega
          have hnm : n - (q') ≤ 1000000 := by omega
          have HS3 := Lib.hid (show Below w3.heap.size w3 w3.drew ∧ w3.drew.cell? ⟨w1.heap.size, 0, none⟩ = some (.slice A' n c') ∧ w3.drew.cell? ⟨w1.heap.size, 1, none⟩ = some (.int .i64 (q' : Int)) ∧ w3.drew.cell? ⟨w1.heap.size, 2, none⟩ = some (.slice B' n' k') from ⟨(Below.refl _ _).drew, HLY.out.r.cell 0, HLY.out.r.cell 1, HLY.out.r.cell 2⟩)
          go_cut [131] (fun cv wy => cv = .bool false ∧ Hid (Below w3.heap.size w3 wy))
          case first =>
            have HCK : Hid ((c5 = (q') ∧ n = (q')) ∨ ¬ c5 = (q')) := Lib.hid (by omega)
            by_cases hck : c5 = q'
            all_goals
              first | (have hcp3 : (c5 = q') = True := eq_true hck) | (have hcp3 : (c5 = q') = False := eq_false hck)
              first
                | (have HE5x := Lib.hid (show Ens w3 A5 (S.drop (q')) from fun h0 => by rw [HD2.out] at h0; omega))
                | (have HE5x := HE5r)
              clear hck
              go_region_held3 (fun W' : World => Below w3.heap.size w3 W' ∧ W'.cell? ⟨w1.heap.size, 0, none⟩ = some (.slice A' n c') ∧ W'.cell? ⟨w1.heap.size, 1, none⟩ = some (.int .i64 (q' : Int)) ∧ W'.cell? ⟨w1.heap.size, 2, none⟩ = some (.slice B' n' k'))
                (first | exact HS3.out | exact k3 (by assumption) (by assumption) | fail "keep")
                (first
                  | (go_at_call 16; with_reducible refine (same_eq (l := S.take (q')) _ HD1.out (HE6.out.keep (And.left (by assumption))) (HE5.out.keep (And.left (by assumption))) (by omega)).mono ?_; rintro e' z1 ⟨rfl, hz1⟩)
                  | (go_at_call 12; with_reducible refine (wq_flight (HLY.out.wq.keep (And.left (by assumption)))).mono ?_; rintro e' z2 ⟨Af, mf, cf, rfl, hmf, hEf, hz2⟩; rw [HQ.out] at hmf hEf; rw [HD2.out] at hmf; subst hmf)
                  | (go_at_call 16; with_reducible refine (same_eq (l := S.drop (q')) _ HD2.out hEf (HE5x.out.keep (And.left (by assumption))) hnm).mono ?_; rintro e' z3 ⟨rfl, hz3⟩)
                  | fail "arm")
              all_goals
                rename_i hKK
                go_wp2
                go_meet
                exact ⟨rfl, Lib.hid hKK.1⟩
          case rest =>
            obtain ⟨rfl, HB5⟩ := hcut
            have HLZ := Lib.hid (HLY.out.keep HB5.out).next
            go_wp2
            go_roundw
            case rel => exact ⟨k + 1, A', n, c', q', B', n', k', S, (H.set p true), A5, c5, A7, c7, by omega, by go_num, rfl, rfl, HLZ⟩
            case measure => simp [intOf]; omega
        · have hbad : (nu < 0 ∨ (n : Int) ≤ nu) ∨ ∃ p : Nat, nu = p ∧ H[p]? = some true := by
            by_cases h1 : nu < 0
            · exact .inl (.inl h1)
            · by_cases h2 : (n : Int) ≤ nu
              · exact .inl (.inr h2)
              · obtain ⟨p, rfl⟩ := Int.eq_ofNat_of_zero_le (show 0 ≤ nu by omega)
                rcases get_of_nx (H := H) (j := p) (by rw [HNL.out]; omega) with h | h
                · exact .inr ⟨p, rfl, h⟩
                · exact absurd ⟨p, rfl, h⟩ hok
          clear hok
          go_cut [10, 11, 12] (fun pv lv ev wx => ∃ (g8 : Nat) (E : Int), pv = .pointer (some ⟨g8, 0, none⟩) ∧ lv = .slice none 0 0 ∧ ev = .int .i64 E ∧ Hid ((E = 4 ∧ (nu < 0 ∨ (n : Int) ≤ nu)) ∨ (E = 5 ∧ 0 ≤ nu ∧ nu < n)) ∧ Hid (Below wr.heap.size wr wx))
          case first =>
            rcases hbad with hbad | ⟨p, rfl, hp⟩
            · have HBAD := Lib.hid hbad
              clear hbad
              go_region_held3 (fun W' : World => Below wr.heap.size wr W' ∧ W'.cell? ⟨w1.heap.size, 0, none⟩ = some (.slice A n c) ∧ W'.cell? ⟨w1.heap.size, 1, none⟩ = some (.int .i64 (q : Int)) ∧ W'.cell? ⟨w1.heap.size, 2, none⟩ = some (.slice A2 n2 c2) ∧ W'.cell? ⟨b0, off0 + k * 7 + 1, none⟩ = some (.int .i64 nu) ∧ W'.cell? ⟨b0, off0 + k * 7 + 2, none⟩ = some (.int .i64 x0) ∧ W'.cell? ⟨b0, off0 + k * 7 + 3, none⟩ = some (.int .i64 x1) ∧ W'.cell? ⟨b0, off0 + k * 7 + 4, none⟩ = some (.int .i64 x2) ∧ W'.cell? ⟨b0, off0 + k * 7 + 5, none⟩ = some (.int .i64 x3) ∧ W'.cell? ⟨b0, off0 + k * 7 + 6, none⟩ = some (.int .i64 x4))
                (first | with_reducible exact hS1 | with_reducible exact kx_set (by assumption) (by first | exact Nat.le_refl _ | exact hS1.1.size) HG.out HBL.out | exact ⟨HS0.out.1.drew, HS0.out.2⟩ | exact kx (by assumption) (Gen.b_alloc (Below.refl _ _)) | fail "keep")
                (first
                  | (go_at_call 11; (with_reducible refine (wq_none (HL.out.wq.keep (And.left (by assumption))) HBAD.out).mono ?_); rintro e' w' ⟨rfl, hb⟩; have hS1 := (show Below wr.heap.size wr w' ∧ w'.cell? ⟨w1.heap.size, 0, none⟩ = some (.slice A n c) ∧ w'.cell? ⟨w1.heap.size, 1, none⟩ = some (.int .i64 (q : Int)) ∧ w'.cell? ⟨w1.heap.size, 2, none⟩ = some (.slice A2 n2 c2) ∧ w'.cell? ⟨b0, off0 + k * 7 + 1, none⟩ = some (.int .i64 nu) ∧ w'.cell? ⟨b0, off0 + k * 7 + 2, none⟩ = some (.int .i64 x0) ∧ w'.cell? ⟨b0, off0 + k * 7 + 3, none⟩ = some (.int .i64 x1) ∧ w'.cell? ⟨b0, off0 + k * 7 + 4, none⟩ = some (.int .i64 x2) ∧ w'.cell? ⟨b0, off0 + k * 7 + 5, none⟩ = some (.int .i64 x3) ∧ w'.cell? ⟨b0, off0 + k * 7 + 6, none⟩ = some (.int .i64 x4) from kx (by assumption) hb); (first | have hRw := (show Row _ _ 27 #[.slice none 0 0, .int .i64 0, .slice none 0 0] from Row.new _ _ _).keep hb | have hRw := (show Row _ _ 27 #[.slice none 0 0, .int .i64 0, .slice none 0 0] from rowd _ _ _).keep hb | skip); (try have cz0 := hRw.cell 0); (try have cz1 := hRw.cell 1); (try have cz2 := hRw.cell 2); (try have fz0 := hRw.frozen 0); (try have fz1 := hRw.frozen 1); (try have fz2 := hRw.frozen 2); (try have hRl := hRw.lt))
                  | fail "arm")
              all_goals
                go_wp2
                go_meet
                first
                  | exact ⟨w'.heap.size, 4, rfl, rfl, rfl, Lib.hid (.inl ⟨rfl, HBAD.out⟩), Lib.hid (Gen.b_alloc hS1.1)⟩
                  | exact ⟨wr.heap.size, 4, rfl, rfl, rfl, Lib.hid (.inl ⟨rfl, HBAD.out⟩), Lib.hid (below_set3 hS1.1 (Nat.le_refl _))⟩
            · have HP := Lib.hid hp
              have hpn : p < n := by have := lt_of_at hp; rw [HNL.out] at this; exact this
              clear hp
              go_region_held3 (fun W' : World => Below wr.heap.size wr W' ∧ W'.cell? ⟨w1.heap.size, 0, none⟩ = some (.slice A n c) ∧ W'.cell? ⟨w1.heap.size, 1, none⟩ = some (.int .i64 (q : Int)) ∧ W'.cell? ⟨w1.heap.size, 2, none⟩ = some (.slice A2 n2 c2) ∧ W'.cell? ⟨b0, off0 + k * 7 + 1, none⟩ = some (.int .i64 (p : Int)) ∧ W'.cell? ⟨b0, off0 + k * 7 + 2, none⟩ = some (.int .i64 x0) ∧ W'.cell? ⟨b0, off0 + k * 7 + 3, none⟩ = some (.int .i64 x1) ∧ W'.cell? ⟨b0, off0 + k * 7 + 4, none⟩ = some (.int .i64 x2) ∧ W'.cell? ⟨b0, off0 + k * 7 + 5, none⟩ = some (.int .i64 x3) ∧ W'.cell? ⟨b0, off0 + k * 7 + 6, none⟩ = some (.int .i64 x4))
                (first | with_reducible exact hS1 | with_reducible exact kx_set (by assumption) (by first | exact Nat.le_refl _ | exact hS1.1.size) HG.out HBL.out | exact ⟨HS0.out.1.drew, HS0.out.2⟩ | exact kx (by assumption) (Gen.b_alloc (Below.refl _ _)) | fail "keep")
                (first
                  | (go_at_call 11; (with_reducible refine (wq_twice (HL.out.wq.keep (And.left (by assumption))) HP.out).mono ?_); rintro e' w' ⟨rfl, hb⟩; have hS1 := (show Below wr.heap.size wr w' ∧ w'.cell? ⟨w1.heap.size, 0, none⟩ = some (.slice A n c) ∧ w'.cell? ⟨w1.heap.size, 1, none⟩ = some (.int .i64 (q : Int)) ∧ w'.cell? ⟨w1.heap.size, 2, none⟩ = some (.slice A2 n2 c2) ∧ w'.cell? ⟨b0, off0 + k * 7 + 1, none⟩ = some (.int .i64 (p : Int)) ∧ w'.cell? ⟨b0, off0 + k * 7 + 2, none⟩ = some (.int .i64 x0) ∧ w'.cell? ⟨b0, off0 + k * 7 + 3, none⟩ = some (.int .i64 x1) ∧ w'.cell? ⟨b0, off0 + k * 7 + 4, none⟩ = some (.int .i64 x2) ∧ w'.cell? ⟨b0, off0 + k * 7 + 5, none⟩ = some (.int .i64 x3) ∧ w'.cell? ⟨b0, off0 + k * 7 + 6, none⟩ = some (.int .i64 x4) from kx (by assumption) hb); (first | have hRw := (show Row _ _ 27 #[.slice none 0 0, .int .i64 0, .slice none 0 0] from Row.new _ _ _).keep hb | have hRw := (show Row _ _ 27 #[.slice none 0 0, .int .i64 0, .slice none 0 0] from rowd _ _ _).keep hb | skip); (try have cz0 := hRw.cell 0); (try have cz1 := hRw.cell 1); (try have cz2 := hRw.cell 2); (try have fz0 := hRw.frozen 0); (try have fz1 := hRw.frozen 1); (try have fz2 := hRw.frozen 2); (try have hRl := hRw.lt))
                  | fail "arm")
              all_goals
                go_wp2
                go_meet
                first
                  | exact ⟨w'.heap.size, 5, rfl, rfl, rfl, Lib.hid (.inr ⟨rfl, by omega, by omega⟩), Lib.hid (Gen.b_alloc hS1.1)⟩
                  | exact ⟨wr.heap.size, 5, rfl, rfl, rfl, Lib.hid (.inr ⟨rfl, by omega, by omega⟩), Lib.hid (below_set3 hS1.1 (Nat.le_refl _))⟩
          case rest =>
          obtain ⟨g8, E, rfl, rfl, rfl, HE, HB8⟩ := hcut
          have HLX := Lib.hid (HL.out.keep HB8.out)
          have HC1 := Lib.hid (HSA.out _ HB8.out).2.2.2.2.1
          have hE0 : (E == 0) = false := by rw [beq_eq_false_iff_ne]; rcases HE.out with h | h <;> omega
          have hE1 : (E != 0) = true := by rw [bne_iff_ne]; rcases HE.out with h | h <;> omega
          go_upto_region 17 with (fail)
          go_cut [98] (fun cv wy => cv = .bool false ∧ Hid (Lo w wy w1.heap.size (w1.heap.size + 1) k A n c q A2 n2 c2 S H A5 c5 A6 c6))
          case first =>
            have c1 := HC1.out
            rcases HE.out with ⟨h1, h2 | h2⟩ | ⟨h1, h2, h3⟩
            · subst h1
              clear HE
              go_wp2
              go_meet
              exact ⟨rfl, HLX⟩
            · subst h1
              clear HE
              have hneg : ¬ nu < 0 := by omega
              go_wp2
              go_meet
              exact ⟨rfl, HLX⟩
            · subst h1
              clear HE
              have h4 : ¬ nu < 0 := by omega
              have h5 : ¬ (n : Int) ≤ nu := by omega
              go_wp2
              go_meet
              exact ⟨rfl, HLX⟩
          case rest =>
          clear HLX
          obtain ⟨rfl, HLX⟩ := hcut
          go_upto_region 22 with (fail)
          have d0 := HLX.out.r.cell 0
          have d1 := HLX.out.r.cell 1
          have d2 := HLX.out.r.cell 2
          have hq1 := HLX.out.qn
          have hn60 := HLX.out.nk
          have hqF : ¬ (n : Int) < (q : Int) := by omega
          go_wp2_with (fail)
          go_must (refine (wq_right HLX.out.wq).mono ?_)
          rintro e w3 ⟨rfl, hb3⟩
          have HLY := Lib.hid (HLX.out.keep hb3)
          clear hb3 d0 d1 d2 HLX
          go_upto_region 24 with (fail)
          have HQ := Lib.hid HLY.out.wq.hq
          have HD1 := Lib.hid (show (S.take (q)).length = q by rw [List.length_take, HLY.out.wq.hn]; omega)
          have HD2 := Lib.hid (show (S.drop (q)).length = n - (q) by rw [List.length_drop, HLY.out.wq.hn])
          have HE6 := Lib.hid (ens_own HD1.out HLY.out.o6)
          have HE5 := Lib.hid (ens_pre (ens_own HLY.out.wq.hn HLY.out.o5) (q))
          have HE5r := Lib.hid (ens_rest (ens_own HLY.out.wq.hn HLY.out.o5) (q))
          have hc5 := own_cap HLY.out.o5
          have hq0 : (0 : Int) ≤ (q : Int) := by omega
          have hq2 : (q : Int) ≤ (c5 : Int) := by omega
          have hq3 : (q : Int) ≤ (n : Int) := by omega
          have hnm : n - (q) ≤ 1000000 := by omega
          have HS3 := Lib.hid (show Below w3.heap.size w3 w3.drew ∧ w3.drew.cell? ⟨w1.heap.size, 0, none⟩ = some (.slice A n c) ∧ w3.drew.cell? ⟨w1.heap.size, 1, none⟩ = some (.int .i64 (q : Int)) ∧ w3.drew.cell? ⟨w1.heap.size, 2, none⟩ = some (.slice A2 n2 c2) from ⟨(Below.refl _ _).drew, HLY.out.r.cell 0, HLY.out.r.cell 1, HLY.out.r.cell 2⟩)
          go_cut [131] (fun cv wy => cv = .bool false ∧ Hid (Below w3.heap.size w3 wy))
          case first =>
            have HCK : Hid ((c5 = (q) ∧ n = (q)) ∨ ¬ c5 = (q)) := Lib.hid (by omega)
            by_cases hck : c5 = q
            all_goals
              first | (have hcp3 : (c5 = q) = True := eq_true hck) | (have hcp3 : (c5 = q) = False := eq_false hck)
              first
                | (have HE5x := Lib.hid (show Ens w3 A5 (S.drop (q)) from fun h0 => by rw [HD2.out] at h0; omega))
                | (have HE5x := HE5r)
              clear hck
              go_region_held3 (fun W' : World => Below w3.heap.size w3 W' ∧ W'.cell? ⟨w1.heap.size, 0, none⟩ = some (.slice A n c) ∧ W'.cell? ⟨w1.heap.size, 1, none⟩ = some (.int .i64 (q : Int)) ∧ W'.cell? ⟨w1.heap.size, 2, none⟩ = some (.slice A2 n2 c2))
                (first | exact HS3.out | exact k3 (by assumption) (by assumption) | fail "keep")
                (first
                  | (go_at_call 16; with_reducible refine (same_eq (l := S.take (q)) _ HD1.out (HE6.out.keep (And.left (by assumption))) (HE5.out.keep (And.left (by assumption))) (by omega)).mono ?_; rintro e' z1 ⟨rfl, hz1⟩)
                  | (go_at_call 12; with_reducible refine (wq_flight (HLY.out.wq.keep (And.left (by assumption)))).mono ?_; rintro e' z2 ⟨Af, mf, cf, rfl, hmf, hEf, hz2⟩; rw [HQ.out] at hmf hEf; rw [HD2.out] at hmf; subst hmf)
                  | (go_at_call 16; with_reducible refine (same_eq (l := S.drop (q)) _ HD2.out hEf (HE5x.out.keep (And.left (by assumption))) hnm).mono ?_; rintro e' z3 ⟨rfl, hz3⟩)
                  | fail "arm")
              all_goals
                rename_i hKK
                go_wp2
                go_meet
                exact ⟨rfl, Lib.hid hKK.1⟩
          case rest =>
            obtain ⟨rfl, HB5⟩ := hcut
            have HLZ := Lib.hid (HLY.out.keep HB5.out).next
            go_wp2
            go_roundw
            case rel => exact ⟨k + 1, A, n, c, q, A2, n2, c2, S, H, A5, c5, A6, c6, by omega, by go_num, rfl, rfl, HLZ⟩
            case measure => simp [intOf]; omega
    · obtain rfl : k = m := by omega
      go_wp2
      go_ret
      exact ⟨rfl, HL.out.bl⟩
theorem once_any (w : World) (hm : ks.length = m) (ha : Acl w A0 ks) (hmb : m ≤ 9223372036854775807) :
    Calls Try.prog 4 #[.slice A0 m cap] w fun e w' => e = .returned (.bool true) ∧ Below w.heap.size w w' := by
  by_cases h : m ≤ 60
  · exact once_b w hm ha h
  · exact once_a w hm ha hmb (by omega)
end
end Go.Proofs.Ytefikmfogbdhpaa.Po
