/- BreachWorst returns true: every two slices of breaches; no condition. -/
import Derived.Test.YtblegaclcpoonaaBrM
import Derived.Test.YtblegaclcpoonaaBrS
import Derived.Deep.QuietTactic
import Derived.BigQuiet
namespace Go.Proofs.Ytblegaclcpoonaa.Br
open Go.ChangeShapes Go.WideShapes Go.ChangeAt Go.RowKit
set_option linter.unusedVariables false

theorem own_slice {w : World} {base n : Nat} {v : Value} {xs : List Value} (h : w.ownsRow base 25 2 v n xs) : ∃ A c, v = .slice A n c ∧ App.Reads w w.heap.size 2 A n xs := by
  have h' := h
  rcases h'.2 with ⟨rfl, rfl⟩ | ⟨g, cap, cur, rfl, _⟩
  · exact ⟨none, 0, rfl, App.Reads.of_own h⟩
  · exact ⟨_, _, rfl, App.Reads.of_own h⟩
theorem info25 : (Try.prog.info? 25).map (fun i => (i.zero, i.size, i.bytes)) = some (some (.agg #[.int .i64 0, .int .i64 0]), 2, 16) := by kernel_rfl
theorem w_of {A : Option Addr} {n cap : Nat} {l : List (Int × Int)} {a b : Int} (w : World) (hn : l.length = n) (hc : Brs w A l) (hbig : n ≤ 1000000) (h : wrs l = (a, b)) :
    Calls Try.prog 24 #[.slice A n cap] w fun e w' => e = .returned (bv a b) ∧ Below w.heap.size w w' := by
  have hh := worst_any A n cap l w hn hc hbig
  rw [h] at hh
  exact hh
theorem r_is {s d : Int} {b : Bool} (h : okB s d = b) (w : World) : Calls Try.prog 22 #[bv s d] w fun e w' => e = .returned (.bool b) ∧ Below w.heap.size w w' := by
  have hh := right_any s d w
  rw [h] at hh
  exact hh

theorem dN {B : Nat} {w W : World} (h : Below B w W) (k : Nat) : Below B w (W.drewN k) := ⟨h.os, h.tape, h.output, h.size, h.block⟩
theorem held_e1 {w W W' : World} {p : Nat} {a b : Int} (hb : Below W.heap.size W W') (h : Below w.heap.size w W ∧ W.cell? ⟨p, 0, none⟩ = some (.int .i64 a) ∧ W.cell? ⟨p, 1, none⟩ = some (.int .i64 b)) : Below w.heap.size w W' ∧ W'.cell? ⟨p, 0, none⟩ = some (.int .i64 a) ∧ W'.cell? ⟨p, 1, none⟩ = some (.int .i64 b) := ⟨over hb h.1, keep hb _ _ _ h.2.1, keep hb _ _ _ h.2.2⟩
theorem held_al1 {w W : World} {o : Obj} {p : Nat} {a b : Int} (h : Below w.heap.size w W ∧ W.cell? ⟨p, 0, none⟩ = some (.int .i64 a) ∧ W.cell? ⟨p, 1, none⟩ = some (.int .i64 b)) : Below w.heap.size w (W.alloc o) ∧ (W.alloc o).cell? ⟨p, 0, none⟩ = some (.int .i64 a) ∧ (W.alloc o).cell? ⟨p, 1, none⟩ = some (.int .i64 b) := ⟨h.1.alloc h.1.size _, al h.2.1, al h.2.2⟩
theorem w_held {w W : World} {p : Nat} {a b : Int} {A : Option Addr} {n cap : Nat} {l : List (Int × Int)} {x y : Int} (h : Below w.heap.size w W ∧ W.cell? ⟨p, 0, none⟩ = some (.int .i64 a) ∧ W.cell? ⟨p, 1, none⟩ = some (.int .i64 b))
    (hn : l.length = n) (hc : Brs w A l) (hbig : n ≤ 1000000) (hx : wrs l = (x, y)) : Calls Try.prog 24 #[.slice A n cap] W fun e w' => e = .returned (bv x y) ∧ Below W.heap.size W w' :=
  w_of W hn (hc.keep h.1) hbig hx
theorem two_l {w : World} {g : Nat} {a b u v : Int} (h : Vote.Row w g 25 #[.int .i64 a, .int .i64 b, .int .i64 u, .int .i64 v]) : Brs w (some ⟨g, 0, none⟩) [(a, b), (u, v)] := fun _ =>
  ⟨g, 0, rfl, fun j p hp => by
    have hj : j < 2 := (List.getElem?_eq_some_iff.1 hp).1
    match j, hj, hp with
    | 0, _, hp => simp at hp; subst hp; exact ⟨by rw [h.cell]; rfl, by rw [h.cell]; rfl⟩
    | 1, _, hp => simp at hp; subst hp; exact ⟨by rw [h.cell]; rfl, by rw [h.cell]; rfl⟩⟩
theorem w_two {w : World} {g : Nat} {a b u v x y : Int} (h : Vote.Row w g 25 #[.int .i64 a, .int .i64 b, .int .i64 u, .int .i64 v]) (hx : wrs [(a, b), (u, v)] = (x, y)) :
    Calls Try.prog 24 #[.slice (some ⟨g, 0, none⟩) 2 2] w fun e w' => e = .returned (bv x y) ∧ Below w.heap.size w w' := w_of w rfl (two_l h) (by omega) hx

set_option maxRecDepth 100000 in
set_option maxHeartbeats 1000000 in
theorem wor_a (A : Option Addr) (n cap : Nat) (A' : Option Addr) (m cap' : Nat) (w : World) (h : 40 < n) :
    Calls Try.prog 7 #[.slice A n cap, .slice A' m cap'] w fun e w' => e = .returned (.bool true) ∧ Below w.heap.size w w' := by
  go_enter Try.func7, Try.ntmps7
  go_wp2_with (fail)
  refine (small_any _).mono ?_
  rintro e w1 ⟨rfl, hb⟩
  go_wp2
  go_ret
  exact ⟨rfl, hb⟩
set_option maxRecDepth 100000 in
set_option maxHeartbeats 1000000 in
theorem wor_b (A : Option Addr) (n cap : Nat) (A' : Option Addr) (m cap' : Nat) (w : World) (h0 : n ≤ 40) (h : 40 < m) :
    Calls Try.prog 7 #[.slice A n cap, .slice A' m cap'] w fun e w' => e = .returned (.bool true) ∧ Below w.heap.size w w' := by
  go_enter Try.func7, Try.ntmps7
  go_wp2_with (fail)
  refine (small_any _).mono ?_
  rintro e w1 ⟨rfl, hb⟩
  go_wp2
  go_ret
  exact ⟨rfl, hb⟩

set_option maxRecDepth 100000 in
set_option maxHeartbeats 4000000 in
theorem wor_c (A : Option Addr) (n cap : Nat) (l : List (Int × Int)) (A' : Option Addr) (m cap' : Nat) (more : List (Int × Int)) (w : World) (hn : l.length = n) (hm : more.length = m) (hc : Brs w A l) (hc' : Brs w A' more) (h0 : n ≤ 40) (h1 : m ≤ 40) :
    Calls Try.prog 7 #[.slice A n cap, .slice A' m cap'] w fun e w' => e = .returned (.bool true) ∧ Below w.heap.size w w' := by
  have HN := Lib.hid hn
  have HM := Lib.hid hm
  clear hn hm
  obtain ⟨i0, hi0, hz0, hz1, hz2⟩ := info_parts info25
  go_enter Try.func7, Try.ntmps7
  go_wp2_with (fail)
  refine (small_any _).mono ?_
  rintro e w1 ⟨rfl, hb1⟩
  have y1 : w.heap.size ≤ w1.heap.size := hb1.size
  have r1 := (hc'.keep hb1).reads
  have r2 := (hc.keep hb1).reads
  rw [HM.out] at r1
  rw [HN.out] at r2
  have hown : (w1.alloc (.cells #[] 25)).ownsRow w.heap.size 25 2 (.slice (some ⟨w1.heap.size, 0, none⟩) 0 0) 0 [] :=
    ⟨rfl, .inr ⟨w1.heap.size, 0, #[], rfl, y1, heap_alloc_new w1 _, Nat.le_refl _, by simp [maxLen], rfl, rfl⟩⟩
  go_wp2_with (first
    | (at_builtin
       refine App.wpList_append_any _ rfl (.tmp 21) (.tmp 22) _ rfl w.heap.size 25 i0 _ 2 16 Try.underlying22 hi0 hz0 hz1 hz2 rfl (by omega) _ 0 [] rfl
         hown w1.heap.size A' m cap' (bls more) rfl (r1.alloc (Nat.le_refl _) _) (bls_one more) (by simp only [maxLen]; omega) (by omega) (by simp; omega) ?_
       intro v2 w2 hown2 hg2 hat2
       replace hg2 : (w1.alloc (.cells #[] 25)).grownBy w2 (some w1.heap.size) := hg2
       replace hat2 : v2.ownBlock = some w1.heap.size ∨ v2.ownBlock = some (w1.alloc (.cells #[] 25)).heap.size := hat2
       have hb2 : Below w.heap.size w w2 := (hb1.alloc y1 _).grown hg2 (by simp; omega) (fun k e => by cases e; exact y1)
       have y2 : w.heap.size ≤ w2.heap.size := hb2.size
       have r3 := (r2.alloc (Nat.le_refl _) (.cells #[] 25)).grown hg2 (by simp) (fun k e => by cases e; exact Nat.le_refl _)
       have hx2 : ∀ g, v2.ownBlock = some g → w.heap.size ≤ g := fun g e => by
         rcases hat2 with h | h <;> (rw [h] at e; cases e; first | omega | (simp; omega)))
    | (at_builtin
       refine App.wpList_append_any _ rfl (.tmp 23) (.tmp 24) _ rfl w.heap.size 25 i0 _ 2 16 Try.underlying22 hi0 hz0 hz1 hz2 rfl (by omega) v2 (0 + m) ([] ++ bls more) rfl
         hown2 w1.heap.size A n cap (bls l) rfl r3 (bls_one l) (by simp only [maxLen]; omega) (by omega) y2 ?_
       intro v3 w3 hown3 hg3 hat3
       have hb3 : Below w.heap.size w w3 := hb2.grown hg3 y2 hx2
       clear hx2 r3 hat3
       rw [List.nil_append, ← bls_append] at hown3
       obtain ⟨A3, c3, rfl, hr3⟩ := own_slice hown3
       skip)
    | fail)
  have hB3 : w.heap.size ≤ w3.heap.size := hb3.size
  have hlen : (more ++ l).length = m + n := by rw [List.length_append, HM.out, HN.out]
  have ha3 : Brs w3 A3 (more ++ l) := brs_of_reads (by rw [hlen]; omega) hr3
  have hl3 : Brs w3 A l := hc.keep hb3
  have hm3 : Brs w3 A' more := hc'.keep hb3
  clear hr3 hown3 hg3 hg2 hown2 hat2 hown hb2 y2 hc hc' r1 r2 y1 hb1
  have HL := Lib.hid hlen
  clear hlen
  go_loopw [7] (fun i wr => ∃ k : Nat, k ≤ m + n ∧ i = .int .i64 k ∧ ((more ++ l).take k).all okP = true ∧ Below w3.heap.size w3 wr) (fun i _ => m + n - (intOf i).toNat)
  case atStart => exact ⟨0, Nat.zero_le _, rfl, by simp, Below.refl _ _⟩
  case round =>
    obtain ⟨k, hk, rfl, ha, hB⟩ := hrel
    have HA := Lib.hid ha
    have hS : w3.heap.size ≤ wr.heap.size := hB.size
    clear ha
    by_cases hlt : k < m + n
    · have ha4 := ha3.keep hB
      obtain ⟨b, off, rfl, hcell⟩ := ha4 (by rw [HL.out]; omega)
      obtain ⟨p, hp⟩ := at_ (more ++ l) k (by rw [HL.out]; exact hlt)
      obtain ⟨c0, c1⟩ := hcell k p hp
      have HP := Lib.hid hp
      clear hcell hp
      obtain ⟨s, d⟩ := p
      dsimp only at c0 c1
      cases ho : okB s d
      · have HF := Lib.hid (show wrs (more ++ l) = (0, 0) from if_pos (.inr (not_all HP.out ho)))
        go_wp2_with (fail)
        refine (r_is ho _).mono ?_
        rintro e w4 ⟨rfl, hb⟩
        have hB1 := over hb hB
        clear hb hB
        go_wp2_with (fail)
        refine (w_of _ HL.out (ha3.keep hB1) (by omega) HF.out).mono ?_
        rintro e w5 ⟨rfl, hb⟩
        have hB5 := over hb hB1
        clear hb
        go_wp2
        go_ret
        exact ⟨rfl, hb3.trans (hB5.mono hB3)⟩
      · have HG := Lib.hid (show ((more ++ l).take (k + 1)).all okP = true from by
          rw [take_snoc HP.out, List.all_append, HA.out]
          simp [okP, ho])
        go_wp2_with (fail)
        refine (r_is ho _).mono ?_
        rintro e w4 ⟨rfl, hb⟩
        have hB1 := over hb hB
        clear hb hB
        go_wp2
        go_roundw
        case rel => exact ⟨k + 1, by omega, by go_num, HG.out, hB1⟩
        case measure => simp [intOf]; omega
    · obtain rfl : k = m + n := by omega
      rw [List.take_of_length_le (by rw [HL.out]; omega)] at HA
      go_wp2_with (fail)
      have hall := HA.out
      rw [List.all_append, Bool.and_eq_true] at hall
      have hw := wrs_is hall.2
      have hwb := wrs_both HA.out
      obtain ⟨a, b, hab⟩ : ∃ a b, wrs l = (a, b) := ⟨_, _, rfl⟩
      rw [hab] at hw hwb
      refine (w_of _ HN.out (hl3.keep hB) (by omega) hab).mono ?_
      rintro e w4 ⟨rfl, hb⟩
      have hB4 := over hb hB
      have hS4 := hB4.size
      have HW := Lib.hid hw
      have HWB := Lib.hid hwb
      clear hw hwb hall hb hB hS
      by_cases ha : a = 0
      · subst ha
        by_cases hb' : b = 0
        · subst hb'
          go_wp2
          go_loopw [9, 10] (fun qv i wr' => ∃ (k : Nat) (q : Bool), k ≤ n ∧ qv = .bool q ∧ i = .int .i64 k ∧ (q = true ∨ (¬ ((0 : Int) = 0 ∧ (0 : Int) = 0) ∧ ((0 : Int), (0 : Int)) ∉ l.take k)) ∧ Below w3.heap.size w3 wr' ∧ wr'.cell? ⟨w4.heap.size, 0, none⟩ = some (.int .i64 (0 : Int)) ∧ wr'.cell? ⟨w4.heap.size, 1, none⟩ = some (.int .i64 (0 : Int))) (fun _ i _ => n - (intOf i).toNat)
          case atStart =>
            refine ⟨0, _, Nat.zero_le _, rfl, rfl, ?_, ?_, ?_, ?_⟩
            · first | exact .inl rfl | exact .inr ⟨by omega, by simp⟩
            · exact hB4.alloc hS4 _
            · simp [go_sem]
            · simp [go_sem]
          case round =>
            obtain ⟨k, q, hk, rfl, rfl, hq, hB, c0, c1⟩ := hrel
            have hS : w3.heap.size ≤ wr.heap.size := hB.size
            have HQ := Lib.hid hq
            clear hq
            by_cases hlt : k < n
            · obtain ⟨bb, off, rfl, hcell⟩ := (hl3.keep hB) (by rw [HN.out]; omega)
              obtain ⟨p, hp⟩ := at_ l k (by rw [HN.out]; exact hlt)
              obtain ⟨d0, d1⟩ := hcell k p hp
              have hle := HW.out.2.2 p (mem_of_at hp)
              have HP := Lib.hid hp
              clear hcell hp
              obtain ⟨s, d⟩ := p
              dsimp only [le] at d0 d1 hle
              have h16 : ¬ (0 : Int) < s := by omega
              by_cases hs : s = (0 : Int)
              · have h17 : ¬ d < (0 : Int) := by omega
                by_cases hd : d = (0 : Int)
                · cases q
                  · go_wp2
                    go_quiet (fail)
                    go_wp2
                    go_quiet (fail)
                    go_wp2
                    go_roundw
                    case rel => exact ⟨k + 1, _, by omega, rfl, by go_num, .inl rfl, dN hB _, c0, c1⟩
                    case measure => simp [intOf]; omega
                  · go_wp2
                    go_quiet (fail)
                    go_wp2
                    go_quiet (fail)
                    go_wp2
                    go_roundw
                    case rel => exact ⟨k + 1, _, by omega, rfl, by go_num, .inl rfl, dN hB _, c0, c1⟩
                    case measure => simp [intOf]; omega
                · cases q
                  · have hn := HQ.out.resolve_left (by simp)
                    have HG := Lib.hid (show ¬ ((0 : Int) = 0 ∧ (0 : Int) = 0) ∧ ((0 : Int), (0 : Int)) ∉ l.take (k + 1) from ⟨hn.1, by
                      rw [take_snoc HP.out]
                      intro hm
                      rcases List.mem_append.1 hm with h | h
                      · exact hn.2 h
                      · have e := List.mem_singleton.1 h
                        injection e with e1 e2
                        omega⟩)
                    clear hn
                    go_wp2
                    go_quiet (fail)
                    go_wp2
                    go_quiet (fail)
                    go_wp2
                    go_roundw
                    case rel => exact ⟨k + 1, _, by omega, rfl, by go_num, .inr HG.out, dN hB _, c0, c1⟩
                    case measure => simp [intOf]; omega
                  · go_wp2
                    go_quiet (fail)
                    go_wp2
                    go_quiet (fail)
                    go_wp2
                    go_roundw
                    case rel => exact ⟨k + 1, _, by omega, rfl, by go_num, .inl rfl, dN hB _, c0, c1⟩
                    case measure => simp [intOf]; omega
              · cases q
                · have hn := HQ.out.resolve_left (by simp)
                  have HG := Lib.hid (show ¬ ((0 : Int) = 0 ∧ (0 : Int) = 0) ∧ ((0 : Int), (0 : Int)) ∉ l.take (k + 1) from ⟨hn.1, by
                    rw [take_snoc HP.out]
                    intro hm
                    rcases List.mem_append.1 hm with h | h
                    · exact hn.2 h
                    · have e := List.mem_singleton.1 h
                      injection e with e1 e2
                      omega⟩)
                  clear hn
                  go_wp2
                  go_quiet (fail)
                  go_wp2
                  go_quiet (fail)
                  go_wp2
                  go_roundw
                  case rel => exact ⟨k + 1, _, by omega, rfl, by go_num, .inr HG.out, dN hB _, c0, c1⟩
                  case measure => simp [intOf]; omega
                · go_wp2
                  go_quiet (fail)
                  go_wp2
                  go_quiet (fail)
                  go_wp2
                  go_roundw
                  case rel => exact ⟨k + 1, _, by omega, rfl, by go_num, .inl rfl, dN hB _, c0, c1⟩
                  case measure => simp [intOf]; omega
            · obtain rfl : k = n := by omega
              have hqt : q = true := by
                rcases HQ.out with h | ⟨h, h'⟩
                · exact h
                · exfalso
                  rw [List.take_of_length_le (by rw [HN.out]; exact Nat.le_refl _)] at h'
                  rcases HW.out.1 with e | e
                  · exact h ⟨congrArg Prod.fst e, congrArg Prod.snd e⟩
                  · exact h' e
              subst hqt
              obtain ⟨x, y, hxy⟩ : ∃ x y, wrs (more ++ l) = (x, y) := ⟨_, _, rfl⟩
              obtain ⟨u, v, huv⟩ : ∃ u v, wrs more = (u, v) := ⟨_, _, rfl⟩
              have hn2 : wrs [((0 : Int), (0 : Int)), (u, v)] = (x, y) := by rw [← huv, ← HWB.out, hxy]
              have X1 := Lib.hid hxy
              have X2 := Lib.hid huv
              have X3 := Lib.hid hn2
              clear hxy huv hn2
              go_wp2
              go_region_held3 (fun W' => Below w3.heap.size w3 W' ∧ W'.cell? ⟨w4.heap.size, 0, none⟩ = some (.int .i64 (0 : Int)) ∧ W'.cell? ⟨w4.heap.size, 1, none⟩ = some (.int .i64 (0 : Int)))
                (first | exact ⟨hB.drew, c0, c1⟩ | exact held_al1 (by assumption) | exact held_e1 (by assumption) (by assumption))
                (first | (go_at_call 24; first
                  | ((with_reducible refine (w_held (p := w4.heap.size) (a := (0 : Int)) (b := (0 : Int)) (by assumption) HL.out ha3 (by omega) X1.out).mono ?_); rintro e w' ⟨rfl, hb'⟩)
                  | ((with_reducible refine (w_held (p := w4.heap.size) (a := (0 : Int)) (b := (0 : Int)) (by assumption) HM.out hm3 (by omega) X2.out).mono ?_); rintro e w' ⟨rfl, hb'⟩)
                  | ((refine (w_two (rowAt _ _ _ rfl) X3.out).mono ?_); rintro e w' ⟨rfl, hb'⟩)
                  | ((refine (w_two (rowAtD _ _ _ rfl) X3.out).mono ?_); rintro e w' ⟨rfl, hb'⟩)))
              rename_i hH
              have hZ := hH.1
              clear hH c0 c1
              go_wp2
              go_ret
              exact ⟨rfl, hb3.trans (hZ.mono hB3)⟩
        · skip
          go_wp2
          go_loopw [9, 10] (fun qv i wr' => ∃ (k : Nat) (q : Bool), k ≤ n ∧ qv = .bool q ∧ i = .int .i64 k ∧ (q = true ∨ (¬ ((0 : Int) = 0 ∧ b = 0) ∧ ((0 : Int), b) ∉ l.take k)) ∧ Below w3.heap.size w3 wr' ∧ wr'.cell? ⟨w4.heap.size, 0, none⟩ = some (.int .i64 (0 : Int)) ∧ wr'.cell? ⟨w4.heap.size, 1, none⟩ = some (.int .i64 b)) (fun _ i _ => n - (intOf i).toNat)
          case atStart =>
            refine ⟨0, _, Nat.zero_le _, rfl, rfl, ?_, ?_, ?_, ?_⟩
            · first | exact .inl rfl | exact .inr ⟨by omega, by simp⟩
            · exact hB4.alloc hS4 _
            · simp [go_sem]
            · simp [go_sem]
          case round =>
            obtain ⟨k, q, hk, rfl, rfl, hq, hB, c0, c1⟩ := hrel
            have hS : w3.heap.size ≤ wr.heap.size := hB.size
            have HQ := Lib.hid hq
            clear hq
            by_cases hlt : k < n
            · obtain ⟨bb, off, rfl, hcell⟩ := (hl3.keep hB) (by rw [HN.out]; omega)
              obtain ⟨p, hp⟩ := at_ l k (by rw [HN.out]; exact hlt)
              obtain ⟨d0, d1⟩ := hcell k p hp
              have hle := HW.out.2.2 p (mem_of_at hp)
              have HP := Lib.hid hp
              clear hcell hp
              obtain ⟨s, d⟩ := p
              dsimp only [le] at d0 d1 hle
              have h16 : ¬ (0 : Int) < s := by omega
              by_cases hs : s = (0 : Int)
              · have h17 : ¬ d < b := by omega
                by_cases hd : d = b
                · cases q
                  · go_wp2
                    go_quiet (fail)
                    go_wp2
                    go_quiet (fail)
                    go_wp2
                    go_roundw
                    case rel => exact ⟨k + 1, _, by omega, rfl, by go_num, .inl rfl, dN hB _, c0, c1⟩
                    case measure => simp [intOf]; omega
                  · go_wp2
                    go_quiet (fail)
                    go_wp2
                    go_quiet (fail)
                    go_wp2
                    go_roundw
                    case rel => exact ⟨k + 1, _, by omega, rfl, by go_num, .inl rfl, dN hB _, c0, c1⟩
                    case measure => simp [intOf]; omega
                · cases q
                  · have hn := HQ.out.resolve_left (by simp)
                    have HG := Lib.hid (show ¬ ((0 : Int) = 0 ∧ b = 0) ∧ ((0 : Int), b) ∉ l.take (k + 1) from ⟨hn.1, by
                      rw [take_snoc HP.out]
                      intro hm
                      rcases List.mem_append.1 hm with h | h
                      · exact hn.2 h
                      · have e := List.mem_singleton.1 h
                        injection e with e1 e2
                        omega⟩)
                    clear hn
                    go_wp2
                    go_quiet (fail)
                    go_wp2
                    go_quiet (fail)
                    go_wp2
                    go_roundw
                    case rel => exact ⟨k + 1, _, by omega, rfl, by go_num, .inr HG.out, dN hB _, c0, c1⟩
                    case measure => simp [intOf]; omega
                  · go_wp2
                    go_quiet (fail)
                    go_wp2
                    go_quiet (fail)
                    go_wp2
                    go_roundw
                    case rel => exact ⟨k + 1, _, by omega, rfl, by go_num, .inl rfl, dN hB _, c0, c1⟩
                    case measure => simp [intOf]; omega
              · cases q
                · have hn := HQ.out.resolve_left (by simp)
                  have HG := Lib.hid (show ¬ ((0 : Int) = 0 ∧ b = 0) ∧ ((0 : Int), b) ∉ l.take (k + 1) from ⟨hn.1, by
                    rw [take_snoc HP.out]
                    intro hm
                    rcases List.mem_append.1 hm with h | h
                    · exact hn.2 h
                    · have e := List.mem_singleton.1 h
                      injection e with e1 e2
                      omega⟩)
                  clear hn
                  go_wp2
                  go_quiet (fail)
                  go_wp2
                  go_quiet (fail)
                  go_wp2
                  go_roundw
                  case rel => exact ⟨k + 1, _, by omega, rfl, by go_num, .inr HG.out, dN hB _, c0, c1⟩
                  case measure => simp [intOf]; omega
                · go_wp2
                  go_quiet (fail)
                  go_wp2
                  go_quiet (fail)
                  go_wp2
                  go_roundw
                  case rel => exact ⟨k + 1, _, by omega, rfl, by go_num, .inl rfl, dN hB _, c0, c1⟩
                  case measure => simp [intOf]; omega
            · obtain rfl : k = n := by omega
              have hqt : q = true := by
                rcases HQ.out with h | ⟨h, h'⟩
                · exact h
                · exfalso
                  rw [List.take_of_length_le (by rw [HN.out]; exact Nat.le_refl _)] at h'
                  rcases HW.out.1 with e | e
                  · exact h ⟨congrArg Prod.fst e, congrArg Prod.snd e⟩
                  · exact h' e
              subst hqt
              obtain ⟨x, y, hxy⟩ : ∃ x y, wrs (more ++ l) = (x, y) := ⟨_, _, rfl⟩
              obtain ⟨u, v, huv⟩ : ∃ u v, wrs more = (u, v) := ⟨_, _, rfl⟩
              have hn2 : wrs [((0 : Int), b), (u, v)] = (x, y) := by rw [← huv, ← HWB.out, hxy]
              have X1 := Lib.hid hxy
              have X2 := Lib.hid huv
              have X3 := Lib.hid hn2
              clear hxy huv hn2
              go_wp2
              go_region_held3 (fun W' => Below w3.heap.size w3 W' ∧ W'.cell? ⟨w4.heap.size, 0, none⟩ = some (.int .i64 (0 : Int)) ∧ W'.cell? ⟨w4.heap.size, 1, none⟩ = some (.int .i64 b))
                (first | exact ⟨hB.drew, c0, c1⟩ | exact held_al1 (by assumption) | exact held_e1 (by assumption) (by assumption))
                (first | (go_at_call 24; first
                  | ((with_reducible refine (w_held (p := w4.heap.size) (a := (0 : Int)) (b := b) (by assumption) HL.out ha3 (by omega) X1.out).mono ?_); rintro e w' ⟨rfl, hb'⟩)
                  | ((with_reducible refine (w_held (p := w4.heap.size) (a := (0 : Int)) (b := b) (by assumption) HM.out hm3 (by omega) X2.out).mono ?_); rintro e w' ⟨rfl, hb'⟩)
                  | ((refine (w_two (rowAt _ _ _ rfl) X3.out).mono ?_); rintro e w' ⟨rfl, hb'⟩)
                  | ((refine (w_two (rowAtD _ _ _ rfl) X3.out).mono ?_); rintro e w' ⟨rfl, hb'⟩)))
              rename_i hH
              have hZ := hH.1
              clear hH c0 c1
              go_wp2
              go_ret
              exact ⟨rfl, hb3.trans (hZ.mono hB3)⟩
      · skip
        go_wp2
        go_loopw [9, 10] (fun qv i wr' => ∃ (k : Nat) (q : Bool), k ≤ n ∧ qv = .bool q ∧ i = .int .i64 k ∧ (q = true ∨ (¬ (a = 0 ∧ b = 0) ∧ (a, b) ∉ l.take k)) ∧ Below w3.heap.size w3 wr' ∧ wr'.cell? ⟨w4.heap.size, 0, none⟩ = some (.int .i64 a) ∧ wr'.cell? ⟨w4.heap.size, 1, none⟩ = some (.int .i64 b)) (fun _ i _ => n - (intOf i).toNat)
        case atStart =>
          refine ⟨0, _, Nat.zero_le _, rfl, rfl, ?_, ?_, ?_, ?_⟩
          · first | exact .inl rfl | exact .inr ⟨by omega, by simp⟩
          · exact hB4.alloc hS4 _
          · simp [go_sem]
          · simp [go_sem]
        case round =>
          obtain ⟨k, q, hk, rfl, rfl, hq, hB, c0, c1⟩ := hrel
          have hS : w3.heap.size ≤ wr.heap.size := hB.size
          have HQ := Lib.hid hq
          clear hq
          by_cases hlt : k < n
          · obtain ⟨bb, off, rfl, hcell⟩ := (hl3.keep hB) (by rw [HN.out]; omega)
            obtain ⟨p, hp⟩ := at_ l k (by rw [HN.out]; exact hlt)
            obtain ⟨d0, d1⟩ := hcell k p hp
            have hle := HW.out.2.2 p (mem_of_at hp)
            have HP := Lib.hid hp
            clear hcell hp
            obtain ⟨s, d⟩ := p
            dsimp only [le] at d0 d1 hle
            have h16 : ¬ a < s := by omega
            by_cases hs : s = a
            · have h17 : ¬ d < b := by omega
              by_cases hd : d = b
              · cases q
                · go_wp2
                  go_quiet (fail)
                  go_wp2
                  go_quiet (fail)
                  go_wp2
                  go_roundw
                  case rel => exact ⟨k + 1, _, by omega, rfl, by go_num, .inl rfl, dN hB _, c0, c1⟩
                  case measure => simp [intOf]; omega
                · go_wp2
                  go_quiet (fail)
                  go_wp2
                  go_quiet (fail)
                  go_wp2
                  go_roundw
                  case rel => exact ⟨k + 1, _, by omega, rfl, by go_num, .inl rfl, dN hB _, c0, c1⟩
                  case measure => simp [intOf]; omega
              · cases q
                · have hn := HQ.out.resolve_left (by simp)
                  have HG := Lib.hid (show ¬ (a = 0 ∧ b = 0) ∧ (a, b) ∉ l.take (k + 1) from ⟨hn.1, by
                    rw [take_snoc HP.out]
                    intro hm
                    rcases List.mem_append.1 hm with h | h
                    · exact hn.2 h
                    · have e := List.mem_singleton.1 h
                      injection e with e1 e2
                      omega⟩)
                  clear hn
                  go_wp2
                  go_quiet (fail)
                  go_wp2
                  go_quiet (fail)
                  go_wp2
                  go_roundw
                  case rel => exact ⟨k + 1, _, by omega, rfl, by go_num, .inr HG.out, dN hB _, c0, c1⟩
                  case measure => simp [intOf]; omega
                · go_wp2
                  go_quiet (fail)
                  go_wp2
                  go_quiet (fail)
                  go_wp2
                  go_roundw
                  case rel => exact ⟨k + 1, _, by omega, rfl, by go_num, .inl rfl, dN hB _, c0, c1⟩
                  case measure => simp [intOf]; omega
            · cases q
              · have hn := HQ.out.resolve_left (by simp)
                have HG := Lib.hid (show ¬ (a = 0 ∧ b = 0) ∧ (a, b) ∉ l.take (k + 1) from ⟨hn.1, by
                  rw [take_snoc HP.out]
                  intro hm
                  rcases List.mem_append.1 hm with h | h
                  · exact hn.2 h
                  · have e := List.mem_singleton.1 h
                    injection e with e1 e2
                    omega⟩)
                clear hn
                go_wp2
                go_quiet (fail)
                go_wp2
                go_quiet (fail)
                go_wp2
                go_roundw
                case rel => exact ⟨k + 1, _, by omega, rfl, by go_num, .inr HG.out, dN hB _, c0, c1⟩
                case measure => simp [intOf]; omega
              · go_wp2
                go_quiet (fail)
                go_wp2
                go_quiet (fail)
                go_wp2
                go_roundw
                case rel => exact ⟨k + 1, _, by omega, rfl, by go_num, .inl rfl, dN hB _, c0, c1⟩
                case measure => simp [intOf]; omega
          · obtain rfl : k = n := by omega
            have hqt : q = true := by
              rcases HQ.out with h | ⟨h, h'⟩
              · exact h
              · exfalso
                rw [List.take_of_length_le (by rw [HN.out]; exact Nat.le_refl _)] at h'
                rcases HW.out.1 with e | e
                · exact h ⟨congrArg Prod.fst e, congrArg Prod.snd e⟩
                · exact h' e
            subst hqt
            obtain ⟨x, y, hxy⟩ : ∃ x y, wrs (more ++ l) = (x, y) := ⟨_, _, rfl⟩
            obtain ⟨u, v, huv⟩ : ∃ u v, wrs more = (u, v) := ⟨_, _, rfl⟩
            have hn2 : wrs [(a, b), (u, v)] = (x, y) := by rw [← huv, ← HWB.out, hxy]
            have X1 := Lib.hid hxy
            have X2 := Lib.hid huv
            have X3 := Lib.hid hn2
            clear hxy huv hn2
            go_wp2
            go_region_held3 (fun W' => Below w3.heap.size w3 W' ∧ W'.cell? ⟨w4.heap.size, 0, none⟩ = some (.int .i64 a) ∧ W'.cell? ⟨w4.heap.size, 1, none⟩ = some (.int .i64 b))
              (first | exact ⟨hB.drew, c0, c1⟩ | exact held_al1 (by assumption) | exact held_e1 (by assumption) (by assumption))
              (first | (go_at_call 24; first
                | ((with_reducible refine (w_held (p := w4.heap.size) (a := a) (b := b) (by assumption) HL.out ha3 (by omega) X1.out).mono ?_); rintro e w' ⟨rfl, hb'⟩)
                | ((with_reducible refine (w_held (p := w4.heap.size) (a := a) (b := b) (by assumption) HM.out hm3 (by omega) X2.out).mono ?_); rintro e w' ⟨rfl, hb'⟩)
                | ((refine (w_two (rowAt _ _ _ rfl) X3.out).mono ?_); rintro e w' ⟨rfl, hb'⟩)
                | ((refine (w_two (rowAtD _ _ _ rfl) X3.out).mono ?_); rintro e w' ⟨rfl, hb'⟩)))
            rename_i hH
            have hZ := hH.1
            clear hH c0 c1
            go_wp2
            go_ret
            exact ⟨rfl, hb3.trans (hZ.mono hB3)⟩
end Go.Proofs.Ytblegaclcpoonaa.Br
