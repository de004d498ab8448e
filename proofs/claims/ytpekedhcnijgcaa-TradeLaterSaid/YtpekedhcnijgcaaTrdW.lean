/- Package trade: the contracts of validUnits, Settle's closure, IndexFunc over it, Open. -/
import Derived.Test.YtpekedhcnijgcaaTrdS
namespace Go.Proofs.Ytpekedhcnijgcaa.Book
open Go.ChangeShapes Go.WideShapes Go.ChangeAt Go.RowKit Go.Proofs.Ytpekedhcnijgcaa.Cell
set_option linter.unusedVariables false
set_option linter.unusedSimpArgs false

set_option maxHeartbeats 1000000 in
theorem tvalid_any (A : Option Addr) (n cap : Nat) (ss : List (Int × Int)) (A' : Option Addr) (m cap' : Nat) (us : List Int) (w : World) (hn : ss.length = n) (hc : Prs w A ss) (hbig : n ≤ 1000000) (hm : us.length = m) (hc' : Ints w A' us) (hbig' : m ≤ 1000000) :
    Calls Try.prog 46 #[.slice A n cap, .slice A' m cap'] w fun e w' => e = .returned (.bool (vd ss us)) ∧ Below w.heap.size w w' := by
  cases hv : vd ss us
  · have HE := Lib.hid ((mv_1 ss us).2 hv)
    clear hv
    go_enter Try.func46, Try.ntmps46
    go_wp2_with (fail)
    go_must (refine (move_any _ _ _ ss _ _ _ us 0 0 1 _ hn hc hbig hm hc' hbig').mono ?_)
    rintro e w1 ⟨A2, c2, rfl, hb, _⟩
    rw [HE.out]
    clear hn hm
    go_wp2
    go_ret
    exact ⟨rfl, hb⟩
  · obtain ⟨x, hx⟩ : ∃ x, mvE ss us 0 0 1 = x := ⟨_, rfl⟩
    have HX := Lib.hid hx
    have hb1 : (x != 1) = true := by
      rw [bne_iff_ne, ← hx]
      intro c
      rw [(mv_1 ss us).1 c] at hv
      cases hv
    clear hv hx
    go_enter Try.func46, Try.ntmps46
    go_wp2_with (fail)
    go_must (refine (move_any _ _ _ ss _ _ _ us 0 0 1 _ hn hc hbig hm hc' hbig').mono ?_)
    rintro e w1 ⟨A2, c2, rfl, hb, _⟩
    rw [HX.out]
    clear hn hm
    go_wp2
    go_ret
    exact ⟨rfl, hb⟩
theorem tvalid_is {A : Option Addr} {n cap : Nat} {ss : List (Int × Int)} {A' : Option Addr} {m cap' : Nat} {us : List Int} {b : Bool} (w : World) (hn : ss.length = n) (hc : Prs w A ss) (hbig : n ≤ 1000000) (hm : us.length = m) (hc' : Ints w A' us) (hbig' : m ≤ 1000000) (h : vd ss us = b) :
    Calls Try.prog 46 #[.slice A n cap, .slice A' m cap'] w fun e w' => e = .returned (.bool b) ∧ Below w.heap.size w w' := by
  have hh := tvalid_any A n cap ss A' m cap' us w hn hc hbig hm hc' hbig'
  rw [h] at hh
  exact hh

set_option maxRecDepth 100000 in
set_option maxHeartbeats 4000000 in
theorem set1_0 (k t u mm d o b day z : Int) (c g7 g11 bH oH n cH : Nat) (w : World) (h7 : w.cell? ⟨g7, 0, none⟩ = some (.int .i64 day)) (h11 : w.cell? ⟨g11, 0, none⟩ = some (.slice (some ⟨bH, oH, none⟩) n cH)) (hz : w.cell? ⟨bH, oH + c, none⟩ = some (.int .i64 z)) (hcn : c < n)
    (ho : opn day ⟨k, (c : Int), t, u, mm, d, o, b⟩ = false) :
    Calls Try.prog 50 #[.agg #[.int .i64 k, .int .i64 (c : Int), .int .i64 t, .int .i64 u, .int .i64 mm, .int .i64 d, .int .i64 o, .int .i64 b], .pointer (some ⟨g7, 0, none⟩), .pointer (some ⟨g11, 0, none⟩)] w fun e w' => e = .returned (.bool (opn day ⟨k, (c : Int), t, u, mm, d, o, b⟩ && decide (u ≤ z))) ∧ Below w.heap.size w w' := by
  have HO := Lib.hid ho
  have HR := Lib.hid (show (opn day ⟨k, (c : Int), t, u, mm, d, o, b⟩ && decide (u ≤ z)) = false from by rw [ho]; rfl)
  have hcI : (c : Int) < (n : Int) := by omega
  have hBA : Below w.heap.size w (w.alloc (.cells #[.int .i64 k, .int .i64 (c : Int), .int .i64 t, .int .i64 u, .int .i64 mm, .int .i64 d, .int .i64 o, .int .i64 b] 26)) := Gen.b_alloc (Below.refl _ _)
  have a7 := Gen.keep hBA h7
  have a11 := Gen.keep hBA h11
  have az := Gen.keep hBA hz
  have HBA := Lib.hid hBA
  have HBY : Hid (Row (w.alloc (.cells #[.int .i64 k, .int .i64 (c : Int), .int .i64 t, .int .i64 u, .int .i64 mm, .int .i64 d, .int .i64 o, .int .i64 b] 26)) w.heap.size 26 #[.int .i64 k, .int .i64 (c : Int), .int .i64 t, .int .i64 u, .int .i64 mm, .int .i64 d, .int .i64 o, .int .i64 b]) := Lib.hid (Row.new _ _ _)
  clear hBA ho
  go_enter Try.func50, Try.ntmps50
  go_wp2
  have HSS : Hid (∀ W', Below (w.alloc (.cells #[.int .i64 k, .int .i64 (c : Int), .int .i64 t, .int .i64 u, .int .i64 mm, .int .i64 d, .int .i64 o, .int .i64 b] 26)).heap.size (w.alloc (.cells #[.int .i64 k, .int .i64 (c : Int), .int .i64 t, .int .i64 u, .int .i64 mm, .int .i64 d, .int .i64 o, .int .i64 b] 26)) W' → Below (w.alloc (.cells #[.int .i64 k, .int .i64 (c : Int), .int .i64 t, .int .i64 u, .int .i64 mm, .int .i64 d, .int .i64 o, .int .i64 b] 26)).heap.size (w.alloc (.cells #[.int .i64 k, .int .i64 (c : Int), .int .i64 t, .int .i64 u, .int .i64 mm, .int .i64 d, .int .i64 o, .int .i64 b] 26)) W' ∧ W'.cell? ⟨w.heap.size, 0, none⟩ = some (.int .i64 k) ∧ W'.cell? ⟨w.heap.size, 1, none⟩ = some (.int .i64 (c : Int)) ∧ W'.cell? ⟨w.heap.size, 2, none⟩ = some (.int .i64 t) ∧ W'.cell? ⟨w.heap.size, 3, none⟩ = some (.int .i64 u) ∧ W'.cell? ⟨w.heap.size, 4, none⟩ = some (.int .i64 mm) ∧ W'.cell? ⟨w.heap.size, 5, none⟩ = some (.int .i64 d) ∧ W'.cell? ⟨w.heap.size, 6, none⟩ = some (.int .i64 o) ∧ W'.cell? ⟨w.heap.size, 7, none⟩ = some (.int .i64 b) ∧ W'.cell? ⟨g7, 0, none⟩ = some (.int .i64 day) ∧ W'.cell? ⟨g11, 0, none⟩ = some (.slice (some ⟨bH, oH, none⟩) n cH) ∧ W'.cell? ⟨bH, oH + c, none⟩ = some (.int .i64 z)) := Lib.hid (fun W' h => ⟨h, (HBY.out.keep h).cell 0, (HBY.out.keep h).cell 1, (HBY.out.keep h).cell 2, (HBY.out.keep h).cell 3, (HBY.out.keep h).cell 4, (HBY.out.keep h).cell 5, (HBY.out.keep h).cell 6, (HBY.out.keep h).cell 7, Gen.keep h a7, Gen.keep h a11, Gen.keep h az⟩)
  refine wp_region_held_drew (S := fun W' => Below (w.alloc (.cells #[.int .i64 k, .int .i64 (c : Int), .int .i64 t, .int .i64 u, .int .i64 mm, .int .i64 d, .int .i64 o, .int .i64 b] 26)).heap.size (w.alloc (.cells #[.int .i64 k, .int .i64 (c : Int), .int .i64 t, .int .i64 u, .int .i64 mm, .int .i64 d, .int .i64 o, .int .i64 b] 26)) W' ∧ W'.cell? ⟨w.heap.size, 0, none⟩ = some (.int .i64 k) ∧ W'.cell? ⟨w.heap.size, 1, none⟩ = some (.int .i64 (c : Int)) ∧ W'.cell? ⟨w.heap.size, 2, none⟩ = some (.int .i64 t) ∧ W'.cell? ⟨w.heap.size, 3, none⟩ = some (.int .i64 u) ∧ W'.cell? ⟨w.heap.size, 4, none⟩ = some (.int .i64 mm) ∧ W'.cell? ⟨w.heap.size, 5, none⟩ = some (.int .i64 d) ∧ W'.cell? ⟨w.heap.size, 6, none⟩ = some (.int .i64 o) ∧ W'.cell? ⟨w.heap.size, 7, none⟩ = some (.int .i64 b) ∧ W'.cell? ⟨g7, 0, none⟩ = some (.int .i64 day) ∧ W'.cell? ⟨g11, 0, none⟩ = some (.slice (some ⟨bH, oH, none⟩) n cH) ∧ W'.cell? ⟨bH, oH + c, none⟩ = some (.int .i64 z)) (by kernel_rfl) (HSS.out _ (Below.refl _ _).drew) (fun hHeld => ?_)
  refine wpAnyH_take (i := 0) (v := .agg #[.int .i64 k, .int .i64 (c : Int), .int .i64 t, .int .i64 u, .int .i64 mm, .int .i64 d, .int .i64 o, .int .i64 b]) rfl (by kernel_rfl) (by kernel_rfl) (by kernel_rfl) (fun _ _ _ h => h) (Or.inl ⟨by rfl, (by intro w hSw; (try dsimp only at hSw); go_simp <;> first | with_reducible rfl | omega)⟩) (by assumption) ?_
  (try simp only [Act.put, List.getElem_toArray, List.getElem_cons_succ, List.getElem_cons_zero, List.setIfInBounds_toArray, List.set_cons_zero, List.set_cons_succ])
  refine wpAnyH_take (i := 1) (v := .int .i64 day) rfl (by kernel_rfl) (by kernel_rfl) (by kernel_rfl) (fun _ _ _ h => h) (Or.inl ⟨by rfl, (by intro w hSw; (try dsimp only at hSw); go_simp <;> first | with_reducible rfl | omega)⟩) (by assumption) ?_
  (try simp only [Act.put, List.getElem_toArray, List.getElem_cons_succ, List.getElem_cons_zero, List.setIfInBounds_toArray, List.set_cons_zero, List.set_cons_succ])
  refine wpAnyH_ready (rs := [2]) (by kernel_rfl) (by simp) ?_
  refine AllReadyH.cons rfl (fun K hK => ?_) AllReadyH.nil
  rw [if_pos (by rfl)]
  (try simp only [Act.put, List.getElem_toArray, List.getElem_cons_succ, List.getElem_cons_zero, List.setIfInBounds_toArray, List.set_cons_zero, List.set_cons_succ])
  go_simp
  go_at_call 51
  refine (topen_is _ HO.out).mono ?_
  rintro e w1 ⟨rfl, hb1⟩
  refine hK.out _ _ (HSS.out _ (Gen.over hb1 hHeld.1)) (fun hH2 => ?_)
  clear hK K
  (try simp only [Act.put, List.getElem_toArray, List.getElem_cons_succ, List.getElem_cons_zero, List.setIfInBounds_toArray, List.set_cons_zero, List.set_cons_succ])
  refine wpAnyH_take (i := 3) (v := .bool false) rfl (by kernel_rfl) (by kernel_rfl) (by kernel_rfl) (fun _ _ _ h => h) (Or.inl ⟨by rfl, (by intro w hSw; (try dsimp only at hSw); go_simp <;> first | with_reducible rfl | omega)⟩) (by assumption) ?_
  (try simp only [Act.put, List.getElem_toArray, List.getElem_cons_succ, List.getElem_cons_zero, List.setIfInBounds_toArray, List.set_cons_zero, List.set_cons_succ])
  refine wpAnyH_take (i := 4) (v := undef) rfl (by kernel_rfl) (by kernel_rfl) (by kernel_rfl) (fun _ _ _ h => h) (Or.inr ⟨by rfl, rfl⟩) (by assumption) ?_
  (try simp only [Act.put, List.getElem_toArray, List.getElem_cons_succ, List.getElem_cons_zero, List.setIfInBounds_toArray, List.set_cons_zero, List.set_cons_succ])
  refine wpAnyH_take (i := 5) (v := undef) rfl (by kernel_rfl) (by kernel_rfl) (by kernel_rfl) (fun _ _ _ h => h) (Or.inr ⟨by rfl, rfl⟩) (by assumption) ?_
  (try simp only [Act.put, List.getElem_toArray, List.getElem_cons_succ, List.getElem_cons_zero, List.setIfInBounds_toArray, List.set_cons_zero, List.set_cons_succ])
  refine wpAnyH_take (i := 6) (v := undef) rfl (by kernel_rfl) (by kernel_rfl) (by kernel_rfl) (fun _ _ _ h => h) (Or.inr ⟨by rfl, rfl⟩) (by assumption) ?_
  (try simp only [Act.put, List.getElem_toArray, List.getElem_cons_succ, List.getElem_cons_zero, List.setIfInBounds_toArray, List.set_cons_zero, List.set_cons_succ])
  refine wpAnyH_take (i := 7) (v := undef) rfl (by kernel_rfl) (by kernel_rfl) (by kernel_rfl) (fun _ _ _ h => h) (Or.inr ⟨by rfl, rfl⟩) (by assumption) ?_
  (try simp only [Act.put, List.getElem_toArray, List.getElem_cons_succ, List.getElem_cons_zero, List.setIfInBounds_toArray, List.set_cons_zero, List.set_cons_succ])
  refine wpAnyH_take (i := 8) (v := undef) rfl (by kernel_rfl) (by kernel_rfl) (by kernel_rfl) (fun _ _ _ h => h) (Or.inr ⟨by rfl, rfl⟩) (by assumption) ?_
  (try simp only [Act.put, List.getElem_toArray, List.getElem_cons_succ, List.getElem_cons_zero, List.setIfInBounds_toArray, List.set_cons_zero, List.set_cons_succ])
  refine wpAnyH_take (i := 9) (v := undef) rfl (by kernel_rfl) (by kernel_rfl) (by kernel_rfl) (fun _ _ _ h => h) (Or.inr ⟨by rfl, rfl⟩) (by assumption) ?_
  (try simp only [Act.put, List.getElem_toArray, List.getElem_cons_succ, List.getElem_cons_zero, List.setIfInBounds_toArray, List.set_cons_zero, List.set_cons_succ])
  refine wpAnyH_take (i := 10) (v := undef) rfl (by kernel_rfl) (by kernel_rfl) (by kernel_rfl) (fun _ _ _ h => h) (Or.inr ⟨by rfl, rfl⟩) (by assumption) ?_
  (try simp only [Act.put, List.getElem_toArray, List.getElem_cons_succ, List.getElem_cons_zero, List.setIfInBounds_toArray, List.set_cons_zero, List.set_cons_succ])
  refine wpAnyH_take (i := 11) (v := undef) rfl (by kernel_rfl) (by kernel_rfl) (by kernel_rfl) (fun _ _ _ h => h) (Or.inr ⟨by rfl, rfl⟩) (by assumption) ?_
  (try simp only [Act.put, List.getElem_toArray, List.getElem_cons_succ, List.getElem_cons_zero, List.setIfInBounds_toArray, List.set_cons_zero, List.set_cons_succ])
  refine wpAnyH_take (i := 12) (v := .bool false) rfl (by kernel_rfl) (by kernel_rfl) (by kernel_rfl) (fun _ _ _ h => h) (Or.inl ⟨by rfl, (by intro w hSw; (try dsimp only at hSw); go_simp <;> first | with_reducible rfl | omega)⟩) (by assumption) ?_
  (try simp only [Act.put, List.getElem_toArray, List.getElem_cons_succ, List.getElem_cons_zero, List.setIfInBounds_toArray, List.set_cons_zero, List.set_cons_succ])
  refine wpAnyH_take (i := 13) (v := .bool false) rfl (by kernel_rfl) (by kernel_rfl) (by kernel_rfl) (fun _ _ _ h => h) (Or.inl ⟨by rfl, (by intro w hSw; (try dsimp only at hSw); go_simp <;> first | with_reducible rfl | omega)⟩) (by assumption) ?_
  (try simp only [Act.put, List.getElem_toArray, List.getElem_cons_succ, List.getElem_cons_zero, List.setIfInBounds_toArray, List.set_cons_zero, List.set_cons_succ])
  refine wpAnyH_done (by kernel_rfl) ?_ _
  have hBZ := Gen.over hH2.1 HBA.out
  go_wp2
  go_ret
  exact ⟨ret_bool HR.out.symm, hBZ⟩
set_option maxRecDepth 100000 in
set_option maxHeartbeats 4000000 in
theorem set1_1 (k t u mm d o b day z : Int) (c g7 g11 bH oH n cH : Nat) (w : World) (h7 : w.cell? ⟨g7, 0, none⟩ = some (.int .i64 day)) (h11 : w.cell? ⟨g11, 0, none⟩ = some (.slice (some ⟨bH, oH, none⟩) n cH)) (hz : w.cell? ⟨bH, oH + c, none⟩ = some (.int .i64 z)) (hcn : c < n)
    (ho : opn day ⟨k, (c : Int), t, u, mm, d, o, b⟩ = true) :
    Calls Try.prog 50 #[.agg #[.int .i64 k, .int .i64 (c : Int), .int .i64 t, .int .i64 u, .int .i64 mm, .int .i64 d, .int .i64 o, .int .i64 b], .pointer (some ⟨g7, 0, none⟩), .pointer (some ⟨g11, 0, none⟩)] w fun e w' => e = .returned (.bool (opn day ⟨k, (c : Int), t, u, mm, d, o, b⟩ && decide (u ≤ z))) ∧ Below w.heap.size w w' := by
  have HO := Lib.hid ho
  have HR := Lib.hid (show (opn day ⟨k, (c : Int), t, u, mm, d, o, b⟩ && decide (u ≤ z)) = decide (u ≤ z) from by rw [ho]; rfl)
  have hcI : (c : Int) < (n : Int) := by omega
  have hBA : Below w.heap.size w (w.alloc (.cells #[.int .i64 k, .int .i64 (c : Int), .int .i64 t, .int .i64 u, .int .i64 mm, .int .i64 d, .int .i64 o, .int .i64 b] 26)) := Gen.b_alloc (Below.refl _ _)
  have a7 := Gen.keep hBA h7
  have a11 := Gen.keep hBA h11
  have az := Gen.keep hBA hz
  have HBA := Lib.hid hBA
  have HBY : Hid (Row (w.alloc (.cells #[.int .i64 k, .int .i64 (c : Int), .int .i64 t, .int .i64 u, .int .i64 mm, .int .i64 d, .int .i64 o, .int .i64 b] 26)) w.heap.size 26 #[.int .i64 k, .int .i64 (c : Int), .int .i64 t, .int .i64 u, .int .i64 mm, .int .i64 d, .int .i64 o, .int .i64 b]) := Lib.hid (Row.new _ _ _)
  clear hBA ho
  go_enter Try.func50, Try.ntmps50
  go_wp2
  have HSS : Hid (∀ W', Below (w.alloc (.cells #[.int .i64 k, .int .i64 (c : Int), .int .i64 t, .int .i64 u, .int .i64 mm, .int .i64 d, .int .i64 o, .int .i64 b] 26)).heap.size (w.alloc (.cells #[.int .i64 k, .int .i64 (c : Int), .int .i64 t, .int .i64 u, .int .i64 mm, .int .i64 d, .int .i64 o, .int .i64 b] 26)) W' → Below (w.alloc (.cells #[.int .i64 k, .int .i64 (c : Int), .int .i64 t, .int .i64 u, .int .i64 mm, .int .i64 d, .int .i64 o, .int .i64 b] 26)).heap.size (w.alloc (.cells #[.int .i64 k, .int .i64 (c : Int), .int .i64 t, .int .i64 u, .int .i64 mm, .int .i64 d, .int .i64 o, .int .i64 b] 26)) W' ∧ W'.cell? ⟨w.heap.size, 0, none⟩ = some (.int .i64 k) ∧ W'.cell? ⟨w.heap.size, 1, none⟩ = some (.int .i64 (c : Int)) ∧ W'.cell? ⟨w.heap.size, 2, none⟩ = some (.int .i64 t) ∧ W'.cell? ⟨w.heap.size, 3, none⟩ = some (.int .i64 u) ∧ W'.cell? ⟨w.heap.size, 4, none⟩ = some (.int .i64 mm) ∧ W'.cell? ⟨w.heap.size, 5, none⟩ = some (.int .i64 d) ∧ W'.cell? ⟨w.heap.size, 6, none⟩ = some (.int .i64 o) ∧ W'.cell? ⟨w.heap.size, 7, none⟩ = some (.int .i64 b) ∧ W'.cell? ⟨g7, 0, none⟩ = some (.int .i64 day) ∧ W'.cell? ⟨g11, 0, none⟩ = some (.slice (some ⟨bH, oH, none⟩) n cH) ∧ W'.cell? ⟨bH, oH + c, none⟩ = some (.int .i64 z)) := Lib.hid (fun W' h => ⟨h, (HBY.out.keep h).cell 0, (HBY.out.keep h).cell 1, (HBY.out.keep h).cell 2, (HBY.out.keep h).cell 3, (HBY.out.keep h).cell 4, (HBY.out.keep h).cell 5, (HBY.out.keep h).cell 6, (HBY.out.keep h).cell 7, Gen.keep h a7, Gen.keep h a11, Gen.keep h az⟩)
  refine wp_region_held_drew (S := fun W' => Below (w.alloc (.cells #[.int .i64 k, .int .i64 (c : Int), .int .i64 t, .int .i64 u, .int .i64 mm, .int .i64 d, .int .i64 o, .int .i64 b] 26)).heap.size (w.alloc (.cells #[.int .i64 k, .int .i64 (c : Int), .int .i64 t, .int .i64 u, .int .i64 mm, .int .i64 d, .int .i64 o, .int .i64 b] 26)) W' ∧ W'.cell? ⟨w.heap.size, 0, none⟩ = some (.int .i64 k) ∧ W'.cell? ⟨w.heap.size, 1, none⟩ = some (.int .i64 (c : Int)) ∧ W'.cell? ⟨w.heap.size, 2, none⟩ = some (.int .i64 t) ∧ W'.cell? ⟨w.heap.size, 3, none⟩ = some (.int .i64 u) ∧ W'.cell? ⟨w.heap.size, 4, none⟩ = some (.int .i64 mm) ∧ W'.cell? ⟨w.heap.size, 5, none⟩ = some (.int .i64 d) ∧ W'.cell? ⟨w.heap.size, 6, none⟩ = some (.int .i64 o) ∧ W'.cell? ⟨w.heap.size, 7, none⟩ = some (.int .i64 b) ∧ W'.cell? ⟨g7, 0, none⟩ = some (.int .i64 day) ∧ W'.cell? ⟨g11, 0, none⟩ = some (.slice (some ⟨bH, oH, none⟩) n cH) ∧ W'.cell? ⟨bH, oH + c, none⟩ = some (.int .i64 z)) (by kernel_rfl) (HSS.out _ (Below.refl _ _).drew) (fun hHeld => ?_)
  refine wpAnyH_take (i := 0) (v := .agg #[.int .i64 k, .int .i64 (c : Int), .int .i64 t, .int .i64 u, .int .i64 mm, .int .i64 d, .int .i64 o, .int .i64 b]) rfl (by kernel_rfl) (by kernel_rfl) (by kernel_rfl) (fun _ _ _ h => h) (Or.inl ⟨by rfl, (by intro w hSw; (try dsimp only at hSw); go_simp <;> first | with_reducible rfl | omega)⟩) (by assumption) ?_
  (try simp only [Act.put, List.getElem_toArray, List.getElem_cons_succ, List.getElem_cons_zero, List.setIfInBounds_toArray, List.set_cons_zero, List.set_cons_succ])
  refine wpAnyH_take (i := 1) (v := .int .i64 day) rfl (by kernel_rfl) (by kernel_rfl) (by kernel_rfl) (fun _ _ _ h => h) (Or.inl ⟨by rfl, (by intro w hSw; (try dsimp only at hSw); go_simp <;> first | with_reducible rfl | omega)⟩) (by assumption) ?_
  (try simp only [Act.put, List.getElem_toArray, List.getElem_cons_succ, List.getElem_cons_zero, List.setIfInBounds_toArray, List.set_cons_zero, List.set_cons_succ])
  refine wpAnyH_ready (rs := [2]) (by kernel_rfl) (by simp) ?_
  refine AllReadyH.cons rfl (fun K hK => ?_) AllReadyH.nil
  rw [if_pos (by rfl)]
  (try simp only [Act.put, List.getElem_toArray, List.getElem_cons_succ, List.getElem_cons_zero, List.setIfInBounds_toArray, List.set_cons_zero, List.set_cons_succ])
  go_simp
  go_at_call 51
  refine (topen_is _ HO.out).mono ?_
  rintro e w1 ⟨rfl, hb1⟩
  refine hK.out _ _ (HSS.out _ (Gen.over hb1 hHeld.1)) (fun hH2 => ?_)
  clear hK K
  (try simp only [Act.put, List.getElem_toArray, List.getElem_cons_succ, List.getElem_cons_zero, List.setIfInBounds_toArray, List.set_cons_zero, List.set_cons_succ])
  refine wpAnyH_take (i := 3) (v := .bool true) rfl (by kernel_rfl) (by kernel_rfl) (by kernel_rfl) (fun _ _ _ h => h) (Or.inl ⟨by rfl, (by intro w hSw; (try dsimp only at hSw); go_simp <;> first | with_reducible rfl | omega)⟩) (by assumption) ?_
  (try simp only [Act.put, List.getElem_toArray, List.getElem_cons_succ, List.getElem_cons_zero, List.setIfInBounds_toArray, List.set_cons_zero, List.set_cons_succ])
  refine wpAnyH_take (i := 4) (v := .slice (some ⟨bH, oH, none⟩) n cH) rfl (by kernel_rfl) (by kernel_rfl) (by kernel_rfl) (fun _ _ _ h => h) (Or.inl ⟨by rfl, (by intro w hSw; (try dsimp only at hSw); go_simp <;> first | with_reducible rfl | omega)⟩) (by assumption) ?_
  (try simp only [Act.put, List.getElem_toArray, List.getElem_cons_succ, List.getElem_cons_zero, List.setIfInBounds_toArray, List.set_cons_zero, List.set_cons_succ])
  refine wpAnyH_take (i := 5) (v := .pointer (some ⟨w.heap.size, 1, none⟩)) rfl (by kernel_rfl) (by kernel_rfl) (by kernel_rfl) (fun _ _ _ h => h) (Or.inl ⟨by rfl, (by intro w hSw; (try dsimp only at hSw); go_simp <;> first | with_reducible rfl | omega)⟩) (by assumption) ?_
  (try simp only [Act.put, List.getElem_toArray, List.getElem_cons_succ, List.getElem_cons_zero, List.setIfInBounds_toArray, List.set_cons_zero, List.set_cons_succ])
  refine wpAnyH_take (i := 6) (v := .int .i64 (c : Int)) rfl (by kernel_rfl) (by kernel_rfl) (by kernel_rfl) (fun _ _ _ h => h) (Or.inl ⟨by rfl, (by intro w hSw; (try dsimp only at hSw); go_simp <;> first | with_reducible rfl | omega)⟩) (by assumption) ?_
  (try simp only [Act.put, List.getElem_toArray, List.getElem_cons_succ, List.getElem_cons_zero, List.setIfInBounds_toArray, List.set_cons_zero, List.set_cons_succ])
  refine wpAnyH_take (i := 7) (v := .pointer (some ⟨bH, oH + c, none⟩)) rfl (by kernel_rfl) (by kernel_rfl) (by kernel_rfl) (fun _ _ _ h => h) (Or.inl ⟨by rfl, (by intro w hSw; (try dsimp only at hSw); go_simp <;> first | with_reducible rfl | omega)⟩) (by assumption) ?_
  (try simp only [Act.put, List.getElem_toArray, List.getElem_cons_succ, List.getElem_cons_zero, List.setIfInBounds_toArray, List.set_cons_zero, List.set_cons_succ])
  refine wpAnyH_take (i := 8) (v := .int .i64 z) rfl (by kernel_rfl) (by kernel_rfl) (by kernel_rfl) (fun _ _ _ h => h) (Or.inl ⟨by rfl, (by intro w hSw; (try dsimp only at hSw); go_simp <;> first | with_reducible rfl | omega)⟩) (by assumption) ?_
  (try simp only [Act.put, List.getElem_toArray, List.getElem_cons_succ, List.getElem_cons_zero, List.setIfInBounds_toArray, List.set_cons_zero, List.set_cons_succ])
  refine wpAnyH_take (i := 9) (v := .pointer (some ⟨w.heap.size, 3, none⟩)) rfl (by kernel_rfl) (by kernel_rfl) (by kernel_rfl) (fun _ _ _ h => h) (Or.inl ⟨by rfl, (by intro w hSw; (try dsimp only at hSw); go_simp <;> first | with_reducible rfl | omega)⟩) (by assumption) ?_
  (try simp only [Act.put, List.getElem_toArray, List.getElem_cons_succ, List.getElem_cons_zero, List.setIfInBounds_toArray, List.set_cons_zero, List.set_cons_succ])
  refine wpAnyH_take (i := 10) (v := .int .i64 u) rfl (by kernel_rfl) (by kernel_rfl) (by kernel_rfl) (fun _ _ _ h => h) (Or.inl ⟨by rfl, (by intro w hSw; (try dsimp only at hSw); go_simp <;> first | with_reducible rfl | omega)⟩) (by assumption) ?_
  (try simp only [Act.put, List.getElem_toArray, List.getElem_cons_succ, List.getElem_cons_zero, List.setIfInBounds_toArray, List.set_cons_zero, List.set_cons_succ])
  refine wpAnyH_take (i := 11) (v := .bool (decide (u ≤ z))) rfl (by kernel_rfl) (by kernel_rfl) (by kernel_rfl) (fun _ _ _ h => h) (Or.inl ⟨by rfl, (by intro w hSw; (try dsimp only at hSw); go_simp <;> first | with_reducible rfl | omega)⟩) (by assumption) ?_
  (try simp only [Act.put, List.getElem_toArray, List.getElem_cons_succ, List.getElem_cons_zero, List.setIfInBounds_toArray, List.set_cons_zero, List.set_cons_succ])
  refine wpAnyH_take (i := 12) (v := .bool (decide (u ≤ z))) rfl (by kernel_rfl) (by kernel_rfl) (by kernel_rfl) (fun _ _ _ h => h) (Or.inl ⟨by rfl, (by intro w hSw; (try dsimp only at hSw); go_simp <;> first | with_reducible rfl | omega)⟩) (by assumption) ?_
  (try simp only [Act.put, List.getElem_toArray, List.getElem_cons_succ, List.getElem_cons_zero, List.setIfInBounds_toArray, List.set_cons_zero, List.set_cons_succ])
  refine wpAnyH_take (i := 13) (v := .bool (decide (u ≤ z))) rfl (by kernel_rfl) (by kernel_rfl) (by kernel_rfl) (fun _ _ _ h => h) (Or.inl ⟨by rfl, (by intro w hSw; (try dsimp only at hSw); go_simp <;> first | with_reducible rfl | omega)⟩) (by assumption) ?_
  (try simp only [Act.put, List.getElem_toArray, List.getElem_cons_succ, List.getElem_cons_zero, List.setIfInBounds_toArray, List.set_cons_zero, List.set_cons_succ])
  refine wpAnyH_done (by kernel_rfl) ?_ _
  have hBZ := Gen.over hH2.1 HBA.out
  go_wp2
  go_ret
  exact ⟨ret_bool HR.out.symm, hBZ⟩
theorem set1_any (x : Tr) (day : Int) (g7 g11 n cH : Nat) (AH : Option Addr) (H : List Int) (w : World) (h7 : w.cell? ⟨g7, 0, none⟩ = some (.int .i64 day)) (h11 : w.cell? ⟨g11, 0, none⟩ = some (.slice AH n cH)) (hH : H.length = n) (hc : Ints w AH H) (f0 : 0 ≤ x.f) (f1 : x.f < n) :
    Calls Try.prog 50 #[.agg (tcs x).toArray, .pointer (some ⟨g7, 0, none⟩), .pointer (some ⟨g11, 0, none⟩)] w fun e w' => e = .returned (.bool (can day H x)) ∧ Below w.heap.size w w' := by
  obtain ⟨k, f, t, u, mm, d, o, b⟩ := x
  dsimp only at f0 f1
  obtain ⟨c, rfl⟩ := Int.eq_ofNat_of_zero_le f0
  obtain ⟨bH, oH, rfl, hcell⟩ := hc (by omega)
  obtain ⟨z, hz⟩ := at_ H c (by omega)
  have hcz := hcell c z hz
  have hcan : can day H ⟨k, (c : Int), t, u, mm, d, o, b⟩ = (opn day ⟨k, (c : Int), t, u, mm, d, o, b⟩ && decide (u ≤ z)) := by
    unfold can
    dsimp only
    rw [Int.toNat_natCast, List.getD_eq_getElem?_getD, hz]; rfl
  rw [hcan]
  cases ho : opn day ⟨k, (c : Int), t, u, mm, d, o, b⟩
  · have := set1_0 k t u mm d o b day z c g7 g11 bH oH n cH w h7 h11 hcz (by omega) ho
    rwa [ho] at this
  · have := set1_1 k t u mm d o b day z c g7 g11 bH oH n cH w h7 h11 hcz (by omega) ho
    rwa [ho] at this
/-- what a closure over trades returns, in each world that has what it needs -/
def TellsS (l : List Tr) (g g11 : Nat) (p : Tr → Bool) (w : World) : Prop := ∀ (W : World) (x : Tr), x ∈ l → Below w.heap.size w W → Calls Try.prog 50 #[.agg (tcs x).toArray, .pointer (some ⟨g, 0, none⟩), .pointer (some ⟨g11, 0, none⟩)] W fun e w' => e = .returned (.bool (p x)) ∧ Below W.heap.size W w'
set_option maxRecDepth 100000 in
set_option maxHeartbeats 4000000 in
theorem tidxS (A : Option Addr) (n cap : Nat) (l : List Tr) (g g11 : Nat) (p : Tr → Bool) (w : World) (hn : l.length = n) (hc : Trs w A l) (hbig : n ≤ 1000000)
    (hcl : TellsS l g g11 p w) :
    Calls Try.prog 49 #[.slice A n cap, .func (Fn.func 50) #[] #[.pointer (some ⟨g, 0, none⟩), .pointer (some ⟨g11, 0, none⟩)]] w fun e w' => e = .returned (.int .i64 (idx p l)) ∧ Below w.heap.size w w' := by
  have HN := Lib.hid hn
  have HT := Lib.hid hcl
  clear hn hcl
  go_enter Try.func49, Try.ntmps49
  go_wp2
  go_loopw [8] (fun iv wr => ∃ k : Nat, k ≤ n ∧ iv = .int .i64 k ∧ Hid (∀ y ∈ l.take k, p y = false) ∧ Below w.heap.size w wr) (fun iv _ => n - (intOf iv).toNat)
  case atStart => exact ⟨0, Nat.zero_le _, rfl, Lib.hid (by simp), Below.refl _ _⟩
  case round =>
    obtain ⟨k, hk, rfl, HA, hB⟩ := hrel
    by_cases hlt : k < n
    · obtain ⟨b, off, rfl, hcell⟩ := (hc.keep hB) (by rw [HN.out]; omega)
      obtain ⟨x, hx⟩ := at_ l k (by rw [HN.out]; exact hlt)
      obtain ⟨c0, c1, c2, c3, c4, c5, c6, c7⟩ := hcell k x hx
      have HX := Lib.hid hx
      have hl := HT.out wr x (mem_of_at hx) hB
      clear hcell hx hc
      obtain ⟨xk, xf, xt, xu, xm, xd, xo, xb⟩ := x
      dsimp only at c0 c1 c2 c3 c4 c5 c6 c7
      have HL : Hid (Calls Try.prog 50 #[.agg #[.int .i64 xk, .int .i64 xf, .int .i64 xt, .int .i64 xu, .int .i64 xm, .int .i64 xd, .int .i64 xo, .int .i64 xb], .pointer (some ⟨g, 0, none⟩), .pointer (some ⟨g11, 0, none⟩)] wr fun e w' => e = .returned (.bool (p ⟨xk, xf, xt, xu, xm, xd, xo, xb⟩)) ∧ Below wr.heap.size wr w') := Lib.hid hl
      clear hl
      go_wp2_with (fail)
      go_must (refine (HL.out).mono ?_)
      rintro e w1 ⟨rfl, hb⟩
      have hB1 := Gen.over hb hB
      clear hb hB HL
      cases hp : p ⟨xk, xf, xt, xu, xm, xd, xo, xb⟩
      · have HF : Hid (∀ y ∈ l.take (k + 1), p y = false) := Lib.hid (fun y hy => by
          rw [take_snoc HX.out, List.mem_append] at hy
          rcases hy with hy | hy
          · exact HA.out y hy
          · rw [List.mem_singleton.1 hy]; exact hp)
        clear hp
        go_wp2
        go_roundw
        case rel => first | exact ⟨k + 1, by omega, by go_num, HF, hB1⟩ | exact ⟨k + 1, by omega, by go_num, HF⟩
        case measure => simp [intOf]; omega
      · have HF := Lib.hid (idx_yes HA.out HX.out hp)
        clear hp
        go_wp2
        go_ret
        exact ⟨ret_int HF.out.symm, hB1⟩
    · obtain rfl : k = n := by omega
      have HF := Lib.hid (idx_no (p := p) (l := l) (fun y hy => HA.out y (by rw [List.take_of_length_le (by rw [HN.out]; exact Nat.le_refl _)]; exact hy)))
      go_wp2
      go_ret
      exact ⟨ret_int HF.out.symm, hB⟩
end Go.Proofs.Ytpekedhcnijgcaa.Book
