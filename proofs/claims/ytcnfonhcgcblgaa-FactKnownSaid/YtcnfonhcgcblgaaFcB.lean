/- Facts: right, Right, of the program and of the reference. -/
import Derived.Test.YtcnfonhcgcblgaaFcA
import Derived.BigRegion
namespace Go.Proofs.Ytcnfonhcgcblgaa.Fc
open Go.Lib Go.ChangeShapes Go.WideShapes Go.ChangeAt Go.RowKit Go.Proofs.Ytcnfonhcgcblgaa.Cell Go.Proofs.Ytcnfonhcgcblgaa.Wd Go.Proofs.Ytcnfonhcgcblgaa.Rk
set_option linter.unusedVariables false
set_option linter.unusedSimpArgs false
/-- a fact's cells -/
def fcs (x : Fa) : List Value := [.int .i64 x.is, .string ⟨x.nm.toArray⟩, .int .i64 x.pe, .int .i64 x.va, .int .i64 x.dy]
theorem fcs_one (l : List Fa) : ∀ u ∈ l.flatMap fcs, u.oneCell' = true := fun u hu => by
  obtain ⟨x, _, hx⟩ := List.mem_flatMap.1 hu
  simp [fcs] at hx
  rcases hx with rfl | rfl | rfl | rfl | rfl <;> rfl
theorem okF_eq (i p v d : Int) (n : List UInt8) : okF ⟨i, n, p, v, d⟩ = (decide (0 ≤ i) && decide (i < 60) && decide (0 ≤ p) && decide (p ≤ d) && decide (d ≤ 200000) && decide (0 ≤ v) && decide (v ≤ 1000000000000000) && isName n) := rfl
set_option maxRecDepth 100000 in
set_option maxHeartbeats 4000000 in
theorem fright_any (xi xp xv xd : Int) (xn : List UInt8) {W : World} (hl : xn.length ≤ 1000000000) : Calls Try.prog 42 #[.agg #[.int .i64 xi, .string ⟨xn.toArray⟩, .int .i64 xp, .int .i64 xv, .int .i64 xd]] W fun e w' => e = .returned (.bool (okF ⟨xi, xn, xp, xv, xd⟩)) ∧ Below W.heap.size W w' := by
  have HE := Lib.hid (okF_eq xi xp xv xd xn)
  have HN := Lib.hid (fun W' => name_any (l := xn) (W := W') hl)
  obtain ⟨R, hR⟩ : ∃ R, okF ⟨xi, xn, xp, xv, xd⟩ = R := ⟨_, rfl⟩
  obtain ⟨b, hb⟩ : ∃ b, isName xn = b := ⟨_, rfl⟩
  rw [hR, hb] at HE
  rw [hb] at HN
  rw [hR]
  clear hR hb
  by_cases h0 : 0 ≤ xi
  case neg =>
    have g0 : xi < 0 := by omega
    obtain rfl : R = false := by rw [HE.out]; simp [h0]
    clear HE HN h0
    go_enter Try.func42, Try.ntmps42
    go_wp2
    go_ret
    exact ⟨rfl, by first | exact Below.refl _ _ | go_grown⟩
  by_cases h1 : xi < 60
  case neg =>
    have g1 : 60 ≤ xi := by omega
    obtain rfl : R = false := by rw [HE.out]; simp [h1]
    clear HE HN h1
    go_enter Try.func42, Try.ntmps42
    go_wp2
    go_ret
    exact ⟨rfl, by first | exact Below.refl _ _ | go_grown⟩
  by_cases h2 : 0 ≤ xp
  case neg =>
    have g2 : xp < 0 := by omega
    obtain rfl : R = false := by rw [HE.out]; simp [h2]
    clear HE HN h2
    go_enter Try.func42, Try.ntmps42
    go_wp2
    go_ret
    exact ⟨rfl, by first | exact Below.refl _ _ | go_grown⟩
  by_cases h3 : xp ≤ xd
  case neg =>
    have g3 : xd < xp := by omega
    obtain rfl : R = false := by rw [HE.out]; simp [h3]
    clear HE HN h3
    go_enter Try.func42, Try.ntmps42
    go_wp2
    go_ret
    exact ⟨rfl, by first | exact Below.refl _ _ | go_grown⟩
  by_cases h4 : xd ≤ 200000
  case neg =>
    have g4 : 200000 < xd := by omega
    obtain rfl : R = false := by rw [HE.out]; simp [h4]
    clear HE HN h4
    go_enter Try.func42, Try.ntmps42
    go_wp2
    go_ret
    exact ⟨rfl, by first | exact Below.refl _ _ | go_grown⟩
  by_cases h5 : 0 ≤ xv
  case neg =>
    have g5 : xv < 0 := by omega
    obtain rfl : R = false := by rw [HE.out]; simp [h5]
    clear HE HN h5
    go_enter Try.func42, Try.ntmps42
    go_wp2
    go_ret
    exact ⟨rfl, by first | exact Below.refl _ _ | go_grown⟩
  by_cases h6 : xv ≤ 1000000000000000
  case neg =>
    have g6 : 1000000000000000 < xv := by omega
    obtain rfl : R = false := by rw [HE.out]; simp [h6]
    clear HE HN h6
    go_enter Try.func42, Try.ntmps42
    go_wp2
    go_ret
    exact ⟨rfl, by first | exact Below.refl _ _ | go_grown⟩
  obtain rfl : R = b := by rw [HE.out, decide_eq_true h0, decide_eq_true h1, decide_eq_true h2, decide_eq_true h3, decide_eq_true h4, decide_eq_true h5, decide_eq_true h6]; rfl
  go_enter Try.func42, Try.ntmps42
  go_wp2_with (fail)
  go_must (refine (HN.out _).mono ?_)
  rintro e w1 ⟨rfl, hw⟩
  have hw := hw.symm
  subst hw
  go_wp2
  go_ret
  exact ⟨rfl, by first | exact Below.refl _ _ | go_grown⟩
set_option maxRecDepth 100000 in
set_option maxHeartbeats 16000000 in
theorem fRight_any {w : World} {A : Option Addr} {n c : Nat} {l : List Fa} (hn : l.length = n) (hc : Rs fcs 5 w A l) (hbig : n ≤ 9223372036854775807) (hnm : ∀ x ∈ l, x.nm.length ≤ 1000000000) :
    Calls Try.prog 20 #[.slice A n c] w fun e w' => e = .returned (.bool (rgF l)) ∧ Below w.heap.size w w' := by
  have HN := Lib.hid hn
  have HC := Lib.hid hc
  have HNM := Lib.hid hnm
  obtain ⟨R, hR⟩ : ∃ R, rgF l = R := ⟨_, rfl⟩
  rw [hR]
  unfold rgF at hR
  rw [hn] at hR
  by_cases hbn : n ≤ 10000
  case neg =>
    rw [decide_eq_false hbn, Bool.false_and] at hR
    subst hR
    have h1 : (10000 : Int) < (n : Int) := by omega
    clear hn hc hnm
    go_enter Try.func20, Try.ntmps20
    go_wp2
    go_ret
    exact ⟨rfl, Below.refl _ _⟩
  rw [decide_eq_true hbn, Bool.true_and] at hR
  have h1 : ¬((10000 : Int) < (n : Int)) := by omega
  have HR := Lib.hid (show oksF 0 (l.drop 0) = R from hR)
  clear hn hc hnm hR
  go_enter Try.func20, Try.ntmps20
  go_wp2_with (fail)
  clear h1
  go_loopw [10] (fun iv wr => ∃ (k : Nat) (y : Int), k ≤ n ∧ iv = .int .i64 k ∧ Hid ((k = 0 ∧ y = 0) ∨ ∃ p x, k = p + 1 ∧ l[p]? = some x ∧ x.dy = y ∧ 0 ≤ x.dy) ∧ Hid (oksF y (l.drop k) = R) ∧ Hid (Below w.heap.size w wr)) (fun iv _ => n - (RowKit.intOf iv).toNat)
  case atStart => exact ⟨0, 0, Nat.zero_le _, rfl, Lib.hid (.inl ⟨rfl, rfl⟩), HR, Lib.hid (Below.refl _ _)⟩
  case round =>
    obtain ⟨k, y, hk, rfl, HST, HA, HB⟩ := hrel
    have k0 : (0 : Int) ≤ (k : Int) := by omega
    by_cases hlt : k < n
    · have hltI : (k : Int) < (n : Int) := by omega
      obtain ⟨⟨xi, xn, xp, xv, xd⟩, hx⟩ := at_ l k (by rw [HN.out]; exact hlt)
      have hnx := HNM.out _ (mem_of_at hx)
      obtain ⟨b, off, rfl, hcell⟩ := (HC.out.keep HB.out) (by rw [HN.out]; omega)
      have c0 := hcell k _ hx 0 _ rfl
      have c1 := hcell k _ hx 1 _ rfl
      have c2 := hcell k _ hx 2 _ rfl
      have c3 := hcell k _ hx 3 _ rfl
      have c4 := hcell k _ hx 4 _ rfl
      dsimp only at c0 c1 c2 c3 c4 hnx
      rw [Nat.add_zero] at c0
      obtain ⟨W2, hW2⟩ : ∃ W2, (wr.alloc (.cells #[.int .i64 xi, .string ⟨xn.toArray⟩, .int .i64 xp, .int .i64 xv, .int .i64 xd] 24)) = W2 := ⟨_, rfl⟩
      have hx2 : Below wr.heap.size wr W2 := by rw [← hW2]; exact Gen.b_alloc (Below.refl _ _)
      have hrw : Row W2 wr.heap.size 24 #[.int .i64 xi, .string ⟨xn.toArray⟩, .int .i64 xp, .int .i64 xv, .int .i64 xd] := by rw [← hW2]; exact Gen.rowAt _ _ _ rfl
      have s0 : W2.cell? ⟨wr.heap.size, 0, none⟩ = some (.int .i64 xi) := hrw.cell 0
      have s1 : W2.cell? ⟨wr.heap.size, 1, none⟩ = some (.string ⟨xn.toArray⟩) := hrw.cell 1
      have s2 : W2.cell? ⟨wr.heap.size, 2, none⟩ = some (.int .i64 xp) := hrw.cell 2
      have s3 : W2.cell? ⟨wr.heap.size, 3, none⟩ = some (.int .i64 xv) := hrw.cell 3
      have s4 : W2.cell? ⟨wr.heap.size, 4, none⟩ = some (.int .i64 xd) := hrw.cell 4
      have HB2 := Lib.hid (Gen.over hx2 HB.out)
      have HF := Lib.hid (fun W' => fright_any xi xp xv xd xn (W := W') hnx)
      have hA := HA.out
      rw [(List.drop_eq_getElem_cons (by rw [HN.out]; exact hlt) : l.drop k = _), (List.getElem?_eq_some_iff.1 hx).2, oksF] at hA
      have hko := okF_eq xi xp xv xd xn
      cases hz : okF ⟨xi, xn, xp, xv, xd⟩
      · rw [hz] at hA HF
        obtain rfl : R = false := by rw [← hA]; rfl
        clear hA HA HST hcell hx hlt hrw hx2 hz hko HR
        go_wp2
        try rw [hW2]
        clear hW2 c0 c1 c2 c3 c4
        refine wp_region_held_drew (S := (fun W' : World => W'.cell? ⟨wr.heap.size, 0, none⟩ = some (.int .i64 xi) ∧ W'.cell? ⟨wr.heap.size, 1, none⟩ = some (.string ⟨xn.toArray⟩) ∧ W'.cell? ⟨wr.heap.size, 2, none⟩ = some (.int .i64 xp) ∧ W'.cell? ⟨wr.heap.size, 3, none⟩ = some (.int .i64 xv) ∧ W'.cell? ⟨wr.heap.size, 4, none⟩ = some (.int .i64 xd))) (by kernel_rfl) (⟨s0, s1, s2, s3, s4⟩) (fun hHeld => ?_)
        refine wpAnyH_take (i := 0) (v := .agg #[.int .i64 xi, .string ⟨xn.toArray⟩, .int .i64 xp, .int .i64 xv, .int .i64 xd]) rfl (by kernel_rfl) (by kernel_rfl) (by kernel_rfl) (fun _ _ _ h => h) (Or.inl ⟨by rfl, (by intro w hSw; (try dsimp only at hSw); go_simp <;> first | with_reducible rfl | (with_reducible assumption) | omega)⟩) (by assumption) ?_
        (try simp only [Act.put, List.getElem_toArray, List.getElem_cons_succ, List.getElem_cons_zero, List.setIfInBounds_toArray, List.set_cons_zero, List.set_cons_succ])
        refine wpAnyH_ready (rs := [1]) (by kernel_rfl) (by simp) ?_
        refine AllReadyH.cons rfl (fun K hK => ?_) AllReadyH.nil
        rw [if_pos (by rfl)]
        (try simp only [Act.put, List.getElem_toArray, List.getElem_cons_succ, List.getElem_cons_zero, List.setIfInBounds_toArray, List.set_cons_zero, List.set_cons_succ])
        go_simp
        go_at_call 42
        refine (HF.out _).mono ?_
        rintro e' w3 ⟨rfl, hb3⟩
        refine hK.out _ _ (⟨keep0 hb3 _ _ _ s0, keep0 hb3 _ _ _ s1, keep0 hb3 _ _ _ s2, keep0 hb3 _ _ _ s3, keep0 hb3 _ _ _ s4⟩) (fun hH => ?_)
        clear hK K
        (try simp only [Act.put, List.getElem_toArray, List.getElem_cons_succ, List.getElem_cons_zero, List.setIfInBounds_toArray, List.set_cons_zero, List.set_cons_succ])
        refine wpAnyH_take (i := 2) (v := .bool true) rfl (by kernel_rfl) (by kernel_rfl) (by kernel_rfl) (fun _ _ _ h => h) (Or.inl ⟨by rfl, (by intro w hSw; (try dsimp only at hSw); go_simp <;> first | with_reducible rfl | (with_reducible assumption) | omega)⟩) (by assumption) ?_
        (try simp only [Act.put, List.getElem_toArray, List.getElem_cons_succ, List.getElem_cons_zero, List.setIfInBounds_toArray, List.set_cons_zero, List.set_cons_succ])
        refine wpAnyH_take (i := 3) (v := .bool true) rfl (by kernel_rfl) (by kernel_rfl) (by kernel_rfl) (fun _ _ _ h => h) (Or.inl ⟨by rfl, (by intro w hSw; (try dsimp only at hSw); go_simp <;> first | with_reducible rfl | (with_reducible assumption) | omega)⟩) (by assumption) ?_
        (try simp only [Act.put, List.getElem_toArray, List.getElem_cons_succ, List.getElem_cons_zero, List.setIfInBounds_toArray, List.set_cons_zero, List.set_cons_succ])
        refine wpAnyH_take (i := 4) (v := undef) rfl (by kernel_rfl) (by kernel_rfl) (by kernel_rfl) (fun _ _ _ h => h) (Or.inr ⟨by rfl, rfl⟩) (by assumption) ?_
        (try simp only [Act.put, List.getElem_toArray, List.getElem_cons_succ, List.getElem_cons_zero, List.setIfInBounds_toArray, List.set_cons_zero, List.set_cons_succ])
        refine wpAnyH_take (i := 5) (v := undef) rfl (by kernel_rfl) (by kernel_rfl) (by kernel_rfl) (fun _ _ _ h => h) (Or.inr ⟨by rfl, rfl⟩) (by assumption) ?_
        (try simp only [Act.put, List.getElem_toArray, List.getElem_cons_succ, List.getElem_cons_zero, List.setIfInBounds_toArray, List.set_cons_zero, List.set_cons_succ])
        refine wpAnyH_take (i := 6) (v := undef) rfl (by kernel_rfl) (by kernel_rfl) (by kernel_rfl) (fun _ _ _ h => h) (Or.inr ⟨by rfl, rfl⟩) (by assumption) ?_
        (try simp only [Act.put, List.getElem_toArray, List.getElem_cons_succ, List.getElem_cons_zero, List.setIfInBounds_toArray, List.set_cons_zero, List.set_cons_succ])
        refine wpAnyH_take (i := 7) (v := undef) rfl (by kernel_rfl) (by kernel_rfl) (by kernel_rfl) (fun _ _ _ h => h) (Or.inr ⟨by rfl, rfl⟩) (by assumption) ?_
        (try simp only [Act.put, List.getElem_toArray, List.getElem_cons_succ, List.getElem_cons_zero, List.setIfInBounds_toArray, List.set_cons_zero, List.set_cons_succ])
        refine wpAnyH_take (i := 8) (v := undef) rfl (by kernel_rfl) (by kernel_rfl) (by kernel_rfl) (fun _ _ _ h => h) (Or.inr ⟨by rfl, rfl⟩) (by assumption) ?_
        (try simp only [Act.put, List.getElem_toArray, List.getElem_cons_succ, List.getElem_cons_zero, List.setIfInBounds_toArray, List.set_cons_zero, List.set_cons_succ])
        refine wpAnyH_take (i := 9) (v := undef) rfl (by kernel_rfl) (by kernel_rfl) (by kernel_rfl) (fun _ _ _ h => h) (Or.inr ⟨by rfl, rfl⟩) (by assumption) ?_
        (try simp only [Act.put, List.getElem_toArray, List.getElem_cons_succ, List.getElem_cons_zero, List.setIfInBounds_toArray, List.set_cons_zero, List.set_cons_succ])
        refine wpAnyH_take (i := 10) (v := undef) rfl (by kernel_rfl) (by kernel_rfl) (by kernel_rfl) (fun _ _ _ h => h) (Or.inr ⟨by rfl, rfl⟩) (by assumption) ?_
        (try simp only [Act.put, List.getElem_toArray, List.getElem_cons_succ, List.getElem_cons_zero, List.setIfInBounds_toArray, List.set_cons_zero, List.set_cons_succ])
        refine wpAnyH_take (i := 11) (v := undef) rfl (by kernel_rfl) (by kernel_rfl) (by kernel_rfl) (fun _ _ _ h => h) (Or.inr ⟨by rfl, rfl⟩) (by assumption) ?_
        (try simp only [Act.put, List.getElem_toArray, List.getElem_cons_succ, List.getElem_cons_zero, List.setIfInBounds_toArray, List.set_cons_zero, List.set_cons_succ])
        refine wpAnyH_take (i := 12) (v := undef) rfl (by kernel_rfl) (by kernel_rfl) (by kernel_rfl) (fun _ _ _ h => h) (Or.inr ⟨by rfl, rfl⟩) (by assumption) ?_
        (try simp only [Act.put, List.getElem_toArray, List.getElem_cons_succ, List.getElem_cons_zero, List.setIfInBounds_toArray, List.set_cons_zero, List.set_cons_succ])
        refine wpAnyH_take (i := 13) (v := undef) rfl (by kernel_rfl) (by kernel_rfl) (by kernel_rfl) (fun _ _ _ h => h) (Or.inr ⟨by rfl, rfl⟩) (by assumption) ?_
        (try simp only [Act.put, List.getElem_toArray, List.getElem_cons_succ, List.getElem_cons_zero, List.setIfInBounds_toArray, List.set_cons_zero, List.set_cons_succ])
        refine wpAnyH_take (i := 14) (v := undef) rfl (by kernel_rfl) (by kernel_rfl) (by kernel_rfl) (fun _ _ _ h => h) (Or.inr ⟨by rfl, rfl⟩) (by assumption) ?_
        (try simp only [Act.put, List.getElem_toArray, List.getElem_cons_succ, List.getElem_cons_zero, List.setIfInBounds_toArray, List.set_cons_zero, List.set_cons_succ])
        refine wpAnyH_take (i := 15) (v := undef) rfl (by kernel_rfl) (by kernel_rfl) (by kernel_rfl) (fun _ _ _ h => h) (Or.inr ⟨by rfl, rfl⟩) (by assumption) ?_
        (try simp only [Act.put, List.getElem_toArray, List.getElem_cons_succ, List.getElem_cons_zero, List.setIfInBounds_toArray, List.set_cons_zero, List.set_cons_succ])
        refine wpAnyH_take (i := 16) (v := undef) rfl (by kernel_rfl) (by kernel_rfl) (by kernel_rfl) (fun _ _ _ h => h) (Or.inr ⟨by rfl, rfl⟩) (by assumption) ?_
        (try simp only [Act.put, List.getElem_toArray, List.getElem_cons_succ, List.getElem_cons_zero, List.setIfInBounds_toArray, List.set_cons_zero, List.set_cons_succ])
        refine wpAnyH_take (i := 17) (v := .bool true) rfl (by kernel_rfl) (by kernel_rfl) (by kernel_rfl) (fun _ _ _ h => h) (Or.inl ⟨by rfl, (by intro w hSw; (try dsimp only at hSw); go_simp <;> first | with_reducible rfl | (with_reducible assumption) | omega)⟩) (by assumption) ?_
        (try simp only [Act.put, List.getElem_toArray, List.getElem_cons_succ, List.getElem_cons_zero, List.setIfInBounds_toArray, List.set_cons_zero, List.set_cons_succ])
        refine wpAnyH_done (by kernel_rfl) ?_ _
        have HE := Lib.hid (show Below w.heap.size w w3 from Gen.over hb3 HB2.out.drew)
        clear hb3
        go_wp2
        go_ret
        exact ⟨rfl, HE.out⟩
      · rw [hz] at hA HF hko
        rw [Bool.true_and] at hA
        have hd0 : 0 ≤ xd := by
          have := hko.symm
          simp only [Bool.and_eq_true, decide_eq_true_eq] at this
          omega
        rcases HST.out with ⟨hk0, hy0⟩ | ⟨p, ⟨zi, zn, zp, zv, zd⟩, hkp, hzp, hzy, hz0⟩
        · subst hk0
          subst hy0
          rw [decide_eq_true hd0, Bool.true_and] at hA
          have HA2 : Hid (oksF xd (l.drop (0 + 1)) = R) := Lib.hid hA
          have HS2 : Hid ((0 + 1 = 0 ∧ xd = 0) ∨ ∃ p x, 0 + 1 = p + 1 ∧ l[p]? = some x ∧ x.dy = xd ∧ 0 ≤ x.dy) := Lib.hid (.inr ⟨0, _, rfl, hx, rfl, hd0⟩)
          rw [show off + 0 * 5 = off by omega] at c0 c1 c2 c3 c4
          clear hA HA HST hcell hx hlt hrw hx2 hz hko HR
          go_wp2
          try rw [hW2]
          clear hW2 c0 c1 c2 c3 c4
          refine wp_region_held_drew (S := (fun W' : World => W'.cell? ⟨wr.heap.size, 0, none⟩ = some (.int .i64 xi) ∧ W'.cell? ⟨wr.heap.size, 1, none⟩ = some (.string ⟨xn.toArray⟩) ∧ W'.cell? ⟨wr.heap.size, 2, none⟩ = some (.int .i64 xp) ∧ W'.cell? ⟨wr.heap.size, 3, none⟩ = some (.int .i64 xv) ∧ W'.cell? ⟨wr.heap.size, 4, none⟩ = some (.int .i64 xd))) (by kernel_rfl) (⟨s0, s1, s2, s3, s4⟩) (fun hHeld => ?_)
          refine wpAnyH_take (i := 0) (v := .agg #[.int .i64 xi, .string ⟨xn.toArray⟩, .int .i64 xp, .int .i64 xv, .int .i64 xd]) rfl (by kernel_rfl) (by kernel_rfl) (by kernel_rfl) (fun _ _ _ h => h) (Or.inl ⟨by rfl, (by intro w hSw; (try dsimp only at hSw); go_simp <;> first | with_reducible rfl | (with_reducible assumption) | omega)⟩) (by assumption) ?_
          (try simp only [Act.put, List.getElem_toArray, List.getElem_cons_succ, List.getElem_cons_zero, List.setIfInBounds_toArray, List.set_cons_zero, List.set_cons_succ])
          refine wpAnyH_ready (rs := [1]) (by kernel_rfl) (by simp) ?_
          refine AllReadyH.cons rfl (fun K hK => ?_) AllReadyH.nil
          rw [if_pos (by rfl)]
          (try simp only [Act.put, List.getElem_toArray, List.getElem_cons_succ, List.getElem_cons_zero, List.setIfInBounds_toArray, List.set_cons_zero, List.set_cons_succ])
          go_simp
          go_at_call 42
          refine (HF.out _).mono ?_
          rintro e' w3 ⟨rfl, hb3⟩
          refine hK.out _ _ (⟨keep0 hb3 _ _ _ s0, keep0 hb3 _ _ _ s1, keep0 hb3 _ _ _ s2, keep0 hb3 _ _ _ s3, keep0 hb3 _ _ _ s4⟩) (fun hH => ?_)
          clear hK K
          (try simp only [Act.put, List.getElem_toArray, List.getElem_cons_succ, List.getElem_cons_zero, List.setIfInBounds_toArray, List.set_cons_zero, List.set_cons_succ])
          refine wpAnyH_take (i := 2) (v := .bool false) rfl (by kernel_rfl) (by kernel_rfl) (by kernel_rfl) (fun _ _ _ h => h) (Or.inl ⟨by rfl, (by intro w hSw; (try dsimp only at hSw); go_simp <;> first | with_reducible rfl | (with_reducible assumption) | omega)⟩) (by assumption) ?_
          (try simp only [Act.put, List.getElem_toArray, List.getElem_cons_succ, List.getElem_cons_zero, List.setIfInBounds_toArray, List.set_cons_zero, List.set_cons_succ])
          refine wpAnyH_take (i := 3) (v := .bool false) rfl (by kernel_rfl) (by kernel_rfl) (by kernel_rfl) (fun _ _ _ h => h) (Or.inl ⟨by rfl, (by intro w hSw; (try dsimp only at hSw); go_simp <;> first | with_reducible rfl | (with_reducible assumption) | omega)⟩) (by assumption) ?_
          (try simp only [Act.put, List.getElem_toArray, List.getElem_cons_succ, List.getElem_cons_zero, List.setIfInBounds_toArray, List.set_cons_zero, List.set_cons_succ])
          refine wpAnyH_take (i := 4) (v := .int .i64 (0 : Int)) rfl (by kernel_rfl) (by kernel_rfl) (by kernel_rfl) (fun _ _ _ h => h) (Or.inl ⟨by rfl, (by intro w hSw; (try dsimp only at hSw); go_simp <;> first | with_reducible rfl | (with_reducible assumption) | omega)⟩) (by assumption) ?_
          (try simp only [Act.put, List.getElem_toArray, List.getElem_cons_succ, List.getElem_cons_zero, List.setIfInBounds_toArray, List.set_cons_zero, List.set_cons_succ])
          refine wpAnyH_take (i := 5) (v := .bool false) rfl (by kernel_rfl) (by kernel_rfl) (by kernel_rfl) (fun _ _ _ h => h) (Or.inl ⟨by rfl, (by intro w hSw; (try dsimp only at hSw); go_simp <;> first | with_reducible rfl | (with_reducible assumption) | omega)⟩) (by assumption) ?_
          (try simp only [Act.put, List.getElem_toArray, List.getElem_cons_succ, List.getElem_cons_zero, List.setIfInBounds_toArray, List.set_cons_zero, List.set_cons_succ])
          refine wpAnyH_take (i := 6) (v := .bool false) rfl (by kernel_rfl) (by kernel_rfl) (by kernel_rfl) (fun _ _ _ h => h) (Or.inl ⟨by rfl, (by intro w hSw; (try dsimp only at hSw); go_simp <;> first | with_reducible rfl | (with_reducible assumption) | omega)⟩) (by assumption) ?_
          (try simp only [Act.put, List.getElem_toArray, List.getElem_cons_succ, List.getElem_cons_zero, List.setIfInBounds_toArray, List.set_cons_zero, List.set_cons_succ])
          refine wpAnyH_take (i := 7) (v := undef) rfl (by kernel_rfl) (by kernel_rfl) (by kernel_rfl) (fun _ _ _ h => h) (Or.inr ⟨by rfl, rfl⟩) (by assumption) ?_
          (try simp only [Act.put, List.getElem_toArray, List.getElem_cons_succ, List.getElem_cons_zero, List.setIfInBounds_toArray, List.set_cons_zero, List.set_cons_succ])
          refine wpAnyH_take (i := 8) (v := undef) rfl (by kernel_rfl) (by kernel_rfl) (by kernel_rfl) (fun _ _ _ h => h) (Or.inr ⟨by rfl, rfl⟩) (by assumption) ?_
          (try simp only [Act.put, List.getElem_toArray, List.getElem_cons_succ, List.getElem_cons_zero, List.setIfInBounds_toArray, List.set_cons_zero, List.set_cons_succ])
          refine wpAnyH_take (i := 9) (v := undef) rfl (by kernel_rfl) (by kernel_rfl) (by kernel_rfl) (fun _ _ _ h => h) (Or.inr ⟨by rfl, rfl⟩) (by assumption) ?_
          (try simp only [Act.put, List.getElem_toArray, List.getElem_cons_succ, List.getElem_cons_zero, List.setIfInBounds_toArray, List.set_cons_zero, List.set_cons_succ])
          refine wpAnyH_take (i := 10) (v := undef) rfl (by kernel_rfl) (by kernel_rfl) (by kernel_rfl) (fun _ _ _ h => h) (Or.inr ⟨by rfl, rfl⟩) (by assumption) ?_
          (try simp only [Act.put, List.getElem_toArray, List.getElem_cons_succ, List.getElem_cons_zero, List.setIfInBounds_toArray, List.set_cons_zero, List.set_cons_succ])
          refine wpAnyH_take (i := 11) (v := undef) rfl (by kernel_rfl) (by kernel_rfl) (by kernel_rfl) (fun _ _ _ h => h) (Or.inr ⟨by rfl, rfl⟩) (by assumption) ?_
          (try simp only [Act.put, List.getElem_toArray, List.getElem_cons_succ, List.getElem_cons_zero, List.setIfInBounds_toArray, List.set_cons_zero, List.set_cons_succ])
          refine wpAnyH_take (i := 12) (v := undef) rfl (by kernel_rfl) (by kernel_rfl) (by kernel_rfl) (fun _ _ _ h => h) (Or.inr ⟨by rfl, rfl⟩) (by assumption) ?_
          (try simp only [Act.put, List.getElem_toArray, List.getElem_cons_succ, List.getElem_cons_zero, List.setIfInBounds_toArray, List.set_cons_zero, List.set_cons_succ])
          refine wpAnyH_take (i := 13) (v := undef) rfl (by kernel_rfl) (by kernel_rfl) (by kernel_rfl) (fun _ _ _ h => h) (Or.inr ⟨by rfl, rfl⟩) (by assumption) ?_
          (try simp only [Act.put, List.getElem_toArray, List.getElem_cons_succ, List.getElem_cons_zero, List.setIfInBounds_toArray, List.set_cons_zero, List.set_cons_succ])
          refine wpAnyH_take (i := 14) (v := undef) rfl (by kernel_rfl) (by kernel_rfl) (by kernel_rfl) (fun _ _ _ h => h) (Or.inr ⟨by rfl, rfl⟩) (by assumption) ?_
          (try simp only [Act.put, List.getElem_toArray, List.getElem_cons_succ, List.getElem_cons_zero, List.setIfInBounds_toArray, List.set_cons_zero, List.set_cons_succ])
          refine wpAnyH_take (i := 15) (v := undef) rfl (by kernel_rfl) (by kernel_rfl) (by kernel_rfl) (fun _ _ _ h => h) (Or.inr ⟨by rfl, rfl⟩) (by assumption) ?_
          (try simp only [Act.put, List.getElem_toArray, List.getElem_cons_succ, List.getElem_cons_zero, List.setIfInBounds_toArray, List.set_cons_zero, List.set_cons_succ])
          refine wpAnyH_take (i := 16) (v := .bool false) rfl (by kernel_rfl) (by kernel_rfl) (by kernel_rfl) (fun _ _ _ h => h) (Or.inl ⟨by rfl, (by intro w hSw; (try dsimp only at hSw); go_simp <;> first | with_reducible rfl | (with_reducible assumption) | omega)⟩) (by assumption) ?_
          (try simp only [Act.put, List.getElem_toArray, List.getElem_cons_succ, List.getElem_cons_zero, List.setIfInBounds_toArray, List.set_cons_zero, List.set_cons_succ])
          refine wpAnyH_take (i := 17) (v := .bool false) rfl (by kernel_rfl) (by kernel_rfl) (by kernel_rfl) (fun _ _ _ h => h) (Or.inl ⟨by rfl, (by intro w hSw; (try dsimp only at hSw); go_simp <;> first | with_reducible rfl | (with_reducible assumption) | omega)⟩) (by assumption) ?_
          (try simp only [Act.put, List.getElem_toArray, List.getElem_cons_succ, List.getElem_cons_zero, List.setIfInBounds_toArray, List.set_cons_zero, List.set_cons_succ])
          refine wpAnyH_done (by kernel_rfl) ?_ _
          have HE := Lib.hid (show Below w.heap.size w w3 from Gen.over hb3 HB2.out.drew)
          clear hb3
          go_wp2
          go_roundw
          case rel => exact ⟨1, xd, by omega, by go_num, HS2, HA2, HE⟩
          case measure => simp [RowKit.intOf]; omega
        · dsimp only at hzy hz0
          subst hzy
          subst hkp
          have t4 := hcell p _ hzp 4 _ rfl
          dsimp only at t4
          have s5 := keep0 hx2 _ _ _ t4
          have p0 : (0 : Int) ≤ (p : Int) := by omega
          have p1 : (0 : Int) < ((p + 1 : Nat) : Int) := by omega
          have p2' : (p : Int) < (n : Int) := by omega
          have pw3 : IntKind.i64.wrap (p : Int) = (p : Int) := IntWalk.i64_in _ (by omega)
          by_cases hle : zd ≤ xd
          · have hge : ¬ (xd < zd) := by omega
            rw [decide_eq_true hle, Bool.true_and] at hA
            have HA2 : Hid (oksF xd (l.drop (p + 1 + 1)) = R) := Lib.hid hA
            have HS2 : Hid ((p + 1 + 1 = 0 ∧ xd = 0) ∨ ∃ p' x, p + 1 + 1 = p' + 1 ∧ l[p']? = some x ∧ x.dy = xd ∧ 0 ≤ x.dy) := Lib.hid (.inr ⟨p + 1, _, rfl, hx, rfl, hd0⟩)
            clear hA HA HST hcell hx hlt hrw hx2 hz hko HR hzp
            go_wp2
            try rw [hW2]
            clear hW2 c0 c1 c2 c3 c4 t4
            refine wp_region_held_drew (S := (fun W' : World => W'.cell? ⟨wr.heap.size, 0, none⟩ = some (.int .i64 xi) ∧ W'.cell? ⟨wr.heap.size, 1, none⟩ = some (.string ⟨xn.toArray⟩) ∧ W'.cell? ⟨wr.heap.size, 2, none⟩ = some (.int .i64 xp) ∧ W'.cell? ⟨wr.heap.size, 3, none⟩ = some (.int .i64 xv) ∧ W'.cell? ⟨wr.heap.size, 4, none⟩ = some (.int .i64 xd) ∧ W'.cell? ⟨b, off + p * 5 + 4, none⟩ = some (.int .i64 zd))) (by kernel_rfl) (⟨s0, s1, s2, s3, s4, s5⟩) (fun hHeld => ?_)
            refine wpAnyH_take (i := 0) (v := .agg #[.int .i64 xi, .string ⟨xn.toArray⟩, .int .i64 xp, .int .i64 xv, .int .i64 xd]) rfl (by kernel_rfl) (by kernel_rfl) (by kernel_rfl) (fun _ _ _ h => h) (Or.inl ⟨by rfl, (by intro w hSw; (try dsimp only at hSw); go_simp <;> first | with_reducible rfl | (with_reducible assumption) | omega | (simp only [pw3]; done))⟩) (by assumption) ?_
            (try simp only [Act.put, List.getElem_toArray, List.getElem_cons_succ, List.getElem_cons_zero, List.setIfInBounds_toArray, List.set_cons_zero, List.set_cons_succ])
            refine wpAnyH_ready (rs := [1]) (by kernel_rfl) (by simp) ?_
            refine AllReadyH.cons rfl (fun K hK => ?_) AllReadyH.nil
            rw [if_pos (by rfl)]
            (try simp only [Act.put, List.getElem_toArray, List.getElem_cons_succ, List.getElem_cons_zero, List.setIfInBounds_toArray, List.set_cons_zero, List.set_cons_succ])
            go_simp
            go_at_call 42
            refine (HF.out _).mono ?_
            rintro e' w3 ⟨rfl, hb3⟩
            refine hK.out _ _ (⟨keep0 hb3 _ _ _ s0, keep0 hb3 _ _ _ s1, keep0 hb3 _ _ _ s2, keep0 hb3 _ _ _ s3, keep0 hb3 _ _ _ s4, keep0 hb3 _ _ _ s5⟩) (fun hH => ?_)
            clear hK K
            (try simp only [Act.put, List.getElem_toArray, List.getElem_cons_succ, List.getElem_cons_zero, List.setIfInBounds_toArray, List.set_cons_zero, List.set_cons_succ])
            refine wpAnyH_take (i := 2) (v := .bool false) rfl (by kernel_rfl) (by kernel_rfl) (by kernel_rfl) (fun _ _ _ h => h) (Or.inl ⟨by rfl, (by intro w hSw; (try dsimp only at hSw); go_simp <;> first | with_reducible rfl | (with_reducible assumption) | omega | (simp only [pw3]; done))⟩) (by assumption) ?_
            (try simp only [Act.put, List.getElem_toArray, List.getElem_cons_succ, List.getElem_cons_zero, List.setIfInBounds_toArray, List.set_cons_zero, List.set_cons_succ])
            refine wpAnyH_take (i := 3) (v := .bool false) rfl (by kernel_rfl) (by kernel_rfl) (by kernel_rfl) (fun _ _ _ h => h) (Or.inl ⟨by rfl, (by intro w hSw; (try dsimp only at hSw); go_simp <;> first | with_reducible rfl | (with_reducible assumption) | omega | (simp only [pw3]; done))⟩) (by assumption) ?_
            (try simp only [Act.put, List.getElem_toArray, List.getElem_cons_succ, List.getElem_cons_zero, List.setIfInBounds_toArray, List.set_cons_zero, List.set_cons_succ])
            refine wpAnyH_take (i := 4) (v := .int .i64 ((p + 1 : Nat) : Int)) rfl (by kernel_rfl) (by kernel_rfl) (by kernel_rfl) (fun _ _ _ h => h) (Or.inl ⟨by rfl, (by intro w hSw; (try dsimp only at hSw); go_simp <;> first | with_reducible rfl | (with_reducible assumption) | omega | (simp only [pw3]; done))⟩) (by assumption) ?_
            (try simp only [Act.put, List.getElem_toArray, List.getElem_cons_succ, List.getElem_cons_zero, List.setIfInBounds_toArray, List.set_cons_zero, List.set_cons_succ])
            refine wpAnyH_take (i := 5) (v := .bool true) rfl (by kernel_rfl) (by kernel_rfl) (by kernel_rfl) (fun _ _ _ h => h) (Or.inl ⟨by rfl, (by intro w hSw; (try dsimp only at hSw); go_simp <;> first | with_reducible rfl | (with_reducible assumption) | omega | (simp only [pw3]; done))⟩) (by assumption) ?_
            (try simp only [Act.put, List.getElem_toArray, List.getElem_cons_succ, List.getElem_cons_zero, List.setIfInBounds_toArray, List.set_cons_zero, List.set_cons_succ])
            refine wpAnyH_take (i := 6) (v := .bool true) rfl (by kernel_rfl) (by kernel_rfl) (by kernel_rfl) (fun _ _ _ h => h) (Or.inl ⟨by rfl, (by intro w hSw; (try dsimp only at hSw); go_simp <;> first | with_reducible rfl | (with_reducible assumption) | omega | (simp only [pw3]; done))⟩) (by assumption) ?_
            (try simp only [Act.put, List.getElem_toArray, List.getElem_cons_succ, List.getElem_cons_zero, List.setIfInBounds_toArray, List.set_cons_zero, List.set_cons_succ])
            refine wpAnyH_take (i := 7) (v := .pointer (some ⟨wr.heap.size, 4, none⟩)) rfl (by kernel_rfl) (by kernel_rfl) (by kernel_rfl) (fun _ _ _ h => h) (Or.inl ⟨by rfl, (by intro w hSw; (try dsimp only at hSw); go_simp <;> first | with_reducible rfl | (with_reducible assumption) | omega | (simp only [pw3]; done))⟩) (by assumption) ?_
            (try simp only [Act.put, List.getElem_toArray, List.getElem_cons_succ, List.getElem_cons_zero, List.setIfInBounds_toArray, List.set_cons_zero, List.set_cons_succ])
            refine wpAnyH_take (i := 8) (v := .int .i64 xd) rfl (by kernel_rfl) (by kernel_rfl) (by kernel_rfl) (fun _ _ _ h => h) (Or.inl ⟨by rfl, (by intro w hSw; (try dsimp only at hSw); go_simp <;> first | with_reducible rfl | (with_reducible assumption) | omega | (simp only [pw3]; done))⟩) (by assumption) ?_
            (try simp only [Act.put, List.getElem_toArray, List.getElem_cons_succ, List.getElem_cons_zero, List.setIfInBounds_toArray, List.set_cons_zero, List.set_cons_succ])
            refine wpAnyH_take (i := 9) (v := .slice (some ⟨b, off, none⟩) n c) rfl (by kernel_rfl) (by kernel_rfl) (by kernel_rfl) (fun _ _ _ h => h) (Or.inl ⟨by rfl, (by intro w hSw; (try dsimp only at hSw); go_simp <;> first | with_reducible rfl | (with_reducible assumption) | omega | (simp only [pw3]; done))⟩) (by assumption) ?_
            (try simp only [Act.put, List.getElem_toArray, List.getElem_cons_succ, List.getElem_cons_zero, List.setIfInBounds_toArray, List.set_cons_zero, List.set_cons_succ])
            refine wpAnyH_take (i := 10) (v := .int .i64 ((p + 1 : Nat) : Int)) rfl (by kernel_rfl) (by kernel_rfl) (by kernel_rfl) (fun _ _ _ h => h) (Or.inl ⟨by rfl, (by intro w hSw; (try dsimp only at hSw); go_simp <;> first | with_reducible rfl | (with_reducible assumption) | omega | (simp only [pw3]; done))⟩) (by assumption) ?_
            (try simp only [Act.put, List.getElem_toArray, List.getElem_cons_succ, List.getElem_cons_zero, List.setIfInBounds_toArray, List.set_cons_zero, List.set_cons_succ])
            refine wpAnyH_take (i := 11) (v := .int .i64 (p : Int)) rfl (by kernel_rfl) (by kernel_rfl) (by kernel_rfl) (fun _ _ _ h => h) (Or.inl ⟨by rfl, (by intro w hSw; (try dsimp only at hSw); go_simp <;> first | with_reducible rfl | (with_reducible assumption) | omega | (simp only [pw3]; done))⟩) (by assumption) ?_
            (try simp only [Act.put, List.getElem_toArray, List.getElem_cons_succ, List.getElem_cons_zero, List.setIfInBounds_toArray, List.set_cons_zero, List.set_cons_succ])
            refine wpAnyH_take (i := 12) (v := .pointer (some ⟨b, off + p * 5, none⟩)) rfl (by kernel_rfl) (by kernel_rfl) (by kernel_rfl) (fun _ _ _ h => h) (Or.inl ⟨by rfl, (by intro w hSw; (try dsimp only at hSw); go_simp <;> first | with_reducible rfl | (with_reducible assumption) | omega | (simp only [pw3]; done))⟩) (by assumption) ?_
            (try simp only [Act.put, List.getElem_toArray, List.getElem_cons_succ, List.getElem_cons_zero, List.setIfInBounds_toArray, List.set_cons_zero, List.set_cons_succ])
            refine wpAnyH_take (i := 13) (v := .pointer (some ⟨b, off + p * 5 + 4, none⟩)) rfl (by kernel_rfl) (by kernel_rfl) (by kernel_rfl) (fun _ _ _ h => h) (Or.inl ⟨by rfl, (by intro w hSw; (try dsimp only at hSw); go_simp <;> first | with_reducible rfl | (with_reducible assumption) | omega | (simp only [pw3]; done))⟩) (by assumption) ?_
            (try simp only [Act.put, List.getElem_toArray, List.getElem_cons_succ, List.getElem_cons_zero, List.setIfInBounds_toArray, List.set_cons_zero, List.set_cons_succ])
            refine wpAnyH_take (i := 14) (v := .int .i64 zd) rfl (by kernel_rfl) (by kernel_rfl) (by kernel_rfl) (fun _ _ _ h => h) (Or.inl ⟨by rfl, (by intro w hSw; (try dsimp only at hSw); go_simp <;> first | with_reducible rfl | (with_reducible assumption) | omega | (simp only [pw3]; done))⟩) (by assumption) ?_
            (try simp only [Act.put, List.getElem_toArray, List.getElem_cons_succ, List.getElem_cons_zero, List.setIfInBounds_toArray, List.set_cons_zero, List.set_cons_succ])
            refine wpAnyH_take (i := 15) (v := .bool false) rfl (by kernel_rfl) (by kernel_rfl) (by kernel_rfl) (fun _ _ _ h => h) (Or.inl ⟨by rfl, (by intro w hSw; (try dsimp only at hSw); go_simp <;> first | with_reducible rfl | (with_reducible assumption) | omega | (simp only [pw3]; done))⟩) (by assumption) ?_
            (try simp only [Act.put, List.getElem_toArray, List.getElem_cons_succ, List.getElem_cons_zero, List.setIfInBounds_toArray, List.set_cons_zero, List.set_cons_succ])
            refine wpAnyH_take (i := 16) (v := .bool false) rfl (by kernel_rfl) (by kernel_rfl) (by kernel_rfl) (fun _ _ _ h => h) (Or.inl ⟨by rfl, (by intro w hSw; (try dsimp only at hSw); go_simp <;> first | with_reducible rfl | (with_reducible assumption) | omega | (simp only [pw3]; done))⟩) (by assumption) ?_
            (try simp only [Act.put, List.getElem_toArray, List.getElem_cons_succ, List.getElem_cons_zero, List.setIfInBounds_toArray, List.set_cons_zero, List.set_cons_succ])
            refine wpAnyH_take (i := 17) (v := .bool false) rfl (by kernel_rfl) (by kernel_rfl) (by kernel_rfl) (fun _ _ _ h => h) (Or.inl ⟨by rfl, (by intro w hSw; (try dsimp only at hSw); go_simp <;> first | with_reducible rfl | (with_reducible assumption) | omega | (simp only [pw3]; done))⟩) (by assumption) ?_
            (try simp only [Act.put, List.getElem_toArray, List.getElem_cons_succ, List.getElem_cons_zero, List.setIfInBounds_toArray, List.set_cons_zero, List.set_cons_succ])
            refine wpAnyH_done (by kernel_rfl) ?_ _
            have HE := Lib.hid (show Below w.heap.size w w3 from Gen.over hb3 HB2.out.drew)
            clear hb3
            go_wp2
            go_roundw
            case rel => exact ⟨p + 1 + 1, xd, by omega, by go_num, HS2, HA2, HE⟩
            case measure => simp [RowKit.intOf]; omega
          · have hlt3 : xd < zd := by omega
            rw [decide_eq_false hle, Bool.false_and] at hA
            obtain rfl : R = false := hA.symm
            clear hA HA HST hcell hx hlt hrw hx2 hz hko HR hzp
            go_wp2
            try rw [hW2]
            clear hW2 c0 c1 c2 c3 c4 t4
            refine wp_region_held_drew (S := (fun W' : World => W'.cell? ⟨wr.heap.size, 0, none⟩ = some (.int .i64 xi) ∧ W'.cell? ⟨wr.heap.size, 1, none⟩ = some (.string ⟨xn.toArray⟩) ∧ W'.cell? ⟨wr.heap.size, 2, none⟩ = some (.int .i64 xp) ∧ W'.cell? ⟨wr.heap.size, 3, none⟩ = some (.int .i64 xv) ∧ W'.cell? ⟨wr.heap.size, 4, none⟩ = some (.int .i64 xd) ∧ W'.cell? ⟨b, off + p * 5 + 4, none⟩ = some (.int .i64 zd))) (by kernel_rfl) (⟨s0, s1, s2, s3, s4, s5⟩) (fun hHeld => ?_)
            refine wpAnyH_take (i := 0) (v := .agg #[.int .i64 xi, .string ⟨xn.toArray⟩, .int .i64 xp, .int .i64 xv, .int .i64 xd]) rfl (by kernel_rfl) (by kernel_rfl) (by kernel_rfl) (fun _ _ _ h => h) (Or.inl ⟨by rfl, (by intro w hSw; (try dsimp only at hSw); go_simp <;> first | with_reducible rfl | (with_reducible assumption) | omega | (simp only [pw3]; done))⟩) (by assumption) ?_
            (try simp only [Act.put, List.getElem_toArray, List.getElem_cons_succ, List.getElem_cons_zero, List.setIfInBounds_toArray, List.set_cons_zero, List.set_cons_succ])
            refine wpAnyH_ready (rs := [1]) (by kernel_rfl) (by simp) ?_
            refine AllReadyH.cons rfl (fun K hK => ?_) AllReadyH.nil
            rw [if_pos (by rfl)]
            (try simp only [Act.put, List.getElem_toArray, List.getElem_cons_succ, List.getElem_cons_zero, List.setIfInBounds_toArray, List.set_cons_zero, List.set_cons_succ])
            go_simp
            go_at_call 42
            refine (HF.out _).mono ?_
            rintro e' w3 ⟨rfl, hb3⟩
            refine hK.out _ _ (⟨keep0 hb3 _ _ _ s0, keep0 hb3 _ _ _ s1, keep0 hb3 _ _ _ s2, keep0 hb3 _ _ _ s3, keep0 hb3 _ _ _ s4, keep0 hb3 _ _ _ s5⟩) (fun hH => ?_)
            clear hK K
            (try simp only [Act.put, List.getElem_toArray, List.getElem_cons_succ, List.getElem_cons_zero, List.setIfInBounds_toArray, List.set_cons_zero, List.set_cons_succ])
            refine wpAnyH_take (i := 2) (v := .bool false) rfl (by kernel_rfl) (by kernel_rfl) (by kernel_rfl) (fun _ _ _ h => h) (Or.inl ⟨by rfl, (by intro w hSw; (try dsimp only at hSw); go_simp <;> first | with_reducible rfl | (with_reducible assumption) | omega | (simp only [pw3]; done))⟩) (by assumption) ?_
            (try simp only [Act.put, List.getElem_toArray, List.getElem_cons_succ, List.getElem_cons_zero, List.setIfInBounds_toArray, List.set_cons_zero, List.set_cons_succ])
            refine wpAnyH_take (i := 3) (v := .bool false) rfl (by kernel_rfl) (by kernel_rfl) (by kernel_rfl) (fun _ _ _ h => h) (Or.inl ⟨by rfl, (by intro w hSw; (try dsimp only at hSw); go_simp <;> first | with_reducible rfl | (with_reducible assumption) | omega | (simp only [pw3]; done))⟩) (by assumption) ?_
            (try simp only [Act.put, List.getElem_toArray, List.getElem_cons_succ, List.getElem_cons_zero, List.setIfInBounds_toArray, List.set_cons_zero, List.set_cons_succ])
            refine wpAnyH_take (i := 4) (v := .int .i64 ((p + 1 : Nat) : Int)) rfl (by kernel_rfl) (by kernel_rfl) (by kernel_rfl) (fun _ _ _ h => h) (Or.inl ⟨by rfl, (by intro w hSw; (try dsimp only at hSw); go_simp <;> first | with_reducible rfl | (with_reducible assumption) | omega | (simp only [pw3]; done))⟩) (by assumption) ?_
            (try simp only [Act.put, List.getElem_toArray, List.getElem_cons_succ, List.getElem_cons_zero, List.setIfInBounds_toArray, List.set_cons_zero, List.set_cons_succ])
            refine wpAnyH_take (i := 5) (v := .bool true) rfl (by kernel_rfl) (by kernel_rfl) (by kernel_rfl) (fun _ _ _ h => h) (Or.inl ⟨by rfl, (by intro w hSw; (try dsimp only at hSw); go_simp <;> first | with_reducible rfl | (with_reducible assumption) | omega | (simp only [pw3]; done))⟩) (by assumption) ?_
            (try simp only [Act.put, List.getElem_toArray, List.getElem_cons_succ, List.getElem_cons_zero, List.setIfInBounds_toArray, List.set_cons_zero, List.set_cons_succ])
            refine wpAnyH_take (i := 6) (v := .bool true) rfl (by kernel_rfl) (by kernel_rfl) (by kernel_rfl) (fun _ _ _ h => h) (Or.inl ⟨by rfl, (by intro w hSw; (try dsimp only at hSw); go_simp <;> first | with_reducible rfl | (with_reducible assumption) | omega | (simp only [pw3]; done))⟩) (by assumption) ?_
            (try simp only [Act.put, List.getElem_toArray, List.getElem_cons_succ, List.getElem_cons_zero, List.setIfInBounds_toArray, List.set_cons_zero, List.set_cons_succ])
            refine wpAnyH_take (i := 7) (v := .pointer (some ⟨wr.heap.size, 4, none⟩)) rfl (by kernel_rfl) (by kernel_rfl) (by kernel_rfl) (fun _ _ _ h => h) (Or.inl ⟨by rfl, (by intro w hSw; (try dsimp only at hSw); go_simp <;> first | with_reducible rfl | (with_reducible assumption) | omega | (simp only [pw3]; done))⟩) (by assumption) ?_
            (try simp only [Act.put, List.getElem_toArray, List.getElem_cons_succ, List.getElem_cons_zero, List.setIfInBounds_toArray, List.set_cons_zero, List.set_cons_succ])
            refine wpAnyH_take (i := 8) (v := .int .i64 xd) rfl (by kernel_rfl) (by kernel_rfl) (by kernel_rfl) (fun _ _ _ h => h) (Or.inl ⟨by rfl, (by intro w hSw; (try dsimp only at hSw); go_simp <;> first | with_reducible rfl | (with_reducible assumption) | omega | (simp only [pw3]; done))⟩) (by assumption) ?_
            (try simp only [Act.put, List.getElem_toArray, List.getElem_cons_succ, List.getElem_cons_zero, List.setIfInBounds_toArray, List.set_cons_zero, List.set_cons_succ])
            refine wpAnyH_take (i := 9) (v := .slice (some ⟨b, off, none⟩) n c) rfl (by kernel_rfl) (by kernel_rfl) (by kernel_rfl) (fun _ _ _ h => h) (Or.inl ⟨by rfl, (by intro w hSw; (try dsimp only at hSw); go_simp <;> first | with_reducible rfl | (with_reducible assumption) | omega | (simp only [pw3]; done))⟩) (by assumption) ?_
            (try simp only [Act.put, List.getElem_toArray, List.getElem_cons_succ, List.getElem_cons_zero, List.setIfInBounds_toArray, List.set_cons_zero, List.set_cons_succ])
            refine wpAnyH_take (i := 10) (v := .int .i64 ((p + 1 : Nat) : Int)) rfl (by kernel_rfl) (by kernel_rfl) (by kernel_rfl) (fun _ _ _ h => h) (Or.inl ⟨by rfl, (by intro w hSw; (try dsimp only at hSw); go_simp <;> first | with_reducible rfl | (with_reducible assumption) | omega | (simp only [pw3]; done))⟩) (by assumption) ?_
            (try simp only [Act.put, List.getElem_toArray, List.getElem_cons_succ, List.getElem_cons_zero, List.setIfInBounds_toArray, List.set_cons_zero, List.set_cons_succ])
            refine wpAnyH_take (i := 11) (v := .int .i64 (p : Int)) rfl (by kernel_rfl) (by kernel_rfl) (by kernel_rfl) (fun _ _ _ h => h) (Or.inl ⟨by rfl, (by intro w hSw; (try dsimp only at hSw); go_simp <;> first | with_reducible rfl | (with_reducible assumption) | omega | (simp only [pw3]; done))⟩) (by assumption) ?_
            (try simp only [Act.put, List.getElem_toArray, List.getElem_cons_succ, List.getElem_cons_zero, List.setIfInBounds_toArray, List.set_cons_zero, List.set_cons_succ])
            refine wpAnyH_take (i := 12) (v := .pointer (some ⟨b, off + p * 5, none⟩)) rfl (by kernel_rfl) (by kernel_rfl) (by kernel_rfl) (fun _ _ _ h => h) (Or.inl ⟨by rfl, (by intro w hSw; (try dsimp only at hSw); go_simp <;> first | with_reducible rfl | (with_reducible assumption) | omega | (simp only [pw3]; done))⟩) (by assumption) ?_
            (try simp only [Act.put, List.getElem_toArray, List.getElem_cons_succ, List.getElem_cons_zero, List.setIfInBounds_toArray, List.set_cons_zero, List.set_cons_succ])
            refine wpAnyH_take (i := 13) (v := .pointer (some ⟨b, off + p * 5 + 4, none⟩)) rfl (by kernel_rfl) (by kernel_rfl) (by kernel_rfl) (fun _ _ _ h => h) (Or.inl ⟨by rfl, (by intro w hSw; (try dsimp only at hSw); go_simp <;> first | with_reducible rfl | (with_reducible assumption) | omega | (simp only [pw3]; done))⟩) (by assumption) ?_
            (try simp only [Act.put, List.getElem_toArray, List.getElem_cons_succ, List.getElem_cons_zero, List.setIfInBounds_toArray, List.set_cons_zero, List.set_cons_succ])
            refine wpAnyH_take (i := 14) (v := .int .i64 zd) rfl (by kernel_rfl) (by kernel_rfl) (by kernel_rfl) (fun _ _ _ h => h) (Or.inl ⟨by rfl, (by intro w hSw; (try dsimp only at hSw); go_simp <;> first | with_reducible rfl | (with_reducible assumption) | omega | (simp only [pw3]; done))⟩) (by assumption) ?_
            (try simp only [Act.put, List.getElem_toArray, List.getElem_cons_succ, List.getElem_cons_zero, List.setIfInBounds_toArray, List.set_cons_zero, List.set_cons_succ])
            refine wpAnyH_take (i := 15) (v := .bool true) rfl (by kernel_rfl) (by kernel_rfl) (by kernel_rfl) (fun _ _ _ h => h) (Or.inl ⟨by rfl, (by intro w hSw; (try dsimp only at hSw); go_simp <;> first | with_reducible rfl | (with_reducible assumption) | omega | (simp only [pw3]; done))⟩) (by assumption) ?_
            (try simp only [Act.put, List.getElem_toArray, List.getElem_cons_succ, List.getElem_cons_zero, List.setIfInBounds_toArray, List.set_cons_zero, List.set_cons_succ])
            refine wpAnyH_take (i := 16) (v := .bool true) rfl (by kernel_rfl) (by kernel_rfl) (by kernel_rfl) (fun _ _ _ h => h) (Or.inl ⟨by rfl, (by intro w hSw; (try dsimp only at hSw); go_simp <;> first | with_reducible rfl | (with_reducible assumption) | omega | (simp only [pw3]; done))⟩) (by assumption) ?_
            (try simp only [Act.put, List.getElem_toArray, List.getElem_cons_succ, List.getElem_cons_zero, List.setIfInBounds_toArray, List.set_cons_zero, List.set_cons_succ])
            refine wpAnyH_take (i := 17) (v := .bool true) rfl (by kernel_rfl) (by kernel_rfl) (by kernel_rfl) (fun _ _ _ h => h) (Or.inl ⟨by rfl, (by intro w hSw; (try dsimp only at hSw); go_simp <;> first | with_reducible rfl | (with_reducible assumption) | omega | (simp only [pw3]; done))⟩) (by assumption) ?_
            (try simp only [Act.put, List.getElem_toArray, List.getElem_cons_succ, List.getElem_cons_zero, List.setIfInBounds_toArray, List.set_cons_zero, List.set_cons_succ])
            refine wpAnyH_done (by kernel_rfl) ?_ _
            have HE := Lib.hid (show Below w.heap.size w w3 from Gen.over hb3 HB2.out.drew)
            clear hb3
            go_wp2
            go_ret
            exact ⟨rfl, HE.out⟩
    · obtain rfl : n = k := by omega
      have hA := HA.out
      rw [List.drop_of_length_le (by rw [HN.out]; exact Nat.le_refl _), oksF] at hA
      subst hA
      clear hlt
      go_wp2
      go_ret
      exact ⟨rfl, HB.out⟩
end Go.Proofs.Ytcnfonhcgcblgaa.Fc
