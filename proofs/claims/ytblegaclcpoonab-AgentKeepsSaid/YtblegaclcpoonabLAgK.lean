/- AgentKeeps returns true: every script; no condition. -/
import Derived.Test.YtblegaclcpoonabAgF
import Derived.Test.YtblegaclcpoonabAgO
namespace Go.Proofs.Ytblegaclcpoonab.Agent
open Go.ChangeShapes Go.WideShapes Go.ChangeAt Go.RowKit Go.Proofs.Ytblegaclcpoonab.Cell
set_option linter.unusedVariables false
set_option linter.unusedSimpArgs false

def L0 : List Pu := [⟨0, 0, false⟩, ⟨0, 0, false⟩, ⟨0, 0, false⟩]
theorem IV0 : IV 0 L0 0 0 0 0 0 := ⟨rfl, fun x hx => by
  have : x = ⟨0, 0, false⟩ := by simpa [L0] using hx
  rw [this]
  exact ⟨by decide, fun _ => rfl⟩, by simp [L0, sT], by simp [L0, sO], by omega, by omega, by omega, by simp, by simp⟩
theorem sT_snoc {l : List Pu} {k : Nat} {x : Pu} (h : l[k]? = some x) : sT (l.take (k + 1)) = sT (l.take k) + x.t := by
  have e : ∀ (a b : List Pu), sT (a ++ b) = sT a + sT b := fun a b => by
    induction a with
    | nil => simp [sT]
    | cons z a ih => simp only [List.cons_append, sT, ih]; omega
  rw [take_snoc h, e]; simp [sT]
theorem sO_snoc {l : List Pu} {k : Nat} {x : Pu} (h : l[k]? = some x) : sO (l.take (k + 1)) = sO (l.take k) + x.o := by
  have e : ∀ (a b : List Pu), sO (a ++ b) = sO a + sO b := fun a b => by
    induction a with
    | nil => simp [sO]
    | cons z a ih => simp only [List.cons_append, sO, ih]; omega
  rw [take_snoc h, e]; simp [sO]
section
variable {A : Option Addr} {m cap : Nat} {l : List Ap}
set_option maxRecDepth 100000 in
set_option maxHeartbeats 1000000 in
theorem keeps_a (w : World) (hm : m ≤ 9223372036854775807) (h : 60 < m) :
    Calls Try.prog 5 #[.slice A m cap] w fun e w' => e = .returned (.bool true) ∧ Below w.heap.size w w' := by
  have hI : (60 : Int) < (m : Int) := by omega
  go_enter Try.func5, Try.ntmps5
  go_wp2_with (fail)
  go_must (refine (small_any _).mono ?_)
  rintro e w1 ⟨rfl, hb⟩
  go_wp2
  go_ret
  exact ⟨rfl, hb⟩
theorem infoP : (Try.prog.info? 41).map (fun i => (i.zero, i.size, i.bytes)) = some (some (.agg #[.int .i64 0, .int .i64 0, .bool false]), 3, 24) := by kernel_rfl
theorem info_parts' {o : Option TypeInfo} {z : Value} {a b : Nat} (h : o.map (fun i => (i.zero, i.size, i.bytes)) = some (some z, a, b)) : ∃ i, o = some i ∧ i.zero = some z ∧ i.size = a ∧ i.bytes = b := by
  cases o with
  | none => cases h
  | some i =>
    simp only [Option.map_some, Option.some.injEq, Prod.mk.injEq] at h
    exact ⟨i, rfl, h.1, h.2.1, h.2.2⟩
theorem made3 : madeCells (Value.agg #[.int .i64 0, .int .i64 0, .bool false]).cells (3 * 3) = (L0.flatMap pcs).toArray := by kernel_rfl
set_option maxRecDepth 100000 in
set_option maxHeartbeats 8000000 in
theorem keeps_b (w : World) (hn : l.length = m) (hc : Aps w A l) (h : m ≤ 60) :
    Calls Try.prog 5 #[.slice A m cap] w fun e w' => e = .returned (.bool true) ∧ Below w.heap.size w w' := by
  have HN := Lib.hid hn
  have hI : ((60 : Int) < (m : Int)) = False := eq_false (by omega)
  clear hn
  obtain ⟨i0, hi0, hz0, hz1, hz2⟩ := info_parts' infoP
  have hmk : ∀ W : World, (Instr.makeSlice 52 (.int .i64 3) (.int .i64 3)).run Try.prog W = .ok (.slice (some ⟨W.heap.size, 0, none⟩) 3 3) (W.alloc (.cells (L0.flatMap pcs).toArray 41)) := fun W => by
    have hr := run_make (P := Try.prog) W 52 41 i0 _ Try.underlying52 hi0 hz0 .i64 .i64 3 3 (by omega) (Int.le_refl _) (by rw [hz2]; omega) (by omega)
    rw [hz1, show ((3 : Int).toNat) = 3 from rfl, made3] at hr
    exact hr
  clear hi0 hz0 hz1 hz2
  go_enter Try.func5, Try.ntmps5
  go_wp2_with (fail)
  go_must (refine (small_any _).mono ?_)
  rintro e w1 ⟨rfl, hb⟩
  have h0 : Pl w ((w1.alloc (.cells (L0.flatMap pcs).toArray 41)).alloc (.cells #[.slice (some ⟨w1.heap.size, 0, none⟩) 3 3, .int .i64 0, .int .i64 0, .int .i64 0, .int .i64 0, .int .i64 0] 54)) (w1.heap.size + 1) w1.heap.size L0 0 0 0 0 0 := ⟨Gen.rowAt _ _ _ (by simp), (Row.new _ _ _).alloc _, Gen.b_alloc (Gen.b_alloc hb), by have := hb.size; omega, by have := hb.size; omega, by omega⟩
  have H0 := Lib.hid h0
  have hz1 := hb.size
  clear h0 hb
  go_wp2_with (fail)
  go_loopw [5] (fun iv wr => ∃ (q : Nat) (L : List Pu) (a b c d e : Int), q ≤ m ∧ iv = .int .i64 q ∧ Hid (IV q L a b c d e) ∧ Hid (Pl w wr (w1.heap.size + 1) w1.heap.size L a b c d e)) (fun iv _ => m - (intOf iv).toNat)
  case atStart => exact ⟨0, L0, 0, 0, 0, 0, 0, Nat.zero_le _, rfl, Lib.hid IV0, H0⟩
  case round =>
    obtain ⟨q, L, a, b, c, d, e, hq, rfl, HI, HP⟩ := hrel
    by_cases hlt : q < m
    · have hqI : (q : Int) < (m : Int) := by omega
      have q0 : (0 : Int) ≤ (q : Int) := by omega
      obtain ⟨bo, oo, rfl, hco⟩ := (hc.keep HP.out.bl) (by rw [HN.out]; omega)
      obtain ⟨x, hx⟩ := at_ l q (by rw [HN.out]; exact hlt)
      obtain ⟨c0, c1, c2, c3⟩ := hco q x hx
      clear hco hx
      obtain ⟨xk, xw, xt, xn⟩ := x
      dsimp only at c0 c1 c2 c3
      go_wp2_with (fail)
      go_must (refine (did_any HP.out HI.out (by omega)).mono ?_)
      rintro e' w5 ⟨rfl, L', a', b', c', d', e'', iv', pl'⟩
      have HI' := Lib.hid iv'
      have HP' := Lib.hid pl'
      obtain ⟨ia, ib, ic, id, ie⟩ := iv'.in_ (by omega)
      have tin := iv'.tin
      have oin := iv'.oin
      have x0 := pl'.x.cell 0
      clear iv' pl' c0 c1 c2 c3 HI HP
      go_wp2_with (fail)
      go_loopw [7, 8, 9] (fun tv ov kv wr => ∃ s : Nat, s ≤ 3 ∧ kv = .int .i64 s ∧ tv = .int .i64 (sT (L'.take s)) ∧ ov = .int .i64 (sO (L'.take s)) ∧ Below w5.heap.size w5 wr) (fun _ _ kv _ => 3 - (intOf kv).toNat)
      case atStart => exact ⟨0, Nat.zero_le _, rfl, by simp [sT], by simp [sO], Below.refl _ _⟩
      case round =>
        obtain ⟨s, hs, rfl, rfl, rfl, hB⟩ := hrel
        have p1 := HP'.out.keep hB
        have y0 := p1.x.cell 0
        have tb := sT_in (l := L'.take s) fun x hx => (show 0 ≤ x.t ∧ x.t ≤ 1000000000000000 from by have := okB_in (HI'.out.ok x (List.mem_of_mem_take hx)).1; omega)
        have ob := sO_in (l := L'.take s) fun x hx => (show 0 ≤ x.o ∧ x.o ≤ 1000000000000000 from by have := okB_in (HI'.out.ok x (List.mem_of_mem_take hx)).1; omega)
        have hl : ((L'.take s).length : Int) ≤ 3 := by
          have := List.length_take_le s L'
          omega
        have t0 := tb.1
        have t1 : sT (L'.take s) ≤ 3000000000000000 := by omega
        have o0 := ob.1
        have o1 : sO (L'.take s) ≤ 3000000000000000 := by omega
        clear tb ob hl
        by_cases hls : s < 3
        · have hsI : (s : Int) < 3 := by omega
          have s0 : (0 : Int) ≤ (s : Int) := by omega
          obtain ⟨z, hz⟩ : ∃ z, L'[s]? = some z := ⟨L'[s]'(by rw [HI'.out.len]; exact hls), List.getElem?_eq_getElem _⟩
          obtain ⟨v0, v1, v2⟩ := p1.cell hz
          obtain ⟨z1, z2, z3, z4, z5, z6⟩ := HI'.out.at_ hz
          have HT := Lib.hid (sT_snoc hz)
          have HO := Lib.hid (sO_snoc hz)
          have HZ5 := Lib.hid z5
          clear hz z5 p1
          obtain ⟨zt, zo, zg⟩ := z
          dsimp only at v0 v1 v2 z1 z2 z3 z4 z6 HT HO HZ5
          obtain ⟨W6, hW6⟩ : ∃ W6 : World, W6 = wr.alloc (.cells #[.int .i64 zt, .int .i64 zo, .bool zg] 41) := ⟨_, rfl⟩
          have hb6 : Below wr.heap.size wr W6 := by rw [hW6]; exact Gen.b_alloc (Below.refl _ _)
          have hr6 : Row W6 wr.heap.size 41 #[.int .i64 zt, .int .i64 zo, .bool zg] := by rw [hW6]; exact Row.new _ _ _
          have hB6 := Gen.over hb6 hB
          have u0 := hr6.cell 0
          have u1' := hr6.cell 1
          have u2' := hr6.cell 2
          clear hb6
          go_upto_region 15 with (fail)
          rw [← hW6]
          clear hW6 v0 v1 v2 y0
          go_wp2_with (fail)
          go_must (refine (r_yes HZ5.out zg _).mono ?_)
          rintro e7 w7 ⟨rfl, hb7⟩
          have hr7 := hr6.keep hb7
          have hB7 := Gen.over hb7 hB6
          have g0 := hr7.cell 0
          have g2 := hr7.cell 2
          clear hr6 u0 u1' u2' hb7
          cases zg
          · go_wp2
            go_roundw
            case rel => exact ⟨s + 1, by omega, by go_num, by rw [HT.out], by rw [HO.out], hB7⟩
            case measure => simp [intOf]; omega
          · have hz0 := z6 rfl
            subst hz0
            go_wp2
            go_roundw
            case rel => exact ⟨s + 1, by omega, by go_num, by rw [HT.out]; simp, by rw [HO.out], hB7⟩
            case measure => simp [intOf]; omega
        · obtain rfl : s = 3 := by omega
          rw [List.take_of_length_le (by rw [HI'.out.len]; exact Nat.le_refl _)] at t0 t1 o0 o1 ⊢
          have y1 := p1.x.cell 1
          have y2 := p1.x.cell 2
          have y3 := p1.x.cell 3
          have y4 := p1.x.cell 4
          have y5 := p1.x.cell 5
          have HPP := Lib.hid p1
          obtain ⟨T, hT⟩ : ∃ T, sT L' = T := ⟨_, rfl⟩
          obtain ⟨O, hO⟩ : ∃ O, sO L' = O := ⟨_, rfl⟩
          have s1 := HI'.out.s1
          have s2 := HI'.out.s2
          rw [hT] at s1 t0 t1 tin ⊢
          rw [hO] at s2 o0 o1 oin ⊢
          have hw1 : IntKind.i64.wrap (b' + c') = b' + c' := IntWalk.i64_in _ (by omega)
          have hw2 : IntKind.i64.wrap (b' + c' + T) = b' + c' + T := IntWalk.i64_in _ (by omega)
          have hw3 : IntKind.i64.wrap (e'' + O) = e'' + O := IntWalk.i64_in _ (by omega)
          have d1 : (a' != b' + c' + T) = false := by rw [s1]; simp
          have d2 : (d' != e'' + O) = false := by rw [s2]; simp
          clear hT hO s1 s2 p1
          go_wp2
          go_quiet (fail)
          go_wp2
          exact ⟨⟨q + 1, L', a', b', c', d', e'', by omega, by go_num, HI', Lib.hid (HPP.out.keep (Gen.dN (Below.refl _ _) _))⟩, by simp [intOf]; omega⟩
    · obtain rfl : q = m := by omega
      have hbl := HP.out.bl
      go_wp2
      go_ret
      exact ⟨rfl, hbl⟩
theorem keeps_any (w : World) (hc : Aps w A l) (hm : l.length ≤ 9223372036854775807) :
    Calls Try.prog 5 #[.slice A l.length cap] w fun e w' => e = .returned (.bool true) ∧ Below w.heap.size w w' := by
  by_cases h : 60 < l.length
  · exact keeps_a w hm h
  · exact keeps_b w rfl hc (by omega)
end
end Go.Proofs.Ytblegaclcpoonab.Agent
