/- Package trade: the contracts of isDay, leaves; slices.Repeat of one bool. -/
import Derived.Test.YtpekedhcnijgcaaTrdP
import Derived.Test.YtpekedhcnijgcaaShelf
import Derived.Laws.CopyOwn
import Derived.Deep.RegionLaw
namespace Go.Proofs.Ytpekedhcnijgcaa.Book
open Go.ChangeShapes Go.WideShapes Go.ChangeAt Go.RowKit Go.Proofs.Ytpekedhcnijgcaa.Cell
set_option linter.unusedVariables false
set_option linter.unusedSimpArgs false

set_option maxHeartbeats 400000 in
theorem isd_any (x : Int) (w : World) : Calls Try.prog 47 #[.int .i64 x] w fun e w' => e = .returned (.bool (dyB x)) ∧ w = w' := by
  by_cases h : 0 ≤ x ∧ x ≤ 200000
  · have HF := Lib.hid (show dyB x = true from decide_eq_true h)
    obtain ⟨h0, h1⟩ := h
    go_enter Try.func47, Try.ntmps47
    go_wp2
    go_ret
    exact ⟨ret_bool HF.out.symm, rfl⟩
  · have HF := Lib.hid (show dyB x = false from decide_eq_false h)
    rcases (show x < 0 ∨ (0 ≤ x ∧ 200000 < x) by omega) with a | ⟨a, b⟩
    all_goals
      clear h
      go_enter Try.func47, Try.ntmps47
      go_wp2
      go_ret
      first | exact ⟨ret_bool HF.out.symm, rfl⟩ | exact ⟨ret_bool (by rw [HF.out]; exact decide_eq_false (by omega)), rfl⟩
theorem mul_one (n : Nat) (h : n ≤ 1000000) (w : World) : Calls Try.prog 74 #[.int .u64 1, .int .u64 n] w fun e w' => e = .returned (.tuple #[.int .u64 0, .int .u64 n]) ∧ w = w' :=
  (Try.bits_Mul 1 n (by omega) (by omega) w).mono fun e w' ⟨he, hw⟩ => ⟨by
    rw [he, Nat.one_mul, Nat.div_eq_of_lt (by omega), Nat.mod_eq_of_lt (by omega)]; rfl, hw.symm⟩
/-- k of n -/
def fill (n k : Nat) : List Bool := List.replicate k true ++ List.replicate (n - k) false
theorem fill_length {n k : Nat} (h : k ≤ n) : (fill n k).length = n := by simp [fill]; omega
theorem fill_splice {n k m : Nat} (h : k + m ≤ n) : splice ((fill n k).map Value.bool) k (List.replicate m (.bool true)) = (fill n (k + m)).map Value.bool := by
  unfold splice fill
  rw [List.map_append, List.map_append, List.map_replicate, List.map_replicate, List.map_replicate, List.map_replicate, List.length_replicate,
    List.take_left' (by simp), List.drop_append, List.drop_replicate, List.drop_replicate, List.length_replicate]
  rw [show k - (k + m) = 0 by omega, show n - k - (k + m - k) = n - (k + m) by omega, List.replicate_zero, List.nil_append, ← List.append_assoc, List.replicate_append_replicate]
theorem fill_at {n k j : Nat} (h : j < k) : (fill n k)[j]? = some true := by
  unfold fill
  rw [List.getElem?_append_left (by simp; exact h), List.getElem?_replicate, if_pos h]
theorem infoB : (Try.prog.info? 4).map (·.size) = some 1 := by kernel_rfl
/-- the cells that are copied -/
def CpSrc (w : World) (dp sp : Option Addr) (g off : Nat) (cs : List Value) : Prop := 0 < cs.length → dp = some ⟨g, off, none⟩ ∧ ∃ ad, sp = some ad ∧ ∀ j v, cs[j]? = some v → w.cell? (ad.add j) = some v
def CpRow (w : World) (g : Nat) (cur : List Value) (t : TypeId) : Prop := w.heap[g]? = some (.cells cur.toArray t (0, 0))
def CpOne (cs : List Value) : Prop := ∀ v ∈ cs, v.oneCell' = true
def RepPost (n : Nat) (w : World) (e : Ending) (w' : World) : Prop := ∃ g, e = .returned (.slice (some ⟨g, 0, none⟩) n n) ∧ Row w' g 4 (bcs (List.replicate n true)) ∧ Below w.heap.size w w' ∧ w.heap.size ≤ g
set_option maxRecDepth 100000 in
set_option maxHeartbeats 4000000 in
theorem rep_any (gx n : Nat) (w : World) (hn : n ≤ 1000000) (hx : w.cell? ⟨gx, 0, none⟩ = some (.bool true)) :
    Calls Try.prog 68 #[.slice (some ⟨gx, 0, none⟩) 1 1, .int .i64 n] w (RepPost n w) := by
  obtain ⟨i0, hi0, hz0, hz1, hz2⟩ := info_parts info4
  have hmk : ∀ W : World, (Instr.makeSlice 64 (.int .i64 n) (.int .i64 n)).run Try.prog W = .ok (.slice (some ⟨W.heap.size, 0, none⟩) n n) (W.alloc (.cells (bcs (List.replicate n false)) 4)) := fun W => by
    have hr := run_make (P := Try.prog) W 64 4 i0 (.bool false) Try.underlying64 hi0 hz0 .i64 .i64 n n (by omega) (Int.le_refl _) (by rw [hz2]; omega) (by omega)
    rw [hz1, Int.toNat_natCast, made_bools] at hr
    exact hr
  clear hi0 hz0 hz1 hz2
  have n0 : (0 : Int) ≤ (n : Int) := by omega
  have HX := Lib.hid hx
  clear hx
  go_enter Try.func68, Try.ntmps68
  go_wp2_with (fail)
  go_must (refine (mul_one _ hn _).mono ?_)
  rintro e w1 ⟨rfl, rfl⟩
  obtain ⟨m0, hm0⟩ : ∃ m0, min 1 n = m0 := ⟨_, rfl⟩
  have hg0 : CpRow (w.alloc (.cells (bcs (List.replicate n false)) 4)) w.heap.size ((fill n 0).map Value.bool) 4 := Row.new _ _ _
  have hpos0 : CpSrc (w.alloc (.cells (bcs (List.replicate n false)) 4)) (some ⟨w.heap.size, 0, none⟩) (some ⟨gx, 0, none⟩) w.heap.size 0 (List.replicate m0 (Value.bool true)) := fun _ => ⟨rfl, _, rfl, fun j v hv => by
    have hj := lt_of_at hv
    rw [List.length_replicate] at hj
    obtain rfl : j = 0 := by omega
    rw [List.getElem?_replicate, if_pos hj] at hv
    rw [← hv, Addr.add_lit]
    exact Gen.al HX.out⟩
  have hfit0 : 0 + (List.replicate m0 (Value.bool true)).length ≤ ((fill n 0).map Value.bool).length := by rw [List.length_replicate, List.length_map, fill_length (Nat.zero_le _)]; omega
  have hone0 : CpOne (List.replicate m0 (Value.bool true)) := fun v hv => by rw [(List.mem_replicate.1 hv).2]; rfl
  have hcs0 : (List.replicate m0 (Value.bool true)).length = Nat.min 1 n := by rw [List.length_replicate]; exact hm0.symm
  have HG0 := Lib.hid hg0
  have HP0 := Lib.hid hpos0
  have HF0 := Lib.hid hfit0
  have HO0 := Lib.hid hone0
  have HC0 := Lib.hid hcs0
  have HM0 := Lib.hid hm0
  clear hg0 hpos0 hfit0 hone0 hcs0 hm0
  go_wp2_with (refine wpList_copy_splice rfl (.tmp 31) (.tmp 32) 64 64 rfl 4 Try.underlying64 infoB _ _ n n 1 1 rfl rfl w.heap.size 0 ((fill n 0).map Value.bool) 4 HG0.out (List.replicate m0 (.bool true)) HC0.out HP0.out HF0.out HO0.out w.heap.size w (Gen.b_alloc (Below.refl _ _)) (Nat.le_refl _) ?_; intro w2 HG2 hB2)
  have hr2 : Row w2 w.heap.size 4 (bcs (fill n m0)) := by
    have := HG2.out
    rw [fill_splice (by have := HM0.out; omega), Nat.zero_add] at this
    exact this
  have HR2 := Lib.hid hr2
  clear hr2 HG2 hmk HG0 HP0 HF0 HO0 HC0
  go_loopw [8] (fun v wr => ∃ k : Nat, k ≤ n ∧ (0 < n → 1 ≤ k) ∧ v = .int .i64 k ∧ Row wr w.heap.size 4 (bcs (fill n k)) ∧ Below w.heap.size w wr) (fun v _ => n - (intOf v).toNat)
  case atStart => exact ⟨m0, by have := HM0.out; omega, by have := HM0.out; omega, rfl, HR2.out, hB2⟩
  case round =>
    obtain ⟨k, hk, hk1, rfl, hrow, hB⟩ := hrel
    by_cases hlt : k < n
    · have hk1' : 1 ≤ k := hk1 (by omega)
      obtain ⟨m, hm⟩ : ∃ m, min k (n - k) = m := ⟨_, rfl⟩
      have m1 : 1 ≤ m := by omega
      have m2 : k + m ≤ n := by omega
      have hg : CpRow wr.drew w.heap.size ((fill n k).map Value.bool) 4 := hrow
      have hp : CpSrc wr.drew (some ⟨w.heap.size, k, none⟩) (some ⟨w.heap.size, 0, none⟩) w.heap.size k (List.replicate m (Value.bool true)) := fun _ => ⟨rfl, _, rfl, fun j v hv => by
        have hj := lt_of_at hv
        rw [List.length_replicate] at hj
        rw [List.getElem?_replicate, if_pos hj] at hv
        rw [← hv, Addr.add_lit, Nat.zero_add]
        exact hrow.booAt (fill_at (by omega))⟩
      have hf : k + (List.replicate m (Value.bool true)).length ≤ ((fill n k).map Value.bool).length := by rw [List.length_replicate, List.length_map, fill_length hk]; omega
      have ho : CpOne (List.replicate m (Value.bool true)) := fun v hv => by rw [(List.mem_replicate.1 hv).2]; rfl
      have hc : (List.replicate m (Value.bool true)).length = Nat.min k (n - k) := by rw [List.length_replicate]; exact hm.symm
      have HG := Lib.hid hg
      have HP := Lib.hid hp
      have HF := Lib.hid hf
      have HO := Lib.hid ho
      have HC := Lib.hid hc
      have HB := Lib.hid hB.drew
      have k0 : (0 : Int) ≤ (k : Int) := by omega
      clear hg hp hf ho hc hm hrow hk1
      have hk2 : (k : Int) + (m : Int) ≤ (n : Int) := by omega
      have hw : IntKind.i64.wrap ((k : Int) + (m : Int)) = (k : Int) + (m : Int) := IntWalk.i64_in _ (by omega)
      go_wp2
      go_region_law (((refine step_copy_splice (by rfl) (.tmp 41) (.tmp 44) 64 64 (by rfl) 4 Try.underlying64 infoB (some ⟨w.heap.size, k, none⟩) (some ⟨w.heap.size, 0, none⟩) (n - k) (n - k) k n (by simp [Act.eval, Act.put]; omega) (by simp [Act.eval, Act.put]) w.heap.size k ((fill n k).map Value.bool) 4 HG.out (List.replicate m (.bool true)) HC.out HP.out HF.out HO.out w.heap.size w HB.out (Nat.le_refl _) ?_); intro w4 HG4 hB4))
      all_goals
        have hr4 : Row w4 w.heap.size 4 (bcs (fill n (k + m))) := by
          have := HG4.out
          rw [fill_splice m2] at this
          exact this
        have HR4 := Lib.hid hr4
        clear hr4 HG4 hw
        go_wp2
        go_roundw
        case rel => first | exact ⟨k + m, m2, by omega, by go_num, HR4.out⟩ | exact ⟨k + m, m2, by omega, by go_num, HR4.out, hB4⟩
        case measure => simp [intOf]; omega
    · obtain rfl : k = n := by omega
      have HR := Lib.hid hrow
      clear hrow hk1
      go_wp2
      go_ret
      exact ⟨w.heap.size, rfl, by have := HR.out; rw [show fill k k = List.replicate k true by simp [fill]] at this; exact this, hB, Nat.le_refl _⟩
end Go.Proofs.Ytpekedhcnijgcaa.Book
