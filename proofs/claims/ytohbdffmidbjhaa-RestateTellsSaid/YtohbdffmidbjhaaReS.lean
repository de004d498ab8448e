/- Restatements: shares. -/
import Derived.Test.YtohbdffmidbjhaaReQ
namespace Go.Proofs.Ytohbdffmidbjhaa.Re
open Go.ChangeShapes Go.WideShapes Go.ChangeAt Go.RowKit Go.Maps Go.Proofs.Ytohbdffmidbjhaa.Cell
set_option linter.unusedVariables false
set_option linter.unusedSimpArgs false
theorem infoS : (Try.prog.info? 48).map (fun i => (i.zero, i.size, i.bytes)) = some (some (.agg #[.int .i64 0, .int .i64 0]), 2, 16) := by kernel_rfl
def p2 (x : Int × Int) : List Value := [.int .i64 x.1, .int .i64 x.2]
/-- the entries of a map, by its keys -/
def ent (f : Int → Option Int) (ks : List Int) : List (Int × Int) := ks.map fun s => (s, (f s).getD 0)
theorem ent_next {f : Int → Option Int} {ks : List Int} {k : Nat} {x : Int} (h : ks[k]? = some x) : (ent f (ks.take (k + 1))).flatMap p2 = (ent f (ks.take k)).flatMap p2 ++ [.int .i64 x, .int .i64 ((f x).getD 0)] := by
  rw [take_snoc h]
  simp [ent, p2]
set_option maxRecDepth 100000 in
set_option maxHeartbeats 4000000 in
theorem shares_any {w : World} {b n : Nat} {f : Int → Option Int} (hm : MI w b n f) (hn : n ≤ 1000000) :
    Calls Try.prog 24 #[.map (some b)] w fun e w' => ∃ v ks, e = .returned v ∧ ks.Pairwise (· < ·) ∧ (∀ x, x ∈ ks ↔ wfI x ∧ (f x).isSome = true) ∧ ks.length ≤ n ∧ w'.ownsRow w.heap.size 48 2 v ks.length ((ent f ks).flatMap p2) ∧ Below w.heap.size w w' := by
  obtain ⟨iI, hiI, hzI, hyI, hxI⟩ := info_parts' infoS
  have HM := Lib.hid hm
  have HK := Lib.hid (hm.keys hn)
  clear hm
  go_enter Try.func24, Try.ntmps24
  go_wp2_with (fail)
  go_must (refine (Try.keys_c (some b) w).mono ?_)
  rintro e w1 ⟨rfl, rfl⟩
  go_wp2_with (fail)
  go_must (refine (HK.out).mono ?_)
  rintro e w1 ⟨A, c, ks, rfl, hp, hmem, hlen, hrow, hb⟩
  have HB1 := Lib.hid (show Below w.heap.size w w1 from Gen.over (a := w) (W := w.alloc (.cells #[.map (some b)] 53)) (by rw [World.size_alloc]; exact hb) (Gen.b_alloc (Below.refl _ _)))
  have HI := Lib.hid (show Ints w1 A ks from ints_own (show w1.ownsRow (w.heap.size + 1) 3 1 (.slice A ks.length c) ks.length (ils ks) from hrow))
  have HM1 := Lib.hid (HM.out.keep HB1.out)
  obtain ⟨q, hq⟩ : ∃ q, ks.length = q := ⟨_, rfl⟩
  simp only [hq] at hlen hrow ⊢
  have HQ := Lib.hid hq
  have HP := Lib.hid hp
  have HMEM := Lib.hid hmem
  have HLEN := Lib.hid hlen
  have hq1 : q ≤ 1000000 := by omega
  clear hrow hb HM HK hq hp hmem hlen
  go_wp2_with (fail)
  go_loopw [10, 3] (fun iv lv wr => ∃ (k : Nat) (Ao : Option Addr) (co : Nat), k ≤ q ∧ iv = .int .i64 k ∧ lv = .slice Ao k co ∧ Hid (wr.ownsRow w1.heap.size 48 2 (.slice Ao k co) k ((ent f (ks.take k)).flatMap p2)) ∧ Hid (Below w1.heap.size w1 wr)) (fun iv _ _ => q - (intOf iv).toNat)
  case atStart => exact ⟨0, none, 0, Nat.zero_le _, rfl, rfl, Lib.hid ⟨rfl, .inl ⟨rfl, rfl⟩⟩, Lib.hid (Below.refl _ _)⟩
  case round =>
    obtain ⟨k, Ao, co, hk, rfl, rfl, HO, HB⟩ := hrel
    by_cases hlt : k < q
    · obtain ⟨x, hx⟩ := at_ ks k (by rw [HQ.out]; exact hlt)
      obtain ⟨g, off, rfl, hcell⟩ := (HI.out.keep HB.out) (by rw [HQ.out]; omega)
      have c0 := hcell k x hx
      have hl := (HM1.out.keep HB.out).look ((HMEM.out x).1 (mem_of_at hx)).1
      have HX := Lib.hid hx
      obtain ⟨v, hv⟩ : ∃ v, (f x).getD 0 = v := ⟨_, rfl⟩
      rw [hv] at hl
      have HV := Lib.hid hv
      have N1 := Lib.hid (show k + 1 ≤ maxLen by simp only [maxLen]; omega)
      have N2 := Lib.hid (show (k + 1) * 16 ≤ 140737488355328 by omega)
      clear hcell hx hv
      go_wp2_with (first
        | (at_builtin
           go_must (refine App.wpList_append_any _ rfl (.tmp 14) (.tmp 20) _ rfl w1.heap.size 48 iI _ 2 16 Try.underlying28 hiI hzI hyI hxI rfl (by omega) (.slice Ao k co) k ((ent f (ks.take k)).flatMap p2) rfl (Gen.own_keep HO.out (Gen.b_alloc (Below.refl _ _))) _ _ 1 1 [.int .i64 x, .int .i64 v] rfl (Gen.reads_blk (by simp) rfl) (by simp [Value.oneCell']) N1.out N2.out (Nat.le_trans HB.out.size (Gen.b_alloc (Below.refl _ _)).size) ?_
                    intro v7 w7 ho7 hg7 ha7
                    have hx7 : Below wr.heap.size wr (wr.alloc (.cells #[.int .i64 x, .int .i64 v] 48)) := Gen.b_alloc (Below.refl _ _)
                    have HB7 := Lib.hid (Gen.g_below (w := w1) (Gen.own_keep HO.out hx7) hg7 (Gen.over hx7 HB.out) (Nat.le_refl _))
                    obtain ⟨A7, c7, rfl, _⟩ := Gen.own_slice ho7
                    have HO7 := Lib.hid (show w7.ownsRow w1.heap.size 48 2 (.slice A7 (k + 1) c7) (k + 1) ((ent f (ks.take (k + 1))).flatMap p2) by rw [ent_next HX.out, HV.out]; exact ho7)
                    clear ho7 hg7 ha7 hx7))
        | fail)
      go_roundw
      case rel => exact ⟨k + 1, A7, c7, by omega, by go_num, rfl, HO7, HB7⟩
      case measure => simp [intOf]; omega
    · obtain rfl : q = k := by omega
      have HE := Lib.hid (show wr.ownsRow w.heap.size 48 2 (.slice Ao q co) ks.length ((ent f ks).flatMap p2) by have h := own_low HO.out HB1.out.size; rw [List.take_of_length_le (by rw [HQ.out]; exact Nat.le_refl _)] at h; rw [HQ.out]; exact h)
      have HBE := Lib.hid (Gen.over HB.out HB1.out)
      clear HO hlt
      go_wp2
      go_ret
      exact ⟨_, ks, rfl, HP.out, HMEM.out, by rw [HQ.out]; exact HLEN.out, HE.out, HBE.out⟩
end Go.Proofs.Ytohbdffmidbjhaa.Re
