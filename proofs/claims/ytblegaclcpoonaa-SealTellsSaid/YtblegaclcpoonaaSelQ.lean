/- Rings of signatures: the reference's Open. -/
import Derived.Test.YtblegaclcpoonaaSelO
namespace Go.Proofs.Ytblegaclcpoonaa.Seal
open Go.ChangeShapes Go.WideShapes Go.ChangeAt Go.RowKit Go.Joins Go.Maps Go.WideMaps Go.Proofs.Ytblegaclcpoonaa.Cell
set_option linter.unusedVariables false
set_option linter.unusedSimpArgs false

/-- what is known of the first ones -/
def Dp (l : List En) (i : Nat) (c : Int) : Prop := (∀ x ∈ l.take i, isK x.1 = true) ∧ (((l.take i).Nodup ∧ c = 0) ∨ (¬ (l.take i).Nodup ∧ c = 5))
theorem Dp.zero (l : List En) : Dp l 0 0 := ⟨by simp, .inl ⟨by simp, rfl⟩⟩
theorem Dp.yes {l : List En} {i : Nat} {c : Int} {x : En} (h : Dp l i c) (hx : l[i]? = some x) (hk : isK x.1 = true) (hm : x ∈ l.take i) : Dp l (i + 1) 5 := by
  unfold Dp
  rw [take_snoc hx]
  refine ⟨fun y hy => ?_, .inr ⟨fun c => ?_, rfl⟩⟩
  · rcases List.mem_append.1 hy with hy | hy
    · exact h.1 y hy
    · rw [List.mem_singleton.1 hy]; exact hk
  · exact (List.nodup_append.1 c).2.2 x hm x (by simp) rfl
theorem Dp.no {l : List En} {i : Nat} {c : Int} {x : En} (h : Dp l i c) (hx : l[i]? = some x) (hk : isK x.1 = true) (hm : x ∉ l.take i) : Dp l (i + 1) c := by
  unfold Dp
  rw [take_snoc hx]
  refine ⟨fun y hy => ?_, ?_⟩
  · rcases List.mem_append.1 hy with hy | hy
    · exact h.1 y hy
    · rw [List.mem_singleton.1 hy]; exact hk
  · rcases h.2 with ⟨a, b⟩ | ⟨a, b⟩
    · exact .inl ⟨List.nodup_append.2 ⟨a, by simp, fun y hy z hz => by rw [List.mem_singleton.1 hz]; exact fun e => hm (e ▸ hy)⟩, b⟩
    · exact .inr ⟨fun c => a (List.nodup_append.1 c).1, b⟩
def Mem (b : Bool) (l : List En) (x : En) : Prop := b = true ↔ x ∈ l
set_option maxRecDepth 100000 in
set_option maxHeartbeats 8000000 in
theorem ropen_any (A : Option Addr) (n cap : Nat) (l : List En) (w : World) (hn : l.length = n) (hc : Els w A l) (hbig : n ≤ 100) :
    Calls Try.prog 50 #[.slice A n cap] w fun e w' =>
      (∃ g eb, e = .returned (.tuple #[.pointer (some ⟨g, 0, none⟩), .int .i64 0]) ∧ ((∀ x ∈ l, isK x.1 = true) ∧ l.Nodup) ∧ Rf w' g eb l ∧ w.heap.size ≤ g ∧ Below w.heap.size w w') ∨
      (∃ c : Int, e = .returned (.tuple #[.pointer none, .int .i64 c]) ∧ Bad l c ∧ Below w.heap.size w w') := by
  obtain ⟨i0, hi0, hz0, hz1, hz2⟩ := info_parts' infoE
  have HN := Lib.hid hn
  clear hn
  go_enter Try.func50, Try.ntmps50
  go_wp2_with (fail)
  go_must (refine (rnew_any _).mono ?_)
  rintro e w2 ⟨rfl, hr, hb⟩
  obtain ⟨g, hg⟩ : ∃ g, g = w.heap.size := ⟨_, rfl⟩
  rw [← hg] at hr ⊢
  have hgw : w.heap.size ≤ g := by omega
  have HS0 := Lib.hid (show Rf w2 g none (l.take 0) ∧ Below w.heap.size w w2 from ⟨by rw [List.take_zero]; exact hr, hb⟩)
  clear hr hb hg
  go_wp2
  go_loopw [5, 6] (fun bv iv wr => ∃ (i : Nat) (bc : Int) (eb : Option Nat), i ≤ n ∧ iv = .int .i64 i ∧ bv = .int .i64 bc ∧ Hid (Dp l i bc) ∧ Hid (Rf wr g eb (l.take i) ∧ Below w.heap.size w wr)) (fun _ iv _ => n - (intOf iv).toNat)
  case atStart => exact ⟨0, 0, none, Nat.zero_le _, rfl, rfl, Lib.hid (Dp.zero l), HS0⟩
  case round =>
    clear HS0
    obtain ⟨i, bc, eb, hi, rfl, rfl, HD, HS⟩ := hrel
    by_cases hlt : i < n
    · obtain ⟨bl, ol, rfl, hcl⟩ := (hc.keep HS.out.2) (by rw [HN.out]; omega)
      obtain ⟨x, hx⟩ := at_ l i (by rw [HN.out]; exact hlt)
      obtain ⟨c0, c1⟩ := hcl i x hx
      have HX := Lib.hid hx
      clear hcl hx
      obtain ⟨k, s⟩ := x
      dsimp only at c0 c1
      by_cases hk : 0 ≤ k ∧ k < 200
      · obtain ⟨hk0, hk1⟩ := hk
        have HK := Lib.hid (isK_yes hk0 hk1)
        have hll : (l.take i).length ≤ 100 := by rw [List.length_take]; omega
        go_upto_region 8 with (fail)
        go_cut [40] (fun bv wx => ∃ b, bv = .bool b ∧ wx = wr.drew ∧ Hid (Mem b (l.take i) (k, s)))
        case first =>
          go_region_law (first
            | (go_simp; go_at_call 67; go_must (refine (rfind_any (HS.out.1.keep (Below.refl _ _).drew) (by omega)).mono ?_; rintro e' w5 ⟨v, rfl, hv, rfl⟩; have HV := Lib.hid hv; clear hv)))
          all_goals
            go_wp2
            go_meet
            refine ⟨_, rfl, rfl, Lib.hid ?_⟩
            unfold Mem
            rw [decide_eq_true_iff]
            rcases HV.out with ⟨rfl, h⟩ | ⟨p, rfl, h⟩
            · exact ⟨(fun c => absurd c (by omega)), (fun c => absurd c h)⟩
            · exact ⟨(fun _ => List.mem_of_getElem? h), (fun _ => by omega)⟩
        case rest =>
          obtain ⟨b, rfl, rfl, HM⟩ := hcut
          obtain ⟨wk, hwk⟩ : ∃ x, x = wr.drew := ⟨_, rfl⟩
          have HSk : Hid (Rf wk g eb (l.take i)) := Lib.hid (by rw [hwk]; exact HS.out.1.keep (Below.refl _ _).drew)
          have HBk : Hid (Below w.heap.size w wk) := Lib.hid (by rw [hwk]; exact HS.out.2.drew)
          rw [← hwk]
          clear c0 c1 HS hwk
          obtain ⟨c0, c1⟩ := Els.two (hc.keep HBk.out) HX.out
          obtain ⟨A4, c4, hr4, ho4, _⟩ := HSk.out.x
          have hglt := hr4.lt
          have m0 := hr4.cell 0
          have m1 := (hr4.alloc (.cells #[.int .i64 k, .string s] 70)).cell 0
          have HR4 := Lib.hid hr4
          have HO4 := Lib.hid ho4
          have N1 : Hid ((l.take i).length + 1 ≤ maxLen) := Lib.hid (by simp only [maxLen]; omega)
          have N2 : Hid (((l.take i).length + 1) * 24 ≤ 140737488355328) := Lib.hid (by omega)
          dsimp only at c0 c1
          clear hr4 ho4
          cases b
          · have HD2 := Lib.hid (HD.out.no HX.out HK.out (fun c => by have := HM.out.2 c; cases this))
            clear HM
            go_wp2
            go_region_law (refine App.step_append_any _ (by rfl) (.tmp 45) (.tmp 50) 60 (by rfl) (g + 1) 70 i0 _ 2 24 Try.underlying60 hi0 hz0 hz1 hz2 rfl (by omega) (.slice A4 (l.take i).length c4) (l.take i).length ((l.take i).flatMap ecs) (by simp [Act.eval, Act.put]) (Gen.own_keep HO4.out (Gen.b_alloc (Below.refl _ _)).drew) (wk.heap.size + 1) (some ⟨wk.heap.size, 0, none⟩) 1 1 (ecs (k, s)) (by simp [Act.eval, Act.put]) (App.Reads.drew (Gen.reads_blk (W := wk) (cs := #[.int .i64 k, .string s]) rfl rfl)) (by simp [ecs, Value.oneCell']) N1.out N2.out (by simp; omega) ?_; intro v7 w7 ho7 hg7 ha7; have r7 : Row w7 g 95 #[.slice A4 (l.take i).length c4] := Gen.g_row HO4.out hg7 (Nat.lt_succ_self _) ((HR4.out.alloc _).keep (Below.refl _ _).drew); have f0 := r7.frozen 0; have d0 := r7.cell 0; have HB7 := Lib.hid (Gen.g_below HO4.out hg7 (Gen.b_alloc HBk.out).drew (by omega)); obtain ⟨A7, c7, rfl, _⟩ := Gen.own_slice ho7; have HO7 := Lib.hid ho7; have HR7 := Lib.hid r7; clear ho7 hg7 ha7 r7)
            all_goals
              have HT := Lib.hid (show Rf (w7.setCell ⟨g, 0, none⟩ (.slice A7 ((l.take i).length + 1) c7)) g (Value.slice A7 ((l.take i).length + 1) c7).ownBlock (l.take (i + 1)) ∧ Below w.heap.size w (w7.setCell ⟨g, 0, none⟩ (.slice A7 ((l.take i).length + 1) c7)) from by
                have eT := take_snoc HX.out
                have eL : (l.take i ++ [(k, s)]).length = (l.take i).length + 1 := by simp
                have eF : (l.take i ++ [(k, s)]).flatMap ecs = (l.take i).flatMap ecs ++ ecs (k, s) := by simp
                refine ⟨⟨⟨A7, c7, ?_, ?_, ?_⟩⟩, HB7.out.setCell (p := ⟨g, 0, none⟩) (show w.heap.size ≤ g by omega) _⟩
                · rw [eT, eL]; exact HR7.out.set 0 _
                · rw [eT, eL, eF]; exact ownsRow_setCell_below (a := ⟨g, 0, none⟩) HO7.out (Nat.lt_succ_self _) _
                · rw [eT, eL])
              go_wp2
              go_roundw
              case rel => exact ⟨i + 1, bc, _, by omega, by go_num, by first | rfl | trivial, HD2, by first | exact HT | (have h := HT; simp only [List.length_take] at h; exact h)⟩
              case measure => simp [intOf]; omega
          · have HD2 := Lib.hid (HD.out.yes HX.out HK.out (HM.out.1 rfl))
            clear HM
            go_wp2
            go_region_law (refine App.step_append_any _ (by rfl) (.tmp 45) (.tmp 50) 60 (by rfl) (g + 1) 70 i0 _ 2 24 Try.underlying60 hi0 hz0 hz1 hz2 rfl (by omega) (.slice A4 (l.take i).length c4) (l.take i).length ((l.take i).flatMap ecs) (by simp [Act.eval, Act.put]) (Gen.own_keep HO4.out (Gen.b_alloc (Below.refl _ _)).drew) (wk.heap.size + 1) (some ⟨wk.heap.size, 0, none⟩) 1 1 (ecs (k, s)) (by simp [Act.eval, Act.put]) (App.Reads.drew (Gen.reads_blk (W := wk) (cs := #[.int .i64 k, .string s]) rfl rfl)) (by simp [ecs, Value.oneCell']) N1.out N2.out (by simp; omega) ?_; intro v7 w7 ho7 hg7 ha7; have r7 : Row w7 g 95 #[.slice A4 (l.take i).length c4] := Gen.g_row HO4.out hg7 (Nat.lt_succ_self _) ((HR4.out.alloc _).keep (Below.refl _ _).drew); have f0 := r7.frozen 0; have d0 := r7.cell 0; have HB7 := Lib.hid (Gen.g_below HO4.out hg7 (Gen.b_alloc HBk.out).drew (by omega)); obtain ⟨A7, c7, rfl, _⟩ := Gen.own_slice ho7; have HO7 := Lib.hid ho7; have HR7 := Lib.hid r7; clear ho7 hg7 ha7 r7)
            all_goals
              have HT := Lib.hid (show Rf (w7.setCell ⟨g, 0, none⟩ (.slice A7 ((l.take i).length + 1) c7)) g (Value.slice A7 ((l.take i).length + 1) c7).ownBlock (l.take (i + 1)) ∧ Below w.heap.size w (w7.setCell ⟨g, 0, none⟩ (.slice A7 ((l.take i).length + 1) c7)) from by
                have eT := take_snoc HX.out
                have eL : (l.take i ++ [(k, s)]).length = (l.take i).length + 1 := by simp
                have eF : (l.take i ++ [(k, s)]).flatMap ecs = (l.take i).flatMap ecs ++ ecs (k, s) := by simp
                refine ⟨⟨⟨A7, c7, ?_, ?_, ?_⟩⟩, HB7.out.setCell (p := ⟨g, 0, none⟩) (show w.heap.size ≤ g by omega) _⟩
                · rw [eT, eL]; exact HR7.out.set 0 _
                · rw [eT, eL, eF]; exact ownsRow_setCell_below (a := ⟨g, 0, none⟩) HO7.out (Nat.lt_succ_self _) _
                · rw [eT, eL])
              go_wp2
              go_roundw
              case rel => exact ⟨i + 1, 5, _, by omega, by go_num, by first | rfl | trivial, HD2, by first | exact HT | (have h := HT; simp only [List.length_take] at h; exact h)⟩
              case measure => simp [intOf]; omega
      · have HF := Lib.hid (show Bad l 1 from .inl ⟨⟨_, mem_of_at HX.out, isK_no (by omega)⟩, rfl⟩)
        by_cases hk0 : k < 0
        · skip
          go_wp2
          exact bodyPost_ret (v := .tuple #[.pointer none, .int .i64 1]) (by simp [results, Try.results50, go_sem]) rfl (.inr ⟨1, rfl, HF.out, HS.out.2⟩)
        · have hk1 : (200 : Int) ≤ k := by omega
          go_wp2
          exact bodyPost_ret (v := .tuple #[.pointer none, .int .i64 1]) (by simp [results, Try.results50, go_sem]) rfl (.inr ⟨1, rfl, HF.out, HS.out.2⟩)
    · obtain rfl : n = i := by omega
      have eT : l.take n = l := List.take_of_length_le (by rw [HN.out]; exact Nat.le_refl _)
      have HD2 : Hid (Dp l n bc) := HD
      by_cases hnd : l.Nodup
      · obtain rfl : 0 = bc := by
          rcases HD.out.2 with ⟨_, b⟩ | ⟨a, _⟩
          · exact b.symm
          · rw [eT] at a; exact absurd hnd a
        have HF := Lib.hid (show ((∀ x ∈ l, isK x.1 = true) ∧ l.Nodup) ∧ Rf wr g eb l from ⟨⟨by have := HD.out.1; rwa [eT] at this, hnd⟩, by have := HS.out.1; rwa [eT] at this⟩)
        clear hnd eT HD HD2
        go_wp2
        exact bodyPost_ret (v := .tuple #[.pointer (some ⟨g, 0, none⟩), .int .i64 0]) (by simp [results, Try.results50, go_sem]) rfl (.inl ⟨g, eb, rfl, HF.out.1, HF.out.2, hgw, HS.out.2⟩)
      · obtain rfl : 5 = bc := by
          rcases HD.out.2 with ⟨a, _⟩ | ⟨_, b⟩
          · rw [eT] at a; exact absurd a hnd
          · exact b.symm
        have HF := Lib.hid (show Bad l 5 from .inr ⟨by have := HD.out.1; rwa [eT] at this, hnd, rfl⟩)
        clear hnd eT HD HD2
        go_wp2
        exact bodyPost_ret (v := .tuple #[.pointer none, .int .i64 5]) (by simp [results, Try.results50, go_sem]) rfl (.inr ⟨5, rfl, HF.out, HS.out.2⟩)
end Go.Proofs.Ytblegaclcpoonaa.Seal
