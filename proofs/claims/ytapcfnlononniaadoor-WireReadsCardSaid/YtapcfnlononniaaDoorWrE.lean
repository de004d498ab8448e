/- Wire: the library's builder of strings. -/
import Derived.Test.YtapcfnlononniaaDoorWrD
import Derived.Lib.Builder
import Derived.Lib.AppendStr
import Derived.Lib.Strings
import Derived.Laws.Externs
import Derived.LaidEqlPtr
namespace Go.Proofs.YtapcfnlononniaaDoor.Wr
open Go.Lib Go.ChangeShapes Go.WideShapes Go.ChangeAt Go.RowKit Go.Proofs.YtapcfnlononniaaDoor.Cell
set_option linter.unusedVariables false
set_option linter.unusedSimpArgs false
/-- a builder in memory that holds bytes -/
structure Bd (W : World) (B b : Nat) (l : List UInt8) : Prop where
  lo : B ≤ b
  ex : ∃ p v, Row W b 67 #[p, v] ∧ (p = .pointer none ∨ p = .pointer (some ⟨b, 0, none⟩)) ∧ W.ownsRow B 5 1 v l.length (byteCells l) ∧ v.ownBlock ≠ some b
theorem infoBd : (Tryd.prog.info? 67).map (·.size) = some 2 := by kernel_rfl
theorem lies_bd : liesAt Tryd.prog Tryd.prog.depth 67 1 0 67 1 = true := by kernel_rfl
theorem cells_bd : Tryd.prog.cellsOf 67 = 2 := by kernel_rfl
theorem Row.shape {W : World} {b : Nat} {t : TypeId} {cs : Array Value} (h : Row W b t cs) : W.shape? b = some (t, cs.size) := by
  simp [World.shape?, show W.heap[b]? = _ from h]
set_option maxRecDepth 100000 in
set_option maxHeartbeats 2000000 in
theorem chk_any {W : World} {b : Nat} {p v : Value} (h : Row W b 67 #[p, v]) (hp : p = .pointer none ∨ p = .pointer (some ⟨b, 0, none⟩)) :
    Calls Tryd.prog 66 #[.pointer (some ⟨b, 0, none⟩)] W fun e w' => e = .returned (.tuple #[]) ∧ (w' = W ∨ w' = W.setCell ⟨b, 0, none⟩ (.pointer (some ⟨b, 0, none⟩))) := by
  obtain ⟨j, hj, hj2⟩ := Option.map_eq_some_iff.1 infoBd
  have d0 := Row.cell h 0
  have f0 := Row.frozen h 0
  have hsh : W.shape? b = some (67, 2) := Row.shape h
  have t65 := Tryd.underlying65
  have u65 := run_underlying Tryd.underlying65
  have u67 := run_underlying Tryd.underlying67
  have z67 : ∀ w, (Go.sizeOf 67).run Tryd.prog w = .ok 2 w := fun w => by simp [Go.sizeOf, typeInfo, hj, hj2, go_sem]
  have HS := Lib.hid hsh
  clear h hsh
  rcases hp with rfl | rfl
  · go_enter Tryd.func66, Tryd.ntmps66
    go_wp2
    rw [Lib.run_to_unsafe W ⟨b, 0, none⟩ Tryd.underlying65 Tryd.underlying84 hj (by rw [hj2]; decide) HS.out (show 0 < 2 from by decide)]
    simp only [Result.andThen]
    rw [Oper.upon_value]
    go_wp2
    rw [run_callFunc_extern Tryd.func74 (by kernel_rfl) (by kernel_rfl) (by kernel_rfl) (e := Extern.AbiNoEscape.same) (by kernel_rfl)]
    rw [Lib.run_noEscape]
    simp only [Result.andThen]
    rw [Oper.upon_value]
    go_wp2
    rw [Lib.run_from_unsafe W ⟨b, 0, none⟩ Tryd.underlying84 Tryd.underlying65 hj HS.out (by rw [cells_bd]; exact lies_bd)]
    simp only [Result.andThen]
    rw [Oper.upon_value]
    go_wp2
    go_end0
    exact ⟨rfl, .inr rfl⟩
  · go_enter Tryd.func66, Tryd.ntmps66
    go_wp2
    have hq : (binOp BinOp.neq 65 (.pointer (some ⟨b, 0, none⟩)) (.pointer (some ⟨b, 0, none⟩))).run Tryd.prog W = .ok (.bool false) W := by
      have h9 : ∀ d : Nat, (Op.equalIn (d + 1) 65 (.pointer (some ⟨b, 0, none⟩)) (.pointer (some ⟨b, 0, none⟩))).run Tryd.prog W = .ok true W := fun d => by
        simp [Op.equalIn, run_underlying t65, sizeOf, typeInfo, hj, run_sameAddr_same]
      simp only [binOp]
      simp [Op.equal, Op.maxDepth, h9 9999]
    rw [hq]
    simp only [Result.andThen]
    rw [Oper.upon_value]
    go_wp2
    go_end0
    exact ⟨rfl, .inl rfl⟩
theorem infoU : (Tryd.prog.info? 5).map (fun i => (i.zero, i.size, i.bytes)) = some (some (.int .u8 0), 1, 1) := by kernel_rfl
theorem own_put_ne {w : World} {B n size : Nat} {e : TypeId} {v : Value} {xs : List Value} (h : w.ownsRow B e size v n xs) {p : Addr} (hp : v.ownBlock ≠ some p.block) (u : Value) : (w.setCell p u).ownsRow B e size v n xs := by
  refine ⟨h.1, ?_⟩
  rcases h.2 with h2 | ⟨q, cap, cur, hv, hb, hrq, h3⟩
  · exact .inl h2
  · refine .inr ⟨q, cap, cur, hv, hb, ?_, h3⟩
    have hq : q ≠ p.block := fun e => hp (by rw [hv, e]; rfl)
    exact (Below.heap_setCell w p _ q hq).trans hrq
theorem own_ne_row {w : World} {B n size b : Nat} {e t : TypeId} {v : Value} {xs : List Value} {cs : Array Value} (h : w.ownsRow B e size v n xs) (hr : Row w b t cs) (ht : e ≠ t) : v.ownBlock ≠ some b := fun hv => by
  rcases h.2 with ⟨h2, _⟩ | ⟨q, cap, cur, hq, hb, hrq, h3⟩
  · rw [h2] at hv; cases hv
  · rw [hq] at hv
    have e1 : q = b := by injection hv
    subst e1
    have := hr.symm.trans hrq
    injection this with this
    injection this with _ this _
    exact ht this.symm
theorem Bd.chk {W : World} {B b : Nat} {l : List UInt8} (h : Bd W B b l) (hB : B ≤ W.heap.size) :
    Calls Tryd.prog 66 #[.pointer (some ⟨b, 0, none⟩)] W fun e w' => e = .returned (.tuple #[]) ∧ Bd w' B b l ∧ Below B W w' := by
  obtain ⟨hlo, p, v, hr, hp, ho, hn⟩ := h
  refine (chk_any hr hp).mono ?_
  rintro e w' ⟨rfl, rfl | rfl⟩
  · exact ⟨rfl, ⟨hlo, p, v, hr, hp, ho, hn⟩, Below.refl _ _⟩
  · refine ⟨rfl, ⟨hlo, .pointer (some ⟨b, 0, none⟩), v, Row.set hr 0 _, .inr rfl, ?_, hn⟩, (Below.refl B W).setCell (p := ⟨b, 0, none⟩) hlo _⟩
    exact own_put_ne ho (p := ⟨b, 0, none⟩) hn _
/-- what writing does to a builder -/
def BdP (W : World) (B b : Nat) (l : List UInt8) (v : Value) (e : Ending) (w' : World) : Prop := e = .returned v ∧ Bd w' B b l ∧ Below B W w'
set_option maxRecDepth 100000 in
set_option maxHeartbeats 4000000 in
theorem ws_any {W : World} {B b : Nat} {l : List UInt8} {s : ByteArray} (h : Bd W B b l) (hB : B ≤ W.heap.size) (hz : l.length + s.size ≤ 1000000000) :
    Calls Tryd.prog 59 #[.pointer (some ⟨b, 0, none⟩), .string s] W (BdP W B b (l ++ s.data.toList) (.tuple #[.int .i64 (s.size : Int), .nilIface])) := by
  obtain ⟨i0, hi, hz0, hz1, hz2⟩ := info_parts' infoU
  have HC := Lib.hid (h.chk hB)
  clear h
  go_enter Tryd.func59, Tryd.ntmps59
  go_wp2_with (fail)
  go_must (refine HC.out.mono ?_)
  rintro e w1 ⟨rfl, ⟨hlo, p, v, hr, hp, ho, hn⟩, hb1⟩
  have c1 := Row.cell hr 1
  have HO := Lib.hid ho
  have HR := Lib.hid hr
  have HN := Lib.hid hn
  have HP := Lib.hid hp
  have HB1 := Lib.hid hb1
  have hB1 : B ≤ w1.heap.size := Nat.le_trans hB hb1.size
  clear ho hr hn hp hb1
  dsimp only
  go_wp2_with (first
    | (at_builtin
       go_must (refine Lib.wpList_append_own_string _ rfl (.tmp 12) (.tmp 13) 64 9 rfl B 5 i0 Tryd.underlying64 Tryd.underlying9 hi hz0 hz1 hz2 v l.length (byteCells l) rfl HO.out s rfl (by unfold maxLen; omega) (by omega) hB1 ?_
                intro v' w2 hown' hgrow _
                have hr2 : Row w2 b 67 #[p, v] := (hgrow.block b (Row.lt HR.out) (fun e => HN.out e.symm)).trans HR.out
                have hb2 : Below B w1 w2 := Below.grown (Below.refl _ _) hgrow hB1 (fun q hq => (HO.out.lt q hq).1)
                have d1 := Row.cell hr2 1
                have f1 := Row.frozen hr2 1
                have HR2 := Lib.hid hr2
                have HB2 := Lib.hid hb2
                have hown2 : w2.ownsRow B 5 1 v' (l ++ s.data.toList).length (byteCells (l ++ s.data.toList)) := by
                  have e : byteCells (l ++ s.data.toList) = byteCells l ++ strCells s := by unfold byteCells strCells; rw [List.map_append]
                  rw [e, List.length_append]
                  exact hown'
                have hn2 : v'.ownBlock ≠ some b := own_ne_row hown2 hr2 (by decide)
                have HO2 := Lib.hid hown2
                have HN2 := Lib.hid hn2
                obtain ⟨A2, c2, rfl, _⟩ := Gen.own_slice hown2
                clear hown' hgrow hr2 hb2 hown2 hn2))
    | fail)
  go_ret2
  have hL : (l ++ s.data.toList).length = l.length + s.size := List.length_append
  refine ⟨rfl, ⟨hlo, p, .slice A2 (l.length + s.size) c2, Row.set HR2.out 1 _, HP.out, ?_, ?_⟩, (HB1.out.trans HB2.out).setCell (p := ⟨b, 1, none⟩) hlo _⟩
  · rw [← hL]
    exact own_put_ne HO2.out (p := ⟨b, 1, none⟩) HN2.out _
  · rw [← hL]
    exact HN2.out
set_option maxRecDepth 100000 in
set_option maxHeartbeats 4000000 in
theorem wb_any {W : World} {B b : Nat} {l : List UInt8} {x : UInt8} (h : Bd W B b l) (hB : B ≤ W.heap.size) (hz : l.length ≤ 1000000000) :
    Calls Tryd.prog 60 #[.pointer (some ⟨b, 0, none⟩), .int .u8 (x.toNat : Int)] W (BdP W B b (l ++ [x]) .nilIface) := by
  obtain ⟨i0, hi, hz0, hz1, hz2⟩ := info_parts' infoU
  have HC := Lib.hid (h.chk hB)
  clear h
  go_enter Tryd.func60, Tryd.ntmps60
  go_wp2_with (fail)
  go_must (refine HC.out.mono ?_)
  rintro e w1 ⟨rfl, ⟨hlo, p, v, hr, hp, ho, hn⟩, hb1⟩
  have c1 := Row.cell hr 1
  have HO := Lib.hid ho
  have HR := Lib.hid hr
  have HN := Lib.hid hn
  have HP := Lib.hid hp
  have HB1 := Lib.hid hb1
  have hB1 : B ≤ w1.heap.size := Nat.le_trans hB hb1.size
  have hblt := Row.lt hr
  clear ho hr hn hp hb1
  dsimp only
  go_wp2_with (first
    | (at_builtin
       go_must (refine App.wpList_append_any _ rfl (.tmp 11) (.tmp 13) _ rfl B 5 i0 _ 1 1 Tryd.underlying64 hi hz0 hz1 hz2 rfl (by omega) v l.length (byteCells l) rfl (Gen.own_keep HO.out (Gen.b_alloc (Below.refl _ _))) (w1.heap.size + 1) (some ⟨w1.heap.size, 0, none⟩) 1 1 [.int .u8 (x.toNat : Int)] rfl (Gen.reads_blk rfl rfl) (by simp [Value.oneCell']) (by simp only [maxLen]; omega) (by omega) (by simp; omega) ?_
                intro v' w2 hown' hgrow _
                have hr2 : Row w2 b 67 #[p, v] := (hgrow.block b (by simp; omega) (fun e => HN.out e.symm)).trans (Row.alloc HR.out _)
                have hb2 : Below B w1 w2 := Below.grown ((Gen.b_alloc (Below.refl _ _)).mono hB1) hgrow (by simp; omega) (fun q hq => (HO.out.lt q hq).1)
                have d1 := Row.cell hr2 1
                have f1 := Row.frozen hr2 1
                have HR2 := Lib.hid hr2
                have HB2 := Lib.hid hb2
                have hown2 : w2.ownsRow B 5 1 v' (l.length + 1) (byteCells (l ++ [x])) := by
                  have e : byteCells (l ++ [x]) = byteCells l ++ [.int .u8 (x.toNat : Int)] := by unfold byteCells; rw [List.map_append]; rfl
                  rw [e]
                  exact hown'
                have hn2 : v'.ownBlock ≠ some b := own_ne_row hown2 hr2 (by decide)
                have HO2 := Lib.hid hown2
                have HN2 := Lib.hid hn2
                obtain ⟨A2, c2, rfl, _⟩ := Gen.own_slice hown2
                clear hown' hgrow hr2 hb2 hown2 hn2))
    | fail)
  go_ret
  have hL : (l ++ [x]).length = l.length + 1 := List.length_append
  refine ⟨rfl, ⟨hlo, p, .slice A2 (l.length + 1) c2, Row.set HR2.out 1 _, HP.out, ?_, ?_⟩, (HB1.out.trans HB2.out).setCell (p := ⟨b, 1, none⟩) hlo _⟩
  · rw [hL]
    exact own_put_ne HO2.out (p := ⟨b, 1, none⟩) HN2.out _
  · exact HN2.out
theorem Bd.lib {W : World} {B b : Nat} {l : List UInt8} (h : Bd W B b l) : Lib.IsBuilder 67 5 B b (byteCells l) W := by
  obtain ⟨hlo, p, v, hr, hp, ho, hn⟩ := h
  have ho' : W.ownsRow B 5 1 v (byteCells l).length (byteCells l) := by rw [byteCells_length]; exact ho
  rcases hp with rfl | rfl
  · exact .inl ⟨hlo, v, hr, ho', hn⟩
  · exact .inr ⟨hlo, v, hr, ho', hn⟩
theorem str_any {W : World} {B b : Nat} {l : List UInt8} (h : Bd W B b l) (hB : B ≤ W.heap.size) :
    Calls Tryd.prog 61 #[.pointer (some ⟨b, 0, none⟩)] W fun e w' => e = .returned (.string ⟨l.toArray⟩) ∧ Below B W w' :=
  (Tryd.Builder_String_any_f B b l W (Lib.IsBuilderF.of h.lib) hB).mono fun e w' ⟨h1, _, h2⟩ => ⟨h1, h2⟩
theorem Bd.new {W : World} {B : Nat} (hB : B ≤ W.heap.size) : Bd (W.alloc (.cells #[.pointer none, .slice none 0 0] 67)) B W.heap.size [] :=
  ⟨hB, _, _, Row.new _ _ _, .inl rfl, own_nil _ _ _, by simp [Value.ownBlock]⟩
end Go.Proofs.YtapcfnlononniaaDoor.Wr
