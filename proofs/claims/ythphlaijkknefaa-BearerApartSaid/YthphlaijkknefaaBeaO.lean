/- Bearer pieces: the reference's Copied. -/
import Derived.Test.YthphlaijkknefaaBeaN
namespace Go.Proofs.Ythphlaijkknefaa.Bea
open Go.ChangeShapes Go.WideShapes Go.ChangeAt Go.RowKit Go.Proofs.Ythphlaijkknefaa.Cell
set_option linter.unusedVariables false
set_option linter.unusedSimpArgs false

theorem own_empty {w : World} {B g size : Nat} {t : TypeId} (hr : Row w g t #[]) (hB : B ≤ g) : w.ownsRow B t size (.slice (some ⟨g, 0, none⟩) 0 0) 0 [] :=
  ⟨by simp, .inr ⟨g, 0, #[], rfl, hB, hr, Nat.le_refl _, by simp [maxLen], by simp, by simp⟩⟩
theorem Below.toGrown {W W' : World} (hb : Below W.heap.size W W') : W.grownBy W' none := ⟨hb.os, hb.tape, hb.output, hb.size, fun k hk _ => hb.block k hk⟩
def blkOf : Option Addr → Nat
  | some a => a.block + 1
  | none => 0
theorem boos_reads {w0 W : World} {A : Option Addr} {pd : List Bool} (h : Boos w0 A pd) (hb : Below w0.heap.size w0 W) : App.Reads W (blkOf A) 1 A pd.length (pd.map Value.bool) := by
  refine ⟨by simp, fun h0 => ?_⟩
  obtain ⟨b, off, rfl, hc⟩ := h h0
  refine ⟨_, rfl, Nat.lt_succ_self _, fun j v hv => ?_⟩
  rw [List.getElem?_map] at hv
  cases hj : pd[j]? with
  | none => rw [hj] at hv; cases hv
  | some y =>
    rw [hj] at hv
    have hv : Value.bool y = v := by injection hv
    rw [add_lit', ← hv]
    exact keep0 hb _ _ _ (hc j y hj)
theorem pd_own {B : Nat} {W : World} {pd : List Bool} {u : Value} (h : W.ownsRow B 4 1 u pd.length (pd.map Value.bool)) : Pd B W pd u := by
  by_cases hp : pd = []
  · subst hp
    obtain ⟨A, c, e, _⟩ := Gen.own_slice h
    exact .inl ⟨rfl, A, c, e⟩
  · exact .inr ⟨hp, h⟩
set_option maxRecDepth 100000 in
set_option maxHeartbeats 8000000 in
theorem rcopied_any (A : Option Addr) (n cap : Nat) (l : List Pc) (w : World) (hn : l.length = n) (hc : Pcl w A l) (h0 : 0 < n) (hbig : n ≤ 1000) (hsz : ∀ x ∈ l, x.pd.length ≤ 400) :
    Calls Try.prog 20 #[.slice A n cap] w fun e w' => ∃ g c P, e = .returned (.slice (some ⟨g, 0, none⟩) n c) ∧ Cpi w w.heap.size w' g c n P ∧ P.map (·.1) = l := by
  obtain ⟨b, off, rfl, hcell⟩ := hc (by omega)
  obtain ⟨P0, hP0, hcl, hrest⟩ := pcl_list hcell
  obtain ⟨iP, hiP, hzP, hyP, hxP⟩ := info_parts' infoP
  obtain ⟨iB, hiB, hzB, hyB, hxB⟩ := info_parts' infoB
  have hl0 : P0.length = n := by rw [← hn, ← hP0, List.length_map]
  have hrd : App.Reads w (b + 1) 5 (some ⟨b, off, none⟩) n (P0.flatMap pcv) := ⟨by rw [Gen.flat_length (K := 5) (fun _ => rfl), hl0], fun _ => ⟨_, rfl, Nat.lt_succ_self _, hcl⟩⟩
  have hbw : b < w.heap.size := by
    obtain ⟨x, hx⟩ := at_ l 0 (by omega)
    exact World.block_lt_of_cell? _ _ (hcell 0 x hx).c0
  have hone := pcv_one P0 fun y hy => by obtain ⟨j, hj⟩ := List.getElem?_of_mem hy; obtain ⟨A, c, e, _⟩ := hrest j y hj; exact ⟨A, _, c, e⟩
  have HN := Lib.hid hn
  have HSZ := Lib.hid hsz
  have HRD := Lib.hid hrd
  have HONE := Lib.hid hone
  have HRE := Lib.hid hrest
  have HC := Lib.hid hc
  have HP0 := Lib.hid hP0
  clear hcl hrest hn hsz hrd hone hP0
  go_enter Try.func20, Try.ntmps20
  go_wp2_with (first
    | (at_builtin
       go_must (refine App.wpList_append_any _ rfl (.tmp 5) (.tmp 6) _ rfl w.heap.size 36 iP _ 5 56 Try.underlying22 hiP hzP hyP hxP rfl (by omega) (.slice (some ⟨w.heap.size, 0, none⟩) 0 0) 0 [] rfl (own_empty (Row.new _ _ _) (Nat.le_refl _)) (b + 1) (some ⟨b, off, none⟩) n cap (P0.flatMap pcv) rfl (HRD.out.alloc (by omega) _) HONE.out (by simp only [maxLen]; omega) (by omega) (by simp) ?_
                intro v1 w1 ho1 hg1 ha1
                rw [List.nil_append, Nat.zero_add] at ho1
                have hB1 := Gen.g_below (w := w) (own_empty (B := w.heap.size) (size := 5) (Row.new w 36 #[]) (Nat.le_refl _)) hg1 (Gen.b_alloc (Below.refl _ _)) (Nat.le_refl _)
                obtain ⟨g, c, hv1, _, _⟩ := ho1.form h0
                subst hv1
                have HC0 := Lib.hid (show Cpi w w.heap.size w1 g c 0 P0 from ⟨by rw [hl0]; exact ho1, fun j y h => by omega, fun j k y z q h => by omega, fun j y h => by omega, fun j y _ hy => HRE.out j y hy, hB1, Nat.le_refl _⟩)
                clear ho1 hg1 ha1 hB1))
    | fail)
  clear hl0
  go_loopw [4] (fun iv wr => ∃ (i : Nat) (P : List (Pc × Value)), i ≤ n ∧ iv = .int .i64 i ∧ Hid (P.map (·.1) = l) ∧ Hid (Cpi w w.heap.size wr g c i P)) (fun iv _ => n - (intOf iv).toNat)
  case atStart => exact ⟨0, P0, Nat.zero_le _, rfl, HP0, HC0⟩
  case round =>
    clear HC0 HP0
    obtain ⟨i, P, hi, rfl, HP, HCC⟩ := hrel
    have i0 : (0 : Int) ≤ (i : Int) := by omega
    by_cases hlt : i < n
    · have hiI : (i : Int) < (n : Int) := by omega
      have hlen : P.length = n := by rw [← HN.out, ← HP.out, List.length_map]
      obtain ⟨y, hy⟩ : ∃ y, P[i]? = some y := ⟨_, List.getElem?_eq_getElem (by rw [hlen]; exact hlt)⟩
      have hlx : l[i]? = some y.1 := by rw [← HP.out, List.getElem?_map, hy]; rfl
      obtain ⟨_, _, ⟨A5, c5, e2, hb5⟩, _, _⟩ := pcl_cells HC.out hlx
      have e3 := keep0 HCC.out.bl _ _ _ e2
      have e4 := Gen.keep (Gen.b_alloc (x := .cells #[] 4) (Below.refl wr.heap.size wr)) e3
      have hs5 : y.1.pd.length ≤ 400 := HSZ.out y.1 (mem_of_at hlx)
      obtain ⟨_, _, d2, _, _⟩ := HCC.out.cells hy
      have hgl := HCC.out.o.lt g rfl
      have HY := Lib.hid hy
      have HB5 := Lib.hid (boos_reads hb5 (Gen.b_alloc (x := .cells #[] 4) HCC.out.bl))
      have HA5 : Hid (∀ a, A5 = some a → y.1.pd ≠ [] → a.block < w.heap.size) := Lib.hid fun a e h => by
        obtain ⟨b7, o7, e7, h7⟩ := hb5 (List.length_pos_iff.2 h)
        rw [e7] at e
        injection e with e
        subst e
        obtain ⟨z, hz⟩ := at_ y.1.pd 0 (List.length_pos_iff.2 h)
        exact World.block_lt_of_cell? _ _ (h7 0 z hz)
      clear hlx hb5 e2 hy hlen
      go_wp2_with (first
        | (at_builtin
           go_must (refine App.wpList_append_any _ rfl (.tmp 16) (.tmp 21) _ rfl wr.heap.size 4 iB _ 1 1 Try.underlying34 hiB hzB hyB hxB rfl (by omega) (.slice (some ⟨wr.heap.size, 0, none⟩) 0 0) 0 [] rfl (own_empty (Row.new _ _ _) (Nat.le_refl _)) _ A5 y.1.pd.length c5 (y.1.pd.map Value.bool) rfl HB5.out (boo_one _) (by simp only [maxLen]; omega) (by omega) (by simp) ?_
                    intro u w5 ho5 hg5 ha5
                    rw [List.nil_append, Nat.zero_add] at ho5
                    have hB5 := Gen.g_below (w := wr) (own_empty (B := wr.heap.size) (size := 1) (Row.new wr 4 #[]) (Nat.le_refl _)) hg5 (Gen.b_alloc (Below.refl _ _)) (Nat.le_refl _)
                    have HNX := Lib.hid (HCC.out.next HY.out (Below.refl _ _) (Below.toGrown hB5) (pd_own ho5) (Nat.le_trans (by have := HCC.out.bl.size; omega) (Nat.le_refl _)))
                    have HPX := Lib.hid ((map_fst_set (u := u) HY.out).trans HP.out)
                    obtain ⟨A6, c6, hu6, _⟩ := Gen.own_slice ho5
                    subst hu6
                    have d3 := Gen.keep hB5 d2
                    have f3 : w5.frozen? ⟨g, i * 5 + 2, none⟩ = false := own_frozen (Gen.own_keep HCC.out.o hB5)
                    clear ho5 hg5 ha5 hB5))
        | fail)
      go_roundw
      case rel => exact ⟨i + 1, _, by omega, by go_num, HPX, HNX⟩
      case measure => simp [intOf]; omega
    · obtain rfl : n = i := by omega
      go_wp2
      go_ret
      exact ⟨g, c, P, rfl, HCC.out, HP.out⟩
end Go.Proofs.Ythphlaijkknefaa.Bea
