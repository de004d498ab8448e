/- Big integers: digits in a block of one's own. -/
import Derived.Test.YtnifkianjpjahaaDoorBhJ
namespace Go.Proofs.YtnifkianjpjahaaDoor.Bg
open Go.ChangeShapes Go.WideShapes Go.ChangeAt Go.RowKit Go.Proofs.YtnifkianjpjahaaDoor.Cell
set_option linter.unusedVariables false
set_option linter.unusedSimpArgs false

/-- the first n cells of block g hold digits -/
def Blk (W : World) (g n : Nat) (L : List Int) : Prop := ∃ cur, Row W g 3 cur ∧ cur.toList.take n = ints L ∧ L.length = n
section
variable {W : World} {g n k : Nat} {L : List Int} {x : Int}
theorem Blk.len (h : Blk W g n L) : L.length = n := by obtain ⟨_, _, _, h⟩ := h; exact h
theorem Blk.cell (h : Blk W g n L) (hx : L[k]? = some x) : W.cell? ⟨g, k, none⟩ = some (.int .i64 x) := by
  obtain ⟨cur, hr, ht, hl⟩ := h
  rw [hr.cell k]
  have hk := lt_of_at hx
  have h1 : (cur.toList.take n)[k]? = some (.int .i64 x) := by rw [ht]; simp [ints, hx]
  rw [List.getElem?_take_of_lt (by omega)] at h1
  rw [← Array.getElem?_toList]
  exact h1
theorem Blk.frozen (h : Blk W g n L) (k : Nat) : W.frozen? ⟨g, k, none⟩ = false := by obtain ⟨cur, hr, _⟩ := h; exact hr.frozen k
theorem Blk.lt (h : Blk W g n L) : g < W.heap.size := by obtain ⟨cur, hr, _⟩ := h; exact hr.lt
theorem Blk.keep {W' : World} (h : Blk W g n L) (hb : Below W.heap.size W W') : Blk W' g n L := by
  obtain ⟨cur, hr, r⟩ := h
  exact ⟨cur, hr.keep hb, r⟩
theorem Blk.set (h : Blk W g n L) (k : Nat) (d : Int) : Blk (W.setCell ⟨g, k, none⟩ (.int .i64 d)) g n (L.set k d) := by
  obtain ⟨cur, hr, ht, hl⟩ := h
  refine ⟨_, hr.set k (.int .i64 d), ?_, by rw [List.length_set]; exact hl⟩
  rw [Array.toList_setIfInBounds, List.take_set, ht]
  simp [ints]
theorem Blk.take (h : Blk W g n L) (hk : k ≤ n) : Blk W g k (L.take k) := by
  obtain ⟨cur, hr, ht, hl⟩ := h
  refine ⟨cur, hr, ?_, by rw [List.length_take]; omega⟩
  have h1 : (cur.toList.take n).take k = (ints L).take k := by rw [ht]
  rw [List.take_take, Nat.min_eq_left hk] at h1
  rw [h1]
  simp [ints]
theorem Blk.ints (h : Blk W g n L) : Ints W (some ⟨g, 0, none⟩) L := fun _ => ⟨g, 0, rfl, fun j z hz => by rw [Nat.zero_add]; exact h.cell hz⟩
end
theorem blk_own {W : World} {B n : Nat} {v : Value} {l : List Int} (h : W.ownsRow B 3 1 v n (ints l)) (h0 : 0 < n) (hn : l.length = n) : ∃ g c, v = .slice (some ⟨g, 0, none⟩) n c ∧ B ≤ g ∧ n ≤ c ∧ Blk W g n l := by
  obtain ⟨_, h | ⟨g, cap, cur, rfl, hb, hr, hc, _, _, ht⟩⟩ := h
  · omega
  · exact ⟨g, cap, rfl, hb, hc, cur, hr, by rw [Nat.mul_one] at ht; exact ht, hn⟩
set_option maxRecDepth 100000 in
set_option maxHeartbeats 2000000 in
theorem cloneB_any {ad : Addr} {n cap : Nat} {us : List Int} (w : World) (hm : us.length = n) (hc : Ints w (some ad) us) (hbig : n ≤ 1000000) (hn0 : 0 < n) :
    Calls Tryd.prog 37 #[.slice (some ad) n cap] w fun e w' => ∃ g2 c2, e = .returned (.slice (some ⟨g2, 0, none⟩) n c2) ∧ w.heap.size ≤ g2 ∧ n ≤ c2 ∧ Blk w' g2 n us ∧ Below w.heap.size w w' := by
  have HM := Lib.hid hm
  clear hm
  have hq := fun (W : World) => Lib.run_eql_slice_nil (P := Tryd.prog) W 22 3 (some ad) n cap 0 0 Tryd.underlying22
  obtain ⟨i0, hi0, hz0, hz1, hz2⟩ := info_parts infoI
  have r1 := ints_reads HM.out hc
  have hown : (w.alloc (.cells #[] 3)).ownsRow w.heap.size 3 1 (.slice (some ⟨w.heap.size, 0, none⟩) 0 0) 0 [] :=
    ⟨rfl, .inr ⟨w.heap.size, 0, #[], rfl, Nat.le_refl _, heap_alloc_new w _, Nat.le_refl _, by simp [maxLen], rfl, rfl⟩⟩
  go_enter Tryd.func37, Tryd.ntmps37
  go_wp2_with (first
    | (at_builtin
       go_must (refine App.wpList_append_any _ rfl (.tmp 5) (.tmp 6) _ rfl w.heap.size 3 i0 _ 1 8 Tryd.underlying22 hi0 hz0 hz1 hz2 rfl (by omega) _ 0 [] rfl hown w.heap.size _ n cap (ints us) rfl (r1.alloc (Nat.le_refl _) _) (ints_one us) (by simp only [maxLen]; omega) (by omega) (by simp) ?_)
       intro v2 w2 hown2 hg2 hat2
       have hB2 := Gen.g_below hown hg2 (Gen.b_alloc (Below.refl _ _)) (Nat.le_refl _)
       rw [List.nil_append, Nat.zero_add] at hown2
       obtain ⟨g2, c2, rfl, hg0, hgc, hI2⟩ := blk_own hown2 (by omega) HM.out
       have HI2 := Lib.hid hI2
       clear hg2 hat2 hown2 hI2)
    | fail)
  go_ret
  exact ⟨g2, c2, rfl, hg0, hgc, HI2.out, hB2⟩
end Go.Proofs.YtnifkianjpjahaaDoor.Bg
