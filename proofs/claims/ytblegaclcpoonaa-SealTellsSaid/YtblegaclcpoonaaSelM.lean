/- The reference's ring: what is kept of one; New, find, All, Valid. -/
import Derived.Test.YtblegaclcpoonaaSelK
import Derived.BigQuiet
namespace Go.Proofs.Ytblegaclcpoonaa.Seal
open Go.ChangeShapes Go.WideShapes Go.ChangeAt Go.RowKit Go.Joins Go.Maps Go.WideMaps Go.Proofs.Ytblegaclcpoonaa.Cell
set_option linter.unusedVariables false
set_option linter.unusedSimpArgs false

structure Rf (W : World) (g : Nat) (eb : Option Nat) (L : List En) : Prop where
  x : ∃ A c, Row W g 95 #[.slice A L.length c] ∧ W.ownsRow (g + 1) 70 2 (.slice A L.length c) L.length (L.flatMap ecs) ∧ (Value.slice A L.length c).ownBlock = eb
theorem Rf.keep {W W' : World} {g : Nat} {eb : Option Nat} {L : List En} (h : Rf W g eb L) (hb : Below W.heap.size W W') : Rf W' g eb L := by
  obtain ⟨A, c, h1, h2, h3⟩ := h.x
  exact ⟨⟨A, c, h1.keep hb, Gen.own_keep h2 hb, h3⟩⟩
theorem Rf.eb_lt {W : World} {g : Nat} {eb : Option Nat} {L : List En} (h : Rf W g eb L) {q : Nat} (hq : W.heap.size ≤ q) : eb ≠ some q := fun e => by
  obtain ⟨A, c, hr, ho, he⟩ := h.x
  have := (ho.lt q (he.trans e)).2
  omega
theorem Rf.lt {W : World} {g : Nat} {eb : Option Nat} {L : List En} (h : Rf W g eb L) : g < W.heap.size := by
  obtain ⟨A, c, hr, ho, he⟩ := h.x
  exact hr.lt
set_option maxRecDepth 100000 in
theorem rnew_any (W : World) : Calls Try.prog 44 #[] W fun e w' => e = .returned (.pointer (some ⟨W.heap.size, 0, none⟩)) ∧ Rf w' W.heap.size none [] ∧ Below W.heap.size W w' := by
  go_enter Try.func44, Try.ntmps44
  go_wp2
  go_ret
  exact ⟨by first | rfl | simp, ⟨⟨none, 0, Gen.rowAt _ _ _ rfl, ⟨rfl, .inl ⟨rfl, rfl⟩⟩, rfl⟩⟩, by go_grown⟩
/-- where an entry is -/
def Fnd (L : List En) (x : En) (v : Int) : Prop := (v = -1 ∧ x ∉ L) ∨ ∃ p : Nat, v = p ∧ L[p]? = some x
set_option maxRecDepth 100000 in
set_option maxHeartbeats 4000000 in
theorem rfind_any {W : World} {g : Nat} {eb : Option Nat} {L : List En} {k : Int} {s : ByteArray} (h : Rf W g eb L) (hL : L.length ≤ 10000) :
    Calls Try.prog 67 #[.pointer (some ⟨g, 0, none⟩), .int .i64 k, .string s] W fun e w' => ∃ v : Int, e = .returned (.int .i64 v) ∧ Fnd L (k, s) v ∧ W = w' := by
  obtain ⟨A, c, hr, ho, _⟩ := h.x
  have c0 := hr.cell 0
  go_enter Try.func67, Try.ntmps67
  go_wp2
  go_loopw [7] (fun iv wr => ∃ i : Nat, i ≤ L.length ∧ iv = .int .i64 i ∧ Hid ((k, s) ∉ L.take i) ∧ wr = W) (fun iv _ => L.length - (intOf iv).toNat)
  case atStart => exact ⟨0, Nat.zero_le _, rfl, Lib.hid (by simp), rfl⟩
  case round =>
    obtain ⟨i, hi, rfl, HA, rfl⟩ := hrel
    have i0 : (0 : Int) ≤ (i : Int) := by omega
    by_cases hlt : i < L.length
    · have hiI : (i : Int) < (L.length : Int) := by omega
      obtain ⟨y, hy⟩ := at_ L i hlt
      obtain ⟨b, hA, p0, p1⟩ := own_two rfl ho hy
      subst hA
      have HY := Lib.hid hy
      obtain ⟨yk, ys⟩ := y
      dsimp only at p0 p1
      clear hy
      by_cases hk : yk = k
      · obtain rfl : k = yk := hk.symm
        by_cases hs : ys.toList = s.toList
        · obtain rfl : s = ys := (str_inj hs).symm
          clear hs
          have HF := Lib.hid (show Fnd L (k, s) (i : Int) from .inr ⟨i, rfl, HY.out⟩)
          go_wp2
          go_ret
          exact ⟨_, rfl, HF.out, rfl⟩
        · have HB := Lib.hid (show (k, s) ∉ L.take (i + 1) from fun c => by
            rw [take_snoc HY.out, List.mem_append] at c
            rcases c with c | c
            · exact HA.out c
            · have c := List.mem_singleton.1 c
              injection c with c1 c2
              exact hs (by rw [c2]))
          have hs2 : (ys.toList == s.toList) = false := by simpa using hs
          go_wp2
          go_roundw
          case rel => first | exact ⟨i + 1, by omega, by go_num, HB, rfl⟩ | exact ⟨i + 1, by omega, by go_num, HB, trivial⟩ | exact ⟨i + 1, by omega, by go_num, HB⟩
          case measure => simp [intOf]; omega
      · have HB := Lib.hid (show (k, s) ∉ L.take (i + 1) from fun c => by
          rw [take_snoc HY.out, List.mem_append] at c
          rcases c with c | c
          · exact HA.out c
          · have c := List.mem_singleton.1 c
            injection c with c1 c2
            exact hk c1.symm)
        go_wp2
        go_roundw
        case rel => first | exact ⟨i + 1, by omega, by go_num, HB, rfl⟩ | exact ⟨i + 1, by omega, by go_num, HB, trivial⟩ | exact ⟨i + 1, by omega, by go_num, HB⟩
        case measure => simp [intOf]; omega
    · have HF := Lib.hid (show Fnd L (k, s) (-1) from .inl ⟨rfl, by have := HA.out; rwa [List.take_of_length_le (by omega)] at this⟩)
      go_wp2
      go_ret
      exact ⟨_, rfl, HF.out, rfl⟩
set_option maxRecDepth 100000 in
set_option maxHeartbeats 4000000 in
theorem rall_any {W : World} {g : Nat} {eb : Option Nat} {L : List En} (h : Rf W g eb L) (hL : L.length ≤ 1000) :
    Calls Try.prog 53 #[.pointer (some ⟨g, 0, none⟩)] W fun e w' => ∃ A c, e = .returned (.slice A L.length c) ∧ w'.ownsRow W.heap.size 70 2 (.slice A L.length c) L.length (L.flatMap ecs) ∧ Below W.heap.size W w' := by
  obtain ⟨A, c, hr, ho, _⟩ := h.x
  have c0 := (hr.alloc (.cells #[] 70)).cell 0
  have rr := App.Reads.of_own ho
  obtain ⟨i0, hi0, hz0, hz1, hz2⟩ := info_parts' infoE
  have hown : (W.alloc (.cells #[] 70)).ownsRow W.heap.size 70 2 (.slice (some ⟨W.heap.size, 0, none⟩) 0 0) 0 [] :=
    ⟨rfl, .inr ⟨W.heap.size, 0, #[], rfl, Nat.le_refl _, heap_alloc_new W _, Nat.le_refl _, by simp [maxLen], rfl, rfl⟩⟩
  go_enter Try.func53, Try.ntmps53
  go_wp2_with (first
    | (at_builtin
       go_must (refine App.wpList_append_any _ rfl (.tmp 3) (.tmp 7) _ rfl W.heap.size 70 i0 _ 2 24 Try.underlying60 hi0 hz0 hz1 hz2 rfl (by omega) _ 0 [] rfl hown W.heap.size A L.length c (L.flatMap ecs) rfl (rr.alloc (Nat.le_refl _) _) (ecs_one L) (by simp only [maxLen]; omega) (by omega) (by simp) ?_
                intro v2 w2 hown2 hg2 hat2
                have hB2 := Gen.g_below hown hg2 (Gen.b_alloc (Below.refl _ _)) (Nat.le_refl _)
                rw [List.nil_append, Nat.zero_add] at hown2
                obtain ⟨A2, c2, hv, _⟩ := Gen.own_slice hown2
                subst hv
                clear hg2 hat2))
    | fail)
  go_ret
  exact ⟨A2, c2, rfl, hown2, hB2⟩
end Go.Proofs.Ytblegaclcpoonaa.Seal
