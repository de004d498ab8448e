/- Post: clones, Send, Flight. -/
import Derived.Test.YtefikmfogbdhpaaPoI
import Derived.WalkSpells
import Derived.BigRegion
import Derived.Deep.RegionHeld3
import Derived.Deep.DeepCutAuto
namespace Go.Proofs.Ytefikmfogbdhpaa.Po
open Go.ChangeShapes Go.WideShapes Go.ChangeAt Go.RowKit Go.Proofs.Ytefikmfogbdhpaa.Cell
set_option linter.unusedVariables false
set_option linter.unusedSimpArgs false

theorem own_base {w : World} {B B' n size : Nat} {e : TypeId} {v : Value} {xs : List Value} (h : w.ownsRow B e size v n xs) (hb : B' ≤ B) : w.ownsRow B' e size v n xs := by
  refine ⟨h.1, ?_⟩
  rcases h.2 with hn | ⟨g, cap, cur, rfl, hbb, rest⟩
  · exact .inl hn
  · exact .inr ⟨g, cap, cur, rfl, Nat.le_trans hb hbb, rest⟩
theorem own_put {w : World} {B n size : Nat} {e : TypeId} {v : Value} {xs : List Value} (h : w.ownsRow B e size v n xs) {p : Addr} (hp : p.block < B) (u : Value) : (w.setCell p u).ownsRow B e size v n xs := by
  refine ⟨h.1, ?_⟩
  rcases h.2 with hn | ⟨g, cap, cur, rfl, hbb, hg, rest⟩
  · exact .inl hn
  · exact .inr ⟨g, cap, cur, rfl, hbb, (Below.heap_setCell w p u g (by omega)).trans hg, rest⟩
theorem own_ab {w : World} {B n c size : Nat} {e : TypeId} {A : Option Addr} {xs : List Value} (h : w.ownsRow B e size (.slice A n c) n xs) : ∀ a, A = some a → B ≤ a.block := fun a ha => by
  subst ha
  rcases h.2 with ⟨h0, _⟩ | ⟨g, cap, cur, he, hb, _⟩
  · cases h0
  · injection he with e1
    injection e1 with e1
    subst e1
    exact hb
theorem own_nil {w : World} (n B size : Nat) (e : TypeId) : w.ownsRow B e size (.slice none 0 0) 0 [] := ⟨by simp, .inl ⟨rfl, rfl⟩⟩
theorem own_new (w : World) (e : TypeId) (size : Nat) : (w.alloc (.cells #[] e)).ownsRow w.heap.size e size (.slice (some ⟨w.heap.size, 0, none⟩) 0 0) 0 [] :=
  ⟨by simp, .inr ⟨w.heap.size, 0, #[], rfl, Nat.le_refl _, heap_alloc_new w _, Nat.le_refl _, by simp [maxLen], by simp, by simp⟩⟩
set_option maxRecDepth 100000 in
set_option maxHeartbeats 2000000 in
theorem clone_er {w : World} {B : Nat} {A : Option Addr} {n cap : Nat} {l : List En} (hm : l.length = n) (hr : App.Reads w B 5 A n (l.flatMap ecs)) (hB : B ≤ w.heap.size) (hbig : n ≤ 1000000) :
    Calls Try.prog 25 #[.slice A n cap] w fun e w' => ∃ A2 c2, e = .returned (.slice A2 n c2) ∧ w'.ownsRow w.heap.size 36 5 (.slice A2 n c2) n (l.flatMap ecs) ∧ Below w.heap.size w w' := by
  have HM := Lib.hid hm
  clear hm
  have hq := fun (W : World) => Lib.run_eql_slice_nil (P := Try.prog) W 22 36 A n cap 0 0 Try.underlying22
  cases A with
  | none =>
    obtain rfl : n = 0 := by
      by_cases h0 : 0 < n
      · obtain ⟨_, e, _⟩ := hr.2 h0
        cases e
      · omega
    obtain rfl : l = [] := List.length_eq_zero_iff.1 HM.out
    go_enter Try.func25, Try.ntmps25
    go_wp2
    go_ret
    exact ⟨none, 0, rfl, ⟨rfl, .inl ⟨rfl, rfl⟩⟩, Below.refl _ _⟩
  | some ad =>
    obtain ⟨i0, hi0, hz0, hz1, hz2⟩ := info_parts' infoE
    have hown := own_new w 36 5
    go_enter Try.func25, Try.ntmps25
    go_wp2_with (first
      | (at_builtin
         go_must (refine App.wpList_append_any _ rfl (.tmp 5) (.tmp 6) _ rfl w.heap.size 36 i0 _ 5 40 Try.underlying22 hi0 hz0 hz1 hz2 rfl (by omega) _ 0 [] rfl hown B _ n cap (l.flatMap ecs) rfl (hr.alloc hB _) (ecs_one l) (by simp only [maxLen]; omega) (by omega) (by simp) ?_)
         intro v2 w2 hown2 hg2 hat2
         have hB2 := Gen.g_below hown hg2 (Gen.b_alloc (Below.refl _ _)) (Nat.le_refl _)
         rw [List.nil_append, Nat.zero_add] at hown2
         obtain ⟨A2, c2, rfl, _⟩ := Gen.own_slice hown2
         clear hg2 hat2)
      | fail)
    go_ret
    exact ⟨A2, c2, rfl, hown2, hB2⟩
theorem clone_e {w : World} {A : Option Addr} {n cap : Nat} {l : List En} (hm : l.length = n) (hc : Ens w A l) (hbig : n ≤ 1000000) :
    Calls Try.prog 25 #[.slice A n cap] w fun e w' => ∃ A2 c2, e = .returned (.slice A2 n c2) ∧ w'.ownsRow w.heap.size 36 5 (.slice A2 n c2) n (l.flatMap ecs) ∧ Below w.heap.size w w' :=
  clone_er hm (ens_reads hm hc) (Nat.le_refl _) hbig
theorem drop_flat (l : List En) (k : Nat) : (l.flatMap ecs).drop (k * 5) = (l.drop k).flatMap ecs := by
  by_cases h : k ≤ l.length
  · conv => lhs; rw [← List.take_append_drop k l, List.flatMap_append]
    have hl : ((l.take k).flatMap ecs).length = k * 5 := by rw [ecs_len, List.length_take]; congr 1; omega
    rw [← hl, List.drop_left]
  · rw [List.drop_eq_nil_of_le (by rw [ecs_len]; omega), List.drop_eq_nil_of_le (by omega)]
    rfl
theorem take_flat (l : List En) (k : Nat) : (l.flatMap ecs).take (k * 5) = (l.take k).flatMap ecs := by
  by_cases h : k ≤ l.length
  · conv => lhs; rw [← List.take_append_drop k l, List.flatMap_append]
    have hl : ((l.take k).flatMap ecs).length = k * 5 := by rw [ecs_len, List.length_take]; congr 1; omega
    rw [← hl, List.take_left]
  · rw [List.take_of_length_le (by rw [ecs_len]; omega), List.take_of_length_le (by omega)]
theorem reads_pre {w : World} {B size n k : Nat} {A : Option Addr} {xs : List Value} (h : App.Reads w B size A n xs) (hk : k ≤ n) : App.Reads w B size A k (xs.take (k * size)) := by
  refine ⟨by rw [List.length_take, h.1]; exact Nat.min_eq_left (Nat.mul_le_mul_right _ hk), fun h0 => ?_⟩
  obtain ⟨ad, e, hb, hcell⟩ := h.2 (by omega)
  refine ⟨ad, e, hb, fun j u hu => hcell j u ?_⟩
  rw [List.getElem?_take] at hu
  split at hu
  · exact hu
  · cases hu
set_option maxRecDepth 100000 in
set_option maxHeartbeats 2000000 in
theorem clone_i {w : World} {A : Option Addr} {n cap : Nat} {us : List Int} (hm : us.length = n) (hc : Ints w A us) (hbig : n ≤ 1000000) :
    Calls Try.prog 26 #[.slice A n cap] w fun e w' => ∃ A2 c2, e = .returned (.slice A2 n c2) ∧ w'.ownsRow w.heap.size 3 1 (.slice A2 n c2) n (ints us) ∧ Below w.heap.size w w' := by
  have HM := Lib.hid hm
  clear hm
  have hq := fun (W : World) => Lib.run_eql_slice_nil (P := Try.prog) W 23 3 A n cap 0 0 Try.underlying23
  cases A with
  | none =>
    obtain rfl : n = 0 := by
      by_cases h0 : 0 < n
      · obtain ⟨_, _, e, _⟩ := hc (by rw [HM.out]; exact h0)
        cases e
      · omega
    obtain rfl : us = [] := List.length_eq_zero_iff.1 HM.out
    go_enter Try.func26, Try.ntmps26
    go_wp2
    go_ret
    exact ⟨none, 0, rfl, ⟨rfl, .inl ⟨rfl, rfl⟩⟩, Below.refl _ _⟩
  | some ad =>
    obtain ⟨i0, hi0, hz0, hz1, hz2⟩ := info_parts' infoI
    have hr := ints_reads HM.out hc
    have hown := own_new w 3 1
    go_enter Try.func26, Try.ntmps26
    go_wp2_with (first
      | (at_builtin
         go_must (refine App.wpList_append_any _ rfl (.tmp 5) (.tmp 6) _ rfl w.heap.size 3 i0 _ 1 8 Try.underlying23 hi0 hz0 hz1 hz2 rfl (by omega) _ 0 [] rfl hown w.heap.size _ n cap (ints us) rfl (hr.alloc (Nat.le_refl _) _) (ints_one us) (by simp only [maxLen]; omega) (by omega) (by simp) ?_)
         intro v2 w2 hown2 hg2 hat2
         have hB2 := Gen.g_below hown hg2 (Gen.b_alloc (Below.refl _ _)) (Nat.le_refl _)
         rw [List.nil_append, Nat.zero_add] at hown2
         obtain ⟨A2, c2, rfl, _⟩ := Gen.own_slice hown2
         clear hg2 hat2)
      | fail)
    go_ret
    exact ⟨A2, c2, rfl, hown2, hB2⟩
/-- the cells of a way -/
abbrev wcs (A : Option Addr) (n c : Nat) (nxt : Int) (A2 : Option Addr) (n2 c2 : Nat) : Array Value := #[.slice A n c, .int .i64 nxt, .slice A2 n2 c2]
theorem kw_put3 {w W : World} {a b d u0 u1 u2 : Value} (h : Below w.heap.size w W ∧ W.cell? ⟨w.heap.size, 0, none⟩ = some a ∧ W.cell? ⟨w.heap.size, 1, none⟩ = some b ∧ W.cell? ⟨w.heap.size, 2, none⟩ = some d) :
    Below w.heap.size w (((W.setCell ⟨w.heap.size + 1, 0, none⟩ u0).setCell ⟨w.heap.size + 1, 1, none⟩ u1).setCell ⟨w.heap.size + 1, 2, none⟩ u2) ∧ (((W.setCell ⟨w.heap.size + 1, 0, none⟩ u0).setCell ⟨w.heap.size + 1, 1, none⟩ u1).setCell ⟨w.heap.size + 1, 2, none⟩ u2).cell? ⟨w.heap.size, 0, none⟩ = some a ∧
      (((W.setCell ⟨w.heap.size + 1, 0, none⟩ u0).setCell ⟨w.heap.size + 1, 1, none⟩ u1).setCell ⟨w.heap.size + 1, 2, none⟩ u2).cell? ⟨w.heap.size, 1, none⟩ = some b ∧ (((W.setCell ⟨w.heap.size + 1, 0, none⟩ u0).setCell ⟨w.heap.size + 1, 1, none⟩ u1).setCell ⟨w.heap.size + 1, 2, none⟩ u2).cell? ⟨w.heap.size, 2, none⟩ = some d := by
  obtain ⟨h0, h1, h2, h3⟩ := h
  refine ⟨Gen.b_set (Gen.b_set (Gen.b_set h0 (by simp)) (by simp)) (by simp), ?_, ?_, ?_⟩
  all_goals
    rw [World.cell?_setCell_other _ _ _ _ (by simp), World.cell?_setCell_other _ _ _ _ (by simp), World.cell?_setCell_other _ _ _ _ (by simp)]
    assumption
section
variable {A A2 : Option Addr} {n c n2 c2 : Nat} {nxt : Int} {early : List Int} {S : List En}
set_option maxRecDepth 100000 in
set_option maxHeartbeats 4000000 in
theorem clone_way (w : World) (hn : S.length = n) (hE : Ens w A S) (hm : early.length = n2) (hI : Ints w A2 early) (hb : n ≤ 10000) (hb2 : n2 ≤ 10000) :
    Calls Try.prog 22 #[.agg #[.slice A n c, .int .i64 nxt, .slice A2 n2 c2]] w fun e w' => ∃ A3 c3 A4 c4, e = .returned (.agg #[.slice A3 n c3, .int .i64 nxt, .slice A4 n2 c4]) ∧
      w'.ownsRow w.heap.size 36 5 (.slice A3 n c3) n (S.flatMap ecs) ∧ w'.ownsRow w.heap.size 3 1 (.slice A4 n2 c4) n2 (ints early) ∧ Below w.heap.size w w' ∧ ∀ g, (Value.slice A3 n c3).ownBlock = some g → (Value.slice A4 n2 c4).ownBlock ≠ some g := by
  have hB0 : Below w.heap.size w ((w.alloc (.cells #[.slice A n c, .int .i64 nxt, .slice A2 n2 c2] 27)).alloc (.cells #[.slice none 0 0, .int .i64 0, .slice none 0 0] 27)) := Gen.b_alloc (Gen.b_alloc (Below.refl _ _))
  have hr0 : Row ((w.alloc (.cells #[.slice A n c, .int .i64 nxt, .slice A2 n2 c2] 27)).alloc (.cells #[.slice none 0 0, .int .i64 0, .slice none 0 0] 27)) w.heap.size 27 #[.slice A n c, .int .i64 nxt, .slice A2 n2 c2] := (Row.new _ _ _).alloc _
  have hr1 : Row ((w.alloc (.cells #[.slice A n c, .int .i64 nxt, .slice A2 n2 c2] 27)).alloc (.cells #[.slice none 0 0, .int .i64 0, .slice none 0 0] 27)) (w.heap.size + 1) 27 #[.slice none 0 0, .int .i64 0, .slice none 0 0] := Gen.rowAt _ _ _ (by simp)
  have hsz : ((w.alloc (.cells #[.slice A n c, .int .i64 nxt, .slice A2 n2 c2] 27)).alloc (.cells #[.slice none 0 0, .int .i64 0, .slice none 0 0] 27)).heap.size = w.heap.size + 2 := by simp
  have HN := Lib.hid hn
  have HM := Lib.hid hm
  have HE := Lib.hid hE
  have HI := Lib.hid hI
  clear hn hm hE hI
  go_enter Try.func22, Try.ntmps22
  go_upto_region 1 with (fail)
  generalize ((w.alloc (.cells #[.slice A n c, .int .i64 nxt, .slice A2 n2 c2] 27)).alloc (.cells #[.slice none 0 0, .int .i64 0, .slice none 0 0] 27)) = W0 at *
  have d0 := hr0.cell 0
  have d1 := hr0.cell 1
  have d2 := hr0.cell 2
  have HSS := Lib.hid (show Below w.heap.size w W0.drew ∧ W0.drew.cell? ⟨w.heap.size, 0, none⟩ = some (.slice A n c) ∧ W0.drew.cell? ⟨w.heap.size, 1, none⟩ = some (.int .i64 nxt) ∧ W0.drew.cell? ⟨w.heap.size, 2, none⟩ = some (.slice A2 n2 c2) from ⟨hB0.drew, d0, d1, d2⟩)
  have HR1 := Lib.hid (hr1.keep (Below.refl _ _).drew)
  have HSZ := Lib.hid (show W0.drew.heap.size = w.heap.size + 2 from hsz)
  clear d0 d1 d2 hr0 hr1 hB0 hsz
  go_region_held3 (fun W' : World => Below w.heap.size w W' ∧ W'.cell? ⟨w.heap.size, 0, none⟩ = some (.slice A n c) ∧ W'.cell? ⟨w.heap.size, 1, none⟩ = some (.int .i64 nxt) ∧ W'.cell? ⟨w.heap.size, 2, none⟩ = some (.slice A2 n2 c2))
    (first | exact HSS.out | exact kw_put3 (by assumption) | exact ⟨Gen.over (by assumption) (And.left (by assumption)), Gen.keep (by assumption) (And.left (And.right (by assumption))), Gen.keep (by assumption) (And.left (And.right (And.right (by assumption)))), Gen.keep (by assumption) (And.right (And.right (And.right (by assumption))))⟩ | fail "keep")
    (first
      | (go_at_call 25; refine (clone_e HN.out (HE.out.keep (And.left (by assumption))) (by omega)).mono ?_; rintro e' w8 ⟨A8, c8, rfl, ho8, hB8⟩; have hR8 := HR1.out.keep hB8)
      | (go_at_call 26; refine (clone_i HM.out (HI.out.keep (And.left (by assumption))) (by omega)).mono ?_; rintro e' w9 ⟨A9, c9, rfl, ho9, hB9⟩; have hR9 := hR8.keep hB9; have e0 := hR9.cell 0; have e1 := hR9.cell 1; have e2 := hR9.cell 2; have f0 := hR9.frozen 0; have f1 := hR9.frozen 1; have f2 := hR9.frozen 2; have hg := hR9.lt)
      | fail "arm")
  all_goals
    rename_i hKK
    have s0 := HSZ.out
    have s8 := hB8.size
    have HA := Lib.hid (own_base (own_put (own_put (own_put (Gen.own_keep ho8 hB9) (p := ⟨w.heap.size + 1, 0, none⟩) (by show w.heap.size + 1 < _; omega) (.slice A8 n c8)) (p := ⟨w.heap.size + 1, 1, none⟩) (by show w.heap.size + 1 < _; omega) (.int .i64 nxt)) (p := ⟨w.heap.size + 1, 2, none⟩) (by show w.heap.size + 1 < _; omega) (.slice A9 n2 c9)) (show w.heap.size ≤ _ by omega))
    have HC := Lib.hid (own_base (own_put (own_put (own_put ho9 (p := ⟨w.heap.size + 1, 0, none⟩) (by show w.heap.size + 1 < _; omega) (.slice A8 n c8)) (p := ⟨w.heap.size + 1, 1, none⟩) (by show w.heap.size + 1 < _; omega) (.int .i64 nxt)) (p := ⟨w.heap.size + 1, 2, none⟩) (by show w.heap.size + 1 < _; omega) (.slice A9 n2 c9)) (show w.heap.size ≤ _ by omega))
    have HL := Lib.hid hKK.1
    have HNE := Lib.hid (show ∀ g, (Value.slice A8 n c8).ownBlock = some g → (Value.slice A9 n2 c9).ownBlock ≠ some g from fun g h1 h2 => by have := (ho8.lt g h1).2; have := (ho9.lt g h2).1; omega)
    clear ho8 ho9 hB8 hB9 hR8 hR9 hKK s0 s8
    go_wp2
    exact bodyPost_ret (v := .agg #[.slice A8 n c8, .int .i64 nxt, .slice A9 n2 c9]) (by simp [results, Try.results22, go_sem, *]) rfl ⟨_, _, _, _, rfl, HA.out, HC.out, HL.out, HNE.out⟩
end
end Go.Proofs.Ytefikmfogbdhpaa.Po
