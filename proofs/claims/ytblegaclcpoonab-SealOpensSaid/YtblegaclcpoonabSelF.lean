/- Rings of signatures: All; the examples; Few. -/
import Derived.Test.YtblegaclcpoonabSelE
import Derived.WalkSpells
namespace Go.Proofs.Ytblegaclcpoonab.Seal
open Go.ChangeShapes Go.WideShapes Go.ChangeAt Go.RowKit Go.Joins Go.Maps Go.WideMaps Go.Proofs.Ytblegaclcpoonab.Cell
set_option linter.unusedVariables false
set_option linter.unusedSimpArgs false

theorem ecs_len (l : List En) : (l.flatMap ecs).length = l.length * 2 := by
  induction l with
  | nil => rfl
  | cons x l ih => rw [List.flatMap_cons, List.length_append, ih, List.length_cons]; simp [ecs]; omega
theorem ecs_one (l : List En) : ∀ u ∈ l.flatMap ecs, u.oneCell' = true := fun u hu => by
  obtain ⟨x, _, hx⟩ := List.mem_flatMap.1 hu
  simp [ecs] at hx
  rcases hx with rfl | rfl <;> rfl
set_option maxRecDepth 100000 in
set_option maxHeartbeats 2000000 in
theorem clone_any {w : World} {B : Nat} (A : Option Addr) (n cap : Nat) (l : List En) (hm : l.length = n) (hr : App.Reads w B 2 A n (l.flatMap ecs)) (hB : B ≤ w.heap.size) (hbig : n ≤ 10000) :
    Calls Try.prog 35 #[.slice A n cap] w fun e w' => ∃ A2 c2, e = .returned (.slice A2 n c2) ∧ w'.ownsRow w.heap.size 24 2 (.slice A2 n c2) n (l.flatMap ecs) ∧ Below w.heap.size w w' := by
  have HM := Lib.hid hm
  clear hm
  have hq := fun (W : World) => Lib.run_eql_slice_nil (P := Try.prog) W 22 24 A n cap 0 0 Try.underlying22
  cases A with
  | none =>
    obtain rfl : n = 0 := by
      by_cases h0 : 0 < n
      · obtain ⟨_, e, _⟩ := hr.2 h0
        cases e
      · omega
    obtain rfl : l = [] := List.length_eq_zero_iff.1 HM.out
    go_enter Try.func35, Try.ntmps35
    go_wp2
    go_ret
    exact ⟨none, 0, rfl, ⟨rfl, .inl ⟨rfl, rfl⟩⟩, Below.refl _ _⟩
  | some ad =>
    obtain ⟨i0, hi0, hz0, hz1, hz2⟩ := info_parts' infoE
    have hown : (w.alloc (.cells #[] 24)).ownsRow w.heap.size 24 2 (.slice (some ⟨w.heap.size, 0, none⟩) 0 0) 0 [] :=
      ⟨rfl, .inr ⟨w.heap.size, 0, #[], rfl, Nat.le_refl _, heap_alloc_new w _, Nat.le_refl _, by simp [maxLen], rfl, rfl⟩⟩
    go_enter Try.func35, Try.ntmps35
    go_wp2_with (first
      | (at_builtin
         go_must (refine App.wpList_append_any _ rfl (.tmp 5) (.tmp 6) _ rfl w.heap.size 24 i0 _ 2 24 Try.underlying22 hi0 hz0 hz1 hz2 rfl (by omega) _ 0 [] rfl hown B _ n cap (l.flatMap ecs) rfl (hr.alloc hB _) (ecs_one l) (by simp only [maxLen]; omega) (by omega) (by simp) ?_)
         intro v2 w2 hown2 hg2 hat2
         have hB2 := Gen.g_below hown hg2 (Gen.b_alloc (Below.refl _ _)) (Nat.le_refl _)
         rw [List.nil_append, Nat.zero_add] at hown2
         obtain ⟨A2, c2, rfl, _⟩ := Gen.own_slice hown2
         clear hg2 hat2)
      | fail)
    go_ret
    exact ⟨A2, c2, rfl, hown2, hB2⟩
set_option maxRecDepth 100000 in
theorem all_any {W : World} {g gm : Nat} {eb : Option Nat} {L : List En} (h : Rg W g gm eb L) (hL : L.length ≤ 1000) :
    Calls Try.prog 12 #[.pointer (some ⟨g, 0, none⟩)] W fun e w' => ∃ A c, e = .returned (.slice A L.length c) ∧ w'.ownsRow W.heap.size 24 2 (.slice A L.length c) L.length (L.flatMap ecs) ∧ Below W.heap.size W w' := by
  obtain ⟨A, c, hr, ho, _⟩ := h.x
  have c0 := hr.cell 0
  have rr := App.Reads.of_own ho
  go_enter Try.func12, Try.ntmps12
  go_wp2_with (fail)
  go_must (refine (clone_any A L.length c L rfl rr (Nat.le_refl _) (by omega)).mono ?_)
  rintro e w1 ⟨A2, c2, rfl, ho2, hb⟩
  go_wp2
  go_ret
  exact ⟨A2, c2, rfl, ho2, hb⟩
theorem Rg.eb_lt {W : World} {g gm : Nat} {eb : Option Nat} {L : List En} (h : Rg W g gm eb L) {q : Nat} (hq : W.heap.size ≤ q) : eb ≠ some q := fun e => by
  obtain ⟨A, c, hr, ho, he⟩ := h.x
  have := (ho.lt q (he.trans e)).2
  omega
abbrev sa : ByteArray := ⟨#[97]⟩
abbrev sb : ByteArray := ⟨#[98]⟩
theorem okS (k : Int) (x : UInt8) (h0 : 0 ≤ k) (h1 : k < 1000) : okE (k, ⟨#[x]⟩) := ⟨by simp [Lit.wf, IntKind.min, IntKind.max, IntKind.signed, IntKind.bits]; omega, by simp [maxLen, ByteArray.size]⟩
set_option maxRecDepth 100000 in
set_option maxHeartbeats 8000000 in
theorem small44_any (W : World) : Calls Try.prog 8 #[] W fun e w' => e = .returned (.bool true) ∧ Below W.heap.size W w' := by
  go_enter Try.func8, Try.ntmps8
  go_wp2_with (fail)
  go_must (refine (new_any _).mono ?_)
  rintro e w1 ⟨rfl, h1, hb1⟩
  have hs1 : W.heap.size + 1 < w1.heap.size := by obtain ⟨_, _, hr1, _⟩ := h1.x; exact hr1.lt
  go_wp2_with (fail)
  go_must (refine (sign_new (W0 := W) h1 (by decide) (okS 3 97 (by omega) (by omega)) (by simp) (by simp) hb1 (Nat.le_refl _)).mono ?_)
  rintro e w2 ⟨rfl, eb2, h2, he2, hb2, hs2, hk2⟩
  have hba : Below w2.heap.size w2 (w2.alloc (.cells #[.int .i64 3, .string ⟨#[97]⟩, .int .i64 0] 31)) := Gen.b_alloc (Below.refl _ _)
  have h2a := h2.keep hba
  have ra : Row (w2.alloc (.cells #[.int .i64 3, .string ⟨#[97]⟩, .int .i64 0] 31)) w2.heap.size 31 #[.int .i64 3, .string ⟨#[97]⟩, .int .i64 0] := Row.new _ _ _
  have hB2 : Below W.heap.size W (w2.alloc (.cells #[.int .i64 3, .string ⟨#[97]⟩, .int .i64 0] 31)) := Gen.b_alloc hb2
  go_wp2_with (fail)
  go_must (refine (sign_new (W0 := W) h2a (by decide) (okS 4 97 (by omega) (by omega)) (by simp) (by simp) hB2 (Nat.le_refl _)).mono ?_)
  rintro e w3 ⟨rfl, eb3, h3, he3, hb3, hs3, hk3⟩
  have hz3 : w2.heap.size + 1 ≤ w3.heap.size := by have := hs3; rw [World.size_alloc] at this; omega
  have ra3 : Row w3 w2.heap.size 31 #[.int .i64 3, .string ⟨#[97]⟩, .int .i64 0] := (hk3 w2.heap.size (by simp) (by omega) (by omega) (h2.eb_lt (Nat.le_refl _))).trans ra
  have hbb : Below w3.heap.size w3 (w3.alloc (.cells #[.int .i64 4, .string ⟨#[97]⟩, .int .i64 1] 31)) := Gen.b_alloc (Below.refl _ _)
  have h3b := h3.keep hbb
  have ra4 := ra3.keep hbb
  have rb : Row (w3.alloc (.cells #[.int .i64 4, .string ⟨#[97]⟩, .int .i64 1] 31)) w3.heap.size 31 #[.int .i64 4, .string ⟨#[97]⟩, .int .i64 1] := Row.new _ _ _
  have hB3 : Below W.heap.size W (w3.alloc (.cells #[.int .i64 4, .string ⟨#[97]⟩, .int .i64 1] 31)) := Gen.b_alloc hb3
  clear hk3 hk2 he2 he3 h1 h2 h2a hb1 hb2 ra hba
  go_wp2_with (fail)
  go_must (refine (sign_old (i := 0) h3b (by decide) (okS 3 97 (by omega) (by omega)) (by simp)).mono ?_)
  rintro e w4 ⟨rfl, hb4⟩
  have h4 := h3b.keep hb4
  have ra5 := ra4.keep hb4
  have rb5 := rb.keep hb4
  have hB4 := Gen.over hb4 hB3
  have hbc : Below w4.heap.size w4 (w4.alloc (.cells #[.int .i64 3, .string ⟨#[97]⟩, .int .i64 0] 31)) := Gen.b_alloc (Below.refl _ _)
  have rc : Row (w4.alloc (.cells #[.int .i64 3, .string ⟨#[97]⟩, .int .i64 0] 31)) w4.heap.size 31 #[.int .i64 3, .string ⟨#[97]⟩, .int .i64 0] := Row.new _ _ _
  have h4c := h4.keep hbc
  have ra6 := ra5.keep hbc
  have rb6 := rb5.keep hbc
  have hB4c := Gen.over hbc hB4
  clear hb4 h3 h3b ra3 ra4 ra5 rb rb5 hbb h4 hB3
  go_wp2_with (fail)
  go_must (refine (sign_bad (k := 200) _ (by decide)).mono ?_)
  rintro e w5 ⟨rfl, hb5⟩
  have hbd : Below w5.heap.size w5 (w5.alloc (.cells #[.int .i64 0, .string ⟨#[]⟩, .int .i64 0] 31)) := Gen.b_alloc (Below.refl _ _)
  have h5 := (h4c.keep hb5).keep hbd
  have ra7 := (ra6.keep hb5).keep hbd
  have rb7 := (rb6.keep hb5).keep hbd
  have rc7 := (rc.keep hb5).keep hbd
  have hB5 := Gen.over hbd (Gen.over hb5 hB4c)
  clear hb5 h4c ra6 rb6 rc hbc hbd
  have p0 := ra7.cell 0
  have p1 := ra7.cell 1
  have p2 := ra7.cell 2
  have q0 := rb7.cell 0
  have q1 := rb7.cell 1
  have q2 := rb7.cell 2
  have r0 := rc7.cell 0
  have r1 := rc7.cell 1
  have r2 := rc7.cell 2
  go_wp2_with (fail)
  go_must (refine (valid_yes (i := 0) 0 h5 (okS 3 97 (by omega) (by omega)) (by simp)).mono ?_)
  rintro e w6 ⟨rfl, hb6⟩
  have h6 := h5.keep hb6
  have hB6 := Gen.over hb6 hB5
  go_wp2_with (fail)
  go_must (refine (valid_yes (i := 0) 1 h6 (okS 3 97 (by omega) (by omega)) (by simp)).mono ?_)
  rintro e w7 ⟨rfl, hb7⟩
  have h7 := h6.keep hb7
  have hB7 := Gen.over hb7 hB6
  go_wp2_with (fail)
  go_must (refine (valid_no 0 h7 (okS 3 98 (by omega) (by omega)) (by simp)).mono ?_)
  rintro e w8 ⟨rfl, hb8⟩
  have h8 := h7.keep hb8
  have hB8 := Gen.over hb8 hB7
  go_wp2_with (fail)
  go_must (refine (all_any h8 (by simp)).mono ?_)
  rintro e w9 ⟨A9, c9, rfl, _, hb9⟩
  have hB9 := Gen.over hb9 hB8
  go_wp2
  go_ret
  exact ⟨rfl, hB9⟩
end Go.Proofs.Ytblegaclcpoonab.Seal
