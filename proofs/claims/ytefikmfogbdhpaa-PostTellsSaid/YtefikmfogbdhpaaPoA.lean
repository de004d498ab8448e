/- Post: entries in memory; what is right. -/
import Derived.Test.YtefikmfogbdhpaaPoS
import Derived.BigQuiet
namespace Go.Proofs.Ytefikmfogbdhpaa.Po
open Go.ChangeShapes Go.WideShapes Go.ChangeAt Go.RowKit Go.Proofs.Ytefikmfogbdhpaa.Cell
set_option linter.unusedVariables false
set_option linter.unusedSimpArgs false

/-- an entry -/
structure En where
  id : Int
  dy : Int
  fr : Int
  tt : Int
  am : Int
instance : Inhabited En := ⟨⟨0, 0, 0, 0, 0⟩⟩
def ecs (x : En) : List Value := [.int .i64 x.id, .int .i64 x.dy, .int .i64 x.fr, .int .i64 x.tt, .int .i64 x.am]
structure EnAt (w : World) (b o : Nat) (x : En) : Prop where
  c0 : w.cell? ⟨b, o, none⟩ = some (.int .i64 x.id)
  c1 : w.cell? ⟨b, o + 1, none⟩ = some (.int .i64 x.dy)
  c2 : w.cell? ⟨b, o + 2, none⟩ = some (.int .i64 x.fr)
  c3 : w.cell? ⟨b, o + 3, none⟩ = some (.int .i64 x.tt)
  c4 : w.cell? ⟨b, o + 4, none⟩ = some (.int .i64 x.am)
def Ens (w : World) (A : Option Addr) (l : List En) : Prop := 0 < l.length → ∃ b off, A = some ⟨b, off, none⟩ ∧ ∀ (j : Nat) x, l[j]? = some x → EnAt w b (off + j * 5) x
theorem EnAt.keep {w w1 : World} {b o : Nat} {x : En} (h : EnAt w b o x) (hb : Below w.heap.size w w1) : EnAt w1 b o x :=
  ⟨keep0 hb _ _ _ h.c0, keep0 hb _ _ _ h.c1, keep0 hb _ _ _ h.c2, keep0 hb _ _ _ h.c3, keep0 hb _ _ _ h.c4⟩
theorem Ens.keep {w w1 : World} {A : Option Addr} {l : List En} (h : Ens w A l) (hb : Below w.heap.size w w1) : Ens w1 A l := fun h0 => by
  obtain ⟨b, off, e, hc⟩ := h h0
  exact ⟨b, off, e, fun j x hx => (hc j x hx).keep hb⟩
theorem EnAt.at {w : World} {b o : Nat} {x : En} (h : EnAt w b o x) {r : Nat} {v : Value} (hv : (ecs x)[r]? = some v) : w.cell? ⟨b, o + r, none⟩ = some v := by
  have hr : r < 5 := lt_of_at hv
  have hr : r = 0 ∨ r = 1 ∨ r = 2 ∨ r = 3 ∨ r = 4 := by omega
  rcases hr with rfl | rfl | rfl | rfl | rfl <;> simp [ecs] at hv <;> subst hv
  · exact h.c0
  · exact h.c1
  · exact h.c2
  · exact h.c3
  · exact h.c4
theorem ecs_len (l : List En) : (l.flatMap ecs).length = l.length * 5 := Gen.flat_length (K := 5) (fun _ => rfl) l
theorem ecs_one (l : List En) : ∀ u ∈ l.flatMap ecs, u.oneCell' = true := fun u hu => by
  obtain ⟨x, _, hx⟩ := List.mem_flatMap.1 hu
  simp [ecs] at hx
  rcases hx with rfl | rfl | rfl | rfl | rfl <;> rfl
theorem ens_reads {w : World} {A : Option Addr} {l : List En} {n : Nat} (hn : l.length = n) (h : Ens w A l) : App.Reads w w.heap.size 5 A n (l.flatMap ecs) :=
  ⟨by rw [ecs_len, hn], fun h0 => by
    obtain ⟨b, off, e, hc⟩ := h (by omega)
    obtain ⟨z, hz⟩ := at_ l 0 (by omega)
    have hb : b < w.heap.size := World.block_lt_of_cell? w ⟨b, off + 0 * 5, none⟩ (hc 0 z hz).c0
    refine ⟨⟨b, off, none⟩, e, hb, fun j u hu => ?_⟩
    have hj := lt_of_at hu
    rw [ecs_len] at hj
    obtain ⟨x, hx⟩ := at_ l (j / 5) (by omega)
    have ht := Gen.flat_at (f := ecs) (K := 5) (fun _ => rfl) l _ _ hx (j % 5) (by omega)
    rw [show j / 5 * 5 + j % 5 = j by omega, hu] at ht
    have := (hc (j / 5) x hx).at ht.symm
    rw [Addr.add_lit]
    rwa [show off + j / 5 * 5 + j % 5 = off + j by omega] at this⟩
theorem ens_own {w : World} {base n : Nat} {e : TypeId} {A : Option Addr} {c : Nat} {l : List En} (hn : l.length = n) (h : w.ownsRow base e 5 (.slice A n c) n (l.flatMap ecs)) : Ens w A l := fun h0 => by
  obtain ⟨g, cap, hv, _, hlt⟩ := h.form (by omega)
  have hA : A = some ⟨g, 0, none⟩ := by injection hv
  subst hA
  refine ⟨g, 0, rfl, fun j x hx => ?_⟩
  have key : ∀ (r : Nat) (v : Value), (ecs x)[r]? = some v → r < 5 → w.cell? ⟨g, 0 + j * 5 + r, none⟩ = some v := fun r v hr h8 => by
    have := h.cells (g := g) rfl (j * 5 + r) v (by rw [Gen.flat_at (f := ecs) (K := 5) (fun _ => rfl) l _ _ hx r h8]; exact hr)
    rw [Addr.add_lit] at this
    rwa [show 0 + (j * 5 + r) = 0 + j * 5 + r by omega] at this
  exact ⟨key 0 _ rfl (by omega), key 1 _ rfl (by omega), key 2 _ rfl (by omega), key 3 _ rfl (by omega), key 4 _ rfl (by omega)⟩
/-- a part of a list -/
theorem Ens.cut {w : World} {b off : Nat} {l : List En} (h : Ens w (some ⟨b, off, none⟩) l) {k m : Nat} (hm : m ≤ l.length) (hk : k ≤ m) : Ens w (some ⟨b, off + k * 5, none⟩) ((l.take m).drop k) := fun h0 => by
  rw [List.length_drop, List.length_take] at h0
  obtain ⟨b', off', e, hc⟩ := h (by omega)
  injection e with e
  injection e with e1 e2
  subst e1 e2
  refine ⟨b, off + k * 5, rfl, fun j x hx => ?_⟩
  rw [List.getElem?_drop, List.getElem?_take] at hx
  split at hx
  · have := hc (k + j) x hx
    rwa [show off + (k + j) * 5 = off + k * 5 + j * 5 by omega] at this
  · cases hx
def ints (l : List Int) : List Value := l.map (Value.int .i64)
theorem infoI : (Try.prog.info? 3).map (fun i => (i.zero, i.size, i.bytes)) = some (some (.int .i64 0), 1, 8) := by kernel_rfl
theorem infoE : (Try.prog.info? 36).map (fun i => (i.zero, i.size, i.bytes)) = some (some (.agg #[.int .i64 0, .int .i64 0, .int .i64 0, .int .i64 0, .int .i64 0]), 5, 40) := by kernel_rfl
theorem info_parts' {o : Option TypeInfo} {z : Value} {a b : Nat} (h : o.map (fun i => (i.zero, i.size, i.bytes)) = some (some z, a, b)) : ∃ i, o = some i ∧ i.zero = some z ∧ i.size = a ∧ i.bytes = b := by
  cases o with
  | none => cases h
  | some i =>
    simp only [Option.map_some, Option.some.injEq, Prod.mk.injEq] at h
    exact ⟨i, rfl, h.1, h.2.1, h.2.2⟩
theorem ints_own {W : World} {B n : Nat} {v : Value} {l : List Int} (h : W.ownsRow B 3 1 v n (ints l)) (hn : l.length = n) : ∃ A c, v = .slice A n c ∧ Ints W A l := by
  obtain ⟨A, c, rfl, hr⟩ := Gen.own_slice h
  refine ⟨A, c, rfl, fun h0 => ?_⟩
  obtain ⟨g, cap, hv, hb, hlt⟩ := h.form (by omega)
  injection hv with e
  subst e
  refine ⟨g, 0, rfl, fun j z hz => ?_⟩
  have hj := lt_of_at hz
  have c0 := h.cellAt j (by rw [Nat.mul_one]; omega)
  rw [Nat.zero_add]
  rw [show (ints l)[j]? = some (.int .i64 z) by simp [ints, hz]] at c0
  exact c0
theorem ints_reads {w : World} {A : Option Addr} {us : List Int} {n : Nat} (hn : us.length = n) (h : Ints w A us) : App.Reads w w.heap.size 1 A n (ints us) :=
  ⟨by simp [ints, hn], fun h0 => by
    obtain ⟨b, off, e, hc⟩ := h (by omega)
    obtain ⟨z, hz⟩ := at_ us 0 (by omega)
    have hb : b < w.heap.size := World.block_lt_of_cell? w ⟨b, off + 0, none⟩ (hc 0 z hz)
    exact ⟨⟨b, off, none⟩, e, hb, fun j u hu => by
      rw [ints, List.getElem?_map] at hu
      cases hx : us[j]? with
      | none => rw [hx] at hu; simp at hu
      | some x =>
        rw [hx] at hu
        simp at hu
        subst hu
        rw [Addr.add_lit]
        exact hc j x hx⟩⟩
theorem ints_one (us : List Int) : ∀ u ∈ ints us, u.oneCell' = true := by
  intro u hu
  simp [ints] at hu
  obtain ⟨x, _, rfl⟩ := hu
  rfl
theorem drop_at {l : List Int} {k : Nat} {x : Int} (h : l[k]? = some x) : l.drop k = x :: l.drop (k + 1) := by
  have hk := lt_of_at h
  rw [List.drop_eq_getElem_cons hk]
  congr 1
  rw [List.getElem?_eq_getElem hk] at h
  injection h
section
variable {A A2 : Option Addr} {n c n2 c2 : Nat} {nxt : Int} {early : List Int}
set_option maxRecDepth 100000 in
set_option maxHeartbeats 4000000 in
theorem right_any (w : World) (hbig : n ≤ 9223372036854775807) (hbig2 : n2 ≤ 9223372036854775807) (hm : early.length = n2) (hc : Ints w A2 early) :
    Calls Try.prog 9 #[.agg #[.slice A n c, .int .i64 nxt, .slice A2 n2 c2]] w fun e w' => e = .returned (.bool (rgW n nxt early)) ∧ Below w.heap.size w w' := by
  have HB := Lib.hid (show Below w.heap.size w (w.alloc (.cells #[.slice A n c, .int .i64 nxt, .slice A2 n2 c2] 27)) from Gen.b_alloc (Below.refl _ _))
  have HC := Lib.hid (hc.keep HB.out)
  have HM := Lib.hid hm
  clear hm hc
  by_cases h1 : n ≤ 10000
  case neg =>
    have HE := Lib.hid (show rgW n nxt early = false by unfold rgW; rw [decide_eq_false h1]; rfl)
    have h1' : (10000 : Int) < (n : Int) := by omega
    clear h1
    go_enter Try.func9, Try.ntmps9
    go_wp2
    go_ret
    exact ⟨ret_bool HE.out.symm, HB.out⟩
  have h1' : (n : Int) ≤ 10000 := by omega
  by_cases h2 : 0 ≤ nxt
  case neg =>
    have HE := Lib.hid (show rgW n nxt early = false by unfold rgW; rw [decide_eq_false (show ¬ (0 ≤ nxt ∧ nxt ≤ n) by omega)]; simp)
    have h2' : nxt < 0 := by omega
    clear h2
    go_enter Try.func9, Try.ntmps9
    go_wp2
    go_ret
    exact ⟨ret_bool HE.out.symm, HB.out⟩
  by_cases h3 : nxt ≤ n
  case neg =>
    have HE := Lib.hid (show rgW n nxt early = false by unfold rgW; rw [decide_eq_false (show ¬ (0 ≤ nxt ∧ nxt ≤ n) by omega)]; simp)
    have h3' : (n : Int) < nxt := by omega
    clear h3
    go_enter Try.func9, Try.ntmps9
    go_wp2
    go_ret
    exact ⟨ret_bool HE.out.symm, HB.out⟩
  have HE := Lib.hid (show rgW n nxt early = rgE n nxt early by unfold rgW; rw [decide_eq_true h1, decide_eq_true ⟨h2, h3⟩]; rfl)
  clear h1
  go_enter Try.func9, Try.ntmps9
  go_wp2
  go_loop [3, 28] (fun bv iv => ∃ (k : Nat) (b : Int), k ≤ n2 ∧ iv = .int .i64 k ∧ bv = .int .i64 b ∧ Hid (rgE n nxt early = rgE n b (early.drop k))) (fun _ iv => n2 - (intOf iv).toNat)
  case atStart => exact ⟨0, nxt, Nat.zero_le _, rfl, rfl, Lib.hid rfl⟩
  case round =>
    obtain ⟨k, b, hk, rfl, rfl, HR⟩ := hrel
    have k0 : (0 : Int) ≤ (k : Int) := by omega
    by_cases hlt : k < n2
    · have hltI : (k : Int) < (n2 : Int) := by omega
      obtain ⟨x, hx⟩ := at_ early k (by rw [HM.out]; exact hlt)
      obtain ⟨b', off, rfl, hcell⟩ := HC.out (by rw [HM.out]; omega)
      have d0 := hcell k x hx
      have HS := Lib.hid (HR.out.trans (by rw [drop_at hx]; rfl : _ = (decide (b < x) && (decide (x < n) && rgE n x (early.drop (k + 1))))))
      clear hcell hx
      by_cases h4 : b < x
      case neg =>
        have h4' : x ≤ b := by omega
        have HF := Lib.hid (show rgE n nxt early = false by rw [HS.out, decide_eq_false h4]; rfl)
        clear h4
        go_wp2
        go_ret
        exact ⟨ret_bool (by rw [HE.out, HF.out]), HB.out⟩
      have h4' : ¬ x ≤ b := by omega
      by_cases h5 : x < n
      case neg =>
        have h5' : (n : Int) ≤ x := by omega
        have HF := Lib.hid (show rgE n nxt early = false by rw [HS.out, decide_eq_false h5]; simp)
        clear h5
        go_wp2
        go_ret
        exact ⟨ret_bool (by rw [HE.out, HF.out]), HB.out⟩
      have HT := Lib.hid (show rgE n nxt early = rgE n x (early.drop (k + 1)) by rw [HS.out, decide_eq_true h4, decide_eq_true h5]; rfl)
      have h5' : ¬ (n : Int) ≤ x := by omega
      go_wp2
      go_round
      case rel => exact ⟨k + 1, x, by omega, by go_num, rfl, HT⟩
      case measure => simp [intOf]; omega
    · obtain rfl : k = n2 := by omega
      have HF := Lib.hid (show rgE n nxt early = true by rw [HR.out, List.drop_eq_nil_of_le (by rw [HM.out]; exact Nat.le_refl _)]; rfl)
      go_wp2
      go_ret
      exact ⟨ret_bool (by rw [HE.out, HF.out]), HB.out⟩
end
end Go.Proofs.Ytefikmfogbdhpaa.Po
