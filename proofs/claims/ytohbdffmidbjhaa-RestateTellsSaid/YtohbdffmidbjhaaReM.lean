/- Maps of ints to ints, and of ints to bools, in memory: what they say of each key. -/
import Derived.Test.YtohbdffmidbjhaaReK
import Derived.Maps.OwnSet
import Derived.Maps.OwnOps
import Derived.Maps.Views
import Derived.MapViews
import Derived.Maps.Range
namespace Go.Proofs.Ytohbdffmidbjhaa.Re
open Go.ChangeShapes Go.WideShapes Go.ChangeAt Go.RowKit Go.Maps Go.Proofs.Ytohbdffmidbjhaa.Cell
set_option linter.unusedVariables false
set_option linter.unusedSimpArgs false
theorem keyedI : Keyed Try.prog 3 := int_keyed Try.underlying3
def wfI (x : Int) : Prop := (Lit.int .i64 x).wf = true
theorem wf_of {x : Int} (h1 : -9223372036854775808 ≤ x) (h2 : x ≤ 9223372036854775807) : wfI x := by
  simp [wfI, Lit.wf, IntKind.min, IntKind.max, IntKind.signed, IntKind.bits]
  omega
theorem keyI {x : Int} (h : wfI x) : keyOf Try.prog 3 (.int .i64 x) = some (.int .i64 x) := keyOf_int_mk Try.underlying3 h
/-- a map of ints to ints in memory: what it says of each key -/
def MI (w : World) (b n : Nat) (f : Int → Option Int) : Prop := ∃ D, w.ownsMap (H := Unit) Try.prog 3 (plainElem Try.prog 3) b n D ∧ ∀ x, wfI x → has D (.int .i64 x) = (f x).isSome ∧ ∀ v, f x = some v → wfI v ∧ ∀ z, D.atKey (.int .i64 x) z = .lit (.int .i64 v)
theorem map_keep {w w' : World} {b n : Nat} {k : TypeId} {R : Value → Option (DataW Unit × List MemPlace)} {D : DataW Unit} (h : w.ownsMap Try.prog k R b n D) (hb : w'.heap[b]? = w.heap[b]?) : w'.ownsMap Try.prog k R b n D := by
  obtain ⟨es, clock, h1, h2, h3, h4⟩ := h
  exact ⟨es, clock, hb.trans h1, h2, h3, h4⟩
theorem MI.lt {w : World} {b n : Nat} {f : Int → Option Int} (h : MI w b n f) : b < w.heap.size := by
  obtain ⟨D, h1, _⟩ := h
  exact h1.lt
theorem MI.at {w w' : World} {b n : Nat} {f : Int → Option Int} (h : MI w b n f) (hb : w'.heap[b]? = w.heap[b]?) : MI w' b n f := by
  obtain ⟨D, h1, h2⟩ := h
  exact ⟨D, map_keep h1 hb, h2⟩
theorem MI.keep {w w' : World} {b n : Nat} {f : Int → Option Int} (h : MI w b n f) (hb : Below w.heap.size w w') : MI w' b n f := h.at (hb.block b h.lt)
theorem zeroI (W : World) : (zeroValue 3).run Try.prog W = .ok (.int .i64 0) W := by simp [go_sem]
/-- a map that was just made -/
theorem MI.made (w : World) : MI (w.alloc (.map #[] 0)) w.heap.size 0 (fun _ => none) :=
  ⟨.map [], World.ownsMap_made w Try.prog 3 (plainElem Try.prog 3), fun x hx => ⟨rfl, fun v hv => by cases hv⟩⟩
/-- what is read of a key -/
theorem MI.look {w : World} {b n : Nat} {f : Int → Option Int} (h : MI w b n f) {x : Int} (hx : wfI x) :
    (Instr.lookup 53 (.map (some b)) (.int .i64 x) false).run Try.prog w = .ok (.int .i64 ((f x).getD 0)) w := by
  obtain ⟨D, h1, h2⟩ := h
  obtain ⟨c, hr, hc, _⟩ := h1.lookup_int keyedI Try.underlying53 Try.underlying3 (zeroI w) (keyI hx)
  rw [hr]
  obtain ⟨a1, a2⟩ := h2 x hx
  cases hf : f x with
  | none =>
    rw [hf] at a1
    rw [atKey_of_not_has (by rw [a1]; rfl)] at hc
    have : c = 0 := by injection hc with hc; injection hc with _ hc; exact hc.symm
    rw [this]
    rfl
  | some v =>
    obtain ⟨_, a3⟩ := a2 v hf
    rw [a3] at hc
    have : c = v := by injection hc with hc; injection hc with _ hc; exact hc.symm
    rw [this]
    rfl
/-- a key is written -/
theorem MI.put {w : World} {b n : Nat} {f : Int → Option Int} (h : MI w b n f) (hn : n < maxLen) {x v : Int} (hx : wfI x) (hv : wfI v) :
    ∃ w', (Instr.mapUpdate 53 (.map (some b)) (.int .i64 x) (.int .i64 v)).run Try.prog w = .ok () w' ∧ MI w' b (n + 1) (fun y => if y = x then some v else f y) ∧ w.grownBy w' (some b) := by
  obtain ⟨D, h1, h2⟩ := h
  obtain ⟨w', hr, hm, hg⟩ := h1.update keyedI Try.underlying53 hn (keyI hx) (plainElem_int (a := v) Try.underlying3 hv)
  refine ⟨w', hr, ⟨_, hm, fun y hy => ?_⟩, hg⟩
  dsimp only
  by_cases e : y = x
  · subst e
    rw [if_pos rfl, has_put_same h1.isMap (keyedI.key (keyI hx))]
    refine ⟨rfl, fun u hu => ?_⟩
    injection hu with hu
    subst hu
    exact ⟨hv, fun z => atKey_put_same h1.isMap (keyedI.key (keyI hx)) _ _⟩
  · have hne : (Lit.int .i64 y) ≠ Lit.int .i64 x := fun c => e (by injection c)
    rw [if_neg e, has_put_other hne]
    obtain ⟨a1, a2⟩ := h2 y hy
    refine ⟨a1, fun u hu => ?_⟩
    obtain ⟨a3, a4⟩ := a2 u hu
    exact ⟨a3, fun z => by rw [atKey_put_other hne]; exact a4 z⟩
/-- the keys of a map, sorted -/
theorem MI.keys {w : World} {b n : Nat} {f : Int → Option Int} (h : MI w b n f) (hn : n ≤ 1000000) :
    Calls Try.prog 30 #[.func (.func 35) #[] #[.pointer (some ⟨w.heap.size, 0, none⟩)]] (w.alloc (.cells #[.map (some b)] 53)) fun e w' => ∃ (A : Option Addr) (c : Nat) (ks : List Int), e = .returned (.slice A ks.length c) ∧
      ks.Pairwise (· < ·) ∧ (∀ x, x ∈ ks ↔ wfI x ∧ (f x).isSome = true) ∧ ks.length ≤ n ∧
      w'.ownsRow (w.heap.size + 1) 3 1 (.slice A ks.length c) ks.length (ks.map (Value.int .i64)) ∧ Below (w.heap.size + 1) (w.alloc (.cells #[.map (some b)] 53)) w' := by
  obtain ⟨D, h1, h2⟩ := h
  have hsz : Maps.size D ≤ n := h1.size_le
  refine (Try.sorted_c b n D _ w h1 (by simp only [maxLen]; omega) (by omega)).mono ?_
  rintro e w' ⟨v, ss, rfl, hp, hrow, hnil, hb⟩
  obtain ⟨es, hD, hpw, _⟩ := h1.entries keyedI
  obtain ⟨es', hD', hko⟩ := h1.keysOf
  obtain rfl : es = es' := by rw [hD] at hD'; simpa using hD'
  have hmem : ∀ x, x ∈ intKeys D ↔ wfI x ∧ (f x).isSome = true := fun x => by
    constructor
    · intro hx
      have hw := intKeys_wf h1 Try.underlying3 x hx
      refine ⟨hw, ?_⟩
      rw [← (h2 x hw).1, hD, has_eq, List.any_eq_true]
      rw [hD] at hx
      obtain ⟨p, hp', rfl⟩ := List.mem_map.1 hx
      obtain ⟨u, hu⟩ := hko p hp'
      obtain ⟨y, _, hy, _⟩ := Maps.keyOf_i64 Try.underlying3 hu
      exact ⟨p, hp', by rw [hy]; simp [Lit.sameKey, Go.intOf]⟩
    · rintro ⟨hw, hs⟩
      rw [← (h2 x hw).1, hD, has_eq, List.any_eq_true] at hs
      obtain ⟨p, hp', hs⟩ := hs
      obtain ⟨u, hu⟩ := hko p hp'
      obtain ⟨y, _, hy, _⟩ := Maps.keyOf_i64 Try.underlying3 hu
      rw [hD]
      refine List.mem_map.2 ⟨p, hp', ?_⟩
      rw [hy] at hs ⊢
      simpa [Lit.sameKey, Go.intOf] using hs
  have hnd : (intKeys D).Nodup := by
    rw [hD]
    refine List.pairwise_map.2 (hpw.imp_of_mem fun {p q} hp' hq' hne e => hne ?_)
    obtain ⟨u, hu⟩ := hko p hp'
    obtain ⟨u2, hu2⟩ := hko q hq'
    obtain ⟨y, _, hy, _⟩ := Maps.keyOf_i64 Try.underlying3 hu
    obtain ⟨y2, _, hy2, _⟩ := Maps.keyOf_i64 Try.underlying3 hu2
    rw [hy, hy2] at e ⊢
    exact congrArg _ e
  have hpm : (ss.mergeSort (fun x y => decide (x ≤ y))).Perm (intKeys D) := (List.mergeSort_perm ss _).trans hp
  have hlen : (ss.mergeSort (fun x y => decide (x ≤ y))).length = ss.length := (List.mergeSort_perm ss _).length_eq
  have hlk : (intKeys D).length = Maps.size D := by rw [hD]; simp [intKeys, Maps.size]
  have hsl : ss.length ≤ n := by rw [hp.length_eq, hlk]; exact hsz
  obtain ⟨A, c, hv, _⟩ := Gen.own_slice hrow
  subst hv
  refine ⟨A, c, ss.mergeSort (fun x y => decide (x ≤ y)), by rw [hlen], ?_, fun x => ?_, by rw [hlen]; exact hsl, by rw [hlen]; exact hrow, hb⟩
  · have tr : ∀ a b c : Int, (decide (a ≤ b)) = true → (decide (b ≤ c)) = true → (decide (a ≤ c)) = true := fun a b c h1 h2 => by simp only [decide_eq_true_eq] at *; omega
    have to : ∀ a b : Int, (decide (a ≤ b) || decide (b ≤ a)) = true := fun a b => by simp only [Bool.or_eq_true, decide_eq_true_eq]; omega
    have h3 := List.pairwise_mergeSort tr to ss
    have h4 : (ss.mergeSort (fun x y => decide (x ≤ y))).Nodup := (hpm.nodup_iff).2 hnd
    refine (List.Pairwise.and h3 h4).imp ?_
    intro a b hab
    have := hab.1
    simp only [decide_eq_true_eq] at this
    have := hab.2
    omega
  · rw [hpm.mem_iff]
    exact hmem x
end Go.Proofs.Ytohbdffmidbjhaa.Re
