/- Restatements: maps of ints to bools in memory; the closures of Changed; slices.IndexFunc and ContainsFunc at them. -/
import Derived.Test.YtohbdffmidbjhaaReM
import Derived.Test.YtohbdffmidbjhaaReA
namespace Go.Proofs.Ytohbdffmidbjhaa.Re
open Go.ChangeShapes Go.WideShapes Go.ChangeAt Go.RowKit Go.Maps Go.Proofs.Ytohbdffmidbjhaa.Cell
set_option linter.unusedVariables false
set_option linter.unusedSimpArgs false
section
variable {α : Type}
/-- the first one that fits -/
def idx (p : α → Bool) (l : List α) : Int := match l.findIdx? p with
  | some i => i
  | none => -1
theorem idx_yes {p : α → Bool} {l : List α} {k : Nat} {x : α} (h : ∀ y ∈ l.take k, p y = false) (hx : l[k]? = some x) (hp : p x = true) : idx p l = k := by
  unfold idx
  have hk := (List.getElem?_eq_some_iff.1 hx).1
  have : l.findIdx? p = some k := by
    rw [List.findIdx?_eq_some_iff_getElem]
    refine ⟨hk, by rw [(List.getElem?_eq_some_iff.1 hx).2]; exact hp, fun j hj => ?_⟩
    have := h l[j] (List.mem_of_getElem? (i := j) (by rw [List.getElem?_take_of_lt hj]; exact List.getElem?_eq_getElem (by omega)))
    simp [this]
  rw [this]
theorem idx_no {p : α → Bool} {l : List α} (h : ∀ y ∈ l, p y = false) : idx p l = -1 := by
  unfold idx
  rw [List.findIdx?_eq_none_iff.2 h]
theorem idx_any_ (p : α → Bool) (l : List α) : decide (0 ≤ idx p l) = l.any p := by
  unfold idx
  cases h : l.findIdx? p with
  | none =>
    rw [List.findIdx?_eq_none_iff] at h
    have : l.any p = false := by rw [List.any_eq_false]; exact fun x hx => by simp [h x hx]
    rw [this]; rfl
  | some i =>
    rw [List.findIdx?_eq_some_iff_getElem] at h
    obtain ⟨hi, hp, _⟩ := h
    have : l.any p = true := by rw [List.any_eq_true]; exact ⟨_, List.getElem_mem hi, hp⟩
    rw [this]
    exact decide_eq_true (by simp)
theorem idx_in (p : α → Bool) (l : List α) : -1 ≤ idx p l ∧ idx p l < l.length := by
  unfold idx
  cases h : l.findIdx? p with
  | none => exact ⟨by simp, (by dsimp only; omega)⟩
  | some i =>
    rw [List.findIdx?_eq_some_iff_getElem] at h
    obtain ⟨hi, hp, _⟩ := h
    exact ⟨by first | omega | simp, by first | omega | (simp; omega)⟩
theorem take_snoc' {l : List α} {k : Nat} {x : α} (h : l[k]? = some x) : l.take (k + 1) = l.take k ++ [x] := by
  rw [List.take_add_one, h]; rfl
end
/-- a map of ints to bools in memory that holds true at some keys, and nothing else -/
def MB (w : World) (b n : Nat) (p : Int → Bool) : Prop := ∃ D, w.ownsMap (H := Unit) Try.prog 3 (plainElem Try.prog 4) b n D ∧ ∀ x, wfI x → has D (.int .i64 x) = p x ∧ (p x = true → ∀ z, D.atKey (.int .i64 x) z = .lit (.bool true))
theorem MB.lt {w : World} {b n : Nat} {p : Int → Bool} (h : MB w b n p) : b < w.heap.size := by
  obtain ⟨D, h1, _⟩ := h
  exact h1.lt
theorem MB.at {w w' : World} {b n : Nat} {p : Int → Bool} (h : MB w b n p) (hb : w'.heap[b]? = w.heap[b]?) : MB w' b n p := by
  obtain ⟨D, h1, h2⟩ := h
  exact ⟨D, map_keep h1 hb, h2⟩
theorem MB.keep {w w' : World} {b n : Nat} {p : Int → Bool} (h : MB w b n p) (hb : Below w.heap.size w w') : MB w' b n p := h.at (hb.block b h.lt)
theorem zeroB (W : World) : (zeroValue 4).run Try.prog W = .ok (.bool false) W := by simp [go_sem]
theorem MB.made (w : World) : MB (w.alloc (.map #[] 0)) w.heap.size 0 (fun _ => false) :=
  ⟨.map [], World.ownsMap_made w Try.prog 3 (plainElem Try.prog 4), fun x hx => ⟨rfl, fun hv => by cases hv⟩⟩
theorem plainB_inv {v : Value} {z : DataW Unit × List MemPlace} (h : plainElem Try.prog 4 v = some z) : ∃ x, v = .bool x ∧ z.1 = .lit (.bool x) := by
  unfold plainElem at h
  rw [Try.underlying4] at h
  cases v <;> simp at h
  subst h
  exact ⟨_, rfl, rfl⟩
theorem MB.look {w : World} {b n : Nat} {p : Int → Bool} (h : MB w b n p) {x : Int} (hx : wfI x) :
    (Instr.lookup 58 (.map (some b)) (.int .i64 x) false).run Try.prog w = .ok (.bool (p x)) w := by
  obtain ⟨D, h1, h2⟩ := h
  obtain ⟨v, ps, hr, hc⟩ := h1.lookup keyedI Try.underlying58 (zeroB w) (plainElem_bool Try.underlying4 false) (keyI hx)
  rw [hr]
  obtain ⟨y, rfl, hy⟩ := plainB_inv hc
  obtain ⟨a1, a2⟩ := h2 x hx
  dsimp only at hy
  cases hf : p x with
  | false =>
    rw [hf] at a1
    rw [atKey_of_not_has a1] at hy
    have : false = y := by injection hy with hy; injection hy
    rw [← this]
  | true =>
    rw [a2 hf] at hy
    have : true = y := by injection hy with hy; injection hy
    rw [← this]
theorem MB.put {w : World} {b n : Nat} {p : Int → Bool} (h : MB w b n p) (hn : n < maxLen) {x : Int} (hx : wfI x) :
    ∃ w', (Instr.mapUpdate 58 (.map (some b)) (.int .i64 x) (.bool true)).run Try.prog w = .ok () w' ∧ MB w' b (n + 1) (fun y => decide (y = x) || p y) ∧ w.grownBy w' (some b) := by
  obtain ⟨D, h1, h2⟩ := h
  obtain ⟨w', hr, hm, hg⟩ := h1.update keyedI Try.underlying58 hn (keyI hx) (plainElem_bool Try.underlying4 true)
  refine ⟨w', hr, ⟨_, hm, fun y hy => ?_⟩, hg⟩
  dsimp only
  by_cases e : y = x
  · subst e
    rw [decide_eq_true rfl, has_put_same h1.isMap (keyedI.key (keyI hx))]
    exact ⟨rfl, fun _ z => atKey_put_same h1.isMap (keyedI.key (keyI hx)) _ _⟩
  · have hne : (Lit.int .i64 y) ≠ Lit.int .i64 x := fun c => e (by injection c)
    rw [decide_eq_false e, has_put_other hne, Bool.false_or]
    obtain ⟨a1, a2⟩ := h2 y hy
    exact ⟨a1, fun hp z => by rw [atKey_put_other hne]; exact a2 hp z⟩
theorem cl_f {w : World} {g b n : Nat} {p : Int → Bool} (hg : w.cell? ⟨g, 0, none⟩ = some (.map (some b))) (hm : MB w b n p) (x : Int) (hx : wfI x) :
    Calls Try.prog 28 #[.int .i64 x, .pointer (some ⟨g, 0, none⟩)] w fun e w' => e = .returned (.bool (p x)) ∧ Below w.heap.size w w' := by
  have hl := hm.look hx
  obtain ⟨z, hz⟩ : ∃ z, p x = z := ⟨_, rfl⟩
  rw [hz] at hl ⊢
  clear hm hz
  go_enter Try.func28, Try.ntmps28
  go_wp2
  go_ret
  exact ⟨by first | rfl | trivial, by first | exact Below.refl _ _ | go_grown⟩
/-- bools in memory -/
def Bl (w : World) (u : Nat) (bs : List Bool) : Prop := ∀ j z, bs[j]? = some z → w.cell? ⟨u, j, none⟩ = some (.bool z)
theorem Bl.keep {w w' : World} {u : Nat} {bs : List Bool} (h : Bl w u bs) (hb : Below w.heap.size w w') : Bl w' u bs := fun j z hz => keep0 hb _ _ _ (h j z hz)
def bAt (bs : List Bool) (x : Int) : Bool := bs[x.toNat]?.getD false
theorem cl_u {w : World} {g u m : Nat} {bs : List Bool} (hg : w.cell? ⟨g, 0, none⟩ = some (.slice (some ⟨u, 0, none⟩) m m)) (hu : Bl w u bs) (hm : bs.length = m) (x : Int) (h0 : 0 ≤ x) (h1 : x < (m : Int)) :
    Calls Try.prog 29 #[.int .i64 x, .pointer (some ⟨g, 0, none⟩)] w fun e w' => e = .returned (.bool (bAt bs x)) ∧ Below w.heap.size w w' := by
  obtain ⟨k, rfl⟩ : ∃ k : Nat, x = (k : Int) := ⟨x.toNat, by omega⟩
  obtain ⟨z, hz⟩ := at_ bs k (by omega)
  have hc := hu k z hz
  have e : bAt bs (k : Int) = z := by unfold bAt; rw [show ((k : Int)).toNat = k by omega, hz]; rfl
  rw [e]
  have hk : k < m := by omega
  clear hu hz e hm
  go_enter Try.func29, Try.ntmps29
  go_wp2
  go_ret
  exact ⟨by first | rfl | trivial, by first | exact Below.refl _ _ | go_grown⟩
set_option maxRecDepth 100000 in
set_option maxHeartbeats 4000000 in
theorem idx_f {w : World} {A : Option Addr} {n cap : Nat} {l : List Int} (hn : l.length = n) (hc : Ints w A l) (hbig : n ≤ 1000000) {g b c0 : Nat} {p : Int → Bool} (hg : w.cell? ⟨g, 0, none⟩ = some (.map (some b))) (hm : MB w b c0 p) (hin : ∀ x ∈ l, wfI x) :
    Calls Try.prog 32 #[.slice A n cap, .func (Fn.func 28) #[] #[.pointer (some ⟨g, 0, none⟩)]] w fun e w' => e = .returned (.int .i64 (idx (p) l)) ∧ Below w.heap.size w w' := by
  have HN := Lib.hid hn
  have HC := Lib.hid hc
  have HG := Lib.hid hg
  have HM := Lib.hid hm
  have HI := Lib.hid hin
  clear hn hc hg hm hin
  go_enter Try.func32, Try.ntmps32
  go_wp2
  go_loopw [8] (fun iv wr => ∃ k : Nat, k ≤ n ∧ iv = .int .i64 k ∧ Hid (∀ y ∈ l.take k, (p) y = false) ∧ Below w.heap.size w wr) (fun iv _ => n - (intOf iv).toNat)
  case atStart => exact ⟨0, Nat.zero_le _, rfl, Lib.hid (by simp), Below.refl _ _⟩
  case round =>
    obtain ⟨k, hk, rfl, HA, hB⟩ := hrel
    by_cases hlt : k < n
    · obtain ⟨b0, off, rfl, hcell⟩ := (HC.out.keep hB) (by rw [HN.out]; omega)
      obtain ⟨x, hx⟩ := at_ l k (by rw [HN.out]; exact hlt)
      have m0 := hcell k x hx
      have HX := Lib.hid hx
      have hxl : x ∈ l := List.mem_of_getElem? hx
      have HL := Lib.hid (cl_f (keep0 hB _ _ _ HG.out) (HM.out.keep hB) x (HI.out x hxl))
      clear hcell hx hxl
      go_wp2_with (fail)
      go_must (refine (HL.out).mono ?_)
      rintro e w1 ⟨rfl, hb⟩
      have hB1 := Gen.over hb hB
      clear hb hB HL
      cases hp : (p) x
      · have HF : Hid (∀ y ∈ l.take (k + 1), (p) y = false) := Lib.hid (fun y hy => by
          rw [take_snoc' HX.out, List.mem_append] at hy
          rcases hy with hy | hy
          · exact HA.out y hy
          · rw [List.mem_singleton.1 hy]; exact hp)
        clear hp
        go_wp2
        go_roundw
        case rel => first | exact ⟨k + 1, by omega, by go_num, HF, hB1⟩ | exact ⟨k + 1, by omega, by go_num, HF⟩
        case measure => simp [intOf]; omega
      · have HF := Lib.hid (idx_yes HA.out HX.out hp)
        clear hp
        go_wp2
        go_ret
        exact ⟨ret_int HF.out.symm, hB1⟩
    · obtain rfl : k = n := by omega
      have HF := Lib.hid (idx_no (p := p) (l := l) (fun y hy => HA.out y (by rw [List.take_of_length_le (by rw [HN.out]; exact Nat.le_refl _)]; exact hy)))
      go_wp2
      go_ret
      exact ⟨ret_int HF.out.symm, hB⟩
set_option maxHeartbeats 1000000 in
theorem cont_f {w : World} {A : Option Addr} {n cap : Nat} {l : List Int} (hn : l.length = n) (hc : Ints w A l) (hbig : n ≤ 1000000) {g b c0 : Nat} {p : Int → Bool} (hg : w.cell? ⟨g, 0, none⟩ = some (.map (some b))) (hm : MB w b c0 p) (hin : ∀ x ∈ l, wfI x) :
    Calls Try.prog 27 #[.slice A n cap, .func (Fn.func 28) #[] #[.pointer (some ⟨g, 0, none⟩)]] w fun e w' => e = .returned (.bool (l.any (p))) ∧ Below w.heap.size w w' := by
  have HI := Lib.hid (idx_any_ (p) l)
  obtain ⟨h1, h2⟩ := idx_in (p) l
  have HC := Lib.hid (idx_f (cap := cap) hn hc hbig hg hm hin)
  obtain ⟨i, hi⟩ : ∃ i, idx (p) l = i := ⟨_, rfl⟩
  rw [hi] at HI HC h1 h2
  rw [hn] at h2
  clear hi hn hc hg hm hin
  go_enter Try.func27, Try.ntmps27
  go_wp2_with (fail)
  go_must (refine (HC.out).mono ?_)
  rintro e w1 ⟨rfl, hb⟩
  go_wp2
  go_ret
  exact ⟨ret_bool HI.out, hb⟩
set_option maxRecDepth 100000 in
set_option maxHeartbeats 4000000 in
theorem idx_u {w : World} {A : Option Addr} {n cap : Nat} {l : List Int} (hn : l.length = n) (hc : Ints w A l) (hbig : n ≤ 1000000) {g u m : Nat} {bs : List Bool} (hg : w.cell? ⟨g, 0, none⟩ = some (.slice (some ⟨u, 0, none⟩) m m)) (hu : Bl w u bs) (hm : bs.length = m) (hin : ∀ x ∈ l, 0 ≤ x ∧ x < (m : Int)) :
    Calls Try.prog 32 #[.slice A n cap, .func (Fn.func 29) #[] #[.pointer (some ⟨g, 0, none⟩)]] w fun e w' => e = .returned (.int .i64 (idx (bAt bs) l)) ∧ Below w.heap.size w w' := by
  have HN := Lib.hid hn
  have HC := Lib.hid hc
  have HG := Lib.hid hg
  have HU := Lib.hid hu
  have HM := Lib.hid hm
  have HI := Lib.hid hin
  clear hn hc hg hu hm hin
  go_enter Try.func32, Try.ntmps32
  go_wp2
  go_loopw [8] (fun iv wr => ∃ k : Nat, k ≤ n ∧ iv = .int .i64 k ∧ Hid (∀ y ∈ l.take k, (bAt bs) y = false) ∧ Below w.heap.size w wr) (fun iv _ => n - (intOf iv).toNat)
  case atStart => exact ⟨0, Nat.zero_le _, rfl, Lib.hid (by simp), Below.refl _ _⟩
  case round =>
    obtain ⟨k, hk, rfl, HA, hB⟩ := hrel
    by_cases hlt : k < n
    · obtain ⟨b0, off, rfl, hcell⟩ := (HC.out.keep hB) (by rw [HN.out]; omega)
      obtain ⟨x, hx⟩ := at_ l k (by rw [HN.out]; exact hlt)
      have m0 := hcell k x hx
      have HX := Lib.hid hx
      have hxl : x ∈ l := List.mem_of_getElem? hx
      have HL := Lib.hid (cl_u (keep0 hB _ _ _ HG.out) (HU.out.keep hB) HM.out x (HI.out x hxl).1 (HI.out x hxl).2)
      clear hcell hx hxl
      go_wp2_with (fail)
      go_must (refine (HL.out).mono ?_)
      rintro e w1 ⟨rfl, hb⟩
      have hB1 := Gen.over hb hB
      clear hb hB HL
      cases hp : (bAt bs) x
      · have HF : Hid (∀ y ∈ l.take (k + 1), (bAt bs) y = false) := Lib.hid (fun y hy => by
          rw [take_snoc' HX.out, List.mem_append] at hy
          rcases hy with hy | hy
          · exact HA.out y hy
          · rw [List.mem_singleton.1 hy]; exact hp)
        clear hp
        go_wp2
        go_roundw
        case rel => first | exact ⟨k + 1, by omega, by go_num, HF, hB1⟩ | exact ⟨k + 1, by omega, by go_num, HF⟩
        case measure => simp [intOf]; omega
      · have HF := Lib.hid (idx_yes HA.out HX.out hp)
        clear hp
        go_wp2
        go_ret
        exact ⟨ret_int HF.out.symm, hB1⟩
    · obtain rfl : k = n := by omega
      have HF := Lib.hid (idx_no (p := bAt bs) (l := l) (fun y hy => HA.out y (by rw [List.take_of_length_le (by rw [HN.out]; exact Nat.le_refl _)]; exact hy)))
      go_wp2
      go_ret
      exact ⟨ret_int HF.out.symm, hB⟩
set_option maxHeartbeats 1000000 in
theorem cont_u {w : World} {A : Option Addr} {n cap : Nat} {l : List Int} (hn : l.length = n) (hc : Ints w A l) (hbig : n ≤ 1000000) {g u m : Nat} {bs : List Bool} (hg : w.cell? ⟨g, 0, none⟩ = some (.slice (some ⟨u, 0, none⟩) m m)) (hu : Bl w u bs) (hm : bs.length = m) (hin : ∀ x ∈ l, 0 ≤ x ∧ x < (m : Int)) :
    Calls Try.prog 27 #[.slice A n cap, .func (Fn.func 29) #[] #[.pointer (some ⟨g, 0, none⟩)]] w fun e w' => e = .returned (.bool (l.any (bAt bs))) ∧ Below w.heap.size w w' := by
  have HI := Lib.hid (idx_any_ (bAt bs) l)
  obtain ⟨h1, h2⟩ := idx_in (bAt bs) l
  have HC := Lib.hid (idx_u (cap := cap) hn hc hbig hg hu hm hin)
  obtain ⟨i, hi⟩ : ∃ i, idx (bAt bs) l = i := ⟨_, rfl⟩
  rw [hi] at HI HC h1 h2
  rw [hn] at h2
  clear hi hn hc hg hu hm hin
  go_enter Try.func27, Try.ntmps27
  go_wp2_with (fail)
  go_must (refine (HC.out).mono ?_)
  rintro e w1 ⟨rfl, hb⟩
  go_wp2
  go_ret
  exact ⟨ret_bool HI.out, hb⟩
end Go.Proofs.Ytohbdffmidbjhaa.Re
