/- Tokens: the reference's sign and token. -/
import Derived.Test.YtmineoilmmifiaaDoorLxY
namespace Go.Proofs.YtmineoilmmifiaaDoor.Lx
open Go.Lib Go.ChangeShapes Go.WideShapes Go.ChangeAt Go.RowKit Go.Proofs.YtmineoilmmifiaaDoor.Cell
set_option linter.unusedVariables false
set_option linter.unusedSimpArgs false
def ones : List UInt8 := [59, 44, 61, 60, 43, 45, 42, 47, 40, 41]
theorem sgn_two {r : List UInt8} : sgn (61 :: 61 :: r) = some [61, 61] := by
  unfold sgn signs
  rw [List.find?_cons]
  simp [List.isPrefixOf]
theorem sgn_in_ones {c : UInt8} {r : List UInt8} (h : c ∈ ones) (hn : ¬ (c = 61 ∧ ∃ r', r = 61 :: r')) : sgn (c :: r) = some [c] := by
  unfold ones at h
  simp only [List.mem_cons, List.not_mem_nil, or_false] at h
  have h2 : ([61, 61] : List UInt8).isPrefixOf (c :: r) = false := by
    cases hp : ([61, 61] : List UInt8).isPrefixOf (c :: r)
    · rfl
    · cases r with
      | nil => simp [List.isPrefixOf] at hp
      | cons d r =>
        simp [List.isPrefixOf] at hp
        exact absurd ⟨hp.1.symm, r, by rw [← hp.2]⟩ hn
  unfold sgn signs
  rw [List.find?_cons, h2]
  rcases h with rfl | rfl | rfl | rfl | rfl | rfl | rfl | rfl | rfl | rfl <;> simp [List.isPrefixOf]
theorem sgn_out_ones {c : UInt8} {r : List UInt8} (h : c ∉ ones) : sgn (c :: r) = none := by
  cases hs : sgn (c :: r) with
  | none => rfl
  | some t =>
    obtain ⟨h1, h2⟩ := sgn_in hs
    exfalso
    apply h
    unfold signs at h1
    simp only [List.mem_cons, List.not_mem_nil, or_false] at h1
    rcases h1 with rfl | rfl | rfl | rfl | rfl | rfl | rfl | rfl | rfl | rfl | rfl <;>
      (simp [List.isPrefixOf] at h2; first | (rw [← h2]; decide) | (rw [← h2.1]; decide))
/-- the length of the sign ahead -/
def sgl (l : List UInt8) : Nat := match sgn l with
  | some t => t.length
  | none => 0
theorem drop_hd {l : List UInt8} {a : Nat} {c : UInt8} {r : List UInt8} (h : l.drop a = c :: r) : l[a]? = some c ∧ l.drop (a + 1) = r ∧ l.length = a + 1 + r.length := by
  have hl : a < l.length := by
    by_cases hh : a < l.length
    · exact hh
    · rw [List.drop_of_length_le (by omega)] at h; cases h
  rw [List.drop_eq_getElem_cons hl] at h
  injection h with h1 h2
  have h3 := congrArg List.length h2
  rw [List.length_drop] at h3
  exact ⟨by rw [List.getElem?_eq_getElem hl, h1], h2, by omega⟩
theorem byte_of {l : List UInt8} {k : Nat} {x : UInt8} (hx : l[k]? = some x) (h : k < (⟨l.toArray⟩ : ByteArray).size) : (⟨l.toArray⟩ : ByteArray)[k]'h = x := by
  have h1 := at_str (s := ⟨l.toArray⟩) (l := l) (k := k) rfl h
  rw [hx] at h1
  injection h1 with h1
  exact h1.symm
section
variable {W : World} {l r : List UInt8} {c : UInt8} {a : Nat}
set_option maxRecDepth 100000 in
set_option maxHeartbeats 8000000 in
theorem sign_any (hl : l.length ≤ 1000000000) (hd : l.drop a = c :: r) :
    Calls Tryd.prog 34 #[.string ⟨l.toArray⟩, .int .i64 (a : Int)] W fun e w' => e = .returned (.int .i64 (sgl (c :: r) : Int)) ∧ Below W.heap.size W w' := by
  have hz : (⟨l.toArray⟩ : ByteArray).size = l.length := by simp [ByteArray.size]
  obtain ⟨h1, h2, h3⟩ := drop_hd hd
  have ha : a < l.length := by omega
  have a0 : (0 : Int) ≤ (a : Int) := by omega
  have a1 : (a : Int) < (l.length : Int) := by omega
  have hwa : IntKind.i64.wrap ((a : Int) + 1) = (a : Int) + 1 := IntWalk.i64_in _ (by omega)
  have hga := byte_of h1 (by rw [hz]; exact ha)
  have HB0 := Lib.hid (Below.refl W.heap.size W)
  obtain ⟨X, hX⟩ : ∃ X, c.toNat = X := ⟨_, rfl⟩
  have HX := Lib.hid hX
  have HC61 : Hid (X = 61 → c = 61) := Lib.hid fun h => UInt8.toNat_inj.1 (by rw [hX, h]; rfl)
  have LOOP : ∀ hno : ¬ (c = 61 ∧ ∃ r', r = 61 :: r'), Hid ((∀ k x, ones[k]? = some x → c = x → sgl (c :: r) = 1) ∧ ((∀ j x, j < 10 → ones[j]? = some x → c ≠ x) → sgl (c :: r) = 0)) := fun hno => Lib.hid ⟨fun k x hk hc => by
      unfold sgl
      rw [sgn_in_ones (by rw [hc]; exact List.mem_of_getElem? hk) hno]
      rfl, fun hj => by
      unfold sgl
      rw [sgn_out_ones (fun hm => by
        obtain ⟨j, hjm⟩ := List.getElem?_of_mem hm
        exact hj j c (List.getElem?_eq_some_iff.1 hjm).1 hjm rfl)]⟩
  have hAll : (a + 1 < l.length ∧ X = 61 ∧ ∃ r', r = 61 :: r') ∨ ¬ (a + 1 < l.length ∧ X = 61 ∧ ∃ r', r = 61 :: r') := Classical.em _
  rcases hAll with ⟨p1, p2, r', p3⟩ | hno
  · have hg1 := byte_of (l := l) (k := a + 1) (x := 61) (by
      have h := (drop_hd (a := a + 1) (l := l) (c := 61) (r := r') (by rw [h2]; exact p3)).1
      exact h) (by rw [hz]; exact p1)
    have p1I : (a : Int) + 1 < (l.length : Int) := by omega
    have a2 : (0 : Int) ≤ (a : Int) + 1 := by omega
    have a3 : ((a : Int) + 1).toNat = a + 1 := by omega
    have HN : Hid (sgl (c :: r) = 2) := Lib.hid (by
      have hc : c = 61 := HC61.out p2
      unfold sgl
      rw [hc, p3, sgn_two]
      rfl)
    subst p2
    have h61 : ((61 : UInt8).toNat : Int) = 61 := rfl
    clear hd h1 h2 p3 LOOP HC61
    go_enter Tryd.func34, Tryd.ntmps34
    go_wp2
    go_ret
    exact ⟨by rw [HN.out]; rfl, HB0.out⟩
  · have HL := LOOP (fun h => hno ⟨by obtain ⟨_, r', hr⟩ := h; rw [hr, List.length_cons] at h3; omega, by rw [← hX, h.1]; rfl, h.2⟩)
    have HZ : Hid (a + 1 < l.length → ∃ y, l[a + 1]? = some y ∧ (y.toNat = 61 → ¬ X = 61)) := Lib.hid fun h => by
      obtain ⟨y, hy⟩ := at_ l (a + 1) h
      refine ⟨y, hy, fun hy61 hx61 => hno ⟨h, hx61, r.drop 1, ?_⟩⟩
      have e : l.drop (a + 1) = y :: l.drop (a + 1 + 1) := by
        rw [List.drop_eq_getElem_cons h]
        congr 1
        have := (List.getElem?_eq_some_iff.1 hy).2
        exact this
      have hy0 : y = 61 := UInt8.toNat_inj.1 (by rw [hy61]; rfl)
      rw [← h2, e, hy0]
      rfl
    have hX9 : c.toNat ≤ 255 := by have := UInt8.toNat_lt c; omega
    clear hd h1 h2 LOOP HC61 hno
    by_cases p1 : a + 1 < l.length
    · obtain ⟨y, hy, hyx⟩ := HZ.out p1
      have hg1 := byte_of hy (by rw [hz]; exact p1)
      have p1I : (a : Int) + 1 < (l.length : Int) := by omega
      have a2 : (0 : Int) ≤ (a : Int) + 1 := by omega
      have a3 : ((a : Int) + 1).toNat = a + 1 := by omega
      obtain ⟨Y, hY⟩ : ∃ Y, y.toNat = Y := ⟨_, rfl⟩
      rw [hY] at hyx
      clear hy HZ
      by_cases hY61 : Y = 61
      · have hX61 := hyx hY61
        have hYI : (Y : Int) = 61 := by omega
        have hXI : ¬ (X : Int) = 61 := by omega
        clear hyx
        go_enter Tryd.func34, Tryd.ntmps34
        go_wp2
        go_loopw [6] (fun iv wr => ∃ k : Nat, k ≤ 10 ∧ iv = .int .i64 (k : Int) ∧ Hid (∀ j x, j < k → ones[j]? = some x → c ≠ x) ∧ Hid (Below W.heap.size W wr)) (fun iv _ => 10 - (RowKit.intOf iv).toNat)
        case atStart => exact ⟨0, by decide, rfl, Lib.hid (fun j x hj => absurd hj (by omega)), HB0⟩
        case round =>
          obtain ⟨k, hk, rfl, HJ, HB⟩ := hrel
          have k0 : (0 : Int) ≤ (k : Int) := by omega
          by_cases hlt : k < 10
          · have hltI : (k : Int) < 10 := by omega
            obtain ⟨z, hzz⟩ := at_ ones k (by show k < 10; exact hlt)
            have hgz : (⟨#[59, 44, 61, 60, 43, 45, 42, 47, 40, 41]⟩ : ByteArray)[k]'(by show k < 10; exact hlt) = z := byte_of (l := ones) hzz (by show k < 10; exact hlt)
            have HZZ := Lib.hid hzz
            obtain ⟨Z, hZ⟩ : ∃ Z, z.toNat = Z := ⟨_, rfl⟩
            have HZ9 := Lib.hid hZ
            clear hzz
            by_cases hcz : X = Z
            · have hczI : (X : Int) = (Z : Int) := by omega
              have HN : Hid (sgl (c :: r) = 1) := Lib.hid (HL.out.1 k z HZZ.out (UInt8.toNat_inj.1 (by rw [HX.out, HZ9.out]; exact hcz)))
              go_wp2
              go_quiet (fail)
              all_goals
                have HBq := Lib.hid (show Below W.heap.size W (wr.drewN nq) from Gen.dN HB.out nq)
                go_wp2
                go_ret
                exact ⟨by rw [HN.out]; rfl, HBq.out⟩
            · have hczI : ¬ (X : Int) = (Z : Int) := by omega
              have HJ2 : Hid (∀ j x, j < k + 1 → ones[j]? = some x → c ≠ x) := Lib.hid fun j x hj hx => by
                by_cases hjk : j < k
                · exact HJ.out j x hjk hx
                · obtain rfl : j = k := (by omega)
                  rw [HZZ.out] at hx
                  injection hx with hx
                  subst hx
                  intro e
                  exact hcz (by rw [← HX.out, ← HZ9.out, e])
              go_wp2
              go_quiet (fail)
              all_goals
                go_wp2
                go_roundw
                case rel => exact ⟨k + 1, by omega, by go_num, HJ2, Lib.hid (by first | exact HB.out.drew | exact Gen.dN HB.out _)⟩
                case measure => simp [RowKit.intOf]; omega
          · obtain rfl : k = 10 := by omega
            have HN : Hid (sgl (c :: r) = 0) := Lib.hid (HL.out.2 HJ.out)
            go_wp2
            go_ret
            exact ⟨by rw [HN.out]; rfl, HB.out⟩
      · have hYI : ¬ (Y : Int) = 61 := by omega
        clear hyx
        go_enter Tryd.func34, Tryd.ntmps34
        go_wp2
        go_loopw [6] (fun iv wr => ∃ k : Nat, k ≤ 10 ∧ iv = .int .i64 (k : Int) ∧ Hid (∀ j x, j < k → ones[j]? = some x → c ≠ x) ∧ Hid (Below W.heap.size W wr)) (fun iv _ => 10 - (RowKit.intOf iv).toNat)
        case atStart => exact ⟨0, by decide, rfl, Lib.hid (fun j x hj => absurd hj (by omega)), HB0⟩
        case round =>
          obtain ⟨k, hk, rfl, HJ, HB⟩ := hrel
          have k0 : (0 : Int) ≤ (k : Int) := by omega
          by_cases hlt : k < 10
          · have hltI : (k : Int) < 10 := by omega
            obtain ⟨z, hzz⟩ := at_ ones k (by show k < 10; exact hlt)
            have hgz : (⟨#[59, 44, 61, 60, 43, 45, 42, 47, 40, 41]⟩ : ByteArray)[k]'(by show k < 10; exact hlt) = z := byte_of (l := ones) hzz (by show k < 10; exact hlt)
            have HZZ := Lib.hid hzz
            obtain ⟨Z, hZ⟩ : ∃ Z, z.toNat = Z := ⟨_, rfl⟩
            have HZ9 := Lib.hid hZ
            clear hzz
            by_cases hcz : X = Z
            · have hczI : (X : Int) = (Z : Int) := by omega
              have HN : Hid (sgl (c :: r) = 1) := Lib.hid (HL.out.1 k z HZZ.out (UInt8.toNat_inj.1 (by rw [HX.out, HZ9.out]; exact hcz)))
              go_wp2
              go_quiet (fail)
              all_goals
                have HBq := Lib.hid (show Below W.heap.size W (wr.drewN nq) from Gen.dN HB.out nq)
                go_wp2
                go_ret
                exact ⟨by rw [HN.out]; rfl, HBq.out⟩
            · have hczI : ¬ (X : Int) = (Z : Int) := by omega
              have HJ2 : Hid (∀ j x, j < k + 1 → ones[j]? = some x → c ≠ x) := Lib.hid fun j x hj hx => by
                by_cases hjk : j < k
                · exact HJ.out j x hjk hx
                · obtain rfl : j = k := (by omega)
                  rw [HZZ.out] at hx
                  injection hx with hx
                  subst hx
                  intro e
                  exact hcz (by rw [← HX.out, ← HZ9.out, e])
              go_wp2
              go_quiet (fail)
              all_goals
                go_wp2
                go_roundw
                case rel => exact ⟨k + 1, by omega, by go_num, HJ2, Lib.hid (by first | exact HB.out.drew | exact Gen.dN HB.out _)⟩
                case measure => simp [RowKit.intOf]; omega
          · obtain rfl : k = 10 := by omega
            have HN : Hid (sgl (c :: r) = 0) := Lib.hid (HL.out.2 HJ.out)
            go_wp2
            go_ret
            exact ⟨by rw [HN.out]; rfl, HB.out⟩
    · have p1I : ¬ (a : Int) + 1 < (l.length : Int) := by omega
      clear HZ
      go_enter Tryd.func34, Tryd.ntmps34
      go_wp2
      go_loopw [6] (fun iv wr => ∃ k : Nat, k ≤ 10 ∧ iv = .int .i64 (k : Int) ∧ Hid (∀ j x, j < k → ones[j]? = some x → c ≠ x) ∧ Hid (Below W.heap.size W wr)) (fun iv _ => 10 - (RowKit.intOf iv).toNat)
      case atStart => exact ⟨0, by decide, rfl, Lib.hid (fun j x hj => absurd hj (by omega)), HB0⟩
      case round =>
        obtain ⟨k, hk, rfl, HJ, HB⟩ := hrel
        have k0 : (0 : Int) ≤ (k : Int) := by omega
        by_cases hlt : k < 10
        · have hltI : (k : Int) < 10 := by omega
          obtain ⟨z, hzz⟩ := at_ ones k (by show k < 10; exact hlt)
          have hgz : (⟨#[59, 44, 61, 60, 43, 45, 42, 47, 40, 41]⟩ : ByteArray)[k]'(by show k < 10; exact hlt) = z := byte_of (l := ones) hzz (by show k < 10; exact hlt)
          have HZZ := Lib.hid hzz
          obtain ⟨Z, hZ⟩ : ∃ Z, z.toNat = Z := ⟨_, rfl⟩
          have HZ9 := Lib.hid hZ
          clear hzz
          by_cases hcz : X = Z
          · have hczI : (X : Int) = (Z : Int) := by omega
            have HN : Hid (sgl (c :: r) = 1) := Lib.hid (HL.out.1 k z HZZ.out (UInt8.toNat_inj.1 (by rw [HX.out, HZ9.out]; exact hcz)))
            go_wp2
            go_quiet (fail)
            all_goals
              have HBq := Lib.hid (show Below W.heap.size W (wr.drewN nq) from Gen.dN HB.out nq)
              go_wp2
              go_ret
              exact ⟨by rw [HN.out]; rfl, HBq.out⟩
          · have hczI : ¬ (X : Int) = (Z : Int) := by omega
            have HJ2 : Hid (∀ j x, j < k + 1 → ones[j]? = some x → c ≠ x) := Lib.hid fun j x hj hx => by
              by_cases hjk : j < k
              · exact HJ.out j x hjk hx
              · obtain rfl : j = k := (by omega)
                rw [HZZ.out] at hx
                injection hx with hx
                subst hx
                intro e
                exact hcz (by rw [← HX.out, ← HZ9.out, e])
            go_wp2
            go_quiet (fail)
            all_goals
              go_wp2
              go_roundw
              case rel => exact ⟨k + 1, by omega, by go_num, HJ2, Lib.hid (by first | exact HB.out.drew | exact Gen.dN HB.out _)⟩
              case measure => simp [RowKit.intOf]; omega
        · obtain rfl : k = 10 := by omega
          have HN : Hid (sgl (c :: r) = 0) := Lib.hid (HL.out.2 HJ.out)
          go_wp2
          go_ret
          exact ⟨by rw [HN.out]; rfl, HB.out⟩
end
end Go.Proofs.YtmineoilmmifiaaDoor.Lx
