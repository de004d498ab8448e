/- Wire: whether values are few. -/
import Derived.Test.YtapcfnlononniaaDoorWrK
namespace Go.Proofs.YtapcfnlononniaaDoor.Wr
open Go.Lib Go.ChangeShapes Go.WideShapes Go.ChangeAt Go.RowKit Go.Proofs.YtapcfnlononniaaDoor.Cell
set_option linter.unusedVariables false
set_option linter.unusedSimpArgs false
/-- a value at a place -/
structure VAt (W : World) (b o : Nat) (v : Vl) : Prop where
  c0 : W.cell? ⟨b, o, none⟩ = some (.int .i64 v.kd)
  c1 : W.cell? ⟨b, o + 1, none⟩ = some (.int .i64 v.n)
  c2 : W.cell? ⟨b, o + 2, none⟩ = some (.string ⟨v.s.toArray⟩)
  c3 : ∃ A c, W.cell? ⟨b, o + 3, none⟩ = some (.slice A v.L.length c) ∧ Ints W A v.L
  c4 : ∃ A c, W.cell? ⟨b, o + 4, none⟩ = some (.slice A v.T.length c) ∧ Sts W A v.T
theorem VAt.keep {W W' : World} {b o : Nat} {v : Vl} (h : VAt W b o v) (hb : Below W.heap.size W W') : VAt W' b o v := by
  obtain ⟨A, c, h3, h4⟩ := h.c3
  obtain ⟨A', c', h5, h6⟩ := h.c4
  exact ⟨Gen.keep hb h.c0, Gen.keep hb h.c1, Gen.keep hb h.c2, ⟨A, c, Gen.keep hb h3, h4.keep hb⟩, ⟨A', c', Gen.keep hb h5, h6.keep hb⟩⟩
def Vll (W : World) (A : Option Addr) (l : List Vl) : Prop := 0 < l.length → ∃ b off, A = some ⟨b, off, none⟩ ∧ ∀ (j : Nat) v, l[j]? = some v → VAt W b (off + j * 5) v
theorem Vll.keep {W W' : World} {A : Option Addr} {l : List Vl} (h : Vll W A l) (hb : Below W.heap.size W W') : Vll W' A l := fun h0 => by
  obtain ⟨b, off, e, hc⟩ := h h0
  exact ⟨b, off, e, fun j v hv => (hc j v hv).keep hb⟩
def lens (T : List (List UInt8)) : Nat := (T.map List.length).sum
def tot (v : Vl) : Nat := v.s.length + v.L.length + v.T.length + lens v.T
def tots (l : List Vl) : Nat := (l.map tot).sum
def okv (v : Vl) : Prop := v.L.length ≤ 400 ∧ v.T.length ≤ 400 ∧ v.s.length ≤ 400 ∧ ∀ x ∈ v.T, x.length ≤ 400
def fewP (l : List Vl) : Prop := l.length ≤ 20 ∧ (∀ v ∈ l, okv v) ∧ tots l ≤ 400
theorem lens_snoc {T : List (List UInt8)} {j : Nat} {x : List UInt8} (h : T[j]? = some x) : lens (T.take (j + 1)) = lens (T.take j) + x.length := by
  unfold lens
  rw [take_snoc h, List.map_append, List.sum_append]
  simp
theorem tots_snoc {l : List Vl} {j : Nat} {x : Vl} (h : l[j]? = some x) : tots (l.take (j + 1)) = tots (l.take j) + tot x := by
  unfold tots
  rw [take_snoc h, List.map_append, List.sum_append]
  simp
theorem lens_le {T : List (List UInt8)} (h : ∀ x ∈ T, x.length ≤ 400) : lens T ≤ T.length * 400 := by
  induction T with
  | nil => simp [lens]
  | cons x T ih =>
    have h1 := h x List.mem_cons_self
    have h2 := ih fun y hy => h y (List.mem_cons_of_mem _ hy)
    unfold lens at h2 ⊢
    rw [List.map_cons, List.sum_cons, List.length_cons]
    omega
theorem tot_le {v : Vl} (h : okv v) : tot v ≤ 170000 := by
  have h1 := lens_le h.2.2.2
  unfold tot
  have := h.1
  have := h.2.1
  have := h.2.2.1
  omega
theorem tots_le {l : List Vl} (h : ∀ v ∈ l, okv v) : tots l ≤ l.length * 170000 := by
  induction l with
  | nil => simp [tots]
  | cons x l ih =>
    have h1 := tot_le (h x List.mem_cons_self)
    have h2 := ih fun y hy => h y (List.mem_cons_of_mem _ hy)
    unfold tots at h2 ⊢
    rw [List.map_cons, List.sum_cons, List.length_cons]
    omega
set_option maxRecDepth 100000 in
set_option maxHeartbeats 8000000 in
theorem few_any {W : World} {A : Option Addr} {m cap : Nat} {l : List Vl} (hm : l.length = m) (hc : Vll W A l) (hbig : m ≤ 9223372036854775807) :
    Calls Tryd.prog 10 #[.slice A m cap] W fun e w' => ((fewP l ∧ e = .returned (.bool true)) ∨ (¬ fewP l ∧ e = .returned (.bool false))) ∧ Below W.heap.size W w' := by
  have HM := Lib.hid hm
  have HC := Lib.hid hc
  clear hm hc
  by_cases h20 : m ≤ 20
  · have h20I : (m : Int) ≤ 20 := by omega
    go_enter Tryd.func10, Tryd.ntmps10
    go_wp2
    go_loopw [3, 4] (fun nv iv wr => ∃ k : Nat, k ≤ m ∧ iv = .int .i64 k ∧ nv = .int .i64 (tots (l.take k) : Int) ∧ Hid (∀ v ∈ l.take k, okv v) ∧ Hid (Below W.heap.size W wr)) (fun _ iv _ => m - (RowKit.intOf iv).toNat)
    case atStart => exact ⟨0, Nat.zero_le _, rfl, by simp [tots], Lib.hid (by simp), Lib.hid (Below.refl _ _)⟩
    case round =>
      obtain ⟨k, hk, rfl, rfl, HO, HB⟩ := hrel
      have k0 : (0 : Int) ≤ (k : Int) := by omega
      have htk : (l.take k).length = k := by rw [List.length_take, HM.out]; omega
      have hN := tots_le HO.out
      rw [htk] at hN
      obtain ⟨N, hNN⟩ : ∃ N, tots (l.take k) = N := ⟨_, rfl⟩
      rw [hNN] at hN ⊢
      have HN := Lib.hid hNN
      clear hNN htk
      by_cases hlt : k < m
      · have hltI : (k : Int) < (m : Int) := by omega
        obtain ⟨v, hv⟩ := at_ l k (by rw [HM.out]; exact hlt)
        obtain ⟨b, off, rfl, hcell⟩ := (HC.out.keep HB.out) (by rw [HM.out]; omega)
        obtain ⟨_, _, d2, ⟨A3, c3, d3, _⟩, ⟨A4, c4, d4, hst⟩⟩ := hcell k v hv
        have HV := Lib.hid hv
        have HST := Lib.hid hst
        clear hcell hv hst
        have hzs : (⟨v.s.toArray⟩ : ByteArray).size = v.s.length := by simp [ByteArray.size]
        by_cases hok : v.L.length ≤ 400 ∧ v.T.length ≤ 400 ∧ v.s.length ≤ 400
        · obtain ⟨q1, q2, q3⟩ := hok
          have q1I : (v.L.length : Int) ≤ 400 := by omega
          have q2I : (v.T.length : Int) ≤ 400 := by omega
          have q3I : (v.s.length : Int) ≤ 400 := by omega
          have hw1 : IntKind.i64.wrap ((N : Int) + (v.s.length : Int)) = (N : Int) + (v.s.length : Int) := IntWalk.i64_in _ (by omega)
          have hw2 : IntKind.i64.wrap ((N : Int) + (v.s.length : Int) + (v.L.length : Int)) = (N : Int) + (v.s.length : Int) + (v.L.length : Int) := IntWalk.i64_in _ (by omega)
          have hw3 : IntKind.i64.wrap ((N : Int) + (v.s.length : Int) + (v.L.length : Int) + (v.T.length : Int)) = (N : Int) + (v.s.length : Int) + (v.L.length : Int) + (v.T.length : Int) := IntWalk.i64_in _ (by omega)
          go_wp2
          go_quiet (fail)
          obtain ⟨N1, hN1⟩ : ∃ N1 : Nat, N + v.s.length + v.L.length + v.T.length = N1 := ⟨_, rfl⟩
          have e1 : (N : Int) + (v.s.length : Int) + (v.L.length : Int) + (v.T.length : Int) = (N1 : Int) := by omega
          rw [e1]
          have HN1 := Lib.hid hN1
          have hN1b : N1 ≤ 10000000 := by omega
          have HD2 := Lib.hid (show Below wr.heap.size wr (wr.drewN nq) from Gen.dN (Below.refl _ _) nq)
          have D4 := Lib.hid d4
          have D2 := Lib.hid d2
          clear hw1 hw2 hw3 e1 hN1 d2 d3 d4 hzs
          generalize wr.drewN nq = w2 at *
          have d4 := Gen.keep HD2.out D4.out
          go_wp2
          go_loopw [3, 5] (fun nv iv wq => ∃ j : Nat, j ≤ v.T.length ∧ iv = .int .i64 j ∧ nv = .int .i64 ((N1 + lens (v.T.take j) : Nat) : Int) ∧ Hid (∀ x ∈ v.T.take j, x.length ≤ 400) ∧ Hid (Below wr.heap.size wr wq)) (fun _ iv _ => v.T.length - (RowKit.intOf iv).toNat)
          case atStart => exact ⟨0, Nat.zero_le _, rfl, by simp [lens], Lib.hid (by simp), HD2⟩
          case round =>
            clear d4
            obtain ⟨j, hj, rfl, rfl, HJ, HQ⟩ := hrel
            have j0 : (0 : Int) ≤ (j : Int) := by omega
            have d4 := Gen.keep HQ.out D4.out
            have hjl : (v.T.take j).length = j := by rw [List.length_take]; omega
            have hJ := lens_le HJ.out
            rw [hjl] at hJ
            obtain ⟨M, hM⟩ : ∃ M, lens (v.T.take j) = M := ⟨_, rfl⟩
            rw [hM] at hJ ⊢
            have HMM := Lib.hid hM
            clear hM hjl
            obtain ⟨N2, hN2⟩ : ∃ N2, N1 + M = N2 := ⟨_, rfl⟩
            rw [hN2]
            have HN2 := Lib.hid hN2
            have hN2b : N2 ≤ 20000000 := by omega
            clear hN2
            by_cases hjt : j < v.T.length
            · have hjtI : (j : Int) < (v.T.length : Int) := by omega
              obtain ⟨x, hx⟩ := at_ v.T j hjt
              obtain ⟨b2, off2, rfl, hc2⟩ := (HST.out.keep HQ.out) (by omega)
              have f0 := hc2 j x hx
              have HXX := Lib.hid hx
              have hzx : (⟨x.toArray⟩ : ByteArray).size = x.length := by simp [ByteArray.size]
              clear hc2 hx
              by_cases h4 : x.length ≤ 400
              · have h4I : (x.length : Int) ≤ 400 := by omega
                have hw4 : IntKind.i64.wrap ((N2 : Int) + (x.length : Int)) = ((N2 + x.length : Nat) : Int) := by rw [IntWalk.i64_in _ (by omega)]; omega
                have HL2 := Lib.hid (lens_snoc HXX.out)
                have HJ2 : Hid (∀ y ∈ v.T.take (j + 1), y.length ≤ 400) := Lib.hid fun y hy => by
                  rw [take_snoc HXX.out] at hy
                  rcases List.mem_append.1 hy with hy | hy
                  · exact HJ.out y hy
                  · rw [List.mem_singleton] at hy; subst hy; exact h4
                go_wp2
                go_roundw
                case rel => exact ⟨j + 1, by omega, by go_num, by rw [HL2.out, HMM.out, ← Nat.add_assoc, HN2.out]; first | rfl | exact congrArg (Value.int .i64) (by omega), HJ2, HQ⟩
                case measure => simp [RowKit.intOf]; omega
              · have h4I : (400 : Int) < (x.length : Int) := by omega
                have HX : Hid (¬ fewP l) := Lib.hid fun h => h4 ((h.2.1 v (mem_of_at HV.out)).2.2.2 x (mem_of_at HXX.out))
                have HBf := Lib.hid (Gen.over HQ.out HB.out)
                go_wp2
                go_ret
                exact ⟨.inr ⟨HX.out, rfl⟩, HBf.out⟩
            · obtain rfl : j = v.T.length := by omega
              have HO2 : Hid (∀ y ∈ l.take (k + 1), okv y) := Lib.hid fun y hy => by
                rw [take_snoc HV.out] at hy
                rcases List.mem_append.1 hy with hy | hy
                · exact HO.out y hy
                · rw [List.mem_singleton] at hy
                  subst hy
                  refine ⟨q1, q2, q3, fun x hx => HJ.out x ?_⟩
                  rw [List.take_of_length_le (Nat.le_refl _)]
                  exact hx
              have HT2 : Hid (tots (l.take (k + 1)) = N2) := Lib.hid (by
                have h5 := HMM.out
                rw [List.take_of_length_le (Nat.le_refl _)] at h5
                rw [tots_snoc HV.out, HN.out, ← HN2.out, ← HN1.out]
                unfold tot
                omega)
              have HBf := Lib.hid (Gen.over HQ.out HB.out)
              go_wp2
              go_roundw
              case rel => exact ⟨k + 1, by omega, by go_num, by rw [HT2.out], HO2, HBf⟩
              case measure => simp [RowKit.intOf]; omega
        · have HX : Hid (¬ fewP l) := Lib.hid fun h => by
            have h1 := h.2.1 v (mem_of_at HV.out)
            exact hok ⟨h1.1, h1.2.1, h1.2.2.1⟩
          by_cases q1 : v.L.length ≤ 400
          · have q1I : (v.L.length : Int) ≤ 400 := by omega
            by_cases q2 : v.T.length ≤ 400
            · have q2I : (v.T.length : Int) ≤ 400 := by omega
              have q3I : (400 : Int) < (v.s.length : Int) := by omega
              go_wp2
              go_ret
              exact ⟨.inr ⟨HX.out, rfl⟩, HB.out⟩
            · have q2I : (400 : Int) < (v.T.length : Int) := by omega
              go_wp2
              go_ret
              exact ⟨.inr ⟨HX.out, rfl⟩, HB.out⟩
          · have q1I : (400 : Int) < (v.L.length : Int) := by omega
            go_wp2
            go_ret
            exact ⟨.inr ⟨HX.out, rfl⟩, HB.out⟩
      · obtain rfl : k = m := by omega
        have HT : Hid (tots l = N) := Lib.hid (by rw [← HN.out, List.take_of_length_le (by rw [HM.out]; exact Nat.le_refl _)])
        have HA : Hid (∀ v ∈ l, okv v) := Lib.hid (by have h := HO.out; rw [List.take_of_length_le (by rw [HM.out]; exact Nat.le_refl _)] at h; exact h)
        by_cases h4 : N ≤ 400
        · have h4I : (N : Int) ≤ 400 := by omega
          go_wp2
          go_ret
          exact ⟨.inl ⟨⟨by rw [HM.out]; exact h20, HA.out, by rw [HT.out]; exact h4⟩, rfl⟩, HB.out⟩
        · have h4I : ¬ (N : Int) ≤ 400 := by omega
          go_wp2
          go_ret
          exact ⟨.inr ⟨fun h => h4 (by rw [← HT.out]; exact h.2.2), rfl⟩, HB.out⟩
  · have h20I : (20 : Int) < (m : Int) := by omega
    go_enter Tryd.func10, Tryd.ntmps10
    go_wp2
    go_ret
    exact ⟨.inr ⟨fun h => h20 (by rw [← HM.out]; exact h.1), rfl⟩, Below.refl _ _⟩
end Go.Proofs.YtapcfnlononniaaDoor.Wr
