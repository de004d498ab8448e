/- Fall: Run of every deal; the reference's Money, Ints, Owed; the law's sample. -/
import Derived.Test.YtdmbgdbmfenbfaaFaK
import Derived.BigQuiet
namespace Go.Proofs.Ytdmbgdbmfenbfaa.Fa
open Go.ChangeShapes Go.WideShapes Go.ChangeAt Go.RowKit Go.Proofs.Ytdmbgdbmfenbfaa.Cell
set_option linter.unusedVariables false
set_option linter.unusedSimpArgs false

theorem run_any (d : Dl) (p : Pl) (m : Int) (w : World) (h : Dm w d p) (hg : rgb d = true) (hm : mon m) (hs : m + d.t ≤ 1000000000000000) : Calls Try.prog 8 #[dval d p, .int .i64 m] w (RunQ w d m) := by
  obtain ⟨c, r, t, e, tr, te, st⟩ := d
  obtain ⟨A1, c1, A2, c2, A3, c3⟩ := p
  exact run_ok c r t e m tr te st A1 A2 A3 c1 c2 c3 _ _ _ w rfl rfl rfl h hg hm hs
/-- Run returns an error at once: which one -/
theorem run_err (d : Dl) (p : Pl) (m : Int) (w : World) (h : Dm w d p) (hn : ¬(rgb d = true ∧ mon m ∧ m + d.t ≤ 1000000000000000)) : Calls Try.prog 8 #[dval d p, .int .i64 m] w fun e' w' => e' = .returned (errv (if rgb d = true ∧ mon m then 3 else 1)) ∧ Below w.heap.size w w' := by
  obtain ⟨c, r, t, e, tr, te, st⟩ := d
  obtain ⟨A1, c1, A2, c2, A3, c3⟩ := p
  by_cases hg : rgb ⟨c, r, t, e, tr, te, st⟩ = true
  · by_cases hm : mon m
    · rw [if_pos ⟨hg, hm⟩]
      exact run_rng c r t e m tr te st A1 A2 A3 c1 c2 c3 _ _ _ w rfl rfl rfl h hg hm (by have h9 : ¬ (m + t ≤ 1000000000000000) := fun x => hn ⟨hg, hm, x⟩; omega)
    · rw [if_neg (fun x => hm x.2)]
      exact run_mon c r t e m tr te st A1 A2 A3 c1 c2 c3 _ _ _ w rfl rfl rfl h hg hm
  · rw [if_neg (fun x => hg x.1)]
    exact run_arg c r t e m tr te st A1 A2 A3 c1 c2 c3 _ _ _ w rfl rfl rfl h (by simpa using hg)
theorem rmoney_any (x : Int) (w : World) : Calls Try.prog 16 #[.int .i64 x] w fun e w' => e = .returned (.bool (decide (mon x))) ∧ w = w' := by
  by_cases h0 : 0 ≤ x
  · by_cases h1 : x ≤ 1000000000000000
    · rw [show decide (mon x) = true from decide_eq_true ⟨h0, h1⟩]
      go_enter Try.func16, Try.ntmps16
      go_wp2
      go_ret
      exact ⟨rfl, rfl⟩
    · rw [show decide (mon x) = false from decide_eq_false (by unfold mon; omega)]
      go_enter Try.func16, Try.ntmps16
      go_wp2
      go_ret
      exact ⟨rfl, rfl⟩
  · rw [show decide (mon x) = false from decide_eq_false (by unfold mon; omega)]
    go_enter Try.func16, Try.ntmps16
    go_wp2
    go_ret
    exact ⟨rfl, rfl⟩
theorem ints_own {w : World} {base n : Nat} {e : TypeId} {A : Option Addr} {c : Nat} {l : List Int} (h : w.ownsRow base e 1 (.slice A n c) n (ils l)) : Ints w A l := fun h0 => by
  have hn : 0 < n := by have := h.1; unfold ils at this; rw [List.length_map] at this; omega
  obtain ⟨g, cap, hv, _, hlt⟩ := h.form hn
  have hA : A = some ⟨g, 0, none⟩ := by injection hv
  subst hA
  refine ⟨g, 0, rfl, fun j z hz => ?_⟩
  have := h.cells (g := g) rfl j _ (show (ils l)[j]? = some (.int .i64 z) from by unfold ils; rw [List.getElem?_map, hz]; rfl)
  rw [Addr.add_lit] at this
  exact this
set_option maxRecDepth 100000 in
set_option maxHeartbeats 4000000 in
theorem ints_eq {A A' : Option Addr} {n c c' : Nat} {l : List Int} (w : World) (hn : l.length = n) (hc : Ints w A l) (hc' : Ints w A' l) (hbig : n ≤ 1000000) :
    Calls Try.prog 11 #[.slice A n c, .slice A' n c'] w fun e w' => e = .returned (.bool true) ∧ Below w.heap.size w w' := by
  have HN := Lib.hid hn
  have HC := Lib.hid hc
  have HC' := Lib.hid hc'
  have hnn : ((n : Int) != (n : Int)) = false := by simp
  clear hn hc hc'
  go_enter Try.func11, Try.ntmps11
  go_wp2
  clear hnn
  go_loopw [5] (fun iv wr => ∃ k : Nat, k ≤ n ∧ iv = .int .i64 k ∧ Hid (Below w.heap.size w wr)) (fun iv _ => n - (intOf iv).toNat)
  case atStart => exact ⟨0, Nat.zero_le _, rfl, Lib.hid (Below.refl _ _)⟩
  case round =>
    obtain ⟨k, hk, rfl, HB⟩ := hrel
    have k0 : (0 : Int) ≤ (k : Int) := by omega
    by_cases hlt : k < n
    · have hltI : (k : Int) < (n : Int) := by omega
      obtain ⟨x, hx⟩ := at_ l k (by rw [HN.out]; exact hlt)
      obtain ⟨b, off, rfl, hcell⟩ := (HC.out.keep HB.out) (by rw [HN.out]; omega)
      obtain ⟨b', off', rfl, hcell'⟩ := (HC'.out.keep HB.out) (by rw [HN.out]; omega)
      have c0 := hcell k x hx
      have e0 := hcell' k x hx
      have h0 : (x != x) = false := by simp
      clear hcell hcell' hx
      go_wp2
      go_quiet (fail)
      go_wp2
      go_roundw
      case rel => exact ⟨k + 1, by omega, by go_num, Lib.hid (Gen.dN HB.out _)⟩
      case measure => simp [intOf]; omega
    · obtain rfl : k = n := by omega
      go_wp2
      go_ret
      exact ⟨rfl, HB.out⟩

theorem dr_row {w : World} {g : Nat} {t : TypeId} {cs : Array Value} (h : Row w g t cs) (n : Nat) : Row (w.drewN n) g t cs := h
/-- the sum of a list's balances and dues, up to a place -/
def owe (l : List Tr) (k : Nat) : Int := bal (l.take k) + due (l.take k)
theorem owe_snoc {l : List Tr} {k : Nat} {x : Tr} (h : l[k]? = some x) : owe l (k + 1) = owe l k + x.b + x.u := by
  unfold owe bal due
  rw [take_snoc h, List.map_append, List.map_append, List.sum_append, List.sum_append]
  simp
  omega
theorem owe_pos : ∀ {l : List Tr}, (∀ x ∈ l, trOk x) → ∀ k, k ≤ l.length → 0 ≤ owe l k ∧ owe l k ≤ k * 2000000000000000
  | l, h, 0, _ => by unfold owe bal due; simp
  | l, h, k + 1, hk => by
    obtain ⟨x, hx⟩ := at_ l k (by omega)
    obtain ⟨i1, i2⟩ := owe_pos h k (by omega)
    obtain ⟨⟨h1, h1'⟩, h2, h2'⟩ := h x (mem_of_at hx)
    rw [owe_snoc hx]
    push_cast
    omega
theorem owe_all (l : List Tr) : owe l l.length = bal l + due l := by unfold owe; rw [List.take_length]
set_option maxRecDepth 100000 in
set_option maxHeartbeats 4000000 in
theorem owed_lit (c r t e : Int) (tr : List Tr) (A1 A2 A3 : Option Addr) (c1 c2 c3 q v z : Nat) (w : World) (hq : tr.length = q) (h : Rs tcs 2 w A1 tr) (hok : ∀ x ∈ tr, trOk x) (hl : q ≤ 40) :
    Calls Try.prog 17 #[.agg #[.int .i64 c, .int .i64 r, .int .i64 t, .int .i64 e, .slice A1 q c1, .slice A2 v c2, .slice A3 z c3]] w fun e' w' => e' = .returned (.int .i64 (bal tr + due tr)) ∧ Below w.heap.size w w' := by
  have hB : Below w.heap.size w (w.alloc (.cells #[.int .i64 c, .int .i64 r, .int .i64 t, .int .i64 e, .slice A1 q c1, .slice A2 v c2, .slice A3 z c3] 26)) := Gen.b_alloc (Below.refl _ _)
  have hr0 : Row (w.alloc (.cells #[.int .i64 c, .int .i64 r, .int .i64 t, .int .i64 e, .slice A1 q c1, .slice A2 v c2, .slice A3 z c3] 26)) w.heap.size 26 #[.int .i64 c, .int .i64 r, .int .i64 t, .int .i64 e, .slice A1 q c1, .slice A2 v c2, .slice A3 z c3] := Row.new _ _ _
  have HM := Lib.hid (h.keep hB)
  have HB := Lib.hid hB
  have HR := Lib.hid hr0
  have HQ := Lib.hid hq
  have HP := Lib.hid (fun k hk => owe_pos hok k hk)
  have HE := Lib.hid (owe_all tr)
  have HOK := Lib.hid hok
  obtain ⟨W0, hW0⟩ : ∃ W0, W0 = w.alloc (.cells #[.int .i64 c, .int .i64 r, .int .i64 t, .int .i64 e, .slice A1 q c1, .slice A2 v c2, .slice A3 z c3] 26) := ⟨_, rfl⟩
  rw [← hW0] at HM HB HR
  clear hB h hq hok hr0
  go_enter Try.func17, Try.ntmps17
  go_wp2_with (fail)
  rw [← hW0]
  clear hW0
  go_loopw [3, 4] (fun sv iv wr => ∃ k : Nat, k ≤ q ∧ iv = .int .i64 k ∧ sv = .int .i64 (owe tr k) ∧ Below W0.heap.size W0 wr) (fun _ iv _ => q - (intOf iv).toNat)
  case atStart => exact ⟨0, Nat.zero_le _, rfl, by simp [owe, bal, due], Below.refl _ _⟩
  case round =>
    obtain ⟨k, hk, rfl, rfl, hW⟩ := hrel
    have k4 : wr.cell? ⟨w.heap.size, 4, none⟩ = some (.slice A1 q c1) := (HR.out.keep hW).cell 4
    have k0 : (0 : Int) ≤ (k : Int) := by omega
    by_cases hlt : k < q
    · have hltI : (k : Int) < (q : Int) := by omega
      obtain ⟨⟨xb, xu⟩, hx⟩ := at_ tr k (by rw [HQ.out]; exact hlt)
      obtain ⟨b, off, rfl, hcell⟩ := (HM.out.keep hW) (by rw [HQ.out]; omega)
      have d0 := hcell k _ hx 0 _ rfl
      have d1 := hcell k _ hx 1 _ rfl
      rw [Nat.add_zero] at d0
      dsimp only at d0 d1
      have HS := Lib.hid (owe_snoc hx)
      obtain ⟨⟨x1, x2⟩, x3, x4⟩ := HOK.out _ (mem_of_at hx)
      obtain ⟨s1, s2⟩ := HP.out k (by rw [HQ.out]; omega)
      obtain ⟨s, hs⟩ : ∃ s, owe tr k = s := ⟨_, rfl⟩
      rw [hs] at s1 s2 HS ⊢
      dsimp only at x1 x2 x3 x4
      have w1 : IntKind.i64.wrap (s + xb) = s + xb := IntWalk.i64_in _ (by omega)
      have w2 : IntKind.i64.wrap (s + xb + xu) = s + xb + xu := IntWalk.i64_in _ (by omega)
      have HW := Lib.hid hW
      clear hcell hx hs hW hlt
      go_wp2
      try go_quiet (fail)
      go_wp2
      go_roundw
      case rel => first | exact ⟨k + 1, by omega, by go_num, by rw [HS.out], by first | exact HW.out | exact Gen.dN HW.out _⟩ | exact ⟨k + 1, by omega, by go_num, by rw [HS.out]; rfl, by first | exact HW.out | exact Gen.dN HW.out _⟩
      case measure => simp [intOf]; omega
    · obtain rfl : k = q := by omega
      have hE := HE.out
      rw [HQ.out] at hE
      have HW := Lib.hid (Gen.over hW HB.out)
      have HE2 := Lib.hid hE
      clear hE hW
      go_wp2
      go_ret
      rw [← HE2.out]
      exact ⟨rfl, HW.out⟩
end Go.Proofs.Ytdmbgdbmfenbfaa.Fa
