/- Big integers: shifts to the right; digits that are written over. -/
import Derived.Test.YtnifkianjpjahaaDoorBgR
import Derived.BigRegion
namespace Go.Proofs.YtnifkianjpjahaaDoor.Bg
open Go.ChangeShapes Go.WideShapes Go.ChangeAt Go.RowKit Go.Proofs.YtnifkianjpjahaaDoor.Cell
set_option linter.unusedVariables false
set_option linter.unusedSimpArgs false

/-- digits shifted to the right -/
def shrL (P Q : Int) : List Int → List Int
  | [] => []
  | d :: t => (d / P + (t.headD 0 * Q) % 1048576) :: shrL P Q t
theorem shrL_length (P Q : Int) (l : List Int) : (shrL P Q l).length = l.length := by
  induction l with
  | nil => rfl
  | cons d t ih => simp [shrL, ih]
theorem shrL_at (P Q : Int) : ∀ (l : List Int) (k : Nat) (x : Int), l[k]? = some x → (shrL P Q l)[k]? = some (x / P + ((l[k + 1]?).getD 0 * Q) % 1048576)
  | [], k, x, h => by simp at h
  | d :: t, 0, x, h => by
    have : d = x := by simpa using h
    subst this
    cases t <;> simp [shrL]
  | d :: t, k + 1, x, h => by
    have := shrL_at P Q t k x (by simpa using h)
    simpa [shrL] using this
theorem div_parts {x P Q : Int} (hP : 1 ≤ P) (hPQ : P * Q = 1048576) (hx : 0 ≤ x ∧ x < 1048576) : 0 ≤ x / P ∧ x / P < Q := by
  refine ⟨Int.ediv_nonneg hx.1 (by omega), Int.ediv_lt_of_lt_mul (by omega) ?_⟩
  rw [Int.mul_comm, hPQ]
  exact hx.2
theorem mul_mod_parts {y P Q : Int} (hP : 1 ≤ P) (hQ : 1 ≤ Q) (hPQ : P * Q = 1048576) : (y * Q) % 1048576 = (y % P) * Q := by
  rw [← hPQ, Int.mul_comm y Q, Int.mul_comm P Q, Int.mul_emod_mul_of_pos _ _ (by omega), Int.mul_comm]
theorem shrL_val {P Q : Int} (hP : 1 ≤ P) (hQ : 1 ≤ Q) (hPQ : P * Q = 1048576) : ∀ l : List Int, Dg l → val (shrL P Q l) = val l / P
  | [], _ => by show (0 : Int) = 0 / P; simp
  | d :: t, h => by
    have ih := shrL_val hP hQ hPQ t h.tail
    show (d / P + (t.headD 0 * Q) % 1048576) + 1048576 * val (shrL P Q t) = (d + 1048576 * val t) / P
    rw [ih, mul_mod_parts hP hQ hPQ]
    have e1 : (d + 1048576 * val t) / P = d / P + Q * val t := by
      rw [← hPQ, Int.mul_assoc, Int.add_mul_ediv_left _ _ (by omega)]
    have e2 : val t % P = t.headD 0 % P := by
      cases t with
      | nil => rfl
      | cons y s =>
        show (y + 1048576 * val s) % P = y % P
        rw [← hPQ, Int.mul_assoc, Int.add_mul_emod_self_left]
    have e3 : P * (val t / P) + val t % P = val t := Int.mul_ediv_add_emod _ _
    rw [e1, ← e2, ← hPQ]
    have e4 : Q * val t = Q * (P * (val t / P)) + Q * (val t % P) := by rw [← Int.mul_add, e3]
    rw [e4]
    grind
theorem shrL_dg {P Q : Int} (hP : 1 ≤ P) (hQ : 1 ≤ Q) (hPQ : P * Q = 1048576) : ∀ l : List Int, Dg l → Dg (shrL P Q l)
  | [], _ => Dg.nil
  | d :: t, h => fun x hx => by
    simp only [shrL, List.mem_cons] at hx
    rcases hx with rfl | hx
    · have h1 := div_parts hP hPQ h.head
      rw [mul_mod_parts hP hQ hPQ]
      have h2 := Int.emod_nonneg (t.headD 0) (show P ≠ 0 by omega)
      have h3 := Int.emod_lt_of_pos (t.headD 0) (show 0 < P by omega)
      have h4 : 0 ≤ (t.headD 0 % P) * Q := Int.mul_nonneg h2 (by omega)
      have h5 : (t.headD 0 % P) * Q ≤ (P - 1) * Q := Int.mul_le_mul_of_nonneg_right (by omega) (by omega)
      rw [Int.sub_mul, hPQ, Int.one_mul] at h5
      omega
    · exact shrL_dg hP hQ hPQ t h.tail x hx
theorem mid_at {out r : List Int} {u : Int} {k : Nat} (h : out.length = k) : ((out ++ [u]) ++ r)[k]? = some u := by
  rw [List.append_assoc, List.getElem?_append_right (by omega), h, Nat.sub_self]
  rfl
theorem mid_set {out r : List Int} {u d : Int} {k : Nat} (h : out.length = k) : ((out ++ [u]) ++ r).set k d = (out ++ [d]) ++ r := by
  rw [List.append_assoc, List.set_append_right _ _ (by omega), h, Nat.sub_self, List.append_assoc]
  rfl
set_option maxRecDepth 100000 in
set_option maxHeartbeats 8000000 in
theorem shr_any {A : Option Addr} {n c s : Nat} {a : List Int} (w : World) (hn : a.length = n) (ha : Ints w A a) (da : Dg a) (hbig : n ≤ 1000) (hs : s ≤ 20) :
    Calls Tryd.prog 65 #[.slice A n c, .int .i64 s] w fun e w' => ∃ A2 c2 L, e = .returned (.slice A2 n c2) ∧ n ≤ c2 ∧ Ints w' A2 L ∧ Dg L ∧ L.length = n ∧ val L = val a / 2 ^ s ∧ Below w.heap.size w w' := by
  have HN := Lib.hid hn
  have HDA := Lib.hid da
  obtain ⟨p1, p2, p3⟩ := pow_in hs
  obtain ⟨q1, q2, q3⟩ := pow_in (show 20 - s ≤ 20 by omega)
  have HP1 := Lib.hid p1
  have HQ1 := Lib.hid q1
  have HQ2 := Lib.hid q2
  have HPQ := Lib.hid p3
  obtain ⟨iI, hiI, hzI, hyI, hxI⟩ := info_parts infoI
  have hmk : ∀ W : World, (Instr.makeSlice 22 (.int .i64 n) (.int .i64 n)).run Tryd.prog W = .ok (.slice (some ⟨W.heap.size, 0, none⟩) n n) (W.alloc (.cells (ics (List.replicate n 0)) 3)) := fun W => by
    have hr := run_make (P := Tryd.prog) W 22 3 iI (.int .i64 0) Tryd.underlying22 hiI hzI .i64 .i64 n n (by omega) (Int.le_refl _) (by rw [hxI]; omega) (by omega)
    rw [hyI, Int.toNat_natCast, made_ints] at hr
    exact hr
  have hs20 : IntKind.i64.wrap (20 - (s : Int)) = ((20 - s : Nat) : Int) := by rw [IntWalk.i64_in _ (by omega)]; omega
  have s0 : (0 : Int) ≤ (s : Int) := by omega
  have HLL := Lib.hid (shrL_length (2 ^ s) (2 ^ (20 - s)) a)
  clear hn da hiI hzI hyI hxI p1 p2 p3 q1 q2 q3
  go_enter Tryd.func65, Tryd.ntmps65
  go_wp2
  clear hmk
  go_loopw [13] (fun iv wr => ∃ (k : Nat), k ≤ n ∧ iv = .int .i64 k ∧ Hid (Row wr w.heap.size 3 (ics ((shrL (2 ^ s) (2 ^ (20 - s)) a).take k ++ List.replicate (n - k) 0))) ∧ Hid (Below w.heap.size w wr)) (fun iv _ => n - (intOf iv).toNat)
  case atStart => exact ⟨0, Nat.zero_le _, rfl, Lib.hid (by rw [List.take_zero]; exact Row.new _ _ _), Lib.hid (Gen.b_alloc (Below.refl _ _))⟩
  case round =>
    obtain ⟨k, hk, rfl, HR, HB⟩ := hrel
    have k0 : (0 : Int) ≤ (k : Int) := by omega
    have hg := HR.out.lt
    by_cases hlt : k < n
    · have hltI : (k : Int) < (n : Int) := by omega
      obtain ⟨bl, ol, rfl, hcell⟩ := (ha.keep HB.out) (by rw [HN.out]; omega)
      obtain ⟨x, hx⟩ := at_ a k (by rw [HN.out]; exact hlt)
      have c0 := hcell k x hx
      have hxd := HDA.out.at_ hx
      have htl : ((shrL (2 ^ s) (2 ^ (20 - s)) a).take k).length = k := by rw [List.length_take, HLL.out, HN.out]; omega
      have l1 : wr.cell? ⟨w.heap.size, k, none⟩ = some (.int .i64 0) := HR.out.intAt (at_fill htl hlt)
      have hf := HR.out.frozen k
      have hsat := shrL_at (2 ^ s) (2 ^ (20 - s)) a k x hx
      have HSET : Hid (∀ d, (shrL (2 ^ s) (2 ^ (20 - s)) a)[k]? = some d → Row (wr.setCell ⟨w.heap.size, k, none⟩ (.int .i64 d)) w.heap.size 3 (ics ((shrL (2 ^ s) (2 ^ (20 - s)) a).take (k + 1) ++ List.replicate (n - (k + 1)) 0))) := Lib.hid fun d hd => by
        rw [take_snoc hd, ← set_fill htl hlt, ← ics_set]
        exact HR.out.set _ _
      have hqx := div_parts HP1.out HPQ.out hxd
      have HB2 : Hid (∀ d, Below w.heap.size w (wr.setCell ⟨w.heap.size, k, none⟩ (.int .i64 d))) := Lib.hid fun d => Gen.b_set HB.out (Nat.le_refl _)
      have hw1 : IntKind.i64.wrap ((k : Int) + 1) = (k : Int) + 1 := IntWalk.i64_in _ (by omega)
      by_cases hlast : k + 1 < n
      · have hlI : (k : Int) + 1 < (n : Int) := by omega
        have hl0 : (0 : Int) ≤ (k : Int) + 1 := by omega
        have hl1 : ((k : Int) + 1).toNat = k + 1 := by omega
        obtain ⟨y, hy⟩ := at_ a (k + 1) (by rw [HN.out]; exact hlast)
        have c1 := hcell (k + 1) y hy
        have hyd := HDA.out.at_ hy
        rw [hy] at hsat
        rw [Option.getD_some, mul_mod_parts HP1.out HQ1.out HPQ.out] at hsat
        have hyq := shl_in hyd HQ1.out
        have hq2 := HQ2.out
        have hwy : IntKind.i64.wrap (y * 2 ^ (20 - s)) = y * 2 ^ (20 - s) := IntWalk.i64_in _ (by omega)
        have hand := and_mask (y * 2 ^ (20 - s)) (by omega)
        rw [mul_mod_parts HP1.out HQ1.out HPQ.out] at hand
        have h2 := Int.emod_nonneg y (show (2 : Int) ^ s ≠ 0 by have := HP1.out; omega)
        have h3 := Int.emod_lt_of_pos y (show (0 : Int) < 2 ^ s by have := HP1.out; omega)
        have h4 : 0 ≤ (y % 2 ^ s) * 2 ^ (20 - s) := Int.mul_nonneg h2 (by omega)
        have h5 : (y % 2 ^ s) * 2 ^ (20 - s) ≤ 2 ^ s * 2 ^ (20 - s) := Int.mul_le_mul_of_nonneg_right (by omega) (by omega)
        rw [HPQ.out] at h5
        have hor := or_i (20 - s) h4 (Int.mul_emod_left _ _) (by omega) hqx (by omega)
        obtain ⟨u, hu⟩ : ∃ u, x / 2 ^ s = u := ⟨_, rfl⟩
        obtain ⟨v, hv⟩ : ∃ v, (y % 2 ^ s) * 2 ^ (20 - s) = v := ⟨_, rfl⟩
        rw [hu, hv] at hsat hor
        rw [hv] at hand
        rw [bits_or_comm] at hor
        have hRu : Row (wr.setCell ⟨w.heap.size, k, none⟩ (.int .i64 u)) w.heap.size 3 (ics (((shrL (2 ^ s) (2 ^ (20 - s)) a).take k ++ [u]) ++ List.replicate (n - (k + 1)) 0)) := by
          rw [← set_fill htl hlt, ← ics_set]
          exact HR.out.set _ _
        obtain ⟨w1, hw1'⟩ : ∃ W, wr.setCell ⟨w.heap.size, k, none⟩ (.int .i64 u) = W := ⟨_, rfl⟩
        have HW1 := Lib.hid hw1'
        have HBu := HB2.out u
        rw [hw1'] at hRu HBu
        have HRu := Lib.hid hRu
        have HRv : Hid (Row (w1.setCell ⟨w.heap.size, k, none⟩ (.int .i64 (v + u))) w.heap.size 3 (ics ((shrL (2 ^ s) (2 ^ (20 - s)) a).take (k + 1) ++ List.replicate (n - (k + 1)) 0))) := Lib.hid (by
          have h := hRu.set k (.int .i64 (v + u))
          rw [ics_set, mid_set htl] at h
          rw [take_snoc hsat, Int.add_comm u v]
          exact h)
        have HBv : Hid (Below w.heap.size w (w1.setCell ⟨w.heap.size, k, none⟩ (.int .i64 (v + u)))) := Lib.hid (Gen.b_set HBu (Nat.le_refl _))
        obtain ⟨bl', ol', he', hcell'⟩ := (ha.keep HBu) (by rw [HN.out]; omega)
        injection he' with he'
        injection he' with e1 e2
        subst e1 e2
        have C1 := Lib.hid (hcell' (k + 1) y hy)
        have L2 := Lib.hid (hRu.intAt (mid_at htl))
        have F2 := Lib.hid (hRu.frozen k)
        have G2 := Lib.hid hRu.lt
        clear hcell hcell' hx hy hxd htl hsat HSET hqx hyd hyq hq2 h2 h3 h4 h5 hv hRu HBu hw1' c1
        go_wp2
        rw [HW1.out]
        clear c0 l1 hf hg hu
        have hf2 := F2.out
        have hg2 := G2.out
        have l2 := L2.out
        have c1 := C1.out
        go_region
        all_goals
          go_wp2
          go_roundw
          case rel => exact ⟨k + 1, by omega, by go_num, HRv, Lib.hid HBv.out.drew⟩
          case measure => simp [intOf]; omega
      · have hlI : ¬ ((k : Int) + 1 < (n : Int)) := by omega
        have hno : a[k + 1]? = none := List.getElem?_eq_none (by rw [HN.out]; omega)
        rw [hno, Option.getD_none, Int.zero_mul, Int.zero_emod, Int.add_zero] at hsat
        obtain ⟨u, hu⟩ : ∃ u, x / 2 ^ s = u := ⟨_, rfl⟩
        rw [hu] at hsat
        have HRv := Lib.hid (HSET.out u hsat)
        have HBv := Lib.hid (HB2.out u)
        clear hcell hx hxd htl hsat HSET hqx HB2
        go_wp2
        clear hu
        go_roundw
        case rel => exact ⟨k + 1, by omega, by go_num, HRv, HBv⟩
        case measure => simp [intOf]; omega
    · obtain rfl : n = k := by omega
      have HI : Hid (Ints wr (some ⟨w.heap.size, 0, none⟩) (shrL (2 ^ s) (2 ^ (20 - s)) a)) := Lib.hid (by
        have h := HR.out
        rw [Nat.sub_self, List.replicate_zero, List.append_nil, List.take_of_length_le (by rw [HLL.out, HN.out]; exact Nat.le_refl _)] at h
        exact h.ints)
      go_wp2
      go_ret
      exact ⟨_, n, _, rfl, Nat.le_refl _, HI.out, shrL_dg HP1.out HQ1.out HPQ.out a HDA.out, by rw [HLL.out, HN.out], shrL_val HP1.out HQ1.out HPQ.out a HDA.out, HB.out⟩
/-- what changes block g alone -/
structure Only (g : Nat) (w w' : World) : Prop where
  bl : ∀ w0 : World, Below w0.heap.size w0 w → w0.heap.size ≤ g → Below w0.heap.size w0 w'
  row : ∀ b t cs, b ≠ g → Row w b t cs → Row w' b t cs
  sz : w'.heap.size = w.heap.size
theorem Only.refl (g : Nat) (w : World) : Only g w w := ⟨fun _ h _ => h, fun _ _ _ _ h => h, rfl⟩
theorem Only.trans {g : Nat} {w w1 w2 : World} (h : Only g w w1) (h' : Only g w1 w2) : Only g w w2 :=
  ⟨fun w0 a b => h'.bl w0 (h.bl w0 a b) b, fun b t cs n r => h'.row b t cs n (h.row b t cs n r), h'.sz.trans h.sz⟩
theorem Only.set {g : Nat} {w w1 : World} (h : Only g w w1) (j : Nat) (u : Value) : Only g w (w1.setCell ⟨g, j, none⟩ u) :=
  ⟨fun w0 a b => (h.bl w0 a b).setCell (p := ⟨g, j, none⟩) b u, fun b t cs n r => by
    have := h.row b t cs n r
    unfold Row at this ⊢
    rw [← this]
    exact Below.heap_setCell w1 ⟨g, j, none⟩ u b n, by rw [← h.sz]; simp [World.setCell]⟩
theorem Only.drew {g : Nat} {w w1 : World} (h : Only g w w1) : Only g w w1.drew := ⟨fun w0 a b => (h.bl w0 a b).drew, fun b t cs n r => h.row b t cs n r, h.sz⟩
theorem Only.drewN {g : Nat} {w w1 : World} (h : Only g w w1) (k : Nat) : Only g w (w1.drewN k) := ⟨fun w0 a b => Gen.dN (h.bl w0 a b) k, fun b t cs n r => h.row b t cs n r, h.sz⟩
end Go.Proofs.YtnifkianjpjahaaDoor.Bg
