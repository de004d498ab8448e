/- Texts of one kind joined: the third part. -/
import Derived.Test.YtnifkianjpjahaaGreatDoorTmB
import Derived.Lib.Strings
import Derived.Lib.Slices
import Derived.Lib.Small
import Derived.Lib.Walk
import Derived.Lib.BitFns
import Derived.BigRegion
import Derived.Deep.DeepCutAuto
/- Big integers: shifts. -/
namespace Go.Proofs.YtnifkianjpjahaaGreatDoor.Bg
open Go.ChangeShapes Go.WideShapes Go.ChangeAt Go.RowKit Go.Proofs.YtnifkianjpjahaaGreatDoor.Cell
set_option linter.unusedVariables false
set_option linter.unusedSimpArgs false
variable {N0 : Nat}

theorem bitLen_lt : ∀ (f x : Nat), x < 2 ^ f → x < 2 ^ Lib.bitLenAux f x
  | 0, x, h => by simpa [Lib.bitLenAux] using h
  | f + 1, x, h => by
    simp only [Lib.bitLenAux]
    split
    · rename_i e; subst e; simp
    · have := bitLen_lt f (x / 2) (by rw [Nat.pow_succ] at h; omega)
      rw [Nat.add_comm, Nat.pow_succ]
      omega
theorem len8_in (y : Int) (h0 : 0 ≤ y) (h1 : y ≤ 255) : ∃ k : Nat, Lib.len8 y = (k : Int) ∧ k ≤ 8 ∧ y < 2 ^ k ∧ (y < 16 → k ≤ 4) := by
  refine ⟨Lib.bitLen y.toNat, Lib.len8_of y h0 h1, Lib.bitLen_le8' y h0 h1, ?_, fun h => Lib.bitLen_le _ 4 (by decide) (by omega)⟩
  have := bitLen_lt 64 y.toNat (by omega)
  have h2 : (y.toNat : Int) < ((2 ^ Lib.bitLen y.toNat : Nat) : Int) := by exact_mod_cast this
  rw [Int.toNat_of_nonneg h0] at h2
  simpa using h2
set_option maxRecDepth 100000 in
set_option maxHeartbeats 4000000 in
theorem len64_any (x : Int) (w : World) (h0 : 0 ≤ x) (h1 : x < 1048576) :
    Calls Tryz.prog 133 #[.int .u64 x] w fun e w' => ∃ k : Nat, e = .returned (.int .i64 k) ∧ k ≤ 20 ∧ x < 2 ^ k ∧ w' = w := by
  have n32 : ¬ (4294967296 ≤ x) := by omega
  by_cases h16 : 65536 ≤ x
  · have n8 : ¬ (256 ≤ x / 65536) := by omega
    obtain ⟨k, hk, hk8, hx, hk4⟩ := len8_in (x / 65536) (by omega) (by omega)
    have q0 : 0 ≤ x / 65536 := by omega
    have q1 : x / 65536 ≤ 255 := by omega
    have HL : Hid (k + 16 ≤ 20 ∧ x < 2 ^ (k + 16)) := Lib.hid ⟨by have := hk4 (by omega); omega, by
      have e : (2 : Int) ^ (k + 16) = 2 ^ k * 65536 := by rw [Int.pow_add]; rfl
      rw [e]; omega⟩
    have HK := Lib.hid hk
    clear hk4 hx hk
    go_enter Tryz.func133, Tryz.ntmps133
    go_wp2
    all_goals
      go_ret
      refine ⟨k + 16, congrArg Ending.returned (congrArg (Value.int IntKind.i64) ?_), HL.out.1, HL.out.2, rfl⟩
      rw [HK.out]
      unfold wrap64
      omega
  · by_cases h8 : 256 ≤ x
    · obtain ⟨k, hk, hk8, hx, hk4⟩ := len8_in (x / 256) (by omega) (by omega)
      have q0 : 0 ≤ x / 256 := by omega
      have q1 : x / 256 ≤ 255 := by omega
      have HK := Lib.hid hk
      have HL : Hid (k + 8 ≤ 20 ∧ x < 2 ^ (k + 8)) := Lib.hid ⟨by omega, by
        have e : (2 : Int) ^ (k + 8) = 2 ^ k * 256 := by rw [Int.pow_add]; rfl
        rw [e]; omega⟩
      clear hk4 hx hk
      go_enter Tryz.func133, Tryz.ntmps133
      go_wp2
      all_goals
        go_ret
        refine ⟨k + 8, congrArg Ending.returned (congrArg (Value.int IntKind.i64) ?_), HL.out.1, HL.out.2, rfl⟩
        rw [HK.out]
        unfold wrap64
        omega
    · obtain ⟨k, hk, hk8, hx, hk4⟩ := len8_in x (by omega) (by omega)
      have q0 : 0 ≤ x := by omega
      have q1 : x ≤ 255 := by omega
      have HK := Lib.hid hk
      have HL : Hid (k ≤ 20 ∧ x < 2 ^ k) := Lib.hid ⟨by omega, hx⟩
      clear hk4 hk hx
      go_enter Tryz.func133, Tryz.ntmps133
      go_wp2
      all_goals
        go_ret
        refine ⟨k, congrArg Ending.returned (congrArg (Value.int IntKind.i64) ?_), HL.out.1, HL.out.2, rfl⟩
        rw [HK.out]
        unfold wrap64
        omega
set_option maxRecDepth 100000 in
theorem lenb_any (x : Int) (w : World) (h0 : 0 ≤ x) (h1 : x < 1048576) :
    Calls Tryz.prog 118 #[.int .u64 x] w fun e w' => ∃ k : Nat, e = .returned (.int .i64 k) ∧ k ≤ 20 ∧ x < 2 ^ k ∧ w' = w := by
  go_enter Tryz.func118, Tryz.ntmps118
  go_wp2_with (fail)
  go_must (refine (len64_any x _ h0 h1).mono ?_)
  rintro e w1 ⟨k, rfl, h2, h3, rfl⟩
  have H2 := Lib.hid h2
  have H3 := Lib.hid h3
  clear h2 h3
  go_wp2
  go_ret
  exact ⟨k, rfl, H2.out, H3.out, rfl⟩
/-- a shift to the left, digit by digit -/
structure Sh (a out : List Int) (P : Int) (k : Nat) (cy : Int) : Prop where
  dg : Dg out
  len : out.length = k
  rng : 0 ≤ cy ∧ cy < P
  eq : val out + pw k * cy = val (a.take k) * P
theorem Sh.start (a : List Int) {P : Int} (hP : 1 ≤ P) : Sh a [] P 0 0 := ⟨Dg.nil, rfl, by omega, by rw [List.take_zero, val_nil]; simp⟩
theorem shl_in {x P : Int} (hx : 0 ≤ x ∧ x < 1048576) (hP : 1 ≤ P) : 0 ≤ x * P ∧ x * P ≤ 1048575 * P := ⟨Int.mul_nonneg hx.1 (by omega), Int.mul_le_mul_of_nonneg_right (by omega) (by omega)⟩
theorem Sh.step {a out : List Int} {P : Int} {k : Nat} {cy x : Int} (h : Sh a out P k cy) (da : Dg a) (hP : 1 ≤ P) (hx : a[k]? = some x) : Sh a (out ++ [(x * P + cy) % 1048576]) P (k + 1) ((x * P + cy) / 1048576) := by
  have h1 := shl_in (da.at_ hx) hP
  have h3 := h.rng
  refine ⟨h.dg.snoc (by omega), by rw [List.length_append, h.len]; rfl, by omega, ?_⟩
  rw [val_snoc, h.len, val_take_succ hx, pw_succ, Int.add_mul, ← h.eq]
  have h4 : 1048576 * ((x * P + cy) / 1048576) + (x * P + cy) % 1048576 = x * P + cy := by omega
  obtain ⟨q, hq⟩ : ∃ q, (x * P + cy) / 1048576 = q := ⟨_, rfl⟩
  obtain ⟨r, hr⟩ : ∃ r, (x * P + cy) % 1048576 = r := ⟨_, rfl⟩
  rw [hq, hr] at h4
  rw [hq, hr]
  have h5 : cy = 1048576 * q + r - x * P := by omega
  rw [h5]
  grind
theorem Sh.done {a out : List Int} {P : Int} {cy : Int} (h : Sh a out P a.length cy) : val (out ++ [cy]) = val a * P := by
  rw [val_snoc, h.len, h.eq, List.take_length]
theorem pow_in {s : Nat} (h : s ≤ 20) : (1 : Int) ≤ 2 ^ s ∧ (2 : Int) ^ s ≤ 1048576 ∧ (2 : Int) ^ s * 2 ^ (20 - s) = 1048576 := by
  have h1 : (2 : Int) ^ s * 2 ^ (20 - s) = 1048576 := by
    rw [← Int.pow_add, Nat.add_sub_cancel' h]; rfl
  have h2 : ∀ m : Nat, (1 : Int) ≤ 2 ^ m := fun m => by
    induction m with
    | zero => simp
    | succ m ih => rw [Int.pow_succ]; omega
  have h3 : (2 : Int) ^ s * 1 ≤ 2 ^ s * 2 ^ (20 - s) := Int.mul_le_mul_of_nonneg_left (h2 _) (by have := h2 s; omega)
  exact ⟨h2 s, by omega, h1⟩
theorem or_i (i : Nat) {x y : Int} (hx0 : 0 ≤ x) (hx : x % 2 ^ i = 0) (hx1 : x < 2 ^ 63) (hy : 0 ≤ y ∧ y < 2 ^ i) (hy1 : y < 2 ^ 63) : bits .or .i64 x y = x + y :=
  bits_join .i64 63 (by decide) (fun n h0 h1 => IntWalk.i64_in n (by omega)) i x y hx0 hx hx1 hy.1 hy.2 hy1
set_option maxRecDepth 100000 in
set_option maxHeartbeats 8000000 in
theorem shl_any {A : Option Addr} {n c s : Nat} {a : List Int} (w : World) (hn : a.length = n) (ha : Ints N0 w A a) (da : Dg a) (hbig : n ≤ 1000) (hs : s ≤ 20) :
    Calls Tryz.prog 119 #[.slice A n c, .int .i64 s] w fun e w' => ∃ g L, e = .returned (.slice (some ⟨g, 0, none⟩) (n + 1) (n + 1)) ∧ Row w' g 3 (ics L) ∧ w.heap.size ≤ g ∧ Dg L ∧ L.length = n + 1 ∧ val L = val a * 2 ^ s ∧ Below w.heap.size w w' := by
  have HN := Lib.hid hn
  have HDA := Lib.hid da
  obtain ⟨p1, p2, p3⟩ := pow_in hs
  have HP1 := Lib.hid p1
  have HP2 := Lib.hid p2
  obtain ⟨iI, hiI, hzI, hyI, hxI⟩ := info_parts infoI
  have hmk : ∀ W : World, (Instr.makeSlice 22 (.int .i64 ((n : Int) + 1)) (.int .i64 ((n : Int) + 1))).run Tryz.prog W = .ok (.slice (some ⟨W.heap.size, 0, none⟩) (n + 1) (n + 1)) (W.alloc (.cells (ics (List.replicate (n + 1) 0)) 3)) := fun W => by
    have hr := run_make (P := Tryz.prog) W 22 3 iI (.int .i64 0) Tryz.underlying22 hiI hzI .i64 .i64 ((n + 1 : Nat) : Int) ((n + 1 : Nat) : Int) (by omega) (Int.le_refl _) (by rw [hxI]; omega) (by omega)
    rw [hyI, Int.toNat_natCast, made_ints] at hr
    rw [show (n : Int) + 1 = ((n + 1 : Nat) : Int) by omega]
    exact hr
  have hw1 : IntKind.i64.wrap ((n : Int) + 1) = (n : Int) + 1 := IntWalk.i64_in _ (by omega)
  have s0 : (0 : Int) ≤ (s : Int) := by omega
  have hn1 : (n : Int) < (n : Int) + 1 := by omega
  clear hn da hiI hzI hyI hxI p1 p2 p3
  go_enter Tryz.func119, Tryz.ntmps119
  go_wp2
  clear hmk hw1
  go_loopw [6, 16] (fun cv iv wr => ∃ (k : Nat) (out : List Int) (cy : Int), k ≤ n ∧ iv = .int .i64 k ∧ cv = .int .i64 cy ∧ Hid (Row wr w.heap.size 3 (ics (out ++ List.replicate (n + 1 - k) 0))) ∧ Hid (Sh a out (2 ^ s) k cy) ∧ Hid (Below w.heap.size w wr)) (fun _ iv _ => n - (intOf iv).toNat)
  case atStart => exact ⟨0, [], 0, Nat.zero_le _, rfl, rfl, Lib.hid (Row.new _ _ _), Lib.hid (Sh.start a HP1.out), Lib.hid (Gen.b_alloc (Below.refl _ _))⟩
  case round =>
    obtain ⟨k, out, cy, hk, rfl, rfl, HR, HS, HB⟩ := hrel
    have k0 : (0 : Int) ≤ (k : Int) := by omega
    obtain ⟨y0, y1⟩ := HS.out.rng
    have hg := HR.out.lt
    by_cases hlt : k < n
    · have hltI : (k : Int) < (n : Int) := by omega
      obtain ⟨bl, ol, rfl, hcell⟩ := (ha.keep HB.out) (by rw [HN.out]; omega)
      obtain ⟨x, hx⟩ := at_ a k (by rw [HN.out]; exact hlt)
      have c0 := hcell k x hx
      have hxd := HDA.out.at_ hx
      have hsi := shl_in hxd HP1.out
      have hp2 := HP2.out
      have l1 : wr.cell? ⟨w.heap.size, k, none⟩ = some (.int .i64 0) := HR.out.intAt (at_fill HS.out.len (by omega))
      have hf := HR.out.frozen k
      have hst := HS.out.step HDA.out HP1.out hx
      have hor := or_i s hsi.1 (Int.mul_emod_left _ _) (by omega) ⟨y0, y1⟩ (by omega)
      have hwx : IntKind.i64.wrap (x * 2 ^ s) = x * 2 ^ s := IntWalk.i64_in _ (by omega)
      obtain ⟨p, hp⟩ : ∃ p, x * 2 ^ s = p := ⟨_, rfl⟩
      rw [hp] at hst hor hwx hsi
      have hand := and_mask (p + cy) (by omega)
      obtain ⟨d, hd⟩ : ∃ d, (p + cy) % 1048576 = d := ⟨_, rfl⟩
      obtain ⟨q, hq⟩ : ∃ q, (p + cy) / 1048576 = q := ⟨_, rfl⟩
      rw [hd, hq] at hst
      rw [hd] at hand
      have HS2 := Lib.hid hst
      have hnk : k + 1 ≤ n + 1 := by omega
      have HR2 : Hid (Row (wr.setCell ⟨w.heap.size, k, none⟩ (.int .i64 d)) w.heap.size 3 (ics ((out ++ [d]) ++ List.replicate (n + 1 - (k + 1)) 0))) := Lib.hid (by
        rw [← set_fill HS.out.len (by omega), ← ics_set]
        exact HR.out.set _ _)
      have HB2 : Hid (Below w.heap.size w (wr.setCell ⟨w.heap.size, k, none⟩ (.int .i64 d))) := Lib.hid (Gen.b_set HB.out (Nat.le_refl _))
      clear hcell hx hxd hsi hp2 hst hd
      go_wp2
      go_roundw
      case rel => exact ⟨k + 1, out ++ [d], q, by omega, by go_num, rfl, HR2, HS2, HB2⟩
      case measure => simp [intOf]; omega
    · obtain rfl : n = k := by omega
      have l1 : wr.cell? ⟨w.heap.size, n, none⟩ = some (.int .i64 0) := HR.out.intAt (at_fill HS.out.len (by omega))
      have hf := HR.out.frozen n
      have HE : Hid (val (out ++ [cy]) = val a * 2 ^ s) := Lib.hid (by
        have h := HS.out
        rw [← HN.out] at h
        exact h.done)
      have HL := Lib.hid HS.out.len
      have HD : Hid (Dg (out ++ [cy])) := Lib.hid (HS.out.dg.snoc (by have := HP2.out; omega))
      have HR2 : Hid (Row (wr.setCell ⟨w.heap.size, n, none⟩ (.int .i64 cy)) w.heap.size 3 (ics (out ++ [cy]))) := Lib.hid (by
        have h := HR.out.set n (.int .i64 cy)
        rw [ics_set, set_fill HS.out.len (by omega), Nat.sub_self, List.replicate_zero, List.append_nil] at h
        exact h)
      have HB2 : Hid (Below w.heap.size w (wr.setCell ⟨w.heap.size, n, none⟩ (.int .i64 cy))) := Lib.hid (Gen.b_set HB.out (Nat.le_refl _))
      go_wp2
      go_ret
      exact ⟨_, out ++ [cy], rfl, HR2.out, Nat.le_refl _, HD.out, by rw [List.length_append, HL.out]; rfl, HE.out, HB2.out⟩
end Go.Proofs.YtnifkianjpjahaaGreatDoor.Bg
/- Big integers: shifts to the right; digits that are written over. -/
namespace Go.Proofs.YtnifkianjpjahaaGreatDoor.Bg
open Go.ChangeShapes Go.WideShapes Go.ChangeAt Go.RowKit Go.Proofs.YtnifkianjpjahaaGreatDoor.Cell
set_option linter.unusedVariables false
set_option linter.unusedSimpArgs false
variable {N0 : Nat}

/-- digits shifted to the right -/
def shrL (P Q : Int) : List Int → List Int
  | [] => []
  | d :: t => (d / P + (t.headD 0 * Q) % 1048576) :: shrL P Q t
theorem shrL_length (P Q : Int) (l : List Int) : (shrL P Q l).length = l.length := by
  induction l with
  | nil => rfl
  | cons d t ih => simp [shrL, ih]
theorem shrL_at (P Q : Int) : ∀ (l : List Int) (k : Nat) (x : Int), l[k]? = some x → (shrL P Q l)[k]? = some (x / P + ((l[k + 1]?).getD 0 * Q) % 1048576)
  | [], k, x, h => by simp at h
  | d :: t, 0, x, h => by
    have : d = x := by simpa using h
    subst this
    cases t <;> simp [shrL]
  | d :: t, k + 1, x, h => by
    have := shrL_at P Q t k x (by simpa using h)
    simpa [shrL] using this
theorem div_parts {x P Q : Int} (hP : 1 ≤ P) (hPQ : P * Q = 1048576) (hx : 0 ≤ x ∧ x < 1048576) : 0 ≤ x / P ∧ x / P < Q := by
  refine ⟨Int.ediv_nonneg hx.1 (by omega), Int.ediv_lt_of_lt_mul (by omega) ?_⟩
  rw [Int.mul_comm, hPQ]
  exact hx.2
theorem mul_mod_parts {y P Q : Int} (hP : 1 ≤ P) (hQ : 1 ≤ Q) (hPQ : P * Q = 1048576) : (y * Q) % 1048576 = (y % P) * Q := by
  rw [← hPQ, Int.mul_comm y Q, Int.mul_comm P Q, Int.mul_emod_mul_of_pos _ _ (by omega), Int.mul_comm]
theorem shrL_val {P Q : Int} (hP : 1 ≤ P) (hQ : 1 ≤ Q) (hPQ : P * Q = 1048576) : ∀ l : List Int, Dg l → val (shrL P Q l) = val l / P
  | [], _ => by show (0 : Int) = 0 / P; simp
  | d :: t, h => by
    have ih := shrL_val hP hQ hPQ t h.tail
    show (d / P + (t.headD 0 * Q) % 1048576) + 1048576 * val (shrL P Q t) = (d + 1048576 * val t) / P
    rw [ih, mul_mod_parts hP hQ hPQ]
    have e1 : (d + 1048576 * val t) / P = d / P + Q * val t := by
      rw [← hPQ, Int.mul_assoc, Int.add_mul_ediv_left _ _ (by omega)]
    have e2 : val t % P = t.headD 0 % P := by
      cases t with
      | nil => rfl
      | cons y s =>
        show (y + 1048576 * val s) % P = y % P
        rw [← hPQ, Int.mul_assoc, Int.add_mul_emod_self_left]
    have e3 : P * (val t / P) + val t % P = val t := Int.mul_ediv_add_emod _ _
    rw [e1, ← e2, ← hPQ]
    have e4 : Q * val t = Q * (P * (val t / P)) + Q * (val t % P) := by rw [← Int.mul_add, e3]
    rw [e4]
    grind
theorem shrL_dg {P Q : Int} (hP : 1 ≤ P) (hQ : 1 ≤ Q) (hPQ : P * Q = 1048576) : ∀ l : List Int, Dg l → Dg (shrL P Q l)
  | [], _ => Dg.nil
  | d :: t, h => fun x hx => by
    simp only [shrL, List.mem_cons] at hx
    rcases hx with rfl | hx
    · have h1 := div_parts hP hPQ h.head
      rw [mul_mod_parts hP hQ hPQ]
      have h2 := Int.emod_nonneg (t.headD 0) (show P ≠ 0 by omega)
      have h3 := Int.emod_lt_of_pos (t.headD 0) (show 0 < P by omega)
      have h4 : 0 ≤ (t.headD 0 % P) * Q := Int.mul_nonneg h2 (by omega)
      have h5 : (t.headD 0 % P) * Q ≤ (P - 1) * Q := Int.mul_le_mul_of_nonneg_right (by omega) (by omega)
      rw [Int.sub_mul, hPQ, Int.one_mul] at h5
      omega
    · exact shrL_dg hP hQ hPQ t h.tail x hx
theorem mid_at {out r : List Int} {u : Int} {k : Nat} (h : out.length = k) : ((out ++ [u]) ++ r)[k]? = some u := by
  rw [List.append_assoc, List.getElem?_append_right (by omega), h, Nat.sub_self]
  rfl
theorem mid_set {out r : List Int} {u d : Int} {k : Nat} (h : out.length = k) : ((out ++ [u]) ++ r).set k d = (out ++ [d]) ++ r := by
  rw [List.append_assoc, List.set_append_right _ _ (by omega), h, Nat.sub_self, List.append_assoc]
  rfl
set_option maxRecDepth 100000 in
set_option maxHeartbeats 8000000 in
theorem shr_any {A : Option Addr} {n c s : Nat} {a : List Int} (w : World) (hn : a.length = n) (ha : Ints N0 w A a) (da : Dg a) (hbig : n ≤ 1000) (hs : s ≤ 20) :
    Calls Tryz.prog 122 #[.slice A n c, .int .i64 s] w fun e w' => ∃ A2 c2 L, e = .returned (.slice A2 n c2) ∧ n ≤ c2 ∧ Ints N0 w' A2 L ∧ Dg L ∧ L.length = n ∧ val L = val a / 2 ^ s ∧ Below w.heap.size w w' := by
  have HN := Lib.hid hn
  have HDA := Lib.hid da
  obtain ⟨p1, p2, p3⟩ := pow_in hs
  obtain ⟨q1, q2, q3⟩ := pow_in (show 20 - s ≤ 20 by omega)
  have HP1 := Lib.hid p1
  have HQ1 := Lib.hid q1
  have HQ2 := Lib.hid q2
  have HPQ := Lib.hid p3
  obtain ⟨iI, hiI, hzI, hyI, hxI⟩ := info_parts infoI
  have hmk : ∀ W : World, (Instr.makeSlice 22 (.int .i64 n) (.int .i64 n)).run Tryz.prog W = .ok (.slice (some ⟨W.heap.size, 0, none⟩) n n) (W.alloc (.cells (ics (List.replicate n 0)) 3)) := fun W => by
    have hr := run_make (P := Tryz.prog) W 22 3 iI (.int .i64 0) Tryz.underlying22 hiI hzI .i64 .i64 n n (by omega) (Int.le_refl _) (by rw [hxI]; omega) (by omega)
    rw [hyI, Int.toNat_natCast, made_ints] at hr
    exact hr
  have hs20 : IntKind.i64.wrap (20 - (s : Int)) = ((20 - s : Nat) : Int) := by rw [IntWalk.i64_in _ (by omega)]; omega
  have s0 : (0 : Int) ≤ (s : Int) := by omega
  have HLL := Lib.hid (shrL_length (2 ^ s) (2 ^ (20 - s)) a)
  clear hn da hiI hzI hyI hxI p1 p2 p3 q1 q2 q3
  go_enter Tryz.func122, Tryz.ntmps122
  go_wp2
  clear hmk
  go_loopw [13] (fun iv wr => ∃ (k : Nat), k ≤ n ∧ iv = .int .i64 k ∧ Hid (Row wr w.heap.size 3 (ics ((shrL (2 ^ s) (2 ^ (20 - s)) a).take k ++ List.replicate (n - k) 0))) ∧ Hid (Below w.heap.size w wr)) (fun iv _ => n - (intOf iv).toNat)
  case atStart => exact ⟨0, Nat.zero_le _, rfl, Lib.hid (by rw [List.take_zero]; exact Row.new _ _ _), Lib.hid (Gen.b_alloc (Below.refl _ _))⟩
  case round =>
    obtain ⟨k, hk, rfl, HR, HB⟩ := hrel
    have k0 : (0 : Int) ≤ (k : Int) := by omega
    have hg := HR.out.lt
    by_cases hlt : k < n
    · have hltI : (k : Int) < (n : Int) := by omega
      obtain ⟨bl, ol, rfl, hcell⟩ := (ha.keep HB.out) (by rw [HN.out]; omega)
      obtain ⟨x, hx⟩ := at_ a k (by rw [HN.out]; exact hlt)
      have c0 := hcell k x hx
      have hxd := HDA.out.at_ hx
      have htl : ((shrL (2 ^ s) (2 ^ (20 - s)) a).take k).length = k := by rw [List.length_take, HLL.out, HN.out]; omega
      have l1 : wr.cell? ⟨w.heap.size, k, none⟩ = some (.int .i64 0) := HR.out.intAt (at_fill htl hlt)
      have hf := HR.out.frozen k
      have hsat := shrL_at (2 ^ s) (2 ^ (20 - s)) a k x hx
      have HSET : Hid (∀ d, (shrL (2 ^ s) (2 ^ (20 - s)) a)[k]? = some d → Row (wr.setCell ⟨w.heap.size, k, none⟩ (.int .i64 d)) w.heap.size 3 (ics ((shrL (2 ^ s) (2 ^ (20 - s)) a).take (k + 1) ++ List.replicate (n - (k + 1)) 0))) := Lib.hid fun d hd => by
        rw [take_snoc hd, ← set_fill htl hlt, ← ics_set]
        exact HR.out.set _ _
      have hqx := div_parts HP1.out HPQ.out hxd
      have HB2 : Hid (∀ d, Below w.heap.size w (wr.setCell ⟨w.heap.size, k, none⟩ (.int .i64 d))) := Lib.hid fun d => Gen.b_set HB.out (Nat.le_refl _)
      have hw1 : IntKind.i64.wrap ((k : Int) + 1) = (k : Int) + 1 := IntWalk.i64_in _ (by omega)
      by_cases hlast : k + 1 < n
      · have hlI : (k : Int) + 1 < (n : Int) := by omega
        have hl0 : (0 : Int) ≤ (k : Int) + 1 := by omega
        have hl1 : ((k : Int) + 1).toNat = k + 1 := by omega
        obtain ⟨y, hy⟩ := at_ a (k + 1) (by rw [HN.out]; exact hlast)
        have c1 := hcell (k + 1) y hy
        have hyd := HDA.out.at_ hy
        rw [hy] at hsat
        rw [Option.getD_some, mul_mod_parts HP1.out HQ1.out HPQ.out] at hsat
        have hyq := shl_in hyd HQ1.out
        have hq2 := HQ2.out
        have hwy : IntKind.i64.wrap (y * 2 ^ (20 - s)) = y * 2 ^ (20 - s) := IntWalk.i64_in _ (by omega)
        have hand := and_mask (y * 2 ^ (20 - s)) (by omega)
        rw [mul_mod_parts HP1.out HQ1.out HPQ.out] at hand
        have h2 := Int.emod_nonneg y (show (2 : Int) ^ s ≠ 0 by have := HP1.out; omega)
        have h3 := Int.emod_lt_of_pos y (show (0 : Int) < 2 ^ s by have := HP1.out; omega)
        have h4 : 0 ≤ (y % 2 ^ s) * 2 ^ (20 - s) := Int.mul_nonneg h2 (by omega)
        have h5 : (y % 2 ^ s) * 2 ^ (20 - s) ≤ 2 ^ s * 2 ^ (20 - s) := Int.mul_le_mul_of_nonneg_right (by omega) (by omega)
        rw [HPQ.out] at h5
        have hor := or_i (20 - s) h4 (Int.mul_emod_left _ _) (by omega) hqx (by omega)
        obtain ⟨u, hu⟩ : ∃ u, x / 2 ^ s = u := ⟨_, rfl⟩
        obtain ⟨v, hv⟩ : ∃ v, (y % 2 ^ s) * 2 ^ (20 - s) = v := ⟨_, rfl⟩
        rw [hu, hv] at hsat hor
        rw [hv] at hand
        rw [bits_or_comm] at hor
        have hRu : Row (wr.setCell ⟨w.heap.size, k, none⟩ (.int .i64 u)) w.heap.size 3 (ics (((shrL (2 ^ s) (2 ^ (20 - s)) a).take k ++ [u]) ++ List.replicate (n - (k + 1)) 0)) := by
          rw [← set_fill htl hlt, ← ics_set]
          exact HR.out.set _ _
        obtain ⟨w1, hw1'⟩ : ∃ W, wr.setCell ⟨w.heap.size, k, none⟩ (.int .i64 u) = W := ⟨_, rfl⟩
        have HW1 := Lib.hid hw1'
        have HBu := HB2.out u
        rw [hw1'] at hRu HBu
        have HRu := Lib.hid hRu
        have HRv : Hid (Row (w1.setCell ⟨w.heap.size, k, none⟩ (.int .i64 (v + u))) w.heap.size 3 (ics ((shrL (2 ^ s) (2 ^ (20 - s)) a).take (k + 1) ++ List.replicate (n - (k + 1)) 0))) := Lib.hid (by
          have h := hRu.set k (.int .i64 (v + u))
          rw [ics_set, mid_set htl] at h
          rw [take_snoc hsat, Int.add_comm u v]
          exact h)
        have HBv : Hid (Below w.heap.size w (w1.setCell ⟨w.heap.size, k, none⟩ (.int .i64 (v + u)))) := Lib.hid (Gen.b_set HBu (Nat.le_refl _))
        obtain ⟨bl', ol', he', hcell'⟩ := (ha.keep HBu) (by rw [HN.out]; omega)
        injection he' with he'
        injection he' with e1 e2
        subst e1 e2
        have C1 := Lib.hid (hcell' (k + 1) y hy)
        have L2 := Lib.hid (hRu.intAt (mid_at htl))
        have F2 := Lib.hid (hRu.frozen k)
        have G2 := Lib.hid hRu.lt
        clear hcell hcell' hx hy hxd htl hsat HSET hqx hyd hyq hq2 h2 h3 h4 h5 hv hRu HBu hw1' c1
        go_wp2
        rw [HW1.out]
        clear c0 l1 hf hg hu
        have hf2 := F2.out
        have hg2 := G2.out
        have l2 := L2.out
        have c1 := C1.out
        go_region
        all_goals
          go_wp2
          go_roundw
          case rel => exact ⟨k + 1, by omega, by go_num, HRv, Lib.hid HBv.out.drew⟩
          case measure => simp [intOf]; omega
      · have hlI : ¬ ((k : Int) + 1 < (n : Int)) := by omega
        have hno : a[k + 1]? = none := List.getElem?_eq_none (by rw [HN.out]; omega)
        rw [hno, Option.getD_none, Int.zero_mul, Int.zero_emod, Int.add_zero] at hsat
        obtain ⟨u, hu⟩ : ∃ u, x / 2 ^ s = u := ⟨_, rfl⟩
        rw [hu] at hsat
        have HRv := Lib.hid (HSET.out u hsat)
        have HBv := Lib.hid (HB2.out u)
        clear hcell hx hxd htl hsat HSET hqx HB2
        go_wp2
        clear hu
        go_roundw
        case rel => exact ⟨k + 1, by omega, by go_num, HRv, HBv⟩
        case measure => simp [intOf]; omega
    · obtain rfl : n = k := by omega
      have HI : Hid (Ints N0 wr (some ⟨w.heap.size, 0, none⟩) (shrL (2 ^ s) (2 ^ (20 - s)) a)) := Lib.hid (by
        have h := HR.out
        rw [Nat.sub_self, List.replicate_zero, List.append_nil, List.take_of_length_le (by rw [HLL.out, HN.out]; exact Nat.le_refl _)] at h
        exact (h.ints' (N0 := N0)))
      go_wp2
      go_ret
      exact ⟨_, n, _, rfl, Nat.le_refl _, HI.out, shrL_dg HP1.out HQ1.out HPQ.out a HDA.out, by rw [HLL.out, HN.out], shrL_val HP1.out HQ1.out HPQ.out a HDA.out, HB.out⟩
/-- what changes block g alone -/
structure Only (g : Nat) (w w' : World) : Prop where
  bl : ∀ w0 : World, Below w0.heap.size w0 w → w0.heap.size ≤ g → Below w0.heap.size w0 w'
  row : ∀ b t cs, b ≠ g → Row w b t cs → Row w' b t cs
  sz : w'.heap.size = w.heap.size
theorem Only.refl (g : Nat) (w : World) : Only g w w := ⟨fun _ h _ => h, fun _ _ _ _ h => h, rfl⟩
theorem Only.trans {g : Nat} {w w1 w2 : World} (h : Only g w w1) (h' : Only g w1 w2) : Only g w w2 :=
  ⟨fun w0 a b => h'.bl w0 (h.bl w0 a b) b, fun b t cs n r => h'.row b t cs n (h.row b t cs n r), h'.sz.trans h.sz⟩
theorem Only.set {g : Nat} {w w1 : World} (h : Only g w w1) (j : Nat) (u : Value) : Only g w (w1.setCell ⟨g, j, none⟩ u) :=
  ⟨fun w0 a b => (h.bl w0 a b).setCell (p := ⟨g, j, none⟩) b u, fun b t cs n r => by
    have := h.row b t cs n r
    unfold Row at this ⊢
    rw [← this]
    exact Below.heap_setCell w1 ⟨g, j, none⟩ u b n, by rw [← h.sz]; simp [World.setCell]⟩
theorem Only.drew {g : Nat} {w w1 : World} (h : Only g w w1) : Only g w w1.drew := ⟨fun w0 a b => (h.bl w0 a b).drew, fun b t cs n r => h.row b t cs n r, h.sz⟩
theorem Only.drewN {g : Nat} {w w1 : World} (h : Only g w w1) (k : Nat) : Only g w (w1.drewN k) := ⟨fun w0 a b => Gen.dN (h.bl w0 a b) k, fun b t cs n r => h.row b t cs n r, h.sz⟩
end Go.Proofs.YtnifkianjpjahaaGreatDoor.Bg
/- Big integers: what is subtracted, or added back, in place. -/
namespace Go.Proofs.YtnifkianjpjahaaGreatDoor.Bg
open Go.ChangeShapes Go.WideShapes Go.ChangeAt Go.RowKit Go.Proofs.YtnifkianjpjahaaGreatDoor.Cell
set_option linter.unusedVariables false
set_option linter.unusedSimpArgs false
variable {N0 : Nat}

theorem mul_small' {x y : Int} (hx : 0 ≤ x ∧ x ≤ 1048575) (hy : 0 ≤ y ∧ y < 1048576) : 0 ≤ x * y ∧ x * y ≤ 1099509530625 := by
  refine ⟨Int.mul_nonneg hx.1 hy.1, ?_⟩
  have h1 : x * y ≤ 1048575 * y := Int.mul_le_mul_of_nonneg_right hx.2 hy.1
  omega
/-- less so many times, digit by digit -/
structure St (S v out : List Int) (t : Int) (k : Nat) (cy : Int) : Prop where
  dg : Dg out
  len : out.length = k
  rng : -1048576 ≤ cy ∧ cy ≤ 0
  eq : val out + pw k * cy = val (S.take k) - t * val (v.take k)
theorem St.start (S v : List Int) (t : Int) : St S v [] t 0 0 := ⟨Dg.nil, rfl, by omega, by rw [List.take_zero, List.take_zero, val_nil]; simp⟩
theorem St.step {S v out : List Int} {t cy x y : Int} {k : Nat} (h : St S v out t k cy) (dS : Dg S) (dv : Dg v) (ht : 0 ≤ t ∧ t ≤ 1048575) (hx : S[k]? = some x) (hy : v[k]? = some y) : St S v (out ++ [(x + cy - t * y) % 1048576]) t (k + 1) ((x + cy - t * y) / 1048576) := by
  have h1 := dS.at_ hx
  have h2 := mul_small' ht (dv.at_ hy)
  have h3 := h.rng
  refine ⟨h.dg.snoc (by omega), by rw [List.length_append, h.len]; rfl, by omega, ?_⟩
  rw [val_snoc, h.len, val_take_succ hx, val_take_succ hy, pw_succ]
  have e := h.eq
  have h4 : 1048576 * ((x + cy - t * y) / 1048576) + (x + cy - t * y) % 1048576 = x + cy - t * y := by omega
  obtain ⟨q, hq⟩ : ∃ q, (x + cy - t * y) / 1048576 = q := ⟨_, rfl⟩
  obtain ⟨r, hr⟩ : ∃ r, (x + cy - t * y) % 1048576 = r := ⟨_, rfl⟩
  rw [hq, hr] at h4
  rw [hq, hr]
  have h5 : r = x + cy - t * y - 1048576 * q := by omega
  rw [h5]
  have h6 : val out = val (S.take k) - t * val (v.take k) - pw k * cy := by omega
  rw [h6]
  grind
theorem St.step1 {S v out : List Int} {t cy x : Int} {k : Nat} (h : St S v out t k cy) (dS : Dg S) (hx : S[k]? = some x) (hv : v.length ≤ k) : St S v (out ++ [(x + cy) % 1048576]) t (k + 1) ((x + cy) / 1048576) := by
  have h1 := dS.at_ hx
  have h3 := h.rng
  refine ⟨h.dg.snoc (by omega), by rw [List.length_append, h.len]; rfl, by omega, ?_⟩
  rw [val_snoc, h.len, val_take_succ hx, pw_succ, List.take_of_length_le (show v.length ≤ k + 1 by omega)]
  have e := h.eq
  rw [List.take_of_length_le hv] at e
  have h4 : 1048576 * ((x + cy) / 1048576) + (x + cy) % 1048576 = x + cy := by omega
  obtain ⟨q, hq⟩ : ∃ q, (x + cy) / 1048576 = q := ⟨_, rfl⟩
  obtain ⟨r, hr⟩ : ∃ r, (x + cy) % 1048576 = r := ⟨_, rfl⟩
  rw [hq, hr] at h4
  rw [hq, hr]
  have h5 : r = x + cy - 1048576 * q := by omega
  rw [h5]
  have h6 : val out = val (S.take k) - t * val v - pw k * cy := by omega
  rw [h6]
  grind
/-- a sum, digit by digit, of digits that are written over -/
structure Ab (S v out : List Int) (k : Nat) (cy : Int) : Prop where
  dg : Dg out
  len : out.length = k
  rng : 0 ≤ cy ∧ cy ≤ 1
  eq : val out + pw k * cy = val (S.take k) + val (v.take k)
theorem Ab.start (S v : List Int) : Ab S v [] 0 0 := ⟨Dg.nil, rfl, by omega, by rw [List.take_zero, List.take_zero, val_nil]; simp⟩
theorem Ab.step {S v out : List Int} {cy x y : Int} {k : Nat} (h : Ab S v out k cy) (dS : Dg S) (dv : Dg v) (hx : S[k]? = some x) (hy : v[k]? = some y) : Ab S v (out ++ [(x + cy + y) % 1048576]) (k + 1) ((x + cy + y) / 1048576) := by
  have h1 := dS.at_ hx
  have h2 := dv.at_ hy
  have h3 := h.rng
  refine ⟨h.dg.snoc (by omega), by rw [List.length_append, h.len]; rfl, by omega, ?_⟩
  rw [val_snoc, h.len, val_take_succ hx, val_take_succ hy, pw_succ]
  have e := h.eq
  have h4 : 1048576 * ((x + cy + y) / 1048576) + (x + cy + y) % 1048576 = x + cy + y := by omega
  obtain ⟨q, hq⟩ : ∃ q, (x + cy + y) / 1048576 = q := ⟨_, rfl⟩
  obtain ⟨r, hr⟩ : ∃ r, (x + cy + y) % 1048576 = r := ⟨_, rfl⟩
  rw [hq, hr] at h4
  rw [hq, hr]
  have h5 : r = x + cy + y - 1048576 * q := by omega
  rw [h5]
  have h6 : val out = val (S.take k) + val (v.take k) - pw k * cy := by omega
  rw [h6]
  grind
theorem Ab.step1 {S v out : List Int} {cy x : Int} {k : Nat} (h : Ab S v out k cy) (dS : Dg S) (hx : S[k]? = some x) (hv : v.length ≤ k) : Ab S v (out ++ [(x + cy) % 1048576]) (k + 1) ((x + cy) / 1048576) := by
  have h1 := dS.at_ hx
  have h3 := h.rng
  refine ⟨h.dg.snoc (by omega), by rw [List.length_append, h.len]; rfl, by omega, ?_⟩
  rw [val_snoc, h.len, val_take_succ hx, pw_succ, List.take_of_length_le (show v.length ≤ k + 1 by omega)]
  have e := h.eq
  rw [List.take_of_length_le hv] at e
  have h4 : 1048576 * ((x + cy) / 1048576) + (x + cy) % 1048576 = x + cy := by omega
  obtain ⟨q, hq⟩ : ∃ q, (x + cy) / 1048576 = q := ⟨_, rfl⟩
  obtain ⟨r, hr⟩ : ∃ r, (x + cy) % 1048576 = r := ⟨_, rfl⟩
  rw [hq, hr] at h4
  rw [hq, hr]
  have h5 : r = x + cy - 1048576 * q := by omega
  rw [h5]
  have h6 : val out = val (S.take k) + val v - pw k * cy := by omega
  rw [h6]
  grind
theorem drop_get {U : List Int} {j k : Nat} {x : Int} (h : U[j + k]? = some x) : (U.drop j)[k]? = some x := by rw [List.getElem?_drop]; exact h
set_option maxRecDepth 100000 in
set_option maxHeartbeats 8000000 in
theorem subT_any {g j m cu gv n cv : Nat} {U v r : List Int} {t : Int} (w : World) (hr : Row w g 3 (ics U)) (hm : j + m ≤ U.length) (dU : Dg U) (hgv : gv ≠ g) (hv : Row w gv 3 (ics (v ++ r))) (hn : v.length = n) (dv : Dg v) (ht : 0 ≤ t ∧ t ≤ 1048575) (hbig : U.length ≤ 1000) (hbig' : n ≤ 1000) :
    Calls Tryz.prog 120 #[.slice (some ⟨g, j, none⟩) m cu, .slice (some ⟨gv, 0, none⟩) n cv, .int .i64 t] w fun e w' => ∃ (out : List Int) (cy : Int), e = .returned (.bool (decide (cy < 0))) ∧ Only g w w' ∧ Row w' g 3 (ics (U.take j ++ out ++ U.drop (j + m))) ∧ St (U.drop j) v out t m cy := by
  have HDS : Hid (Dg (U.drop j)) := Lib.hid (dU.drop j)
  have HDV := Lib.hid dv
  have HN := Lib.hid hn
  have HTL : Hid ((U.take j).length = j) := Lib.hid (by rw [List.length_take]; omega)
  have HV := Lib.hid hv
  have HR0 : Hid (Row w g 3 (ics ((U.take j ++ []) ++ U.drop (j + 0)))) := Lib.hid (by rw [List.append_nil, Nat.add_zero, List.take_append_drop]; exact hr)
  have hmb : m ≤ 1000 := by omega
  have HM := Lib.hid hm
  clear hr dU hv hn dv hbig hm
  go_enter Tryz.func120, Tryz.ntmps120
  go_wp2
  go_loopw [7, 12] (fun cv iv wr => ∃ (k : Nat) (out : List Int) (cy : Int), k ≤ m ∧ iv = .int .i64 k ∧ cv = .int .i64 cy ∧ Hid (Row wr g 3 (ics ((U.take j ++ out) ++ U.drop (j + k)))) ∧ Hid (St (U.drop j) v out t k cy) ∧ Hid (Only g w wr)) (fun _ iv _ => m - (intOf iv).toNat)
  case atStart => exact ⟨0, [], 0, Nat.zero_le _, rfl, rfl, HR0, Lib.hid (St.start _ _ t), Lib.hid (Only.refl _ _)⟩
  case round =>
    clear HR0
    obtain ⟨k, out, cy, hk, rfl, rfl, HR, HS, HO⟩ := hrel
    have k0 : (0 : Int) ≤ (k : Int) := by omega
    obtain ⟨y0, y1⟩ := HS.out.rng
    have hg := HR.out.lt
    have HOL : Hid ((U.take j ++ out).length = j + k) := Lib.hid (by rw [List.length_append, HTL.out, HS.out.len])
    by_cases hlt : k < m
    · have hltI : (k : Int) < (m : Int) := by omega
      obtain ⟨x, hx⟩ := at_ U (j + k) (by have := HM.out; omega)
      have l1 : wr.cell? ⟨g, j + k, none⟩ = some (.int .i64 x) := HR.out.intAt (at_mid HOL.out hx)
      have hf := HR.out.frozen (j + k)
      obtain ⟨x0, x1⟩ := HDS.out.at_ (drop_get hx)
      have HX := Lib.hid hx
      clear hx
      have w1 : IntKind.i64.wrap (x + cy) = x + cy := IntWalk.i64_in _ (by omega)
      by_cases hlb : k < n
      · have hlbI : (k : Int) < (n : Int) := by omega
        obtain ⟨y, hy⟩ := at_ v k (by rw [HN.out]; exact hlb)
        have c1 : wr.cell? ⟨gv, k, none⟩ = some (.int .i64 y) := (HO.out.row gv _ _ hgv HV.out).intAt (by rw [List.getElem?_append_left (lt_of_at hy)]; exact hy)
        obtain ⟨z0, z1⟩ := HDV.out.at_ hy
        have hs := HS.out.step HDS.out HDV.out ht (drop_get HX.out) hy
        have hty := mul_small' ht (HDV.out.at_ hy)
        have w3 : IntKind.i64.wrap (t * y) = t * y := IntWalk.i64_in _ (by omega)
        obtain ⟨p, hp⟩ : ∃ p, t * y = p := ⟨_, rfl⟩
        rw [hp] at hs hty w3
        have w2 : IntKind.i64.wrap (x + cy - p) = x + cy - p := IntWalk.i64_in _ (by omega)
        have hand := and_mask (x + cy - p) (by omega)
        obtain ⟨d, hd⟩ : ∃ d, (x + cy - p) % 1048576 = d := ⟨_, rfl⟩
        obtain ⟨q, hq⟩ : ∃ q, (x + cy - p) / 1048576 = q := ⟨_, rfl⟩
        clear hy hty
        rw [hd, hq] at hs
        rw [hd] at hand
        have HS2 := Lib.hid hs
        have HR2 : Hid (Row (wr.setCell ⟨g, j + k, none⟩ (.int .i64 d)) g 3 (ics ((U.take j ++ (out ++ [d])) ++ U.drop (j + (k + 1))))) := Lib.hid (by
          rw [← List.append_assoc, ← Nat.add_assoc, ← set_mid HOL.out HX.out, ← ics_set]
          exact HR.out.set _ _)
        have HO2 := Lib.hid (HO.out.set (j + k) (.int .i64 d))
        clear hs hd
        go_wp2
        go_roundw
        case rel => exact ⟨k + 1, out ++ [d], q, by omega, by go_num, rfl, HR2, HS2, HO2⟩
        case measure => simp [intOf]; omega
      · have hlbI : ¬ ((k : Int) < (n : Int)) := by omega
        have hs := HS.out.step1 HDS.out (drop_get HX.out) (show v.length ≤ k by rw [HN.out]; omega)
        have hand := and_mask (x + cy) (by omega)
        obtain ⟨d, hd⟩ : ∃ d, (x + cy) % 1048576 = d := ⟨_, rfl⟩
        obtain ⟨q, hq⟩ : ∃ q, (x + cy) / 1048576 = q := ⟨_, rfl⟩
        rw [hd, hq] at hs
        rw [hd] at hand
        have HS2 := Lib.hid hs
        have HR2 : Hid (Row (wr.setCell ⟨g, j + k, none⟩ (.int .i64 d)) g 3 (ics ((U.take j ++ (out ++ [d])) ++ U.drop (j + (k + 1))))) := Lib.hid (by
          rw [← List.append_assoc, ← Nat.add_assoc, ← set_mid HOL.out HX.out, ← ics_set]
          exact HR.out.set _ _)
        have HO2 := Lib.hid (HO.out.set (j + k) (.int .i64 d))
        clear hs hd
        go_wp2
        go_roundw
        case rel => exact ⟨k + 1, out ++ [d], q, by omega, by go_num, rfl, HR2, HS2, HO2⟩
        case measure => simp [intOf]; omega
    · obtain rfl : m = k := by omega
      go_wp2
      go_ret
      exact ⟨out, cy, rfl, HO.out, HR.out, HS.out⟩
set_option maxRecDepth 100000 in
set_option maxHeartbeats 8000000 in
theorem addB_any {g j m cu gv n cv : Nat} {U v r : List Int} (w : World) (hr : Row w g 3 (ics U)) (hm : j + m ≤ U.length) (dU : Dg U) (hgv : gv ≠ g) (hv : Row w gv 3 (ics (v ++ r))) (hn : v.length = n) (dv : Dg v) (hbig : U.length ≤ 1000) (hbig' : n ≤ 1000) :
    Calls Tryz.prog 121 #[.slice (some ⟨g, j, none⟩) m cu, .slice (some ⟨gv, 0, none⟩) n cv] w fun e w' => ∃ (out : List Int) (cy : Int), e = .returned (.tuple #[]) ∧ Only g w w' ∧ Row w' g 3 (ics (U.take j ++ out ++ U.drop (j + m))) ∧ Ab (U.drop j) v out m cy := by
  have HDS : Hid (Dg (U.drop j)) := Lib.hid (dU.drop j)
  have HDV := Lib.hid dv
  have HN := Lib.hid hn
  have HTL : Hid ((U.take j).length = j) := Lib.hid (by rw [List.length_take]; omega)
  have HV := Lib.hid hv
  have HR0 : Hid (Row w g 3 (ics ((U.take j ++ []) ++ U.drop (j + 0)))) := Lib.hid (by rw [List.append_nil, Nat.add_zero, List.take_append_drop]; exact hr)
  have hmb : m ≤ 1000 := by omega
  have HM := Lib.hid hm
  clear hr dU hv hn dv hbig hm
  go_enter Tryz.func121, Tryz.ntmps121
  go_wp2
  go_loopw [4, 9] (fun cv iv wr => ∃ (k : Nat) (out : List Int) (cy : Int), k ≤ m ∧ iv = .int .i64 k ∧ cv = .int .i64 cy ∧ Hid (Row wr g 3 (ics ((U.take j ++ out) ++ U.drop (j + k)))) ∧ Hid (Ab (U.drop j) v out k cy) ∧ Hid (Only g w wr)) (fun _ iv _ => m - (intOf iv).toNat)
  case atStart => exact ⟨0, [], 0, Nat.zero_le _, rfl, rfl, HR0, Lib.hid (Ab.start _ _), Lib.hid (Only.refl _ _)⟩
  case round =>
    clear HR0
    obtain ⟨k, out, cy, hk, rfl, rfl, HR, HS, HO⟩ := hrel
    have k0 : (0 : Int) ≤ (k : Int) := by omega
    obtain ⟨y0, y1⟩ := HS.out.rng
    have hg := HR.out.lt
    have HOL : Hid ((U.take j ++ out).length = j + k) := Lib.hid (by rw [List.length_append, HTL.out, HS.out.len])
    by_cases hlt : k < m
    · have hltI : (k : Int) < (m : Int) := by omega
      obtain ⟨x, hx⟩ := at_ U (j + k) (by have := HM.out; omega)
      have l1 : wr.cell? ⟨g, j + k, none⟩ = some (.int .i64 x) := HR.out.intAt (at_mid HOL.out hx)
      have hf := HR.out.frozen (j + k)
      obtain ⟨x0, x1⟩ := HDS.out.at_ (drop_get hx)
      have HX := Lib.hid hx
      clear hx
      have w1 : IntKind.i64.wrap (x + cy) = x + cy := IntWalk.i64_in _ (by omega)
      by_cases hlb : k < n
      · have hlbI : (k : Int) < (n : Int) := by omega
        obtain ⟨y, hy⟩ := at_ v k (by rw [HN.out]; exact hlb)
        have c1 : wr.cell? ⟨gv, k, none⟩ = some (.int .i64 y) := (HO.out.row gv _ _ hgv HV.out).intAt (by rw [List.getElem?_append_left (lt_of_at hy)]; exact hy)
        obtain ⟨z0, z1⟩ := HDV.out.at_ hy
        have hs := HS.out.step HDS.out HDV.out (drop_get HX.out) hy
        have w2 : IntKind.i64.wrap (x + cy + y) = x + cy + y := IntWalk.i64_in _ (by omega)
        have hand := and_mask (x + cy + y) (by omega)
        obtain ⟨d, hd⟩ : ∃ d, (x + cy + y) % 1048576 = d := ⟨_, rfl⟩
        obtain ⟨q, hq⟩ : ∃ q, (x + cy + y) / 1048576 = q := ⟨_, rfl⟩
        clear hy
        rw [hd, hq] at hs
        rw [hd] at hand
        have HS2 := Lib.hid hs
        have HR2 : Hid (Row (wr.setCell ⟨g, j + k, none⟩ (.int .i64 d)) g 3 (ics ((U.take j ++ (out ++ [d])) ++ U.drop (j + (k + 1))))) := Lib.hid (by
          rw [← List.append_assoc, ← Nat.add_assoc, ← set_mid HOL.out HX.out, ← ics_set]
          exact HR.out.set _ _)
        have HO2 := Lib.hid (HO.out.set (j + k) (.int .i64 d))
        clear hs hd
        go_wp2
        go_roundw
        case rel => exact ⟨k + 1, out ++ [d], q, by omega, by go_num, rfl, HR2, HS2, HO2⟩
        case measure => simp [intOf]; omega
      · have hlbI : ¬ ((k : Int) < (n : Int)) := by omega
        have hs := HS.out.step1 HDS.out (drop_get HX.out) (show v.length ≤ k by rw [HN.out]; omega)
        have hand := and_mask (x + cy) (by omega)
        obtain ⟨d, hd⟩ : ∃ d, (x + cy) % 1048576 = d := ⟨_, rfl⟩
        obtain ⟨q, hq⟩ : ∃ q, (x + cy) / 1048576 = q := ⟨_, rfl⟩
        rw [hd, hq] at hs
        rw [hd] at hand
        have HS2 := Lib.hid hs
        have HR2 : Hid (Row (wr.setCell ⟨g, j + k, none⟩ (.int .i64 d)) g 3 (ics ((U.take j ++ (out ++ [d])) ++ U.drop (j + (k + 1))))) := Lib.hid (by
          rw [← List.append_assoc, ← Nat.add_assoc, ← set_mid HOL.out HX.out, ← ics_set]
          exact HR.out.set _ _)
        have HO2 := Lib.hid (HO.out.set (j + k) (.int .i64 d))
        clear hs hd
        go_wp2
        go_roundw
        case rel => exact ⟨k + 1, out ++ [d], q, by omega, by go_num, rfl, HR2, HS2, HO2⟩
        case measure => simp [intOf]; omega
    · obtain rfl : m = k := by omega
      go_wp2
      go_end0
      exact ⟨out, cy, rfl, HO.out, HR.out, HS.out⟩
end Go.Proofs.YtnifkianjpjahaaGreatDoor.Bg
/- Long division, digit by digit: plain facts. -/
namespace Go.Proofs.YtnifkianjpjahaaGreatDoor.Bg
open Go.RowKit Go.Proofs.YtnifkianjpjahaaGreatDoor.Cell
set_option linter.unusedVariables false
variable {N0 : Nat}

/-- the first digits of both -/
structure Kn (V v1 v2 v3 R U top u2 u3 : Int) : Prop where
  hV : V = v1 * (1048576 * R) + v2 * R + v3
  hU : U = top * (1048576 * R) + u2 * R + u3
  r1 : 1 ≤ R
  a1 : 1 ≤ v1 ∧ v1 < 1048576
  a2 : 0 ≤ v2 ∧ v2 < 1048576
  a3 : 0 ≤ v3 ∧ v3 < R
  b0 : 0 ≤ top
  b2 : 0 ≤ u2 ∧ u2 < 1048576
  b3 : 0 ≤ u3 ∧ u3 < R
  lt : U < 1048576 * V
section
variable {V v1 v2 v3 R U top u2 u3 g : Int}
theorem Kn.uLt (h : Kn V v1 v2 v3 R U top u2 u3) : U < (top + 1) * (1048576 * R) := by
  have h1 : u2 * R ≤ 1048575 * R := Int.mul_le_mul_of_nonneg_right (by have := h.b2; omega) (by have := h.r1; omega)
  have h2 : (top + 1) * (1048576 * R) = top * (1048576 * R) + 1048576 * R := by rw [Int.add_mul, Int.one_mul]
  have h3 := h.hU
  have h4 := h.b3
  omega
theorem Kn.vGe (h : Kn V v1 v2 v3 R U top u2 u3) : v1 * (1048576 * R) ≤ V := by
  have h1 : 0 ≤ v2 * R := Int.mul_nonneg h.a2.1 (by have := h.r1; omega)
  have h2 := h.hV
  have h3 := h.a3
  omega
theorem Kn.vPos (h : Kn V v1 v2 v3 R U top u2 u3) : 1048576 * R ≤ V := by
  have h1 := h.vGe
  have h2 : 1 * (1048576 * R) ≤ v1 * (1048576 * R) := Int.mul_le_mul_of_nonneg_right h.a1.1 (by have := h.r1; omega)
  omega
theorem Kn.init (h : Kn V v1 v2 v3 R U top u2 u3) (hg : g = min (top / v1) 1048575) : U < (g + 1) * V ∧ (0 ≤ g ∧ g ≤ 1048575) ∧ 0 ≤ top - g * v1 := by
  have h1 := Int.mul_ediv_add_emod top v1
  have h2 := Int.emod_nonneg top (show v1 ≠ 0 by have := h.a1; omega)
  have h3 := Int.emod_lt_of_pos top (show 0 < v1 by have := h.a1; omega)
  have h4 := Int.ediv_nonneg h.b0 (show 0 ≤ v1 by have := h.a1; omega)
  obtain ⟨q, hq⟩ : ∃ q, top / v1 = q := ⟨_, rfl⟩
  rw [hq] at h1 h4 hg
  have hgq : g ≤ q := by omega
  have h5 : v1 * g ≤ v1 * q := Int.mul_le_mul_of_nonneg_left hgq (by have := h.a1; omega)
  rw [Int.mul_comm g v1]
  refine ⟨?_, by omega, by omega⟩
  by_cases hb : g = 1048575
  · rw [hb]
    exact h.lt
  · have e : g = q := by omega
    subst e
    have h6 : v1 * (g + 1) = v1 * g + v1 := by rw [Int.mul_add, Int.mul_one]
    have h7 : (top + 1) * (1048576 * R) ≤ (v1 * (g + 1)) * (1048576 * R) := Int.mul_le_mul_of_nonneg_right (by omega) (by have := h.r1; omega)
    have h8 : (g + 1) * (v1 * (1048576 * R)) ≤ (g + 1) * V := Int.mul_le_mul_of_nonneg_left h.vGe (by omega)
    have h9 : (v1 * (g + 1)) * (1048576 * R) = (g + 1) * (v1 * (1048576 * R)) := by rw [Int.mul_comm v1 (g + 1), Int.mul_assoc]
    have := h.uLt
    omega
theorem Kn.dec (h : Kn V v1 v2 v3 R U top u2 u3) {rest : Int} (hg : 0 ≤ g) (hr : rest = top - g * v1) (h0 : 0 ≤ rest) (ht : rest * 1048576 + u2 < g * v2) : U < g * V ∧ 1 ≤ g := by
  have h1 : (rest * 1048576 + u2 + 1) * R ≤ (g * v2) * R := Int.mul_le_mul_of_nonneg_right (by omega) (by have := h.r1; omega)
  have h2 : 0 ≤ g * v3 := Int.mul_nonneg hg h.a3.1
  have e1 : g * V = (g * v1) * (1048576 * R) + (g * v2) * R + g * v3 := by rw [h.hV]; grind
  have e2 : (rest * 1048576 + u2 + 1) * R = rest * (1048576 * R) + u2 * R + R := by grind
  have e3 : top * (1048576 * R) = rest * (1048576 * R) + (g * v1) * (1048576 * R) := by rw [hr]; grind
  have h3 := h.hU
  have h4 := h.b3
  refine ⟨by omega, ?_⟩
  by_cases hg0 : g = 0
  · subst hg0
    have := h.b2
    rw [Int.zero_mul] at ht
    omega
  · omega
theorem Kn.exit (h : Kn V v1 v2 v3 R U top u2 u3) {rest : Int} (hg : 0 ≤ g ∧ g ≤ 1048575) (hr : rest = top - g * v1) (ht : 1048575 < rest ∨ g * v2 ≤ rest * 1048576 + u2) : g * V ≤ U + V := by
  have e1 : g * V = (g * v1) * (1048576 * R) + (g * v2) * R + g * v3 := by rw [h.hV]; grind
  have e3 : top * (1048576 * R) = rest * (1048576 * R) + (g * v1) * (1048576 * R) := by rw [hr]; grind
  have h3 := h.hU
  have h4 := h.b3
  have h5 := h.vPos
  have h6 : g * v3 ≤ 1048575 * v3 := Int.mul_le_mul_of_nonneg_right hg.2 h.a3.1
  have h7 := h.a3
  have h8 : 0 ≤ u2 * R := Int.mul_nonneg h.b2.1 (by have := h.r1; omega)
  rcases ht with ht | ht
  · have h9 : (g * v2) * R ≤ (1048575 * 1048575) * R := Int.mul_le_mul_of_nonneg_right (by
      have a : g * v2 ≤ 1048575 * v2 := Int.mul_le_mul_of_nonneg_right hg.2 h.a2.1
      have := h.a2
      omega) (by have := h.r1; omega)
    have h10 : 1048576 * (1048576 * R) ≤ rest * (1048576 * R) := Int.mul_le_mul_of_nonneg_right (by omega) (by have := h.r1; omega)
    omega
  · have h9 : (g * v2) * R ≤ (rest * 1048576 + u2) * R := Int.mul_le_mul_of_nonneg_right ht (by have := h.r1; omega)
    have e2 : (rest * 1048576 + u2) * R = rest * (1048576 * R) + u2 * R := by grind
    omega
end
end Go.Proofs.YtnifkianjpjahaaGreatDoor.Bg
/- Long division of lists of digits: plain facts. -/
namespace Go.Proofs.YtnifkianjpjahaaGreatDoor.Bg
open Go.RowKit Go.Proofs.YtnifkianjpjahaaGreatDoor.Cell
set_option linter.unusedVariables false
variable {N0 : Nat}

/-- how far the division has come: the quotient's digits from k on are known -/
structure Dv (a V : Int) (n : Nat) (U Q : List Int) (k : Nat) : Prop where
  dU : Dg U
  dQ : Dg Q
  lu : U.length = Q.length + n
  le : k ≤ Q.length
  lt : val (U.drop k) < V
  eq : val U + pw k * (val (Q.drop k) * V) = a
section
variable {a V : Int} {n j : Nat} {U Q : List Int}
theorem val_drop {l : List Int} {k : Nat} {d : Int} (h : l[k]? = some d) : val (l.drop k) = d + 1048576 * val (l.drop (k + 1)) := by rw [drop_at h, val_cons]
/-- what lies above the digits at hand is 0 -/
theorem Dv.seg (h : Dv a V n U Q (j + 1)) (hV : V < pw n) : val (U.drop j) = val ((U.drop j).take (n + 1)) ∧ val (U.drop (j + (n + 1))) = 0 ∧ val (U.drop j) < 1048576 * V := by
  obtain ⟨d, hd⟩ := at_ U j (by have := h.lu; have := h.le; omega)
  have h1 := h.dU.at_ hd
  have h2 := val_drop hd
  have h3 := h.lt
  have h4 := val_split (U.drop j) (n + 1) (by rw [List.length_drop]; have := h.lu; have := h.le; omega)
  rw [List.drop_drop] at h4
  have h5 := val_nonneg ((h.dU.drop j).take (n + 1))
  have h6 := val_nonneg (h.dU.drop (j + (n + 1)))
  have h7 := pw_succ n
  have h8 : val (U.drop (j + (n + 1))) = 0 := by
    by_cases h9 : val (U.drop (j + (n + 1))) = 0
    · exact h9
    · have : pw (n + 1) * 1 ≤ pw (n + 1) * val (U.drop (j + (n + 1))) := Int.mul_le_mul_of_nonneg_left (by omega) (by have := pw_pos (n + 1); omega)
      omega
  refine ⟨?_, h8, by omega⟩
  rw [h8, Int.mul_zero] at h4
  omega
theorem val_three {l : List Int} {k : Nat} {x y z : Int} (hx : l[k]? = some x) (hy : l[k + 1]? = some y) (hz : l[k + 2]? = some z) : val (l.take (k + 3)) = (z * 1048576 + y) * (1048576 * pw k) + x * pw k + val (l.take k) := by
  have h1 := val_take_succ hx
  have h2 := val_take_succ hy
  have h3 : val (l.take (k + 3)) = val (l.take (k + 2)) + pw (k + 2) * z := val_take_succ hz
  have h4 : val (l.take (k + 2)) = val (l.take (k + 1)) + pw (k + 1) * y := h2
  have e1 := pw_succ k
  have e2 : pw (k + 2) = pw (k + 1) * 1048576 := pw_succ (k + 1)
  rw [h3, h4, h1, e2, e1]
  grind
theorem val_two {l : List Int} {k : Nat} {x y : Int} (hx : l[k]? = some x) (hy : l[k + 1]? = some y) : val (l.take (k + 2)) = y * (1048576 * pw k) + x * pw k + val (l.take k) := by
  have h1 := val_take_succ hx
  have h2 : val (l.take (k + 2)) = val (l.take (k + 1)) + pw (k + 1) * y := val_take_succ hy
  have e1 := pw_succ k
  rw [h2, h1, e1]
  grind
/-- the digits that the guess goes by -/
theorem Dv.kn {p : Nat} {v : List Int} {x y z v1 v2 : Int} (h : Dv a V (p + 2) U Q (j + 1)) (hv : Dg v) (hl : v.length = p + 2) (hV : val v = V) (h1 : v[p + 1]? = some v1) (h2 : v[p]? = some v2) (hv1 : v1 ≠ 0)
    (hx : U[j + p]? = some x) (hy : U[j + (p + 1)]? = some y) (hz : U[j + (p + 2)]? = some z) :
    Kn V v1 v2 (val (v.take p)) (pw p) (val ((U.drop j).take (p + 3))) (z * 1048576 + y) x (val ((U.drop j).take p)) := by
  have hVlt : V < pw (p + 2) := by
    have := val_lt hv
    rw [hl, hV] at this
    exact this
  obtain ⟨s1, s2, s3⟩ := h.seg hVlt
  have e1 := val_two h2 h1
  rw [List.take_of_length_le (by omega), hV] at e1
  have e2 := val_three (l := U.drop j) (k := p) (by rw [List.getElem?_drop]; exact hx) (by rw [List.getElem?_drop]; exact hy) (by rw [List.getElem?_drop]; exact hz)
  have b1 := hv.at_ h1
  have b2 := hv.at_ h2
  have b3 := val_nonneg (hv.take p)
  have b4 := val_lt (hv.take p)
  rw [List.length_take, Nat.min_eq_left (by omega)] at b4
  have c1 := h.dU.at_ hx
  have c2 := h.dU.at_ hy
  have c3 := h.dU.at_ hz
  have c4 := val_nonneg ((h.dU.drop j).take p)
  have c5 := val_lt ((h.dU.drop j).take p)
  rw [List.length_take, Nat.min_eq_left (by rw [List.length_drop]; have := lt_of_at hz; omega)] at c5
  exact ⟨e1, e2, pw_pos p, by omega, b2, ⟨b3, b4⟩, by omega, c1, ⟨c4, c5⟩, by rw [← s1]; exact s3⟩
theorem Dv.step (h : Dv a V n U Q (j + 1)) (hV : V < pw n) {out : List Int} {q : Int} (dO : Dg out) (lO : out.length = n + 1) (hq : 0 ≤ q ∧ q < 1048576) (hr : val out = val ((U.drop j).take (n + 1)) - q * V) (hlt : val out < V) :
    Dv a V n (U.take j ++ out ++ U.drop (j + (n + 1))) (Q.set j q) j := by
  obtain ⟨s1, s2, s3⟩ := h.seg hV
  have hj := h.le
  have hlu := h.lu
  have htj : (U.take j).length = j := by rw [List.length_take]; omega
  obtain ⟨d, hd⟩ := at_ Q j (by omega)
  refine ⟨((h.dU.take j).append dO).append (h.dU.drop _), fun x hx => ?_, ?_, by rw [List.length_set]; omega, ?_, ?_⟩
  · rcases List.mem_or_eq_of_mem_set hx with hx | rfl
    · exact h.dQ x hx
    · exact hq
  · rw [List.length_append, List.length_append, htj, lO, List.length_drop, List.length_set]
    omega
  · rw [List.append_assoc, List.drop_append, htj, Nat.sub_self, List.drop_zero, List.drop_of_length_le (by omega), List.nil_append, val_append, s2]
    omega
  · have e1 : val (U.take j ++ out ++ U.drop (j + (n + 1))) = val (U.take j) + pw j * val out := by
      rw [val_append, s2, val_append, htj]
      omega
    have e2 := val_split U j (by omega)
    have e3 : val ((Q.set j q).drop j) = q + 1048576 * val (Q.drop (j + 1)) := by
      rw [val_drop (List.getElem?_set_self (by omega)), List.drop_set, if_pos (by omega)]
    have e4 := h.eq
    rw [s1] at e2
    rw [e1, e3, hr, ← e4, e2, pw_succ]
    grind
/-- the end -/
theorem Dv.done (h : Dv a V n U Q 0) (hV : V < pw n) : val (U.take n) = val U ∧ 0 ≤ val U ∧ val U < V ∧ val U + val Q * V = a := by
  have h1 := h.lt
  have h2 := h.eq
  rw [List.drop_zero] at h1 h2
  rw [pw_zero, Int.one_mul] at h2
  have h3 := val_split U n (by have := h.lu; omega)
  have h4 := val_nonneg (h.dU.take n)
  have h5 := val_nonneg (h.dU.drop n)
  refine ⟨?_, val_nonneg h.dU, h1, h2⟩
  by_cases h6 : val (U.drop n) = 0
  · rw [h6] at h3; omega
  · have : pw n * 1 ≤ pw n * val (U.drop n) := Int.mul_le_mul_of_nonneg_left (by omega) (by have := pw_pos n; omega)
    omega
/-- the beginning -/
theorem Dv.start {x y P : Int} {m n : Nat} {U : List Int} (dU : Dg U) (hn : n ≤ m) (hn0 : 0 < n) (lU : U.length = m + 1) (hU : val U = x * P) (hx : x < pw m) (hy : pw (n - 1) ≤ y) (hP : 1 ≤ P) :
    Dv (x * P) (y * P) n U (List.replicate (m - n + 1) 0) (m - n + 1) := by
  refine ⟨dU, fun d hd => by have := List.eq_of_mem_replicate hd; omega, by rw [List.length_replicate]; omega, by rw [List.length_replicate]; exact Nat.le_refl _, ?_, ?_⟩
  · have h1 := val_split U (m - n + 1) (by omega)
    have h2 := val_nonneg (dU.take (m - n + 1))
    have h3 : pw (m - n + 1) * val (U.drop (m - n + 1)) ≤ x * P := by omega
    have h4 : x * P < pw m * P := Int.mul_lt_mul_of_pos_right hx (by omega)
    have h5 : pw m = pw (m - n + 1) * pw (n - 1) := by rw [← pw_add]; congr 1; omega
    rw [h5, Int.mul_assoc] at h4
    have h6 : pw (n - 1) * P ≤ y * P := Int.mul_le_mul_of_nonneg_right hy (by omega)
    have h7 : val (U.drop (m - n + 1)) < pw (n - 1) * P := Int.lt_of_mul_lt_mul_left (a := pw (m - n + 1)) (by omega) (by have := pw_pos (m - n + 1); omega)
    omega
  · rw [List.drop_of_length_le (by rw [List.length_replicate]; exact Nat.le_refl _), val_nil, hU]
    simp
/-- what remains when too much was taken off -/
theorem neg_one {V g U o M cy : Int} (h1 : o + M * cy = U - g * V) (h2 : 0 ≤ o ∧ o < M) (h3 : g * V ≤ U + V) (h4 : V < M) (h5 : cy < 0) : cy = -1 ∧ o + V = M + (U - (g - 1) * V) ∧ U < g * V := by
  have e : (g - 1) * V = g * V - V := by rw [Int.sub_mul, Int.one_mul]
  have h6 : M * cy ≤ M * (-1) := Int.mul_le_mul_of_nonneg_left (by omega) (by omega)
  have h7 : cy = -1 := by
    by_cases h : cy = -1
    · exact h
    · have : M * cy ≤ M * (-2) := Int.mul_le_mul_of_nonneg_left (by omega) (by omega)
      omega
  subst h7
  refine ⟨rfl, by omega, by omega⟩
end
end Go.Proofs.YtnifkianjpjahaaGreatDoor.Bg
/- Big integers: long division. -/
namespace Go.Proofs.YtnifkianjpjahaaGreatDoor.Bg
open Go.ChangeShapes Go.WideShapes Go.ChangeAt Go.RowKit Go.Proofs.YtnifkianjpjahaaGreatDoor.Cell
set_option linter.unusedVariables false
set_option linter.unusedSimpArgs false
variable {N0 : Nat}

/-- the divisor, shifted -/
theorem norm_len {b L : List Int} {P : Int} {n n1 : Nat} {x : Int} (db : Dg b) (tb : Tr b) (hn : b.length = n) (h1 : n = n1 + 1) (hx : b[n1]? = some x) (hP : 1 ≤ P) (hxP : x < 1048576 / P) (hPd : P * (1048576 / P) = 1048576) (dL : Dg L) (lL : L.length = n + 1) (hv : val L = val b * P) {k : Nat} (hk : k ≤ n + 1) (tk : Tr (L.take k)) (hvk : val (L.take k) = val L) :
    k = n ∧ pw n1 ≤ val b ∧ val b * P < pw n := by
  have hb0 : b ≠ [] := by intro e; subst e; simp at hn; omega
  have h2 := val_ge db tb hb0
  rw [hn, h1, Nat.add_sub_cancel] at h2
  have h3 : val b * P < pw n := by
    have e := val_take_succ hx
    rw [List.take_of_length_le (by omega)] at e
    have h4 := val_lt (db.take n1)
    rw [List.length_take, Nat.min_eq_left (by omega)] at h4
    have h5 : val b < pw n1 * (x + 1) := by rw [Int.mul_add, Int.mul_one]; omega
    have h6 : val b * P < (pw n1 * (x + 1)) * P := Int.mul_lt_mul_of_pos_right h5 (by omega)
    have h7 : pw n1 * (x + 1) ≤ pw n1 * (1048576 / P) := Int.mul_le_mul_of_nonneg_left (by omega) (by have := pw_pos n1; omega)
    have h8 : (pw n1 * (x + 1)) * P ≤ (pw n1 * (1048576 / P)) * P := Int.mul_le_mul_of_nonneg_right h7 (by omega)
    have h9 : (pw n1 * (1048576 / P)) * P = pw n1 * 1048576 := by rw [Int.mul_assoc, Int.mul_comm _ P, hPd]
    rw [h1, pw_succ]
    omega
  have h4 : val b * 1 ≤ val b * P := Int.mul_le_mul_of_nonneg_left hP (val_nonneg db)
  have hN : Nm (L.take k) (val b * P) := ⟨dL.take k, tk, hvk.trans hv⟩
  have hlen : (L.take k).length = k := by rw [List.length_take]; omega
  have a1 := (hN.len n).2 h3
  have a2 : ¬ ((L.take k).length ≤ n1) := fun h => by
    have := (hN.len n1).1 h
    omega
  rw [hlen] at a1 a2
  exact ⟨by omega, h2, h3⟩
theorem pow_div {s : Nat} (h : s ≤ 20) : (1048576 : Int) / 2 ^ s = 2 ^ (20 - s) ∧ (2 : Int) ^ s * (1048576 / 2 ^ s) = 1048576 := by
  obtain ⟨p1, p2, p3⟩ := pow_in h
  have e : (1048576 : Int) / 2 ^ s = 2 ^ (20 - s) := Int.ediv_eq_of_eq_mul_right (by omega) p3.symm
  exact ⟨e, by rw [e]; exact p3⟩
theorem seg_take {U out R : List Int} {j : Nat} (h : (U.take j).length = j) : (U.take j ++ out ++ R).take j = U.take j := by
  rw [List.append_assoc, List.take_append, h, Nat.sub_self, List.take_zero, List.append_nil, List.take_of_length_le (by omega)]
theorem seg_drop {U out R : List Int} {j n : Nat} (h : (U.take j).length = j) (ho : out.length = n) : (U.take j ++ out ++ R).drop (j + n) = R := by
  rw [List.drop_append, List.length_append, h, ho, Nat.sub_self, List.drop_zero, List.drop_of_length_le (by rw [List.length_append]; omega), List.nil_append]
theorem seg_mid {U out R : List Int} {j n : Nat} (h : (U.take j).length = j) (ho : out.length = n) : ((U.take j ++ out ++ R).drop j).take n = out := by
  rw [List.append_assoc, List.drop_append, h, Nat.sub_self, List.drop_zero, List.drop_of_length_le (by omega), List.nil_append, List.take_append, ho, Nat.sub_self, List.take_zero, List.append_nil, List.take_of_length_le (by omega)]
theorem seg_len {U out : List Int} {j n : Nat} (h : j + n ≤ U.length) (ho : out.length = n) : (U.take j ++ out ++ U.drop (j + n)).length = U.length := by
  rw [List.length_append, List.length_append, List.length_take, List.length_drop]
  omega
set_option maxRecDepth 100000 in
set_option maxHeartbeats 8000000 in
theorem divLong_any {A A' : Option Addr} {m n c c' : Nat} {a b : List Int} (w : World) (hm : a.length = m) (hn : b.length = n) (ha : Ints N0 w A a) (hb : Ints N0 w A' b) (da : Dg a) (db : Dg b) (tb : Tr b) (h2 : 2 ≤ n) (hle : n ≤ m) (hbig : m ≤ 100) :
    Calls Tryz.prog 104 #[.slice A m c, .slice A' n c'] w fun e w' => ∃ A1 c1 lq A2 c2 lr, e = .returned (.tuple #[.slice A1 (List.length lq) c1, .slice A2 (List.length lr) c2]) ∧ Ints N0 w' A1 lq ∧ Ints N0 w' A2 lr ∧ Nm lq (val a / val b) ∧ Nm lr (val a % val b) ∧ Below w.heap.size w w' := by
  obtain ⟨p, hp⟩ : ∃ p, n = p + 2 := ⟨n - 2, by omega⟩
  obtain ⟨n1, hn1⟩ : ∃ n1, n = n1 + 1 := ⟨n - 1, by omega⟩
  obtain ⟨x, hx⟩ := at_ b n1 (by omega)
  obtain ⟨bb, ob, rfl, hcb⟩ := hb (by omega)
  have cx := hcb n1 x hx
  have hxd := db.at_ hx
  have hxu : IntKind.u64.wrap x = x := IntWalk.u64_in _ (by omega)
  have hn1I : (n : Int) - 1 = (n1 : Int) := by omega
  have hn1w : IntKind.i64.wrap (n1 : Int) = (n1 : Int) := IntWalk.i64_in _ (by omega)
  have hn1l : (n1 : Int) < (n : Int) := by omega
  have n10 : (0 : Int) ≤ (n1 : Int) := by omega
  have hnb : n ≤ 100 := by omega
  have HM := Lib.hid hm
  have HN := Lib.hid hn
  have HDA := Lib.hid da
  have HDB := Lib.hid db
  have HTB := Lib.hid tb
  have HX := Lib.hid hx
  have HBB := Lib.hid hb
  have HP := Lib.hid hp
  have HN1 := Lib.hid hn1
  clear hm hn da db tb hx hb hcb hp hn1
  go_enter Tryz.func104, Tryz.ntmps104
  go_wp2_with (fail)
  go_must (refine (lenb_any x _ hxd.1 hxd.2).mono ?_)
  rintro e w1 ⟨k, rfl, hk, hxk, rfl⟩
  obtain ⟨s, hs⟩ : ∃ s : Nat, (20 : Int) - (k : Int) = (s : Int) := ⟨20 - k, by omega⟩
  have hsw : IntKind.i64.wrap (s : Int) = (s : Int) := IntWalk.i64_in _ (by omega)
  have hs20 : s ≤ 20 := by omega
  have HXP : Hid (x < 1048576 / 2 ^ s) := Lib.hid (by
    rw [(pow_div hs20).1, show 20 - s = k by omega]
    exact hxk)
  clear hxk
  go_wp2_with (fail)
  go_must (refine (shl_any _ HM.out ha HDA.out (by omega) hs20).mono ?_)
  rintro e w2 ⟨gU, U0, rfl, hRU, hgU, hDU, hLU, hVU, hb2⟩
  have hRUlt0 := hRU.lt
  have HRU := Lib.hid hRU
  have HDU := Lib.hid hDU
  have HLU := Lib.hid hLU
  have HVU := Lib.hid hVU
  clear hRU hDU hLU hVU
  go_wp2_with (fail)
  go_must (refine (shl_any _ HN.out (HBB.out.keep hb2) HDB.out (by omega) hs20).mono ?_)
  rintro e w3 ⟨gV, V0, rfl, hRV, hgV, hDV, hLV, hVV, hb3⟩
  have HRV := Lib.hid hRV
  have HDV := Lib.hid hDV
  have HLV := Lib.hid hLV
  have HVV := Lib.hid hVV
  replace HRU := Lib.hid (HRU.out.keep hb3)
  have hRUlt : gU < gV := by omega
  clear hRV hDV hLV hVV
  go_wp2_with (fail)
  go_must (refine (trim_any _ (n + 1) (n + 1) V0 _ HLV.out (HRV.out.ints' (N0 := N0)) (Nat.le_refl _) (by omega)).mono ?_)
  rintro e w4 ⟨k2, hk2, rfl, hT2, hv2, rfl⟩
  obtain ⟨hk2e, hge, hlt⟩ := norm_len HDB.out HTB.out HN.out HN1.out HX.out (pow_in hs20).1 HXP.out (pow_div hs20).2 HDV.out HLV.out HVV.out hk2 hT2 hv2
  obtain rfl : n = k2 := hk2e.symm
  obtain ⟨d, hd⟩ : ∃ d : Nat, d + n = m := ⟨m - n, by omega⟩
  have hdI : (m : Int) - (n : Int) = (d : Int) := by omega
  have hdw : IntKind.i64.wrap (d : Int) = (d : Int) := IntWalk.i64_in _ (by omega)
  obtain ⟨K, hK⟩ : ∃ K : Nat, K = d + 1 := ⟨_, rfl⟩
  have hKI : (d : Int) + 1 = (K : Int) := by omega
  have hKw : IntKind.i64.wrap (K : Int) = (K : Int) := IntWalk.i64_in _ (by omega)
  have hKb : K ≤ 101 := by omega
  have hKk : (K : Int) - 1 = km K := rfl
  have hKkw := wrap_km K (by omega)
  obtain ⟨v, hvE⟩ : ∃ v, V0.take n = v := ⟨_, rfl⟩
  have HVL : Hid (v.length = n) := Lib.hid (by rw [← hvE, List.length_take, HLV.out]; omega)
  have HVD : Hid (Dg v) := Lib.hid (by rw [← hvE]; exact HDV.out.take n)
  have HVX : Hid (val v = val b * 2 ^ s) := Lib.hid (by rw [← hvE, hv2]; exact HVV.out)
  have HVT : Hid (Tr v) := Lib.hid (by rw [← hvE]; exact hT2)
  obtain ⟨r, hr⟩ : ∃ r, V0 = v ++ r := ⟨V0.drop n, by rw [← hvE, List.take_append_drop]⟩
  have HVR : Hid (Row w4 gV 3 (ics (v ++ r))) := Lib.hid (by rw [← hr]; exact HRV.out)
  have HLT : Hid (val b * 2 ^ s < pw n) := Lib.hid hlt
  have HGE : Hid (pw n1 ≤ val b) := Lib.hid hge
  have hUV : gU ≠ gV := by have := HRU.out.lt; have := hRUlt; omega
  obtain ⟨iI, hiI, hzI, hyI, hxI⟩ := info_parts infoI
  have hmk : ∀ W : World, (Instr.makeSlice 22 (.int .i64 (K : Int)) (.int .i64 (K : Int))).run Tryz.prog W = .ok (.slice (some ⟨W.heap.size, 0, none⟩) K K) (W.alloc (.cells (ics (List.replicate K 0)) 3)) := fun W => by
    have hr := run_make (P := Tryz.prog) W 22 3 iI (.int .i64 0) Tryz.underlying22 hiI hzI .i64 .i64 K K (by omega) (Int.le_refl _) (by rw [hxI]; omega) (by omega)
    rw [hyI, Int.toNat_natCast, made_ints] at hr
    exact hr
  have HDV0 : Hid (Dv (val a * 2 ^ s) (val b * 2 ^ s) n U0 (List.replicate K 0) K) := Lib.hid (by
    rw [hK, show d = m - n by omega]
    refine Dv.start HDU.out hle (by omega) HLU.out HVU.out ?_ (by rw [HN1.out]; exact hge) (pow_in hs20).1
    have := val_lt HDA.out
    rwa [HM.out] at this)
  have HKK := Lib.hid hK
  have HDD := Lib.hid hd
  have hUlt := HRU.out.lt
  have hVlt := HVR.out.lt
  have HB3 := Lib.hid (Gen.over hb3 hb2)
  clear hk2 hT2 hv2 hk2e hge hlt hvE hr HRV hK hd hiI hzI hyI hxI hb2 hb3 cx hxd hxu ha HBB
  go_wp2
  clear hmk hdI hdw hKI hKw hKk hKkw
  obtain ⟨gQ, hgQ⟩ : ∃ g, g = w4.heap.size := ⟨_, rfl⟩
  have hQU : gQ ≠ gU := by omega
  have hQV : gQ ≠ gV := by omega
  have HQ0 : Hid (Row (w4.alloc (.cells (ics (List.replicate K 0)) 3)) gQ 3 (ics (List.replicate K 0))) := Lib.hid (by rw [hgQ]; exact Row.new _ _ _)
  have HU0 := Lib.hid (HRU.out.alloc (.cells (ics (List.replicate K 0)) 3))
  have HV0 := Lib.hid (HVR.out.alloc (.cells (ics (List.replicate K 0)) 3))
  have HBA := Lib.hid (Gen.b_alloc (x := .cells (ics (List.replicate K 0)) 3) HB3.out)
  have HQL : Hid ((List.replicate K (0 : Int)).length = K) := Lib.hid List.length_replicate
  have HGL := Lib.hid (show w1.heap.size ≤ gU ∧ w1.heap.size ≤ gV ∧ w1.heap.size ≤ gQ by have := HB3.out.size; omega)
  rw [← hgQ]
  clear HRU HVR HB3 hgQ hgU hgV hRUlt0 hRUlt hUlt hVlt
  go_loopw [11] (fun iv wr => ∃ (k : Nat) (U Q : List Int), k ≤ K ∧ iv = .int .i64 (km k) ∧ Hid (Row wr gU 3 (ics U)) ∧ Hid (Row wr gV 3 (ics (v ++ r))) ∧ Hid (Row wr gQ 3 (ics Q)) ∧ Hid (Q.length = K) ∧ Hid (Dv (val a * 2 ^ s) (val b * 2 ^ s) n U Q k) ∧ Hid (Below w1.heap.size w1 wr)) (fun iv _ => (intOf iv + 1).toNat)
  case atStart => exact ⟨K, U0, _, Nat.le_refl _, rfl, HU0, HV0, HQ0, HQL, HDV0, HBA⟩
  case round =>
    clear HU0 HV0 HQ0 HQL HDV0 HBA
    obtain ⟨k, U, Q, hk', rfl, HU, HV, HQ, HQL, HD, HB⟩ := hrel
    cases k with
    | zero =>
      rw [km_zero]
      obtain ⟨e1, e2, e3, e4⟩ := HD.out.done HLT.out
      have hPp := (pow_in hs20).1
      have HQD := Lib.hid HD.out.dQ
      have HUD := Lib.hid (HD.out.dU.take n)
      have HUL : Hid ((U.take n).length = n) := Lib.hid (by rw [List.length_take]; have := HD.out.lu; omega)
      have HUI : Hid (Ints N0 wr (some ⟨gU, 0, none⟩) (U.take n)) := Lib.hid (ints_take (HU.out.ints' (N0 := N0)) n)
      have HQI : Hid (Ints N0 wr (some ⟨gQ, 0, none⟩) Q) := Lib.hid (HQ.out.ints' (N0 := N0))
      have HQV : Hid (val Q = val a / val b ∧ val (U.take n) / 2 ^ s = val a % val b) := Lib.hid (by
        have hb1 : 0 < val b := by have := HGE.out; have := pw_pos n1; omega
        have f1 : val U = 2 ^ s * (val a - val Q * val b) := by
          have : val Q * (val b * 2 ^ s) = 2 ^ s * (val Q * val b) := by grind
          rw [Int.mul_sub]
          have h2 : val a * 2 ^ s = 2 ^ s * val a := Int.mul_comm _ _
          omega
        have f2 : val (U.take n) / 2 ^ s = val a - val Q * val b := by
          rw [e1, f1, Int.mul_ediv_cancel_left _ (by omega)]
        have f3 : 0 ≤ val a - val Q * val b := by
          rw [← f2]
          exact Int.ediv_nonneg (by rw [e1]; exact e2) (by omega)
        have f4 : val a - val Q * val b < val b := by
          rw [f1] at e3
          have h3 : 2 ^ s * (val a - val Q * val b) < 2 ^ s * val b := by rw [Int.mul_comm (2 ^ s) (val b)]; exact e3
          exact Int.lt_of_mul_lt_mul_left h3 (by omega)
        have f5 := (Int.ediv_emod_unique (a := val a) (b := val b) (r := val a - val Q * val b) (q := val Q) hb1).2 ⟨by rw [Int.mul_comm (val b)]; omega, f3, f4⟩
        exact ⟨f5.1.symm, by rw [f2]; exact f5.2.symm⟩)
      have hnm : (n : Int) ≤ (m : Int) + 1 := by omega
      have hKb2 : K ≤ 9223372036854775807 := by omega
      clear e1 e2 e3 e4 HU HV HQ HD hPp
      go_wp2_with (fail)
      go_region_held3 (fun W' : World => Below wr.heap.size wr W')
        (first | exact (Below.refl _ _).drew | assumption | exact Gen.over (by assumption) (by assumption))
        (first
          | (go_at_call 88; (with_reducible refine (trim_any (some ⟨gQ, 0, none⟩) K K Q _ HQL.out (Ints.keep HQI.out (by assumption)) (Nat.le_refl _) hKb2).mono ?_); rintro e' w' ⟨k1, hk1, rfl, hT1, hv1, rfl⟩)
          | (go_at_call 122; refine (shr_any _ HUL.out (Ints.keep HUI.out (by assumption)) HUD.out (by omega) hs20).mono ?_; rintro e' w' ⟨A2, c2, L, rfl, hLc, hLI, hLD, hLL, hLV, hbL⟩)
          | (go_at_call 88; refine (trim_any A2 n c2 L _ hLL hLI hLc (by omega)).mono ?_; rintro e' w' ⟨k3, hk3, rfl, hT3, hv3, rfl⟩))
      all_goals
        go_wp2
        refine bodyPost_ret (v := .tuple #[.slice (some ⟨gQ, 0, none⟩) k1 K, .slice A2 k3 c2]) ?_ rfl ⟨some ⟨gQ, 0, none⟩, K, Q.take k1, A2, c2, L.take k3, ?_, ints_take (HQI.out.keep (by assumption)) k1, ints_take hLI k3, ⟨HQD.out.take k1, hT1, hv1.trans HQV.out.1⟩, ⟨hLD.take k3, hT3, (hv3.trans hLV).trans HQV.out.2⟩, Gen.over (by assumption) HB.out⟩
        · simp [results, Tryz.results104, go_sem]
        · rw [List.length_take, List.length_take, HQL.out, hLL, Nat.min_eq_left hk1, Nat.min_eq_left hk3]
    | succ j =>
      rw [km_succ]
      have hul : U.length = K + n := by have := HD.out.lu; rw [HQL.out] at this; exact this
      have hmK : m + 1 = K + n := by have := HKK.out; have := HDD.out; omega
      obtain ⟨jn, hjn⟩ : ∃ jn, jn = j + n := ⟨_, rfl⟩
      obtain ⟨jm, hjm⟩ : ∃ jm, jm + 1 = jn := ⟨j + n1, by have := HN1.out; omega⟩
      obtain ⟨jp, hjp⟩ : ∃ jp, jp + 2 = jn := ⟨j + p, by have := HP.out; omega⟩
      obtain ⟨x3, hx3⟩ := at_ U jn (by omega)
      obtain ⟨x2, hx2⟩ := at_ U jm (by omega)
      obtain ⟨x1, hx1⟩ := at_ U jp (by omega)
      obtain ⟨v1, hv1⟩ := at_ v (p + 1) (by rw [HVL.out, HP.out]; omega)
      obtain ⟨v2, hv2⟩ := at_ v p (by rw [HVL.out, HP.out]; omega)
      have hn1p : n1 = p + 1 := by have := HP.out; have := HN1.out; omega
      have u3 : wr.cell? ⟨gU, jn, none⟩ = some (.int .i64 x3) := HU.out.intAt hx3
      have u2 : wr.cell? ⟨gU, jm, none⟩ = some (.int .i64 x2) := HU.out.intAt hx2
      have u1 : wr.cell? ⟨gU, jp, none⟩ = some (.int .i64 x1) := HU.out.intAt hx1
      have q1 : wr.cell? ⟨gV, n1, none⟩ = some (.int .i64 v1) := HV.out.intAt (by rw [hn1p, List.getElem?_append_left (lt_of_at hv1)]; exact hv1)
      have q2 : wr.cell? ⟨gV, p, none⟩ = some (.int .i64 v2) := HV.out.intAt (by rw [List.getElem?_append_left (lt_of_at hv2)]; exact hv2)
      have hxd3 := HD.out.dU.at_ hx3
      have hxd2 := HD.out.dU.at_ hx2
      have hxd1 := HD.out.dU.at_ hx1
      have hvd1 := HVD.out.at_ hv1
      have hvd2 := HVD.out.at_ hv2
      have hv10 : v1 ≠ 0 := fun e => HVT.out (by rw [List.getLast?_eq_getElem?, HVL.out, HP.out, ← e]; exact hv1)
      have HK := Lib.hid (by
        have h := HD.out
        rw [HP.out] at h
        exact h.kn HVD.out (by rw [HVL.out, HP.out]) HVX.out hv1 hv2 hv10 (by rw [show j + p = jp by have := HP.out; omega]; exact hx1) (by rw [show j + (p + 1) = jm by have := HP.out; omega]; exact hx2) (by rw [show j + (p + 2) = jn by have := HP.out; omega]; exact hx3))
      have i1 : (j : Int) + (n : Int) = (jn : Int) := by omega
      have i2 : IntKind.i64.wrap (jn : Int) = (jn : Int) := IntWalk.i64_in _ (by omega)
      have i3 : (jn : Int) - 1 = (jm : Int) := by omega
      have i4 : IntKind.i64.wrap (jm : Int) = (jm : Int) := IntWalk.i64_in _ (by omega)
      have i5 : (jn : Int) - 2 = (jp : Int) := by omega
      have i6 : IntKind.i64.wrap (jp : Int) = (jp : Int) := IntWalk.i64_in _ (by omega)
      have i7 : (jn : Int) < (m : Int) + 1 := by omega
      have i8 : (jm : Int) < (m : Int) + 1 := by omega
      have i9 : (jp : Int) < (m : Int) + 1 := by omega
      have ia : (0 : Int) ≤ (jn : Int) := by omega
      have ib : (0 : Int) ≤ (jm : Int) := by omega
      have ic : (0 : Int) ≤ (jp : Int) := by omega
      have id : (0 : Int) ≤ (j : Int) := by omega
      have ie : (n : Int) - 2 = (p : Int) := by have := HP.out; omega
      have ig : IntKind.i64.wrap (p : Int) = (p : Int) := IntWalk.i64_in _ (by have := HP.out; omega)
      have ih : (p : Int) < (n : Int) := by have := HP.out; omega
      have ii : (0 : Int) ≤ (p : Int) := by omega
      have hw3 : IntKind.i64.wrap (x3 * 1048576) = x3 * 1048576 := IntWalk.i64_in _ (by omega)
      have hor := or_join x3 x2 (by omega) hxd2
      obtain ⟨top, htop⟩ : ∃ t, x3 * 1048576 + x2 = t := ⟨_, rfl⟩
      rw [htop] at HK hor
      have htb : 0 ≤ top ∧ top < 1099511627776 := by omega
      have HJN := Lib.hid hjn
      have HJM := Lib.hid hjm
      have HJP := Lib.hid hjp
      have HMK := Lib.hid hmK
      have HUL := Lib.hid hul
      obtain ⟨g0, hg0⟩ : ∃ g, min (top / v1) 1048575 = g := ⟨_, rfl⟩
      obtain ⟨hG0, hG1, hG2⟩ := HK.out.init hg0.symm
      have hgv := mul_small' hG1 hvd1
      have hw4 : IntKind.i64.wrap (g0 * v1) = g0 * v1 := IntWalk.i64_in _ (by omega)
      have hw5 : IntKind.i64.wrap (top - g0 * v1) = top - g0 * v1 := IntWalk.i64_in _ (by omega)
      obtain ⟨r0, hr0⟩ : ∃ r, top - g0 * v1 = r := ⟨_, rfl⟩
      rw [hr0] at hw5 hG2
      have HG0 := Lib.hid hG0
      have HR0 := Lib.hid hr0
      clear hul hmK hjn hjm hjp hx3 hx2 hx1 hv1 hv2 hn1p htop hG0 hgv
      go_wp2
      go_quiet (fail)
      go_wp2
      clear hw4 hw5 hr0 hg0 hor hw3
      have HUz : Hid (Row (wr.drewN nq) gU 3 (ics U)) := HU
      have HVz : Hid (Row (wr.drewN nq) gV 3 (ics (v ++ r))) := HV
      have HQz : Hid (Row (wr.drewN nq) gQ 3 (ics Q)) := HQ
      have HBz := Lib.hid (Gen.dN HB.out nq)
      have C1 : Hid ((wr.drewN nq).cell? ⟨gU, jp, none⟩ = some (.int .i64 x1)) := Lib.hid u1
      have C2 : Hid ((wr.drewN nq).cell? ⟨gV, n1, none⟩ = some (.int .i64 v1)) := Lib.hid q1
      have C3 : Hid ((wr.drewN nq).cell? ⟨gV, p, none⟩ = some (.int .i64 v2)) := Lib.hid q2
      generalize wr.drewN nq = wz at HUz HVz HQz HBz C1 C2 C3 ⊢
      clear HU HV HQ HB u1 u2 u3 q1 q2
      go_loopw [13, 14] (fun gv rv wq => ∃ (g rr : Int), gv = .int .i64 g ∧ rv = .int .i64 rr ∧ (0 ≤ g ∧ g ≤ 1048575) ∧ (0 ≤ rr ∧ rr ≤ top) ∧ Hid (top - g * v1 = rr) ∧ Hid (val ((U.drop j).take (p + 3)) < (g + 1) * (val b * 2 ^ s)) ∧ ∃ q, wq = wz.drewN q) (fun gv _ _ => (intOf gv).toNat)
      case atStart => exact ⟨g0, r0, rfl, rfl, hG1, ⟨hG2, by have := HR0.out; have := shl_in (x := v1) (P := 1) hvd1 (by omega); have : 0 ≤ g0 * v1 := Int.mul_nonneg hG1.1 hvd1.1; omega⟩, HR0, HG0, 0, rfl⟩
      case round =>
        clear hG1 hG2 HG0 HR0
        obtain ⟨g, rr, rfl, rfl, hg1, hr1, HRR, HGG, q, rfl⟩ := hrel
        have u1 := C1.out
        have q1 := C2.out
        have q2 := C3.out
        have hgv2 := mul_small' hg1 hvd2
        have hw6 : IntKind.i64.wrap (g * v2) = g * v2 := IntWalk.i64_in _ (by omega)
        have hout : ∀ (hx : 1048575 < rr ∨ g * v2 ≤ rr * 1048576 + x1), Hid (g * (val b * 2 ^ s) ≤ val ((U.drop j).take (p + 3)) + val b * 2 ^ s) := fun hx => Lib.hid (HK.out.exit hg1 HRR.out.symm hx)
        have HOUT := Lib.hid hout
        clear hout
        by_cases ht0 : rr ≤ 1048575 ∧ rr * 1048576 + x1 < g * v2
        · obtain ⟨hr2, ht⟩ := ht0
          have hw7 : IntKind.i64.wrap (rr * 1048576) = rr * 1048576 := IntWalk.i64_in _ (by omega)
          have hor2 := or_join rr x1 (by omega) hxd1
          obtain ⟨hd1, hd2⟩ := HK.out.dec hg1.1 HRR.out.symm hr1.1 ht
          have hw8 : IntKind.i64.wrap (g - 1) = g - 1 := IntWalk.i64_in _ (by omega)
          have hw9 : IntKind.i64.wrap (rr + v1) = rr + v1 := IntWalk.i64_in _ (by omega)
          have HR2 : Hid (top - (g - 1) * v1 = rr + v1) := Lib.hid (by have := HRR.out; rw [Int.sub_mul, Int.one_mul]; omega)
          have HG2 : Hid (val ((U.drop j).take (p + 3)) < (g - 1 + 1) * (val b * 2 ^ s)) := Lib.hid (by rw [Int.sub_add_cancel]; exact hd1)
          have hrt : rr + v1 ≤ top := by
            have h := HR2.out
            have : 0 ≤ (g - 1) * v1 := Int.mul_nonneg (by omega) hvd1.1
            omega
          obtain ⟨gg, hgg⟩ : ∃ x, g * v2 = x := ⟨_, rfl⟩
          rw [hgg] at ht hw6
          clear hd1 HOUT hgv2
          go_wp2
          go_quiet (fail)
          go_wp2
          go_roundw
          case rel => exact ⟨g - 1, rr + v1, rfl, rfl, by omega, by omega, HR2, HG2, _, rfl⟩
          case measure => simp [intOf]; omega
        · have HE := HOUT.out (by omega)
          obtain ⟨gg, hgg⟩ : ∃ x, g * v2 = x := ⟨_, rfl⟩
          rw [hgg] at ht0 hw6
          have HGV := Lib.hid hgg
          have HT0 := Lib.hid ht0
          clear HOUT hgv2 HRR ht0
          go_upto_region 11 with (fail)
          go_cut [99] (fun c wx => c = .bool false ∧ ∃ q', wx = wz.drewN q')
          case first =>
            by_cases hr2 : rr ≤ 1048575
            · have hw7 : IntKind.i64.wrap (rr * 1048576) = rr * 1048576 := IntWalk.i64_in _ (by omega)
              have hor2 := or_join rr x1 (by omega) hxd1
              have ht : ¬ (rr * 1048576 + x1 < gg) := fun h => HT0.out ⟨hr2, h⟩
              go_quiet (fail)
              go_wp2
              go_meet
              exact ⟨rfl, _, rfl⟩
            · have hdec : decide (rr ≤ 1048575) = false := decide_eq_false hr2
              go_quiet (fail)
              go_wp2
              go_meet
              exact ⟨rfl, _, rfl⟩
          case rest =>
            obtain ⟨rfl, q', rfl⟩ := hcut
            clear hw6 hgg HGV HT0
            have HU5 : Hid (Row (wz.drewN q') gU 3 (ics U)) := HUz
            have HV5 : Hid (Row (wz.drewN q') gV 3 (ics (v ++ r))) := HVz
            have HQ5 : Hid (Row (wz.drewN q') gQ 3 (ics Q)) := HQz
            have HB5 := Lib.hid (Gen.dN HBz.out q')
            generalize wz.drewN q' = w5 at HU5 HV5 HQ5 HB5 ⊢
            clear HUz HVz HQz HBz C1 C2 C3 u1 q1 q2
            have j1 : IntKind.i64.wrap ((jn : Int) + 1) = (jn : Int) + 1 := IntWalk.i64_in _ (by have := HUL.out; have := HMK.out; omega)
            have j2 : (j : Int) ≤ (jn : Int) + 1 := by have := HJN.out; omega
            have j3 : (jn : Int) + 1 ≤ (m : Int) + 1 := by have := HJN.out; have := HMK.out; omega
            have j4 : ((jn : Int) + 1).toNat = jn + 1 := by omega
            have j5 : (m + 1 = j) = False := by simp; have := HJN.out; have := HMK.out; omega
            obtain ⟨N1, hN1⟩ : ∃ N1, N1 = n + 1 := ⟨_, rfl⟩
            have j6 : jn + 1 - j = N1 := by have := HJN.out; omega
            have HNN := Lib.hid hN1
            clear hN1
            have htj : Hid ((U.take j).length = j) := Lib.hid (by rw [List.length_take]; have := HUL.out; have := HMK.out; have := HJN.out; omega)
            have hjN : Hid (j + N1 ≤ U.length) := Lib.hid (by have := HNN.out; have := HUL.out; have := HQL.out; omega)
            go_wp2_with (fail)
            go_must (refine (subT_any _ HU5.out hjN.out HD.out.dU (fun e => hUV e.symm) HV5.out HVL.out HVD.out hg1 (by rw [HUL.out]; omega) (by omega)).mono ?_)
            rintro e w6 ⟨out, cy, rfl, hO, hRU, hS⟩
            have HS := Lib.hid hS
            have HU6 := Lib.hid hRU
            have HV6 := Lib.hid (hO.row gV _ _ (fun e => hUV e.symm) HV5.out)
            have HQ6 := Lib.hid (hO.row gQ _ _ hQU HQ5.out)
            have HB6 := Lib.hid (hO.bl w1 HB5.out HGL.out.1)
            have HVlt : Hid (val b * 2 ^ s < pw N1) := Lib.hid (by rw [HNN.out, pw_succ]; have := HLT.out; have := pw_pos n; omega)
            have HEQ : Hid (val out + pw N1 * cy = val ((U.drop j).take (p + 3)) - g * (val b * 2 ^ s)) := Lib.hid (by
              have h := HS.out.eq
              rw [List.take_of_length_le (show v.length ≤ N1 by rw [HVL.out, HNN.out]; omega), HVX.out, show N1 = p + 3 by have := HNN.out; have := HP.out; omega] at h
              rw [show N1 = p + 3 by have := HNN.out; have := HP.out; omega]
              exact h)
            have HO := Lib.hid (And.intro (val_nonneg HS.out.dg) (show val out < pw N1 by have := val_lt HS.out.dg; rwa [HS.out.len] at this))
            clear hO hRU hS HU5 HV5 HQ5 HB5 j1 j2 j3 j4 j5 j6
            by_cases hcy : cy < 0
            · obtain ⟨hc1, hc2, hc3⟩ := neg_one HEQ.out HO.out HE.out HVlt.out hcy
              have HC2 := Lib.hid hc2
              have HC3 := Lib.hid hc3
              clear hc1 hc2 hc3
              have hw8 : IntKind.i64.wrap (g - 1) = g - 1 := IntWalk.i64_in _ (by omega)
              have j1 : IntKind.i64.wrap ((jn : Int) + 1) = (jn : Int) + 1 := IntWalk.i64_in _ (by have := HUL.out; have := HMK.out; omega)
              have j2 : (j : Int) ≤ (jn : Int) + 1 := by have := HJN.out; omega
              have j3 : (jn : Int) + 1 ≤ (m : Int) + 1 := by have := HJN.out; have := HMK.out; omega
              have j4 : ((jn : Int) + 1).toNat = jn + 1 := by omega
              have j5 : (m + 1 = j) = False := by simp; have := HJN.out; have := HMK.out; omega
              have j6 : jn + 1 - j = N1 := by have := HJN.out; have := HNN.out; omega
              have HUL2 := Lib.hid (seg_len hjN.out HS.out.len)
              go_wp2_with (fail)
              go_must (refine (addB_any _ HU6.out (by rw [HUL2.out]; exact hjN.out) (((HD.out.dU.take j).append HS.out.dg).append (HD.out.dU.drop _)) (fun e => hUV e.symm) HV6.out HVL.out HVD.out (by rw [HUL2.out, HUL.out]; omega) (by omega)).mono ?_)
              rintro e w7 ⟨out2, c2, rfl, hO, hRU, hS⟩
              rw [seg_take htj.out, seg_drop htj.out HS.out.len] at hRU
              have HS2 := Lib.hid hS
              have HU7 := Lib.hid hRU
              have HV7 := Lib.hid (hO.row gV _ _ (fun e => hUV e.symm) HV6.out)
              have HQ7 := Lib.hid (hO.row gQ _ _ hQU HQ6.out)
              have HB7 := Lib.hid (hO.bl w1 HB6.out HGL.out.1)
              clear hO hRU hS HU6 HV6 HQ6 HB6 j1 j2 j3 j4 j5 j6
              have HR7 : Hid (val out2 = val ((U.drop j).take (p + 3)) - (g - 1) * (val b * 2 ^ s)) := Lib.hid (by
                have h := HS2.out.eq
                rw [seg_mid htj.out HS.out.len, List.take_of_length_le (show v.length ≤ N1 by rw [HVL.out, HNN.out]; omega), HVX.out, HC2.out] at h
                have h1 := HS2.out.rng
                have h2 := val_lt HS2.out.dg
                rw [HS2.out.len] at h2
                have h3 := HE.out
                have e : (g - 1) * (val b * 2 ^ s) = g * (val b * 2 ^ s) - val b * 2 ^ s := by rw [Int.sub_mul, Int.one_mul]
                have h4 : c2 = 0 ∨ c2 = 1 := by omega
                rcases h4 with h4 | h4
                · rw [h4, Int.mul_zero] at h; omega
                · rw [h4, Int.mul_one] at h; omega)
              have hg10 : 0 ≤ g - 1 := by
                by_cases h : 0 ≤ g - 1
                · exact h
                · have hg00 : g = 0 := by omega
                  have h3 := HC3.out
                  rw [hg00, Int.zero_mul] at h3
                  have := val_nonneg ((HD.out.dU.drop j).take (p + 3))
                  omega
              have HDN : Hid (Dv (val a * 2 ^ s) (val b * 2 ^ s) n (U.take j ++ out2 ++ U.drop (j + N1)) (Q.set j (g - 1)) j) := Lib.hid (by
                rw [HNN.out]
                refine HD.out.step HLT.out HS2.out.dg (by rw [HS2.out.len, HNN.out]) (by omega) (by rw [HR7.out, HP.out]) ?_
                rw [HR7.out]
                have e : (g - 1) * (val b * 2 ^ s) = g * (val b * 2 ^ s) - val b * 2 ^ s := by rw [Int.sub_mul, Int.one_mul]
                have := HC3.out
                omega)
              have jK : (j : Int) < (K : Int) := by omega
              obtain ⟨y, hy⟩ := at_ Q j (by rw [HQL.out]; omega)
              have l1 : w7.cell? ⟨gQ, j, none⟩ = some (.int .i64 y) := HQ7.out.intAt hy
              have hf := HQ7.out.frozen j
              have hgl := HQ7.out.lt
              have HQ8 : Hid (Row (w7.setCell ⟨gQ, j, none⟩ (.int .i64 (g - 1))) gQ 3 (ics (Q.set j (g - 1)))) := Lib.hid (by rw [← ics_set]; exact HQ7.out.set _ _)
              have HX8 := Lib.hid ((Only.refl gQ w7).set j (.int .i64 (g - 1)))
              clear hy
              go_wp2
              go_roundw
              case rel => exact ⟨j, _, _, by omega, rfl, HX8.out.row gU _ _ hQU.symm HU7.out, Lib.hid (HX8.out.row gV _ _ hQV.symm HV7.out), HQ8, Lib.hid (by rw [List.length_set]; exact HQL.out), HDN, Lib.hid (HX8.out.bl w1 HB7.out HGL.out.2.2)⟩
              case measure => simp [intOf, km]
            · have hcy0 : cy = 0 := by have := HS.out.rng; omega
              have HR7 : Hid (val out = val ((U.drop j).take (p + 3)) - g * (val b * 2 ^ s)) := Lib.hid (by
                have h := HEQ.out
                rw [hcy0, Int.mul_zero] at h
                omega)
              have HDN : Hid (Dv (val a * 2 ^ s) (val b * 2 ^ s) n (U.take j ++ out ++ U.drop (j + N1)) (Q.set j g) j) := Lib.hid (by
                rw [HNN.out]
                refine HD.out.step HLT.out HS.out.dg (by rw [HS.out.len, HNN.out]) (by omega) (by rw [HR7.out, HP.out]) ?_
                rw [HR7.out]
                have e : (g + 1) * (val b * 2 ^ s) = g * (val b * 2 ^ s) + val b * 2 ^ s := by rw [Int.add_mul, Int.one_mul]
                have := HGG.out
                omega)
              have jK : (j : Int) < (K : Int) := by omega
              obtain ⟨y, hy⟩ := at_ Q j (by rw [HQL.out]; omega)
              have l1 : w6.cell? ⟨gQ, j, none⟩ = some (.int .i64 y) := HQ6.out.intAt hy
              have hf := HQ6.out.frozen j
              have hgl := HQ6.out.lt
              have HQ8 : Hid (Row (w6.setCell ⟨gQ, j, none⟩ (.int .i64 g)) gQ 3 (ics (Q.set j g))) := Lib.hid (by rw [← ics_set]; exact HQ6.out.set _ _)
              have HX8 := Lib.hid ((Only.refl gQ w6).set j (.int .i64 g))
              clear hy hcy0
              go_wp2
              go_roundw
              case rel => exact ⟨j, _, _, by omega, rfl, HX8.out.row gU _ _ hQU.symm HU6.out, Lib.hid (HX8.out.row gV _ _ hQV.symm HV6.out), HQ8, Lib.hid (by rw [List.length_set]; exact HQL.out), HDN, Lib.hid (HX8.out.bl w1 HB6.out HGL.out.2.2)⟩
              case measure => simp [intOf, km]
end Go.Proofs.YtnifkianjpjahaaGreatDoor.Bg
/- Big integers: division by one digit; div. -/
namespace Go.Proofs.YtnifkianjpjahaaGreatDoor.Bg
open Go.ChangeShapes Go.WideShapes Go.ChangeAt Go.RowKit Go.Proofs.YtnifkianjpjahaaGreatDoor.Cell
set_option linter.unusedVariables false
set_option linter.unusedSimpArgs false
variable {N0 : Nat}

/-- division by one digit, from the last digit on -/
structure Dd (a Q : List Int) (d : Int) (k : Nat) (r : Int) : Prop where
  dQ : Dg Q
  len : Q.length = a.length
  rng : 0 ≤ r ∧ r < d
  eq : val (a.drop k) = d * val (Q.drop k) + r
theorem Dd.start (a : List Int) {d : Int} (hd : 1 ≤ d) : Dd a (List.replicate a.length 0) d a.length 0 :=
  ⟨fun x hx => by have := List.eq_of_mem_replicate hx; omega, List.length_replicate, by omega, by rw [List.drop_of_length_le (Nat.le_refl _), List.drop_of_length_le (by rw [List.length_replicate]; exact Nat.le_refl _), val_nil]; simp⟩
theorem Dd.step {a Q : List Int} {d r x : Int} {k : Nat} (h : Dd a Q d (k + 1) r) (da : Dg a) (hx : a[k]? = some x) : Dd a (Q.set k ((r * 1048576 + x) / d)) d k ((r * 1048576 + x) % d) := by
  have h1 := da.at_ hx
  have h2 := h.rng
  have hk := lt_of_at hx
  have h3 : 0 ≤ (r * 1048576 + x) / d := Int.ediv_nonneg (by omega) (by omega)
  have h4 : (r * 1048576 + x) / d < 1048576 := Int.ediv_lt_of_lt_mul (by omega) (by omega)
  refine ⟨fun y hy => ?_, by rw [List.length_set]; exact h.len, ⟨Int.emod_nonneg _ (by omega), Int.emod_lt_of_pos _ (by omega)⟩, ?_⟩
  · rcases List.mem_or_eq_of_mem_set hy with hy | rfl
    · exact h.dQ y hy
    · omega
  · have e1 : val (a.drop k) = x + 1048576 * val (a.drop (k + 1)) := val_drop hx
    have e2 : val ((Q.set k ((r * 1048576 + x) / d)).drop k) = (r * 1048576 + x) / d + 1048576 * val (Q.drop (k + 1)) := by
      rw [val_drop (List.getElem?_set_self (by rw [h.len]; exact hk)), List.drop_set, if_pos (by omega)]
    have e3 := Int.mul_ediv_add_emod (r * 1048576 + x) d
    rw [e1, e2, h.eq]
    obtain ⟨q, hq⟩ : ∃ q, (r * 1048576 + x) / d = q := ⟨_, rfl⟩
    obtain ⟨m, hm⟩ : ∃ m, (r * 1048576 + x) % d = m := ⟨_, rfl⟩
    rw [hq, hm] at e3
    rw [hq, hm]
    have h5 : x = d * q + m - r * 1048576 := by omega
    rw [h5]
    grind
theorem Dd.done {a Q : List Int} {d r : Int} (h : Dd a Q d 0 r) : val Q = val a / d ∧ r = val a % d := by
  have h1 := h.eq
  rw [List.drop_zero, List.drop_zero] at h1
  have h2 := (Int.ediv_emod_unique (a := val a) (b := d) (r := r) (q := val Q) (by have := h.rng; omega)).2 ⟨by omega, h.rng.1, h.rng.2⟩
  exact ⟨h2.1.symm, h2.2.symm⟩
set_option maxRecDepth 100000 in
set_option maxHeartbeats 8000000 in
theorem divDigit_any {A : Option Addr} {n c : Nat} {a : List Int} {d : Int} (w : World) (hn : a.length = n) (ha : Ints N0 w A a) (da : Dg a) (hd : 1 ≤ d ∧ d < 1048576) (hbig : n ≤ 1000) :
    Calls Tryz.prog 103 #[.slice A n c, .int .i64 d] w fun e w' => ∃ A1 c1 lq A2 c2 lr, e = .returned (.tuple #[.slice A1 (List.length lq) c1, .slice A2 (List.length lr) c2]) ∧ Ints N0 w' A1 lq ∧ Ints N0 w' A2 lr ∧ Nm lq (val a / d) ∧ Nm lr (val a % d) ∧ Below w.heap.size w w' := by
  have HN := Lib.hid hn
  have HDA := Lib.hid da
  obtain ⟨iI, hiI, hzI, hyI, hxI⟩ := info_parts infoI
  have hmk : ∀ W : World, (Instr.makeSlice 22 (.int .i64 n) (.int .i64 n)).run Tryz.prog W = .ok (.slice (some ⟨W.heap.size, 0, none⟩) n n) (W.alloc (.cells (ics (List.replicate n 0)) 3)) := fun W => by
    have hr := run_make (P := Tryz.prog) W 22 3 iI (.int .i64 0) Tryz.underlying22 hiI hzI .i64 .i64 n n (by omega) (Int.le_refl _) (by rw [hxI]; omega) (by omega)
    rw [hyI, Int.toNat_natCast, made_ints] at hr
    exact hr
  have hkm := wrap_km n (by omega)
  have hkd : (n : Int) - 1 = km n := rfl
  have HD0 : Hid (Dd a (List.replicate n 0) d n 0) := Lib.hid (by rw [← hn]; exact Dd.start a hd.1)
  have HR0 : Hid (Row (w.alloc (.cells (ics (List.replicate n 0)) 3)) w.heap.size 3 (ics (List.replicate n 0))) := Lib.hid (Row.new _ _ _)
  have HB0 : Hid (Below w.heap.size w (w.alloc (.cells (ics (List.replicate n 0)) 3))) := Lib.hid (Gen.b_alloc (Below.refl _ _))
  clear hn da hiI hzI hyI hxI
  go_enter Tryz.func103, Tryz.ntmps103
  go_wp2
  clear hmk hkm hkd
  go_loopw [7, 8] (fun rv iv wr => ∃ (k : Nat) (Q : List Int) (r : Int), k ≤ n ∧ iv = .int .i64 (km k) ∧ rv = .int .i64 r ∧ Hid (Row wr w.heap.size 3 (ics Q)) ∧ Hid (Dd a Q d k r) ∧ Hid (Below w.heap.size w wr)) (fun _ iv _ => (intOf iv + 1).toNat)
  case atStart => exact ⟨n, _, 0, Nat.le_refl _, rfl, rfl, HR0, HD0, HB0⟩
  case round =>
    clear HR0 HD0 HB0
    obtain ⟨k, Q, r, hk, rfl, rfl, HR, HD, HB⟩ := hrel
    have hg := HR.out.lt
    have hrr := HD.out.rng
    cases k with
    | zero =>
      rw [km_zero]
      have HE := Lib.hid HD.out.done
      have HQL : Hid (Q.length = n) := Lib.hid (by rw [HD.out.len, HN.out])
      have HQD := Lib.hid HD.out.dQ
      have HQI := Lib.hid (HR.out.ints' (N0 := N0))
      have HRD : Hid (Dg [r]) := Lib.hid fun x hx => by
        obtain rfl := List.mem_singleton.1 hx
        omega
      clear HR HD
      go_wp2_with (fail)
      go_must (refine (trim_any _ n n Q _ HQL.out HQI.out (Nat.le_refl _) (by omega)).mono ?_)
      rintro e w1 ⟨k1, hk1, rfl, hT1, hv1, rfl⟩
      have HT1 := Lib.hid hT1
      have HV1 := Lib.hid hv1
      have hI1 : Ints N0 (w1.alloc (.cells #[.int .i64 r] 3)) (some ⟨w1.heap.size, 0, none⟩) [r] := (show Row _ _ 3 (ics [r]) from Row.new _ _ _).ints'
      have HI1 := Lib.hid hI1
      clear hT1 hv1 hI1
      go_wp2_with (fail)
      go_must (refine (trim_any _ 1 1 [r] _ rfl HI1.out (Nat.le_refl _) (by omega)).mono ?_)
      rintro e w2 ⟨k2, hk2, rfl, hT2, hv2, rfl⟩
      have HT2 := Lib.hid hT2
      have HV2 := Lib.hid hv2
      clear hT2 hv2
      go_wp2
      refine bodyPost_ret (v := .tuple #[.slice (some ⟨w.heap.size, 0, none⟩) k1 n, .slice (some ⟨w1.heap.size, 0, none⟩) k2 1]) ?_ rfl ⟨some ⟨w.heap.size, 0, none⟩, n, Q.take k1, some ⟨w1.heap.size, 0, none⟩, 1, [r].take k2, ?_, ints_take (HQI.out.keep (Gen.b_alloc (Below.refl _ _))) k1, ints_take HI1.out k2, ⟨HQD.out.take k1, HT1.out, HV1.out.trans HE.out.1⟩, ⟨HRD.out.take k2, HT2.out, HV2.out.trans ?_⟩, Gen.b_alloc HB.out⟩
      · simp [results, Tryz.results103, go_sem]
      · rw [List.length_take, List.length_take, HQL.out, Nat.min_eq_left hk1, List.length_singleton, Nat.min_eq_left hk2]
      · rw [← HE.out.2, val_cons, val_nil]; omega
    | succ j =>
      rw [km_succ]
      obtain ⟨bl, ol, rfl, hcell⟩ := (ha.keep HB.out) (by rw [HN.out]; omega)
      obtain ⟨x, hx⟩ := at_ a j (by rw [HN.out]; omega)
      have c0 := hcell j x hx
      obtain ⟨y, hy⟩ := at_ Q j (by rw [HD.out.len, HN.out]; omega)
      have l1 : wr.cell? ⟨w.heap.size, j, none⟩ = some (.int .i64 y) := HR.out.intAt hy
      have hf := HR.out.frozen j
      have hxd := HDA.out.at_ hx
      have j0 : (0 : Int) ≤ (j : Int) := by omega
      have jl : (j : Int) < (n : Int) := by omega
      have hw1 : IntKind.i64.wrap (r * 1048576) = r * 1048576 := IntWalk.i64_in _ (by omega)
      have hor := or_join r x (by omega) hxd
      have hst := HD.out.step HDA.out hx
      obtain ⟨t, ht⟩ : ∃ t, r * 1048576 + x = t := ⟨_, rfl⟩
      rw [ht] at hor hst
      have ht0 : 0 ≤ t ∧ t < 1099511627776 := by omega
      have hw2 : IntKind.i64.wrap (j : Int) = (j : Int) := IntWalk.i64_in _ (by omega)
      have HST := Lib.hid hst
      have HR2 : Hid (Row (wr.setCell ⟨w.heap.size, j, none⟩ (.int .i64 (t / d))) w.heap.size 3 (ics (Q.set j (t / d)))) := Lib.hid (by rw [← ics_set]; exact HR.out.set _ _)
      have HB2 : Hid (Below w.heap.size w (wr.setCell ⟨w.heap.size, j, none⟩ (.int .i64 (t / d)))) := Lib.hid (Gen.b_set HB.out (Nat.le_refl _))
      have hmod : t.tmod d = t % d := IntWalk.rem_in _ _ ht0.1
      have hquo := IntWalk.i64_quo t d (by omega)
      have hd0 : (d == 0) = false := by simp; omega
      clear hcell hx hy hst ht
      go_wp2
      go_region
      all_goals
        go_wp2
        go_roundw
        case rel => exact ⟨j, _, _, by omega, rfl, rfl, HR2, HST, Lib.hid HB2.out.drew⟩
        case measure => simp [intOf, km]
theorem field_dig (W : World) (s : Int) (A : Option Addr) (n c : Nat) : (Instr.field 24 (bigV s A n c) 1).run Tryz.prog W = .ok (.slice A n c) W := by kernel_rfl
section
variable {A A' : Option Addr} {n n' c c' : Nat} {a b : List Int}
def DivP (N0 : Nat) (w : World) (a b : List Int) (e : Ending) (w' : World) : Prop := ∃ A1 c1 lq A2 c2 lr, e = .returned (.tuple #[.slice A1 (List.length lq) c1, .slice A2 (List.length lr) c2]) ∧ Ints N0 w' A1 lq ∧ Ints N0 w' A2 lr ∧ Nm lq (val a / val b) ∧ Nm lr (val a % val b) ∧ Below w.heap.size w w'
set_option maxRecDepth 100000 in
set_option maxHeartbeats 8000000 in
theorem div_a (w : World) (hn : a.length = n) (hn' : b.length = n') (ha : Ints N0 w A a) (hb : Ints N0 w A' b) (da : Dg a) (db : Dg b) (ta : Tr a) (tb : Tr b) (hbig : n ≤ 100) (hbig' : n' ≤ 100) (hlt : val a < val b) :
    Calls Tryz.prog 75 #[.slice A n c, .slice A' n' c'] w (DivP N0 w a b) := by
  have HC := Lib.hid (cmpI_lt hlt)
  have HQ : Hid (val a / val b = 0 ∧ val a % val b = val a) := Lib.hid ⟨Int.ediv_eq_zero_of_lt (val_nonneg da) hlt, Int.emod_eq_of_lt (val_nonneg da) hlt⟩
  have HNA : Hid (Nm a (val a)) := Lib.hid ⟨da, ta, rfl⟩
  have HN := Lib.hid hn
  clear hlt hn
  go_enter Tryz.func75, Tryz.ntmps75
  go_wp2_with (fail)
  go_must (refine (compare_any _ HN.out hn' ha hb da db ta tb (by omega) (by omega)).mono ?_)
  rintro e w1 ⟨rfl, q, rfl⟩
  rw [HC.out]
  go_wp2_with (fail)
  go_must (refine (clone_any _ HN.out (ha.keep (Gen.dN (Below.refl _ _) q)) (by omega)).mono ?_)
  rintro e w2 ⟨A2, c2, rfl, hI2, hb2⟩
  have HI := Lib.hid hI2
  have HB := Lib.hid (Gen.over hb2 (Gen.dN (Below.refl _ _) q))
  clear ha hb hI2 hb2
  go_wp2
  refine bodyPost_ret (v := .tuple #[.slice none 0 0, .slice A2 n c2]) ?_ rfl ⟨none, 0, [], A2, c2, a, ?_, Ints.nil _ _ _, HI.out, by rw [HQ.out.1]; exact Nm.zero, by rw [HQ.out.2]; exact HNA.out, HB.out⟩
  · simp [results, Tryz.results75, go_sem]
  · rw [HN.out]; rfl
set_option maxRecDepth 100000 in
set_option maxHeartbeats 8000000 in
theorem div_b (w : World) (hn : a.length = n) (hn' : b.length = n') (ha : Ints N0 w A a) (hb : Ints N0 w A' b) (da : Dg a) (db : Dg b) (ta : Tr a) (tb : Tr b) (hbig : n ≤ 100) (hbig' : n' ≤ 100) (hle : val b ≤ val a) (hb0 : 0 < val b) (hm : val a < 18446744073709551616) :
    Calls Tryz.prog 75 #[.slice A n c, .slice A' n' c'] w (DivP N0 w a b) := by
  obtain ⟨cm, hcm, hcm0⟩ : ∃ k, cmpI (val a) (val b) = k ∧ ¬ (k < 0) := ⟨_, rfl, by unfold cmpI; rw [if_neg (by omega)]; split <;> omega⟩
  have HC := Lib.hid hcm
  obtain ⟨u, hu⟩ : ∃ u, val a = u := ⟨_, rfl⟩
  obtain ⟨v, hv⟩ : ∃ v, val b = v := ⟨_, rfl⟩
  have HU := Lib.hid hu
  have HV := Lib.hid hv
  have hu0 : 0 ≤ u := by rw [← hu]; exact val_nonneg da
  rw [hu] at hle hm
  rw [hv] at hle hb0
  have q0 : 0 ≤ u / v := Int.ediv_nonneg hu0 (by omega)
  have q1 : u / v ≤ u := Int.ediv_le_self _ hu0
  have m0 : 0 ≤ u % v := Int.emod_nonneg _ (by omega)
  have m1 : u % v < v := Int.emod_lt_of_pos _ hb0
  have hv0 : (v == 0) = false := by simp; omega
  have hvn : ¬ (v = 0) := by omega
  have hquo := IntWalk.u64_quo u v (by omega)
  have hmod : u.tmod v = u % v := IntWalk.rem_in _ _ hu0
  have hmodw : IntKind.u64.wrap (u % v) = u % v := IntWalk.u64_in _ (by omega)
  have HSQ : Hid (u / v ≠ 0 → (1 : Int) = sg (u / v)) := Lib.hid fun _ => (sg_pos (by omega)).symm
  have HSM : Hid (u % v ≠ 0 → (1 : Int) = sg (u % v)) := Lib.hid fun _ => (sg_pos (by omega)).symm
  clear hcm hu hv
  go_enter Tryz.func75, Tryz.ntmps75
  go_wp2_with (fail)
  go_must (refine (compare_any _ hn hn' ha hb da db ta tb (by omega) (by omega)).mono ?_)
  rintro e w1 ⟨rfl, q, rfl⟩
  rw [HC.out]
  go_wp2_with (fail)
  go_must (refine (mag_yes _ hn (ha.keep (Gen.dN (Below.refl _ _) q)) da ta (by rw [HU.out]; exact hm)).mono ?_)
  rintro e w2 ⟨rfl, rfl⟩
  rw [HU.out]
  go_wp2_with (fail)
  go_must (refine (mag_yes _ hn' (hb.keep (Gen.dN (Below.refl _ _) q)) db tb (by rw [HV.out]; omega)).mono ?_)
  rintro e w2 ⟨rfl, rfl⟩
  rw [HV.out]
  have HB0 := Lib.hid (Gen.dN (Below.refl w.heap.size w) q)
  have hfd := field_dig
  clear ha hb
  go_wp2_with (fail)
  go_region_held3 (fun W' : World => Below w.heap.size w W')
    (first | exact HB0.out.drew | exact Gen.over (by assumption) (by assumption))
    (first
      | (go_at_call 94; (with_reducible refine (ofMag_any (N0 := N0) (z := u / v) _ (by omega) (by omega) HSQ.out).mono ?_); rintro e' w' ⟨x1, rfl, hx1, hb1⟩; obtain ⟨A1, c1, l1, rfl, hI1, hN1, hL1⟩ := hx1.ex)
      | (go_at_call 94; (with_reducible refine (ofMag_any (N0 := N0) (z := u % v) _ (by omega) (by omega) HSM.out).mono ?_); rintro e' w' ⟨x2, rfl, hx2, hb2⟩; obtain ⟨A2, c2, l2, rfl, hI2, hN2, hL2⟩ := hx2.ex))
  all_goals
    go_wp2
    refine bodyPost_ret (v := .tuple #[.slice A1 l1.length c1, .slice A2 l2.length c2]) ?_ rfl ⟨A1, c1, l1, A2, c2, l2, rfl, by first | exact hI1 | exact hI1.keep hb2, by first | exact hI2 | exact hI2.keep hb1, hN1.to (by rw [HU.out, HV.out]; omega), hN2.to (by rw [HU.out, HV.out]; omega), by assumption⟩
    simp [results, Tryz.results75, go_sem]
end
end Go.Proofs.YtnifkianjpjahaaGreatDoor.Bg
/- Big integers: div, whole; quotients that are rounded down. -/
namespace Go.Proofs.YtnifkianjpjahaaGreatDoor.Bg
open Go.ChangeShapes Go.WideShapes Go.ChangeAt Go.RowKit Go.Proofs.YtnifkianjpjahaaGreatDoor.Cell
set_option linter.unusedVariables false
set_option linter.unusedSimpArgs false
variable {N0 : Nat}

section
variable {A A' : Option Addr} {n n' c c' : Nat} {a b : List Int}
set_option maxRecDepth 100000 in
set_option maxHeartbeats 8000000 in
theorem div_c (w : World) (hn : a.length = n) (hn' : b.length = 1) (ha : Ints N0 w A a) (hb : Ints N0 w A' b) (da : Dg a) (db : Dg b) (ta : Tr a) (tb : Tr b) (hbig : n ≤ 100) (hle : val b ≤ val a) (hb0 : 0 < val b) (hm : 18446744073709551616 ≤ val a) :
    Calls Tryz.prog 75 #[.slice A n c, .slice A' 1 c'] w (DivP N0 w a b) := by
  obtain ⟨cm, hcm, hcm0⟩ : ∃ k, cmpI (val a) (val b) = k ∧ ¬ (k < 0) := ⟨_, rfl, by unfold cmpI; rw [if_neg (by omega)]; split <;> omega⟩
  have HC := Lib.hid hcm
  obtain ⟨bb, ob, rfl, hcell⟩ := hb (by omega)
  obtain ⟨d, hd⟩ := at_ b 0 (by omega)
  have c0 : w.cell? ⟨bb, ob, none⟩ = some (.int .i64 d) := hcell 0 d hd
  have hdd := db.at_ hd
  have hvb : val b = d := by
    have := val_take_succ hd
    rw [List.take_of_length_le (by omega), List.take_zero, val_nil, pw_zero] at this
    omega
  have HVB := Lib.hid hvb
  have hd1 : 1 ≤ d ∧ d < 1048576 := by omega
  have HB' := Lib.hid hb
  clear hcm hcell hd hvb hdd hb
  go_enter Tryz.func75, Tryz.ntmps75
  go_wp2_with (fail)
  go_must (refine (compare_any _ hn hn' ha HB'.out da db ta tb (by omega) (by omega)).mono ?_)
  rintro e w1 ⟨rfl, q, rfl⟩
  rw [HC.out]
  go_wp2_with (fail)
  go_must (refine (mag_no _ hn (ha.keep (Gen.dN (Below.refl _ _) q)) da hm (by omega)).mono ?_)
  rintro e w2 ⟨rfl, rfl⟩
  go_wp2_with (fail)
  go_must (refine (divDigit_any _ hn (ha.keep (Gen.dN (Below.refl _ _) q)) da hd1 (by omega)).mono ?_)
  rintro e w2 ⟨A1, c1, lq, A2, c2, lr, rfl, h1, h2, h3, h4, h5⟩
  have HP : Hid (DivP N0 w a b (.returned (.tuple #[.slice A1 lq.length c1, .slice A2 lr.length c2])) w2) := Lib.hid ⟨A1, c1, lq, A2, c2, lr, rfl, h1, h2, by rw [HVB.out]; exact h3, by rw [HVB.out]; exact h4, Gen.over h5 (Gen.dN (Below.refl _ _) q)⟩
  clear h1 h2 h3 h4 h5 ha HB' c0
  go_wp2
  refine bodyPost_ret (v := .tuple #[.slice A1 lq.length c1, .slice A2 lr.length c2]) ?_ rfl HP.out
  simp [results, Tryz.results75, go_sem]
set_option maxRecDepth 100000 in
set_option maxHeartbeats 8000000 in
theorem div_d (w : World) (hn : a.length = n) (hn' : b.length = n') (ha : Ints N0 w A a) (hb : Ints N0 w A' b) (da : Dg a) (db : Dg b) (ta : Tr a) (tb : Tr b) (hbig : n ≤ 100) (h2 : 2 ≤ n') (hle : val b ≤ val a) (hm : 18446744073709551616 ≤ val a) :
    Calls Tryz.prog 75 #[.slice A n c, .slice A' n' c'] w (DivP N0 w a b) := by
  obtain ⟨cm, hcm, hcm0⟩ : ∃ k, cmpI (val a) (val b) = k ∧ ¬ (k < 0) := ⟨_, rfl, by unfold cmpI; rw [if_neg (by omega)]; split <;> omega⟩
  have HC := Lib.hid hcm
  have hlen : n' ≤ n := by
    by_cases h : n' ≤ n
    · exact h
    · have := val_len_lt da db tb (by omega)
      omega
  have h1b : ((n' : Int) == 1) = false := by simp; omega
  clear hcm
  go_enter Tryz.func75, Tryz.ntmps75
  go_wp2_with (fail)
  go_must (refine (compare_any _ hn hn' ha hb da db ta tb (by omega) (by omega)).mono ?_)
  rintro e w1 ⟨rfl, q, rfl⟩
  rw [HC.out]
  go_wp2_with (fail)
  go_must (refine (mag_no _ hn (ha.keep (Gen.dN (Below.refl _ _) q)) da hm (by omega)).mono ?_)
  rintro e w2 ⟨rfl, rfl⟩
  go_wp2_with (fail)
  go_must (refine (divLong_any _ hn hn' (ha.keep (Gen.dN (Below.refl _ _) q)) (hb.keep (Gen.dN (Below.refl _ _) q)) da db tb h2 hlen hbig).mono ?_)
  rintro e w2 ⟨A1, c1, lq, A2, c2, lr, rfl, h1, h2, h3, h4, h5⟩
  have HP : Hid (DivP N0 w a b (.returned (.tuple #[.slice A1 lq.length c1, .slice A2 lr.length c2])) w2) := Lib.hid ⟨A1, c1, lq, A2, c2, lr, rfl, h1, h2, h3, h4, Gen.over h5 (Gen.dN (Below.refl _ _) q)⟩
  clear h1 h2 h3 h4 h5 ha hb
  go_wp2
  refine bodyPost_ret (v := .tuple #[.slice A1 lq.length c1, .slice A2 lr.length c2]) ?_ rfl HP.out
  simp [results, Tryz.results75, go_sem]
theorem div_any (w : World) (hn : a.length = n) (hn' : b.length = n') (ha : Ints N0 w A a) (hb : Ints N0 w A' b) (da : Dg a) (db : Dg b) (ta : Tr a) (tb : Tr b) (hbig : n ≤ 100) (hbig' : n' ≤ 100) (hb0 : 0 < val b) :
    Calls Tryz.prog 75 #[.slice A n c, .slice A' n' c'] w (DivP N0 w a b) := by
  by_cases hlt : val a < val b
  · exact div_a w hn hn' ha hb da db ta tb hbig hbig' hlt
  by_cases hm : val a < 18446744073709551616
  · exact div_b w hn hn' ha hb da db ta tb hbig hbig' (by omega) hb0 hm
  by_cases h1 : n' = 1
  · subst h1
    exact div_c w hn hn' ha hb da db ta tb hbig (by omega) hb0 (by omega)
  · have h0 : n' ≠ 0 := fun e => by
      have : b = [] := List.eq_nil_of_length_eq_zero (by omega)
      rw [this, val_nil] at hb0
      omega
    exact div_d w hn hn' ha hb da db ta tb hbig (by omega) (by omega) (by omega)
end
/-- the quotient, rounded down, and what remains -/
def dq (x y : Int) : Int := if 0 < y then x / y else (-x) / (-y)
def dr (x y : Int) : Int := if 0 < y then x % y else -((-x) % (-y))
theorem dq_dr (x y : Int) : dq x y * y + dr x y = x := by
  unfold dq dr
  split
  · have := Int.mul_ediv_add_emod x y
    rw [Int.mul_comm]
    exact this
  · have := Int.mul_ediv_add_emod (-x) (-y)
    have h : (-x) / (-y) * y = -((-y) * ((-x) / (-y))) := by rw [Int.neg_mul, Int.neg_neg, Int.mul_comm]
    omega
theorem dr_in {x y : Int} (hy : y ≠ 0) : (0 < y → 0 ≤ dr x y ∧ dr x y < y) ∧ (y < 0 → y < dr x y ∧ dr x y ≤ 0) := by
  unfold dr
  constructor
  · intro h
    rw [if_pos h]
    exact ⟨Int.emod_nonneg _ hy, Int.emod_lt_of_pos _ h⟩
  · intro h
    rw [if_neg (by omega)]
    have h1 := Int.emod_nonneg (-x) (show -y ≠ 0 by omega)
    have h2 := Int.emod_lt_of_pos (-x) (show 0 < -y by omega)
    omega
/-- by absolute values -/
theorem neg_div {X Y : Int} (hX : 0 ≤ X) (hY : 0 < Y) : (X % Y = 0 → (-X) / Y = -(X / Y) ∧ (-X) % Y = 0) ∧ (X % Y ≠ 0 → (-X) / Y = -(X / Y + 1) ∧ (-X) % Y = Y - X % Y) := by
  have h1 := Int.mul_ediv_add_emod X Y
  have h2 := Int.emod_nonneg X (show Y ≠ 0 by omega)
  have h3 := Int.emod_lt_of_pos X hY
  obtain ⟨q, hq⟩ : ∃ q, X / Y = q := ⟨_, rfl⟩
  obtain ⟨r, hr⟩ : ∃ r, X % Y = r := ⟨_, rfl⟩
  rw [hq, hr] at h1
  rw [hr] at h2 h3
  rw [hq, hr]
  constructor
  · intro h0
    have := (Int.ediv_emod_unique (a := -X) (b := Y) (r := 0) (q := -q) hY).2 ⟨by rw [Int.mul_neg]; omega, by omega, hY⟩
    exact this
  · intro h0
    have e : Y * (-(q + 1)) = -(Y * q) - Y := by rw [Int.mul_neg, Int.mul_add, Int.mul_one]; omega
    exact (Int.ediv_emod_unique (a := -X) (b := Y) (r := Y - r) (q := -(q + 1)) hY).2 ⟨by rw [e]; omega, by omega, by omega⟩
theorem dq_abs {x y : Int} (hy : y ≠ 0) :
    (sg x * sg y < 0 ∧ (x.natAbs : Int) % y.natAbs ≠ 0 → dq x y = -((x.natAbs : Int) / y.natAbs + 1) ∧ dr x y = sg y * (y.natAbs - (x.natAbs : Int) % y.natAbs)) ∧
    (¬ (sg x * sg y < 0 ∧ (x.natAbs : Int) % y.natAbs ≠ 0) → dq x y = (sg x * sg y) * ((x.natAbs : Int) / y.natAbs) ∧ dr x y = sg y * ((x.natAbs : Int) % y.natAbs)) := by
  rcases sg_cases y with ⟨h, e⟩ | ⟨h, _⟩ | ⟨h, e⟩
  · have ey : (y.natAbs : Int) = -y := by omega
    have h0 : ¬ (0 < y) := by omega
    unfold dq dr
    rw [if_neg h0, if_neg h0, e, ey]
    rcases sg_cases x with ⟨h', e'⟩ | ⟨h', e'⟩ | ⟨h', e'⟩
    · have ex : (x.natAbs : Int) = -x := by omega
      rw [e', ex]
      exact ⟨fun c => by omega, fun _ => by omega⟩
    · subst h'
      rw [e']
      exact ⟨fun c => by omega, fun _ => by simp⟩
    · have ex : (x.natAbs : Int) = x := by omega
      rw [e', ex]
      have hn := neg_div (X := x) (Y := -y) (by omega) (by omega)
      refine ⟨fun c => ?_, fun c => ?_⟩
      · have := hn.2 c.2
        omega
      · have := hn.1 (by omega)
        omega
  · exact absurd h hy
  · have ey : (y.natAbs : Int) = y := by omega
    unfold dq dr
    rw [if_pos h, if_pos h, e, ey]
    rcases sg_cases x with ⟨h', e'⟩ | ⟨h', e'⟩ | ⟨h', e'⟩
    · have ex : (x.natAbs : Int) = -x := by omega
      rw [e', ex]
      have hn := neg_div (X := -x) (Y := y) (by omega) h
      rw [Int.neg_neg] at hn
      refine ⟨fun c => ?_, fun c => ?_⟩
      · have := hn.2 c.2
        omega
      · have := hn.1 (by omega)
        omega
    · subst h'
      rw [e']
      exact ⟨fun c => by omega, fun _ => by simp⟩
    · have ex : (x.natAbs : Int) = x := by omega
      rw [e', ex]
      exact ⟨fun c => by omega, fun _ => by omega⟩
end Go.Proofs.YtnifkianjpjahaaGreatDoor.Bg
