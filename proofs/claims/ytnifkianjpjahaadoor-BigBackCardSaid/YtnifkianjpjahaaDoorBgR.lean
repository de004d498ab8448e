/- Big integers: shifts. -/
import Derived.Test.YtnifkianjpjahaaDoorBgQ
import Derived.Lib.Strings
import Derived.Lib.Slices
import Derived.Lib.Small
import Derived.Lib.Walk
import Derived.Lib.BitFns
namespace Go.Proofs.YtnifkianjpjahaaDoor.Bg
open Go.ChangeShapes Go.WideShapes Go.ChangeAt Go.RowKit Go.Proofs.YtnifkianjpjahaaDoor.Cell
set_option linter.unusedVariables false
set_option linter.unusedSimpArgs false

theorem bitLen_lt : ∀ (f x : Nat), x < 2 ^ f → x < 2 ^ Lib.bitLenAux f x
  | 0, x, h => by simpa [Lib.bitLenAux] using h
  | f + 1, x, h => by
    simp only [Lib.bitLenAux]
    split
    · rename_i e; subst e; simp
    · have := bitLen_lt f (x / 2) (by rw [Nat.pow_succ] at h; omega)
      rw [Nat.add_comm, Nat.pow_succ]
      omega
theorem len8_in (y : Int) (h0 : 0 ≤ y) (h1 : y ≤ 255) : ∃ k : Nat, Lib.len8 y = (k : Int) ∧ k ≤ 8 ∧ y < 2 ^ k ∧ (y < 16 → k ≤ 4) := by
  refine ⟨Lib.bitLen y.toNat, Lib.len8_of y h0 h1, Lib.bitLen_le8' y h0 h1, ?_, fun h => Lib.bitLen_le _ 4 (by decide) (by omega)⟩
  have := bitLen_lt 64 y.toNat (by omega)
  have h2 : (y.toNat : Int) < ((2 ^ Lib.bitLen y.toNat : Nat) : Int) := by exact_mod_cast this
  rw [Int.toNat_of_nonneg h0] at h2
  simpa using h2
set_option maxRecDepth 100000 in
set_option maxHeartbeats 4000000 in
theorem len64_any (x : Int) (w : World) (h0 : 0 ≤ x) (h1 : x < 1048576) :
    Calls Tryd.prog 74 #[.int .u64 x] w fun e w' => ∃ k : Nat, e = .returned (.int .i64 k) ∧ k ≤ 20 ∧ x < 2 ^ k ∧ w' = w := by
  have n32 : ¬ (4294967296 ≤ x) := by omega
  by_cases h16 : 65536 ≤ x
  · have n8 : ¬ (256 ≤ x / 65536) := by omega
    obtain ⟨k, hk, hk8, hx, hk4⟩ := len8_in (x / 65536) (by omega) (by omega)
    have q0 : 0 ≤ x / 65536 := by omega
    have q1 : x / 65536 ≤ 255 := by omega
    have HL : Hid (k + 16 ≤ 20 ∧ x < 2 ^ (k + 16)) := Lib.hid ⟨by have := hk4 (by omega); omega, by
      have e : (2 : Int) ^ (k + 16) = 2 ^ k * 65536 := by rw [Int.pow_add]; rfl
      rw [e]; omega⟩
    have HK := Lib.hid hk
    clear hk4 hx hk
    go_enter Tryd.func74, Tryd.ntmps74
    go_wp2
    all_goals
      go_ret
      refine ⟨k + 16, congrArg Ending.returned (congrArg (Value.int IntKind.i64) ?_), HL.out.1, HL.out.2, rfl⟩
      rw [HK.out]
      unfold wrap64
      omega
  · by_cases h8 : 256 ≤ x
    · obtain ⟨k, hk, hk8, hx, hk4⟩ := len8_in (x / 256) (by omega) (by omega)
      have q0 : 0 ≤ x / 256 := by omega
      have q1 : x / 256 ≤ 255 := by omega
      have HK := Lib.hid hk
      have HL : Hid (k + 8 ≤ 20 ∧ x < 2 ^ (k + 8)) := Lib.hid ⟨by omega, by
        have e : (2 : Int) ^ (k + 8) = 2 ^ k * 256 := by rw [Int.pow_add]; rfl
        rw [e]; omega⟩
      clear hk4 hx hk
      go_enter Tryd.func74, Tryd.ntmps74
      go_wp2
      all_goals
        go_ret
        refine ⟨k + 8, congrArg Ending.returned (congrArg (Value.int IntKind.i64) ?_), HL.out.1, HL.out.2, rfl⟩
        rw [HK.out]
        unfold wrap64
        omega
    · obtain ⟨k, hk, hk8, hx, hk4⟩ := len8_in x (by omega) (by omega)
      have q0 : 0 ≤ x := by omega
      have q1 : x ≤ 255 := by omega
      have HK := Lib.hid hk
      have HL : Hid (k ≤ 20 ∧ x < 2 ^ k) := Lib.hid ⟨by omega, hx⟩
      clear hk4 hk hx
      go_enter Tryd.func74, Tryd.ntmps74
      go_wp2
      all_goals
        go_ret
        refine ⟨k, congrArg Ending.returned (congrArg (Value.int IntKind.i64) ?_), HL.out.1, HL.out.2, rfl⟩
        rw [HK.out]
        unfold wrap64
        omega
set_option maxRecDepth 100000 in
theorem lenb_any (x : Int) (w : World) (h0 : 0 ≤ x) (h1 : x < 1048576) :
    Calls Tryd.prog 61 #[.int .u64 x] w fun e w' => ∃ k : Nat, e = .returned (.int .i64 k) ∧ k ≤ 20 ∧ x < 2 ^ k ∧ w' = w := by
  go_enter Tryd.func61, Tryd.ntmps61
  go_wp2_with (fail)
  go_must (refine (len64_any x _ h0 h1).mono ?_)
  rintro e w1 ⟨k, rfl, h2, h3, rfl⟩
  have H2 := Lib.hid h2
  have H3 := Lib.hid h3
  clear h2 h3
  go_wp2
  go_ret
  exact ⟨k, rfl, H2.out, H3.out, rfl⟩
/-- a shift to the left, digit by digit -/
structure Sh (a out : List Int) (P : Int) (k : Nat) (cy : Int) : Prop where
  dg : Dg out
  len : out.length = k
  rng : 0 ≤ cy ∧ cy < P
  eq : val out + pw k * cy = val (a.take k) * P
theorem Sh.start (a : List Int) {P : Int} (hP : 1 ≤ P) : Sh a [] P 0 0 := ⟨Dg.nil, rfl, by omega, by rw [List.take_zero, val_nil]; simp⟩
theorem shl_in {x P : Int} (hx : 0 ≤ x ∧ x < 1048576) (hP : 1 ≤ P) : 0 ≤ x * P ∧ x * P ≤ 1048575 * P := ⟨Int.mul_nonneg hx.1 (by omega), Int.mul_le_mul_of_nonneg_right (by omega) (by omega)⟩
theorem Sh.step {a out : List Int} {P : Int} {k : Nat} {cy x : Int} (h : Sh a out P k cy) (da : Dg a) (hP : 1 ≤ P) (hx : a[k]? = some x) : Sh a (out ++ [(x * P + cy) % 1048576]) P (k + 1) ((x * P + cy) / 1048576) := by
  have h1 := shl_in (da.at_ hx) hP
  have h3 := h.rng
  refine ⟨h.dg.snoc (by omega), by rw [List.length_append, h.len]; rfl, by omega, ?_⟩
  rw [val_snoc, h.len, val_take_succ hx, pw_succ, Int.add_mul, ← h.eq]
  have h4 : 1048576 * ((x * P + cy) / 1048576) + (x * P + cy) % 1048576 = x * P + cy := by omega
  obtain ⟨q, hq⟩ : ∃ q, (x * P + cy) / 1048576 = q := ⟨_, rfl⟩
  obtain ⟨r, hr⟩ : ∃ r, (x * P + cy) % 1048576 = r := ⟨_, rfl⟩
  rw [hq, hr] at h4
  rw [hq, hr]
  have h5 : cy = 1048576 * q + r - x * P := by omega
  rw [h5]
  grind
theorem Sh.done {a out : List Int} {P : Int} {cy : Int} (h : Sh a out P a.length cy) : val (out ++ [cy]) = val a * P := by
  rw [val_snoc, h.len, h.eq, List.take_length]
theorem pow_in {s : Nat} (h : s ≤ 20) : (1 : Int) ≤ 2 ^ s ∧ (2 : Int) ^ s ≤ 1048576 ∧ (2 : Int) ^ s * 2 ^ (20 - s) = 1048576 := by
  have h1 : (2 : Int) ^ s * 2 ^ (20 - s) = 1048576 := by
    rw [← Int.pow_add, Nat.add_sub_cancel' h]; rfl
  have h2 : ∀ m : Nat, (1 : Int) ≤ 2 ^ m := fun m => by
    induction m with
    | zero => simp
    | succ m ih => rw [Int.pow_succ]; omega
  have h3 : (2 : Int) ^ s * 1 ≤ 2 ^ s * 2 ^ (20 - s) := Int.mul_le_mul_of_nonneg_left (h2 _) (by have := h2 s; omega)
  exact ⟨h2 s, by omega, h1⟩
theorem or_i (i : Nat) {x y : Int} (hx0 : 0 ≤ x) (hx : x % 2 ^ i = 0) (hx1 : x < 2 ^ 63) (hy : 0 ≤ y ∧ y < 2 ^ i) (hy1 : y < 2 ^ 63) : bits .or .i64 x y = x + y :=
  bits_join .i64 63 (by decide) (fun n h0 h1 => IntWalk.i64_in n (by omega)) i x y hx0 hx hx1 hy.1 hy.2 hy1
set_option maxRecDepth 100000 in
set_option maxHeartbeats 8000000 in
theorem shl_any {A : Option Addr} {n c s : Nat} {a : List Int} (w : World) (hn : a.length = n) (ha : Ints w A a) (da : Dg a) (hbig : n ≤ 1000) (hs : s ≤ 20) :
    Calls Tryd.prog 62 #[.slice A n c, .int .i64 s] w fun e w' => ∃ g L, e = .returned (.slice (some ⟨g, 0, none⟩) (n + 1) (n + 1)) ∧ Row w' g 3 (ics L) ∧ w.heap.size ≤ g ∧ Dg L ∧ L.length = n + 1 ∧ val L = val a * 2 ^ s ∧ Below w.heap.size w w' := by
  have HN := Lib.hid hn
  have HDA := Lib.hid da
  obtain ⟨p1, p2, p3⟩ := pow_in hs
  have HP1 := Lib.hid p1
  have HP2 := Lib.hid p2
  obtain ⟨iI, hiI, hzI, hyI, hxI⟩ := info_parts infoI
  have hmk : ∀ W : World, (Instr.makeSlice 22 (.int .i64 ((n : Int) + 1)) (.int .i64 ((n : Int) + 1))).run Tryd.prog W = .ok (.slice (some ⟨W.heap.size, 0, none⟩) (n + 1) (n + 1)) (W.alloc (.cells (ics (List.replicate (n + 1) 0)) 3)) := fun W => by
    have hr := run_make (P := Tryd.prog) W 22 3 iI (.int .i64 0) Tryd.underlying22 hiI hzI .i64 .i64 ((n + 1 : Nat) : Int) ((n + 1 : Nat) : Int) (by omega) (Int.le_refl _) (by rw [hxI]; omega) (by omega)
    rw [hyI, Int.toNat_natCast, made_ints] at hr
    rw [show (n : Int) + 1 = ((n + 1 : Nat) : Int) by omega]
    exact hr
  have hw1 : IntKind.i64.wrap ((n : Int) + 1) = (n : Int) + 1 := IntWalk.i64_in _ (by omega)
  have s0 : (0 : Int) ≤ (s : Int) := by omega
  have hn1 : (n : Int) < (n : Int) + 1 := by omega
  clear hn da hiI hzI hyI hxI p1 p2 p3
  go_enter Tryd.func62, Tryd.ntmps62
  go_wp2
  clear hmk hw1
  go_loopw [6, 16] (fun cv iv wr => ∃ (k : Nat) (out : List Int) (cy : Int), k ≤ n ∧ iv = .int .i64 k ∧ cv = .int .i64 cy ∧ Hid (Row wr w.heap.size 3 (ics (out ++ List.replicate (n + 1 - k) 0))) ∧ Hid (Sh a out (2 ^ s) k cy) ∧ Hid (Below w.heap.size w wr)) (fun _ iv _ => n - (intOf iv).toNat)
  case atStart => exact ⟨0, [], 0, Nat.zero_le _, rfl, rfl, Lib.hid (Row.new _ _ _), Lib.hid (Sh.start a HP1.out), Lib.hid (Gen.b_alloc (Below.refl _ _))⟩
  case round =>
    obtain ⟨k, out, cy, hk, rfl, rfl, HR, HS, HB⟩ := hrel
    have k0 : (0 : Int) ≤ (k : Int) := by omega
    obtain ⟨y0, y1⟩ := HS.out.rng
    have hg := HR.out.lt
    by_cases hlt : k < n
    · have hltI : (k : Int) < (n : Int) := by omega
      obtain ⟨bl, ol, rfl, hcell⟩ := (ha.keep HB.out) (by rw [HN.out]; omega)
      obtain ⟨x, hx⟩ := at_ a k (by rw [HN.out]; exact hlt)
      have c0 := hcell k x hx
      have hxd := HDA.out.at_ hx
      have hsi := shl_in hxd HP1.out
      have hp2 := HP2.out
      have l1 : wr.cell? ⟨w.heap.size, k, none⟩ = some (.int .i64 0) := HR.out.intAt (at_fill HS.out.len (by omega))
      have hf := HR.out.frozen k
      have hst := HS.out.step HDA.out HP1.out hx
      have hor := or_i s hsi.1 (Int.mul_emod_left _ _) (by omega) ⟨y0, y1⟩ (by omega)
      have hwx : IntKind.i64.wrap (x * 2 ^ s) = x * 2 ^ s := IntWalk.i64_in _ (by omega)
      obtain ⟨p, hp⟩ : ∃ p, x * 2 ^ s = p := ⟨_, rfl⟩
      rw [hp] at hst hor hwx hsi
      have hand := and_mask (p + cy) (by omega)
      obtain ⟨d, hd⟩ : ∃ d, (p + cy) % 1048576 = d := ⟨_, rfl⟩
      obtain ⟨q, hq⟩ : ∃ q, (p + cy) / 1048576 = q := ⟨_, rfl⟩
      rw [hd, hq] at hst
      rw [hd] at hand
      have HS2 := Lib.hid hst
      have hnk : k + 1 ≤ n + 1 := by omega
      have HR2 : Hid (Row (wr.setCell ⟨w.heap.size, k, none⟩ (.int .i64 d)) w.heap.size 3 (ics ((out ++ [d]) ++ List.replicate (n + 1 - (k + 1)) 0))) := Lib.hid (by
        rw [← set_fill HS.out.len (by omega), ← ics_set]
        exact HR.out.set _ _)
      have HB2 : Hid (Below w.heap.size w (wr.setCell ⟨w.heap.size, k, none⟩ (.int .i64 d))) := Lib.hid (Gen.b_set HB.out (Nat.le_refl _))
      clear hcell hx hxd hsi hp2 hst hd
      go_wp2
      go_roundw
      case rel => exact ⟨k + 1, out ++ [d], q, by omega, by go_num, rfl, HR2, HS2, HB2⟩
      case measure => simp [intOf]; omega
    · obtain rfl : n = k := by omega
      have l1 : wr.cell? ⟨w.heap.size, n, none⟩ = some (.int .i64 0) := HR.out.intAt (at_fill HS.out.len (by omega))
      have hf := HR.out.frozen n
      have HE : Hid (val (out ++ [cy]) = val a * 2 ^ s) := Lib.hid (by
        have h := HS.out
        rw [← HN.out] at h
        exact h.done)
      have HL := Lib.hid HS.out.len
      have HD : Hid (Dg (out ++ [cy])) := Lib.hid (HS.out.dg.snoc (by have := HP2.out; omega))
      have HR2 : Hid (Row (wr.setCell ⟨w.heap.size, n, none⟩ (.int .i64 cy)) w.heap.size 3 (ics (out ++ [cy]))) := Lib.hid (by
        have h := HR.out.set n (.int .i64 cy)
        rw [ics_set, set_fill HS.out.len (by omega), Nat.sub_self, List.replicate_zero, List.append_nil] at h
        exact h)
      have HB2 : Hid (Below w.heap.size w (wr.setCell ⟨w.heap.size, n, none⟩ (.int .i64 cy))) := Lib.hid (Gen.b_set HB.out (Nat.le_refl _))
      go_wp2
      go_ret
      exact ⟨_, out ++ [cy], rfl, HR2.out, Nat.le_refl _, HD.out, by rw [List.length_append, HL.out]; rfl, HE.out, HB2.out⟩
end Go.Proofs.YtnifkianjpjahaaDoor.Bg
