/- Texts of one kind joined: the fifth part. -/
import Derived.Test.YtnifkianjpjahaaGreatDoorTmD
import Derived.Lib.ItoaMem
import Derived.Test.YtnifkianjpjahaaGreatDoorShelf
import Derived.WalkSpells
import Derived.Lib.SmallJoins
import Derived.Lib.AppendIntMem
import Derived.Lib.AtoiErrMem
import Derived.Lib.AtoiTie
import Derived.Sort.OwnSorted
/- Big integers: decimal digits, plain facts. -/
namespace Go.Proofs.YtnifkianjpjahaaGreatDoor.Bg
open Go.RowKit Go.Proofs.YtnifkianjpjahaaGreatDoor.Cell
set_option linter.unusedVariables false
variable {N0 : Nat}

def dg1 (n : Nat) : UInt8 := UInt8.ofNat (48 + n)
/-- k decimal digits of r -/
def fx : Nat → Nat → List UInt8
  | 0, _ => []
  | k + 1, r => fx k (r / 10) ++ [dg1 (r % 10)]
theorem fx_length : ∀ k r, (fx k r).length = k
  | 0, _ => rfl
  | k + 1, r => by rw [fx, List.length_append, fx_length k]; rfl
theorem fx_zero : ∀ k, fx k 0 = List.replicate k 48
  | 0 => rfl
  | k + 1 => by
    rw [fx, Nat.zero_div, fx_zero k, List.replicate_succ']
    rfl
theorem dec_lt {n : Nat} (h : n < 10) : Lib.decDigits n = [dg1 n] := by rw [Lib.decDigits, dif_pos h]; rfl
theorem dec_ge {n : Nat} (h : 10 ≤ n) : Lib.decDigits n = Lib.decDigits (n / 10) ++ [dg1 (n % 10)] := by
  rw [Lib.decDigits, dif_neg (by omega)]; rfl
theorem dec_split : ∀ (k V : Nat), 10 ^ k ≤ V → Lib.decDigits V = Lib.decDigits (V / 10 ^ k) ++ fx k (V % 10 ^ k)
  | 0, V, h => by simp [fx]
  | k + 1, V, h => by
    have hp : 0 < 10 ^ k := Nat.pow_pos (by omega)
    have h1 : 10 ^ (k + 1) = 10 * 10 ^ k := by rw [Nat.pow_succ, Nat.mul_comm]
    have h10 : 10 ≤ V := by omega
    have h2 : 10 ^ k ≤ V / 10 := (Nat.le_div_iff_mul_le (by omega)).2 (by omega)
    rw [dec_ge h10, dec_split k (V / 10) h2, fx, h1, Nat.div_div_eq_div_mul]
    have e1 : V % (10 * 10 ^ k) / 10 = V / 10 % 10 ^ k := Nat.mod_mul_right_div_self V 10 (10 ^ k)
    have e2 : V % (10 * 10 ^ k) % 10 = V % 10 := Nat.mod_mul_right_mod V 10 (10 ^ k)
    rw [e1, e2, List.append_assoc]
theorem dec_len : ∀ (k r : Nat), r < 10 ^ (k + 1) → (Lib.decDigits r).length ≤ k + 1
  | 0, r, h => by rw [dec_lt (by omega)]; simp
  | k + 1, r, h => by
    by_cases h1 : r < 10
    · rw [dec_lt h1]; simp
    · have h2 : r / 10 < 10 ^ (k + 1) := by
        rw [Nat.pow_succ] at h
        exact Nat.div_lt_of_lt_mul (by omega)
      have := dec_len k (r / 10) h2
      rw [dec_ge (by omega), List.length_append]
      simp
      omega
theorem dec_pos (r : Nat) : 1 ≤ (Lib.decDigits r).length := by
  by_cases h1 : r < 10
  · rw [dec_lt h1]; simp
  · rw [dec_ge (by omega), List.length_append]; simp
/-- zeros before a numeral -/
theorem pad_fx : ∀ (k r : Nat), r < 10 ^ (k + 1) → List.replicate (k + 1 - (Lib.decDigits r).length) 48 ++ Lib.decDigits r = fx (k + 1) r
  | 0, r, h => by rw [dec_lt (by omega), fx, Nat.mod_eq_of_lt (by omega)]; rfl
  | k + 1, r, h => by
    by_cases h1 : r < 10
    · rw [dec_lt h1, fx, Nat.div_eq_of_lt h1, fx_zero, Nat.mod_eq_of_lt h1]; rfl
    · have h2 : r / 10 < 10 ^ (k + 1) := by
        rw [Nat.pow_succ] at h
        exact Nat.div_lt_of_lt_mul (by omega)
      have ih := pad_fx k (r / 10) h2
      rw [dec_ge (by omega), fx, ← ih, List.length_append]
      simp only [List.length_singleton, List.append_assoc]
      rw [show k + 1 + 1 - ((Lib.decDigits (r / 10)).length + 1) = k + 1 - (Lib.decDigits (r / 10)).length by omega]
/-- the text of a big integer -/
def txt (z : Int) : List UInt8 := if z < 0 then 45 :: Lib.decDigits z.natAbs else Lib.decDigits z.natAbs
/-- how far the text has come: V is to be written yet, P are the parts, the last ones first -/
def Tx (Z V : Nat) (P : List (List UInt8)) : Prop := Lib.decDigits Z = (if V = 0 then [] else Lib.decDigits V) ++ P.reverse.flatten
theorem Tx.start {Z : Nat} (h : Z ≠ 0) : Tx Z Z [] := by simp [Tx, h]
theorem Tx.more {Z V : Nat} {P : List (List UInt8)} (h : Tx Z V P) (hV : 1000000 ≤ V) : Tx Z (V / 1000000) (P ++ [fx 6 (V % 1000000)]) := by
  have h1 : V / 1000000 ≠ 0 := by omega
  have h2 := dec_split 6 V (by omega)
  unfold Tx at h ⊢
  rw [if_neg (by omega)] at h
  rw [if_neg h1, h, h2]
  simp
theorem Tx.last {Z V : Nat} {P : List (List UInt8)} (h : Tx Z V P) (hV : V < 1000000) (h0 : V ≠ 0) : Tx Z 0 (P ++ [Lib.decDigits V]) := by
  unfold Tx at h ⊢
  rw [if_neg h0] at h
  rw [if_pos rfl, h]
  simp
theorem Tx.done {Z : Nat} {P : List (List UInt8)} (h : Tx Z 0 P) : P.reverse.flatten = Lib.decDigits Z := by
  unfold Tx at h
  rw [if_pos rfl] at h
  exact h.symm
end Go.Proofs.YtnifkianjpjahaaGreatDoor.Bg
/- Big integers: digits in a block of one's own. -/
namespace Go.Proofs.YtnifkianjpjahaaGreatDoor.Bg
open Go.ChangeShapes Go.WideShapes Go.ChangeAt Go.RowKit Go.Proofs.YtnifkianjpjahaaGreatDoor.Cell
set_option linter.unusedVariables false
set_option linter.unusedSimpArgs false
variable {N0 : Nat}

/-- the first n cells of block g hold digits -/
def Blk (W : World) (g n : Nat) (L : List Int) : Prop := ∃ cur, Row W g 3 cur ∧ cur.toList.take n = ints L ∧ L.length = n
section
variable {W : World} {g n k : Nat} {L : List Int} {x : Int}
theorem Blk.len (h : Blk W g n L) : L.length = n := by obtain ⟨_, _, _, h⟩ := h; exact h
theorem Blk.cell (h : Blk W g n L) (hx : L[k]? = some x) : W.cell? ⟨g, k, none⟩ = some (.int .i64 x) := by
  obtain ⟨cur, hr, ht, hl⟩ := h
  rw [hr.cell k]
  have hk := lt_of_at hx
  have h1 : (cur.toList.take n)[k]? = some (.int .i64 x) := by rw [ht]; simp [ints, hx]
  rw [List.getElem?_take_of_lt (by omega)] at h1
  rw [← Array.getElem?_toList]
  exact h1
theorem Blk.frozen (h : Blk W g n L) (k : Nat) : W.frozen? ⟨g, k, none⟩ = false := by obtain ⟨cur, hr, _⟩ := h; exact hr.frozen k
theorem Blk.lt (h : Blk W g n L) : g < W.heap.size := by obtain ⟨cur, hr, _⟩ := h; exact hr.lt
theorem Blk.keep {W' : World} (h : Blk W g n L) (hb : Below W.heap.size W W') : Blk W' g n L := by
  obtain ⟨cur, hr, r⟩ := h
  exact ⟨cur, hr.keep hb, r⟩
theorem Blk.set (h : Blk W g n L) (k : Nat) (d : Int) : Blk (W.setCell ⟨g, k, none⟩ (.int .i64 d)) g n (L.set k d) := by
  obtain ⟨cur, hr, ht, hl⟩ := h
  refine ⟨_, hr.set k (.int .i64 d), ?_, by rw [List.length_set]; exact hl⟩
  rw [Array.toList_setIfInBounds, List.take_set, ht]
  simp [ints]
theorem Blk.take (h : Blk W g n L) (hk : k ≤ n) : Blk W g k (L.take k) := by
  obtain ⟨cur, hr, ht, hl⟩ := h
  refine ⟨cur, hr, ?_, by rw [List.length_take]; omega⟩
  have h1 : (cur.toList.take n).take k = (ints L).take k := by rw [ht]
  rw [List.take_take, Nat.min_eq_left hk] at h1
  rw [h1]
  simp [ints]
theorem Blk.ints0 (h : Blk W g n L) : Cell.Ints W (some ⟨g, 0, none⟩) L := fun _ => ⟨g, 0, rfl, fun j z hz => by rw [Nat.zero_add]; exact h.cell hz⟩
theorem Blk.ints' (h : Blk W g n L) : Ints N0 W (some ⟨g, 0, none⟩) L := ⟨h.ints0, fun _ b o s e => by cases e; obtain ⟨cur, hr, _⟩ := h; exact .inr ⟨_, _, hr⟩⟩
end
theorem blk_own {W : World} {B n : Nat} {v : Value} {l : List Int} (h : W.ownsRow B 3 1 v n (ints l)) (h0 : 0 < n) (hn : l.length = n) : ∃ g c, v = .slice (some ⟨g, 0, none⟩) n c ∧ B ≤ g ∧ n ≤ c ∧ Blk W g n l := by
  obtain ⟨_, h | ⟨g, cap, cur, rfl, hb, hr, hc, _, _, ht⟩⟩ := h
  · omega
  · exact ⟨g, cap, rfl, hb, hc, cur, hr, by rw [Nat.mul_one] at ht; exact ht, hn⟩
set_option maxRecDepth 100000 in
set_option maxHeartbeats 2000000 in
theorem cloneB_any {ad : Addr} {n cap : Nat} {us : List Int} (w : World) (hm : us.length = n) (hc : Ints N0 w (some ad) us) (hbig : n ≤ 1000000) (hn0 : 0 < n) :
    Calls Tryz.prog 87 #[.slice (some ad) n cap] w fun e w' => ∃ g2 c2, e = .returned (.slice (some ⟨g2, 0, none⟩) n c2) ∧ w.heap.size ≤ g2 ∧ n ≤ c2 ∧ Blk w' g2 n us ∧ Below w.heap.size w w' := by
  have HM := Lib.hid hm
  clear hm
  have hq := fun (W : World) => Lib.run_eql_slice_nil (P := Tryz.prog) W 22 3 (some ad) n cap 0 0 Tryz.underlying22
  obtain ⟨i0, hi0, hz0, hz1, hz2⟩ := info_parts infoI
  have r1 := ints_reads HM.out hc
  have hown : (w.alloc (.cells #[] 3)).ownsRow w.heap.size 3 1 (.slice (some ⟨w.heap.size, 0, none⟩) 0 0) 0 [] :=
    ⟨rfl, .inr ⟨w.heap.size, 0, #[], rfl, Nat.le_refl _, heap_alloc_new w _, Nat.le_refl _, by simp [maxLen], rfl, rfl⟩⟩
  go_enter Tryz.func87, Tryz.ntmps87
  go_wp2_with (first
    | (at_builtin
       go_must (refine App.wpList_append_any _ rfl (.tmp 5) (.tmp 6) _ rfl w.heap.size 3 i0 _ 1 8 Tryz.underlying22 hi0 hz0 hz1 hz2 rfl (by omega) _ 0 [] rfl hown w.heap.size _ n cap (ints us) rfl (r1.alloc (Nat.le_refl _) _) (ints_one us) (by simp only [maxLen]; omega) (by omega) (by simp) ?_)
       intro v2 w2 hown2 hg2 hat2
       have hB2 := Gen.g_below hown hg2 (Gen.b_alloc (Below.refl _ _)) (Nat.le_refl _)
       rw [List.nil_append, Nat.zero_add] at hown2
       obtain ⟨g2, c2, rfl, hg0, hgc, hI2⟩ := blk_own hown2 (by omega) HM.out
       have HI2 := Lib.hid hI2
       clear hg2 hat2 hown2 hI2)
    | fail)
  go_ret
  exact ⟨g2, c2, rfl, hg0, hgc, HI2.out, hB2⟩
end Go.Proofs.YtnifkianjpjahaaGreatDoor.Bg
/- Big integers: Text. -/
namespace Go.Proofs.YtnifkianjpjahaaGreatDoor.Bg
open Go.ChangeShapes Go.WideShapes Go.ChangeAt Go.RowKit Go.Proofs.YtnifkianjpjahaaGreatDoor.Cell
set_option linter.unusedVariables false
set_option linter.unusedSimpArgs false
variable {N0 : Nat}

abbrev PowTab (w : World) : Prop := Lib.TabIs Tryz.prog w "internal/strconv.uint64pow10" .u64 Lib.pow10Tab
theorem gPow : Tryz.prog.globalNamed "internal/strconv.uint64pow10" = some 1 := by kernel_rfl
theorem PowTab.keep {w w1 : World} (h : PowTab w) (hb : Below w.heap.size w w1) : PowTab w1 := Joins.tab_stays gPow h hb (Nat.le_refl _)
theorem infoS : (Tryz.prog.info? 9).map (fun i => (i.zero, i.size, i.bytes)) = some (some (.string ByteArray.empty), 1, 16) := by kernel_rfl
def strs (P : List (List UInt8)) : List Value := P.map fun p => .string ⟨p.toArray⟩
/-- a store into another block leaves an owned row as it was -/
theorem owns_set {W : World} {B g j n : Nat} {t : TypeId} {v u : Value} {xs : List Value} (h : W.ownsRow B t 1 v n xs) (hg : g < B) : (W.setCell ⟨g, j, none⟩ u).ownsRow B t 1 v n xs := by
  obtain ⟨hl, h | ⟨g', cap, cur, hv, hb, hr, r⟩⟩ := h
  · exact ⟨hl, .inl h⟩
  · refine ⟨hl, .inr ⟨g', cap, cur, hv, hb, ?_, r⟩⟩
    rw [← hr]
    exact Below.heap_setCell W ⟨g, j, none⟩ u g' (by show g' ≠ g; omega)
theorem itoa_any (r : Nat) (w : World) (h : r < 1000000) (hT : PowTab w) : Calls Tryz.prog 89 #[.int .i64 r] w fun e w' => e = .returned (.string ⟨(Lib.decDigits r).toArray⟩) ∧ Below w.heap.size w w' :=
  (Tryz.strconv_Itoa r (by omega) (by omega) w hT).mono fun e w' ⟨he, k, os, hw⟩ => ⟨by rw [he, Lib.itoa_nonneg], by rw [hw]; exact Lib.below_grow _ _ (Nat.le_refl _) _ _⟩
theorem flat_len : ∀ P : List (List UInt8), (∀ p ∈ P, 1 ≤ p.length) → P.length ≤ P.flatten.length
  | [], _ => Nat.le_refl _
  | p :: P, h => by
    have h1 := flat_len P fun q hq => h q (List.mem_cons_of_mem _ hq)
    have h2 := h p (List.mem_cons_self ..)
    simp only [List.length_cons, List.flatten_cons, List.length_append]
    omega
set_option exponentiation.threshold 400 in
theorem Tx.le {Z V : Nat} {P : List (List UInt8)} (h : Tx Z V P) (hp : ∀ p ∈ P, 1 ≤ p.length) (hZ : (Z : Int) < pw 60) : P.length ≤ 400 := by
  have h1 := flat_len P.reverse fun p hp' => hp p (List.mem_reverse.1 hp')
  rw [List.length_reverse] at h1
  have h2 : P.reverse.flatten.length ≤ (Lib.decDigits Z).length := by rw [h, List.length_append]; omega
  have h3 : Z < 10 ^ (361 + 1) := by
    have : pw 60 < ((10 ^ 362 : Nat) : Int) := by decide
    omega
  have := dec_len 361 Z h3
  omega
theorem row_grown {a X W : World} {B n b : Nat} {e t : TypeId} {v : Value} {xs : List Value} {cs : Array Value} (hown : a.ownsRow B e 1 v n xs) (hg : X.grownBy W v.ownBlock) (h : Row X b t cs) (hb : b < B) : Row W b t cs :=
  (hg.block b h.lt (fun e => by have := (hown.lt b e.symm).1; omega)).trans h
theorem blk_grown {a X W : World} {B n b k : Nat} {e : TypeId} {v : Value} {xs : List Value} {L : List Int} (hown : a.ownsRow B e 1 v n xs) (hg : X.grownBy W v.ownBlock) (h : Blk X b k L) (hb : b < B) : Blk W b k L := by
  obtain ⟨cur, hr, r⟩ := h
  exact ⟨cur, row_grown hown hg hr hb, r⟩
theorem strs_snoc (P : List (List UInt8)) (p : List UInt8) : strs (P ++ [p]) = strs P ++ [.string ⟨p.toArray⟩] := by simp [strs]
theorem repeat_zero (c : Nat) : Lib.repeatL [48] c = List.replicate c 48 := by
  induction c with
  | zero => rfl
  | succ c ih => rw [Lib.repeatL, ih]; rfl
abbrev byA (p : List UInt8) : ByteArray := ⟨p.toArray⟩
theorem join_flat (xs : List (List UInt8)) : Lib.join xs [] = xs.flatten := by
  cases xs with
  | nil => rfl
  | cons p r =>
    rw [Lib.join_cons, Lib.joinTail]
    simp
theorem rev_any {W : World} {B m c : Nat} {Ap : Option Addr} {P : List (List UInt8)} (h : W.ownsRow B 9 1 (.slice Ap m c) m (strs P)) (h0 : 0 < m) (hm : m ≤ 1000) (hB : B ≤ W.heap.size) :
    Calls Tryz.prog 91 #[.slice Ap m c] W fun e w' => e = .returned (.tuple #[]) ∧ ∃ gp, Ap = some ⟨gp, 0, none⟩ ∧ B ≤ gp ∧ gp < w'.heap.size ∧ m ≤ c ∧ (∀ (j : Nat) x, (P.reverse.map byA)[j]? = some x → w'.cell? ⟨gp, 0 + j, none⟩ = some (.string x)) ∧ Below B W w' := by
  obtain ⟨hl, h | ⟨gp, cap, cur, hv, hb, hr, hc, hmx, hcur, ht⟩⟩ := h
  · omega
  injection hv with e1 e2 e3
  subst e1 e3
  have hPm : P.length = m := by simp [strs] at hl; omega
  rw [Nat.mul_one] at ht
  have hlt : gp < W.heap.size := by obtain ⟨hl, _⟩ := Array.getElem?_eq_some_iff.1 hr; exact hl
  have hH : Sort.Holds encStr W gp 0 P.toArray := fun j hj => by
    have hj' : j < P.length := by simpa using hj
    refine ⟨?_, frozen_of_row W gp (0 + j) cur 9 hr⟩
    rw [Nat.zero_add, cell_of_row W gp j cur 9 (0, 0) hr, ← Array.getElem?_toList]
    have h1 : (cur.toList.take m)[j]? = (strs P)[j]? := by rw [ht]
    rw [List.getElem?_take_of_lt (by omega)] at h1
    rw [h1]
    simp [strs, hj', encStr]
  have hR := Tryz.slices_Reverse_string gp 0 c P W hH (by omega)
  rw [hPm] at hR
  refine hR.mono fun e w' hx => ?_
  obtain ⟨he, q, hw⟩ := hx
  subst hw
  have hH2 := Sort.holds_putRow encStr (Sort.ahead W q) gp 0 P.toArray P.reverse.toArray hH (by simp)
  refine ⟨he, gp, rfl, hb, by rw [Sort.size_putRow]; exact hlt, hc, fun j x hx => ?_, ?_⟩
  · obtain ⟨p, hp, rfl⟩ : ∃ p, P.reverse[j]? = some p ∧ byA p = x := by
      rw [List.getElem?_map] at hx
      cases hp : P.reverse[j]? with
      | none => rw [hp] at hx; cases hx
      | some p => rw [hp] at hx; exact ⟨p, rfl, by injection hx⟩
    have hj := lt_of_at hp
    have h1 := (hH2 j (by simpa using hj)).1
    rw [h1]
    have h2 : P.reverse.toArray[j]! = p := by
      rw [getElem!_pos _ j (by simpa using hj)]
      have := List.getElem?_eq_some_iff.1 hp
      obtain ⟨_, h3⟩ := this
      simpa using h3
    rw [h2]
  · have hg := grownBy_sorted (w := W) (g := gp) (n := q) (os := #[]) P.reverse.toArray
    rw [Sort.grow_empty] at hg
    exact (Below.refl B W).grown hg hB fun k hk => by cases hk; exact hb
theorem own_len {W : World} {B m c : Nat} {Ap : Option Addr} {P : List (List UInt8)} (h : W.ownsRow B 9 1 (.slice Ap m c) m (strs P)) : P.length = m := by
  have h2 := h.1
  simp [strs] at h2
  exact h2
theorem half_at {L Q : List Int} {j : Nat} {x : Int} (hx : L[j]? = some x) : (L.take (j + 1) ++ Q.drop (j + 1))[j]? = some x := by
  have hj := lt_of_at hx
  rw [List.getElem?_append_left (by rw [List.length_take]; omega), List.getElem?_take_of_lt (by omega), hx]
theorem half_set {L Q : List Int} {j : Nat} {x d : Int} (hx : L[j]? = some x) (hl : Q.length = L.length) : (L.take (j + 1) ++ Q.drop (j + 1)).set j d = L.take j ++ (Q.set j d).drop j := by
  have hj := lt_of_at hx
  have h1 : L.take (j + 1) = L.take j ++ [x] := by rw [List.take_add_one, hx]; rfl
  have h2 : (Q.set j d).drop j = d :: Q.drop (j + 1) := by
    rw [drop_at (List.getElem?_set_self (by omega)), List.drop_set, if_pos (by omega)]
  rw [h1, h2, mid_set (by rw [List.length_take]; omega), List.append_assoc]
  rfl
set_option exponentiation.threshold 400 in
set_option maxRecDepth 100000 in
set_option maxHeartbeats 8000000 in
theorem text_any {x : Int} {va : Value} (w : World) (hT : PowTab w) (hx : IsBig N0 w va x) (h0 : x ≠ 0) :
    Calls Tryz.prog 31 #[va] w fun e w' => e = .returned (.string ⟨(txt x).toArray⟩) ∧ Below w.heap.size w w' := by
  obtain ⟨A, c, a, rfl, ha, na, h60⟩ := hx.ex
  obtain ⟨n, hn⟩ : ∃ n, a.length = n := ⟨_, rfl⟩
  have hn0 : 0 < n := by
    have : a ≠ [] := fun e => h0 (by have := na.nil.1 e; omega)
    have := List.length_pos_iff.2 this
    omega
  rw [hn] at hx h60 ⊢
  obtain ⟨bA, oA, rfl, hcA⟩ := ha (by omega)
  have HX := Lib.hid hx
  have HN := Lib.hid hn
  have HA := Lib.hid ha
  have HNA := Lib.hid na
  have HT := Lib.hid hT
  have hsg : (sg x == 0) = false := by have := sg_cases x; simp; omega
  have R0 := Lib.hid (Row.new w 24 #[.int .i64 (sg x), .slice (some ⟨bA, oA, none⟩) n c])
  have HB0 := Lib.hid (Gen.b_alloc (x := .cells #[.int .i64 (sg x), .slice (some ⟨bA, oA, none⟩) n c] 24) (Below.refl w.heap.size w))
  obtain ⟨iS, hiS, hzS, hyS, hxS⟩ := info_parts infoS
  clear hx ha na hn hcA h0 hT
  go_enter Tryz.func31, Tryz.ntmps31
  go_wp2_with (fail)
  go_must (refine (right_val (HX.out.keep HB0.out)).mono ?_)
  rintro e w2 ⟨rfl, hb2⟩
  have r0 := R0.out.keep hb2
  have HB2 := Lib.hid (Gen.over hb2 HB0.out)
  have c0 := r0.cell 0
  have c1 := r0.cell 1
  clear hb2 HB0 R0
  go_wp2_with (fail)
  go_must (refine (cloneB_any _ HN.out (HA.out.keep HB2.out) (by omega) hn0).mono ?_)
  rintro e w3 ⟨g, c2, rfl, hg, hgc, hbk, hb3⟩
  have R3 := Lib.hid (r0.keep hb3)
  have HB3 := Lib.hid (Gen.over hb3 HB2.out)
  have hwg : w.heap.size ≤ g := Nat.le_trans HB2.out.size hg
  have hwg1 : w.heap.size < g := by have := r0.lt; omega
  have HK := Lib.hid hbk
  clear hb3 hbk c0 c1 r0 HB2 hg
  have HO0 : Hid (w3.ownsRow w3.heap.size 9 1 (.slice none 0 0) 0 (strs [])) := Lib.hid ⟨rfl, .inl ⟨rfl, rfl⟩⟩
  obtain ⟨B, hB⟩ : ∃ B, w3.heap.size = B := ⟨_, rfl⟩
  have HBZ := Lib.hid (Nat.le_of_eq hB.symm)
  have hgB : g < B := by have := HK.out.lt; omega
  have hwB : w.heap.size < B := by have := R3.out.lt; omega
  rw [hB] at HO0
  clear hB
  have hZ60 := (HNA.out.len 60).1 (by rw [HN.out]; exact h60)
  have HZ60 := Lib.hid hZ60
  have HP0 : Hid (Tx x.natAbs x.natAbs [] ∧ ∀ p ∈ ([] : List (List UInt8)), 1 ≤ p.length) := Lib.hid ⟨Tx.start (by have := sg_cases x; simp at hsg; omega), by simp⟩
  clear hZ60
  go_wp2
  go_loopw [3, 4] (fun pv lv wr => ∃ (k m cp V : Nat) (L : List Int) (Ap : Option Addr) (P : List (List UInt8)), lv = .slice (some ⟨g, 0, none⟩) k c2 ∧ pv = .slice Ap m cp ∧ k ≤ 60 ∧ k ≤ c2 ∧ Hid (Blk wr g k L) ∧ Hid (Nm L V) ∧ Hid (wr.ownsRow B 9 1 (.slice Ap m cp) m (strs P)) ∧ Hid (Tx x.natAbs V P ∧ ∀ p ∈ P, 1 ≤ p.length) ∧ Hid (Row wr w.heap.size 24 #[.int .i64 (sg x), .slice (some ⟨bA, oA, none⟩) n c]) ∧ Hid (Below w.heap.size w wr) ∧ Hid (B ≤ wr.heap.size)) (fun _ lv wr => valAt N0 wr lv)
  case atStart => exact ⟨n, 0, 0, x.natAbs, a, none, [], rfl, rfl, h60, hgc, HK, HNA, HO0, HP0, R3, HB3, HBZ⟩
  case round =>
    clear HK HO0 HP0 R3 HB3 HBZ HA HNA HX hsg
    obtain ⟨k, m, cp, V, L, Ap, P, rfl, rfl, hk60, hkc, HK, HNL, HO, HP, HR, HB, HBZ⟩ := hrel
    have HVA := Lib.hid (valAt_eq (show Sl N0 wr (.slice (some ⟨g, 0, none⟩) k c2) V from ⟨_, _, L, k, rfl, HK.out.len, (HK.out.ints' (N0 := N0)), HNL.out, hk60⟩))
    have HLen := Lib.hid HK.out.len
    by_cases hk0 : 0 < k
    · have hk0I : (0 : Int) < (k : Int) := by omega
      have hkm := wrap_km k (by omega)
      have hkd : (k : Int) - 1 = km k := rfl
      have HD0 : Hid (Dd L (List.replicate k 0) 1000000 k 0) := Lib.hid (by rw [← HLen.out]; exact Dd.start L (by omega))
      have HK0 : Hid (Blk wr g k (L.take k ++ (List.replicate k (0 : Int)).drop k)) := Lib.hid (by
        rw [List.take_of_length_le (by rw [HLen.out]; exact Nat.le_refl _), List.drop_of_length_le (by rw [List.length_replicate]; exact Nat.le_refl _), List.append_nil]
        exact HK.out)
      clear HK
      go_wp2
      clear hkm hkd hk0I
      go_loopw [5, 6] (fun rv iv wq => ∃ (j : Nat) (Q : List Int) (r : Int), j ≤ k ∧ iv = .int .i64 (km j) ∧ rv = .int .i64 r ∧ Hid (Blk wq g k (L.take j ++ Q.drop j)) ∧ Hid (Dd L Q 1000000 j r) ∧ Hid (wq.ownsRow B 9 1 (.slice Ap m cp) m (strs P)) ∧ Hid (Row wq w.heap.size 24 #[.int .i64 (sg x), .slice (some ⟨bA, oA, none⟩) n c]) ∧ Hid (Below w.heap.size w wq) ∧ Hid (B ≤ wq.heap.size)) (fun _ iv _ => (intOf iv + 1).toNat)
      case atStart => exact ⟨k, _, 0, Nat.le_refl _, rfl, rfl, HK0, HD0, HO, HR, HB, HBZ⟩
      case round =>
        clear HK0 HD0 HO HR HB HBZ
        obtain ⟨j, Q, r, hj, rfl, rfl, HK, HD, HO, HR, HB, HBZ⟩ := hrel
        have hrr := HD.out.rng
        cases j with
        | zero =>
          rw [km_zero]
          have hdn := HD.out.done
          rw [HNL.out.2.2] at hdn
          obtain ⟨R, hR⟩ : ∃ R : Nat, V % 1000000 = R := ⟨_, rfl⟩
          have hrR : r = (R : Int) := by rw [hdn.2, ← hR]; rfl
          have hR6 : R < 1000000 := by omega
          have HRV := Lib.hid hR
          subst hrR
          have HKQ : Hid (Blk wr g k Q) := Lib.hid (by
            have h := HK.out
            rw [List.take_zero, List.drop_zero, List.nil_append] at h
            exact h)
          have HQD := Lib.hid HD.out.dQ
          have HVQ : Hid (val Q = ((V / 1000000 : Nat) : Int)) := Lib.hid hdn.1
          clear HK HD hdn hR hrr
          go_wp2_with (fail)
          go_must (refine (trim_any _ k c2 Q _ HKQ.out.len (HKQ.out.ints' (N0 := N0)) hkc (by omega)).mono ?_)
          rintro e w4 ⟨k1, hk1, rfl, hT1, hv1, rfl⟩
          have HN1 : Hid (Nm (Q.take k1) ((V / 1000000 : Nat) : Int)) := Lib.hid ⟨HQD.out.take k1, hT1, hv1.trans HVQ.out⟩
          have HK1 := Lib.hid (HKQ.out.take hk1)
          clear hT1 hv1 HKQ HQD HVQ
          go_wp2_with (fail)
          go_must (refine (itoa_any R _ hR6 (HT.out.keep HB.out)).mono ?_)
          rintro e w5 ⟨rfl, hb5⟩
          have HK2 := Lib.hid (HK1.out.keep hb5)
          have HR2 := Lib.hid (HR.out.keep hb5)
          have HO2 := Lib.hid (Gen.own_keep HO.out hb5)
          have HB2 := Lib.hid (Gen.over hb5 HB.out)
          have HBZ2 := Lib.hid (Nat.le_trans HBZ.out hb5.size)
          have hV0 : 0 < V := by
            have h := HNL.out.nil
            have : ¬ (V : Int) = 0 := fun e => by
              have := h.2 e
              have := HLen.out
              simp_all
            omega
          have HM : Hid (m ≤ 400) := Lib.hid (by
            have h := HP.out.1.le HP.out.2 HZ60.out
            have h2 := HO.out.1
            simp [strs] at h2
            omega)
          have hd1 := dec_pos R
          have hd6 := dec_len 5 R (by omega)
          have hpad := pad_fx 5 R (by omega)
          obtain ⟨ls, hls⟩ : ∃ ls, (Lib.decDigits R).length = ls := ⟨_, rfl⟩
          rw [hls] at hd1 hd6 hpad
          obtain ⟨S, hS⟩ : ∃ S : ByteArray, (⟨(Lib.decDigits R).toArray⟩ : ByteArray) = S := ⟨_, rfl⟩
          have hSz : S.size = ls := by rw [← hS, ← hls]; show (Lib.decDigits R).toArray.size = _; simp
          rw [hS]
          have HS := Lib.hid hS
          have HPAD := Lib.hid hpad
          clear hb5 HK1 HR HO HB HBZ hS hls hpad
          by_cases hk10 : 0 < k1
          · have hk1I : (0 : Int) < (k1 : Int) := by omega
            have hV6 : 1000000 ≤ V := by
              have h := HN1.out.nil
              have : ¬ ((V / 1000000 : Nat) : Int) = 0 := fun e => by
                have h1 := h.2 e
                have h2 := HK2.out.len
                rw [h1] at h2
                simp at h2
                omega
              omega
            have hsub : IntKind.i64.wrap (6 - (ls : Int)) = ((6 - ls : Nat) : Int) := by rw [IntWalk.i64_in _ (by omega)]; omega
            go_wp2_with (fail)
            go_must (refine (Tryz.strings_Repeat _ (6 - ls) _ (by omega) (by show 1 * _ ≤ _; omega)).mono ?_)
            rintro e w6 ⟨rfl, hb6⟩
            obtain ⟨S2, hS2⟩ : ∃ S2 : ByteArray, (⟨(Lib.repeatL (ByteArray.mk #[48]).data.toList (6 - ls)).toArray⟩ : ByteArray) = S2 := ⟨_, rfl⟩
            rw [hS2]
            have hS2z : S2.size = 6 - ls := by
              rw [← hS2]
              show (Lib.repeatL [48] (6 - ls)).toArray.size = _
              rw [repeat_zero]
              simp
            have hc1 : ¬ ((9223372036854775807 : Int) < (S2.size : Int) + (S.size : Int)) := by omega
            have hc2 : S2.size + S.size ≤ 9 := by omega
            have HPP : Hid (S2 ++ S = ⟨(fx 6 R).toArray⟩) := Lib.hid (by
              rw [← hS2, ← HS.out, ByteArray.mk_append_mk, ← HPAD.out, ← repeat_zero]
              try simp)
            have HTX : Hid (Tx x.natAbs (V / 1000000) (P ++ [fx 6 R]) ∧ ∀ p ∈ P ++ [fx 6 R], 1 ≤ p.length) := Lib.hid ⟨by rw [← HRV.out]; exact HP.out.1.more hV6, fun p hp => by
              rcases List.mem_append.1 hp with hp | hp
              · exact HP.out.2 p hp
              · rw [List.mem_singleton.1 hp, fx_length]; omega⟩
            obtain ⟨p, hp⟩ : ∃ p, fx 6 R = p := ⟨_, rfl⟩
            rw [hp] at HPP HTX
            have HK3 := Lib.hid (HK2.out.keep hb6)
            have HR3 := Lib.hid (HR2.out.keep hb6)
            have HO3 := Lib.hid (Gen.own_keep HO2.out hb6)
            have HB3 := Lib.hid (Gen.over hb6 HB2.out)
            have HBZ3 := Lib.hid (Nat.le_trans HBZ2.out hb6.size)
            clear hb6 HK2 HR2 HO2 HB2 HBZ2 hS2 HS HPAD hp hsub hSz hS2z HP
            have NM1 : Hid (m + 1 ≤ maxLen) := Lib.hid (by have := HM.out; simp only [maxLen]; omega)
            have NM2 : Hid ((m + 1) * 16 ≤ 140737488355328) := Lib.hid (by have := HM.out; omega)
            go_wp2_with (first
              | (at_builtin
                 go_must (refine App.wpList_append_any _ rfl (.tmp 55) (.tmp 57) _ rfl B 9 iS _ 1 16 Tryz.underlying79 hiS hzS hyS hxS rfl (by omega) (.slice Ap m cp) m (strs P) rfl (Gen.own_keep HO3.out (Gen.b_alloc (Below.refl _ _))) _ _ 1 1 [.string (S2 ++ S)] rfl (Gen.reads_blk (by simp) rfl) (by simp [Value.oneCell']) NM1.out NM2.out (Nat.le_trans HBZ3.out (Gen.b_alloc (Below.refl _ _)).size) ?_)
                 intro v7 w7 ho7 hg7 ha7
                 have HB7 := Lib.hid (Gen.g_below HO3.out hg7 (Gen.b_alloc HB3.out) (Nat.le_of_lt hwB))
                 have HK7 := Lib.hid (blk_grown HO3.out hg7 (HK3.out.keep (Gen.b_alloc (Below.refl _ _))) hgB)
                 have HR7 := Lib.hid (row_grown HO3.out hg7 (HR3.out.alloc _) hwB)
                 have HBZ7 := Lib.hid (Nat.le_trans HBZ3.out (Nat.le_trans (Gen.b_alloc (Below.refl _ _)).size hg7.size))
                 obtain ⟨A7, c7, hv7, _⟩ := Gen.own_slice ho7
                 subst hv7
                 have HO7 := Lib.hid ho7
                 clear hg7 ha7 ho7)
              | fail)
            have HSl := valAt_eq (show Sl N0 w7 (.slice (some ⟨g, 0, none⟩) k1 c2) (V / 1000000) from ⟨_, _, _, _, rfl, HK7.out.len, (HK7.out.ints' (N0 := N0)), HN1.out, by omega⟩)
            have HV3 := HVA.out
            have hdec : V / 1000000 < V := by omega
            go_roundw
            case rel => exact ⟨k1, m + 1, c7, V / 1000000, _, A7, P ++ [p], rfl, rfl, by omega, by omega, HK7, HN1, Lib.hid (by rw [strs_snoc, ← HPP.out]; exact HO7.out), HTX, HR7, HB7, HBZ7⟩
            case measure => rw [HSl, HV3]; exact hdec
          · have hk1I : ¬ ((0 : Int) < (k1 : Int)) := by omega
            have hV6 : V < 1000000 := by
              have h := HN1.out.nil.1 (List.eq_nil_of_length_eq_zero (by rw [HK2.out.len]; omega))
              omega
            have HPP : Hid (S = ⟨(Lib.decDigits V).toArray⟩) := Lib.hid (by rw [← HS.out, ← HRV.out, Nat.mod_eq_of_lt hV6])
            have HTX : Hid (Tx x.natAbs (V / 1000000) (P ++ [Lib.decDigits V]) ∧ ∀ p ∈ P ++ [Lib.decDigits V], 1 ≤ p.length) := Lib.hid ⟨by rw [Nat.div_eq_of_lt hV6]; exact HP.out.1.last hV6 (by omega), fun p hp => by
              rcases List.mem_append.1 hp with hp | hp
              · exact HP.out.2 p hp
              · rw [List.mem_singleton.1 hp]; exact dec_pos _⟩
            obtain ⟨p, hp⟩ : ∃ p, Lib.decDigits V = p := ⟨_, rfl⟩
            rw [hp] at HPP HTX
            have HK3 := HK2
            have HR3 := HR2
            have HO3 := HO2
            have HB3 := HB2
            have HBZ3 := HBZ2
            clear HK2 HR2 HO2 HB2 HBZ2 HS HPAD hp hSz HP
            have NM1 : Hid (m + 1 ≤ maxLen) := Lib.hid (by have := HM.out; simp only [maxLen]; omega)
            have NM2 : Hid ((m + 1) * 16 ≤ 140737488355328) := Lib.hid (by have := HM.out; omega)
            go_wp2_with (first
              | (at_builtin
                 go_must (refine App.wpList_append_any _ rfl (.tmp 55) (.tmp 57) _ rfl B 9 iS _ 1 16 Tryz.underlying79 hiS hzS hyS hxS rfl (by omega) (.slice Ap m cp) m (strs P) rfl (Gen.own_keep HO3.out (Gen.b_alloc (Below.refl _ _))) _ _ 1 1 [.string (S)] rfl (Gen.reads_blk (by simp) rfl) (by simp [Value.oneCell']) NM1.out NM2.out (Nat.le_trans HBZ3.out (Gen.b_alloc (Below.refl _ _)).size) ?_)
                 intro v7 w7 ho7 hg7 ha7
                 have HB7 := Lib.hid (Gen.g_below HO3.out hg7 (Gen.b_alloc HB3.out) (Nat.le_of_lt hwB))
                 have HK7 := Lib.hid (blk_grown HO3.out hg7 (HK3.out.keep (Gen.b_alloc (Below.refl _ _))) hgB)
                 have HR7 := Lib.hid (row_grown HO3.out hg7 (HR3.out.alloc _) hwB)
                 have HBZ7 := Lib.hid (Nat.le_trans HBZ3.out (Nat.le_trans (Gen.b_alloc (Below.refl _ _)).size hg7.size))
                 obtain ⟨A7, c7, hv7, _⟩ := Gen.own_slice ho7
                 subst hv7
                 have HO7 := Lib.hid ho7
                 clear hg7 ha7 ho7)
              | fail)
            have HSl := valAt_eq (show Sl N0 w7 (.slice (some ⟨g, 0, none⟩) k1 c2) (V / 1000000) from ⟨_, _, _, _, rfl, HK7.out.len, (HK7.out.ints' (N0 := N0)), HN1.out, by omega⟩)
            have HV3 := HVA.out
            have hdec : V / 1000000 < V := by omega
            go_roundw
            case rel => exact ⟨k1, m + 1, c7, V / 1000000, _, A7, P ++ [p], rfl, rfl, by omega, by omega, HK7, HN1, Lib.hid (by rw [strs_snoc, ← HPP.out]; exact HO7.out), HTX, HR7, HB7, HBZ7⟩
            case measure => rw [HSl, HV3]; exact hdec
        | succ j =>
          rw [km_succ]
          obtain ⟨y, hy⟩ := at_ L j (by rw [HLen.out]; omega)
          have l1 := HK.out.cell (half_at hy)
          have hf := HK.out.frozen j
          have hgl := HK.out.lt
          have hyd := HNL.out.1.at_ hy
          have j0 : (0 : Int) ≤ (j : Int) := by omega
          have jl : (j : Int) < (k : Int) := by omega
          have hw1 : IntKind.i64.wrap (r * 1048576) = r * 1048576 := IntWalk.i64_in _ (by omega)
          have hor := or_join r y (by omega) hyd
          have hst := HD.out.step HNL.out.1 hy
          have hset := HK.out.set j ((r * 1048576 + y) / 1000000)
          rw [half_set hy (by rw [HD.out.len])] at hset
          obtain ⟨t, ht⟩ : ∃ t, r * 1048576 + y = t := ⟨_, rfl⟩
          rw [ht] at hor hst hset
          have ht0 : 0 ≤ t ∧ t < 1099511627776 := by omega
          have hw2 : IntKind.i64.wrap (j : Int) = (j : Int) := IntWalk.i64_in _ (by omega)
          have HST := Lib.hid hst
          have HK2 := Lib.hid hset
          have HO2 := Lib.hid (owns_set (g := g) (j := j) (u := .int .i64 (t / 1000000)) HO.out hgB)
          have HB2 : Hid (Below w.heap.size w (wr.setCell ⟨g, j, none⟩ (.int .i64 (t / 1000000)))) := Lib.hid (Gen.b_set HB.out hwg)
          have HR2 := Lib.hid ((((Only.refl g wr).set j (.int .i64 (t / 1000000))).row w.heap.size _ _ (Nat.ne_of_lt hwg1) HR.out))
          have HBZ2 : Hid (B ≤ (wr.setCell ⟨g, j, none⟩ (.int .i64 (t / 1000000))).heap.size) := Lib.hid (by rw [((Only.refl g wr).set j (.int .i64 (t / 1000000))).sz]; exact HBZ.out)
          have hmod : t.tmod 1000000 = t % 1000000 := IntWalk.rem_in _ _ ht0.1
          have hquo := IntWalk.i64_quo t 1000000 (by omega)
          clear hy hst hset ht HO HR HB HK
          go_wp2
          go_roundw
          case rel => exact ⟨j, _, _, by omega, rfl, rfl, HK2, HST, HO2, HR2, HB2, HBZ2⟩
          case measure => simp [intOf, km]
    · obtain rfl : k = 0 := by omega
      have hk0I : ¬ ((0 : Int) < (((0 : Nat)) : Int)) := by omega
      have hV : V = 0 := by
        have h := HNL.out.nil.1 (List.eq_nil_of_length_eq_zero HLen.out)
        omega
      have HDN : Hid (P.reverse.flatten = Lib.decDigits x.natAbs) := Lib.hid (by
        have h := HP.out.1
        rw [hV] at h
        exact h.done)
      have HM : Hid (m ≤ 400) := Lib.hid (by
        have h := HP.out.1.le HP.out.2 HZ60.out
        have h2 := HO.out.1
        simp [strs] at h2
        omega)
      have HM0 : Hid (P.length = m ∧ 0 < m) := Lib.hid (by
        have h2 := HO.out.1
        simp [strs] at h2
        refine ⟨h2, ?_⟩
        by_cases h0 : 0 < m
        · exact h0
        · have h3 := HDN.out
          rw [List.eq_nil_of_length_eq_zero (show P.length = 0 by omega)] at h3
          have := dec_pos x.natAbs
          rw [← h3] at this
          simp at this)
      have hm0 := HM0.out.2
      have HD6 : Hid ((Lib.decDigits x.natAbs).length ≤ 362) := Lib.hid (by
        have h3 : x.natAbs < 10 ^ (361 + 1) := by
          have : pw 60 < ((10 ^ 362 : Nat) : Int) := by decide
          have := HZ60.out
          omega
        exact dec_len 361 _ h3)
      have c0 := HR.out.cell 0
      have c1 := HR.out.cell 1
      clear HVA hV HP HNL HLen
      by_cases hneg : sg x < 0
      · have NM1 : Hid (m + 1 ≤ maxLen) := Lib.hid (by have := HM.out; simp only [maxLen]; omega)
        have NM2 : Hid ((m + 1) * 16 ≤ 140737488355328) := Lib.hid (by have := HM.out; omega)
        have HJ : Hid (Lib.join (((P ++ [([45] : List UInt8)]).reverse.map byA).map fun b : ByteArray => b.data.toList) (ByteArray.mk #[]).data.toList = txt x) := Lib.hid (by
          have h1 : (((P ++ [([45] : List UInt8)]).reverse.map byA).map fun b : ByteArray => b.data.toList) = (P ++ [([45] : List UInt8)]).reverse := by rw [List.map_map]; exact List.map_id'' (fun p => rfl) _
          rw [h1]
          have h2 : Lib.join (P ++ [([45] : List UInt8)]).reverse [] = txt x := by
            rw [join_flat, List.reverse_append]
            unfold txt
            rw [if_pos (by have := sg_cases x; omega), ← HDN.out]
            simp
          exact h2)
        have HJL : Hid ((Lib.join (((P ++ [([45] : List UInt8)]).reverse.map byA).map fun b : ByteArray => b.data.toList) (ByteArray.mk #[]).data.toList).length ≤ 140737488355328) := Lib.hid (by
          rw [HJ.out]
          unfold txt
          have := HD6.out
          split <;> simp <;> omega)
        go_wp2_with (first
          | (at_builtin
             go_must (refine App.wpList_append_any _ rfl (.tmp 62) (.tmp 63) _ rfl B 9 iS _ 1 16 Tryz.underlying79 hiS hzS hyS hxS rfl (by omega) (.slice Ap m cp) m (strs P) rfl (Gen.own_keep HO.out (Gen.b_alloc (Below.refl _ _))) _ _ 1 1 [.string ⟨#[45]⟩] rfl (Gen.reads_blk (by simp) rfl) (by simp [Value.oneCell']) NM1.out NM2.out (Nat.le_trans HBZ.out (Gen.b_alloc (Below.refl _ _)).size) ?_)
             intro v7 w7 ho7 hg7 ha7
             have HB7 := Lib.hid (Gen.g_below HO.out hg7 (Gen.b_alloc HB.out) (Nat.le_of_lt hwB))
             have HBZ7 := Lib.hid (Nat.le_trans HBZ.out (Nat.le_trans (Gen.b_alloc (Below.refl _ _)).size hg7.size))
             obtain ⟨A7, c7, hv7, _⟩ := Gen.own_slice ho7
             subst hv7
             have HO7 : Hid (w7.ownsRow B 9 1 (.slice A7 (m + 1) c7) (m + 1) (strs (P ++ [([45] : List UInt8)]))) := Lib.hid (by rw [strs_snoc]; exact ho7)
             clear hg7 ha7 ho7 c0 c1)
          | fail)
        go_wp2_with (fail)
        go_must (refine (rev_any HO7.out (by omega) (by have := HM.out; omega) HBZ7.out).mono ?_)
        rintro e w8 ⟨rfl, gp, rfl, hgp, hgl, hmc, hcl, hb8⟩
        have HB8 := Lib.hid (HB7.out.trans (hb8.mono (Nat.le_of_lt hwB)))
        have HPL := Lib.hid (own_len HO7.out)
        go_wp2_with (fail)
        rw [show m + 1 = ((P ++ [([45] : List UInt8)]).reverse.map byA).length by rw [List.length_map, List.length_reverse]; exact HPL.out.symm]
        go_must (refine (Tryz.strings_Join gp 0 _ ((P ++ [([45] : List UInt8)]).reverse.map byA) _ _ hcl hgl (by rw [List.length_map, List.length_reverse, HPL.out]; have := HM.out; omega) (by rw [List.length_map, List.length_reverse, HPL.out]; exact hmc) HJL.out).mono ?_)
        rintro e w9 ⟨rfl, hb9⟩
        rw [HJ.out]
        have HB9 := Lib.hid (Gen.over hb9 HB8.out)
        clear hcl hgl hmc hb8 hb9
        go_wp2
        go_ret
        exact ⟨rfl, HB9.out⟩
      · have HJ : Hid (Lib.join ((P.reverse.map byA).map fun b : ByteArray => b.data.toList) (ByteArray.mk #[]).data.toList = txt x) := Lib.hid (by
          have h1 : ((P.reverse.map byA).map fun b : ByteArray => b.data.toList) = P.reverse := by rw [List.map_map]; exact List.map_id'' (fun p => rfl) _
          rw [h1]
          have h2 : Lib.join P.reverse [] = txt x := by
            rw [join_flat]
            unfold txt
            rw [if_neg (by have := sg_cases x; omega), ← HDN.out]
          exact h2)
        have HJL : Hid ((Lib.join ((P.reverse.map byA).map fun b : ByteArray => b.data.toList) (ByteArray.mk #[]).data.toList).length ≤ 140737488355328) := Lib.hid (by
          rw [HJ.out]
          unfold txt
          have := HD6.out
          split <;> simp <;> omega)
        have HO7 := HO
        have HB7 := HB
        have HBZ7 := HBZ
        go_wp2_with (fail)
        go_must (refine (rev_any HO7.out (by omega) (by have := HM.out; omega) HBZ7.out).mono ?_)
        rintro e w8 ⟨rfl, gp, rfl, hgp, hgl, hmc, hcl, hb8⟩
        have HB8 := Lib.hid (HB7.out.trans (hb8.mono (Nat.le_of_lt hwB)))
        have HPL := Lib.hid (own_len HO7.out)
        go_wp2_with (fail)
        rw [show m = (P.reverse.map byA).length by rw [List.length_map, List.length_reverse]; exact HPL.out.symm]
        go_must (refine (Tryz.strings_Join gp 0 _ (P.reverse.map byA) _ _ hcl hgl (by rw [List.length_map, List.length_reverse, HPL.out]; have := HM.out; omega) (by rw [List.length_map, List.length_reverse, HPL.out]; exact hmc) HJL.out).mono ?_)
        rintro e w9 ⟨rfl, hb9⟩
        rw [HJ.out]
        have HB9 := Lib.hid (Gen.over hb9 HB8.out)
        clear hcl hgl hmc hb8 hb9
        go_wp2
        go_ret
        exact ⟨rfl, HB9.out⟩
end Go.Proofs.YtnifkianjpjahaaGreatDoor.Bg
