/- VoteLast returns true: every number of units, votes, day and seat; no condition. -/
import Derived.Test.YtblegaclcpoonaaUnt
namespace Go.Proofs.Ytblegaclcpoonaa.Vote
open Go.ChangeShapes Go.WideShapes Go.ChangeAt Go.RowKit
set_option linter.unusedVariables false
set_option linter.unusedSimpArgs false

/-- two rows of the call's own lie in two blocks -/
def Apart (a b : Value) : Prop := ∀ g, a.ownBlock = some g → b.ownBlock ≠ some g
theorem Apart.symm {a b : Value} (h : Apart a b) : Apart b a := fun g h1 h2 => h g h2 h1
theorem Apart.nil {b : Value} : Apart (.slice none 0 0) b := fun g h => by cases h
theorem Apart.new {a b b' : Value} {H : Nat} (h : Apart a b) (hat : b'.ownBlock = b.ownBlock ∨ b'.ownBlock = some H) (hlt : ∀ k, a.ownBlock = some k → k < H) : Apart a b' := fun g h1 h2 => by
  rcases hat with e | e
  · exact h g h1 (by rw [← e]; exact h2)
  · rw [e] at h2
    have := hlt g h1
    have := Option.some.inj h2
    omega
/-- three rows of votes, each in a block of its own -/
structure Tri (w : World) (B : Nat) (a b c : Value) (la lb lc : List V) : Prop where
  oa : w.ownsRow B 56 3 a la.length (vls la)
  ob : w.ownsRow B 56 3 b lb.length (vls lb)
  oc : w.ownsRow B 56 3 c lc.length (vls lc)
  ab : Apart a b
  ac : Apart a c
  bc : Apart b c
section
variable {w w' : World} {B : Nat} {a b c a' b' c' : Value} {la lb lc : List V} {v : V}
theorem Tri.swap (h : Tri w B a b c la lb lc) : Tri w B b a c lb la lc := ⟨h.ob, h.oa, h.oc, h.ab.symm, h.bc, h.ac⟩
theorem Tri.swap3 (h : Tri w B a b c la lb lc) : Tri w B c b a lc lb la := ⟨h.oc, h.ob, h.oa, h.bc.symm, h.ac.symm, h.ab.symm⟩
theorem Tri.keep (h : Tri w B a b c la lb lc) (hb : Below w.heap.size w w') : Tri w' B a b c la lb lc := ⟨Gen.own_keep h.oa hb, Gen.own_keep h.ob hb, Gen.own_keep h.oc hb, h.ab, h.ac, h.bc⟩
theorem kept_of {e : TypeId} {size n : Nat} {x y : Value} {xs : List Value} (h : w.ownsRow B e size x n xs) (hg : w.grownBy w' y.ownBlock) (hap : Apart x y) : w'.ownsRow B e size x n xs := by
  refine h.kept hg ?_
  cases hx : x.ownBlock with
  | none => exact .inl rfl
  | some g => exact .inr fun e => hap g hx e.symm
theorem Tri.put (h : Tri w B a b c la lb lc) (ho : w'.ownsRow B 56 3 a' (la.length + 1) (vls la ++ [.int .i64 v.s, .int .i64 v.d, .bool v.y])) (hg : w.grownBy w' a.ownBlock) (hat : a'.ownBlock = a.ownBlock ∨ a'.ownBlock = some w.heap.size) :
    Tri w' B a' b c (la ++ [v]) lb lc :=
  ⟨by rw [List.length_append, vls_snoc]; exact ho, kept_of h.ob hg h.ab.symm, kept_of h.oc hg h.ac.symm, (h.ab.symm.new hat fun k hk => (h.ob.lt k hk).2).symm, (h.ac.symm.new hat fun k hk => (h.oc.lt k hk).2).symm, h.bc⟩
theorem Tri.put2 (h : Tri w B a b c la lb lc) (ho : w'.ownsRow B 56 3 b' (lb.length + 1) (vls lb ++ [.int .i64 v.s, .int .i64 v.d, .bool v.y])) (hg : w.grownBy w' b.ownBlock) (hat : b'.ownBlock = b.ownBlock ∨ b'.ownBlock = some w.heap.size) :
    Tri w' B a b' c la (lb ++ [v]) lc := (h.swap.put ho hg hat).swap
theorem Tri.put3 (h : Tri w B a b c la lb lc) (ho : w'.ownsRow B 56 3 c' (lc.length + 1) (vls lc ++ [.int .i64 v.s, .int .i64 v.d, .bool v.y])) (hg : w.grownBy w' c.ownBlock) (hat : c'.ownBlock = c.ownBlock ∨ c'.ownBlock = some w.heap.size) :
    Tri w' B a b c' la lb (lc ++ [v]) := (h.swap3.put ho hg hat).swap3
end
theorem bld_le {g : Nat → V → List V} {c : Nat} (hg : ∀ i v, (g i v).length ≤ c) : ∀ (xs : List V) (i : Nat), (bld g i xs).length ≤ c * xs.length
  | [], i => by simp [bld]
  | x :: xs, i => by
    have := hg i x
    have := bld_le hg xs (i + 1)
    rw [bld, List.length_append, List.length_cons, Nat.mul_succ]
    omega
theorem last_at {s u : Int} {vs : List V} {la : Int} {k : Nat} {v : V} (h : IsLast s u vs la) (hv : vs[k]? = some v) (e : la = k) : v.s = s := by
  rcases h with ⟨h, _⟩ | ⟨P, x, S, rfl, h2, h3, _⟩
  · omega
  · have : P.length = k := by omega
    subst this
    simp at hv
    rw [← hv]
    exact h3
theorem last_lt {s u : Int} {vs : List V} {la : Int} (h : IsLast s u vs la) : -1 ≤ la ∧ la < vs.length := by
  rcases h with ⟨h, _⟩ | ⟨P, x, S, rfl, h2, h3, _⟩
  · omega
  · simp; omega

set_option maxRecDepth 100000 in
set_option maxHeartbeats 2000000 in
theorem lastw_a (A : Option Addr) (n cap : Nat) (zs : List Int) (A' : Option Addr) (m cap' : Nat) (vs : List V) (u z : Int) (w : World) (hn : zs.length = n) (hc : Ints w A zs) (hm : vs.length = m) (hc' : Votes w A' vs) (h : 40 < n) :
    Calls Try.prog 9 #[.slice A n cap, .slice A' m cap', .int .i64 u, .int .u8 z] w fun e w' => e = .returned (.bool true) ∧ Below w.heap.size w w' := by
  have HN := Lib.hid hn
  have HM := Lib.hid hm
  clear hn hm
  go_enter Try.func9, Try.ntmps9
  go_wp2_with (fail)
  refine (small_any _).mono ?_
  rintro e w1 ⟨rfl, hb1⟩
  go_wp2
  go_ret
  exact ⟨rfl, hb1⟩

set_option maxRecDepth 100000 in
set_option maxHeartbeats 2000000 in
theorem lastw_b (A : Option Addr) (n cap : Nat) (zs : List Int) (A' : Option Addr) (m cap' : Nat) (vs : List V) (u z : Int) (w : World) (hn : zs.length = n) (hc : Ints w A zs) (hm : vs.length = m) (hc' : Votes w A' vs) (h : n ≤ 40) (h2 : 60 < m) :
    Calls Try.prog 9 #[.slice A n cap, .slice A' m cap', .int .i64 u, .int .u8 z] w fun e w' => e = .returned (.bool true) ∧ Below w.heap.size w w' := by
  have HN := Lib.hid hn
  have HM := Lib.hid hm
  clear hn hm
  go_enter Try.func9, Try.ntmps9
  go_wp2_with (fail)
  refine (small_any _).mono ?_
  rintro e w1 ⟨rfl, hb1⟩
  go_wp2
  go_ret
  exact ⟨rfl, hb1⟩

set_option maxRecDepth 100000 in
set_option maxHeartbeats 2000000 in
theorem lastw_c (A : Option Addr) (n cap : Nat) (zs : List Int) (A' : Option Addr) (m cap' : Nat) (vs : List V) (u z : Int) (w : World) (hn : zs.length = n) (hc : Ints w A zs) (hm : vs.length = m) (hc' : Votes w A' vs) (h : n ≤ 40) (h2 : m ≤ 60) (hok : Hid (okT zs vs = false)) :
    Calls Try.prog 9 #[.slice A n cap, .slice A' m cap', .int .i64 u, .int .u8 z] w fun e w' => e = .returned (.bool true) ∧ Below w.heap.size w w' := by
  have HN := Lib.hid hn
  have HM := Lib.hid hm
  clear hn hm
  go_enter Try.func9, Try.ntmps9
  go_wp2_with (fail)
  refine (small_any _).mono ?_
  rintro e w1 ⟨rfl, hb1⟩
  go_wp2_with (fail)
  go_must (refine (rright_is HN.out (hc.keep hb1) (by omega) HM.out (hc'.keep hb1) (by omega) hok.out).mono ?_)
  rintro e w2 ⟨rfl, hb2⟩
  have hB2 := Gen.over hb2 hb1
  go_wp2
  go_ret
  exact ⟨rfl, hB2⟩

set_option maxRecDepth 100000 in
set_option maxHeartbeats 2000000 in
theorem lastw_d (A : Option Addr) (n cap : Nat) (zs : List Int) (A' : Option Addr) (m cap' : Nat) (vs : List V) (u z : Int) (w : World) (hn : zs.length = n) (hc : Ints w A zs) (hm : vs.length = m) (hc' : Votes w A' vs) (h : n = 0) (h2 : m ≤ 60) (hok : Hid (okT zs vs = true)) :
    Calls Try.prog 9 #[.slice A n cap, .slice A' m cap', .int .i64 u, .int .u8 z] w fun e w' => e = .returned (.bool true) ∧ Below w.heap.size w w' := by
  subst h
  have HN := Lib.hid hn
  have HM := Lib.hid hm
  clear hn hm
  go_enter Try.func9, Try.ntmps9
  go_wp2_with (fail)
  refine (small_any _).mono ?_
  rintro e w1 ⟨rfl, hb1⟩
  go_wp2_with (fail)
  go_must (refine (rright_is HN.out (hc.keep hb1) (by omega) HM.out (hc'.keep hb1) (by omega) hok.out).mono ?_)
  rintro e w2 ⟨rfl, hb2⟩
  have hB2 := Gen.over hb2 hb1
  go_wp2
  go_ret
  exact ⟨rfl, hB2⟩

set_option maxRecDepth 100000 in
set_option maxHeartbeats 8000000 in
theorem lastw_f (A : Option Addr) (n cap : Nat) (zs : List Int) (A' : Option Addr) (m cap' : Nat) (vs : List V) (u z : Int) (w : World) (hn : zs.length = n) (hc : Ints w A zs) (hm : vs.length = m) (hc' : Votes w A' vs) (h : n ≤ 40) (h0 : 1 ≤ n) (h2 : m ≤ 60) (hok : Hid (okT zs vs = true)) (z0 : 0 ≤ z) (z1 : z ≤ 255) :
    Calls Try.prog 9 #[.slice A n cap, .slice A' m cap', .int .i64 u, .int .u8 z] w fun e w' => e = .returned (.bool true) ∧ Below w.heap.size w w' := by
  have HN := Lib.hid hn
  have HM := Lib.hid hm
  clear hn hm
  obtain ⟨i0, hi0, hz0, hz1, hz2⟩ := info_parts info56
  obtain ⟨sd, hsd⟩ : ∃ sd : Nat, z % (n : Int) = sd := ⟨(z % (n : Int)).toNat, (Int.toNat_of_nonneg (Int.emod_nonneg z (by omega))).symm⟩
  have hsn : sd < n := by
    have := Int.emod_lt_of_pos z (show (0 : Int) < n by omega)
    omega
  obtain ⟨Y, hY⟩ : ∃ Y, yesR zs (lastV n u vs) = Y := ⟨_, rfl⟩
  obtain ⟨T, hT⟩ : ∃ T, total zs = T := ⟨_, rfl⟩
  have hT0 := yesR_in (lastV n u vs) (okT_all hok.out).1
  rw [hY, hT] at hT0
  obtain ⟨hY0, hYT⟩ := hT0
  have hT1 : T ≤ 1000000000 := by rw [← hT]; exact (okT_all hok.out).2
  have hn0 : ((n : Int) == 0) = false := by simpa using (show (n : Int) ≠ 0 by omega)
  have HY := Lib.hid hY
  have HT := Lib.hid hT
  clear hY hT
  go_enter Try.func9, Try.ntmps9
  go_wp2_with (fail)
  refine (small_any _).mono ?_
  rintro e w1 ⟨rfl, hb1⟩
  go_wp2_with (fail)
  go_must (refine (rright_is HN.out (hc.keep hb1) (by omega) HM.out (hc'.keep hb1) (by omega) hok.out).mono ?_)
  rintro e w2 ⟨rfl, hb2⟩
  have hB2 := Gen.over hb2 hb1
  have z2 := (hc.keep hb1).keep hb2
  have v2 := (hc'.keep hb1).keep hb2
  have y2 : w.heap.size ≤ w2.heap.size := hB2.size
  clear hc hc' hb1 hb2
  go_wp2_with (fail)
  go_must (refine (tally_is _ HN.out z2 h HM.out v2 (by omega) hok.out HY.out HT.out).mono ?_)
  rintro e w3 ⟨rfl, hb3⟩
  have z3 := z2.keep hb3
  have v3 := v2.keep hb3
  have hB3 := Gen.over hb3 hB2
  have y3 : w.heap.size ≤ w3.heap.size := hB3.size
  clear hb3 z2 v2 hB2 y2
  go_wp2_with (fail)
  go_loop [14, 15] (fun la i => ∃ (k : Nat) (a : Int), k ≤ m ∧ i = .int .i64 k ∧ la = .int .i64 a ∧ IsLast sd u (vs.take k) a) (fun _ i => m - (intOf i).toNat)
  case atStart => exact ⟨0, -1, Nat.zero_le _, rfl, rfl, .inl ⟨rfl, fun v hv => absurd hv (by simp)⟩⟩
  case round =>
    obtain ⟨k, a, hk, rfl, rfl, hl⟩ := hrel
    have HL := Lib.hid hl
    clear hl
    by_cases hlt : k < m
    · obtain ⟨b, off, rfl, hcell⟩ := v3 (by rw [HM.out]; omega)
      obtain ⟨v, hv⟩ := at_ vs k (by rw [HM.out]; exact hlt)
      obtain ⟨c0, c1, c2⟩ := hcell k v hv
      have HS := Lib.hid (isLast_snoc HL.out v)
      rw [← take_snoc hv, show (vs.take k).length = k from by rw [List.length_take, HM.out]; omega] at HS
      clear hv hcell
      obtain ⟨s, d, y⟩ := v
      dsimp only at c0 c1 c2 HS
      by_cases hs : s = sd
      · subst hs
        by_cases hd : d ≤ u
        · rw [if_pos ⟨rfl, hd⟩] at HS
          go_wp2
          go_round
          case rel => exact ⟨k + 1, _, by omega, by go_num, rfl, HS.out⟩
          case measure => simp [intOf]; omega
        · rw [if_neg (fun h => hd h.2)] at HS
          have hd' : u < d := by omega
          clear hd
          go_wp2
          go_round
          case rel => exact ⟨k + 1, _, by omega, by go_num, rfl, HS.out⟩
          case measure => simp [intOf]; omega
      · rw [if_neg (fun h => hs h.1)] at HS
        have hs' : (s == (sd : Int)) = false := by simpa using hs
        clear hs
        go_wp2
        go_round
        case rel => exact ⟨k + 1, _, by omega, by go_num, rfl, HS.out⟩
        case measure => simp [intOf]; omega
    · obtain rfl : k = m := by omega
      rw [List.take_of_length_le (by rw [HM.out]; exact Nat.le_refl _)] at HL
      obtain ⟨a0, a1⟩ := last_lt HL.out
      rw [HM.out] at a1
      go_wp2
      go_loopw [16, 17, 18, 19] (fun ev nv tv i wr => ∃ k' : Nat, k' ≤ k ∧ i = .int .i64 k' ∧ Tri wr w3.heap.size ev nv tv (bld (gSome sd a) 0 (vs.take k')) (bld (gNone sd) 0 (vs.take k')) (bld (gTwice a) 0 (vs.take k')) ∧ Below w3.heap.size w3 wr) (fun _ _ _ i _ => k - (intOf i).toNat)
      case atStart => exact ⟨0, Nat.zero_le _, rfl, ⟨⟨rfl, .inl ⟨rfl, rfl⟩⟩, ⟨rfl, .inl ⟨rfl, rfl⟩⟩, ⟨rfl, .inl ⟨rfl, rfl⟩⟩, Apart.nil, Apart.nil, Apart.nil⟩, Below.refl _ _⟩
      case round =>
        obtain ⟨j, hj, rfl, tri, hB⟩ := hrel
        have hS : w3.heap.size ≤ wr.heap.size := hB.size
        by_cases hlt : j < k
        · obtain ⟨b, off, rfl, hcell⟩ := v3 (by rw [HM.out]; omega)
          obtain ⟨v, hv⟩ := at_ vs j (by rw [HM.out]; exact hlt)
          obtain ⟨c0, c1, c2⟩ := (hcell j v hv).keepB hB
          have hjl : (vs.take j).length = j := by rw [List.length_take, HM.out]; omega
          have HT' := Lib.hid (take_snoc hv)
          have HA := Lib.hid (fun e => last_at HL.out hv e)
          have b1 := bld_le (g := gSome sd a) (c := 1) (fun i v => by unfold gSome; split <;> simp) (vs.take j) 0
          have b2 := bld_le (g := gNone sd) (c := 1) (fun i v => by unfold gNone; split <;> simp) (vs.take j) 0
          have b3 := bld_le (g := gTwice a) (c := 2) (fun i v => by unfold gTwice; split <;> simp) (vs.take j) 0
          rw [hjl] at b1 b2 b3
          have HJ := Lib.hid hjl
          clear hv hcell hjl
          obtain ⟨s, d, y⟩ := v
          dsimp only at c0 c1 c2 HA
          have rR := Gen.rowAt wr 56 #[.int .i64 s, .int .i64 d, .bool y] rfl
          have rT := tri.keep (Gen.b_alloc (x := .cells #[.int .i64 s, .int .i64 d, .bool y] 56) (Below.refl _ _))
          have rB := Gen.b_alloc (x := .cells #[.int .i64 s, .int .i64 d, .bool y] 56) hB
          have rS : w3.heap.size ≤ (wr.alloc (.cells #[.int .i64 s, .int .i64 d, .bool y] 56)).heap.size := rB.size
          by_cases hs : s = sd
          · rcases (show (j : Int) < a ∨ (j : Int) = a ∨ a < (j : Int) from by omega) with hja | hja | hja
            · have HG1 := Lib.hid (show bld (gSome sd a) 0 (vs.take (j + 1)) = bld (gSome sd a) 0 (vs.take j) from by rw [HT'.out, bld_snoc, HJ.out]; simp only [gSome]; first | rw [if_pos (by omega)] | rw [if_neg (by omega), List.append_nil] | rw [if_neg (by omega)])
              have HG2 := Lib.hid (show bld (gNone sd) 0 (vs.take (j + 1)) = bld (gNone sd) 0 (vs.take j) from by rw [HT'.out, bld_snoc, HJ.out]; simp only [gNone]; first | rw [if_pos (by omega)] | rw [if_neg (by omega), List.append_nil] | rw [if_neg (by omega)])
              have HG3 := Lib.hid (show bld (gTwice a) 0 (vs.take (j + 1)) = bld (gTwice a) 0 (vs.take j) ++ [⟨s, d, y⟩] from by rw [HT'.out, bld_snoc, HJ.out]; simp only [gTwice]; first | rw [if_pos (by omega)] | rw [if_neg (by omega), List.append_nil] | rw [if_neg (by omega)])
              have heq : (s != (sd : Int)) = false := by simp [hs]
              have hja' : ((j : Int) == a) = false := by simpa using (show (j : Int) ≠ a by omega)
              have HS := Lib.hid hs
              clear hs
              go_wp2_with (first
                | (at_builtin
                   refine App.wpList_append_any _ rfl (.tmp 118) (.tmp 120) _ rfl w3.heap.size 56 i0 _ 3 24 Try.underlying45 hi0 hz0 hz1 hz2 rfl (by omega) _ _ _ rfl (rT.keep (Gen.b_alloc (Below.refl _ _))).oc _ _ 1 1 [.int .i64 s, .int .i64 d, .bool y] rfl (Gen.reads_blk (by simp) rfl) (by simp [Value.oneCell']) (by simp only [maxLen]; (try simp only [List.length_append, List.length_singleton]); omega) (by (try simp only [List.length_append, List.length_singleton]); omega) (Nat.le_trans rS (Gen.b_alloc (Below.refl _ _)).size) ?_
                   intro v1 x1 own1 hg1 hat1
                   have tri1 := (rT.keep (Gen.b_alloc (Below.refl _ _))).put3 (v := ⟨s, d, y⟩) own1 hg1 hat1
                   have qB := Gen.g_below tri.oc hg1 (Gen.b_alloc rB) (Nat.le_refl _)
                   have qS : w3.heap.size ≤ x1.heap.size := qB.size
                   have qR := Gen.g_rowUp tri.oc hg1 (Nat.le_refl _) (rR.alloc _)
                   have l10 := (qR.cell 0).trans rfl
                   have l11 := (qR.cell 1).trans rfl
                   have l12 := (qR.cell 2).trans rfl
                   clear hat1 own1 hg1)
                | fail)
              go_roundw
              case rel => exact ⟨j + 1, by omega, by go_num, by rw [HG1.out, HG2.out, HG3.out]; exact tri1, qB⟩
              case measure => simp [intOf]; omega
            · have HG1 := Lib.hid (show bld (gSome sd a) 0 (vs.take (j + 1)) = bld (gSome sd a) 0 (vs.take j) ++ [⟨s, d, y⟩] from by rw [HT'.out, bld_snoc, HJ.out]; simp only [gSome]; first | rw [if_pos (by omega)] | rw [if_neg (by omega), List.append_nil] | rw [if_neg (by omega)])
              have HG2 := Lib.hid (show bld (gNone sd) 0 (vs.take (j + 1)) = bld (gNone sd) 0 (vs.take j) from by rw [HT'.out, bld_snoc, HJ.out]; simp only [gNone]; first | rw [if_pos (by omega)] | rw [if_neg (by omega), List.append_nil] | rw [if_neg (by omega)])
              have HG3 := Lib.hid (show bld (gTwice a) 0 (vs.take (j + 1)) = bld (gTwice a) 0 (vs.take j) ++ [⟨s, d, y⟩, ⟨s, d, y⟩] from by rw [HT'.out, bld_snoc, HJ.out]; simp only [gTwice]; first | rw [if_pos (by omega)] | rw [if_neg (by omega), List.append_nil] | rw [if_neg (by omega)])
              have heq : (s != (sd : Int)) = false := by simp [hs]
              have hja' : ((j : Int) == a) = true := by simpa using hja
              have hja2 : a ≤ (j : Int) := by omega
              have HJA := Lib.hid hja
              clear hja
              have HS := Lib.hid hs
              clear hs
              go_wp2_with (first
                | (at_builtin
                   refine App.wpList_append_any _ rfl (.tmp 106) (.tmp 108) _ rfl w3.heap.size 56 i0 _ 3 24 Try.underlying45 hi0 hz0 hz1 hz2 rfl (by omega) _ _ _ rfl (rT.keep (Gen.b_alloc (Below.refl _ _))).oa _ _ 1 1 [.int .i64 s, .int .i64 d, .bool y] rfl (Gen.reads_blk (by simp) rfl) (by simp [Value.oneCell']) (by simp only [maxLen]; (try simp only [List.length_append, List.length_singleton]); omega) (by (try simp only [List.length_append, List.length_singleton]); omega) (Nat.le_trans rS (Gen.b_alloc (Below.refl _ _)).size) ?_
                   intro v1 x1 own1 hg1 hat1
                   have tri1 := (rT.keep (Gen.b_alloc (Below.refl _ _))).put (v := ⟨s, d, y⟩) own1 hg1 hat1
                   have qB := Gen.g_below tri.oa hg1 (Gen.b_alloc rB) (Nat.le_refl _)
                   have qS : w3.heap.size ≤ x1.heap.size := qB.size
                   have qR := Gen.g_rowUp tri.oa hg1 (Nat.le_refl _) (rR.alloc _)
                   have l10 := (qR.cell 0).trans rfl
                   have l11 := (qR.cell 1).trans rfl
                   have l12 := (qR.cell 2).trans rfl
                   clear hat1 own1 hg1)
                | (at_builtin
                   refine App.wpList_append_any _ rfl (.tmp 118) (.tmp 120) _ rfl w3.heap.size 56 i0 _ 3 24 Try.underlying45 hi0 hz0 hz1 hz2 rfl (by omega) _ _ _ rfl (tri1.keep (Gen.b_alloc (Below.refl _ _))).oc _ _ 1 1 [.int .i64 s, .int .i64 d, .bool y] rfl (Gen.reads_blk (by simp) rfl) (by simp [Value.oneCell']) (by simp only [maxLen]; (try simp only [List.length_append, List.length_singleton]); omega) (by (try simp only [List.length_append, List.length_singleton]); omega) (Nat.le_trans qS (Gen.b_alloc (Below.refl _ _)).size) ?_
                   intro v2 x2 own2 hg2 hat2
                   have tri2 := (tri1.keep (Gen.b_alloc (Below.refl _ _))).put3 (v := ⟨s, d, y⟩) own2 hg2 hat2
                   have pB := Gen.g_below tri.oc hg2 (Gen.b_alloc qB) (Nat.le_refl _)
                   have pS : w3.heap.size ≤ x2.heap.size := pB.size
                   have pR := Gen.g_rowUp tri.oc hg2 (Nat.le_refl _) (qR.alloc _)
                   have l20 := (pR.cell 0).trans rfl
                   have l21 := (pR.cell 1).trans rfl
                   have l22 := (pR.cell 2).trans rfl
                   clear hat2 own2 hg2)
                | (at_builtin
                   refine App.wpList_append_any _ rfl (.tmp 125) (.tmp 127) _ rfl w3.heap.size 56 i0 _ 3 24 Try.underlying45 hi0 hz0 hz1 hz2 rfl (by omega) _ _ _ rfl (tri2.keep (Gen.b_alloc (Below.refl _ _))).oc _ _ 1 1 [.int .i64 s, .int .i64 d, .bool y] rfl (Gen.reads_blk (by simp) rfl) (by simp [Value.oneCell']) (by simp only [maxLen]; (try simp only [List.length_append, List.length_singleton]); omega) (by (try simp only [List.length_append, List.length_singleton]); omega) (Nat.le_trans pS (Gen.b_alloc (Below.refl _ _)).size) ?_
                   intro v3 x3 own3 hg3 hat3
                   have tri3 := (tri2.keep (Gen.b_alloc (Below.refl _ _))).put3 (v := ⟨s, d, y⟩) own3 hg3 hat3
                   have oB := Gen.g_below tri2.oc hg3 (Gen.b_alloc pB) (Nat.le_refl _)
                   have oS : w3.heap.size ≤ x3.heap.size := oB.size
                   clear hat3 own3 hg3)
                | fail)
              go_roundw
              case rel => exact ⟨j + 1, by omega, by go_num, by rw [HG1.out, HG2.out, HG3.out]; exact (by simpa using tri3), oB⟩
              case measure => simp [intOf]; omega
            · have HG1 := Lib.hid (show bld (gSome sd a) 0 (vs.take (j + 1)) = bld (gSome sd a) 0 (vs.take j) ++ [⟨s, d, y⟩] from by rw [HT'.out, bld_snoc, HJ.out]; simp only [gSome]; first | rw [if_pos (by omega)] | rw [if_neg (by omega), List.append_nil] | rw [if_neg (by omega)])
              have HG2 := Lib.hid (show bld (gNone sd) 0 (vs.take (j + 1)) = bld (gNone sd) 0 (vs.take j) from by rw [HT'.out, bld_snoc, HJ.out]; simp only [gNone]; first | rw [if_pos (by omega)] | rw [if_neg (by omega), List.append_nil] | rw [if_neg (by omega)])
              have HG3 := Lib.hid (show bld (gTwice a) 0 (vs.take (j + 1)) = bld (gTwice a) 0 (vs.take j) ++ [⟨s, d, y⟩] from by rw [HT'.out, bld_snoc, HJ.out]; simp only [gTwice]; first | rw [if_pos (by omega)] | rw [if_neg (by omega), List.append_nil] | rw [if_neg (by omega)])
              have heq : (s != (sd : Int)) = false := by simp [hs]
              have hja' : ((j : Int) == a) = false := by simpa using (show (j : Int) ≠ a by omega)
              have HS := Lib.hid hs
              clear hs
              go_wp2_with (first
                | (at_builtin
                   refine App.wpList_append_any _ rfl (.tmp 106) (.tmp 108) _ rfl w3.heap.size 56 i0 _ 3 24 Try.underlying45 hi0 hz0 hz1 hz2 rfl (by omega) _ _ _ rfl (rT.keep (Gen.b_alloc (Below.refl _ _))).oa _ _ 1 1 [.int .i64 s, .int .i64 d, .bool y] rfl (Gen.reads_blk (by simp) rfl) (by simp [Value.oneCell']) (by simp only [maxLen]; (try simp only [List.length_append, List.length_singleton]); omega) (by (try simp only [List.length_append, List.length_singleton]); omega) (Nat.le_trans rS (Gen.b_alloc (Below.refl _ _)).size) ?_
                   intro v1 x1 own1 hg1 hat1
                   have tri1 := (rT.keep (Gen.b_alloc (Below.refl _ _))).put (v := ⟨s, d, y⟩) own1 hg1 hat1
                   have qB := Gen.g_below tri.oa hg1 (Gen.b_alloc rB) (Nat.le_refl _)
                   have qS : w3.heap.size ≤ x1.heap.size := qB.size
                   have qR := Gen.g_rowUp tri.oa hg1 (Nat.le_refl _) (rR.alloc _)
                   have l10 := (qR.cell 0).trans rfl
                   have l11 := (qR.cell 1).trans rfl
                   have l12 := (qR.cell 2).trans rfl
                   clear hat1 own1 hg1)
                | (at_builtin
                   refine App.wpList_append_any _ rfl (.tmp 118) (.tmp 120) _ rfl w3.heap.size 56 i0 _ 3 24 Try.underlying45 hi0 hz0 hz1 hz2 rfl (by omega) _ _ _ rfl (tri1.keep (Gen.b_alloc (Below.refl _ _))).oc _ _ 1 1 [.int .i64 s, .int .i64 d, .bool y] rfl (Gen.reads_blk (by simp) rfl) (by simp [Value.oneCell']) (by simp only [maxLen]; (try simp only [List.length_append, List.length_singleton]); omega) (by (try simp only [List.length_append, List.length_singleton]); omega) (Nat.le_trans qS (Gen.b_alloc (Below.refl _ _)).size) ?_
                   intro v2 x2 own2 hg2 hat2
                   have tri2 := (tri1.keep (Gen.b_alloc (Below.refl _ _))).put3 (v := ⟨s, d, y⟩) own2 hg2 hat2
                   have pB := Gen.g_below tri.oc hg2 (Gen.b_alloc qB) (Nat.le_refl _)
                   have pS : w3.heap.size ≤ x2.heap.size := pB.size
                   have pR := Gen.g_rowUp tri.oc hg2 (Nat.le_refl _) (qR.alloc _)
                   have l20 := (pR.cell 0).trans rfl
                   have l21 := (pR.cell 1).trans rfl
                   have l22 := (pR.cell 2).trans rfl
                   clear hat2 own2 hg2)
                | fail)
              go_roundw
              case rel => exact ⟨j + 1, by omega, by go_num, by rw [HG1.out, HG2.out, HG3.out]; exact tri2, pB⟩
              case measure => simp [intOf]; omega
          · have hja : ¬ (j : Int) = a := fun e => hs (HA.out e.symm)
            have HG1 := Lib.hid (show bld (gSome sd a) 0 (vs.take (j + 1)) = bld (gSome sd a) 0 (vs.take j) ++ [⟨s, d, y⟩] from by rw [HT'.out, bld_snoc, HJ.out]; simp only [gSome]; first | rw [if_pos (by omega)] | rw [if_neg (by omega), List.append_nil] | rw [if_neg (by omega)])
            have HG2 := Lib.hid (show bld (gNone sd) 0 (vs.take (j + 1)) = bld (gNone sd) 0 (vs.take j) ++ [⟨s, d, y⟩] from by rw [HT'.out, bld_snoc, HJ.out]; simp only [gNone]; first | rw [if_pos (by omega)] | rw [if_neg (by omega), List.append_nil] | rw [if_neg (by omega)])
            have HG3 := Lib.hid (show bld (gTwice a) 0 (vs.take (j + 1)) = bld (gTwice a) 0 (vs.take j) ++ [⟨s, d, y⟩] from by rw [HT'.out, bld_snoc, HJ.out]; simp only [gTwice]; first | rw [if_pos (by omega)] | rw [if_neg (by omega), List.append_nil] | rw [if_neg (by omega)])
            have hne : (s != (sd : Int)) = true := by simpa using hs
            have hja' : ((j : Int) == a) = false := by simpa using (fun e => hs (HA.out e.symm))
            have HS := Lib.hid hs
            clear hs
            go_wp2_with (first
              | (at_builtin
                 refine App.wpList_append_any _ rfl (.tmp 106) (.tmp 108) _ rfl w3.heap.size 56 i0 _ 3 24 Try.underlying45 hi0 hz0 hz1 hz2 rfl (by omega) _ _ _ rfl (rT.keep (Gen.b_alloc (Below.refl _ _))).oa _ _ 1 1 [.int .i64 s, .int .i64 d, .bool y] rfl (Gen.reads_blk (by simp) rfl) (by simp [Value.oneCell']) (by simp only [maxLen]; (try simp only [List.length_append, List.length_singleton]); omega) (by (try simp only [List.length_append, List.length_singleton]); omega) (Nat.le_trans rS (Gen.b_alloc (Below.refl _ _)).size) ?_
                 intro v1 x1 own1 hg1 hat1
                 have tri1 := (rT.keep (Gen.b_alloc (Below.refl _ _))).put (v := ⟨s, d, y⟩) own1 hg1 hat1
                 have qB := Gen.g_below tri.oa hg1 (Gen.b_alloc rB) (Nat.le_refl _)
                 have qS : w3.heap.size ≤ x1.heap.size := qB.size
                 have qR := Gen.g_rowUp tri.oa hg1 (Nat.le_refl _) (rR.alloc _)
                 have l10 := (qR.cell 0).trans rfl
                 have l11 := (qR.cell 1).trans rfl
                 have l12 := (qR.cell 2).trans rfl
                 clear hat1 own1 hg1)
              | (at_builtin
                 refine App.wpList_append_any _ rfl (.tmp 114) (.tmp 116) _ rfl w3.heap.size 56 i0 _ 3 24 Try.underlying45 hi0 hz0 hz1 hz2 rfl (by omega) _ _ _ rfl (tri1.keep (Gen.b_alloc (Below.refl _ _))).ob _ _ 1 1 [.int .i64 s, .int .i64 d, .bool y] rfl (Gen.reads_blk (by simp) rfl) (by simp [Value.oneCell']) (by simp only [maxLen]; (try simp only [List.length_append, List.length_singleton]); omega) (by (try simp only [List.length_append, List.length_singleton]); omega) (Nat.le_trans qS (Gen.b_alloc (Below.refl _ _)).size) ?_
                 intro v2 x2 own2 hg2 hat2
                 have tri2 := (tri1.keep (Gen.b_alloc (Below.refl _ _))).put2 (v := ⟨s, d, y⟩) own2 hg2 hat2
                 have pB := Gen.g_below tri.ob hg2 (Gen.b_alloc qB) (Nat.le_refl _)
                 have pS : w3.heap.size ≤ x2.heap.size := pB.size
                 have pR := Gen.g_rowUp tri.ob hg2 (Nat.le_refl _) (qR.alloc _)
                 have l20 := (pR.cell 0).trans rfl
                 have l21 := (pR.cell 1).trans rfl
                 have l22 := (pR.cell 2).trans rfl
                 clear hat2 own2 hg2)
              | (at_builtin
                 refine App.wpList_append_any _ rfl (.tmp 118) (.tmp 120) _ rfl w3.heap.size 56 i0 _ 3 24 Try.underlying45 hi0 hz0 hz1 hz2 rfl (by omega) _ _ _ rfl (tri2.keep (Gen.b_alloc (Below.refl _ _))).oc _ _ 1 1 [.int .i64 s, .int .i64 d, .bool y] rfl (Gen.reads_blk (by simp) rfl) (by simp [Value.oneCell']) (by simp only [maxLen]; (try simp only [List.length_append, List.length_singleton]); omega) (by (try simp only [List.length_append, List.length_singleton]); omega) (Nat.le_trans pS (Gen.b_alloc (Below.refl _ _)).size) ?_
                 intro v3 x3 own3 hg3 hat3
                 have tri3 := (tri2.keep (Gen.b_alloc (Below.refl _ _))).put3 (v := ⟨s, d, y⟩) own3 hg3 hat3
                 have oB := Gen.g_below tri.oc hg3 (Gen.b_alloc pB) (Nat.le_refl _)
                 have oS : w3.heap.size ≤ x3.heap.size := oB.size
                 have oR := Gen.g_rowUp tri.oc hg3 (Nat.le_refl _) (pR.alloc _)
                 have l30 := (oR.cell 0).trans rfl
                 have l31 := (oR.cell 1).trans rfl
                 have l32 := (oR.cell 2).trans rfl
                 clear hat3 own3 hg3)
              | fail)
            go_roundw
            case rel => exact ⟨j + 1, by omega, by go_num, by rw [HG1.out, HG2.out, HG3.out]; exact tri3, oB⟩
            case measure => simp [intOf]; omega
        · obtain rfl : j = k := by omega
          rw [List.take_of_length_le (by rw [HM.out]; exact Nat.le_refl _)] at tri
          obtain ⟨A4, c4, rfl, r4⟩ := Gen.own_slice tri.oa
          obtain ⟨A5, c5, rfl, r5⟩ := Gen.own_slice tri.ob
          obtain ⟨A6, c6, rfl, r6⟩ := Gen.own_slice tri.oc
          have p4 := votes_of_reads rfl r4
          have p5 := votes_of_reads rfl r5
          have p6 := votes_of_reads rfl r6
          have b1 := bld_le (g := gSome sd a) (c := 1) (fun i v => by unfold gSome; split <;> simp) vs 0
          have b2 := bld_le (g := gNone sd) (c := 1) (fun i v => by unfold gNone; split <;> simp) vs 0
          have b3 := twice_length HL.out
          rw [HM.out] at b1 b2 b3
          have hr := okT_rgt hok.out
          have HO1 := Lib.hid (okT_len hok.out (rgt_sub (some_sub (s := sd) (last := a)) hr))
          have HO2 := Lib.hid (okT_len hok.out (rgt_sub (show (bld (gNone sd) 0 vs).Sublist vs from by rw [none_is HL.out]; exact List.filter_sublist) hr))
          have HO3 := Lib.hid (okT_len hok.out (twice_right HL.out hr (by rw [HM.out]; omega)))
          have HY1 := Lib.hid (show yesR zs (lastV n u (bld (gSome sd a) 0 vs)) = Y from by rw [last_some HL.out]; exact HY.out)
          have HY3 := Lib.hid (show yesR zs (lastV n u (bld (gTwice a) 0 vs)) = Y from by rw [last_twice HL.out]; exact HY.out)
          obtain ⟨Bn, hBn⟩ : ∃ Bn, yesR zs (lastV n u (bld (gNone sd) 0 vs)) = Bn := ⟨_, rfl⟩
          have hB0 := yesR_in (lastV n u (bld (gNone sd) 0 vs)) (okT_all hok.out).1
          rw [hBn, HT.out] at hB0
          obtain ⟨hB0, hB1⟩ := hB0
          obtain ⟨zz, hzz⟩ := at_ zs sd (by rw [HN.out]; exact hsn)
          obtain ⟨zz0, zz1⟩ := goodU_in (List.all_eq_true.1 (okT_all hok.out).1 zz (mem_of_at hzz))
          have hyn := yes_none (u := u) HL.out (i := sd) rfl (show (zs.length : Int) = n from by rw [HN.out]) hzz
          rw [HY.out, hBn] at hyn
          have HYN := Lib.hid hyn
          have HBn := Lib.hid hBn
          have HZ := Lib.hid hzz
          have v4 := v3.keep hB
          have z4 := z3.keep hB
          clear hyn hBn hzz hr tri r4 r5 r6 v3 z3
          go_wp2_with (fail)
          go_must (refine (tally_is _ HN.out z4 h rfl p4 (by omega) HO1.out HY1.out HT.out).mono ?_)
          rintro e w4 ⟨rfl, hb4⟩
          have k4 := Gen.over hb4 hB
          replace z4 := z4.keep hb4
          replace v4 := v4.keep hb4
          replace p5 := p5.keep hb4
          replace p6 := p6.keep hb4
          clear hb4 hB p4
          go_wp2_with (fail)
          go_must (refine (tally_is _ HN.out z4 h rfl p5 (by omega) HO2.out HBn.out HT.out).mono ?_)
          rintro e w5 ⟨rfl, hb5⟩
          have k5 := Gen.over hb5 k4
          replace z4 := z4.keep hb5
          replace v4 := v4.keep hb5
          replace p6 := p6.keep hb5
          clear hb5 k4 p5
          go_wp2_with (fail)
          go_must (refine (tally_is _ HN.out z4 h rfl p6 (by omega) HO3.out HY3.out HT.out).mono ?_)
          rintro e w6 ⟨rfl, hb6⟩
          have k6 := Gen.over hb6 k5
          replace z4 := z4.keep hb6
          replace v4 := v4.keep hb6
          have hB6 : Below w.heap.size w w6 := hB3.trans (k6.mono y3)
          clear hb6 k5 p6 k6 hB3 b1 b2 b3
          obtain ⟨bz, oz, rfl, hcz⟩ := z4 (by rw [HN.out]; omega)
          have cz := hcz sd zz HZ.out
          have n0 : (0 : Int) ≤ (sd : Int) := by omega
          have n1 : (sd : Int) < (n : Int) := by omega
          clear hcz z4
          rcases HYN.out with ⟨h3, h4⟩ | ⟨kk, v, h3, h4, h5⟩
          · obtain rfl : Y = Bn := h4
            have h3' : a < 0 := by omega
            clear h3
            go_wp2
            go_ret
            exact ⟨rfl, hB6⟩
          · have hkk : kk < j := by
              have := (List.getElem?_eq_some_iff.1 h4).1
              rwa [HM.out] at this
            obtain rfl : a = (kk : Int) := h3
            obtain ⟨b, off, rfl, hcell⟩ := v4 (by rw [HM.out]; omega)
            obtain ⟨c0, c1, c2⟩ := hcell kk v h4
            have q6 : (if (kk : Int) < 0 then (0 : Int) else kk) = kk := if_neg (by omega)
            obtain ⟨s, d, y⟩ := v
            dsimp only at c0 c1 c2 h5
            clear hcell h4
            cases y
            · obtain rfl : Y = Bn := by simpa using h5
              clear h5
              go_wp2
              go_ret
              exact ⟨rfl, hB6⟩
            · obtain rfl : Y = Bn + zz := by simpa using h5
              clear h5
              go_wp2
              go_ret
              exact ⟨rfl, hB6⟩

theorem lastw_any (A : Option Addr) (cap : Nat) (zs : List Int) (A' : Option Addr) (cap' : Nat) (vs : List V) (u z : Int) (w : World) (hc : Ints w A zs) (x0 : zs.length ≤ 9223372036854775807) (hc' : Votes w A' vs) (x1 : vs.length ≤ 9223372036854775807) (z0 : 0 ≤ z ∧ z ≤ 255) :
    Calls Try.prog 9 #[.slice A zs.length cap, .slice A' vs.length cap', .int .i64 u, .int .u8 z] w fun e w' => e = .returned (.bool true) ∧ Below w.heap.size w w' := by
  by_cases h1 : zs.length ≤ 40
  case neg => exact lastw_a A _ cap zs A' _ cap' vs u z w rfl hc rfl hc' (by omega)
  by_cases h2 : vs.length ≤ 60
  case neg => exact lastw_b A _ cap zs A' _ cap' vs u z w rfl hc rfl hc' h1 (by omega)
  cases hok : okT zs vs
  case false => exact lastw_c A _ cap zs A' _ cap' vs u z w rfl hc rfl hc' h1 h2 hok
  by_cases h3 : zs.length = 0
  case pos => exact lastw_d A _ cap zs A' _ cap' vs u z w rfl hc rfl hc' h3 h2 hok
  exact lastw_f A _ cap zs A' _ cap' vs u z w rfl hc rfl hc' h1 (by omega) h2 hok z0.1 z0.2
end Go.Proofs.Ytblegaclcpoonaa.Vote
