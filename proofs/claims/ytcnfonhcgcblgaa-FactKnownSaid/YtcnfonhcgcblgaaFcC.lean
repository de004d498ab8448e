/- Facts: a map of facts by names in memory; latest. -/
import Derived.Test.YtcnfonhcgcblgaaFcB
import Derived.Maps.OwnSet
import Derived.Maps.OwnOps
import Derived.Maps.Views
import Derived.MapViews
import Derived.Maps.Range
import Derived.StringKeys
namespace Go.Proofs.Ytcnfonhcgcblgaa.Fc
open Go.Lib Go.ChangeShapes Go.WideShapes Go.ChangeAt Go.RowKit Go.Maps Go.Proofs.Ytcnfonhcgcblgaa.Cell Go.Proofs.Ytcnfonhcgcblgaa.Wd Go.Proofs.Ytcnfonhcgcblgaa.Rk
set_option linter.unusedVariables false
set_option linter.unusedSimpArgs false
theorem keyedS : Keyed Try.prog 9 := string_keyed Try.underlying9
/-- a fact as a value -/
def fvl (x : Fa) : Value := .agg #[.int .i64 x.is, .string ⟨x.nm.toArray⟩, .int .i64 x.pe, .int .i64 x.va, .int .i64 x.dy]
def dF (x : Fa) : DataW Unit := .agg [.lit (.int .i64 x.is), .lit (.string x.nm), .lit (.int .i64 x.pe), .lit (.int .i64 x.va), .lit (.int .i64 x.dy)]
theorem dF_inj {x y : Fa} (h : dF x = dF y) : x = y := by
  obtain ⟨a, b, c, d, e⟩ := x
  obtain ⟨a', b', c', d', e'⟩ := y
  simp [dF] at h
  obtain ⟨h1, h2, h3, h4, h5⟩ := h
  subst h1 h2 h3 h4 h5
  rfl
def RF : Value → Option (DataW Unit × List MemPlace)
  | .agg ⟨[.int .i64 i, .string s, .int .i64 p, .int .i64 v, .int .i64 d]⟩ => some (dF ⟨i, s.data.toList, p, v, d⟩, [])
  | _ => none
theorem rF_mk (x : Fa) : RF (fvl x) = some (dF x, []) := rfl
theorem rF_inv {v : Value} {z : DataW Unit × List MemPlace} (h : RF v = some z) : ∃ x, v = fvl x ∧ z.1 = dF x := by
  unfold RF at h
  split at h
  · rename_i i s p v d
    injection h with h
    subst h
    exact ⟨⟨i, s.data.toList, p, v, d⟩, rfl, rfl⟩
  · cases h
def zF : Fa := ⟨0, [], 0, 0, 0⟩
/-- a map of facts in memory: what it says of each name -/
def MF (w : World) (b n : Nat) (g : List UInt8 → Option Fa) : Prop := ∃ D, w.ownsMap (H := Unit) Try.prog 9 RF b n D ∧ ∀ nm : List UInt8, nm.length ≤ maxLen → has D (.string nm) = (g nm).isSome ∧ ∀ x, g nm = some x → ∀ z, D.atKey (.string nm) z = dF x
theorem map_keep {w w' : World} {b n : Nat} {k : TypeId} {R : Value → Option (DataW Unit × List MemPlace)} {D : DataW Unit} (h : w.ownsMap Try.prog k R b n D) (hb : w'.heap[b]? = w.heap[b]?) : w'.ownsMap Try.prog k R b n D := by
  obtain ⟨es, clock, h1, h2, h3, h4⟩ := h
  exact ⟨es, clock, hb.trans h1, h2, h3, h4⟩
theorem MF.lt {w : World} {b n : Nat} {g : List UInt8 → Option Fa} (h : MF w b n g) : b < w.heap.size := by
  obtain ⟨D, h1, _⟩ := h
  exact h1.lt
theorem MF.at {w w' : World} {b n : Nat} {g : List UInt8 → Option Fa} (h : MF w b n g) (hb : w'.heap[b]? = w.heap[b]?) : MF w' b n g := by
  obtain ⟨D, h1, h2⟩ := h
  exact ⟨D, map_keep h1 hb, h2⟩
theorem MF.keep {w w' : World} {b n : Nat} {g : List UInt8 → Option Fa} (h : MF w b n g) (hb : Below w.heap.size w w') : MF w' b n g := h.at (hb.block b h.lt)
theorem MF.more {w : World} {b n n' : Nat} {g : List UInt8 → Option Fa} (h : MF w b n g) (hn : n ≤ n') : MF w b n' g := by
  obtain ⟨D, h1, h2⟩ := h
  exact ⟨D, h1.mono hn, h2⟩
theorem zeroF (W : World) : (zeroValue 24).run Try.prog W = .ok (fvl zF) W := by
  simp [go_sem, fvl, zF]
theorem MF.made (w : World) : MF (w.alloc (.map #[] 0)) w.heap.size 0 (fun _ => none) :=
  ⟨.map [], World.ownsMap_made w Try.prog 9 RF, fun x hx => ⟨rfl, fun v hv => by cases hv⟩⟩
theorem keyS {nm : List UInt8} (h : nm.length ≤ maxLen) : keyOf Try.prog 9 (.string ⟨nm.toArray⟩) = some (.string nm) := by
  have := Go.WideMaps.keyOf_string_mk (s := ⟨nm.toArray⟩) Try.underlying9 (by simpa [ByteArray.size] using h)
  simpa using this
theorem MF.val {D : DataW Unit} {g : List UInt8 → Option Fa} {nm : List UInt8} (h : has D (.string nm) = (g nm).isSome ∧ ∀ x, g nm = some x → ∀ z, D.atKey (.string nm) z = dF x) : D.atKey (.string nm) (dF zF) = dF ((g nm).getD zF) := by
  cases hf : g nm with
  | none =>
    rw [hf] at h
    exact atKey_of_not_has (by rw [h.1]; rfl) _
  | some x => exact h.2 x hf _
/-- what is read of a name -/
theorem MF.look {w : World} {b n : Nat} {g : List UInt8 → Option Fa} (h : MF w b n g) {nm : List UInt8} (hl : nm.length ≤ maxLen) :
    (Instr.lookup 71 (.map (some b)) (.string ⟨nm.toArray⟩) false).run Try.prog w = .ok (fvl ((g nm).getD zF)) w := by
  obtain ⟨D, h1, h2⟩ := h
  obtain ⟨v, ps, hr, hc⟩ := h1.lookup keyedS Try.underlying71 (zeroF w) (rF_mk zF) (keyS hl)
  rw [hr]
  obtain ⟨y, rfl, hy⟩ := rF_inv hc
  dsimp only at hy
  rw [MF.val (h2 nm hl)] at hy
  rw [dF_inj hy]
theorem MF.look2 {w : World} {b n : Nat} {g : List UInt8 → Option Fa} (h : MF w b n g) {nm : List UInt8} (hl : nm.length ≤ maxLen) :
    (Instr.lookup 71 (.map (some b)) (.string ⟨nm.toArray⟩) true).run Try.prog w = .ok (.tuple #[fvl ((g nm).getD zF), .bool (g nm).isSome]) w := by
  obtain ⟨D, h1, h2⟩ := h
  obtain ⟨v, ps, hr, hc⟩ := h1.look_ok keyedS Try.underlying71 (zeroF w) (rF_mk zF) (keyS hl)
  rw [hr]
  obtain ⟨y, rfl, hy⟩ := rF_inv hc
  dsimp only at hy
  rw [MF.val (h2 nm hl)] at hy
  rw [dF_inj hy, (h2 nm hl).1]
theorem MF.put {w : World} {b n : Nat} {g : List UInt8 → Option Fa} (h : MF w b n g) (hn : n < maxLen) {nm : List UInt8} (hl : nm.length ≤ maxLen) (x : Fa) :
    ∃ w', (Instr.mapUpdate 71 (.map (some b)) (.string ⟨nm.toArray⟩) (fvl x)).run Try.prog w = .ok () w' ∧ MF w' b (n + 1) (fun y => if y = nm then some x else g y) ∧ w.grownBy w' (some b) := by
  obtain ⟨D, h1, h2⟩ := h
  obtain ⟨w', hr, hm, hg⟩ := h1.update keyedS Try.underlying71 hn (keyS hl) (rF_mk x)
  refine ⟨w', hr, ⟨_, hm, fun y hy => ?_⟩, hg⟩
  dsimp only
  by_cases e : y = nm
  · subst e
    rw [if_pos rfl, has_put_same h1.isMap (keyedS.key (keyS hl))]
    refine ⟨rfl, fun u hu => ?_⟩
    injection hu with hu
    subst hu
    exact fun z => atKey_put_same h1.isMap (keyedS.key (keyS hl)) _ _
  · have hne : (Lit.string y) ≠ Lit.string nm := fun c => e (by injection c)
    rw [if_neg e, has_put_other hne]
    obtain ⟨a1, a2⟩ := h2 y hy
    exact ⟨a1, fun u hu z => by rw [atKey_put_other hne]; exact a2 u hu z⟩
theorem MF.of_eq {w : World} {b n : Nat} {g g' : List UInt8 → Option Fa} (h : MF w b n g) (e : ∀ nm, g nm = g' nm) : MF w b n g' := by
  obtain rfl : g = g' := funext e
  exact h
theorem take_lat {l : List Fa} {k : Nat} {x : Fa} (h : l[k]? = some x) (i p d : Int) (n : List UInt8) : lat (l.take (k + 1)) i p d n = stF i p d n (lat (l.take k) i p d n) x := by
  rw [take_snoc h, lat_snoc]
set_option maxRecDepth 100000 in
set_option maxHeartbeats 8000000 in
theorem latest_any {w : World} {A : Option Addr} {n c : Nat} {l : List Fa} (i p d : Int) (hn : l.length = n) (hc : Rs fcs 5 w A l) (hbig : n ≤ 1000000) (hnm : ∀ x ∈ l, x.nm.length ≤ 1000000000) :
    Calls Try.prog 45 #[.slice A n c, .int .i64 i, .int .i64 p, .int .i64 d] w fun e w' => ∃ b, e = .returned (.map (some b)) ∧ MF w' b n (fun nm => lat l i p d nm) ∧ w.heap.size ≤ b ∧ Below w.heap.size w w' := by
  have HN := Lib.hid hn
  have HC := Lib.hid hc
  have HNM := Lib.hid hnm
  clear hn hc hnm
  have hmk := @run_makeMap Try.prog
  have h0 := MF.made w
  have hx0 : Below w.heap.size w (w.alloc (.map #[] 0)) := Gen.b_alloc (Below.refl _ _)
  obtain ⟨W1, hW1⟩ : ∃ W1, w.alloc (.map #[] 0) = W1 := ⟨_, rfl⟩
  obtain ⟨b, hb⟩ : ∃ b, w.heap.size = b := ⟨_, rfl⟩
  rw [hW1, hb] at h0
  rw [hW1] at hx0
  have HM0 := Lib.hid h0
  have HX0 := Lib.hid hx0
  have HBB := Lib.hid hb
  clear h0 hx0
  go_enter Try.func45, Try.ntmps45
  go_wp2_with (fail)
  clear hmk
  try rw [hW1]
  try rw [hb]
  clear hW1 hb
  go_loopw [17] (fun iv wr => ∃ k : Nat, k ≤ n ∧ iv = .int .i64 k ∧ Hid (MF wr b k (fun nm => lat (l.take k) i p d nm)) ∧ Hid (Below w.heap.size w wr)) (fun iv _ => n - (RowKit.intOf iv).toNat)
  case atStart => exact ⟨0, Nat.zero_le _, rfl, HM0, HX0⟩
  case round =>
    obtain ⟨k, hk, rfl, HM, HB⟩ := hrel
    have k0 : (0 : Int) ≤ (k : Int) := by omega
    by_cases hlt : k < n
    · have hltI : (k : Int) < (n : Int) := by omega
      obtain ⟨⟨xi, xn, xp, xv, xd⟩, hx⟩ := at_ l k (by rw [HN.out]; exact hlt)
      have hnx := HNM.out _ (mem_of_at hx)
      obtain ⟨g, off, rfl, hcell⟩ := (HC.out.keep HB.out) (by rw [HN.out]; omega)
      have c0 := hcell k _ hx 0 _ rfl
      have c1 := hcell k _ hx 1 _ rfl
      have c2 := hcell k _ hx 2 _ rfl
      have c3 := hcell k _ hx 3 _ rfl
      have c4 := hcell k _ hx 4 _ rfl
      dsimp only at c0 c1 c2 c3 c4 hnx
      rw [Nat.add_zero] at c0
      have hx2 : Below wr.heap.size wr (wr.alloc (.cells #[.int .i64 xi, .string ⟨xn.toArray⟩, .int .i64 xp, .int .i64 xv, .int .i64 xd] 24)) := Gen.b_alloc (Below.refl _ _)
      have HB2 := Lib.hid (Gen.over hx2 HB.out)
      have HM2 := Lib.hid (HM.out.keep hx2)
      have HT := Lib.hid (fun nm => take_lat hx i p d nm)
      have hno : cnt i p d ⟨xi, xn, xp, xv, xd⟩ = false → Hid (MF (wr.alloc (.cells #[.int .i64 xi, .string ⟨xn.toArray⟩, .int .i64 xp, .int .i64 xv, .int .i64 xd] 24)) b (k + 1) (fun nm => lat (l.take (k + 1)) i p d nm)) := fun h => Lib.hid ((HM2.out.more (Nat.le_succ k)).of_eq (fun nm => by rw [HT.out]; unfold stF; rw [h, if_neg (by simp)]))
      clear hcell hx hlt hx2
      by_cases q1 : xi = i
      · by_cases q2 : xd ≤ d
        · by_cases q3 : xp ≤ p
          · have hcn : cnt i p d ⟨xi, xn, xp, xv, xd⟩ = true := by unfold cnt; simp [q1, q2, q3]
            have hq1 : (xi != i) = false := by simp [q1]
            have hq2 : ¬ (d < xd) := by omega
            have hq3 : ¬ (p < xp) := by omega
            have hlk := HM2.out.look2 (nm := xn) (by simp only [maxLen]; omega)
            have hw1 := (HM2.out.keep (Gen.b_alloc (x := (.cells (fcs ((lat (l.take k) i p d xn).getD zF)).toArray 24)) (Below.refl _ _)))
            obtain ⟨gk, hgk⟩ : ∃ gk, lat (l.take k) i p d xn = gk := ⟨_, rfl⟩
            rw [hgk] at hlk hw1
            have HGK := Lib.hid hgk
            have HCN := Lib.hid hcn
            clear hno hgk q1 q2 q3 hcn
            cases gk with
            | none =>
              obtain ⟨w3, hrun, hm3, hg3⟩ := hw1.put (nm := xn) (by simp only [maxLen]; omega) (by simp only [maxLen]; omega) ⟨xi, xn, xp, xv, xd⟩
              have HM3 : Hid (MF w3 b (k + 1) (fun nm => lat (l.take (k + 1)) i p d nm)) := Lib.hid (hm3.of_eq (fun nm => by
                rw [HT.out]
                unfold stF
                by_cases e : nm = xn
                · subst e
                  rw [if_pos rfl, if_pos ⟨HCN.out, rfl⟩, HGK.out]
                · rw [if_neg e, if_neg (fun c => e c.2.symm)]))
              have HB3 := Lib.hid (Below.grown (Gen.over (Gen.b_alloc (x := (.cells (fcs (Option.getD none zF)).toArray 24)) (Below.refl _ _)) HB2.out) hg3 (by have := (Gen.over (Gen.b_alloc (x := (.cells (fcs (Option.getD none zF)).toArray 24)) (Below.refl _ _)) HB2.out).size; exact this) (fun q e => by injection e with e; have := HBB.out; omega))
              clear hm3 hg3 hw1
              simp only [Option.getD_none, Option.isSome_none, fvl, zF, fcs] at hlk hrun
              go_wp2
              go_roundw
              case rel => exact ⟨k + 1, by omega, by go_num, HM3, HB3⟩
              case measure => simp [RowKit.intOf]; omega
            | some y =>
              obtain ⟨yi, yn, yp, yv, yd⟩ := y
              simp only [Option.getD_some, Option.isSome_some] at hlk hw1
              by_cases hyp : yp ≤ xp
              · obtain ⟨w3, hrun, hm3, hg3⟩ := hw1.put (nm := xn) (by simp only [maxLen]; omega) (by simp only [maxLen]; omega) ⟨xi, xn, xp, xv, xd⟩
                have HM3 : Hid (MF w3 b (k + 1) (fun nm => lat (l.take (k + 1)) i p d nm)) := Lib.hid (hm3.of_eq (fun nm => by
                  rw [HT.out]
                  unfold stF
                  by_cases e : nm = xn
                  · subst e
                    rw [if_pos rfl, if_pos ⟨HCN.out, rfl⟩, HGK.out]
                    dsimp only
                    rw [if_pos hyp]
                  · rw [if_neg e, if_neg (fun c => e c.2.symm)]))
                have HB3 := Lib.hid (Below.grown (Gen.over (Gen.b_alloc (x := (.cells (fcs ⟨yi, yn, yp, yv, yd⟩).toArray 24)) (Below.refl _ _)) HB2.out) hg3 (by have := (Gen.over (Gen.b_alloc (x := (.cells (fcs ⟨yi, yn, yp, yv, yd⟩).toArray 24)) (Below.refl _ _)) HB2.out).size; exact this) (fun q e => by injection e with e; have := HBB.out; omega))
                clear hm3 hg3 hw1
                simp only [fvl, fcs] at hlk hrun
                go_wp2
                go_roundw
                case rel => exact ⟨k + 1, by omega, by go_num, HM3, HB3⟩
                case measure => simp [RowKit.intOf]; omega
              · have HM3 : Hid (MF ((wr.alloc (.cells #[.int .i64 xi, .string ⟨xn.toArray⟩, .int .i64 xp, .int .i64 xv, .int .i64 xd] 24)).alloc (.cells #[.int .i64 yi, .string ⟨yn.toArray⟩, .int .i64 yp, .int .i64 yv, .int .i64 yd] 24)) b (k + 1) (fun nm => lat (l.take (k + 1)) i p d nm)) := Lib.hid ((hw1.more (Nat.le_succ k)).of_eq (fun nm => by
                  rw [HT.out]
                  unfold stF
                  by_cases e : nm = xn
                  · subst e
                    rw [if_pos ⟨HCN.out, rfl⟩, HGK.out]
                    dsimp only
                    rw [if_neg hyp]
                  · rw [if_neg (fun c => e c.2.symm)]))
                have HB3 := Lib.hid (Gen.over (Gen.b_alloc (x := (.cells #[.int .i64 yi, .string ⟨yn.toArray⟩, .int .i64 yp, .int .i64 yv, .int .i64 yd] 24)) (Below.refl _ _)) HB2.out)
                clear hw1
                simp only [fvl] at hlk
                go_wp2
                go_roundw
                case rel => exact ⟨k + 1, by omega, by go_num, HM3, HB3⟩
                case measure => simp [RowKit.intOf]; omega
          · have HM3 := hno (by unfold cnt; simp [q3])
            have hq1 : (xi != i) = false := by simp [q1]
            have hq2 : ¬ (d < xd) := by omega
            have hq3 : p < xp := by omega
            clear hno q1
            go_wp2
            go_roundw
            case rel => exact ⟨k + 1, by omega, by go_num, HM3, HB2⟩
            case measure => simp [RowKit.intOf]; omega
        · have HM3 := hno (by unfold cnt; simp [q2])
          have hq1 : (xi != i) = false := by simp [q1]
          have hq2 : d < xd := by omega
          clear hno q1
          go_wp2
          go_roundw
          case rel => exact ⟨k + 1, by omega, by go_num, HM3, HB2⟩
          case measure => simp [RowKit.intOf]; omega
      · have HM3 := hno (by unfold cnt; simp [q1])
        have hq1 : (xi != i) = true := by simp [q1]
        clear hno
        go_wp2
        go_roundw
        case rel => exact ⟨k + 1, by omega, by go_num, HM3, HB2⟩
        case measure => simp [RowKit.intOf]; omega
    · obtain rfl : n = k := by omega
      have HE := Lib.hid (show MF wr b n (fun nm => lat l i p d nm) by have h := HM.out; rw [List.take_of_length_le (by rw [HN.out]; exact Nat.le_refl _)] at h; exact h)
      clear hlt HM
      go_wp2
      go_ret
      exact ⟨b, rfl, HE.out, by rw [← HBB.out]; exact Nat.le_refl _, HB.out⟩
end Go.Proofs.Ytcnfonhcgcblgaa.Fc
