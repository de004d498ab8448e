/- Facts: the names that are known, sorted; Known. -/
import Derived.Test.YtcnfonhcgcblgaaFcG
import Derived.Test.YtcnfonhcgcblgaaFcK
namespace Go.Proofs.Ytcnfonhcgcblgaa.Fc
open Go.Lib Go.ChangeShapes Go.WideShapes Go.ChangeAt Go.RowKit Go.Maps Go.Proofs.Ytcnfonhcgcblgaa.Cell Go.Proofs.Ytcnfonhcgcblgaa.Wd Go.Proofs.Ytcnfonhcgcblgaa.Rk
set_option linter.unusedVariables false
set_option linter.unusedSimpArgs false
theorem infoI : (Try.prog.info? 3).map (fun i => (i.zero, i.size, i.bytes)) = some (some (.int .i64 0), 1, 8) := by kernel_rfl
def st1 (x : List UInt8) : List Value := [.string ⟨x.toArray⟩]
def in1 (x : Int) : List Value := [.int .i64 x]
theorem st1_flat (l : List (List UInt8)) : l.map encStr = l.flatMap st1 := by
  induction l with
  | nil => rfl
  | cons x l ih => rw [List.map_cons, List.flatMap_cons, ih]; rfl
/-- the names of a map, sorted -/
theorem MF.keys {w : World} {b n : Nat} {g : List UInt8 → Option Fa} (h : MF w b n g) (hn : n ≤ 1000000) :
    Calls Try.prog 47 #[.func (.func 67) #[] #[.pointer (some ⟨w.heap.size, 0, none⟩)]] (w.alloc (.cells #[.map (some b)] 71)) fun e w' => ∃ (A : Option Addr) (c : Nat) (ks : List (List UInt8)), e = .returned (.slice A ks.length c) ∧
      ks.Pairwise (· < ·) ∧ (∀ x, x ∈ ks ↔ x.length ≤ maxLen ∧ (g x).isSome = true) ∧ ks.length ≤ n ∧ Rs st1 1 w' A ks ∧ Below w.heap.size w w' := by
  obtain ⟨D, h1, h2⟩ := h
  have hsz : Maps.size D ≤ n := h1.size_le
  refine (Try.sorted_s b n D _ w h1 (by simp only [maxLen]; omega) (by omega)).mono ?_
  rintro e w' ⟨v, ss, rfl, hp, hrow, hnil, hb⟩
  obtain ⟨es, hD, hpw, _⟩ := h1.entries keyedS
  obtain ⟨es', hD', hko⟩ := h1.keysOf
  obtain rfl : es = es' := by rw [hD] at hD'; simpa using hD'
  have hks : ∀ p ∈ es, ∃ x, p.1 = .string x := fun p hp => by
    obtain ⟨v, hv⟩ := hko p hp
    obtain ⟨x, _, hx, _⟩ := Maps.keyOf_str Try.underlying9 hv
    exact ⟨x, hx⟩
  have hmem : ∀ x, x ∈ strKeys D ↔ x.length ≤ maxLen ∧ (g x).isSome = true := fun x => by
    have hh : x ∈ strKeys D ↔ has D (.string x) = true := by
      rw [hD, has_eq, List.any_eq_true]
      show x ∈ es.map (fun p => strOf p.1) ↔ _
      rw [List.mem_map]
      constructor
      · rintro ⟨p, hp', rfl⟩
        obtain ⟨a, ha⟩ := hks p hp'
        exact ⟨p, hp', by rw [ha]; simp [Lit.sameKey, strOf]⟩
      · rintro ⟨p, hp', hs⟩
        obtain ⟨a, ha⟩ := hks p hp'
        rw [ha] at hs
        exact ⟨p, hp', by rw [ha]; simpa [Lit.sameKey, strOf] using hs⟩
    constructor
    · intro hx
      have hl := strKeys_le h1 Try.underlying9 x hx
      exact ⟨hl, by rw [← (h2 x hl).1]; exact hh.1 hx⟩
    · rintro ⟨hl, hs⟩
      exact hh.2 (by rw [(h2 x hl).1]; exact hs)
  have hnd : (strKeys D).Nodup := by
    rw [hD]
    show (es.map fun p => strOf p.1).Nodup
    refine List.pairwise_map.2 (hpw.imp_of_mem fun {p q} hp' hq' hne e => hne ?_)
    obtain ⟨a, ha⟩ := hks p hp'
    obtain ⟨b, hb⟩ := hks q hq'
    rw [ha, hb] at e ⊢
    exact congrArg _ e
  have hpm : (ss.mergeSort (fun x y => decide (x ≤ y))).Perm (strKeys D) := (List.mergeSort_perm ss _).trans hp
  have hlen : (ss.mergeSort (fun x y => decide (x ≤ y))).length = ss.length := (List.mergeSort_perm ss _).length_eq
  have hlk : (strKeys D).length = Maps.size D := by rw [hD]; simp [strKeys, Maps.size]
  have hsl : ss.length ≤ n := by rw [hp.length_eq, hlk]; exact hsz
  obtain ⟨A, c, hv, _⟩ := Gen.own_slice hrow
  subst hv
  have hb2 : Below w.heap.size w w' := Gen.over (a := w) (W := w.alloc (.cells #[.map (some b)] 71)) (by rw [World.size_alloc]; exact hb) (Gen.b_alloc (Below.refl _ _))
  rw [st1_flat] at hrow
  refine ⟨A, c, ss.mergeSort (fun x y => decide (x ≤ y)), by rw [hlen], ?_, fun x => ?_, by rw [hlen]; exact hsl, rs_own (f := st1) (K := 1) (fun _ => rfl) hlen hrow, hb2⟩
  · have tr : ∀ a b c : List UInt8, (decide (a ≤ b)) = true → (decide (b ≤ c)) = true → (decide (a ≤ c)) = true := fun a b c h1 h2 => by simp only [decide_eq_true_eq] at *; exact List.le_trans h1 h2
    have tot : ∀ a b : List UInt8, (decide (a ≤ b) || decide (b ≤ a)) = true := fun a b => by simp only [Bool.or_eq_true, decide_eq_true_eq]; exact List.le_total a b
    have h3 := List.pairwise_mergeSort tr tot ss
    have h4 : (ss.mergeSort (fun x y => decide (x ≤ y))).Nodup := (hpm.nodup_iff).2 hnd
    refine (List.Pairwise.and h3 h4).imp ?_
    intro a b hab
    have h5 := hab.1
    simp only [decide_eq_true_eq] at h5
    rcases Decidable.em (a < b) with h6 | h6
    · exact h6
    · exact absurd (List.le_antisymm h5 (List.not_lt.1 h6)) hab.2
  · rw [hpm.mem_iff]
    exact hmem x
/-- what is known of names, by their order -/
def vals (l : List Fa) (i p d : Int) (ks : List (List UInt8)) : List Int := ks.map fun x => vI (valF l i x p d)
theorem vals_next {l : List Fa} {i p d : Int} {ks : List (List UInt8)} {k : Nat} {x : List UInt8} (h : ks[k]? = some x) : (vals l i p d (ks.take (k + 1))).flatMap in1 = (vals l i p d (ks.take k)).flatMap in1 ++ [.int .i64 (vI (valF l i x p d))] := by
  rw [take_snoc h]
  simp [vals, in1]
theorem run_field (i : Int) (n : List UInt8) (p v d : Int) (W : World) : (Instr.field 24 (.agg #[.int .i64 i, .string ⟨n.toArray⟩, .int .i64 p, .int .i64 v, .int .i64 d]) 3).run Try.prog W = .ok (.int .i64 v) W := by
  kernel_rfl
/-- what Known returns -/
def KnQ (w : World) (l : List Fa) (i p d : Int) (e : Ending) (w' : World) : Prop := ∃ (A B : Option Addr) (c c2 : Nat) (ks : List (List UInt8)), e = .returned (.tuple #[.slice A ks.length c, .slice B ks.length c2]) ∧
  ks.Pairwise (· < ·) ∧ (∀ x, x ∈ ks ↔ x.length ≤ maxLen ∧ (valF l i x p d).isSome = true) ∧ ks.length ≤ l.length ∧ Rs st1 1 w' A ks ∧ Rs in1 1 w' B (vals l i p d ks) ∧ Below w.heap.size w w'
set_option maxRecDepth 100000 in
set_option maxHeartbeats 8000000 in
theorem fKnown_any {w : World} {A : Option Addr} {n c : Nat} {l : List Fa} (i p d : Int) (hn : l.length = n) (hc : Rs fcs 5 w A l) (hbig : n ≤ 1000000) (hnm : ∀ x ∈ l, x.nm.length ≤ 1000000000) :
    Calls Try.prog 18 #[.slice A n c, .int .i64 i, .int .i64 p, .int .i64 d] w (KnQ w l i p d) := by
  obtain ⟨iI, hiI, hzI, hyI, hxI⟩ := info_parts' infoI
  have HR := Lib.hid (fRight_any (c := c) hn hc (by omega) hnm)
  have HL := Lib.hid (fun (w1 : World) (h1 : Below w.heap.size w w1) => latest_any (c := c) i p d hn (hc.keep h1) hbig hnm)
  have HN := Lib.hid hn
  clear hn hc hnm
  go_enter Try.func18, Try.ntmps18
  go_wp2_with (fail)
  go_must (refine (HR.out).mono ?_)
  rintro e w1 ⟨rfl, hb1⟩
  cases hrg : rgF l with
  | false =>
    have HE := Lib.hid (show KnQ w l i p d (.returned (.tuple #[.slice none 0 0, .slice none 0 0])) w1 from ⟨none, none, 0, 0, [], rfl, List.Pairwise.nil, fun x => by unfold valF; rw [hrg]; simp, Nat.zero_le _, Rs.nil _ _, Rs.nil _ _, hb1⟩)
    clear hb1 HR HL hrg
    go_wp2
    exact bodyPost_ret (v := .tuple #[.slice none 0 0, .slice none 0 0]) (by simp [results, Try.results18, go_sem]) rfl HE.out
  | true =>
    have HVL := Lib.hid (show ∀ x, valF l i x p d = lat l i p d x from fun x => by unfold valF; rw [if_pos hrg])
    have HL1 := Lib.hid (HL.out w1 hb1)
    have HB1 := Lib.hid hb1
    clear HR HL hrg hb1
    go_wp2_with (fail)
    go_must (refine (HL1.out).mono ?_)
    rintro e w2 ⟨b, rfl, hm2, _, hb2⟩
    have HB2 := Lib.hid (Gen.over hb2 HB1.out)
    have HM := Lib.hid hm2
    have HK := Lib.hid (hm2.keys hbig)
    clear hb2 hm2 HL1 HB1
    go_wp2_with (fail)
    go_must (refine (Try.keys_s (some b) w2).mono ?_)
    rintro e w3 ⟨rfl, rfl⟩
    go_wp2_with (fail)
    go_must (refine (HK.out).mono ?_)
    rintro e w3 ⟨A3, c3, ks, rfl, hp, hmem, hlen, hrow, hb⟩
    have HB3 := Lib.hid (Gen.over hb HB2.out)
    have HM3 := Lib.hid (HM.out.keep hb)
    obtain ⟨q, hq⟩ : ∃ q, ks.length = q := ⟨_, rfl⟩
    simp only [hq] at hlen ⊢
    have HQ := Lib.hid hq
    have HI := Lib.hid hrow
    have HP := Lib.hid hp
    have HMEM := Lib.hid hmem
    have HLEN := Lib.hid hlen
    have hq1 : q ≤ 1000000 := by omega
    clear hrow hb HM HK hq hp hmem hlen HB2
    go_wp2_with (fail)
    go_loopw [28, 12] (fun iv lv wr => ∃ (k : Nat) (Ao : Option Addr) (co : Nat), k ≤ q ∧ iv = .int .i64 k ∧ lv = .slice Ao k co ∧ Hid (wr.ownsRow w3.heap.size 3 1 (.slice Ao k co) k ((vals l i p d (ks.take k)).flatMap in1)) ∧ Hid (Below w3.heap.size w3 wr)) (fun iv _ _ => q - (RowKit.intOf iv).toNat)
    case atStart => exact ⟨0, none, 0, Nat.zero_le _, rfl, rfl, Lib.hid ⟨rfl, .inl ⟨rfl, rfl⟩⟩, Lib.hid (Below.refl _ _)⟩
    case round =>
      obtain ⟨k, Ao, co, hk, rfl, rfl, HO, HB⟩ := hrel
      have k0 : (0 : Int) ≤ (k : Int) := by omega
      by_cases hlt : k < q
      · have hltI : (k : Int) < (q : Int) := by omega
        obtain ⟨x, hx⟩ := at_ ks k (by rw [HQ.out]; exact hlt)
        obtain ⟨g, off, rfl, hcell⟩ := (HI.out.keep HB.out) (by rw [HQ.out]; omega)
        have c0 := hcell k x hx 0 _ rfl
        rw [Nat.mul_one, Nat.add_zero] at c0
        have hl := (HM3.out.keep HB.out).look ((HMEM.out x).1 (mem_of_at hx)).1
        have HX := Lib.hid hx
        obtain ⟨⟨yi, yn, yp, yv, yd⟩, hy⟩ : ∃ y, (lat l i p d x).getD zF = y := ⟨_, rfl⟩
        have hv : vI (valF l i x p d) = yv := by rw [HVL.out, ← latest_field, hy]
        rw [hy] at hl
        simp only [fvl] at hl
        have HV := Lib.hid hv
        have hfd := fun W : World => run_field yi yn yp yv yd W
        have N1 := Lib.hid (show k + 1 ≤ maxLen by simp only [maxLen]; omega)
        have N2 := Lib.hid (show (k + 1) * 8 ≤ 140737488355328 by omega)
        clear hcell hx hv hy
        go_wp2_with (first
          | (at_builtin
             go_must (refine App.wpList_append_any _ rfl (.tmp 32) (.tmp 37) _ rfl w3.heap.size 3 iI _ 1 8 Try.underlying33 hiI hzI hyI hxI rfl (by omega) (.slice Ao k co) k ((vals l i p d (ks.take k)).flatMap in1) rfl (Gen.own_keep HO.out (Gen.b_alloc (Below.refl _ _))) _ _ 1 1 [.int .i64 yv] rfl (Gen.reads_blk (by simp) rfl) (by simp [Value.oneCell']) N1.out N2.out (Nat.le_trans HB.out.size (Gen.b_alloc (Below.refl _ _)).size) ?_
                      intro v7 w7 ho7 hg7 ha7
                      have hx7 : Below wr.heap.size wr (wr.alloc (.cells #[.int .i64 yv] 3)) := Gen.b_alloc (Below.refl _ _)
                      have HB7 := Lib.hid (Gen.g_below (w := w3) (Gen.own_keep HO.out hx7) hg7 (Gen.over hx7 HB.out) (Nat.le_refl _))
                      obtain ⟨A7, c7, rfl, _⟩ := Gen.own_slice ho7
                      have HO7 := Lib.hid (show w7.ownsRow w3.heap.size 3 1 (.slice A7 (k + 1) c7) (k + 1) ((vals l i p d (ks.take (k + 1))).flatMap in1) by rw [vals_next HX.out, HV.out]; exact ho7)
                      clear ho7 hg7 ha7 hx7))
          | fail)
        go_roundw
        case rel => exact ⟨k + 1, A7, c7, by omega, by go_num, rfl, HO7, HB7⟩
        case measure => simp [RowKit.intOf]; omega
      · obtain rfl : q = k := by omega
        have HE := Lib.hid (show KnQ w l i p d (.returned (.tuple #[.slice A3 q c3, .slice Ao q co])) wr from by
          have ho := HO.out
          rw [List.take_of_length_le (by rw [HQ.out]; exact Nat.le_refl _)] at ho
          exact ⟨A3, Ao, c3, co, ks, by rw [HQ.out], HP.out, fun x => by rw [HVL.out]; exact HMEM.out x, by rw [HQ.out, HN.out]; exact HLEN.out, HI.out.keep HB.out, rs_own (f := in1) (K := 1) (fun _ => rfl) (by unfold vals; rw [List.length_map]; exact HQ.out) ho, Gen.over HB.out HB3.out⟩)
        clear hlt HO
        go_wp2
        exact bodyPost_ret (v := .tuple #[.slice A3 q c3, .slice Ao q co]) (by simp [results, Try.results18, go_sem]) rfl HE.out
end Go.Proofs.Ytcnfonhcgcblgaa.Fc
