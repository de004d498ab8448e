/- Facts: Value, clones, Restated. -/
import Derived.Test.YtcnfonhcgcblgaaFcC
import Derived.Test.YtcnfonhcgcblgaaRsL
import Derived.WalkSpells
import Derived.BigRegion
import Derived.Deep.RegionHeld3
namespace Go.Proofs.Ytcnfonhcgcblgaa.Fc
open Go.Lib Go.ChangeShapes Go.WideShapes Go.ChangeAt Go.RowKit Go.Maps Go.Proofs.Ytcnfonhcgcblgaa.Cell Go.Proofs.Ytcnfonhcgcblgaa.Wd Go.Proofs.Ytcnfonhcgcblgaa.Rk
set_option linter.unusedVariables false
set_option linter.unusedSimpArgs false
theorem infoF : (Try.prog.info? 24).map (fun i => (i.zero, i.size, i.bytes)) = some (some (fvl zF), 5, 48) := by kernel_rfl
theorem info_parts' {P : Program} {t : TypeId} {v : Value} {n m : Nat} (h : (P.info? t).map (fun i => (i.zero, i.size, i.bytes)) = some (some v, n, m)) : ∃ i, P.info? t = some i ∧ i.zero = some v ∧ i.size = n ∧ i.bytes = m := by
  cases hi : P.info? t with
  | none => rw [hi] at h; cases h
  | some i =>
    rw [hi] at h
    injection h with h
    injection h with h1 h2
    injection h2 with h2 h3
    exact ⟨i, rfl, h1, h2, h3⟩
theorem fcs5 (x : Fa) : (fcs x).length = 5 := rfl
theorem latest_field {g : Option Fa} : (g.getD zF).va = vI g := by cases g <;> rfl
set_option maxRecDepth 100000 in
set_option maxHeartbeats 4000000 in
theorem fValue_any {w : World} {A : Option Addr} {n c : Nat} {l : List Fa} (i p d : Int) {nm : List UInt8} (hn : l.length = n) (hc : Rs fcs 5 w A l) (hbig : n ≤ 1000000) (hnm : ∀ x ∈ l, x.nm.length ≤ 1000000000) (hl : nm.length ≤ 1000000000) :
    Calls Try.prog 16 #[.slice A n c, .int .i64 i, .string ⟨nm.toArray⟩, .int .i64 p, .int .i64 d] w fun e w' => e = .returned (.tuple #[.int .i64 (vI (valF l i nm p d)), .bool (valF l i nm p d).isSome]) ∧ Below w.heap.size w w' := by
  have HR := Lib.hid (fRight_any (c := c) hn hc (by omega) hnm)
  have HL := Lib.hid (fun (w1 : World) (h1 : Below w.heap.size w w1) => latest_any (c := c) i p d hn (hc.keep h1) hbig hnm)
  obtain ⟨R, hR⟩ : ∃ R, rgF l = R := ⟨_, rfl⟩
  obtain ⟨o, ho⟩ : ∃ o, valF l i nm p d = o := ⟨_, rfl⟩
  rw [ho]
  unfold valF at ho
  rw [hR] at HR ho
  clear hR hn hc hnm
  go_enter Try.func16, Try.ntmps16
  go_wp2_with (fail)
  go_must (refine (HR.out).mono ?_)
  rintro e w1 ⟨rfl, hb1⟩
  have HL1 := Lib.hid (HL.out w1 hb1)
  clear HR HL
  cases R with
  | false =>
    rw [if_neg (by decide)] at ho
    subst ho
    go_wp2
    exact bodyPost_ret (v := .tuple #[.int .i64 0, .bool false]) (by simp [results, Try.results16, go_sem]) rfl ⟨rfl, hb1⟩
  | true =>
    rw [if_pos rfl] at ho
    go_wp2_with (fail)
    go_must (refine (HL1.out).mono ?_)
    rintro e w2 ⟨b, rfl, hm2, _, hb2⟩
    have hlk := hm2.look2 (nm := nm) (by simp only [maxLen]; omega)
    rw [ho] at hlk
    obtain ⟨⟨yi, yn, yp, yv, yd⟩, hy⟩ : ∃ y, o.getD zF = y := ⟨_, rfl⟩
    have hv : vI o = yv := by rw [← latest_field, hy]
    rw [hy] at hlk
    have hB2 := Gen.over hb2 hb1
    simp only [fvl] at hlk
    have HV := Lib.hid hv
    clear HL1 hm2 ho hy hv hb1 hb2
    obtain ⟨z, hz⟩ : ∃ z, o.isSome = z := ⟨_, rfl⟩
    rw [hz] at hlk
    have HZ := Lib.hid hz
    clear hz
    go_wp2
    exact bodyPost_ret (v := .tuple #[.int .i64 yv, .bool z]) (by simp [results, Try.results16, go_sem]) rfl ⟨by rw [HV.out, HZ.out], by first | exact Gen.b_alloc hB2 | (have := hB2; go_grown)⟩
theorem own_new (w : World) (e : TypeId) (size : Nat) : (w.alloc (.cells #[] e)).ownsRow w.heap.size e size (.slice (some ⟨w.heap.size, 0, none⟩) 0 0) 0 [] :=
  ⟨by simp, .inr ⟨w.heap.size, 0, #[], rfl, Nat.le_refl _, heap_alloc_new w _, Nat.le_refl _, by simp [maxLen], by simp, by simp⟩⟩
set_option maxRecDepth 100000 in
set_option maxHeartbeats 2000000 in
theorem clone_f {w : World} {A : Option Addr} {n cap : Nat} {l : List Fa} (hm : l.length = n) (hc : Rs fcs 5 w A l) (hbig : n ≤ 1000000) :
    Calls Try.prog 43 #[.slice A n cap] w fun e w' => ∃ A2 c2, e = .returned (.slice A2 n c2) ∧ w'.ownsRow w.heap.size 24 5 (.slice A2 n c2) n (l.flatMap fcs) ∧ Below w.heap.size w w' := by
  have hr := rs_reads fcs5 (by omega) hm hc
  have HM := Lib.hid hm
  clear hm hc
  have hq := fun (W : World) => Lib.run_eql_slice_nil (P := Try.prog) W 22 24 A n cap 0 0 Try.underlying22
  cases A with
  | none =>
    obtain rfl : n = 0 := by
      by_cases h0 : 0 < n
      · obtain ⟨_, e, _⟩ := hr.2 h0
        cases e
      · omega
    obtain rfl : l = [] := List.length_eq_zero_iff.1 HM.out
    go_enter Try.func43, Try.ntmps43
    go_wp2
    go_ret
    exact ⟨none, 0, rfl, ⟨rfl, .inl ⟨rfl, rfl⟩⟩, Below.refl _ _⟩
  | some ad =>
    obtain ⟨i0, hi0, hz0, hz1, hz2⟩ := info_parts' infoF
    have hown := own_new w 24 5
    go_enter Try.func43, Try.ntmps43
    go_wp2_with (first
      | (at_builtin
         go_must (refine App.wpList_append_any _ rfl (.tmp 5) (.tmp 6) _ rfl w.heap.size 24 i0 _ 5 48 Try.underlying22 hi0 hz0 hz1 hz2 rfl (by omega) _ 0 [] rfl hown w.heap.size _ n cap (l.flatMap fcs) rfl (hr.alloc (Nat.le_refl _) _) (fcs_one l) (by simp only [maxLen]; omega) (by omega) (by simp) ?_)
         intro v2 w2 hown2 hg2 hat2
         have hB2 := Gen.g_below hown hg2 (Gen.b_alloc (Below.refl _ _)) (Nat.le_refl _)
         rw [List.nil_append, Nat.zero_add] at hown2
         obtain ⟨A2, c2, rfl, _⟩ := Gen.own_slice hown2
         clear hg2 hat2)
      | fail)
    go_ret
    exact ⟨A2, c2, rfl, hown2, hB2⟩
section
variable {α : Type}
/-- the first one that fits -/
def idx (p : α → Bool) (l : List α) : Int := match l.findIdx? p with
  | some i => i
  | none => -1
theorem idx_yes {p : α → Bool} {l : List α} {k : Nat} {x : α} (h : ∀ y ∈ l.take k, p y = false) (hx : l[k]? = some x) (hp : p x = true) : idx p l = k := by
  unfold idx
  have hk := (List.getElem?_eq_some_iff.1 hx).1
  have : l.findIdx? p = some k := by
    rw [List.findIdx?_eq_some_iff_getElem]
    refine ⟨hk, by rw [(List.getElem?_eq_some_iff.1 hx).2]; exact hp, fun j hj => ?_⟩
    have := h l[j] (List.mem_of_getElem? (i := j) (by rw [List.getElem?_take_of_lt hj]; exact List.getElem?_eq_getElem (by omega)))
    simp [this]
  rw [this]
theorem idx_no {p : α → Bool} {l : List α} (h : ∀ y ∈ l, p y = false) : idx p l = -1 := by
  unfold idx
  rw [List.findIdx?_eq_none_iff.2 h]
theorem idx_any_ (p : α → Bool) (l : List α) : decide (0 ≤ idx p l) = l.any p := by
  unfold idx
  cases h : l.findIdx? p with
  | none =>
    rw [List.findIdx?_eq_none_iff] at h
    have : l.any p = false := by rw [List.any_eq_false]; exact fun x hx => by simp [h x hx]
    rw [this]; rfl
  | some i =>
    rw [List.findIdx?_eq_some_iff_getElem] at h
    obtain ⟨hi, hp, _⟩ := h
    have : l.any p = true := by rw [List.any_eq_true]; exact ⟨_, List.getElem_mem hi, hp⟩
    rw [this]
    exact decide_eq_true (by simp)
theorem idx_in (p : α → Bool) (l : List α) : -1 ≤ idx p l ∧ idx p l < l.length := by
  unfold idx
  cases h : l.findIdx? p with
  | none => exact ⟨by simp, (by dsimp only; omega)⟩
  | some i =>
    rw [List.findIdx?_eq_some_iff_getElem] at h
    obtain ⟨hi, hp, _⟩ := h
    exact ⟨by first | omega | simp, by first | omega | (simp; omega)⟩
theorem take_snoc' {l : List α} {k : Nat} {x : α} (h : l[k]? = some x) : l.take (k + 1) = l.take k ++ [x] := by
  rw [List.take_add_one, h]; rfl
end
/-- a fact like another: same issuer, name and period -/
def lk3 (f g : Fa) : Bool := decide (g.is = f.is) && decide (g.nm = f.nm) && decide (g.pe = f.pe)
theorem rst_eq (l : List Fa) (f : Fa) : rst l f = l.any (lk3 f) := rfl
theorem lk3_eq (fi fp fv fd xi xp xv xd : Int) (fn xn : List UInt8) : lk3 ⟨fi, fn, fp, fv, fd⟩ ⟨xi, xn, xp, xv, xd⟩ = (decide (xi = fi) && decide (xn = fn) && decide (xp = fp)) := rfl
/-- a fact in memory, of its own -/
def FA (w : World) (g : Nat) (x : Fa) : Prop := ∀ (r : Nat) v, (fcs x)[r]? = some v → w.cell? ⟨g, r, none⟩ = some v
theorem FA.keep {w w1 : World} {g : Nat} {x : Fa} (h : FA w g x) (hb : Below w.heap.size w w1) : FA w1 g x := fun r v hv => keep0 hb _ _ _ (h r v hv)
set_option maxRecDepth 100000 in
set_option maxHeartbeats 4000000 in
theorem cl_f {w : World} {g : Nat} {f : Fa} (hg : FA w g f) (x : Fa) :
    Calls Try.prog 50 #[.agg #[.int .i64 x.is, .string ⟨x.nm.toArray⟩, .int .i64 x.pe, .int .i64 x.va, .int .i64 x.dy], .pointer (some ⟨g, 0, none⟩)] w fun e w' => e = .returned (.bool (lk3 f x)) ∧ Below w.heap.size w w' := by
  obtain ⟨fi, fn, fp, fv, fd⟩ := f
  obtain ⟨xi, xn, xp, xv, xd⟩ := x
  have hE := Lib.hid (lk3_eq fi fp fv fd xi xp xv xd fn xn)
  obtain ⟨R, hR⟩ : ∃ R, lk3 ⟨fi, fn, fp, fv, fd⟩ ⟨xi, xn, xp, xv, xd⟩ = R := ⟨_, rfl⟩
  rw [hR] at hE ⊢
  have g0 := hg 0 _ rfl
  have g1 := hg 1 _ rfl
  have g2 := hg 2 _ rfl
  dsimp only at g0 g1 g2
  have hlt : g < w.heap.size := World.block_lt_of_cell? w _ g0
  clear hg hR
  by_cases h1 : xi = fi
  · have q1 : (xi == fi) = true := by simp [h1]
    by_cases h2 : xn = fn
    · have q2 : (xn == fn) = true := by simp [h2]
      by_cases h3 : xp = fp
      · have q3 : (xp == fp) = true := by simp [h3]
        obtain rfl : R = true := by rw [hE.out]; simp [h1, h2, h3]
        clear hE h1 h2 h3
        go_enter Try.func50, Try.ntmps50
        go_wp2
        go_ret
        exact ⟨rfl, by first | exact Gen.b_alloc (Below.refl _ _) | go_grown⟩
      · have q3 : (xp == fp) = false := by simp [h3]
        obtain rfl : R = false := by rw [hE.out]; simp [h1, h2, h3]
        clear hE h1 h2 h3
        go_enter Try.func50, Try.ntmps50
        go_wp2
        go_ret
        exact ⟨rfl, by first | exact Gen.b_alloc (Below.refl _ _) | go_grown⟩
    · have q2 : (xn == fn) = false := by simp [h2]
      obtain rfl : R = false := by rw [hE.out]; simp [h1, h2]
      clear hE h1 h2
      go_enter Try.func50, Try.ntmps50
      go_wp2
      go_ret
      exact ⟨rfl, by first | exact Gen.b_alloc (Below.refl _ _) | go_grown⟩
  · have q1 : (xi == fi) = false := by simp [h1]
    obtain rfl : R = false := by rw [hE.out]; simp [h1]
    clear hE h1
    go_enter Try.func50, Try.ntmps50
    go_wp2
    go_ret
    exact ⟨rfl, by first | exact Gen.b_alloc (Below.refl _ _) | go_grown⟩
set_option maxRecDepth 100000 in
set_option maxHeartbeats 4000000 in
theorem idx_f {w : World} {A : Option Addr} {n cap : Nat} {l : List Fa} (hn : l.length = n) (hc : Rs fcs 5 w A l) (hbig : n ≤ 1000000) {g : Nat} {f : Fa} (hg : FA w g f) :
    Calls Try.prog 68 #[.slice A n cap, .func (Fn.func 50) #[] #[.pointer (some ⟨g, 0, none⟩)]] w fun e w' => e = .returned (.int .i64 (idx (lk3 f) l)) ∧ Below w.heap.size w w' := by
  have HN := Lib.hid hn
  have HC := Lib.hid hc
  have HG := Lib.hid hg
  clear hn hc hg 
  go_enter Try.func68, Try.ntmps68
  go_wp2
  go_loopw [8] (fun iv wr => ∃ k : Nat, k ≤ n ∧ iv = .int .i64 k ∧ Hid (∀ y ∈ l.take k, (lk3 f) y = false) ∧ Below w.heap.size w wr) (fun iv _ => n - (intOf iv).toNat)
  case atStart => exact ⟨0, Nat.zero_le _, rfl, Lib.hid (by simp), Below.refl _ _⟩
  case round =>
    obtain ⟨k, hk, rfl, HA, hB⟩ := hrel
    by_cases hlt : k < n
    · obtain ⟨b0, off, rfl, hcell⟩ := (HC.out.keep hB) (by rw [HN.out]; omega)
      obtain ⟨⟨xi, xn, xp, xv, xd⟩, hx⟩ := at_ l k (by rw [HN.out]; exact hlt)
      have m0 := hcell k _ hx 0 _ rfl
      have m1 := hcell k _ hx 1 _ rfl
      have m2 := hcell k _ hx 2 _ rfl
      have m3 := hcell k _ hx 3 _ rfl
      have m4 := hcell k _ hx 4 _ rfl
      dsimp only at m0 m1 m2 m3 m4
      rw [Nat.add_zero] at m0
      have HX := Lib.hid hx
      have HL := Lib.hid (cl_f (HG.out.keep hB) ⟨xi, xn, xp, xv, xd⟩)
      clear hcell hx
      go_wp2_with (fail)
      go_must (refine (HL.out).mono ?_)
      rintro e w1 ⟨rfl, hb⟩
      have hB1 := Gen.over hb hB
      clear hb hB HL
      cases hp : (lk3 f) ⟨xi, xn, xp, xv, xd⟩
      · have HF : Hid (∀ y ∈ l.take (k + 1), (lk3 f) y = false) := Lib.hid (fun y hy => by
          rw [take_snoc' HX.out, List.mem_append] at hy
          rcases hy with hy | hy
          · exact HA.out y hy
          · rw [List.mem_singleton.1 hy]; exact hp)
        clear hp
        go_wp2
        go_roundw
        case rel => first | exact ⟨k + 1, by omega, by go_num, HF, hB1⟩ | exact ⟨k + 1, by omega, by go_num, HF⟩
        case measure => simp [intOf]; omega
      · have HF := Lib.hid (idx_yes HA.out HX.out hp)
        clear hp
        go_wp2
        go_ret
        exact ⟨ret_int HF.out.symm, hB1⟩
    · obtain rfl : k = n := by omega
      have HF := Lib.hid (idx_no (p := lk3 f) (l := l) (fun y hy => HA.out y (by rw [List.take_of_length_le (by rw [HN.out]; exact Nat.le_refl _)]; exact hy)))
      go_wp2
      go_ret
      exact ⟨ret_int HF.out.symm, hB⟩
set_option maxHeartbeats 1000000 in
theorem cont_f {w : World} {A : Option Addr} {n cap : Nat} {l : List Fa} (hn : l.length = n) (hc : Rs fcs 5 w A l) (hbig : n ≤ 1000000) {g : Nat} {f : Fa} (hg : FA w g f) :
    Calls Try.prog 49 #[.slice A n cap, .func (Fn.func 50) #[] #[.pointer (some ⟨g, 0, none⟩)]] w fun e w' => e = .returned (.bool (l.any (lk3 f))) ∧ Below w.heap.size w w' := by
  have HI := Lib.hid (idx_any_ (lk3 f) l)
  obtain ⟨h1, h2⟩ := idx_in (lk3 f) l
  have HC := Lib.hid (idx_f (cap := cap) hn hc hbig hg)
  obtain ⟨i, hi⟩ : ∃ i, idx (lk3 f) l = i := ⟨_, rfl⟩
  rw [hi] at HI HC h1 h2
  rw [hn] at h2
  clear hi hn hc hg 
  go_enter Try.func49, Try.ntmps49
  go_wp2_with (fail)
  go_must (refine (HC.out).mono ?_)
  rintro e w1 ⟨rfl, hb⟩
  go_wp2
  go_ret
  exact ⟨ret_bool HI.out, hb⟩
set_option maxHeartbeats 2000000 in
theorem fRestated_any {w : World} {A : Option Addr} {n c : Nat} {l : List Fa} (hn : l.length = n) (hc : Rs fcs 5 w A l) (hbig : n ≤ 1000000) (f : Fa) :
    Calls Try.prog 25 #[.slice A n c, .agg #[.int .i64 f.is, .string ⟨f.nm.toArray⟩, .int .i64 f.pe, .int .i64 f.va, .int .i64 f.dy]] w fun e w' => e = .returned (.bool (rst l f)) ∧ Below w.heap.size w w' := by
  have hb1 : Below w.heap.size w (w.alloc (.cells (fcs f).toArray 24)) := Gen.b_alloc (Below.refl _ _)
  have HF : FA (w.alloc (.cells (fcs f).toArray 24)) w.heap.size f := fun r v hv => by
    have := (Row.new w 24 (fcs f).toArray).cell r
    rw [this]
    simpa using hv
  have HC := Lib.hid (cont_f (cap := c) hn (hc.keep hb1) hbig HF)
  rw [rst_eq]
  have HB := Lib.hid hb1
  clear hn hc HF hb1
  obtain ⟨fi, fn, fp, fv, fd⟩ := f
  simp only [fcs] at HC HB
  go_enter Try.func25, Try.ntmps25
  go_wp2_with (fail)
  go_must (refine (HC.out).mono ?_)
  rintro e w2 ⟨rfl, hb2⟩
  go_wp2
  go_ret
  exact ⟨rfl, Gen.over hb2 HB.out⟩
end Go.Proofs.Ytcnfonhcgcblgaa.Fc
