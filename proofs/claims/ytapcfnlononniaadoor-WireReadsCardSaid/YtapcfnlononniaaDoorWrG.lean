/- Wire: values, their kinds, and writing them. -/
import Derived.Test.YtapcfnlononniaaDoorWrF
namespace Go.Proofs.YtapcfnlononniaaDoor.Wr
open Go.Lib Go.ChangeShapes Go.WideShapes Go.ChangeAt Go.RowKit Go.Proofs.YtapcfnlononniaaDoor.Cell
set_option linter.unusedVariables false
set_option linter.unusedSimpArgs false
/-- a value to write -/
structure Vl where
  kd : Int
  n : Int
  s : List UInt8
  L : List Int
  T : List (List UInt8)
/-- how a value lies in memory: its five cells -/
def vcs (v : Vl) (A : Option Addr) (c : Nat) (A' : Option Addr) (c' : Nat) : Array Value := #[.int .i64 v.kd, .int .i64 v.n, .string ⟨v.s.toArray⟩, .slice A v.L.length c, .slice A' v.T.length c']
/-- a value whose parts are small enough -/
structure Sm (v : Vl) : Prop where
  k : I64 v.kd
  n : I64 v.n
  s : v.s.length ≤ 400
  L : v.L.length ≤ 400
  Li : ∀ x ∈ v.L, I64 x
  T : v.T.length ≤ 400
  Ts : ∀ x ∈ v.T, x.length ≤ 400
def kdv (k : Int) : Int := if Int.tmod k 5 < 0 then Int.tmod k 5 + 5 else Int.tmod k 5
theorem tm5 (k : Int) : -5 < Int.tmod k 5 ∧ Int.tmod k 5 < 5 := ⟨Int.lt_tmod_of_pos k (by decide), Int.tmod_lt_of_pos k (by decide)⟩
theorem kdv_in (k : Int) : 0 ≤ kdv k ∧ kdv k ≤ 4 := by
  unfold kdv
  have h := tm5 k
  split <;> omega
def nbr (n : Int) : Int := if n < 0 then -(n + 1) else n
theorem nbr_in {n : Int} (h : I64 n) : I64 (nbr n) ∧ 0 ≤ nbr n := by
  unfold nbr I64 at *
  split <;> omega
/-- the encoding of a value -/
def encV (v : Vl) : List UInt8 := if kdv v.kd = 0 then encI (nbr v.n) else if kdv v.kd = 1 then encI v.n else if kdv v.kd = 2 then encT v.s else if kdv v.kd = 3 then encL encI v.L else encL encT v.T
section
variable {w W : World} {v : Vl} {A A' : Option Addr} {c c' : Nat}
set_option maxRecDepth 100000 in
set_option maxHeartbeats 4000000 in
theorem number_any {n : Int} (h : I64 n) : Calls Tryd.prog 57 #[.int .i64 n] W fun e w' => e = .returned (.int .i64 (nbr n)) ∧ w' = W := by
  unfold I64 at h
  by_cases h0 : n < 0
  · have HE := Lib.hid (show nbr n = -(n + 1) from if_pos h0)
    have hw1 : IntKind.i64.wrap (n + 1) = n + 1 := IntWalk.i64_in _ (by omega)
    have hw2 : IntKind.i64.wrap (-(n + 1)) = -(n + 1) := IntWalk.i64_in _ (by omega)
    go_enter Tryd.func57, Tryd.ntmps57
    go_wp2
    go_ret
    exact ⟨by rw [HE.out]; rfl, rfl⟩
  · have HE := Lib.hid (show nbr n = n from if_neg h0)
    go_enter Tryd.func57, Tryd.ntmps57
    go_wp2
    go_ret
    exact ⟨by rw [HE.out]; rfl, rfl⟩
set_option maxRecDepth 100000 in
set_option maxHeartbeats 4000000 in
theorem kind_any (h : I64 v.kd) : Calls Tryd.prog 23 #[.agg (vcs v A c A' c')] W fun e w' => e = .returned (.int .i64 (kdv v.kd)) ∧ Below W.heap.size W w' := by
  unfold vcs
  obtain ⟨kd, n, s, L, T⟩ := v
  dsimp only at h ⊢
  unfold I64 at h
  go_enter Tryd.func23, Tryd.ntmps23
  have h5 := tm5 kd
  have HB := Lib.hid (show Below W.heap.size W (W.alloc (.cells #[.int .i64 kd, .int .i64 n, .string ⟨s.toArray⟩, .slice A L.length c, .slice A' T.length c'] 25)) from Gen.b_alloc (Below.refl _ _))
  go_upto_region 2 with (fail)
  obtain ⟨m, hm⟩ : ∃ m, kd.tmod 5 = m := ⟨_, rfl⟩
  have HM := Lib.hid hm
  rw [hm] at h5 ⊢
  clear hm
  by_cases h0 : m < 0
  · have hw : IntKind.i64.wrap (m + 5) = m + 5 := IntWalk.i64_in _ (by omega)
    have HE := Lib.hid (show kdv kd = m + 5 from by unfold kdv; rw [HM.out, if_pos h0])
    go_wp2
    go_ret
    exact ⟨by rw [HE.out]; rfl, HB.out⟩
  · have HE := Lib.hid (show kdv kd = m from by unfold kdv; rw [HM.out, if_neg h0])
    go_wp2
    go_ret
    exact ⟨by rw [HE.out]; rfl, HB.out⟩
theorem encI_len {n : Int} (h : I64 n) : (encI n).length ≤ 21 := by
  have := itoa_len h
  unfold encI
  rw [List.length_append]
  simp
  omega
theorem encT_len {l : List UInt8} (h : l.length ≤ 400) : (encT l).length ≤ 1000 := by
  have := itoa_len (n := (l.length : Int)) ⟨by omega, by omega⟩
  unfold encT
  simp
  omega
theorem encN_nbr {n : Int} (h : I64 n) : encN (nbr n) = encI (nbr n) := if_neg (by have := (nbr_in h).2; omega)
set_option maxRecDepth 100000 in
set_option maxHeartbeats 4000000 in
theorem write_any (h : Sm v) (hL : Ints W A v.L) (hT : Sts W A' v.T) (hE : En w W) : Calls Tryd.prog 42 #[.agg (vcs v A c A' c')] W fun e w' => e = .returned (.string ⟨(encV v).toArray⟩) ∧ Below W.heap.size W w' := by
  have HH := Lib.hid h
  have HL := Lib.hid hL
  have HT := Lib.hid hT
  have HE := Lib.hid hE
  have HK := Lib.hid (kdv_in v.kd)
  clear h hL hT hE
  have hB : Below W.heap.size W (W.alloc (.cells (vcs v A c A' c') 25)) := Gen.b_alloc (Below.refl _ _)
  have hR : Row (W.alloc (.cells (vcs v A c A' c') 25)) W.heap.size 25 (vcs v A c A' c') := Row.new _ _ _
  have hC := fun W' => kind_any (v := v) (A := A) (c := c) (A' := A') (c' := c') (W := W') HH.out.k
  unfold vcs at hB hR hC ⊢
  have HC := Lib.hid hC
  clear hC
  go_enter Tryd.func42, Tryd.ntmps42
  go_wp2_with (fail)
  go_must (refine (HC.out _).mono ?_)
  rintro e w1 ⟨rfl, hb1⟩
  have HB1 := Lib.hid (Gen.over hb1 hB)
  have HR1 := Lib.hid (hR.keep hb1)
  have HL1 := Lib.hid (HL.out.keep HB1.out)
  have HT1 := Lib.hid (HT.out.keep HB1.out)
  have HE1 := Lib.hid (HE.out.keep HB1.out)
  clear hb1 hB hR
  obtain ⟨K, hK⟩ : ∃ K, kdv v.kd = K := ⟨_, rfl⟩
  have HKd := Lib.hid hK
  rw [hK]
  have hKi : 0 ≤ K ∧ K ≤ 4 := hK ▸ HK.out
  clear hK
  dsimp only
  have r1 := HR1.out.cell 1
  have r2 := HR1.out.cell 2
  have r3 := HR1.out.cell 3
  have r4 := HR1.out.cell 4
  rcases (show K = 0 ∨ K = 1 ∨ K = 2 ∨ K = 3 ∨ K = 4 by omega) with rfl | rfl | rfl | rfl | rfl
  · have HX : Hid (encV v = encN (nbr v.n)) := Lib.hid (by unfold encV; rw [HKd.out, if_pos rfl, encN_nbr HH.out.n])
    go_wp2_with (fail)
    go_must (refine (number_any HH.out.n).mono ?_)
    rintro e w2 ⟨rfl, hw2⟩
    have hw2 := hw2.symm
    subst hw2
    dsimp only
    go_wp2_with (fail)
    go_must (refine (wnum_any (nbr_in HH.out.n).1 HE1.out.pt).mono ?_)
    rintro e w2 ⟨rfl, hb2⟩
    have HB2 := Lib.hid (Gen.over hb2 HB1.out)
    clear hb2
    dsimp only
    go_wp2
    go_ret
    exact ⟨by rw [HX.out]; rfl, HB2.out⟩
  · have HX : Hid (encV v = encI v.n) := Lib.hid (by unfold encV; rw [HKd.out, if_neg (by decide), if_pos rfl])
    go_wp2_with (fail)
    go_must (refine (wint_any HH.out.n HE1.out.pt).mono ?_)
    rintro e w2 ⟨rfl, hb2⟩
    have HB2 := Lib.hid (Gen.over hb2 HB1.out)
    clear hb2
    dsimp only
    go_wp2
    go_ret
    exact ⟨by rw [HX.out]; rfl, HB2.out⟩
  · have HX : Hid (encV v = encT v.s) := Lib.hid (by unfold encV; rw [HKd.out, if_neg (by decide), if_neg (by decide), if_pos rfl])
    go_wp2_with (fail)
    go_must (refine (wtext_any (by have := HH.out.s; omega) HE1.out.pt).mono ?_)
    rintro e w2 ⟨rfl, hb2⟩
    have HB2 := Lib.hid (Gen.over hb2 HB1.out)
    clear hb2
    dsimp only
    go_wp2
    go_ret
    exact ⟨by rw [HX.out]; rfl, HB2.out⟩
  · have HX : Hid (encV v = encL encI v.L) := Lib.hid (by unfold encV; rw [HKd.out, if_neg (by decide), if_neg (by decide), if_neg (by decide), if_pos rfl])
    go_wp2_with (fail)
    go_must (refine (wnums_any rfl HL1.out (fun x hx => by have := encI_len (HH.out.Li x hx); omega) HH.out.Li (by have := HH.out.L; omega) HE1.out).mono ?_)
    rintro e w2 ⟨rfl, hb2⟩
    have HB2 := Lib.hid (Gen.over hb2 HB1.out)
    clear hb2
    dsimp only
    go_wp2
    go_ret
    exact ⟨by rw [HX.out]; rfl, HB2.out⟩
  · have HX : Hid (encV v = encL encT v.T) := Lib.hid (by unfold encV; rw [HKd.out, if_neg (by decide), if_neg (by decide), if_neg (by decide), if_neg (by decide)])
    go_wp2_with (fail)
    go_must (refine (wtexts_any rfl HT1.out (fun x hx => Nat.le_trans (encT_len (HH.out.Ts x hx)) (by decide)) (fun x hx => by have := HH.out.Ts x hx; omega) (by have := HH.out.T; omega) HE1.out).mono ?_)
    rintro e w2 ⟨rfl, hb2⟩
    have HB2 := Lib.hid (Gen.over hb2 HB1.out)
    clear hb2
    dsimp only
    go_wp2
    go_ret
    exact ⟨by rw [HX.out]; rfl, HB2.out⟩
end
end Go.Proofs.YtapcfnlononniaaDoor.Wr
