/- Big integers: results are kept; fit. -/
import Derived.Test.YtnifkianjpjahaaDoorBgF
import Derived.Deep.RegionHeld3
namespace Go.Proofs.YtnifkianjpjahaaDoor.Bg
open Go.ChangeShapes Go.WideShapes Go.ChangeAt Go.RowKit Go.Proofs.YtnifkianjpjahaaDoor.Cell
set_option linter.unusedVariables false
set_option linter.unusedSimpArgs false

theorem Fit.of_len {z : Int} {l : List Int} (h : Nm l z.natAbs) (hl : l.length ≤ 60) : Fit z := (Fit.len h).1 hl
theorem IsBig.fit {w : World} {v : Value} {z : Int} (h : IsBig w v z) : Fit z := by
  obtain ⟨A, c, l, _, _, h2, h3⟩ := h.ex
  exact Fit.of_len h2 h3
/-- digits do not lie where there are zeros alone -/
theorem ints_off {W W' : World} {A : Option Addr} {l : List Int} {z : Int} {g t : Nat} {cs : Array Value} (h : Ints W A l) (hl : Nm l z) (r : Row W g t cs) (h0 : ∀ (j : Nat) (x : Int), cs[j]? = some (Value.int .i64 x) → x = 0)
    (hk : ∀ b o : Nat, b ≠ g → W'.cell? ⟨b, o, none⟩ = W.cell? ⟨b, o, none⟩) : Ints W' A l := fun hp => by
  obtain ⟨b, off, e, hc⟩ := h hp
  have hb : b ≠ g := by
    rintro rfl
    obtain ⟨x, hx⟩ := at_ l (l.length - 1) (by omega)
    have h1 := hc _ x hx
    rw [r.cell] at h1
    have h2 := h0 _ x h1
    have h3 := hl.2.1
    unfold Tr at h3
    rw [List.getLast?_eq_getElem?, hx, h2] at h3
    exact h3 rfl
  exact ⟨b, off, e, fun j x hx => (hk b _ hb).trans (hc j x hx)⟩
theorem IsBig.off {W W' : World} {v : Value} {z : Int} {g t : Nat} {cs : Array Value} (h : IsBig W v z) (r : Row W g t cs) (h0 : ∀ (j : Nat) (x : Int), cs[j]? = some (Value.int .i64 x) → x = 0)
    (hk : ∀ b o : Nat, b ≠ g → W'.cell? ⟨b, o, none⟩ = W.cell? ⟨b, o, none⟩) : IsBig W' v z := by
  obtain ⟨A, c, l, e, h1, h2, h3⟩ := h.ex
  exact ⟨A, c, l, e, ints_off h1 h2 r h0 hk, h2, h3⟩
theorem zero2 : ∀ (j : Nat) (x : Int), (#[Value.int .i64 0, .slice none 0 0] : Array Value)[j]? = some (Value.int .i64 x) → x = 0
  | 0, x, h => by
    have : (0 : Int) = x := by simpa using h
    omega
  | 1, x, h => by simp at h
  | j + 2, x, h => by simp at h
/-- both cells of a result are written -/
theorem set2_keep (W : World) (g : Nat) (u v : Value) : ∀ b o : Nat, b ≠ g → ((W.setCell ⟨g, 0, none⟩ u).setCell ⟨g, 1, none⟩ v).cell? ⟨b, o, none⟩ = W.cell? ⟨b, o, none⟩ := fun b o hb => by
  rw [World.cell?_setCell_other _ _ _ _ (fun e => hb (by injection e with e1; exact e1.symm)), World.cell?_setCell_other _ _ _ _ (fun e => hb (by injection e with e1; exact e1.symm))]
/-- a result's cells -/
structure Res (w W : World) (g : Nat) : Prop where
  row : Row W g 24 #[.int .i64 0, .slice none 0 0]
  bl : Below w.heap.size w W
  lo : w.heap.size ≤ g
theorem Res.new {w W : World} (h : Below w.heap.size w W) : Res w (W.alloc (.cells #[.int .i64 0, .slice none 0 0] 24)) W.heap.size := ⟨Row.new _ _ _, Gen.b_alloc h, h.size⟩
theorem Res.keep {w W W' : World} {g : Nat} (h : Res w W g) (hb : Below W.heap.size W W') : Res w W' g := ⟨h.row.keep hb, Gen.over hb h.bl, h.lo⟩
theorem Res.c0 {w W : World} {g : Nat} (h : Res w W g) : W.cell? ⟨g, 0, none⟩ = some (.int .i64 0) := h.row.cell 0
theorem Res.c1 {w W : World} {g : Nat} (h : Res w W g) : W.cell? ⟨g, 1, none⟩ = some (.slice none 0 0) := h.row.cell 1
theorem Res.put {w W : World} {g : Nat} (h : Res w W g) (u v : Value) : Below w.heap.size w ((W.setCell ⟨g, 0, none⟩ u).setCell ⟨g, 1, none⟩ v) := (h.bl.setCell (p := ⟨g, 0, none⟩) h.lo u).setCell (p := ⟨g, 1, none⟩) h.lo v
theorem Res.big {w W : World} {g : Nat} {x : Value} {z : Int} (h : Res w W g) (hx : IsBig W x z) (u v : Value) : IsBig ((W.setCell ⟨g, 0, none⟩ u).setCell ⟨g, 1, none⟩ v) x z := hx.off h.row zero2 (set2_keep W g u v)
set_option maxRecDepth 100000 in
set_option maxHeartbeats 4000000 in
theorem fit_any {s z : Int} {A : Option Addr} {n c : Nat} {l : List Int} (w : World) (hn : l.length = n) (hc : Ints w A l) (hl : Nm l z.natAbs) (hbig : n ≤ 1000) (hs : z ≠ 0 → s = sg z) :
    Calls Tryd.prog 27 #[.int .i64 s, .slice A n c] w fun e w' => ∃ v, e = .returned (.tuple #[v, .int .i64 (fe z)]) ∧ IsBig w' v (fz z) ∧ Below w.heap.size w w' := by
  have HR0 := Lib.hid (Res.new (Below.refl w.heap.size w))
  by_cases h60 : n ≤ 60
  · have hf : Fit z := Fit.of_len hl (by omega)
    rw [fz_yes hf, fe_yes hf]
    have h60I : ¬ ((60 : Int) < (n : Int)) := by omega
    go_enter Tryd.func27, Tryd.ntmps27
    go_wp2_with (fail)
    go_must (refine (signed_any _ hn (hc.keep (Gen.b_alloc (Below.refl _ _))) hl h60 hs).mono ?_)
    rintro e w2 ⟨v, rfl, hv, hb2⟩
    obtain ⟨A3, c3, l3, rfl, _⟩ := hv.ex
    have HR := Lib.hid (HR0.out.keep hb2)
    have HV := Lib.hid hv
    have d0 := HR.out.c0
    have d1 := HR.out.c1
    have f0 := HR.out.row.frozen 0
    have f1 := HR.out.row.frozen 1
    have hg := HR.out.row.lt
    clear hn hc hl hs hf hb2 hv HR0
    go_wp2
    refine bodyPost_ret (v := .tuple #[bigV (sg z) A3 l3.length c3, .int .i64 0]) ?_ rfl ⟨_, rfl, HR.out.big HV.out _ _, HR.out.put _ _⟩
    simp [results, Tryd.results27, go_sem, *]
  · have hf : ¬ Fit z := fun h => h60 (by rw [← hn]; exact (Fit.len hl).2 h)
    rw [fz_no hf, fe_no hf]
    have h60I : (60 : Int) < (n : Int) := by omega
    clear hn hc hl hs hf
    go_enter Tryd.func27, Tryd.ntmps27
    go_wp2
    refine bodyPost_ret (v := .tuple #[zeroV, .int .i64 6]) ?_ rfl ⟨_, rfl, IsBig.zero _, by go_grown⟩
    simp [results, Tryd.results27, go_sem]
end Go.Proofs.YtnifkianjpjahaaDoor.Bg
