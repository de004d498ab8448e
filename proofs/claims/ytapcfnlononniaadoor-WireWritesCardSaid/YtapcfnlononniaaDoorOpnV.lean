/- A value of wire, opened; what one encoding that begins with another one says. -/
import Derived.Test.YtapcfnlononniaaDoorOpnW
namespace Go.Proofs.YtapcfnlononniaaDoor.Wr
open Go.ChangeShapes Go.WideShapes Go.ChangeAt Go.RowKit Go.Deep Go.Proofs.YtapcfnlononniaaDoor.Opened Go.Proofs.YtapcfnlononniaaDoor.Cell
set_option linter.unusedVariables false
section
variable {H : Type} {enc : TypeId × Value → H} {W : World} {b0 : Nat} {r : Reach}
theorem one_at {α : Type} {l : List α} {i : Nat} (h : i < l.length) : (l.drop i).take 1 = [l[i]] := by
  rw [List.drop_eq_getElem_cons h, List.take_succ_cons, List.take_zero]
set_option maxRecDepth 100000 in
theorem open_val {v : Value} {d : DataW H} {p : List MemPlace} (hv : Value.okWide Tryd.prog W r b0 25 v) (h : DataW.Trod enc Tryd.prog W 0 (fun _ => true) true 25 v d p) :
    ∃ (x : Vl) (A : Option Addr) (c : Nat) (A' : Option Addr) (c' : Nat), v = .agg (vcs x A c A' c') ∧ Ints W A x.L ∧ Sts W A' x.T ∧ Wv x := by
  obtain ⟨cs, rfl, hsz⟩ := okWide_struct Tryd.underlying25 hv
  rw [cellsV] at hsz
  obtain ⟨fuel, hf⟩ := h
  obtain ⟨xs, n, _, _, hl, hlen, hF⟩ := DataW.trod_struct Tryd.underlying25 hf
  have hlen' : xs.length = 5 := hlen
  have hcs : (Value.agg cs).cells = cs := rfl
  rw [hcs] at hF
  obtain ⟨l⟩ := cs
  have hl5 : l.length = 5 := hsz
  obtain ⟨v0, v1, v2, v3, v4, rfl⟩ : ∃ a b c d e, l = [a, b, c, d, e] := by
    match l, hl5 with
    | [a, b, c, d, e], _ => exact ⟨a, b, c, d, e, rfl⟩
  obtain ⟨y0, y1, y2, y3, y4, rfl⟩ : ∃ a b c d e, xs = [a, b, c, d, e] := by
    match xs, hlen' with
    | [a, b, c, d, e], _ => exact ⟨a, b, c, d, e, rfl⟩
  have t0 : DataW.trod enc Tryd.prog W 0 (fun _ => true) true n 3 [v0] = some y0 := hF 0 _ rfl
  have t1 : DataW.trod enc Tryd.prog W 0 (fun _ => true) true n 3 [v1] = some y1 := hF 1 _ rfl
  have t2 : DataW.trod enc Tryd.prog W 0 (fun _ => true) true n 9 [v2] = some y2 := hF 2 _ rfl
  have t3 : DataW.trod enc Tryd.prog W 0 (fun _ => true) true n 22 [v3] = some y3 := hF 3 _ rfl
  have t4 : DataW.trod enc Tryd.prog W 0 (fun _ => true) true n 23 [v4] = some y4 := hF 4 _ rfl
  obtain ⟨x0, e0, _, w0⟩ := DataW.trod_int Tryd.underlying3 t0
  obtain ⟨x1, e1, _, w1⟩ := DataW.trod_int Tryd.underlying3 t1
  obtain ⟨x2, e2, _, _⟩ := DataW.trod_string Tryd.underlying9 t2
  obtain ⟨A3, q3, z3, e3, hb3, hl3⟩ := ints_of t3
  obtain ⟨A4, q4, z4, e4, hb4⟩ := sts_of t4
  simp at e0 e1 e2
  subst e0 e1 e2 e3 e4
  exact ⟨⟨x0, x1, x2.data.toList, z3, z4⟩, A3, q3, A4, q4, by unfold vcs; rw [← str_list], hb3, hb4, i64_of w0, i64_of w1, hl3⟩
end
theorem some_eq {α : Type} {a b : α} {t u : List UInt8} {o : Option (α × List UInt8)} (h : o = some (a, t)) (h' : o = some (b, u)) : t = u := by
  rw [h] at h'
  injection h' with h'
  injection h'
theorem pre_nil {v w : Vl} (hv : Sm v) (hw : Sm w) (hk : kdv v.kd = kdv w.kd) {t : List UInt8} (h : encV w = encV v ++ t) : t = [] := by
  unfold encV at h
  rw [← hk] at h
  by_cases k0 : kdv v.kd = 0
  · rw [if_pos k0, if_pos k0] at h
    obtain ⟨N, hN⟩ : ∃ N : Nat, nbr v.n = N := ⟨(nbr v.n).toNat, by have := (nbr_in hv.n).2; omega⟩
    obtain ⟨M, hM⟩ : ∃ M : Nat, nbr w.n = M := ⟨(nbr w.n).toNat, by have := (nbr_in hw.n).2; omega⟩
    have i1 := (nbr_in hv.n).1.2
    have i2 := (nbr_in hw.n).1.2
    have a := num_back (n := N) (by omega) t
    have b := num_back (n := M) (by omega) []
    rw [hN, hM] at h
    rw [List.append_nil, h] at b
    exact some_eq a b
  · rw [if_neg k0, if_neg k0] at h
    by_cases k1 : kdv v.kd = 1
    · rw [if_pos k1, if_pos k1] at h
      have a := int_back hv.n t
      have b := int_back hw.n []
      rw [List.append_nil, h] at b
      exact some_eq a b
    · rw [if_neg k1, if_neg k1] at h
      by_cases k2 : kdv v.kd = 2
      · rw [if_pos k2, if_pos k2] at h
        have a := text_back (l := v.s) (by have := hv.s; omega) t
        have b := text_back (l := w.s) (by have := hw.s; omega) []
        rw [List.append_nil, h] at b
        exact some_eq a b
      · rw [if_neg k2, if_neg k2] at h
        by_cases k3 : kdv v.kd = 3
        · rw [if_pos k3, if_pos k3] at h
          have a := nums_back (vs := v.L) (by have := hv.L; omega) hv.Li t
          have b := nums_back (vs := w.L) (by have := hw.L; omega) hw.Li []
          rw [List.append_nil, h] at b
          exact some_eq a b
        · rw [if_neg k3, if_neg k3] at h
          have a := texts_back (vs := v.T) (by have := hv.T; omega) (fun x hx => by have := hv.Ts x hx; omega) t
          have b := texts_back (vs := w.T) (by have := hw.T; omega) (fun x hx => by have := hw.Ts x hx; omega) []
          rw [List.append_nil, h] at b
          exact some_eq a b
end Go.Proofs.YtapcfnlononniaaDoor.Wr
