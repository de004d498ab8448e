/- Fall: trap. -/
import Derived.Test.YtdmbgdbmfenbfaaFaG
namespace Go.Proofs.Ytdmbgdbmfenbfaa.Fa
open Go.ChangeShapes Go.WideShapes Go.ChangeAt Go.RowKit Go.Proofs.Ytdmbgdbmfenbfaa.Cell
set_option linter.unusedVariables false
set_option linter.unusedSimpArgs false

theorem own_cap {w : World} {B n c size : Nat} {e : TypeId} {A : Option Addr} {xs : List Value} (h : w.ownsRow B e size (.slice A n c) n xs) : n ≤ c := by
  rcases h.2 with ⟨h, h2⟩ | ⟨g, cap, cur, he, _, _, hn, _⟩
  · injection h with _ e2 e3; omega
  · injection he with _ e2 e3; omega
theorem stp_3 (c : Int) (te : List Te) (f : Fl) (i : Nat) (a : Int) {x : Te} (hx : te[i]? = some x) : stp c te f ⟨3, (i : Int), a⟩ = if psd f.tr c x then (0, f) else (f.p, ⟨0, f.r, f.t + f.p, f.e, f.tr⟩) := by
  unfold stp; dsimp only; rw [if_neg (by omega), if_neg (by omega), if_neg (by omega), if_pos rfl, Int.toNat_natCast, hx]
set_option maxRecDepth 100000 in
set_option maxHeartbeats 8000000 in
theorem trap_any (w : World) {B g : Nat} {c : Int} {te : List Te} {st : List St} {p : Pl} {f : Fl} (h : Fw w B g c te st p f) (s : St) (hk : s.k = 3) (hf : Ok f) (hs : 0 ≤ s.n ∧ s.n < te.length) (hl : f.tr.length ≤ 40) (hte : te.length ≤ 40) (hto : ∀ x ∈ te, teOk f.tr.length x) (hc : mon c) :
    Calls Try.prog 26 #[.pointer (some ⟨g, 0, none⟩), .agg #[.int .i64 s.k, .int .i64 s.n, .int .i64 s.a]] w (StepP w B g c te st p f s) := by
  obtain ⟨k, n, a⟩ := s
  dsimp only at hk hs
  subst hk
  obtain ⟨i, rfl⟩ := Int.eq_ofNat_of_zero_le hs.1
  have hi : i < te.length := by omega
  obtain ⟨x, hx⟩ : ∃ x, te[i]? = some x := ⟨_, List.getElem?_eq_getElem hi⟩
  obtain ⟨t1, t2, t3, t4⟩ := hto x (List.mem_of_getElem? hx)
  have hb1 := hf.p
  have hb4 := hf.t
  have hb5 := hf.pt
  have hftr := hf.tr
  have hrs := rs_own (f := tcs) (K := 2) (fun _ => rfl) rfl h.own
  have hcap := own_cap h.own
  obtain ⟨A1, c1, A2, c2, A3, c3⟩ := p
  obtain ⟨b, off, e2, hcell⟩ := h.q (by omega)
  dsimp only at e2
  subst e2
  obtain ⟨fp, fr, ft, fe, tr⟩ := f
  obtain ⟨xo, xm⟩ := x
  dsimp only at hb1 hb4 hb5 hftr hrs hcap hl t1 t2 t3 t4
  have hB0 : Below w.heap.size w (w.alloc (.cells #[.int .i64 3, .int .i64 (i : Int), .int .i64 a] 42)) := Gen.b_alloc (Below.refl _ _)
  have r0 := h.row.keep hB0
  have m0 := keep0 hB0 _ _ _ (hcell i _ hx 0 _ rfl)
  have m1 := keep0 hB0 _ _ _ (hcell i _ hx 1 _ rfl)
  rw [Nat.add_zero] at m0
  dsimp only at m0 m1
  obtain ⟨N, hN⟩ : ∃ N, te.length = N := ⟨_, rfl⟩
  have k5 : (w.alloc (.cells #[.int .i64 3, .int .i64 (i : Int), .int .i64 a] 42)).cell? ⟨g, 5, none⟩ = some (.slice (some ⟨b, off, none⟩) N c2) := by rw [← hN]; exact r0.cell 5
  have k0 : (w.alloc (.cells #[.int .i64 3, .int .i64 (i : Int), .int .i64 a] 42)).cell? ⟨g, 0, none⟩ = some (.int .i64 c) := r0.cell 0
  have k4 : (w.alloc (.cells #[.int .i64 3, .int .i64 (i : Int), .int .i64 a] 42)).cell? ⟨g, 4, none⟩ = some (.slice A1 tr.length c1) := r0.cell 4
  have HR := Lib.hid hrs
  have HP := Lib.hid (fun (W : World) (hb : Below w.heap.size w W) => passed_any W (o := xo) (m := xm) (keep0 hb _ _ _ (h.row.cell 0)) (keep0 hb _ _ _ (h.row.cell 4)) rfl hcap hl (hrs.keep hb) hftr hc t1 t2 t3 t4)
  have HH := Lib.hid h
  have HXx := Lib.hid hx
  have HB := Lib.hid hB0
  rw [hN] at hi hte
  have hi2 : (i : Int) < (N : Int) := by omega
  have hi3 : (0 : Int) ≤ (i : Int) := by omega
  clear h hf hftr hrs hcap hcell hx hN hs hl hto hc r0 hB0 t1 t2 t3 t4
  have C1 := Lib.hid (show (w.alloc (.cells #[.int .i64 3, .int .i64 (i : Int), .int .i64 a] 42)).cell? ⟨w.heap.size, 1, none⟩ = some (.int .i64 (i : Int)) by simp [go_sem])
  by_cases hz : psd tr c ⟨xo, xm⟩
  · have HZ := Lib.hid hz
    simp only [decide_eq_true hz] at HP
    clear hz
    go_enter Try.func26, Try.ntmps26
    go_wp2
    go_region_held3 (fun W' : World => Below w.heap.size w W' ∧ W'.cell? ⟨g, 5, none⟩ = some (.slice (some ⟨b, off, none⟩) N c2) ∧ W'.cell? ⟨w.heap.size, 1, none⟩ = some (.int .i64 (i : Int)) ∧ W'.cell? ⟨b, off + i * 2, none⟩ = some (.int .i64 xo) ∧ W'.cell? ⟨b, off + i * 2 + 1, none⟩ = some (.int .i64 xm))
      (first | exact ⟨HB.out.drew, k5, C1.out, m0, m1⟩ | (rename_i hH0 _ _; exact ⟨HBB.out, Gen.keep hb3 hH0.2.1, Gen.keep hb3 hH0.2.2.1, Gen.keep hb3 hH0.2.2.2.1, Gen.keep hb3 hH0.2.2.2.2⟩) | (refine ⟨?_, ?_, ?_, ?_, ?_⟩; exact HBB.out; exact Gen.keep hb3 (And.left (And.right (by assumption))); exact Gen.keep hb3 (And.left (And.right (And.right (by assumption)))); exact Gen.keep hb3 (And.left (And.right (And.right (And.right (by assumption))))); exact Gen.keep hb3 (And.right (And.right (And.right (And.right (by assumption)))))))
      (first | (go_at_call 36; refine (HP.out _ (And.left (by assumption))).mono ?_; rintro e' w' ⟨rfl, hb3⟩; have HBB := Lib.hid (Gen.over hb3 (And.left (by assumption))); have hF := HH.out.keep HBB.out; have HF := Lib.hid hF; clear hF))
    all_goals
      go_wp2
      go_ret
      unfold StepP
      rw [stp_3 _ _ _ _ _ HXx.out, if_pos HZ.out]
      exact ⟨rfl, HF.out, Only.of_below HBB.out _⟩
  · have HZ := Lib.hid hz
    simp only [decide_eq_false hz] at HP
    clear hz
    go_enter Try.func26, Try.ntmps26
    go_wp2
    go_region_held3 (fun W' : World => Below w.heap.size w W' ∧ W'.cell? ⟨g, 5, none⟩ = some (.slice (some ⟨b, off, none⟩) N c2) ∧ W'.cell? ⟨w.heap.size, 1, none⟩ = some (.int .i64 (i : Int)) ∧ W'.cell? ⟨b, off + i * 2, none⟩ = some (.int .i64 xo) ∧ W'.cell? ⟨b, off + i * 2 + 1, none⟩ = some (.int .i64 xm))
      (first | exact ⟨HB.out.drew, k5, C1.out, m0, m1⟩ | (rename_i hH0 _ _; exact ⟨HBB.out, Gen.keep hb3 hH0.2.1, Gen.keep hb3 hH0.2.2.1, Gen.keep hb3 hH0.2.2.2.1, Gen.keep hb3 hH0.2.2.2.2⟩) | (refine ⟨?_, ?_, ?_, ?_, ?_⟩; exact HBB.out; exact Gen.keep hb3 (And.left (And.right (by assumption))); exact Gen.keep hb3 (And.left (And.right (And.right (by assumption)))); exact Gen.keep hb3 (And.left (And.right (And.right (And.right (by assumption))))); exact Gen.keep hb3 (And.right (And.right (And.right (And.right (by assumption)))))))
      (first | (go_at_call 36; refine (HP.out _ (And.left (by assumption))).mono ?_; rintro e' w' ⟨rfl, hb3⟩; have HBB := Lib.hid (Gen.over hb3 (And.left (by assumption))); have hF := HH.out.keep HBB.out; have z7 : w'.cell? ⟨g, 7, none⟩ = some (.int .i64 fp) := hF.row.cell 7; have z2 : w'.cell? ⟨g, 2, none⟩ = some (.int .i64 ft) := hF.row.cell 2; have zf7 := hF.row.frozen 7; have zf2 := hF.row.frozen 2; have HX := Lib.hid (Fw.put (f' := ⟨0, fr, ft + fp, fe, tr⟩) hF (Only.set (p := ⟨g, 2, none⟩) (Only.set (p := ⟨g, 7, none⟩) (Only.refl _ (fun b => b = g)) (.inl rfl) (.int .i64 0)) (.inl rfl) (.int .i64 (ft + fp))) rfl (Row.set (Row.set hF.row 7 (.int .i64 0)) 2 (.int .i64 (ft + fp)))); clear hF))
    all_goals
      go_wp2
      go_ret
      unfold StepP
      rw [stp_3 _ _ _ _ _ HXx.out, if_neg HZ.out]
      exact ⟨rfl, HX.out.1, (Only.of_below HBB.out _).then HX.out.2⟩
end Go.Proofs.Ytdmbgdbmfenbfaa.Fa
