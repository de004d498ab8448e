/- Fall: the steps rest, fill, down, pay. -/
import Derived.Test.YtdmbgdbmfenbfaaFaE
import Derived.IntWalk
import Derived.BigQuiet
import Derived.Deep.QuietTactic
namespace Go.Proofs.Ytdmbgdbmfenbfaa.Fa
open Go.ChangeShapes Go.WideShapes Go.ChangeAt Go.RowKit Go.Proofs.Ytdmbgdbmfenbfaa.Cell
set_option linter.unusedVariables false
set_option linter.unusedSimpArgs false

/-- a step that writes but the numbers -/
theorem Fw.put {w W : World} {B g : Nat} {c : Int} {te : List Te} {st : List St} {p : Pl} {f f' : Fl} (h : Fw w B g c te st p f) (ho : Only w W (fun b => b = g)) (ht : f'.tr = f.tr)
    (hr : Row W g 46 #[.int .i64 c, .int .i64 f'.r, .int .i64 f'.t, .int .i64 f'.e, .slice p.A1 f.tr.length p.c1, .slice p.A2 te.length p.c2, .slice p.A3 st.length p.c3, .int .i64 f'.p]) : Fw W B g c te st p f' ∧ Only w W (Wb g p) :=
  ⟨⟨by rw [ht]; exact hr, by rw [ht]; exact own_only ho h.own (fun a e => h.ap a e), h.ap, rs_only ho h.q (fun a e => (h.qp a e).1), h.qp, rs_only ho h.s (fun a e => (h.sp a e).1), h.sp⟩,
   ho.os, ho.tape, ho.output, ho.size, fun k hk hn => ho.block k hk (fun e => hn (.inl e))⟩
theorem stp_4 (c : Int) (te : List Te) (f : Fl) (n a : Int) : stp c te f ⟨4, n, a⟩ = (f.p, ⟨0, f.r, f.t, f.e + f.p, f.tr⟩) := rfl
theorem stp_2 (c : Int) (te : List Te) (f : Fl) (n a : Int) : stp c te f ⟨2, n, a⟩ = (min f.p (max 0 (a - f.r)), ⟨f.p - min f.p (max 0 (a - f.r)), f.r + min f.p (max 0 (a - f.r)), f.t, f.e, f.tr⟩) := rfl
theorem stp_1 (c : Int) (te : List Te) (f : Fl) (n a : Int) {x : Tr} (hx : f.tr[n.toNat]? = some x) : stp c te f ⟨1, n, a⟩ = (min x.b f.p, ⟨f.p - min x.b f.p, f.r, f.t, f.e, f.tr.set n.toNat ⟨x.b - min x.b f.p, x.u⟩⟩) := by
  unfold stp; dsimp only; rw [if_neg (by omega), if_pos rfl, hx]
theorem stp_0 (c : Int) (te : List Te) (f : Fl) (n a : Int) {x : Tr} (hx : f.tr[n.toNat]? = some x) : stp c te f ⟨0, n, a⟩ = (min x.u (f.p + f.r), ⟨f.p - min (min x.u (f.p + f.r)) f.p, f.r - (min x.u (f.p + f.r) - min (min x.u (f.p + f.r)) f.p), f.t, f.e, f.tr.set n.toNat ⟨x.b, x.u - min x.u (f.p + f.r)⟩⟩) := by
  unfold stp; dsimp only; rw [if_pos rfl, hx]
set_option maxRecDepth 100000 in
set_option maxHeartbeats 4000000 in
theorem rest_any (w : World) {B g : Nat} {c : Int} {te : List Te} {st : List St} {p : Pl} {f : Fl} (h : Fw w B g c te st p f) (s : St) (hk : s.k = 4) (hf : Ok f) :
    Calls Try.prog 27 #[.pointer (some ⟨g, 0, none⟩), .agg #[.int .i64 s.k, .int .i64 s.n, .int .i64 s.a]] w (StepP w B g c te st p f s) := by
  obtain ⟨k, n, a⟩ := s
  dsimp only at hk
  subst hk
  have hb1 := hf.p
  have hb2 := hf.e
  have hb3 := hf.e2
  have hb4 := hf.t
  have hb5 := hf.pt
  have hb6 := hf.r.1
  have hb7 := hf.r.2
  obtain ⟨fp, fr, ft, fe, tr⟩ := f
  dsimp only at hb1 hb2 hb3 hb4 hb5 hb6 hb7
  have r0 := h.row.alloc (.cells #[.int .i64 4, .int .i64 n, .int .i64 a] 42)
  have k3 : (w.alloc (.cells #[.int .i64 4, .int .i64 n, .int .i64 a] 42)).cell? ⟨g, 3, none⟩ = some (.int .i64 fe) := r0.cell 3
  have k7 : (w.alloc (.cells #[.int .i64 4, .int .i64 n, .int .i64 a] 42)).cell? ⟨g, 7, none⟩ = some (.int .i64 fp) := r0.cell 7
  have kf3 := r0.frozen 3
  have kf7 := r0.frozen 7
  have HX := Lib.hid (Fw.put (f' := ⟨0, fr, ft, fe + fp, tr⟩) h (Only.set (p := ⟨g, 3, none⟩) (Only.set (p := ⟨g, 7, none⟩) (Only.more (Only.refl w (fun b => b = g)) (Gen.b_alloc (x := .cells #[.int .i64 4, .int .i64 n, .int .i64 a] 42) (Below.refl w.heap.size w))) (.inl rfl) (.int .i64 (0))) (.inl rfl) (.int .i64 (fe + fp))) rfl (Row.set (Row.set r0 7 (.int .i64 (0))) 3 (.int .i64 (fe + fp))))
  clear h hf r0
  go_enter Try.func27, Try.ntmps27
  go_wp2
  go_ret
  unfold StepP
  rw [stp_4]
  exact ⟨rfl, HX.out⟩
set_option maxRecDepth 100000 in
set_option maxHeartbeats 4000000 in
theorem fill_any (w : World) {B g : Nat} {c : Int} {te : List Te} {st : List St} {p : Pl} {f : Fl} (h : Fw w B g c te st p f) (s : St) (hk : s.k = 2) (hf : Ok f) (hs : mon s.a) :
    Calls Try.prog 25 #[.pointer (some ⟨g, 0, none⟩), .agg #[.int .i64 s.k, .int .i64 s.n, .int .i64 s.a]] w (StepP w B g c te st p f s) := by
  obtain ⟨k, n, a⟩ := s
  dsimp only at hk
  subst hk
  have hb1 := hf.p
  have hb2 := hf.e
  have hb3 := hf.e2
  have hb4 := hf.t
  have hb5 := hf.pt
  have hb6 := hf.r.1
  have hb7 := hf.r.2
  obtain ⟨fp, fr, ft, fe, tr⟩ := f
  dsimp only at hb1 hb2 hb3 hb4 hb5 hb6 hb7
  have ha1 := hs.1
  have ha2 := hs.2
  dsimp only at ha1 ha2
  clear hs
  have r0 := h.row.alloc (.cells #[.int .i64 2, .int .i64 n, .int .i64 a] 42)
  have k1 : (w.alloc (.cells #[.int .i64 2, .int .i64 n, .int .i64 a] 42)).cell? ⟨g, 1, none⟩ = some (.int .i64 fr) := r0.cell 1
  have k7 : (w.alloc (.cells #[.int .i64 2, .int .i64 n, .int .i64 a] 42)).cell? ⟨g, 7, none⟩ = some (.int .i64 fp) := r0.cell 7
  have kf1 := r0.frozen 1
  have kf7 := r0.frozen 7
  obtain ⟨m, hm⟩ : ∃ m, min fp (max 0 (a - fr)) = m := ⟨_, rfl⟩
  have HX := Lib.hid (fun (nq : Nat) => Fw.put (f' := ⟨fp - m, fr + m, ft, fe, tr⟩) h (Only.set (p := ⟨g, 1, none⟩) (Only.set (p := ⟨g, 7, none⟩) (Only.more (Only.more (Only.refl w (fun b => b = g)) (Gen.b_alloc (x := .cells #[.int .i64 2, .int .i64 n, .int .i64 a] 42) (Below.refl w.heap.size w))) (Gen.dN (Below.refl _ _) nq)) (.inl rfl) (.int .i64 (fp - m))) (.inl rfl) (.int .i64 (fr + m))) rfl (Row.set (Row.set (r0.keep (Gen.dN (Below.refl _ _) nq)) 7 (.int .i64 (fp - m))) 1 (.int .i64 (fr + m))))
  have hv : (if (if fr < a then a - fr else 0) < fp then if fr < a then a - fr else 0 else fp) = m := by
    rw [← hm]
    by_cases h1 : fr < a
    · simp only [if_pos h1]; split <;> omega
    · simp only [if_neg h1]; split <;> omega
  have hm1 : 0 ≤ m := by omega
  have hm2 : m ≤ fp := by omega
  have hm3 : fr + m ≤ 1000000000000000 := by omega
  have HM := Lib.hid hm
  have HV := Lib.hid hv
  have hw1 : IntKind.i64.wrap (a - fr) = a - fr := IntWalk.i64_in _ (by omega)
  clear h hf r0 hm hv
  go_enter Try.func25, Try.ntmps25
  go_wp2
  go_quiet (fail)
  rw [HV.out]
  clear hw1
  go_wp2
  all_goals
    go_ret
    unfold StepP
    rw [stp_2]
    dsimp only
    rw [HM.out]
    exact ⟨rfl, HX.out nq⟩
/-- a step that writes a tranche, too -/
theorem Fw.putt {w W1 : World} {B g gt i o c1 c2 c3 : Nat} {A2 A3 : Option Addr} {c : Int} {te : List Te} {st : List St} {f f' : Fl} {x y : Tr} {v : Value} (h : Fw w B g c te st ⟨some ⟨gt, 0, none⟩, c1, A2, c2, A3, c3⟩ f) (ho : Only w W1 (fun b => b = g)) (hx : f.tr[i]? = some x)
    (hr : Row W1 g 46 #[.int .i64 c, .int .i64 f'.r, .int .i64 f'.t, .int .i64 f'.e, .slice (some ⟨gt, 0, none⟩) f.tr.length c1, .slice A2 te.length c2, .slice A3 st.length c3, .int .i64 f'.p]) (ht : f'.tr = f.tr.set i y) (hoo : o < 2) (hy : tcs y = (tcs x).set o v) :
    Fw (W1.setCell ⟨gt, i * 2 + o, none⟩ v) B g c te st ⟨some ⟨gt, 0, none⟩, c1, A2, c2, A3, c3⟩ f' ∧ Only w (W1.setCell ⟨gt, i * 2 + o, none⟩ v) (Wb g ⟨some ⟨gt, 0, none⟩, c1, A2, c2, A3, c3⟩) := by
  have hl : f'.tr.length = f.tr.length := by rw [ht, List.length_set]
  have hne := h.ap _ rfl
  have h1 : Only w W1 (Wb g ⟨some ⟨gt, 0, none⟩, c1, A2, c2, A3, c3⟩) := ⟨ho.os, ho.tape, ho.output, ho.size, fun k hk hn => ho.block k hk (fun e => hn (.inl e))⟩
  have h2 := Only.set (p := ⟨gt, i * 2 + o, none⟩) h1 (.inl (.inr ⟨_, rfl, rfl⟩)) v
  refine ⟨⟨?_, ?_, h.ap, rs_only h2 h.q (fun a e hw => ?_), h.qp, rs_only h2 h.s (fun a e hw => ?_), h.sp⟩, h2⟩
  · rw [hl]
    exact (Below.heap_setCell W1 ⟨gt, i * 2 + o, none⟩ v g (fun e => hne e.symm)).trans hr
  · rw [hl, ht, ← flat_set (f := tcs) (K := 2) (fun _ => rfl) hoo hy f.tr i hx]
    exact own_set (own_only ho h.own (fun a e => h.ap a e)) v
  · rcases hw with hw | ⟨b, e2, hw⟩
    · exact (h.qp a e).1 hw
    · exact (h.qp a e).2 b e2 hw
  · rcases hw with hw | ⟨b, e2, hw⟩
    · exact (h.sp a e).1 hw
    · exact (h.sp a e).2 b e2 hw
set_option maxRecDepth 100000 in
set_option maxHeartbeats 8000000 in
theorem down_any (w : World) {B g : Nat} {c : Int} {te : List Te} {st : List St} {p : Pl} {f : Fl} (h : Fw w B g c te st p f) (s : St) (hk : s.k = 1) (hf : Ok f) (hs : 0 ≤ s.n ∧ s.n < f.tr.length) (hl : f.tr.length ≤ 40) :
    Calls Try.prog 24 #[.pointer (some ⟨g, 0, none⟩), .agg #[.int .i64 s.k, .int .i64 s.n, .int .i64 s.a]] w (StepP w B g c te st p f s) := by
  obtain ⟨k, n, a⟩ := s
  dsimp only at hk hs
  subst hk
  obtain ⟨i, rfl⟩ := Int.eq_ofNat_of_zero_le hs.1
  have hi : i < f.tr.length := by omega
  obtain ⟨x, hx⟩ : ∃ x, f.tr[i]? = some x := ⟨_, List.getElem?_eq_getElem hi⟩
  obtain ⟨⟨x1, x2⟩, x3, x4⟩ := hf.tr x (List.mem_of_getElem? hx)
  have hb1 := hf.p
  have hb4 := hf.t
  have hb5 := hf.pt
  have hb6 := hf.r.1
  have hb7 := hf.r.2
  obtain ⟨A1, c1, A2, c2, A3, c3⟩ := p
  obtain ⟨gt, cap, hv, hgb, hgl⟩ := h.own.form (by omega)
  obtain rfl : A1 = some ⟨gt, 0, none⟩ := by injection hv
  clear hv
  obtain ⟨fp, fr, ft, fe, tr⟩ := f
  obtain ⟨xb, xu⟩ := x
  dsimp only at hb1 hb4 hb5 hb6 hb7 hi x1 x2 x3 x4 hx hl
  have r0 := h.row.alloc (.cells #[.int .i64 1, .int .i64 (i : Int), .int .i64 a] 42)
  have hB0 : Below w.heap.size w (w.alloc (.cells #[.int .i64 1, .int .i64 (i : Int), .int .i64 a] 42)) := Gen.b_alloc (Below.refl _ _)
  have o0 := own_only (Only.of_below hB0 (fun _ => False)) h.own (fun _ _ x => x)
  have hne : gt ≠ g := h.ap _ rfl
  have m0 : (w.alloc (.cells #[.int .i64 1, .int .i64 (i : Int), .int .i64 a] 42)).cell? ⟨gt, i * 2, none⟩ = some (.int .i64 xb) := by
    have := o0.cells (g := gt) rfl (i * 2 + 0) _ (by rw [Gen.flat_at (f := tcs) (K := 2) (fun _ => rfl) tr _ _ hx 0 (by omega)]; rfl)
    rw [Addr.add_lit] at this
    rwa [show 0 + (i * 2 + 0) = i * 2 by omega] at this
  have m1 : (w.alloc (.cells #[.int .i64 1, .int .i64 (i : Int), .int .i64 a] 42)).cell? ⟨gt, i * 2 + 1, none⟩ = some (.int .i64 xu) := by
    have := o0.cells (g := gt) rfl (i * 2 + 1) _ (by rw [Gen.flat_at (f := tcs) (K := 2) (fun _ => rfl) tr _ _ hx 1 (by omega)]; rfl)
    rw [Addr.add_lit] at this
    rwa [show 0 + (i * 2 + 1) = i * 2 + 1 by omega] at this
  have k1 : (w.alloc (.cells #[.int .i64 1, .int .i64 (i : Int), .int .i64 a] 42)).cell? ⟨g, 1, none⟩ = some (.int .i64 fr) := r0.cell 1
  have k4 : (w.alloc (.cells #[.int .i64 1, .int .i64 (i : Int), .int .i64 a] 42)).cell? ⟨g, 4, none⟩ = some (.slice (some ⟨gt, 0, none⟩) tr.length c1) := r0.cell 4
  have k7 : (w.alloc (.cells #[.int .i64 1, .int .i64 (i : Int), .int .i64 a] 42)).cell? ⟨g, 7, none⟩ = some (.int .i64 fp) := r0.cell 7
  have kf1 := r0.frozen 1
  have kf7 := r0.frozen 7
  have mf0 : (w.alloc (.cells #[.int .i64 1, .int .i64 (i : Int), .int .i64 a] 42)).frozen? ⟨gt, i * 2, none⟩ = false := own_frozen o0
  have mf1 : (w.alloc (.cells #[.int .i64 1, .int .i64 (i : Int), .int .i64 a] 42)).frozen? ⟨gt, i * 2 + 1, none⟩ = false := own_frozen o0
  have hcap := o0.2
  have HXx := Lib.hid hx
  obtain ⟨m, hm⟩ : ∃ m, min xb fp = m := ⟨_, rfl⟩
  have HX := Lib.hid (fun (n1 : Nat) => Fw.putt (o := 0) (y := ⟨xb - m, xu⟩) (v := .int .i64 (xb - m)) (f' := ⟨fp - m, fr, ft, fe, tr.set i ⟨xb - m, xu⟩⟩) h (Only.set (p := ⟨g, 7, none⟩) (Only.more (Only.of_below hB0 (fun b => b = g)) (Gen.dN (Below.refl _ _) n1)) (.inl rfl) (.int .i64 (fp - m))) hx (Row.set (r0.keep (Gen.dN (Below.refl _ _) n1)) 7 (.int .i64 (fp - m))) rfl (by omega) rfl)
  have hm1 : 0 ≤ m := by omega
  have hm2 : m ≤ fp := by omega
  have hm3 : m ≤ xb := by omega
  have HM := Lib.hid hm
  have HV := Lib.hid (show (if fp < xb then fp else xb) = m by rw [← hm]; split <;> omega)
  have hN : ∃ N, tr.length = N := ⟨_, rfl⟩
  obtain ⟨N, hN⟩ := hN
  rw [hN] at k4 hi hl
  have hi2 : (i : Int) < (N : Int) := by omega
  have hi3 : (0 : Int) ≤ (i : Int) := by omega
  clear h hf r0 hm hx o0 hB0 hgb hgl hcap hs hN
  go_enter Try.func24, Try.ntmps24
  go_wp2
  go_quiet (fail)
  obtain ⟨n1, rfl⟩ : ∃ n, n = nq := ⟨nq, rfl⟩
  go_wp2
  go_quiet (fail)
  rw [HV.out]
  go_wp2
  all_goals
    go_ret
    unfold StepP
    rw [stp_1 _ _ _ _ _ (x := ⟨xb, xu⟩) (by rw [Int.toNat_natCast]; exact HXx.out)]
    dsimp only
    rw [HM.out, Int.toNat_natCast]
    exact ⟨rfl, HX.out (n1 + nq)⟩
set_option maxRecDepth 100000 in
set_option maxHeartbeats 8000000 in
theorem pay_any (w : World) {B g : Nat} {c : Int} {te : List Te} {st : List St} {p : Pl} {f : Fl} (h : Fw w B g c te st p f) (s : St) (hk : s.k = 0) (hf : Ok f) (hs : 0 ≤ s.n ∧ s.n < f.tr.length) (hl : f.tr.length ≤ 40) :
    Calls Try.prog 23 #[.pointer (some ⟨g, 0, none⟩), .agg #[.int .i64 s.k, .int .i64 s.n, .int .i64 s.a]] w (StepP w B g c te st p f s) := by
  obtain ⟨k, n, a⟩ := s
  dsimp only at hk hs
  subst hk
  obtain ⟨i, rfl⟩ := Int.eq_ofNat_of_zero_le hs.1
  have hi : i < f.tr.length := by omega
  obtain ⟨x, hx⟩ : ∃ x, f.tr[i]? = some x := ⟨_, List.getElem?_eq_getElem hi⟩
  obtain ⟨⟨x1, x2⟩, x3, x4⟩ := hf.tr x (List.mem_of_getElem? hx)
  have hb1 := hf.p
  have hb4 := hf.t
  have hb5 := hf.pt
  have hb6 := hf.r.1
  have hb7 := hf.r.2
  obtain ⟨A1, c1, A2, c2, A3, c3⟩ := p
  obtain ⟨gt, cap, hv, hgb, hgl⟩ := h.own.form (by omega)
  obtain rfl : A1 = some ⟨gt, 0, none⟩ := by injection hv
  clear hv
  obtain ⟨fp, fr, ft, fe, tr⟩ := f
  obtain ⟨xb, xu⟩ := x
  dsimp only at hb1 hb4 hb5 hb6 hb7 hi x1 x2 x3 x4 hx hl
  have r0 := h.row.alloc (.cells #[.int .i64 0, .int .i64 (i : Int), .int .i64 a] 42)
  have hB0 : Below w.heap.size w (w.alloc (.cells #[.int .i64 0, .int .i64 (i : Int), .int .i64 a] 42)) := Gen.b_alloc (Below.refl _ _)
  have o0 := own_only (Only.of_below hB0 (fun _ => False)) h.own (fun _ _ x => x)
  have hne : gt ≠ g := h.ap _ rfl
  have m0 : (w.alloc (.cells #[.int .i64 0, .int .i64 (i : Int), .int .i64 a] 42)).cell? ⟨gt, i * 2, none⟩ = some (.int .i64 xb) := by
    have := o0.cells (g := gt) rfl (i * 2 + 0) _ (by rw [Gen.flat_at (f := tcs) (K := 2) (fun _ => rfl) tr _ _ hx 0 (by omega)]; rfl)
    rw [Addr.add_lit] at this
    rwa [show 0 + (i * 2 + 0) = i * 2 by omega] at this
  have m1 : (w.alloc (.cells #[.int .i64 0, .int .i64 (i : Int), .int .i64 a] 42)).cell? ⟨gt, i * 2 + 1, none⟩ = some (.int .i64 xu) := by
    have := o0.cells (g := gt) rfl (i * 2 + 1) _ (by rw [Gen.flat_at (f := tcs) (K := 2) (fun _ => rfl) tr _ _ hx 1 (by omega)]; rfl)
    rw [Addr.add_lit] at this
    rwa [show 0 + (i * 2 + 1) = i * 2 + 1 by omega] at this
  have k1 : (w.alloc (.cells #[.int .i64 0, .int .i64 (i : Int), .int .i64 a] 42)).cell? ⟨g, 1, none⟩ = some (.int .i64 fr) := r0.cell 1
  have k4 : (w.alloc (.cells #[.int .i64 0, .int .i64 (i : Int), .int .i64 a] 42)).cell? ⟨g, 4, none⟩ = some (.slice (some ⟨gt, 0, none⟩) tr.length c1) := r0.cell 4
  have k7 : (w.alloc (.cells #[.int .i64 0, .int .i64 (i : Int), .int .i64 a] 42)).cell? ⟨g, 7, none⟩ = some (.int .i64 fp) := r0.cell 7
  have kf1 := r0.frozen 1
  have kf7 := r0.frozen 7
  have mf0 : (w.alloc (.cells #[.int .i64 0, .int .i64 (i : Int), .int .i64 a] 42)).frozen? ⟨gt, i * 2, none⟩ = false := own_frozen o0
  have mf1 : (w.alloc (.cells #[.int .i64 0, .int .i64 (i : Int), .int .i64 a] 42)).frozen? ⟨gt, i * 2 + 1, none⟩ = false := own_frozen o0
  have hcap := o0.2
  have HXx := Lib.hid hx
  obtain ⟨m, hm⟩ : ∃ m, min xu (fp + fr) = m := ⟨_, rfl⟩
  obtain ⟨q, hq⟩ : ∃ q, min m fp = q := ⟨_, rfl⟩
  have HX := Lib.hid (fun (n1 : Nat) => Fw.putt (o := 1) (y := ⟨xb, xu - m⟩) (v := .int .i64 (xu - m)) (f' := ⟨fp - q, fr - (m - q), ft, fe, tr.set i ⟨xb, xu - m⟩⟩) h (Only.set (p := ⟨g, 1, none⟩) (Only.set (p := ⟨g, 7, none⟩) (Only.more (Only.of_below hB0 (fun b => b = g)) (Gen.dN (Below.refl _ _) n1)) (.inl rfl) (.int .i64 (fp - q))) (.inl rfl) (.int .i64 (fr - (m - q)))) hx (Row.set (Row.set (r0.keep (Gen.dN (Below.refl _ _) n1)) 7 (.int .i64 (fp - q))) 1 (.int .i64 (fr - (m - q)))) rfl (by omega) rfl)
  have hm1 : 0 ≤ m := by omega
  have hm2 : m ≤ fp + fr := by omega
  have hm3 : m ≤ xu := by omega
  have hq1 : 0 ≤ q := by omega
  have hq2 : q ≤ fp := by omega
  have hq3 : q ≤ m := by omega
  have hq4 : m - q ≤ fr := by omega
  have HM := Lib.hid hm
  have HQ := Lib.hid hq
  have HV := Lib.hid (show (if fp + fr < xu then fp + fr else xu) = m by rw [← hm]; split <;> omega)
  have HV2 := Lib.hid (show (if fp < m then fp else m) = q by rw [← hq]; split <;> omega)
  have hN : ∃ N, tr.length = N := ⟨_, rfl⟩
  obtain ⟨N, hN⟩ := hN
  rw [hN] at k4 hi hl
  have hi2 : (i : Int) < (N : Int) := by omega
  have hi3 : (0 : Int) ≤ (i : Int) := by omega
  have hw1 : IntKind.i64.wrap (fp + fr) = fp + fr := IntWalk.i64_in _ (by omega)
  clear h hf r0 hm hq hx o0 hB0 hgb hgl hcap hs hN
  go_enter Try.func23, Try.ntmps23
  go_wp2
  go_quiet (fail)
  obtain ⟨n1, rfl⟩ : ∃ n, n = nq := ⟨nq, rfl⟩
  go_wp2
  go_quiet (fail)
  rw [HV.out]
  clear hw1
  go_wp2
  all_goals
    try rw [HV2.out]
    go_wp2
    go_ret
    unfold StepP
    rw [stp_0 _ _ _ _ _ (x := ⟨xb, xu⟩) (by rw [Int.toNat_natCast]; exact HXx.out)]
    dsimp only
    rw [HM.out, HQ.out, Int.toNat_natCast]
    have hqe := HQ.out
    have hx9 := HX.out (n1 + nq)
    first
      | (have hq9 : q = fp := by omega
         rw [hq9] at hx9 ⊢
         rw [show fp - fp = 0 by omega] at hx9 ⊢
         exact ⟨rfl, hx9⟩)
      | (have hq9 : q = m := by omega
         rw [hq9] at hx9 ⊢
         rw [show m - m = 0 by omega, show fr - 0 = fr by omega] at hx9 ⊢
         exact ⟨rfl, hx9⟩)
end Go.Proofs.Ytdmbgdbmfenbfaa.Fa
