/- What the statements of breach play day by day: 'play', 'fallen', 'expected', 'order'. -/
import Derived.Test.YtblegaclcpoonaaStory
import Derived.Test.YtblegaclcpoonaaBrM
import Derived.Test.YtblegaclcpoonaaBrS
import Derived.Deep.DrawnRows
import Derived.IntWalk
import Derived.Deep.DeepMust
namespace Go.Proofs.Ytblegaclcpoonaa.Br
open Go.ChangeShapes Go.WideShapes Go.ChangeAt Go.RowKit
set_option linter.unusedVariables false
set_option linter.unusedSimpArgs false
attribute [local go_sem ↓] Go.wp_at_zero Go.wp_at_succ

/-- the memory of a slice of bytes -/
def U8s (w : World) (A : Option Addr) (zs : List Int) : Prop := 0 < zs.length → ∃ b off, A = some ⟨b, off, none⟩ ∧ ∀ j z, zs[j]? = some z → w.cell? ⟨b, off + j, none⟩ = some (.int .u8 z)
theorem U8s.keep {w w1 : World} {A : Option Addr} {zs : List Int} (h : U8s w A zs) (hb : Below w.heap.size w w1) : U8s w1 A zs := fun h0 => by
  obtain ⟨b, off, e, hc⟩ := h h0
  exact ⟨b, off, e, fun j z hz => Br.keep hb _ _ _ (hc j z hz)⟩
theorem keep' {a W : World} {b o : Nat} {v : Value} (hb : Below a.heap.size a W) (h : a.cell? ⟨b, o, none⟩ = some v) : W.cell? ⟨b, o, none⟩ = some v := Br.keep hb _ _ _ h
/-- what the news say on a day -/
def nw (zs : List Int) (i : Nat) : Int := (zs[i]?.getD 0) % 3
theorem nw_in (zs : List Int) (i : Nat) : 0 ≤ nw zs i ∧ nw zs i < 3 := by unfold nw; omega
theorem nw_at {zs : List Int} {i : Nat} {z : Int} (h : zs[i]? = some z) : nw zs i = z % 3 := by unfold nw; rw [h]; rfl
theorem n_is {s d k g day s' d' e : Int} (h : nx s d k g day = (s', d', e)) (w : World) :
    Calls Try.prog 16 #[bv s d, .int .i64 k, .int .i64 g, .int .i64 day] w fun r w' => r = .returned (.tuple #[bv s' d', .int .i64 e]) ∧ Below w.heap.size w w' := by
  have hh := next_any s d k g day w
  rw [h] at hh
  exact hh
theorem info25 : (Try.prog.info? 25).map (fun i => (i.zero, i.size, i.bytes)) = some (some (.agg #[.int .i64 0, .int .i64 0]), 2, 16) := by kernel_rfl

theorem own_keep {w w' : World} {base : Nat} {e : TypeId} {size : Nat} {v : Value} {n : Nat} {xs : List Value} (h : w.ownsRow base e size v n xs) (hb : Below w.heap.size w w') : w'.ownsRow base e size v n xs := by
  refine ⟨h.1, ?_⟩
  rcases h.2 with h0 | ⟨g, cap, cur, h1, h2, h3, h4⟩
  · exact .inl h0
  · refine .inr ⟨g, cap, cur, h1, h2, ?_, h4⟩
    rw [hb.block g (Array.getElem?_eq_some_iff.1 h3).1]
    exact h3
theorem b_alloc {a W : World} {x : Obj} (h : Below a.heap.size a W) : Below a.heap.size a (W.alloc x) := h.alloc h.size _
theorem b_set {a W : World} {p : Addr} {u : Value} (h : Below a.heap.size a W) (hp : a.heap.size ≤ p.block) : Below a.heap.size a (W.setCell p u) := h.setCell hp _
theorem b_call {a W W' : World} (hb : Below W.heap.size W W') (h : Below a.heap.size a W) : Below a.heap.size a W' := over hb h
/-- a block of two cells that was made ahead of a call -/
theorem fresh2 {W w' : World} {a b : Value} {t : TypeId} (hb : Below (W.alloc (.cells #[a, b] t)).drew.heap.size (W.alloc (.cells #[a, b] t)).drew w') :
    w'.cell? ⟨W.heap.size, 0, none⟩ = some a ∧ w'.cell? ⟨W.heap.size, 1, none⟩ = some b ∧ w'.frozen? ⟨W.heap.size, 0, none⟩ = false ∧ w'.frozen? ⟨W.heap.size, 1, none⟩ = false ∧ W.heap.size < w'.heap.size := by
  have hr : Vote.Row w' W.heap.size t #[a, b] := (rowAtD W t #[a, b] rfl).keep hb
  exact ⟨(hr.cell 0).trans rfl, (hr.cell 1).trans rfl, hr.frozen 0, hr.frozen 1, hr.lt⟩
theorem nx_of {f : Nat → Int} {g fst : Int} {k : Nat} {s d s' d' q : Int} (h1 : st f g fst k = (s, d)) (h2 : st f g fst (k + 1) = (s', d')) (hq : f k = q) (he : (nx (st f g fst k).1 (st f g fst k).2 (f k) g (fst + k)).2.2 = 0) :
    nx s d q g (fst + k) = (s', d', 0) := by
  have e : st f g fst (k + 1) = stp g (fst + k) (f k) (st f g fst k) := rfl
  rw [e, h1, hq] at h2
  rw [h1, hq] at he
  unfold stp at h2
  simp only [Prod.mk.injEq] at h2
  exact Prod.ext h2.1 (Prod.ext h2.2 he)

theorem n_fr {s d k g day s' d' e : Int} (h : nx s d k g day = (s', d', e)) (W : World) (a b : Value) (t : TypeId) :
    Calls Try.prog 16 #[bv s d, .int .i64 k, .int .i64 g, .int .i64 day] (W.alloc (.cells #[a, b] t)).drew fun r w' => r = .returned (.tuple #[bv s' d', .int .i64 e]) ∧ Below (W.alloc (.cells #[a, b] t)).drew.heap.size (W.alloc (.cells #[a, b] t)).drew w' ∧ Vote.Row w' W.heap.size t #[a, b] ∧
      w'.cell? ⟨W.heap.size, 0, none⟩ = some a ∧ w'.cell? ⟨W.heap.size, 1, none⟩ = some b ∧ w'.frozen? ⟨W.heap.size, 0, none⟩ = false ∧ w'.frozen? ⟨W.heap.size, 1, none⟩ = false ∧ W.heap.size < w'.heap.size :=
  (n_is h _).mono fun r w' hh => ⟨hh.1, hh.2, (rowAtD W t #[a, b] rfl).keep hh.2, fresh2 hh.2⟩

/-- behind an append onto a row of the call's own -/
theorem g_cell {a X W : World} {base size n p o : Nat} {e : TypeId} {v u : Value} {xs : List Value} (hown : a.ownsRow base e size v n xs) (hg : X.grownBy W v.ownBlock) (hp : a.heap.size ≤ p) (hc : X.cell? ⟨p, o, none⟩ = some u) :
    W.cell? ⟨p, o, none⟩ = some u :=
  hg.cell hc fun h => by
    have := (hown.lt p h.symm).2
    omega
theorem g_row {a X W : World} {base size n g : Nat} {e t : TypeId} {v : Value} {cs : Array Value} {xs : List Value} (hown : a.ownsRow base e size v n xs) (hg : X.grownBy W v.ownBlock) (hp : g < base) (hr : Vote.Row X g t cs) : Vote.Row W g t cs :=
  (hg.block g hr.lt fun h => by
    have := (hown.lt g h.symm).1
    omega).trans hr
theorem g_below {w a X W : World} {base size n : Nat} {e : TypeId} {v : Value} {xs : List Value} (hown : a.ownsRow base e size v n xs) (hg : X.grownBy W v.ownBlock) (hb : Below w.heap.size w X) (h : w.heap.size ≤ base) : Below w.heap.size w W :=
  hb.grown hg hb.size fun k hk => Nat.le_trans h (hown.lt k hk).1
theorem reads_new {W : World} {g : Nat} {t : TypeId} {a b : Value} (h : g = W.heap.size) : App.Reads (W.alloc (.cells #[a, b] t)) (g + 1) 2 (some ⟨g, 0, none⟩) 1 [a, b] :=
  ⟨rfl, fun _ => ⟨_, rfl, Nat.lt_succ_self _, fun j u hu => by
    have hr := rowAt W t #[a, b] h
    rw [Addr.add_lit, Nat.zero_add, hr.cell]
    simpa using hu⟩⟩

theorem own_slice {w : World} {base n size : Nat} {e : TypeId} {v : Value} {xs : List Value} (h : w.ownsRow base e size v n xs) : ∃ A c, v = .slice A n c ∧ App.Reads w w.heap.size size A n xs := by
  have h' := h
  rcases h'.2 with ⟨rfl, rfl⟩ | ⟨g, cap, cur, rfl, _⟩
  · exact ⟨none, 0, rfl, App.Reads.of_own h⟩
  · exact ⟨_, _, rfl, App.Reads.of_own h⟩

def PlayPost (zs : List Int) (g fst : Int) (n : Nat) (w : World) (e : Ending) (w' : World) : Prop :=
  ∃ A c, e = .returned (.tuple #[.slice A n c, .bool true]) ∧ Below w.heap.size w w' ∧ Brs w' A (hist (nw zs) g fst n)

set_option maxRecDepth 100000 in
set_option maxHeartbeats 4000000 in
theorem play_any (A : Option Addr) (n cap : Nat) (zs : List Int) (g : Nat) (fst : Int) (w : World) (hn : zs.length = n) (hc : U8s w A zs) (hz : ∀ z ∈ zs, 0 ≤ z ∧ z ≤ 255) (hbig : n ≤ 80) (hg : g ≤ 1000) (h0 : 0 ≤ fst) (h1 : fst ≤ 199900) :
    Calls Try.prog 26 #[.slice A n cap, .int .i64 g, .int .i64 fst] w (PlayPost zs g fst n w) := by
  have HN := Lib.hid hn
  clear hn
  obtain ⟨i0, hi0, hz0, hz1, hz2⟩ := info_parts info25
  go_enter Try.func26, Try.ntmps26
  go_wp2
  go_loopw [9, 10] (fun ov i wr => ∃ k : Nat, k ≤ n ∧ i = .int .i64 k ∧ Vote.Row wr w.heap.size 25 #[.int .i64 (st (nw zs) g fst k).1, .int .i64 (st (nw zs) g fst k).2] ∧
      wr.ownsRow (w.heap.size + 1) 25 2 ov k (bls (hist (nw zs) g fst k)) ∧ Below w.heap.size w wr) (fun _ i _ => n - (intOf i).toNat)
  case atStart =>
    refine ⟨0, Nat.zero_le _, rfl, Vote.Row.new _ _ _, ⟨rfl, .inl ⟨rfl, rfl⟩⟩, by go_grown⟩
  case round =>
    obtain ⟨k, hk, rfl, hrow, hown, hB⟩ := hrel
    have hS : w.heap.size < wr.heap.size := hrow.lt
    by_cases hlt : k < n
    · have HI := Lib.hid (inv_step (nw_in zs k) hg h0 (by omega) (inv_all (n := k) (nw_in zs) hg h0 (by omega) k (Nat.le_refl _)))
      obtain ⟨z, hzk⟩ := at_ zs k (by rw [HN.out]; exact hlt)
      obtain ⟨z0, z1⟩ := hz z (mem_of_at hzk)
      obtain ⟨b, off, rfl, hcell⟩ := hc (by rw [HN.out]; omega)
      have cz := Br.keep' hB (hcell k z hzk)
      have HW := Lib.hid (nw_at hzk)
      clear hzk hcell hz
      obtain ⟨s, d, hst⟩ : ∃ s d, st (nw zs) g fst k = (s, d) := ⟨_, _, rfl⟩
      rw [hst] at hrow
      have HST := Lib.hid hst
      obtain ⟨s', d', hst'⟩ : ∃ s d, st (nw zs) g fst (k + 1) = (s, d) := ⟨_, _, rfl⟩
      have HNX := Lib.hid (nx_of hst hst' HW.out HI.out.1)
      have HST' := Lib.hid hst'
      clear hst hst'
      have c0 : wr.cell? ⟨w.heap.size, 0, none⟩ = some (.int .i64 s) := (hrow.cell 0).trans rfl
      have c1 : wr.cell? ⟨w.heap.size, 1, none⟩ = some (.int .i64 d) := (hrow.cell 1).trans rfl
      have k0 : (0 : Int) ≤ (k : Int) := by omega
      have k1 : (k : Int) < (n : Int) := by omega
      go_wp2_with (fail)
      have t0 := Int.tmod_eq_emod_of_nonneg (b := 3) z0
      have t1 : IntKind.u8.wrap (z % 3) = z % 3 := IntWalk.u8_in _ (by omega)
      have t2 : IntKind.i64.wrap (z % 3) = z % 3 := IntWalk.i64_in _ (by omega)
      have t3 : IntKind.i64.wrap (fst + k) = fst + k := IntWalk.i64_in _ (by omega)
      have HS : Hid (∀ W, Below wr.heap.size wr W → Below wr.heap.size wr W ∧ W.cell? ⟨w.heap.size, 0, none⟩ = some (.int .i64 s) ∧ W.cell? ⟨w.heap.size, 1, none⟩ = some (.int .i64 d) ∧ W.cell? ⟨b, off + k, none⟩ = some (.int .u8 z)) :=
        fun W h => ⟨h, Br.keep h _ _ _ c0, Br.keep h _ _ _ c1, Br.keep h _ _ _ cz⟩
      go_region_held3 (fun W' => Below wr.heap.size wr W' ∧ W'.cell? ⟨w.heap.size, 0, none⟩ = some (.int .i64 s) ∧ W'.cell? ⟨w.heap.size, 1, none⟩ = some (.int .i64 d) ∧ W'.cell? ⟨b, off + k, none⟩ = some (.int .u8 z))
        ((refine HS.out _ ?_; (repeat (first | (with_reducible exact Below.refl _ _) | (with_reducible refine Below.drew ?_) | (with_reducible refine b_alloc ?_) | (with_reducible refine b_set ?_ (Nat.le_refl _)) | (refine b_call (by assumption) ?_))); done))
        (first | (go_at_call 16; (with_reducible refine (n_fr HNX.out _ _ _ _).mono ?_); rintro e w' ⟨rfl, hb', xr, x0, x1, x2, x3, x4⟩) | (go_at_call 16; (with_reducible refine (n_is HNX.out _).mono ?_); rintro e w' ⟨rfl, hb'⟩))
      · rename_i hH
        have hP : wr.heap.size ≤ w'.heap.size := hb'.size
        go_wp2_with (first
          | (at_builtin
             go_must (refine App.wpList_append_any _ rfl (.tmp 37) (.tmp 39) _ rfl (w.heap.size + 1) 25 i0 _ 2 16 Try.underlying22 hi0 hz0 hz1 hz2 rfl (by omega) u9 k _ rfl (own_keep hown (b_alloc hH.1)) _ _ 1 1 [.int .i64 s', .int .i64 d'] rfl (reads_new (by simp)) (by simp [Value.oneCell']) (by simp only [maxLen]; omega) (by omega) (Nat.le_trans hS (b_alloc hH.1).size) ?_)
             intro v2 w2 hown2 hg2 hat2
             have d0 : w2.cell? ⟨w'.heap.size, 0, none⟩ = some (.int .i64 s') := g_cell hown hg2 hP (by simp [go_sem])
             have d1 : w2.cell? ⟨w'.heap.size, 1, none⟩ = some (.int .i64 d') := g_cell hown hg2 hP (by simp [go_sem])
             have hR2 := g_row hown hg2 (Nat.lt_succ_self _) (hrow.keep (b_alloc hH.1))
             have hB2 := g_below hown hg2 (over (b_alloc hH.1) hB) (Nat.le_succ _)
             have e0 := (hR2.cell 0).trans rfl
             have e1 := (hR2.cell 1).trans rfl
             have f0 := hR2.frozen 0
             have f1 := hR2.frozen 1
             have hS2 := hR2.lt
             clear hg2 hat2 hH)
          | fail)
        go_roundw
        case rel => exact ⟨k + 1, by omega, by go_num, by rw [HST'.out]; exact (hR2.set 0 _).set 1 _, by rw [hist_snoc, bls_append, HST'.out]; exact ownsRow_setCell_below (ownsRow_setCell_below hown2 (Nat.lt_succ_self _) _) (Nat.lt_succ_self _) _, by go_grown⟩
        case measure => simp [intOf]; omega
      · rename_i hH
        have hP : wr.heap.size ≤ wr.heap.size := Nat.le_refl _
        go_wp2_with (first
          | (at_builtin
             go_must (refine App.wpList_append_any _ rfl (.tmp 37) (.tmp 39) _ rfl (w.heap.size + 1) 25 i0 _ 2 16 Try.underlying22 hi0 hz0 hz1 hz2 rfl (by omega) u9 k _ rfl (own_keep hown (b_alloc hH.1)) _ _ 1 1 [.int .i64 s', .int .i64 d'] rfl (reads_new (by simp)) (by simp [Value.oneCell']) (by simp only [maxLen]; omega) (by omega) (Nat.le_trans hS (b_alloc hH.1).size) ?_)
             intro v2 w2 hown2 hg2 hat2
             have d0 : w2.cell? ⟨wr.heap.size, 0, none⟩ = some (.int .i64 s') := g_cell hown hg2 hP (((((xr.set 0 (.int .i64 s')).set 1 (.int .i64 d')).alloc _).cell 0).trans rfl)
             have d1 : w2.cell? ⟨wr.heap.size, 1, none⟩ = some (.int .i64 d') := g_cell hown hg2 hP (((((xr.set 0 (.int .i64 s')).set 1 (.int .i64 d')).alloc _).cell 1).trans rfl)
             have hR2 := g_row hown hg2 (Nat.lt_succ_self _) (hrow.keep (b_alloc hH.1))
             have hB2 := g_below hown hg2 (over (b_alloc hH.1) hB) (Nat.le_succ _)
             have e0 := (hR2.cell 0).trans rfl
             have e1 := (hR2.cell 1).trans rfl
             have f0 := hR2.frozen 0
             have f1 := hR2.frozen 1
             have hS2 := hR2.lt
             clear hg2 hat2 hH)
          | fail)
        go_roundw
        case rel => exact ⟨k + 1, by omega, by go_num, by rw [HST'.out]; exact (hR2.set 0 _).set 1 _, by rw [hist_snoc, bls_append, HST'.out]; exact ownsRow_setCell_below (ownsRow_setCell_below hown2 (Nat.lt_succ_self _) _) (Nat.lt_succ_self _) _, by go_grown⟩
        case measure => simp [intOf]; omega
    · obtain rfl : k = n := by omega
      obtain ⟨A', c', rfl, hr⟩ := own_slice hown
      go_wp2
      go_ret2
      exact ⟨A', c', rfl, by go_grown, brs_of_reads (hist_length _ _ _ _) hr⟩
end Go.Proofs.Ytblegaclcpoonaa.Br
