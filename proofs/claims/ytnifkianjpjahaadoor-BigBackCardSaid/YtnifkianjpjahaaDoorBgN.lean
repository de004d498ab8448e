/- Big integers: Neg, and what ints are. -/
import Derived.Test.YtnifkianjpjahaaDoorBgM
namespace Go.Proofs.YtnifkianjpjahaaDoor.Bg
open Go.ChangeShapes Go.WideShapes Go.ChangeAt Go.RowKit Go.Proofs.YtnifkianjpjahaaDoor.Cell
set_option linter.unusedVariables false
set_option linter.unusedSimpArgs false

set_option maxRecDepth 100000 in
set_option maxHeartbeats 4000000 in
theorem neg_val {x : Int} {va : Value} (w : World) (hx : IsBig w va x) :
    Calls Tryd.prog 21 #[va] w fun e w' => ∃ v, e = .returned v ∧ IsBig w' v (-x) ∧ Below w.heap.size w w' := by
  obtain ⟨A, c, a, rfl, ha, na, h60⟩ := hx.ex
  obtain ⟨n, hn⟩ : ∃ n, a.length = n := ⟨_, rfl⟩
  rw [hn] at hx h60 ⊢
  have HX := Lib.hid hx
  have HAA := Lib.hid ha
  have HN := Lib.hid hn
  have HNN : Hid (Nm a (-x).natAbs) := Lib.hid (na.to (by omega))
  have hwn := wrap_sg x
  have HR0 := Lib.hid (boxW_res w x A n c)
  have R0 : Hid (Row (boxW w x A n c) w.heap.size 24 #[.int .i64 (sg x), .slice A n c]) := Lib.hid ((Row.new _ _ _).alloc _)
  unfold boxW at HR0 R0
  clear hx ha na hn
  go_enter Tryd.func21, Tryd.ntmps21
  go_wp2_with (fail)
  go_must (refine (right_val (HX.out.keep HR0.out.bl)).mono ?_)
  rintro e w2 ⟨rfl, hb2⟩
  have HR2 := Lib.hid (HR0.out.keep hb2)
  have r0 := R0.out.keep hb2
  have c0 := r0.cell 0
  have c1 := r0.cell 1
  clear hb2 HR0 R0
  have C0 := Lib.hid c0
  have C1 := Lib.hid c1
  clear r0
  go_wp2_with (fail)
  go_region_held3 (fun W' : World => Below w.heap.size w W' ∧ W'.cell? ⟨w.heap.size, 0, none⟩ = some (.int .i64 (sg x)) ∧ W'.cell? ⟨w.heap.size, 1, none⟩ = some (.slice A n c))
    (first | exact ⟨HR2.out.bl.drew, C0.out, C1.out⟩ | exact ⟨Gen.over (by assumption) (And.left (by assumption)), Gen.keep (by assumption) (And.left (And.right (by assumption))), Gen.keep (by assumption) (And.right (And.right (by assumption)))⟩ | exact ⟨Res.put (by assumption) _ _, put_cell (by assumption) _ _ (by omega) (And.left (And.right (by assumption))), put_cell (by assumption) _ _ (by omega) (And.right (And.right (by assumption)))⟩)
    (first
      | (go_at_call 37; refine (clone_any _ HN.out (HAA.out.keep (And.left (by assumption))) (by omega)).mono ?_; rintro e' w' ⟨A2, c2, rfl, hI2, hb2⟩; have hR2 := (HR2.out.keep (Below.refl _ _).drew).keep hb2)
      | (go_at_call 35; refine (signed_any _ HN.out hI2 HNN.out h60 (fun _ => rfl)).mono ?_; rintro e' w' ⟨v, rfl, hv, hb3⟩; obtain ⟨A3, c3, l3, rfl, _⟩ := hv.ex; have hR3 := hR2.keep hb3; have d0 := hR3.c0; have d1 := hR3.c1; have f0 := hR3.row.frozen 0; have f1 := hR3.row.frozen 1; have hg := hR3.row.lt))
  all_goals
    go_wp2
    refine bodyPost_ret (v := bigV (sg (-x)) A3 l3.length c3) ?_ rfl ⟨_, rfl, hR3.big hv _ _, hR3.put _ _⟩
    simp [results, Tryd.results21, go_sem, *]
theorem and_mask_u (n : Int) (h : 0 ≤ n ∧ n ≤ 18446744073709551615) : bits .and .u64 n 1048575 = n % 1048576 :=
  bits_mask .u64 64 (by decide) (fun n h0 h1 => IntWalk.u64_in n (by omega)) 20 (by decide) n h.1 (by omega)
/-- an unsigned number, digit by digit -/
structure Um (u : Int) (out : List Int) (k : Nat) (r : Int) : Prop where
  dg : Dg out
  len : out.length = k
  rng : 0 ≤ r ∧ r ≤ 18446744073709551615
  eq : val out + pw k * r = u
  tr : r = 0 → Tr out
theorem Um.start {u : Int} (h : 0 ≤ u ∧ u ≤ 18446744073709551615) : Um u [] 0 u := ⟨Dg.nil, rfl, h, by rw [val_nil, pw_zero]; omega, fun _ => Tr.nil⟩
theorem Um.step {u r : Int} {out : List Int} {k : Nat} (h : Um u out k r) (hr : 0 < r) : Um u (out ++ [r % 1048576]) (k + 1) (r / 1048576) := by
  have h3 := h.rng
  refine ⟨h.dg.snoc (by omega), by rw [List.length_append, h.len]; rfl, by omega, ?_, fun e => Tr.snoc (by omega)⟩
  rw [val_snoc, h.len, pw_succ, ← h.eq]
  have h4 : 1048576 * (r / 1048576) + r % 1048576 = r := by omega
  obtain ⟨q, hq⟩ : ∃ q, r / 1048576 = q := ⟨_, rfl⟩
  obtain ⟨d, hd⟩ : ∃ d, r % 1048576 = d := ⟨_, rfl⟩
  rw [hq, hd] at h4
  rw [hq, hd, ← h4]
  grind
theorem Um.few {u r : Int} {out : List Int} {k : Nat} (h : Um u out k r) (hu : u ≤ 18446744073709551615) (hr : 0 < r) : k ≤ 3 := by
  have h1 := h.eq
  have h2 := val_nonneg h.dg
  by_cases hk : k ≤ 3
  · exact hk
  · have h3 := pw_le (show 4 ≤ k by omega)
    have h4 : pw k * 1 ≤ pw k * r := Int.mul_le_mul_of_nonneg_left (by omega) (by have := pw_pos k; omega)
    have h5 : pw 4 = 1208925819614629174706176 := by decide
    omega
theorem Um.done {u : Int} {out : List Int} {k : Nat} (h : Um u out k 0) : Nm out u := ⟨h.dg, h.tr rfl, by have := h.eq; omega⟩
set_option maxRecDepth 100000 in
set_option maxHeartbeats 8000000 in
theorem ofMag_any {s u z : Int} (w : World) (hu : 0 ≤ u ∧ u ≤ 18446744073709551615) (hz : (z.natAbs : Int) = u) (hs : z ≠ 0 → s = sg z) :
    Calls Tryd.prog 29 #[.int .i64 s, .int .u64 u] w fun e w' => ∃ v, e = .returned v ∧ IsBig w' v z ∧ Below w.heap.size w w' := by
  obtain ⟨iI, hiI, hzI, hyI, hxI⟩ := info_parts infoI
  have HU := Lib.hid hu
  have HZ := Lib.hid hz
  have HS := Lib.hid hs
  have HM0 := Lib.hid (Um.start hu)
  have HR0 := Lib.hid (Res.new (Below.refl w.heap.size w))
  have HO0 : Hid ((w.alloc (.cells #[.int .i64 0, .slice none 0 0] 24)).ownsRow (w.heap.size + 1) 3 1 (.slice none 0 0) 0 (ints [])) := Lib.hid (World.ownsRow_nil _ _ _ _)
  clear hu hz hs
  go_enter Tryd.func29, Tryd.ntmps29
  go_wp2
  go_loopw [1, 5] (fun uv lv wr => ∃ (k : Nat) (A2 : Option Addr) (c2 : Nat) (out : List Int) (r : Int), uv = .int .u64 r ∧ lv = .slice A2 k c2 ∧ Hid (wr.ownsRow (w.heap.size + 1) 3 1 (.slice A2 k c2) k (ints out)) ∧ Hid (Um u out k r) ∧ Hid (Res w wr w.heap.size)) (fun uv _ _ => (intOf uv).toNat)
  case atStart => exact ⟨0, _, _, [], u, rfl, rfl, HO0, HM0, HR0⟩
  case round =>
    clear HO0 HM0 HR0
    obtain ⟨k, A2, c2, out, r, rfl, rfl, HO, HM, HR⟩ := hrel
    obtain ⟨r0, r1⟩ := HM.out.rng
    by_cases hr : 0 < r
    · have hk := HM.out.few HU.out.2 hr
      have hs := HM.out.step hr
      have hand := and_mask_u r ⟨r0, r1⟩
      obtain ⟨d, hd⟩ : ∃ d, r % 1048576 = d := ⟨_, rfl⟩
      obtain ⟨q, hq⟩ : ∃ q, r / 1048576 = q := ⟨_, rfl⟩
      have hwd : IntKind.i64.wrap d = d := IntWalk.i64_in _ (by omega)
      have hm : q.toNat < r.toNat := by omega
      rw [hd, hq] at hs
      rw [hd] at hand
      have HS2 := Lib.hid hs
      have N1 : Hid (k + 1 ≤ maxLen) := Lib.hid (by simp only [maxLen]; omega)
      have N2 : Hid ((k + 1) * 8 ≤ 140737488355328) := Lib.hid (by omega)
      have HM2 := Lib.hid hm
      have hg := HR.out.row.lt
      clear hs hd hm
      go_wp2_with (first
        | (at_builtin
           go_must (refine App.wpList_append_any _ rfl (.tmp 10) (.tmp 14) _ rfl (w.heap.size + 1) 3 iI _ 1 8 Tryd.underlying22 hiI hzI hyI hxI rfl (by omega) (.slice A2 k c2) k (ints out) rfl (Gen.own_keep HO.out (Gen.b_alloc (Below.refl _ _))) _ _ 1 1 (ints [d]) rfl (Gen.reads_blk (by simp) rfl) (by simp [ints, Value.oneCell']) N1.out N2.out (by simp; omega) ?_)
           intro v7 w7 ho7 hg7 ha7
           have HR7 : Hid (Res w w7 w.heap.size) := Lib.hid ⟨Gen.g_row HO.out hg7 (by omega) (HR.out.row.alloc _), Gen.g_below HO.out hg7 (Gen.b_alloc HR.out.bl) (by omega), Nat.le_refl _⟩
           obtain ⟨A7, c7, hv7, _⟩ := Gen.own_slice ho7
           subst hv7
           have HO7 := Lib.hid ho7
           clear hg7 ha7 ho7)
        | fail)
      go_roundw
      case rel => exact ⟨k + 1, A7, c7, out ++ [d], q, rfl, rfl, Lib.hid (by rw [ints, List.map_append]; exact HO7.out), HS2, HR7⟩
      case measure => have := HM2.out; simp [intOf]; omega
    · obtain rfl : r = 0 := by omega
      have HD := Lib.hid HM.out.done
      have HL := Lib.hid HM.out.len
      obtain ⟨A7, c7, hv7, hI7⟩ := ints_own HO.out HM.out.len
      injection hv7 with e1 _ e2
      subst e1 e2
      have HI7 := Lib.hid hI7
      clear hI7 hr
      have HNZ : Hid (Nm out z.natAbs) := Lib.hid (HD.out.to HZ.out.symm)
      have hk60 : k ≤ 60 := by
        rw [← HL.out]
        refine (HD.out.len 60).2 ?_
        have := HU.out.2
        have h5 := pw_le (show 4 ≤ 60 by omega)
        have h6 : pw 4 = 1208925819614629174706176 := by decide
        omega
      go_wp2_with (fail)
      go_must (refine (signed_any _ HL.out HI7.out HNZ.out hk60 HS.out).mono ?_)
      rintro e w4 ⟨v, rfl, hv, hb4⟩
      obtain ⟨A3, c3, l3, rfl, _⟩ := hv.ex
      have HR2 := Lib.hid (HR.out.keep hb4)
      have HV := Lib.hid hv
      have d0 := HR2.out.c0
      have d1 := HR2.out.c1
      have f0 := HR2.out.row.frozen 0
      have f1 := HR2.out.row.frozen 1
      have hg := HR2.out.row.lt
      clear hb4 hv HR
      go_wp2
      refine bodyPost_ret (v := bigV (sg z) A3 l3.length c3) ?_ rfl ⟨_, rfl, HR2.out.big HV.out _ _, HR2.out.put _ _⟩
      simp [results, Tryd.results29, go_sem, *]
end Go.Proofs.YtnifkianjpjahaaDoor.Bg
