/- The reference of post: what its calls change; Send. -/
import Derived.Test.YtefikmfogbdhpaaPoU
import Derived.Deep.DeepCutAuto
namespace Go.Proofs.Ytefikmfogbdhpaa.Po
open Go.ChangeShapes Go.WideShapes Go.ChangeAt Go.RowKit Go.Proofs.Ytefikmfogbdhpaa.Cell
set_option linter.unusedVariables false
set_option linter.unusedSimpArgs false
/-- nothing else changes than some blocks -/
structure Only (W w' : World) (R : Nat → Prop) : Prop where
  os : w'.os = W.os
  tape : w'.tape = W.tape
  output : w'.output = W.output
  size : W.heap.size ≤ w'.heap.size
  block : ∀ k, k < W.heap.size → ¬ R k → w'.heap[k]? = W.heap[k]?
section
variable {w W w' w1 w2 : World} {R R' : Nat → Prop}
theorem Only.refl (W : World) (R : Nat → Prop) : Only W W R := ⟨rfl, rfl, rfl, Nat.le_refl _, fun _ _ _ => rfl⟩
theorem Only.of_below (hb : Below W.heap.size W w') (R : Nat → Prop) : Only W w' R := ⟨hb.os, hb.tape, hb.output, hb.size, fun k hk _ => hb.block k hk⟩
theorem Only.trans (h : Only W w1 R) (k : Only w1 w2 R') (hr : ∀ b, R' b → R b ∨ W.heap.size ≤ b) : Only W w2 R :=
  ⟨k.os.trans h.os, k.tape.trans h.tape, k.output.trans h.output, Nat.le_trans h.size k.size, fun b hb hn => (k.block b (Nat.lt_of_lt_of_le hb h.size) (fun c => by
    rcases hr b c with e | e
    · exact hn e
    · omega)).trans (h.block b hb hn)⟩
theorem Only.more (h : Only W w1 R) (hb : Below w1.heap.size w1 w2) : Only W w2 R := h.trans (R' := R) (Only.of_below hb R) (fun b e => .inl e)
theorem Only.set (h : Only W w1 R) {p : Addr} (hp : R p.block ∨ W.heap.size ≤ p.block) (v : Value) : Only W (w1.setCell p v) R :=
  have hb : Below 0 w1 (w1.setCell p v) := Below.setCell (Below.refl 0 w1) (Nat.zero_le _) v
  ⟨hb.os.trans h.os, hb.tape.trans h.tape, hb.output.trans h.output, Nat.le_trans h.size hb.size, fun k hk hn => (Below.heap_setCell w1 p v k (fun e => by
    subst e
    rcases hp with e | e
    · exact hn e
    · omega)).trans (h.block k hk hn)⟩
theorem Only.grown {r : Option Nat} (h : Only W w1 R) (hg : w1.grownBy w2 r) (hr : ∀ b, r = some b → R b ∨ W.heap.size ≤ b) : Only W w2 R :=
  ⟨hg.os.trans h.os, hg.tape.trans h.tape, hg.output.trans h.output, Nat.le_trans h.size hg.size, fun k hk hn => (hg.block k (Nat.lt_of_lt_of_le hk h.size) (fun e => by
    rcases hr k e.symm with e | e
    · exact hn e
    · omega)).trans (h.block k hk hn)⟩
theorem Only.below (hb : Below w.heap.size w W) (h : Only W w' R) (hr : ∀ b, R b → w.heap.size ≤ b) : Below w.heap.size w w' :=
  ⟨h.os.trans hb.os, h.tape.trans hb.tape, h.output.trans hb.output, Nat.le_trans hb.size h.size, fun k hk => (h.block k (Nat.lt_of_lt_of_le hk hb.size) (fun e => by have := hr k e; omega)).trans (hb.block k hk)⟩
theorem Only.grow {r : Option Nat} (h : Only W w' (fun b => r = some b)) : W.grownBy w' r := ⟨h.os, h.tape, h.output, h.size, fun k hk hn => h.block k hk (fun e => hn e.symm)⟩
theorem Only.row {g : Nat} {t : TypeId} {cs : Array Value} (h : Only W w' R) (hr : Row W g t cs) (hn : ¬ R g) : Row w' g t cs := (h.block g hr.lt hn).trans hr
theorem Only.cell {b o : Nat} {v : Value} (h : Only W w' R) (hc : W.cell? ⟨b, o, none⟩ = some v) (hn : ¬ R b) : w'.cell? ⟨b, o, none⟩ = some v := by
  have hb := World.block_lt_of_cell? W ⟨b, o, none⟩ hc
  exact (World.cell?_of_block (h.block b hb hn)).trans hc
end
/-- the reference's blocks -/
def Rb (gm : Nat) (Am Ah : Option Addr) (b : Nat) : Prop := b = gm ∨ (∃ a, Am = some a ∧ a.block = b) ∨ ∃ a, Ah = some a ∧ a.block = b
theorem ob_mem {A : Option Addr} {n c b : Nat} (h : (Value.slice A n c).ownBlock = some b) : ∃ a, A = some a ∧ a.block = b := by
  cases A with
  | none => cases h
  | some a => injection h with h; exact ⟨a, rfl, h⟩
theorem mem_ob {A : Option Addr} {n c b : Nat} (h : ∃ a, A = some a ∧ a.block = b) : (Value.slice A n c).ownBlock = some b := by
  obtain ⟨a, rfl, rfl⟩ := h
  rfl
theorem Wq.only {W w' : World} {A : Option Addr} {n c q : Nat} {A2 : Option Addr} {n2 c2 : Nat} {S : List En} {H : List Bool} {R : Nat → Prop} (h : Wq W A n c q A2 n2 c2 S H) (ho : Only W w' R) (hA : 0 < n → ∀ a, A = some a → ¬ R a.block) (hB : 0 < n2 → ∀ a, A2 = some a → ¬ R a.block) : Wq w' A n c q A2 n2 c2 S H := by
  refine ⟨h.hn, h.hq, h.hn2, fun h0 => ?_, fun h0 => ?_, h.hl, h.hb, h.hc⟩
  · obtain ⟨b, off, e, hc⟩ := h.he h0
    have hr := hA (by have := h.hn; omega) _ e
    exact ⟨b, off, e, fun j x hx => by
      obtain ⟨a0, a1, a2, a3, a4⟩ := hc j x hx
      exact ⟨ho.cell a0 hr, ho.cell a1 hr, ho.cell a2 hr, ho.cell a3 hr, ho.cell a4 hr⟩⟩
  · obtain ⟨b, off, e, hc⟩ := h.hi h0
    have hr := hB (by have := h.hn2; omega) _ e
    exact ⟨b, off, e, fun j x hx => ho.cell (hc j x hx) hr⟩
theorem infoB : (Try.prog.info? 4).map (fun i => (i.zero, i.size, i.bytes)) = some (some (.bool false), 1, 1) := by kernel_rfl
theorem ky7 {W W1 W2 : World} {R : Nat → Prop} {gm k : Nat} {v u0 u1 u2 u3 u4 : Value} (h : Only W W1 R ∧ W1.cell? ⟨gm, 0, none⟩ = some v ∧ W1.cell? ⟨k, 0, none⟩ = some u0 ∧ W1.cell? ⟨k, 1, none⟩ = some u1 ∧ W1.cell? ⟨k, 2, none⟩ = some u2 ∧ W1.cell? ⟨k, 3, none⟩ = some u3 ∧ W1.cell? ⟨k, 4, none⟩ = some u4) (hb : Below W1.heap.size W1 W2) : Only W W2 R ∧ W2.cell? ⟨gm, 0, none⟩ = some v ∧ W2.cell? ⟨k, 0, none⟩ = some u0 ∧ W2.cell? ⟨k, 1, none⟩ = some u1 ∧ W2.cell? ⟨k, 2, none⟩ = some u2 ∧ W2.cell? ⟨k, 3, none⟩ = some u3 ∧ W2.cell? ⟨k, 4, none⟩ = some u4 := by
  obtain ⟨h0, h1, h2, h3, h4, h5, h6⟩ := h
  exact ⟨h0.more hb, Gen.keep hb h1, Gen.keep hb h2, Gen.keep hb h3, Gen.keep hb h4, Gen.keep hb h5, Gen.keep hb h6⟩
theorem reads_row1 {W : World} {g K n : Nat} {t : TypeId} {cs : Array Value} (hr : Row W g t cs) (hK : cs.size = n * K) : App.Reads W (g + 1) K (some ⟨g, 0, none⟩) n cs.toList := by
  refine ⟨by simpa using hK, fun _ => ⟨⟨g, 0, none⟩, rfl, Nat.lt_succ_self _, fun j u hu => ?_⟩⟩
  have e : (⟨g, 0, none⟩ : Addr).add j = ⟨g, j, none⟩ := by unfold Addr.add; split <;> simp_all
  rw [e, hr.cell j]
  simpa using hu
section
variable {W : World} {lo gm : Nat} {Am : Option Addr} {n cm : Nat} {Ah : Option Addr} {ch : Nat} {S : List En} {H : List Bool}
set_option maxRecDepth 100000 in
set_option maxHeartbeats 4000000 in
theorem msend_is (x : En) (h : Mw W lo gm Am n cm Ah ch S H) (hlo : lo ≤ W.heap.size) (hb : n < 10000) :
    Calls Try.prog 14 #[.pointer (some ⟨gm, 0, none⟩), .agg #[.int .i64 x.id, .int .i64 x.dy, .int .i64 x.fr, .int .i64 x.tt, .int .i64 x.am]] W fun e w' => e = .returned (.int .i64 0) ∧ ∃ Am' cm' Ah' ch', Mw w' lo gm Am' (n + 1) cm' Ah' ch' (S ++ [x]) (H ++ [false]) ∧ Only W w' (Rb gm Am Ah) ∧ ∀ b, Rb gm Am' Ah' b → Rb gm Am Ah b ∨ W.heap.size ≤ b := by
  have HH := Lib.hid h
  have HB0 : Below W.heap.size W (W.alloc (.cells #[.int .i64 x.id, .int .i64 x.dy, .int .i64 x.fr, .int .i64 x.tt, .int .i64 x.am] 36)) := Gen.b_alloc (Below.refl _ _)
  have HW0 := Lib.hid (h.keep HB0)
  have HRx : Row (W.alloc (.cells #[.int .i64 x.id, .int .i64 x.dy, .int .i64 x.fr, .int .i64 x.tt, .int .i64 x.am] 36)) W.heap.size 36 #[.int .i64 x.id, .int .i64 x.dy, .int .i64 x.fr, .int .i64 x.tt, .int .i64 x.am] := Row.new _ _ _
  have HO0 := Lib.hid (Only.of_below HB0 (Rb gm Am Ah))
  have hsz0 : (W.alloc (.cells #[.int .i64 x.id, .int .i64 x.dy, .int .i64 x.fr, .int .i64 x.tt, .int .i64 x.am] 36)).heap.size = W.heap.size + 1 := by simp
  obtain ⟨iE, hiE, hzE, hyE, hxE⟩ := info_parts' infoE
  obtain ⟨iB, hiB, hzB, hyB, hxB⟩ := info_parts' infoB
  have hgl := h.r.lt
  clear h HB0
  go_enter Try.func14, Try.ntmps14
  go_upto_region 1 with (fail)
  generalize (W.alloc (.cells #[.int .i64 x.id, .int .i64 x.dy, .int .i64 x.fr, .int .i64 x.tt, .int .i64 x.am] 36)) = W0 at *
  have d0 := HW0.out.r.cell 0
  have hbI : (n : Int) < 10000 := by omega
  have hbF : ¬ (10000 : Int) ≤ (n : Int) := by omega
  go_upto_region 3 with (fail)
  have e0 := HRx.cell 0
  have e1 := HRx.cell 1
  have e2 := HRx.cell 2
  have e3 := HRx.cell 3
  have e4 := HRx.cell 4
  have a0 := (HW0.out.r.alloc (.cells #[.int .i64 x.id, .int .i64 x.dy, .int .i64 x.fr, .int .i64 x.tt, .int .i64 x.am] 36)).cell 0
  have b0 := (HRx.alloc (.cells #[.int .i64 x.id, .int .i64 x.dy, .int .i64 x.fr, .int .i64 x.tt, .int .i64 x.am] 36)).cell 0
  have b1 := (HRx.alloc (.cells #[.int .i64 x.id, .int .i64 x.dy, .int .i64 x.fr, .int .i64 x.tt, .int .i64 x.am] 36)).cell 1
  have b2 := (HRx.alloc (.cells #[.int .i64 x.id, .int .i64 x.dy, .int .i64 x.fr, .int .i64 x.tt, .int .i64 x.am] 36)).cell 2
  have b3 := (HRx.alloc (.cells #[.int .i64 x.id, .int .i64 x.dy, .int .i64 x.fr, .int .i64 x.tt, .int .i64 x.am] 36)).cell 3
  have b4 := (HRx.alloc (.cells #[.int .i64 x.id, .int .i64 x.dy, .int .i64 x.fr, .int .i64 x.tt, .int .i64 x.am] 36)).cell 4
  have HNO := Lib.hid (show ∀ b, (Value.slice Am n cm).ownBlock = some b → Rb gm Am Ah b ∨ W.heap.size ≤ b from fun b hb => .inl (.inr (.inl (ob_mem hb))))
  have N1 := Lib.hid (show n + 1 ≤ maxLen from by simp only [maxLen]; omega)
  have N2 := Lib.hid (show (n + 1) * 40 ≤ 140737488355328 from by omega)
  clear HRx
  go_cut [] (fun wx => ∃ A' c', Hid (Only W wx (Rb gm Am Ah)) ∧ Hid (Row wx gm 49 #[.slice A' (n + 1) c', .slice Ah n ch]) ∧ Hid (wx.ownsRow lo 36 5 (.slice A' (n + 1) c') (n + 1) ((S ++ [x]).flatMap ecs)) ∧ Hid (wx.ownsRow lo 4 1 (.slice Ah n ch) n (bls H)) ∧ Hid ((Value.slice A' (n + 1) c').ownBlock = (Value.slice Am n cm).ownBlock ∨ ∃ b, (Value.slice A' (n + 1) c').ownBlock = some b ∧ W.heap.size + 1 ≤ b) ∧ Hid ((Value.slice A' (n + 1) c').ownBlock ≠ some gm))
  case first =>
    go_region_law (refine App.step_append_any _ (by rfl) (.tmp 15) (.tmp 17) 22 (by rfl) lo 36 iE _ 5 40 Try.underlying22 hiE hzE hyE hxE rfl (by omega) (.slice Am n cm) n (S.flatMap ecs) (by simp [Act.eval, Act.put]) (Gen.own_keep HW0.out.os (Gen.b_alloc (x := (.cells #[.int .i64 x.id, .int .i64 x.dy, .int .i64 x.fr, .int .i64 x.tt, .int .i64 x.am] 36)) (Below.refl _ _)).drew) (W0.heap.size + 1) (some ⟨W0.heap.size, 0, none⟩) 1 1 (ecs x) (by simp [Act.eval, Act.put]) (App.Reads.drew (Gen.reads_blk (W := W0) (cs := #[.int .i64 x.id, .int .i64 x.dy, .int .i64 x.fr, .int .i64 x.tt, .int .i64 x.am]) rfl rfl)) (ecs_one1 _) N1.out N2.out (by simp; omega) ?_; intro v7 w7 hown7 hg7 hat7; have hR7 : Row w7 gm 49 #[.slice Am n cm, .slice Ah n ch] := row_grown ((HW0.out.r.alloc (.cells #[.int .i64 x.id, .int .i64 x.dy, .int .i64 x.fr, .int .i64 x.tt, .int .i64 x.am] 36)).keep (Below.refl _ _).drew) hg7 HW0.out.n1; have f0 := hR7.cell 0; have f1 := hR7.frozen 0; obtain ⟨A5, c5, rfl, _⟩ := Gen.own_slice hown7)
    all_goals
      have hO7 := Only.grown (HO0.out.more (Gen.b_alloc (x := (.cells #[.int .i64 x.id, .int .i64 x.dy, .int .i64 x.fr, .int .i64 x.tt, .int .i64 x.am] 36)) (Below.refl _ _)).drew) hg7 HNO.out
      have hne7 : (Value.slice A5 (n + 1) c5).ownBlock ≠ some gm := by
        rcases hat7 with e | e
        · rw [e]; exact HW0.out.n1
        · rw [e]; intro c; injection c with c; simp at c; omega
      have hoh7 := (Gen.own_keep HW0.out.oh (Gen.b_alloc (x := (.cells #[.int .i64 x.id, .int .i64 x.dy, .int .i64 x.fr, .int .i64 x.tt, .int .i64 x.am] 36)) (Below.refl _ _)).drew).kept hg7 (ne_of HW0.out.ne)
      have hat : (Value.slice A5 (n + 1) c5).ownBlock = (Value.slice Am n cm).ownBlock ∨ ∃ b, (Value.slice A5 (n + 1) c5).ownBlock = some b ∧ W.heap.size + 1 ≤ b := by
        rcases hat7 with e | e
        · exact .inl e
        · exact .inr ⟨_, e, by simp; omega⟩
      have hfl : (S ++ [x]).flatMap ecs = S.flatMap ecs ++ ecs x := by simp
      go_wp2
      go_meet
      exact ⟨A5, c5, Lib.hid (hO7.set (.inl (.inl rfl)) _), Lib.hid (hR7.set 0 _), Lib.hid (by rw [hfl]; exact own_put_ne hown7 (p := ⟨gm, 0, none⟩) hne7 _), Lib.hid (own_put_ne hoh7 (p := ⟨gm, 0, none⟩) HW0.out.n2 _), Lib.hid hat, Lib.hid hne7⟩
  case rest =>
    obtain ⟨A', c', HON, HRN, HOS, HOH, HAT, HNE⟩ := hcut
    clear e0 e1 e2 e3 e4 a0 b0 b1 b2 b3 b4 d0 N1 N2
    have d0 := HRN.out.cell 0
    have d1 := HRN.out.cell 1
    have d1f := HRN.out.frozen 1
    have dl := HRN.out.lt
    have HNH := Lib.hid (show ∀ b, (Value.slice Ah n ch).ownBlock = some b → Rb gm Am Ah b ∨ W.heap.size ≤ b from fun b hb => .inl (.inr (.inr (ob_mem hb))))
    have HSZ := Lib.hid HON.out.size
    have HNE2 := Lib.hid (show ∀ b, (Value.slice Ah n ch).ownBlock = some b → (Value.slice A' (n + 1) c').ownBlock ≠ some b from fun b e1 e2 => by
      rcases HAT.out with e | ⟨b', e, hb'⟩
      · exact HW0.out.ne b (e.symm.trans e2) e1
      · have := (HW0.out.oh.lt _ e1).2
        rw [e] at e2
        injection e2 with e2
        omega)
    go_upto_region 5 with (first
      | (at_builtin
         go_must (refine App.wpList_append_any _ rfl (.tmp 25) (.tmp 26) _ rfl lo 4 iB _ 1 1 Try.underlying47 hiB hzB hyB hxB rfl (by omega) (.slice Ah n ch) n (bls H) rfl (Gen.own_keep HOH.out (Gen.b_alloc (Below.refl _ _))) (wc.heap.size + 1) (some ⟨wc.heap.size, 0, none⟩) 1 1 [.bool false] rfl (Gen.reads_blk rfl rfl) (by simp [Value.oneCell']) (by simp only [maxLen]; omega) (by omega) (by have := HSZ.out; simp; omega) ?_
                  intro v8 w8 hown8 hg8 hat8
                  obtain ⟨A8, c8, rfl, _⟩ := Gen.own_slice hown8
                  have hr8 := row_grown ((HRN.out).alloc (.cells #[.bool false] 4)) hg8 HW0.out.n2
                  have hO8 := Only.grown (HON.out.more (Gen.b_alloc (x := .cells #[.bool false] 4) (Below.refl _ _))) hg8 HNH.out
                  have hos8 := (Gen.own_keep HOS.out (Gen.b_alloc (x := .cells #[.bool false] 4) (Below.refl _ _))).kept hg8 (ne_of HNE2.out)
                  have hat9 : (Value.slice A8 (n + 1) c8).ownBlock = (Value.slice Ah n ch).ownBlock ∨ ∃ b, (Value.slice A8 (n + 1) c8).ownBlock = some b ∧ wc.heap.size + 1 ≤ b := by
                    rcases hat8 with e | e
                    · exact .inl e
                    · exact .inr ⟨_, e, by simp⟩
                  have z1 := hr8.cell 1
                  have z2 := hr8.frozen 1
                  have z3 := hr8.lt
                  have HR8 := Lib.hid hr8
                  have HO8 := Lib.hid hO8
                  have HOS8 := Lib.hid hos8
                  have HOH8 := Lib.hid hown8
                  have HAT8 := Lib.hid hat9
                  clear hown8 hg8 hat8 hr8 hO8 hos8 hat9))
      | fail)
    clear d0 d1 d1f dl
    clear z1 z2 z3
    have hgl2 := HRN.out.lt
    have hn8 : (Value.slice A8 (n + 1) c8).ownBlock ≠ some gm := fun e => by
      rcases HAT8.out with e' | ⟨b, e', hb'⟩
      · exact HW0.out.n2 (e'.symm.trans e)
      · rw [e] at e'; injection e' with e'; omega
    have hfl : bls (H ++ [false]) = bls H ++ [.bool false] := by simp [bls]
    have HFIN := Lib.hid (show Mw (w8.setCell ⟨gm, 1, none⟩ (.slice A8 (n + 1) c8)) lo gm A' (n + 1) c' A8 c8 (S ++ [x]) (H ++ [false]) from ⟨HR8.out.set 1 _, own_put_ne HOS8.out (p := ⟨gm, 1, none⟩) HNE.out _, by rw [hfl]; exact own_put_ne HOH8.out (p := ⟨gm, 1, none⟩) hn8 _, by simp [HW0.out.hn], by simp [HW0.out.hl], HW0.out.lg, HNE.out, hn8, fun b e1 e2 => by
      rcases HAT8.out with e' | ⟨b', e', hb'⟩
      · exact HNE2.out b (e'.symm.trans e2) e1
      · rw [e2] at e'
        injection e' with e'
        have := (HOS.out.lt _ e1).2
        omega⟩)
    have HOF := Lib.hid (HO8.out.set (p := ⟨gm, 1, none⟩) (.inl (.inl rfl)) (.slice A8 (n + 1) c8))
    have HBF := Lib.hid (show ∀ b, Rb gm A' A8 b → Rb gm Am Ah b ∨ W.heap.size ≤ b from fun b hb => by
      rcases hb with hb | hb | hb
      · exact .inl (.inl hb)
      · rcases HAT.out with e | ⟨b', e, hb'⟩
        · exact .inl (.inr (.inl (ob_mem (e.symm.trans (mem_ob hb)))))
        · have e2 := mem_ob (n := n + 1) (c := c') hb
          rw [e] at e2
          injection e2 with e2
          exact .inr (by omega)
      · rcases HAT8.out with e | ⟨b', e, hb'⟩
        · exact .inl (.inr (.inr (ob_mem (e.symm.trans (mem_ob hb)))))
        · have e2 := mem_ob (n := n + 1) (c := c8) hb
          rw [e] at e2
          injection e2 with e2
          have := HSZ.out
          exact .inr (by omega))
    clear hfl hn8 hgl2
    go_wp2
    exact bodyPost_ret (v := .int .i64 0) (by simp [results, Try.results14, go_sem, *]) rfl ⟨rfl, A', c', A8, ⟨c8, HFIN.out⟩, HOF.out, HBF.out⟩
end
end Go.Proofs.Ytefikmfogbdhpaa.Po
