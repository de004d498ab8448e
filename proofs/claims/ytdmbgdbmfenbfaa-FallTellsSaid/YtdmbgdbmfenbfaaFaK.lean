/- Fall: Run. -/
import Derived.Test.YtdmbgdbmfenbfaaFaM
import Derived.BigRegion
namespace Go.Proofs.Ytdmbgdbmfenbfaa.Fa
open Go.ChangeShapes Go.WideShapes Go.ChangeAt Go.RowKit Go.Proofs.Ytdmbgdbmfenbfaa.Cell
set_option linter.unusedVariables false
set_option linter.unusedSimpArgs false
section
variable (c r t e m : Int) (tr : List Tr) (te : List Te) (st : List St) (A1 A2 A3 : Option Addr) (c1 c2 c3 q v z : Nat) (w : World)
set_option maxRecDepth 100000 in
set_option maxHeartbeats 8000000 in
theorem run_ok (hq : tr.length = q) (hv : te.length = v) (hz : st.length = z) (h : Dm w ⟨c, r, t, e, tr, te, st⟩ ⟨A1, c1, A2, c2, A3, c3⟩) (hg : rgb ⟨c, r, t, e, tr, te, st⟩ = true) (hm : mon m) (hs : m + t ≤ 1000000000000000) :
    Calls Try.prog 8 #[.agg #[.int .i64 c, .int .i64 r, .int .i64 t, .int .i64 e, .slice A1 q c1, .slice A2 v c2, .slice A3 z c3], .int .i64 m] w (RunQ w ⟨c, r, t, e, tr, te, st⟩ m) := by
  have hB : Below w.heap.size w ((w.alloc (.cells #[.int .i64 c, .int .i64 r, .int .i64 t, .int .i64 e, .slice A1 q c1, .slice A2 v c2, .slice A3 z c3] 26)).alloc (.cells #[.int .i64 0, .int .i64 0, .int .i64 0, .int .i64 0, .slice none 0 0, .slice none 0 0, .slice none 0 0] 26)) := Gen.b_alloc (Gen.b_alloc (Below.refl _ _))
  have HM := Lib.hid (h.keep hB)
  have HM0 := Lib.hid h
  have hr0 : Row ((w.alloc (.cells #[.int .i64 c, .int .i64 r, .int .i64 t, .int .i64 e, .slice A1 q c1, .slice A2 v c2, .slice A3 z c3] 26)).alloc (.cells #[.int .i64 0, .int .i64 0, .int .i64 0, .int .i64 0, .slice none 0 0, .slice none 0 0, .slice none 0 0] 26)) w.heap.size 26 #[.int .i64 c, .int .i64 r, .int .i64 t, .int .i64 e, .slice A1 q c1, .slice A2 v c2, .slice A3 z c3] := (Row.new _ _ _).alloc _
  have hr1 : Row ((w.alloc (.cells #[.int .i64 c, .int .i64 r, .int .i64 t, .int .i64 e, .slice A1 q c1, .slice A2 v c2, .slice A3 z c3] 26)).alloc (.cells #[.int .i64 0, .int .i64 0, .int .i64 0, .int .i64 0, .slice none 0 0, .slice none 0 0, .slice none 0 0] 26)) (w.heap.size + 1) 26 #[.int .i64 0, .int .i64 0, .int .i64 0, .int .i64 0, .slice none 0 0, .slice none 0 0, .slice none 0 0] := Gen.rowAt _ _ _ (by simp)
  have HR0 := Lib.hid hr0
  have HR1 := Lib.hid hr1
  have HB := Lib.hid hB
  have HQ := Lib.hid hq
  have HV := Lib.hid hv
  have HZ := Lib.hid hz
  have HG := Lib.hid hg
  have HMm := Lib.hid (decide_eq_true hm)
  have ht := (rgb_iff.1 hg).t
  have hl1 := (rgb_iff.1 hg).l1
  have hl2 := (rgb_iff.1 hg).l2
  have hl3 := (rgb_iff.1 hg).l3
  have ht1 := ht.1
  have ht2 := ht.2
  have hm1 := hm.1
  have hm2 := hm.2
  dsimp only at ht1 ht2 hl1 hl2 hl3
  rw [hq] at hl1
  rw [hv] at hl2
  rw [hz] at hl3
  have HMO := Lib.hid hm
  clear hg hm ht hB h hq hv hz hr0 hr1
  go_enter Try.func8, Try.ntmps8
  go_wp2_with (fail)
  go_must (refine (right_lit c r t e tr te st _ _ _ _ _ _ _ _ _ _ HQ.out HV.out HZ.out HM.out).mono ?_)
  rintro e1 w1 ⟨rfl, hb⟩
  rw [HG.out]
  have r0 := HR0.out.keep hb
  have kl := (HR1.out.keep hb).lt
  have j0 : w1.cell? ⟨w.heap.size, 0, none⟩ = some (.int .i64 c) := r0.cell 0
  have j1 : w1.cell? ⟨w.heap.size, 1, none⟩ = some (.int .i64 r) := r0.cell 1
  have j2 : w1.cell? ⟨w.heap.size, 2, none⟩ = some (.int .i64 t) := r0.cell 2
  have j3 : w1.cell? ⟨w.heap.size, 3, none⟩ = some (.int .i64 e) := r0.cell 3
  have j4 : w1.cell? ⟨w.heap.size, 4, none⟩ = some (.slice A1 q c1) := r0.cell 4
  have j5 : w1.cell? ⟨w.heap.size, 5, none⟩ = some (.slice A2 v c2) := r0.cell 5
  have j6 : w1.cell? ⟨w.heap.size, 6, none⟩ = some (.slice A3 z c3) := r0.cell 6
  have HB1 := Lib.hid (Gen.over hb HB.out)
  have HR1b := Lib.hid (HR1.out.keep hb)
  have HM1 := Lib.hid (HM.out.keep hb)
  have hb2 : Below w1.heap.size w1 (w1.alloc (.cells #[.int .i64 c, .int .i64 r, .int .i64 0, .int .i64 e, .slice A1 q c1, .slice A2 v c2, .slice A3 z c3, .int .i64 (m + t)] 46)) := Gen.b_alloc (Below.refl _ _)
  have HG2 := Lib.hid (show Row (w1.alloc (.cells #[.int .i64 c, .int .i64 r, .int .i64 0, .int .i64 e, .slice A1 q c1, .slice A2 v c2, .slice A3 z c3, .int .i64 (m + t)] 46)) w1.heap.size 46 #[.int .i64 c, .int .i64 r, .int .i64 0, .int .i64 e, .slice A1 q c1, .slice A2 v c2, .slice A3 z c3, .int .i64 (m + t)] from Row.new w1 46 _)
  have HB2 := Lib.hid (Gen.over hb2 HB1.out)
  have HM2 := Lib.hid (HM1.out.keep hb2)
  have HD2 := Lib.hid (r0.keep hb2)
  have HR2 := Lib.hid (HR1b.out.keep hb2)
  have n4 : (w1.alloc (.cells #[.int .i64 c, .int .i64 r, .int .i64 0, .int .i64 e, .slice A1 q c1, .slice A2 v c2, .slice A3 z c3, .int .i64 (m + t)] 46)).cell? ⟨w.heap.size, 4, none⟩ = some (.slice A1 q c1) := HD2.out.cell 4
  have kne : w.heap.size ≠ w1.heap.size := by omega
  clear hb r0 hb2
  go_wp2_with (fail)
  go_must (refine (money_any _ _).mono ?_)
  rintro e2 w2 ⟨rfl, rfl⟩
  rw [HMm.out]
  go_wp2_with (fail)
  generalize hW2 : (w1.alloc (.cells #[.int .i64 c, .int .i64 r, .int .i64 0, .int .i64 e, .slice A1 q c1, .slice A2 v c2, .slice A3 z c3, .int .i64 (m + t)] 46)) = W2 at *
  generalize hgg : w1.heap.size = g at *
  clear hW2 j0 j1 j2 j3 j4 j5 j6
  have hgl2 := HG2.out.lt
  clear n4
  go_must (refine (clone_t HQ.out (HM0.out.t1.keep HB2.out) (by omega)).mono ?_)
  rintro e3 w3 ⟨A4, c4, rfl, ho, hb⟩
  have hg := HG2.out.keep hb
  have kf := hg.frozen 4
  have HB3 := Lib.hid (Gen.b_set (p := ⟨g, 4, none⟩) (u := .slice A4 q c4) (Gen.over hb HB2.out) (by show w.heap.size ≤ g; omega))
  have HG3 := Lib.hid (show Row (w3.setCell ⟨g, 4, none⟩ (.slice A4 q c4)) g 46 #[.int .i64 c, .int .i64 r, .int .i64 0, .int .i64 e, .slice A4 q c4, .slice A2 v c2, .slice A3 z c3, .int .i64 (m + t)] from Row.set hg 4 (.slice A4 q c4))
  have HD3 := Lib.hid (st_row (g := g) (i := 4) (u := .slice A4 q c4) (HD2.out.keep hb) (by omega))
  have HR3 := Lib.hid (st_row (g := g) (i := 4) (u := .slice A4 q c4) (HR2.out.keep hb) (by omega))
  have hgst : g < W2.heap.size := HG2.out.lt
  have HOt3 := Lib.hid (st_own (g := g) (i := 4) (u := .slice A4 q c4) ho hgst)
  have n : (w3.setCell ⟨g, 4, none⟩ (.slice A4 q c4)).cell? ⟨w.heap.size, 5, none⟩ = some (.slice A2 v c2) := HD3.out.cell 5
  have nc : w3.cell? ⟨g, 4, none⟩ = some (.slice A1 q c1) := hg.cell 4
  have hS3 : W2.heap.size ≤ (w3.setCell ⟨g, 4, none⟩ (.slice A4 q c4)).heap.size := by rw [World.size_setCell]; exact hb.size
  clear hg hb ho
  go_wp2_with (fail)
  generalize hW : (w3.setCell ⟨g, 4, none⟩ (.slice A4 q c4)) = W3 at *
  clear hW n kf nc
  go_must (refine (clone_q HV.out (HM0.out.t2.keep HB3.out) (by omega)).mono ?_)
  rintro e4 w4 ⟨A5, c5, rfl, ho, hb⟩
  have hg := HG3.out.keep hb
  have kf := hg.frozen 5
  have HB4 := Lib.hid (Gen.b_set (p := ⟨g, 5, none⟩) (u := .slice A5 v c5) (Gen.over hb HB3.out) (by show w.heap.size ≤ g; omega))
  have HG4 := Lib.hid (show Row (w4.setCell ⟨g, 5, none⟩ (.slice A5 v c5)) g 46 #[.int .i64 c, .int .i64 r, .int .i64 0, .int .i64 e, .slice A4 q c4, .slice A5 v c5, .slice A3 z c3, .int .i64 (m + t)] from Row.set hg 5 (.slice A5 v c5))
  have HD4 := Lib.hid (st_row (g := g) (i := 5) (u := .slice A5 v c5) (HD3.out.keep hb) (by omega))
  have HR4 := Lib.hid (st_row (g := g) (i := 5) (u := .slice A5 v c5) (HR3.out.keep hb) (by omega))
  have HOt4 := Lib.hid (st_own (g := g) (i := 5) (u := .slice A5 v c5) (be_own HOt3.out hb) (by have := hgl2; have := hgst; omega))
  have hgsq : g < W3.heap.size := HG3.out.lt
  have HOq4 := Lib.hid (st_own (g := g) (i := 5) (u := .slice A5 v c5) ho hgsq)
  have n : (w4.setCell ⟨g, 5, none⟩ (.slice A5 v c5)).cell? ⟨w.heap.size, 6, none⟩ = some (.slice A3 z c3) := HD4.out.cell 6
  have nc : w4.cell? ⟨g, 5, none⟩ = some (.slice A2 v c2) := hg.cell 5
  have hS4 : W3.heap.size ≤ (w4.setCell ⟨g, 5, none⟩ (.slice A5 v c5)).heap.size := by rw [World.size_setCell]; exact hb.size
  clear hg hb ho
  go_wp2_with (fail)
  generalize hW : (w4.setCell ⟨g, 5, none⟩ (.slice A5 v c5)) = W4 at *
  clear hW n kf nc
  go_must (refine (clone_s HZ.out (HM0.out.t3.keep HB4.out) (by omega)).mono ?_)
  rintro e5 w5 ⟨A6, c6, rfl, ho, hb⟩
  have hg := HG4.out.keep hb
  have kf := hg.frozen 6
  have HB5 := Lib.hid (Gen.b_set (p := ⟨g, 6, none⟩) (u := .slice A6 z c6) (Gen.over hb HB4.out) (by show w.heap.size ≤ g; omega))
  have HG5 := Lib.hid (show Row (w5.setCell ⟨g, 6, none⟩ (.slice A6 z c6)) g 46 #[.int .i64 c, .int .i64 r, .int .i64 0, .int .i64 e, .slice A4 q c4, .slice A5 v c5, .slice A6 z c6, .int .i64 (m + t)] from Row.set hg 6 (.slice A6 z c6))
  have HD5 := Lib.hid (st_row (g := g) (i := 6) (u := .slice A6 z c6) (HD4.out.keep hb) (by omega))
  have HR5 := Lib.hid (st_row (g := g) (i := 6) (u := .slice A6 z c6) (HR4.out.keep hb) (by omega))
  have HOt5 := Lib.hid (st_own (g := g) (i := 6) (u := .slice A6 z c6) (be_own HOt4.out hb) (by have := hgl2; have := hgst; omega))
  have HOq5 := Lib.hid (st_own (g := g) (i := 6) (u := .slice A6 z c6) (be_own HOq4.out hb) (by have := hgl2; have := hgsq; omega))
  have hgss : g < W4.heap.size := HG4.out.lt
  have HOs5 := Lib.hid (st_own (g := g) (i := 6) (u := .slice A6 z c6) ho hgss)
  have n : (w5.setCell ⟨g, 6, none⟩ (.slice A6 z c6)).cell? ⟨w.heap.size, 6, none⟩ = some (.slice A3 z c3) := HD5.out.cell 6
  have nc : w5.cell? ⟨g, 6, none⟩ = some (.slice A3 z c3) := hg.cell 6
  have hS5 : W4.heap.size ≤ (w5.setCell ⟨g, 6, none⟩ (.slice A6 z c6)).heap.size := by rw [World.size_setCell]; exact hb.size
  clear hg hb ho
  go_upto_region 10 with (fail)
  generalize hW : (w5.setCell ⟨g, 6, none⟩ (.slice A6 z c6)) = W5 at *
  clear hW n kf nc
  have hba : Below W5.heap.size W5 (W5.alloc (.cells #[.func (Fn.func 23) #[.pointer (some ⟨g, 0, none⟩)] #[], .func (Fn.func 24) #[.pointer (some ⟨g, 0, none⟩)] #[], .func (Fn.func 25) #[.pointer (some ⟨g, 0, none⟩)] #[], .func (Fn.func 26) #[.pointer (some ⟨g, 0, none⟩)] #[], .func (Fn.func 27) #[.pointer (some ⟨g, 0, none⟩)] #[]] 53)) := Gen.b_alloc (Below.refl _ _)
  have n6 := (HD5.out.keep hba).cell 6
  replace n6 : (W5.alloc (.cells #[.func (Fn.func 23) #[.pointer (some ⟨g, 0, none⟩)] #[], .func (Fn.func 24) #[.pointer (some ⟨g, 0, none⟩)] #[], .func (Fn.func 25) #[.pointer (some ⟨g, 0, none⟩)] #[], .func (Fn.func 26) #[.pointer (some ⟨g, 0, none⟩)] #[], .func (Fn.func 27) #[.pointer (some ⟨g, 0, none⟩)] #[]] 53)).cell? ⟨w.heap.size, 6, none⟩ = some (.slice A3 z c3) := n6
  have HBA := Lib.hid hba
  clear hba
  have hsz3 : W2.heap.size ≤ W3.heap.size := hS3
  have hsz4 : W3.heap.size ≤ W4.heap.size := hS4
  have hsz5 : W4.heap.size ≤ W5.heap.size := hS5
  have hA1 : ∀ a, A4 = some a → W2.heap.size ≤ a.block ∧ a.block < W3.heap.size := fun a ha => ⟨own_ab HOt5.out a ha, own_lt HOt3.out a ha⟩
  have hA2 : ∀ a, A5 = some a → W3.heap.size ≤ a.block ∧ a.block < W4.heap.size := fun a ha => ⟨own_ab HOq5.out a ha, own_lt HOq4.out a ha⟩
  have hA3 : ∀ a, A6 = some a → W4.heap.size ≤ a.block ∧ a.block < W5.heap.size := fun a ha => ⟨own_ab HOs5.out a ha, own_lt HOs5.out a ha⟩
  have hot := HOt5.out
  have hoq := HOq5.out
  have hos := HOs5.out
  rw [← HQ.out] at hot
  rw [← HV.out] at hoq
  rw [← HZ.out] at hos
  have hgr := HG5.out
  rw [← HQ.out, ← HV.out, ← HZ.out] at hgr
  have hF5 : Fw W5 W2.heap.size g c te st ⟨A4, c4, A5, c5, A6, c6⟩ (top ⟨c, r, t, e, tr, te, st⟩ m) :=
    ⟨hgr, hot, fun a ha => by have := hA1 a ha; omega, rs_own (f := qcs) (K := 2) (fun _ => rfl) rfl hoq, fun a ha => ⟨by have := hA2 a ha; omega, fun b hb => by have := hA1 b hb; have := hA2 a ha; omega⟩, rs_own (f := scs) (K := 3) (fun _ => rfl) rfl hos, fun a ha => ⟨by have := hA3 a ha; omega, fun b hb => by have := hA1 b hb; have := hA3 a ha; omega⟩⟩
  have HI6 : In6 g ⟨A4, c4, A5, c5, A6, c6⟩ w.heap.size W5.heap.size := ⟨by omega, fun a ha => by have := hA1 a ha; omega, fun a ha => by have := hA2 a ha; omega, fun a ha => by have := hA3 a ha; omega⟩
  obtain ⟨W6, hW6⟩ : ∃ W6, W6 = (W5.alloc (.cells #[.func (Fn.func 23) #[.pointer (some ⟨g, 0, none⟩)] #[], .func (Fn.func 24) #[.pointer (some ⟨g, 0, none⟩)] #[], .func (Fn.func 25) #[.pointer (some ⟨g, 0, none⟩)] #[], .func (Fn.func 26) #[.pointer (some ⟨g, 0, none⟩)] #[], .func (Fn.func 27) #[.pointer (some ⟨g, 0, none⟩)] #[]] 53)) := ⟨_, rfl⟩
  have HF6 := Lib.hid (hF5.keep (w' := W6) (by rw [hW6]; exact HBA.out))
  have HOQ6 := Lib.hid (be_own (W' := W6) hoq (by rw [hW6]; exact HBA.out))
  have HOS6 := Lib.hid (be_own (W' := W6) hos (by rw [hW6]; exact HBA.out))
  have HR6 := Lib.hid (HR5.out.keep (w1 := W6) (by rw [hW6]; exact HBA.out))
  have HAR := Lib.hid (show Row W6 W5.heap.size 53 #[.func (Fn.func 23) #[.pointer (some ⟨g, 0, none⟩)] #[], .func (Fn.func 24) #[.pointer (some ⟨g, 0, none⟩)] #[], .func (Fn.func 25) #[.pointer (some ⟨g, 0, none⟩)] #[], .func (Fn.func 26) #[.pointer (some ⟨g, 0, none⟩)] #[], .func (Fn.func 27) #[.pointer (some ⟨g, 0, none⟩)] #[]] from by rw [hW6]; exact Row.new _ _ _)
  have HS6 : W6.heap.size = W5.heap.size + 1 := by rw [hW6]; simp
  have HB6 := Lib.hid (show Below w.heap.size w W6 from by rw [hW6]; exact Gen.over HBA.out HB5.out)
  have HWB : Hid (∀ b, Wb g ⟨A4, c4, A5, c5, A6, c6⟩ b → w.heap.size ≤ b ∧ b < W3.heap.size ∧ b ≠ w.heap.size + 1 ∧ b ≠ W5.heap.size) := Lib.hid (fun b hb => by
    rcases hb with rfl | ⟨a, ha, rfl⟩
    · omega
    · have := hA1 a ha; omega)
  have HGW : Hid (g < W3.heap.size ∧ W3.heap.size ≤ W5.heap.size ∧ W3.heap.size ≤ W4.heap.size ∧ w.heap.size ≤ W3.heap.size) := Lib.hid (by omega)
  have HI := Lib.hid HI6
  have HRG := rgb_iff.1 HG.out
  have HRN := Lib.hid (fun (l : List St) => run_far (c := c) (te := te) (l := l) (f := top ⟨c, r, t, e, tr, te, st⟩ m))
  have HTOP := Lib.hid (top_ok HRG HMO.out (by exact hs))
  have HRG' := Lib.hid HRG
  clear HRG hF5 hot hoq hos hgr hA1 hA2 hA3 hsz3 hsz4 hsz5 HI6 hgst hgsq hgss HOt3 HOt4 HOt5 HOq4 HOq5 HOs5 HBA HR5 HG5 HB5 HD5
  obtain ⟨iI, hiI, hzI, hyI, hxI⟩ := info_parts' info_i
  go_wp2_with (fail)
  rw [← hW6]
  clear hW6
  clear n6
  go_loopw [9, 73] (fun tv iv wr => ∃ (k : Nat) (At : Option Addr) (ct : Nat), k ≤ z ∧ iv = .int .i64 k ∧ tv = .slice At k ct ∧ Fw wr W2.heap.size g c te st ⟨A4, c4, A5, c5, A6, c6⟩ (run c te (st.take k) (top ⟨c, r, t, e, tr, te, st⟩ m)).2 ∧ wr.ownsRow W6.heap.size 3 1 (.slice At k ct) k (ils (run c te (st.take k) (top ⟨c, r, t, e, tr, te, st⟩ m)).1) ∧ Only W6 wr (Wb g ⟨A4, c4, A5, c5, A6, c6⟩)) (fun _ iv _ => z - (intOf iv).toNat)
  case atStart => exact ⟨0, none, 0, Nat.zero_le _, rfl, rfl, HF6.out, ⟨rfl, .inl ⟨rfl, rfl⟩⟩, Only.refl _ _⟩
  case round =>
    obtain ⟨k, At, ct, hk, rfl, rfl, hF, hO, hW⟩ := hrel
    by_cases hlt : k < z
    · have hBw : Below w.heap.size w wr := Only.below HB6.out hW (fun b hb => (HWB.out b hb).1)
      obtain ⟨b, off, rfl, hcell⟩ := (HM0.out.t3.keep hBw) (by dsimp only; rw [HZ.out]; omega)
      obtain ⟨⟨sk, sn, sa⟩, hx⟩ := at_ st k (by rw [HZ.out]; exact hlt)
      have hso := HRG'.out.st _ (mem_of_at hx)
      obtain ⟨hfar, _, _⟩ := HRN.out (st.take k) HTOP.out (fun s hs => HRG'.out.st s (List.mem_of_mem_take hs))
      have hok := hfar.ok
      have hlen : (run c te (st.take k) (top ⟨c, r, t, e, tr, te, st⟩ m)).2.tr.length = q := hfar.ls.1.trans HQ.out
      have hrun := run_take (c := c) (te := te) (f := top ⟨c, r, t, e, tr, te, st⟩ m) hx
      obtain ⟨⟨xs, f⟩, hf⟩ : ∃ y, run c te (st.take k) (top ⟨c, r, t, e, tr, te, st⟩ m) = y := ⟨_, rfl⟩
      rw [hf] at hF hO hok hlen hrun
      dsimp only at hF hO hok hlen hrun
      have HRUN := Lib.hid hrun
      have d0 := hcell k _ hx 0 _ rfl
      have d1 := hcell k _ hx 1 _ rfl
      have d2 := hcell k _ hx 2 _ rfl
      rw [Nat.add_zero] at d0
      dsimp only at d0 d1 d2
      have hB0 : Below wr.heap.size wr (wr.alloc (.cells #[.int .i64 sk, .int .i64 sn, .int .i64 sa] 42)) := Gen.b_alloc (Below.refl _ _)
      have hR0 : Row (wr.alloc (.cells #[.int .i64 sk, .int .i64 sn, .int .i64 sa] 42)) wr.heap.size 42 #[.int .i64 sk, .int .i64 sn, .int .i64 sa] := Row.new _ _ _
      have HA0 := Lib.hid ((Only.row hW HAR.out (fun hb => (HWB.out _ hb).2.2.2 rfl)).keep hB0)
      have HFx := Lib.hid (hF.keep (hB0.drew))
      have HOx := Lib.hid (be_own hO hB0.drew)
      have HOx0 := Lib.hid hO
      have HWx := Lib.hid (hW.more hB0.drew)
      have HSZ := Lib.hid (show W6.heap.size ≤ wr.heap.size from hW.size)
      have e0 : (wr.alloc (.cells #[.int .i64 sk, .int .i64 sn, .int .i64 sa] 42)).cell? ⟨wr.heap.size, 0, none⟩ = some (.int .i64 sk) := hR0.cell 0
      have e1 : (wr.alloc (.cells #[.int .i64 sk, .int .i64 sn, .int .i64 sa] 42)).cell? ⟨wr.heap.size, 1, none⟩ = some (.int .i64 sn) := hR0.cell 1
      have e2 : (wr.alloc (.cells #[.int .i64 sk, .int .i64 sn, .int .i64 sa] 42)).cell? ⟨wr.heap.size, 2, none⟩ = some (.int .i64 sa) := hR0.cell 2
      have HNW : Hid (∀ x, Wb g ⟨A4, c4, A5, c5, A6, c6⟩ x → x ≠ wr.heap.size ∧ x ≠ W5.heap.size) := Lib.hid (fun x hx => by have := HWB.out x hx; have := HSZ.out; have := HGW.out; omega)
      have hk0 : (0 : Int) ≤ (k : Int) := by omega
      have hk1 : (k : Int) < (z : Int) := by omega
      have HN1 := Lib.hid (show k + 1 ≤ maxLen from by simp only [maxLen]; omega)
      have HN2 := Lib.hid (show (k + 1) * 8 ≤ 140737488355328 from by omega)
      have HOK := Lib.hid hok
      have HLN := Lib.hid hlen
      have HTE := Lib.hid (show ∀ x ∈ te, teOk f.tr.length x from by rw [hlen, ← HQ.out]; exact HRG'.out.te)
      clear hBw hcell hx hfar hok hrun hf hB0 hR0 hF hO hW hlt
      dsimp only at hso
      rw [HQ.out, HV.out] at hso
      unfold stOk at hso
      dsimp only at hso
      rcases hso with ⟨hkk, hn1, hn2, ha⟩ | ⟨rfl, ha, hn⟩ | ⟨rfl, hn1, hn2, ha⟩ | ⟨rfl, hn, ha⟩
      · rcases hkk with rfl | rfl
        · have HC := Lib.hid (pay_any _ HFx.out ⟨0, sn, sa⟩ rfl HOK.out ⟨hn1, by rw [HLN.out]; exact hn2⟩ (by rw [HLN.out]; exact hl1))
          have ea : (wr.alloc (.cells #[.int .i64 0, .int .i64 sn, .int .i64 sa] 42)).cell? ⟨W5.heap.size, 0, none⟩ = some (.func (Fn.func 23) #[.pointer (some ⟨g, 0, none⟩)] #[]) := HA0.out.cell 0
          have HS0 := Lib.hid (show (wr.alloc (.cells #[.int .i64 0, .int .i64 sn, .int .i64 sa] 42)).drew.cell? ⟨wr.heap.size, 0, none⟩ = some (.int .i64 0) ∧ (wr.alloc (.cells #[.int .i64 0, .int .i64 sn, .int .i64 sa] 42)).drew.cell? ⟨wr.heap.size, 1, none⟩ = some (.int .i64 sn) ∧ (wr.alloc (.cells #[.int .i64 0, .int .i64 sn, .int .i64 sa] 42)).drew.cell? ⟨wr.heap.size, 2, none⟩ = some (.int .i64 sa) ∧ (wr.alloc (.cells #[.int .i64 0, .int .i64 sn, .int .i64 sa] 42)).drew.cell? ⟨W5.heap.size, 0, none⟩ = some (.func (Fn.func 23) #[.pointer (some ⟨g, 0, none⟩)] #[]) from ⟨e0, e1, e2, ea⟩)
          clear e0 e1 e2 ea hn1 hn2 ha
          go_wp2
          go_region_held3 (fun W' : World => W'.cell? ⟨wr.heap.size, 0, none⟩ = some (.int .i64 0) ∧ W'.cell? ⟨wr.heap.size, 1, none⟩ = some (.int .i64 sn) ∧ W'.cell? ⟨wr.heap.size, 2, none⟩ = some (.int .i64 sa) ∧ W'.cell? ⟨W5.heap.size, 0, none⟩ = some (.func (Fn.func 23) #[.pointer (some ⟨g, 0, none⟩)] #[]))
            (first | exact HS0.out | exact hS1 | exact hS7 | (refine ⟨?_, ?_, ?_, ?_⟩; exact Gen.al (And.left (by assumption)); exact Gen.al (And.left (And.right (by assumption))); exact Gen.al (And.left (And.right (And.right (by assumption)))); exact Gen.al (And.right (And.right (And.right (by assumption))))) | fail "keep")
            (first
              | (go_at_call 23; (with_reducible refine (HC.out).mono ?_); rintro e' w' ⟨rfl, hF', hO'⟩; have hS1 := (show w'.cell? ⟨wr.heap.size, 0, none⟩ = some (.int .i64 0) ∧ w'.cell? ⟨wr.heap.size, 1, none⟩ = some (.int .i64 sn) ∧ w'.cell? ⟨wr.heap.size, 2, none⟩ = some (.int .i64 sa) ∧ w'.cell? ⟨W5.heap.size, 0, none⟩ = some (.func (Fn.func 23) #[.pointer (some ⟨g, 0, none⟩)] #[]) from ⟨hO'.cell HS0.out.1 (fun hb => (HNW.out _ hb).1 rfl), hO'.cell HS0.out.2.1 (fun hb => (HNW.out _ hb).1 rfl), hO'.cell HS0.out.2.2.1 (fun hb => (HNW.out _ hb).1 rfl), hO'.cell HS0.out.2.2.2 (fun hb => (HNW.out _ hb).2 rfl)⟩); have HF1 := Lib.hid hF'; have HO1 := Lib.hid (own_more (HOx.out) hO' (fun x hx => by have := HWB.out x hx; have := HGW.out; have := HS6; omega)); have HW1 := Lib.hid (HWx.out.then hO'); have HSZ1 := Lib.hid (show wr.heap.size + 1 ≤ w'.heap.size from by have := hO'.size; rw [World.size_drew, World.size_alloc] at this; exact this); clear hF' hO')
              | (refine App.step_append_any _ (by rfl) (.tmp 77) (.tmp 84) _ (by rfl) W6.heap.size 3 iI _ 1 8 Try.underlying28 hiI hzI hyI hxI rfl (by omega) (.slice At k ct) k (ils xs) rfl (be_own HO1.out (Gen.b_alloc (Below.refl _ _))) _ _ 1 1 [.int .i64 (stp c te f ⟨0, sn, sa⟩).1] rfl (Gen.reads_blk (by simp) rfl) (by simp [Value.oneCell']) HN1.out HN2.out (by have := HSZ.out; have := HSZ1.out; rw [World.size_alloc]; omega) ?_; intro v7 w7 ho7 hg7 ha7; have hS7 := (show w7.cell? ⟨wr.heap.size, 0, none⟩ = some (.int .i64 0) ∧ w7.cell? ⟨wr.heap.size, 1, none⟩ = some (.int .i64 sn) ∧ w7.cell? ⟨wr.heap.size, 2, none⟩ = some (.int .i64 sa) ∧ w7.cell? ⟨W5.heap.size, 0, none⟩ = some (.func (Fn.func 23) #[.pointer (some ⟨g, 0, none⟩)] #[]) from ⟨cell_grown HOx0.out hg7 (And.left (by assumption)) (.inl (Nat.le_refl _)), cell_grown HOx0.out hg7 (And.left (And.right (by assumption))) (.inl (Nat.le_refl _)), cell_grown HOx0.out hg7 (And.left (And.right (And.right (by assumption)))) (.inl (Nat.le_refl _)), cell_grown HOx0.out hg7 (And.right (And.right (And.right (by assumption)))) (.inr (by rw [HS6]; omega))⟩); have HF7 := Lib.hid ((HF1.out.keep (Gen.b_alloc (Below.refl _ _))).grown HI.out hg7 (fun b hb => by have := (HOx0.out.lt b hb).1; have := HS6; omega)); have HW7 := Lib.hid (Only.trans (HW1.out.more (Gen.b_alloc (Below.refl _ _))) (Only.of_grown hg7) (fun b hb => .inr (HOx0.out.lt b hb).1)); obtain ⟨A7, c7, rfl, _⟩ := Gen.own_slice ho7; have HO7 := Lib.hid ho7; clear ho7 hg7 ha7)
              | fail "arm")
          all_goals
            go_wp2
            go_roundw
            case rel => first | exact ⟨k + 1, A7, c7, by omega, by go_num, rfl, by rw [HRUN.out]; exact HF7.out, by rw [HRUN.out]; dsimp only; rw [ils_snoc]; exact HO7.out, HW7.out⟩ | exact ⟨k + 1, A7, c7, by omega, by go_num, by rw [HRUN.out]; exact HF7.out, by rw [HRUN.out]; dsimp only; rw [ils_snoc]; exact HO7.out, HW7.out⟩
            case measure => simp [intOf]; omega
        · have HC := Lib.hid (down_any _ HFx.out ⟨1, sn, sa⟩ rfl HOK.out ⟨hn1, by rw [HLN.out]; exact hn2⟩ (by rw [HLN.out]; exact hl1))
          have ea : (wr.alloc (.cells #[.int .i64 1, .int .i64 sn, .int .i64 sa] 42)).cell? ⟨W5.heap.size, 1, none⟩ = some (.func (Fn.func 24) #[.pointer (some ⟨g, 0, none⟩)] #[]) := HA0.out.cell 1
          have HS0 := Lib.hid (show (wr.alloc (.cells #[.int .i64 1, .int .i64 sn, .int .i64 sa] 42)).drew.cell? ⟨wr.heap.size, 0, none⟩ = some (.int .i64 1) ∧ (wr.alloc (.cells #[.int .i64 1, .int .i64 sn, .int .i64 sa] 42)).drew.cell? ⟨wr.heap.size, 1, none⟩ = some (.int .i64 sn) ∧ (wr.alloc (.cells #[.int .i64 1, .int .i64 sn, .int .i64 sa] 42)).drew.cell? ⟨wr.heap.size, 2, none⟩ = some (.int .i64 sa) ∧ (wr.alloc (.cells #[.int .i64 1, .int .i64 sn, .int .i64 sa] 42)).drew.cell? ⟨W5.heap.size, 1, none⟩ = some (.func (Fn.func 24) #[.pointer (some ⟨g, 0, none⟩)] #[]) from ⟨e0, e1, e2, ea⟩)
          clear e0 e1 e2 ea hn1 hn2 ha
          go_wp2
          go_region_held3 (fun W' : World => W'.cell? ⟨wr.heap.size, 0, none⟩ = some (.int .i64 1) ∧ W'.cell? ⟨wr.heap.size, 1, none⟩ = some (.int .i64 sn) ∧ W'.cell? ⟨wr.heap.size, 2, none⟩ = some (.int .i64 sa) ∧ W'.cell? ⟨W5.heap.size, 1, none⟩ = some (.func (Fn.func 24) #[.pointer (some ⟨g, 0, none⟩)] #[]))
            (first | exact HS0.out | exact hS1 | exact hS7 | (refine ⟨?_, ?_, ?_, ?_⟩; exact Gen.al (And.left (by assumption)); exact Gen.al (And.left (And.right (by assumption))); exact Gen.al (And.left (And.right (And.right (by assumption)))); exact Gen.al (And.right (And.right (And.right (by assumption))))) | fail "keep")
            (first
              | (go_at_call 24; (with_reducible refine (HC.out).mono ?_); rintro e' w' ⟨rfl, hF', hO'⟩; have hS1 := (show w'.cell? ⟨wr.heap.size, 0, none⟩ = some (.int .i64 1) ∧ w'.cell? ⟨wr.heap.size, 1, none⟩ = some (.int .i64 sn) ∧ w'.cell? ⟨wr.heap.size, 2, none⟩ = some (.int .i64 sa) ∧ w'.cell? ⟨W5.heap.size, 1, none⟩ = some (.func (Fn.func 24) #[.pointer (some ⟨g, 0, none⟩)] #[]) from ⟨hO'.cell HS0.out.1 (fun hb => (HNW.out _ hb).1 rfl), hO'.cell HS0.out.2.1 (fun hb => (HNW.out _ hb).1 rfl), hO'.cell HS0.out.2.2.1 (fun hb => (HNW.out _ hb).1 rfl), hO'.cell HS0.out.2.2.2 (fun hb => (HNW.out _ hb).2 rfl)⟩); have HF1 := Lib.hid hF'; have HO1 := Lib.hid (own_more (HOx.out) hO' (fun x hx => by have := HWB.out x hx; have := HGW.out; have := HS6; omega)); have HW1 := Lib.hid (HWx.out.then hO'); have HSZ1 := Lib.hid (show wr.heap.size + 1 ≤ w'.heap.size from by have := hO'.size; rw [World.size_drew, World.size_alloc] at this; exact this); clear hF' hO')
              | (refine App.step_append_any _ (by rfl) (.tmp 77) (.tmp 84) _ (by rfl) W6.heap.size 3 iI _ 1 8 Try.underlying28 hiI hzI hyI hxI rfl (by omega) (.slice At k ct) k (ils xs) rfl (be_own HO1.out (Gen.b_alloc (Below.refl _ _))) _ _ 1 1 [.int .i64 (stp c te f ⟨1, sn, sa⟩).1] rfl (Gen.reads_blk (by simp) rfl) (by simp [Value.oneCell']) HN1.out HN2.out (by have := HSZ.out; have := HSZ1.out; rw [World.size_alloc]; omega) ?_; intro v7 w7 ho7 hg7 ha7; have hS7 := (show w7.cell? ⟨wr.heap.size, 0, none⟩ = some (.int .i64 1) ∧ w7.cell? ⟨wr.heap.size, 1, none⟩ = some (.int .i64 sn) ∧ w7.cell? ⟨wr.heap.size, 2, none⟩ = some (.int .i64 sa) ∧ w7.cell? ⟨W5.heap.size, 1, none⟩ = some (.func (Fn.func 24) #[.pointer (some ⟨g, 0, none⟩)] #[]) from ⟨cell_grown HOx0.out hg7 (And.left (by assumption)) (.inl (Nat.le_refl _)), cell_grown HOx0.out hg7 (And.left (And.right (by assumption))) (.inl (Nat.le_refl _)), cell_grown HOx0.out hg7 (And.left (And.right (And.right (by assumption)))) (.inl (Nat.le_refl _)), cell_grown HOx0.out hg7 (And.right (And.right (And.right (by assumption)))) (.inr (by rw [HS6]; omega))⟩); have HF7 := Lib.hid ((HF1.out.keep (Gen.b_alloc (Below.refl _ _))).grown HI.out hg7 (fun b hb => by have := (HOx0.out.lt b hb).1; have := HS6; omega)); have HW7 := Lib.hid (Only.trans (HW1.out.more (Gen.b_alloc (Below.refl _ _))) (Only.of_grown hg7) (fun b hb => .inr (HOx0.out.lt b hb).1)); obtain ⟨A7, c7, rfl, _⟩ := Gen.own_slice ho7; have HO7 := Lib.hid ho7; clear ho7 hg7 ha7)
              | fail "arm")
          all_goals
            go_wp2
            go_roundw
            case rel => first | exact ⟨k + 1, A7, c7, by omega, by go_num, rfl, by rw [HRUN.out]; exact HF7.out, by rw [HRUN.out]; dsimp only; rw [ils_snoc]; exact HO7.out, HW7.out⟩ | exact ⟨k + 1, A7, c7, by omega, by go_num, by rw [HRUN.out]; exact HF7.out, by rw [HRUN.out]; dsimp only; rw [ils_snoc]; exact HO7.out, HW7.out⟩
            case measure => simp [intOf]; omega
      · have HC := Lib.hid (fill_any _ HFx.out ⟨2, sn, sa⟩ rfl HOK.out ha)
        have ea : (wr.alloc (.cells #[.int .i64 2, .int .i64 sn, .int .i64 sa] 42)).cell? ⟨W5.heap.size, 2, none⟩ = some (.func (Fn.func 25) #[.pointer (some ⟨g, 0, none⟩)] #[]) := HA0.out.cell 2
        have HS0 := Lib.hid (show (wr.alloc (.cells #[.int .i64 2, .int .i64 sn, .int .i64 sa] 42)).drew.cell? ⟨wr.heap.size, 0, none⟩ = some (.int .i64 2) ∧ (wr.alloc (.cells #[.int .i64 2, .int .i64 sn, .int .i64 sa] 42)).drew.cell? ⟨wr.heap.size, 1, none⟩ = some (.int .i64 sn) ∧ (wr.alloc (.cells #[.int .i64 2, .int .i64 sn, .int .i64 sa] 42)).drew.cell? ⟨wr.heap.size, 2, none⟩ = some (.int .i64 sa) ∧ (wr.alloc (.cells #[.int .i64 2, .int .i64 sn, .int .i64 sa] 42)).drew.cell? ⟨W5.heap.size, 2, none⟩ = some (.func (Fn.func 25) #[.pointer (some ⟨g, 0, none⟩)] #[]) from ⟨e0, e1, e2, ea⟩)
        clear e0 e1 e2 ea ha hn
        go_wp2
        go_region_held3 (fun W' : World => W'.cell? ⟨wr.heap.size, 0, none⟩ = some (.int .i64 2) ∧ W'.cell? ⟨wr.heap.size, 1, none⟩ = some (.int .i64 sn) ∧ W'.cell? ⟨wr.heap.size, 2, none⟩ = some (.int .i64 sa) ∧ W'.cell? ⟨W5.heap.size, 2, none⟩ = some (.func (Fn.func 25) #[.pointer (some ⟨g, 0, none⟩)] #[]))
          (first | exact HS0.out | exact hS1 | exact hS7 | (refine ⟨?_, ?_, ?_, ?_⟩; exact Gen.al (And.left (by assumption)); exact Gen.al (And.left (And.right (by assumption))); exact Gen.al (And.left (And.right (And.right (by assumption)))); exact Gen.al (And.right (And.right (And.right (by assumption))))) | fail "keep")
          (first
            | (go_at_call 25; (with_reducible refine (HC.out).mono ?_); rintro e' w' ⟨rfl, hF', hO'⟩; have hS1 := (show w'.cell? ⟨wr.heap.size, 0, none⟩ = some (.int .i64 2) ∧ w'.cell? ⟨wr.heap.size, 1, none⟩ = some (.int .i64 sn) ∧ w'.cell? ⟨wr.heap.size, 2, none⟩ = some (.int .i64 sa) ∧ w'.cell? ⟨W5.heap.size, 2, none⟩ = some (.func (Fn.func 25) #[.pointer (some ⟨g, 0, none⟩)] #[]) from ⟨hO'.cell HS0.out.1 (fun hb => (HNW.out _ hb).1 rfl), hO'.cell HS0.out.2.1 (fun hb => (HNW.out _ hb).1 rfl), hO'.cell HS0.out.2.2.1 (fun hb => (HNW.out _ hb).1 rfl), hO'.cell HS0.out.2.2.2 (fun hb => (HNW.out _ hb).2 rfl)⟩); have HF1 := Lib.hid hF'; have HO1 := Lib.hid (own_more (HOx.out) hO' (fun x hx => by have := HWB.out x hx; have := HGW.out; have := HS6; omega)); have HW1 := Lib.hid (HWx.out.then hO'); have HSZ1 := Lib.hid (show wr.heap.size + 1 ≤ w'.heap.size from by have := hO'.size; rw [World.size_drew, World.size_alloc] at this; exact this); clear hF' hO')
            | (refine App.step_append_any _ (by rfl) (.tmp 77) (.tmp 84) _ (by rfl) W6.heap.size 3 iI _ 1 8 Try.underlying28 hiI hzI hyI hxI rfl (by omega) (.slice At k ct) k (ils xs) rfl (be_own HO1.out (Gen.b_alloc (Below.refl _ _))) _ _ 1 1 [.int .i64 (stp c te f ⟨2, sn, sa⟩).1] rfl (Gen.reads_blk (by simp) rfl) (by simp [Value.oneCell']) HN1.out HN2.out (by have := HSZ.out; have := HSZ1.out; rw [World.size_alloc]; omega) ?_; intro v7 w7 ho7 hg7 ha7; have hS7 := (show w7.cell? ⟨wr.heap.size, 0, none⟩ = some (.int .i64 2) ∧ w7.cell? ⟨wr.heap.size, 1, none⟩ = some (.int .i64 sn) ∧ w7.cell? ⟨wr.heap.size, 2, none⟩ = some (.int .i64 sa) ∧ w7.cell? ⟨W5.heap.size, 2, none⟩ = some (.func (Fn.func 25) #[.pointer (some ⟨g, 0, none⟩)] #[]) from ⟨cell_grown HOx0.out hg7 (And.left (by assumption)) (.inl (Nat.le_refl _)), cell_grown HOx0.out hg7 (And.left (And.right (by assumption))) (.inl (Nat.le_refl _)), cell_grown HOx0.out hg7 (And.left (And.right (And.right (by assumption)))) (.inl (Nat.le_refl _)), cell_grown HOx0.out hg7 (And.right (And.right (And.right (by assumption)))) (.inr (by rw [HS6]; omega))⟩); have HF7 := Lib.hid ((HF1.out.keep (Gen.b_alloc (Below.refl _ _))).grown HI.out hg7 (fun b hb => by have := (HOx0.out.lt b hb).1; have := HS6; omega)); have HW7 := Lib.hid (Only.trans (HW1.out.more (Gen.b_alloc (Below.refl _ _))) (Only.of_grown hg7) (fun b hb => .inr (HOx0.out.lt b hb).1)); obtain ⟨A7, c7, rfl, _⟩ := Gen.own_slice ho7; have HO7 := Lib.hid ho7; clear ho7 hg7 ha7)
            | fail "arm")
        all_goals
          go_wp2
          go_roundw
          case rel => first | exact ⟨k + 1, A7, c7, by omega, by go_num, rfl, by rw [HRUN.out]; exact HF7.out, by rw [HRUN.out]; dsimp only; rw [ils_snoc]; exact HO7.out, HW7.out⟩ | exact ⟨k + 1, A7, c7, by omega, by go_num, by rw [HRUN.out]; exact HF7.out, by rw [HRUN.out]; dsimp only; rw [ils_snoc]; exact HO7.out, HW7.out⟩
          case measure => simp [intOf]; omega
      · have HC := Lib.hid (trap_any _ HFx.out ⟨3, sn, sa⟩ rfl HOK.out ⟨hn1, by rw [HV.out]; exact hn2⟩ (by rw [HLN.out]; exact hl1) (by rw [HV.out]; exact hl2) HTE.out HRG'.out.c)
        have ea : (wr.alloc (.cells #[.int .i64 3, .int .i64 sn, .int .i64 sa] 42)).cell? ⟨W5.heap.size, 3, none⟩ = some (.func (Fn.func 26) #[.pointer (some ⟨g, 0, none⟩)] #[]) := HA0.out.cell 3
        have HS0 := Lib.hid (show (wr.alloc (.cells #[.int .i64 3, .int .i64 sn, .int .i64 sa] 42)).drew.cell? ⟨wr.heap.size, 0, none⟩ = some (.int .i64 3) ∧ (wr.alloc (.cells #[.int .i64 3, .int .i64 sn, .int .i64 sa] 42)).drew.cell? ⟨wr.heap.size, 1, none⟩ = some (.int .i64 sn) ∧ (wr.alloc (.cells #[.int .i64 3, .int .i64 sn, .int .i64 sa] 42)).drew.cell? ⟨wr.heap.size, 2, none⟩ = some (.int .i64 sa) ∧ (wr.alloc (.cells #[.int .i64 3, .int .i64 sn, .int .i64 sa] 42)).drew.cell? ⟨W5.heap.size, 3, none⟩ = some (.func (Fn.func 26) #[.pointer (some ⟨g, 0, none⟩)] #[]) from ⟨e0, e1, e2, ea⟩)
        clear e0 e1 e2 ea hn1 hn2 ha
        go_wp2
        go_region_held3 (fun W' : World => W'.cell? ⟨wr.heap.size, 0, none⟩ = some (.int .i64 3) ∧ W'.cell? ⟨wr.heap.size, 1, none⟩ = some (.int .i64 sn) ∧ W'.cell? ⟨wr.heap.size, 2, none⟩ = some (.int .i64 sa) ∧ W'.cell? ⟨W5.heap.size, 3, none⟩ = some (.func (Fn.func 26) #[.pointer (some ⟨g, 0, none⟩)] #[]))
          (first | exact HS0.out | exact hS1 | exact hS7 | (refine ⟨?_, ?_, ?_, ?_⟩; exact Gen.al (And.left (by assumption)); exact Gen.al (And.left (And.right (by assumption))); exact Gen.al (And.left (And.right (And.right (by assumption)))); exact Gen.al (And.right (And.right (And.right (by assumption))))) | fail "keep")
          (first
            | (go_at_call 26; (with_reducible refine (HC.out).mono ?_); rintro e' w' ⟨rfl, hF', hO'⟩; have hS1 := (show w'.cell? ⟨wr.heap.size, 0, none⟩ = some (.int .i64 3) ∧ w'.cell? ⟨wr.heap.size, 1, none⟩ = some (.int .i64 sn) ∧ w'.cell? ⟨wr.heap.size, 2, none⟩ = some (.int .i64 sa) ∧ w'.cell? ⟨W5.heap.size, 3, none⟩ = some (.func (Fn.func 26) #[.pointer (some ⟨g, 0, none⟩)] #[]) from ⟨hO'.cell HS0.out.1 (fun hb => (HNW.out _ hb).1 rfl), hO'.cell HS0.out.2.1 (fun hb => (HNW.out _ hb).1 rfl), hO'.cell HS0.out.2.2.1 (fun hb => (HNW.out _ hb).1 rfl), hO'.cell HS0.out.2.2.2 (fun hb => (HNW.out _ hb).2 rfl)⟩); have HF1 := Lib.hid hF'; have HO1 := Lib.hid (own_more (HOx.out) hO' (fun x hx => by have := HWB.out x hx; have := HGW.out; have := HS6; omega)); have HW1 := Lib.hid (HWx.out.then hO'); have HSZ1 := Lib.hid (show wr.heap.size + 1 ≤ w'.heap.size from by have := hO'.size; rw [World.size_drew, World.size_alloc] at this; exact this); clear hF' hO')
            | (refine App.step_append_any _ (by rfl) (.tmp 77) (.tmp 84) _ (by rfl) W6.heap.size 3 iI _ 1 8 Try.underlying28 hiI hzI hyI hxI rfl (by omega) (.slice At k ct) k (ils xs) rfl (be_own HO1.out (Gen.b_alloc (Below.refl _ _))) _ _ 1 1 [.int .i64 (stp c te f ⟨3, sn, sa⟩).1] rfl (Gen.reads_blk (by simp) rfl) (by simp [Value.oneCell']) HN1.out HN2.out (by have := HSZ.out; have := HSZ1.out; rw [World.size_alloc]; omega) ?_; intro v7 w7 ho7 hg7 ha7; have hS7 := (show w7.cell? ⟨wr.heap.size, 0, none⟩ = some (.int .i64 3) ∧ w7.cell? ⟨wr.heap.size, 1, none⟩ = some (.int .i64 sn) ∧ w7.cell? ⟨wr.heap.size, 2, none⟩ = some (.int .i64 sa) ∧ w7.cell? ⟨W5.heap.size, 3, none⟩ = some (.func (Fn.func 26) #[.pointer (some ⟨g, 0, none⟩)] #[]) from ⟨cell_grown HOx0.out hg7 (And.left (by assumption)) (.inl (Nat.le_refl _)), cell_grown HOx0.out hg7 (And.left (And.right (by assumption))) (.inl (Nat.le_refl _)), cell_grown HOx0.out hg7 (And.left (And.right (And.right (by assumption)))) (.inl (Nat.le_refl _)), cell_grown HOx0.out hg7 (And.right (And.right (And.right (by assumption)))) (.inr (by rw [HS6]; omega))⟩); have HF7 := Lib.hid ((HF1.out.keep (Gen.b_alloc (Below.refl _ _))).grown HI.out hg7 (fun b hb => by have := (HOx0.out.lt b hb).1; have := HS6; omega)); have HW7 := Lib.hid (Only.trans (HW1.out.more (Gen.b_alloc (Below.refl _ _))) (Only.of_grown hg7) (fun b hb => .inr (HOx0.out.lt b hb).1)); obtain ⟨A7, c7, rfl, _⟩ := Gen.own_slice ho7; have HO7 := Lib.hid ho7; clear ho7 hg7 ha7)
            | fail "arm")
        all_goals
          go_wp2
          go_roundw
          case rel => first | exact ⟨k + 1, A7, c7, by omega, by go_num, rfl, by rw [HRUN.out]; exact HF7.out, by rw [HRUN.out]; dsimp only; rw [ils_snoc]; exact HO7.out, HW7.out⟩ | exact ⟨k + 1, A7, c7, by omega, by go_num, by rw [HRUN.out]; exact HF7.out, by rw [HRUN.out]; dsimp only; rw [ils_snoc]; exact HO7.out, HW7.out⟩
          case measure => simp [intOf]; omega
      · have HC := Lib.hid (rest_any _ HFx.out ⟨4, sn, sa⟩ rfl HOK.out)
        have ea : (wr.alloc (.cells #[.int .i64 4, .int .i64 sn, .int .i64 sa] 42)).cell? ⟨W5.heap.size, 4, none⟩ = some (.func (Fn.func 27) #[.pointer (some ⟨g, 0, none⟩)] #[]) := HA0.out.cell 4
        have HS0 := Lib.hid (show (wr.alloc (.cells #[.int .i64 4, .int .i64 sn, .int .i64 sa] 42)).drew.cell? ⟨wr.heap.size, 0, none⟩ = some (.int .i64 4) ∧ (wr.alloc (.cells #[.int .i64 4, .int .i64 sn, .int .i64 sa] 42)).drew.cell? ⟨wr.heap.size, 1, none⟩ = some (.int .i64 sn) ∧ (wr.alloc (.cells #[.int .i64 4, .int .i64 sn, .int .i64 sa] 42)).drew.cell? ⟨wr.heap.size, 2, none⟩ = some (.int .i64 sa) ∧ (wr.alloc (.cells #[.int .i64 4, .int .i64 sn, .int .i64 sa] 42)).drew.cell? ⟨W5.heap.size, 4, none⟩ = some (.func (Fn.func 27) #[.pointer (some ⟨g, 0, none⟩)] #[]) from ⟨e0, e1, e2, ea⟩)
        clear e0 e1 e2 ea ha hn
        go_wp2
        go_region_held3 (fun W' : World => W'.cell? ⟨wr.heap.size, 0, none⟩ = some (.int .i64 4) ∧ W'.cell? ⟨wr.heap.size, 1, none⟩ = some (.int .i64 sn) ∧ W'.cell? ⟨wr.heap.size, 2, none⟩ = some (.int .i64 sa) ∧ W'.cell? ⟨W5.heap.size, 4, none⟩ = some (.func (Fn.func 27) #[.pointer (some ⟨g, 0, none⟩)] #[]))
          (first | exact HS0.out | exact hS1 | exact hS7 | (refine ⟨?_, ?_, ?_, ?_⟩; exact Gen.al (And.left (by assumption)); exact Gen.al (And.left (And.right (by assumption))); exact Gen.al (And.left (And.right (And.right (by assumption)))); exact Gen.al (And.right (And.right (And.right (by assumption))))) | fail "keep")
          (first
            | (go_at_call 27; (with_reducible refine (HC.out).mono ?_); rintro e' w' ⟨rfl, hF', hO'⟩; have hS1 := (show w'.cell? ⟨wr.heap.size, 0, none⟩ = some (.int .i64 4) ∧ w'.cell? ⟨wr.heap.size, 1, none⟩ = some (.int .i64 sn) ∧ w'.cell? ⟨wr.heap.size, 2, none⟩ = some (.int .i64 sa) ∧ w'.cell? ⟨W5.heap.size, 4, none⟩ = some (.func (Fn.func 27) #[.pointer (some ⟨g, 0, none⟩)] #[]) from ⟨hO'.cell HS0.out.1 (fun hb => (HNW.out _ hb).1 rfl), hO'.cell HS0.out.2.1 (fun hb => (HNW.out _ hb).1 rfl), hO'.cell HS0.out.2.2.1 (fun hb => (HNW.out _ hb).1 rfl), hO'.cell HS0.out.2.2.2 (fun hb => (HNW.out _ hb).2 rfl)⟩); have HF1 := Lib.hid hF'; have HO1 := Lib.hid (own_more (HOx.out) hO' (fun x hx => by have := HWB.out x hx; have := HGW.out; have := HS6; omega)); have HW1 := Lib.hid (HWx.out.then hO'); have HSZ1 := Lib.hid (show wr.heap.size + 1 ≤ w'.heap.size from by have := hO'.size; rw [World.size_drew, World.size_alloc] at this; exact this); clear hF' hO')
            | (refine App.step_append_any _ (by rfl) (.tmp 77) (.tmp 84) _ (by rfl) W6.heap.size 3 iI _ 1 8 Try.underlying28 hiI hzI hyI hxI rfl (by omega) (.slice At k ct) k (ils xs) rfl (be_own HO1.out (Gen.b_alloc (Below.refl _ _))) _ _ 1 1 [.int .i64 (stp c te f ⟨4, sn, sa⟩).1] rfl (Gen.reads_blk (by simp) rfl) (by simp [Value.oneCell']) HN1.out HN2.out (by have := HSZ.out; have := HSZ1.out; rw [World.size_alloc]; omega) ?_; intro v7 w7 ho7 hg7 ha7; have hS7 := (show w7.cell? ⟨wr.heap.size, 0, none⟩ = some (.int .i64 4) ∧ w7.cell? ⟨wr.heap.size, 1, none⟩ = some (.int .i64 sn) ∧ w7.cell? ⟨wr.heap.size, 2, none⟩ = some (.int .i64 sa) ∧ w7.cell? ⟨W5.heap.size, 4, none⟩ = some (.func (Fn.func 27) #[.pointer (some ⟨g, 0, none⟩)] #[]) from ⟨cell_grown HOx0.out hg7 (And.left (by assumption)) (.inl (Nat.le_refl _)), cell_grown HOx0.out hg7 (And.left (And.right (by assumption))) (.inl (Nat.le_refl _)), cell_grown HOx0.out hg7 (And.left (And.right (And.right (by assumption)))) (.inl (Nat.le_refl _)), cell_grown HOx0.out hg7 (And.right (And.right (And.right (by assumption)))) (.inr (by rw [HS6]; omega))⟩); have HF7 := Lib.hid ((HF1.out.keep (Gen.b_alloc (Below.refl _ _))).grown HI.out hg7 (fun b hb => by have := (HOx0.out.lt b hb).1; have := HS6; omega)); have HW7 := Lib.hid (Only.trans (HW1.out.more (Gen.b_alloc (Below.refl _ _))) (Only.of_grown hg7) (fun b hb => .inr (HOx0.out.lt b hb).1)); obtain ⟨A7, c7, rfl, _⟩ := Gen.own_slice ho7; have HO7 := Lib.hid ho7; clear ho7 hg7 ha7)
            | fail "arm")
        all_goals
          go_wp2
          go_roundw
          case rel => first | exact ⟨k + 1, A7, c7, by omega, by go_num, rfl, by rw [HRUN.out]; exact HF7.out, by rw [HRUN.out]; dsimp only; rw [ils_snoc]; exact HO7.out, HW7.out⟩ | exact ⟨k + 1, A7, c7, by omega, by go_num, by rw [HRUN.out]; exact HF7.out, by rw [HRUN.out]; dsimp only; rw [ils_snoc]; exact HO7.out, HW7.out⟩
          case measure => simp [intOf]; omega
    · obtain rfl : k = z := by omega
      clear hlt hk HM HR0 HR1 HB HD2 HG2 HG3 HD3 HG4 HD4 HM0 HM1 HM2
      have htk : st.take k = st := List.take_of_length_le (by rw [HZ.out]; exact Nat.le_refl _)
      rw [htk] at hF hO
      obtain ⟨hfar, _, _⟩ := HRN.out st HTOP.out HRG'.out.st
      obtain ⟨⟨xs, ⟨fp, fr, ft, fe, ftr⟩⟩, hy⟩ : ∃ y, run c te st (top ⟨c, r, t, e, tr, te, st⟩ m) = y := ⟨_, rfl⟩
      rw [hy] at hF hO hfar
      have hok := hfar.ok
      have hlen : ftr.length = q := hfar.ls.1.trans HQ.out
      have HY := Lib.hid (show dwn ⟨c, r, t, e, tr, te, st⟩ m = (xs, ⟨fp, fr, ft, fe, ftr⟩) from hy)
      have hr := hF.row
      dsimp only at hr hF hO
      rw [hlen, HV.out, HZ.out] at hr
      have b1 := hok.p
      have b2 := hok.t
      have b3 := hok.pt
      dsimp only at b1 b2 b3
      have k0 : wr.cell? ⟨g, 0, none⟩ = some (.int .i64 c) := hr.cell 0
      have k1 : wr.cell? ⟨g, 1, none⟩ = some (.int .i64 fr) := hr.cell 1
      have k2 : wr.cell? ⟨g, 2, none⟩ = some (.int .i64 ft) := hr.cell 2
      have k3 : wr.cell? ⟨g, 3, none⟩ = some (.int .i64 fe) := hr.cell 3
      have k4 : wr.cell? ⟨g, 4, none⟩ = some (.slice A4 q c4) := hr.cell 4
      have k5 : wr.cell? ⟨g, 5, none⟩ = some (.slice A5 v c5) := hr.cell 5
      have k6 : wr.cell? ⟨g, 6, none⟩ = some (.slice A6 k c6) := hr.cell 6
      have k7 : wr.cell? ⟨g, 7, none⟩ = some (.int .i64 fp) := hr.cell 7
      have kf := hr.frozen 2
      have HRW := Lib.hid hr
      have HF := Lib.hid hF
      have HO := Lib.hid hO
      have HW := Lib.hid hW
      have HOKK := Lib.hid hok
      have HLEN := Lib.hid hlen
      clear hF hO hW hfar hy hok hlen hr htk
      have hkk : ((k : Int) < (k : Int)) = False := by simp
      go_wp2
      go_region
      obtain ⟨W8, hW8⟩ : ∃ W8, W8 = (wr.setCell ⟨g, 2, none⟩ (.int .i64 (ft + fp))).drew := ⟨_, rfl⟩
      rw [← hW8]
      have hr8 : Row W8 g 46 #[.int .i64 c, .int .i64 fr, .int .i64 (ft + fp), .int .i64 fe, .slice A4 q c4, .slice A5 v c5, .slice A6 k c6, .int .i64 fp] := by rw [hW8]; exact Row.set HRW.out 2 (.int .i64 (ft + fp))
      have ho8 : Only wr W8 (fun b => b = g) := by rw [hW8]; exact (Only.set (p := ⟨g, 2, none⟩) (Only.refl wr (fun b => b = g)) (.inl rfl) (.int .i64 (ft + fp))).more (Below.refl _ _).drew
      have hp8 : Only W6 W8 (Wb g ⟨A4, c4, A5, c5, A6, c6⟩) := HW.out.trans ho8 (fun b hb => .inl (.inl hb))
      have hB8 : Below w.heap.size w W8 := Only.below HB6.out hp8 (fun b hb => (HWB.out b hb).1)
      have HO1 := Lib.hid (own_only ho8 HF.out.own (fun a e => HF.out.ap a e))
      have HOT := Lib.hid (own_more HO.out ho8 (fun b hb => by have := HGW.out; have := HS6; omega))
      have HOQ := Lib.hid (own_more HOQ6.out hp8 (fun b hb => (HWB.out b hb).2.1))
      have HOS := Lib.hid (own_more HOS6.out hp8 (fun b hb => by have := (HWB.out b hb).2.1; have := HGW.out; omega))
      have HRES := Lib.hid (Only.row hp8 HR6.out (fun hb => (HWB.out _ hb).2.2.1 rfl))
      have HDM : Hid (Dm W8 ⟨c, fr, ft + fp, fe, ftr, te, st⟩ ⟨A4, c4, A5, c5, A6, c6⟩) := Lib.hid ⟨rs_own (f := tcs) (K := 2) (fun _ => rfl) rfl HO1.out, rs_own (f := qcs) (K := 2) (fun _ => rfl) rfl HOQ.out, rs_own (f := scs) (K := 3) (fun _ => rfl) rfl HOS.out⟩
      have HB8 := Lib.hid hB8
      have HR8 := Lib.hid hr8
      have m0 : W8.cell? ⟨g, 0, none⟩ = some (.int .i64 c) := hr8.cell 0
      have m1 : W8.cell? ⟨g, 1, none⟩ = some (.int .i64 fr) := hr8.cell 1
      have m2 : W8.cell? ⟨g, 2, none⟩ = some (.int .i64 (ft + fp)) := hr8.cell 2
      have m3 : W8.cell? ⟨g, 3, none⟩ = some (.int .i64 fe) := hr8.cell 3
      have m4 : W8.cell? ⟨g, 4, none⟩ = some (.slice A4 q c4) := hr8.cell 4
      have m5 : W8.cell? ⟨g, 5, none⟩ = some (.slice A5 v c5) := hr8.cell 5
      have m6 : W8.cell? ⟨g, 6, none⟩ = some (.slice A6 k c6) := hr8.cell 6
      clear k0 k1 k2 k3 k4 k5 k6 k7 kf hW8 hr8 ho8 hp8 hB8 HRW HF HO HW HR6 HOQ6 HOS6 HF6 HAR
      go_wp2_with (fail)
      go_must (refine (right_lit c fr (ft + fp) fe ftr te st _ _ _ _ _ _ _ _ _ _ HLEN.out HV.out HZ.out HDM.out).mono ?_)
      rintro e9 w9 ⟨rfl, hb9⟩
      have hd9 := HRES.out.keep hb9
      have hg9 := HR8.out.keep hb9
      have hB9 := Gen.over hb9 HB8.out
      have HO1 := Lib.hid (be_own HO1.out hb9)
      have HOT := Lib.hid (be_own HOT.out hb9)
      have HOQ := Lib.hid (be_own HOQ.out hb9)
      have HOS := Lib.hid (be_own HOS.out hb9)
      have n0 : w9.cell? ⟨g, 0, none⟩ = some (.int .i64 c) := hg9.cell 0
      have j0 : w9.cell? ⟨w.heap.size + 1, 0, none⟩ = some (.int .i64 0) := hd9.cell 0
      have jf0 : w9.frozen? ⟨w.heap.size + 1, 0, none⟩ = false := hd9.frozen 0
      have n1 : w9.cell? ⟨g, 1, none⟩ = some (.int .i64 fr) := hg9.cell 1
      have j1 : w9.cell? ⟨w.heap.size + 1, 1, none⟩ = some (.int .i64 0) := hd9.cell 1
      have jf1 : w9.frozen? ⟨w.heap.size + 1, 1, none⟩ = false := hd9.frozen 1
      have n2 : w9.cell? ⟨g, 2, none⟩ = some (.int .i64 (ft + fp)) := hg9.cell 2
      have j2 : w9.cell? ⟨w.heap.size + 1, 2, none⟩ = some (.int .i64 0) := hd9.cell 2
      have jf2 : w9.frozen? ⟨w.heap.size + 1, 2, none⟩ = false := hd9.frozen 2
      have n3 : w9.cell? ⟨g, 3, none⟩ = some (.int .i64 fe) := hg9.cell 3
      have j3 : w9.cell? ⟨w.heap.size + 1, 3, none⟩ = some (.int .i64 0) := hd9.cell 3
      have jf3 : w9.frozen? ⟨w.heap.size + 1, 3, none⟩ = false := hd9.frozen 3
      have n4 : w9.cell? ⟨g, 4, none⟩ = some (.slice A4 q c4) := hg9.cell 4
      have j4 : w9.cell? ⟨w.heap.size + 1, 4, none⟩ = some (.slice none 0 0) := hd9.cell 4
      have jf4 : w9.frozen? ⟨w.heap.size + 1, 4, none⟩ = false := hd9.frozen 4
      have n5 : w9.cell? ⟨g, 5, none⟩ = some (.slice A5 v c5) := hg9.cell 5
      have j5 : w9.cell? ⟨w.heap.size + 1, 5, none⟩ = some (.slice none 0 0) := hd9.cell 5
      have jf5 : w9.frozen? ⟨w.heap.size + 1, 5, none⟩ = false := hd9.frozen 5
      have n6 : w9.cell? ⟨g, 6, none⟩ = some (.slice A6 k c6) := hg9.cell 6
      have j6 : w9.cell? ⟨w.heap.size + 1, 6, none⟩ = some (.slice none 0 0) := hd9.cell 6
      have jf6 : w9.frozen? ⟨w.heap.size + 1, 6, none⟩ = false := hd9.frozen 6
      have kl := hd9.lt
      clear hd9 hg9 hb9 HDM HR8 HRES m0 m1 m2 m3 m4 m5 m6
      by_cases he : fe ≤ 1000000000000000
      · have hrg : rgb ⟨c, fr, ft + fp, fe, ftr, te, st⟩ = true := rgb_iff.2 ((bot_rgt (d := ⟨c, r, t, e, tr, te, st⟩) HRG'.out (f := ⟨fp, fr, ft, fe, ftr⟩) HOKK.out (HLEN.out.trans HQ.out.symm)).2 he)
        rw [hrg]
        have HE := Lib.hid he
        have HXB := Lib.hid (Gen.b_set (p := ⟨w.heap.size + 1, 6, none⟩) (u := .slice A6 k c6) (Gen.b_set (p := ⟨w.heap.size + 1, 5, none⟩) (u := .slice A5 v c5) (Gen.b_set (p := ⟨w.heap.size + 1, 4, none⟩) (u := .slice A4 q c4) (Gen.b_set (p := ⟨w.heap.size + 1, 3, none⟩) (u := .int .i64 fe) (Gen.b_set (p := ⟨w.heap.size + 1, 2, none⟩) (u := .int .i64 (ft + fp)) (Gen.b_set (p := ⟨w.heap.size + 1, 1, none⟩) (u := .int .i64 fr) (Gen.b_set (p := ⟨w.heap.size + 1, 0, none⟩) (u := .int .i64 c) (hB9) (by show w.heap.size ≤ w.heap.size + 1; omega)) (by show w.heap.size ≤ w.heap.size + 1; omega)) (by show w.heap.size ≤ w.heap.size + 1; omega)) (by show w.heap.size ≤ w.heap.size + 1; omega)) (by show w.heap.size ≤ w.heap.size + 1; omega)) (by show w.heap.size ≤ w.heap.size + 1; omega)) (by show w.heap.size ≤ w.heap.size + 1; omega))
        have HXO := Lib.hid (Only.set (p := ⟨w.heap.size + 1, 6, none⟩) (Only.set (p := ⟨w.heap.size + 1, 5, none⟩) (Only.set (p := ⟨w.heap.size + 1, 4, none⟩) (Only.set (p := ⟨w.heap.size + 1, 3, none⟩) (Only.set (p := ⟨w.heap.size + 1, 2, none⟩) (Only.set (p := ⟨w.heap.size + 1, 1, none⟩) (Only.set (p := ⟨w.heap.size + 1, 0, none⟩) (Only.refl w9 (fun b => b = w.heap.size + 1)) (.inl rfl) (.int .i64 c)) (.inl rfl) (.int .i64 fr)) (.inl rfl) (.int .i64 (ft + fp))) (.inl rfl) (.int .i64 fe)) (.inl rfl) (.slice A4 q c4)) (.inl rfl) (.slice A5 v c5)) (.inl rfl) (.slice A6 k c6))
        clear hB9 he hrg
        go_wp2
        refine bodyPost_ret (v := .tuple #[dval ⟨c, fr, ft + fp, fe, ftr, te, st⟩ ⟨A4, c4, A5, c5, A6, c6⟩, .slice At k ct, .int .i64 0]) (by simp [dval, results, Try.results8, go_sem, HLEN.out, HV.out, HZ.out, *]) rfl ?_
        unfold RunQ
        rw [if_pos (by rw [HY.out]; exact HE.out)]
        unfold RunP
        rw [HY.out]
        have h1 := HGW.out
        have h2 := HS6
        refine ⟨⟨A4, c4, A5, c5, A6, c6⟩, At, ct, ?_, own_base (own_more HO1.out HXO.out (fun b hb => by omega)) (by omega), own_base (own_more HOQ.out HXO.out (fun b hb => by omega)) (by omega), own_base (own_more HOS.out HXO.out (fun b hb => by omega)) (by omega), ?_, HXB.out⟩
        · show _ = Ending.returned (.tuple #[dval ⟨c, fr, ft + fp, fe, ftr, te, st⟩ _, .slice At st.length ct, _])
          rw [HZ.out]
        · dsimp only
          rw [HZ.out]
          exact own_base (own_more HOT.out HXO.out (fun b hb => by omega)) (by omega)
      · have hrg : rgb ⟨c, fr, ft + fp, fe, ftr, te, st⟩ = false := by
          rw [Bool.eq_false_iff]
          intro hh
          exact he ((bot_rgt (d := ⟨c, r, t, e, tr, te, st⟩) HRG'.out (f := ⟨fp, fr, ft, fe, ftr⟩) HOKK.out (HLEN.out.trans HQ.out.symm)).1 (rgb_iff.1 hh))
        rw [hrg]
        have HE := Lib.hid he
        have HXB := Lib.hid (Gen.b_set (p := ⟨w.heap.size + 1, 6, none⟩) (u := .slice none 0 0) (Gen.b_set (p := ⟨w.heap.size + 1, 5, none⟩) (u := .slice none 0 0) (Gen.b_set (p := ⟨w.heap.size + 1, 4, none⟩) (u := .slice none 0 0) (Gen.b_set (p := ⟨w.heap.size + 1, 3, none⟩) (u := .int .i64 0) (Gen.b_set (p := ⟨w.heap.size + 1, 2, none⟩) (u := .int .i64 0) (Gen.b_set (p := ⟨w.heap.size + 1, 1, none⟩) (u := .int .i64 0) (Gen.b_set (p := ⟨w.heap.size + 1, 0, none⟩) (u := .int .i64 0) (hB9) (by show w.heap.size ≤ w.heap.size + 1; omega)) (by show w.heap.size ≤ w.heap.size + 1; omega)) (by show w.heap.size ≤ w.heap.size + 1; omega)) (by show w.heap.size ≤ w.heap.size + 1; omega)) (by show w.heap.size ≤ w.heap.size + 1; omega)) (by show w.heap.size ≤ w.heap.size + 1; omega)) (by show w.heap.size ≤ w.heap.size + 1; omega))
        clear hB9 he hrg HO1 HOT HOQ HOS
        go_wp2
        refine bodyPost_ret (v := errv 3) (by simp [errv, results, Try.results8, go_sem, *]) rfl ?_
        unfold RunQ
        rw [if_neg (by rw [HY.out]; have := HE.out; dsimp only; omega)]
        exact ⟨rfl, HXB.out⟩

end
end Go.Proofs.Ytdmbgdbmfenbfaa.Fa
