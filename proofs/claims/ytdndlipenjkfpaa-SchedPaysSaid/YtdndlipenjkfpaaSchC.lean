/- Package sched: the contract of Periods. -/
import Derived.Test.YtdndlipenjkfpaaSchB
import Derived.Test.YtdndlipenjkfpaaCalX
import Derived.Deep.RegionLaw
namespace Go.Proofs.Ytdndlipenjkfpaa.Dat
open Go.ChangeShapes Go.WideShapes Go.ChangeAt Go.RowKit Go.Proofs.Ytdndlipenjkfpaa.Cell
set_option linter.unusedVariables false
set_option linter.unusedSimpArgs false

/-- a period: from, to, pay, record -/
abbrev Pr := Int × Int × Int × Int
def pcs (t : Pr) : List Value := [.int .i64 t.1, .int .i64 t.2.1, .int .i64 t.2.2.1, .int .i64 t.2.2.2]
def pls (l : List Pr) : List Value := l.flatMap pcs
theorem pls_snoc (l : List Pr) (t : Pr) : pls (l ++ [t]) = pls l ++ pcs t := by simp [pls]
theorem pcs_len (t : Pr) : (pcs t).length = 4 := rfl
/-- the memory of a list of periods -/
def At4 (w : World) (b o : Nat) (t : Pr) : Prop := w.cell? ⟨b, o, none⟩ = some (.int .i64 t.1) ∧ w.cell? ⟨b, o + 1, none⟩ = some (.int .i64 t.2.1) ∧ w.cell? ⟨b, o + 2, none⟩ = some (.int .i64 t.2.2.1) ∧ w.cell? ⟨b, o + 3, none⟩ = some (.int .i64 t.2.2.2)
def Pers (w : World) (A : Option Addr) (l : List Pr) : Prop := 0 < l.length → ∃ b off, A = some ⟨b, off, none⟩ ∧ ∀ j t, l[j]? = some t → At4 w b (off + j * 4) t
theorem At4.keep {w w1 : World} {b o : Nat} {t : Pr} (h : At4 w b o t) (hb : Below w.heap.size w w1) : At4 w1 b o t := ⟨keep0 hb _ _ _ h.1, keep0 hb _ _ _ h.2.1, keep0 hb _ _ _ h.2.2.1, keep0 hb _ _ _ h.2.2.2⟩
theorem Pers.keep {w w1 : World} {A : Option Addr} {l : List Pr} (h : Pers w A l) (hb : Below w.heap.size w w1) : Pers w1 A l := fun h0 => by
  obtain ⟨b, off, e, hc⟩ := h h0
  exact ⟨b, off, e, fun j v hv => (hc j v hv).keep hb⟩
theorem pers_of_reads {w : World} {B n : Nat} {A : Option Addr} {l : List Pr} (hn : l.length = n) (h : App.Reads w B 4 A n (pls l)) : Pers w A l := fun h0 => by
  obtain ⟨b, off, e, hc⟩ := Gen.reads_at pcs_len (by omega) hn h h0
  exact ⟨b, off, e, fun j t hj => ⟨hc j t hj 0 _ rfl, hc j t hj 1 _ rfl, hc j t hj 2 _ rfl, hc j t hj 3 _ rfl⟩⟩
theorem Pers.nil {w : World} {A : Option Addr} : Pers w A [] := fun h => absurd h (by simp)

/-- the periods, from a bound on -/
noncomputable def perT (p : Int → Bool) (ad : Int) (re : Nat) : List Pr → Int → List Int → List Pr × Int
  | acc, _, [] => (acc, 0)
  | acc, a, b :: bs => if (adj p b ad).2 = 0 then (if (bk p re (adj p b ad).1).2 = 0 then perT p ad re (acc ++ [(a, b, (adj p b ad).1, (bk p re (adj p b ad).1).1)]) b bs else ([], (bk p re (adj p b ad).1).2)) else ([], (adj p b ad).2)
theorem perT_go {p : Int → Bool} {ad : Int} {re : Nat} {acc : List Pr} {a b y r : Int} {bs : List Int} (h : adj p b ad = (y, 0)) (h' : bk p re y = (r, 0)) : perT p ad re acc a (b :: bs) = perT p ad re (acc ++ [(a, b, y, r)]) b bs := by
  rw [perT, h, if_pos rfl, h', if_pos rfl]
theorem perT_no1 {p : Int → Bool} {ad : Int} {re : Nat} {acc : List Pr} {a b y e : Int} {bs : List Int} (h : adj p b ad = (y, e)) (he : e ≠ 0) : perT p ad re acc a (b :: bs) = ([], e) := by
  rw [perT, h, if_neg he]
theorem perT_no2 {p : Int → Bool} {ad : Int} {re : Nat} {acc : List Pr} {a b y r e : Int} {bs : List Int} (h : adj p b ad = (y, 0)) (h' : bk p re y = (r, e)) (he : e ≠ 0) : perT p ad re acc a (b :: bs) = ([], e) := by
  rw [perT, h, if_pos rfl, h', if_neg he]
noncomputable def perO (rs ds : List Int) (fr to ev ad re : Int) : List Pr × Int :=
  if vl fr to ev ad re = true ∧ rt rs ds = true then perT (bd rs ds) ad re.toNat [] fr (bdT fr to ev 10001 1) else ([], 1)
theorem Row_hp {w : World} {g : Nat} {t : TypeId} {cs : Array Value} (h : Row w g t cs) : w.heap[g]? = some (.cells cs t (0, 0)) := h
theorem infoPer : (Try.prog.info? 58).map (fun i => (i.zero, i.size, i.bytes)) = some (some (.agg #[.int .i64 0, .int .i64 0, .int .i64 0, .int .i64 0]), 4, 32) := by kernel_rfl
theorem infoTm : (Try.prog.info? 46).map (·.size) = some 25 := by kernel_rfl

theorem sk4 {wr W W' : World} {a0 o0 a1 o1 a2 o2 a3 o3 : Nat} {v0 v1 v2 v3 : Value} (hb : Below W.heap.size W W') (h : Below wr.heap.size wr W ∧ W.cell? ⟨a0, o0, none⟩ = some v0 ∧ W.cell? ⟨a1, o1, none⟩ = some v1 ∧ W.cell? ⟨a2, o2, none⟩ = some v2 ∧ W.cell? ⟨a3, o3, none⟩ = some v3) :
    Below wr.heap.size wr W' ∧ W'.cell? ⟨a0, o0, none⟩ = some v0 ∧ W'.cell? ⟨a1, o1, none⟩ = some v1 ∧ W'.cell? ⟨a2, o2, none⟩ = some v2 ∧ W'.cell? ⟨a3, o3, none⟩ = some v3 :=
  ⟨Gen.over hb h.1, Gen.keep hb h.2.1, Gen.keep hb h.2.2.1, Gen.keep hb h.2.2.2.1, Gen.keep hb h.2.2.2.2⟩
section
variable {cs : Array Value} {fr to ev ad re : Int} {A A' : Option Addr} {n cap m cap' : Nat} {rs ds : List Int}
/-- what stays while calls make memory: the boxes of the indenture and of the calendar -/
structure Hp (w : World) (g g' : Nat) (cs : Array Value) (A : Option Addr) (n cap : Nat) (A' : Option Addr) (m cap' : Nat) (rs ds : List Int) (W : World) : Prop where
  b : Below w.heap.size w W
  x : Row W g 46 cs
  r : Row W g' 24 #[.slice A n cap, .slice A' m cap']
  i : Ints W A rs
  j : Ints W A' ds
theorem Hp.keep {w W W' : World} {g g' : Nat} (h : Hp w g g' cs A n cap A' m cap' rs ds W) (hb : Below W.heap.size W W') : Hp w g g' cs A n cap A' m cap' rs ds W' :=
  ⟨Gen.over hb h.b, h.x.keep hb, h.r.keep hb, h.i.keep hb, h.j.keep hb⟩
theorem Hp.drew {w W : World} {g g' : Nat} (h : Hp w g g' cs A n cap A' m cap' rs ds W) : Hp w g g' cs A n cap A' m cap' rs ds W.drew := ⟨h.b.drew, h.x, h.r, h.i, h.j⟩
theorem Hp.c0 {w W : World} {g g' : Nat} (h : Hp w g g' cs A n cap A' m cap' rs ds W) : W.cell? ⟨g', 0, none⟩ = some (.slice A n cap) := h.r.cell 0
theorem Hp.c1 {w W : World} {g g' : Nat} (h : Hp w g g' cs A n cap A' m cap' rs ds W) : W.cell? ⟨g', 1, none⟩ = some (.slice A' m cap') := h.r.cell 1
theorem Hp.t {w W : World} {g g' : Nat} (h : Hp w g g' cs A n cap A' m cap' rs ds W) {j : Nat} {v : Value} (hv : cs[j]? = some v) : W.cell? ⟨g, j, none⟩ = some v := (h.x.cell j).trans hv
theorem Hp.new (w : World) (hc : Ints w A rs) (hc' : Ints w A' ds) : Hp w w.heap.size (w.heap.size + 1) cs A n cap A' m cap' rs ds ((w.alloc (.cells cs 46)).alloc (.cells #[.slice A n cap, .slice A' m cap'] 24)) :=
  ⟨Gen.b_alloc (Gen.b_alloc (Below.refl _ _)), (Row.new _ _ _).alloc _, Gen.rowAt _ _ _ (by simp), (hc.keep (Gen.b_alloc (Below.refl _ _))).keep (Gen.b_alloc (Below.refl _ _)), (hc'.keep (Gen.b_alloc (Below.refl _ _))).keep (Gen.b_alloc (Below.refl _ _))⟩

set_option maxRecDepth 100000 in
set_option maxHeartbeats 8000000 in
theorem periods_is {l : List Pr} {e : Int} {q : Nat} (w : World) (ht : Tm cs fr to ev ad re) (hn : rs.length = n) (hc : Ints w A rs) (hbig : n ≤ 1000000) (hm : ds.length = m) (hc' : Ints w A' ds) (hbig' : m ≤ 1000000) (h : perO rs ds fr to ev ad re = (l, e)) (hq : l.length = q) :
    Calls Try.prog 32 #[.agg cs, .agg #[.slice A n cap, .slice A' m cap']] w fun e' w' => ∃ A2 c2, e' = .returned (.tuple #[.slice A2 q c2, .int .i64 e]) ∧ Below w.heap.size w w' ∧ Pers w' A2 l := by
  have h0 := Hp.new (cs := cs) (n := n) (cap := cap) (m := m) (cap' := cap') w hc hc'
  have HN := Lib.hid hn
  have HM := Lib.hid hm
  have T := Lib.hid ht
  have H := Lib.hid h
  have HQ := Lib.hid hq
  have TI := Lib.hid infoTm
  clear hn hm hc hc' ht h hq
  have arm : True := trivial
  cases hv : vl fr to ev ad re
  · have hh := H.out
    unfold perO at hh
    rw [if_neg (by rw [hv]; simp)] at hh
    obtain rfl : [] = l := by injection hh
    obtain rfl : 1 = e := by injection hh
    obtain rfl : 0 = q := HQ.out
    have V := Lib.hid hv
    clear hh hv
    go_enter Try.func32, Try.ntmps32
    go_wp2_with (first | (refine wpList_load_row rfl 46 _ rfl w.heap.size rfl _ cs _ _ (Row_hp (h0.x)) Try.underlying46 rfl (TI.out.trans (by rw [T.out.sz])) ?_) | fail)
    go_must (refine (valid_is _ T.out V.out).mono ?_)
    rintro e w1 ⟨rfl, hb⟩
    have h1 := h0.keep hb
    clear h0 hb
    go_wp2
    exact bodyPost_ret (v := .tuple #[.slice none 0 0, .int .i64 1]) (by simp [results, Try.results32, go_sem]) rfl ⟨_, _, rfl, h1.b, Pers.nil⟩
  cases hr : rt rs ds
  · have hh := H.out
    unfold perO at hh
    rw [if_neg (by rw [hr]; simp)] at hh
    obtain rfl : [] = l := by injection hh
    obtain rfl : 1 = e := by injection hh
    obtain rfl : 0 = q := HQ.out
    have V := Lib.hid hv
    have R := Lib.hid hr
    clear hh hv hr
    go_enter Try.func32, Try.ntmps32
    go_wp2_with (first | (refine wpList_load_row rfl 46 _ rfl w.heap.size rfl _ cs _ _ (Row_hp (h0.x)) Try.underlying46 rfl (TI.out.trans (by rw [T.out.sz])) ?_) | fail)
    go_must (refine (valid_is _ T.out V.out).mono ?_)
    rintro e w1 ⟨rfl, hb⟩
    have h1 := h0.keep hb
    have k0 := h1.c0
    have k1 := h1.c1
    clear h0 hb
    go_wp2_with (fail)
    go_must (refine (right_is _ HN.out h1.i hbig HM.out h1.j hbig' R.out).mono ?_)
    rintro e w2 ⟨rfl, hb⟩
    have h2 := h1.keep hb
    clear h1 hb k0 k1
    go_wp2
    exact bodyPost_ret (v := .tuple #[.slice none 0 0, .int .i64 1]) (by simp [results, Try.results32, go_sem]) rfl ⟨_, _, rfl, h2.b, Pers.nil⟩
  have hh := H.out
  unfold perO at hh
  rw [if_pos ⟨hv, hr⟩] at hh
  obtain ⟨fr0, frt, to0, ev0, ev1, ad0, ad1, re0, re1⟩ := vl_in hv
  have HH := Lib.hid hh
  have V := Lib.hid hv
  have R := Lib.hid hr
  have BD := Lib.hid (bd_of fr0 frt to0 ev0)
  obtain ⟨B, hB⟩ : ∃ B, bdL fr to ev = B := ⟨_, rfl⟩
  obtain ⟨N, hN⟩ : ∃ N, B.length = N := ⟨_, rfl⟩
  have N01 : 2 ≤ N ∧ N ≤ 10003 := by rw [← hN, ← hB]; exact ⟨BD.out.len, BD.out.le⟩
  obtain ⟨N0, N1⟩ := N01
  have HBL := Lib.hid hB
  have HNL := Lib.hid hN
  clear hh hv hr hB hN H
  obtain ⟨i0, hi0, hz0, hz1, hz2⟩ := info_parts infoPer
  go_enter Try.func32, Try.ntmps32
  go_wp2_with (first | (refine wpList_load_row rfl 46 _ rfl w.heap.size rfl _ cs _ _ (Row_hp (h0.x)) Try.underlying46 rfl (TI.out.trans (by rw [T.out.sz])) ?_) | fail)
  go_must (refine (valid_is _ T.out V.out).mono ?_)
  rintro e w1 ⟨rfl, hb⟩
  have h1 := h0.keep hb
  have k0 := h1.c0
  have k1 := h1.c1
  clear h0 hb
  go_wp2_with (fail)
  go_must (refine (right_is _ HN.out h1.i hbig HM.out h1.j hbig' R.out).mono ?_)
  rintro e w2 ⟨rfl, hb⟩
  have h2 := h1.keep hb
  clear h1 hb k0 k1
  go_wp2_with (first | (refine wpList_load_row rfl 46 _ rfl w.heap.size rfl _ cs _ _ (Row_hp (h2.x)) Try.underlying46 rfl (TI.out.trans (by rw [T.out.sz])) ?_) | fail)
  go_must (refine (bounds_is _ T.out fr0 frt to0 ev0 ev1 HBL.out HNL.out).mono ?_)
  rintro e w3 ⟨Ab, cb, rfl, hb, ib⟩
  have h3 := h2.keep hb
  clear h2 hb
  have s3 : w.heap.size ≤ w3.heap.size := h3.b.size
  have gx := h3.x.lt
  have gr := h3.r.lt
  have HS0 := Lib.hid (show perT (bd rs ds) ad re.toNat [] fr (B.drop (0 + 1)) = (l, e) from by rw [← HBL.out]; exact HH.out)
  have HB0 := Lib.hid (show B[0]? = some fr from by rw [← HBL.out]; rfl)
  have BD2 : Hid (Bd fr to ev B) := Lib.hid (by rw [← HBL.out]; exact BD.out)
  clear BD HH HBL
  go_wp2_with (fail)
  go_loopw [6, 25] (fun lv kv wr => ∃ (k : Nat) (acc : List Pr) (a : Int), k + 1 ≤ N ∧ kv = .int .i64 k ∧ acc.length = k ∧ wr.ownsRow w3.heap.size 58 4 lv k (pls acc) ∧ Hid (perT (bd rs ds) ad re.toNat acc a (B.drop (k + 1)) = (l, e)) ∧ Hid (B[k]? = some a) ∧ Below w3.heap.size w3 wr) (fun _ kv _ => N - (intOf kv).toNat)
  case atStart => exact ⟨0, [], fr, by omega, rfl, rfl, ⟨rfl, .inl ⟨rfl, rfl⟩⟩, HS0, HB0, Below.refl _ _⟩
  case round =>
    obtain ⟨k, acc, a, hk, rfl, hlen, hown, HS, HA, hW⟩ := hrel
    have h4 := h3.keep hW
    have ib4 := ib.keep hW
    have HL := Lib.hid hlen
    clear HS0 HB0 hlen
    by_cases hlt : k + 1 < N
    · obtain ⟨b', off, rfl, hcell⟩ := ib4 (by rw [HNL.out]; omega)
      obtain ⟨b, hb⟩ := at_ B (k + 1) (by rw [HNL.out]; omega)
      obtain ⟨a', ha'⟩ := at_ B k (by rw [HNL.out]; omega)
      obtain rfl : a' = a := by have := HA.out; rw [ha'] at this; injection this
      have cb1 := hcell (k + 1) b hb
      have cb0 := hcell k a' ha'
      have b01 := BD2.out.in_ ev0 fr0 hb
      have b0 : 0 ≤ b := by omega
      have b1 : b ≤ 200000 := by omega
      have hs := HS.out
      rw [drop_cons hb] at hs
      have HB2 := Lib.hid hb
      clear hcell hb ha' b01
      obtain ⟨y, e1, hy⟩ : ∃ y e, adj (bd rs ds) b ad = (y, e) := ⟨_, _, rfl⟩
      have Y := Lib.hid (show adO rs ds b ad = (y, e1) from by rw [adO_in (R.out) b0 b1, hy])
      have y01 := adj_01 b0 b1 hy
      have kk0 : (0 : Int) ≤ (k : Int) := by omega
      have kk1 : (k : Int) < (N : Int) - 1 := by omega
      have k0 := h4.c0
      have k1 := h4.c1
      have k7 := h4.t T.out.c7
      go_wp2
      have q7 : IntKind.i64.wrap ((k : Int) + 1) = (k : Int) + 1 := IntWalk.i64_in _ (by omega)
      have q8 : ((k : Int) + 1).toNat = k + 1 := by omega
      have q9 : (0 : Int) ≤ (k : Int) + 1 := by omega
      have q10 : (k : Int) + 1 < (N : Int) := by omega
      go_region_held3 (fun W' => Below wr.heap.size wr W' ∧ W'.cell? ⟨w.heap.size + 1, 0, none⟩ = some (.slice A n cap) ∧ W'.cell? ⟨w.heap.size + 1, 1, none⟩ = some (.slice A' m cap') ∧ W'.cell? ⟨b', off + (k + 1), none⟩ = some (.int .i64 b) ∧ W'.cell? ⟨w.heap.size, 7, none⟩ = some (.int .i64 ad))
        (first | exact ⟨(Below.refl _ _).drew, k0, k1, cb1, k7⟩ | exact sk4 (by assumption) (by assumption))
        (first | (go_at_call 24; refine (adjust_is _ HN.out (h4.i.keep (And.left (by assumption))) hbig HM.out (h4.j.keep (And.left (by assumption))) hbig' Y.out).mono ?_; rintro e w' ⟨rfl, hb'⟩))
      rename_i hH
      obtain ⟨hb5, k0', k1', _, _⟩ := hH
      clear q7 q8 q9 q10 k0 k1 k7
      have h5 := h4.keep hb5
      have hB5 := Gen.over hb5 hW
      have hown5 := Gen.own_keep hown hb5
      have cb0' := Gen.keep hb5 cb0
      have cb1' := Gen.keep hb5 cb1
      clear h4 hW hown hb5 cb0 cb1 ib4
      rcases y01 with ⟨rfl, y0, y1⟩ | ⟨hi, rfl⟩
      · obtain ⟨r, e2, hr⟩ : ∃ u v, bk (bd rs ds) re.toNat y = (u, v) := ⟨_, _, rfl⟩
        have X := Lib.hid (show bkO rs ds y re = (r, e2) from by rw [bkO_in R.out y0 y1 re0 re1, hr])
        have r01 := bk_01 y0 y1 hr
        have k7 := h5.t T.out.c8
        rcases r01 with ⟨rfl, r0, _⟩ | ⟨rfl, rfl⟩
        · rw [perT_go hy hr] at hs
          have HS2 := Lib.hid hs
          clear hs hy hr HS HA
          go_wp2_with (fail)
          go_must (refine (back_is _ HN.out h5.i hbig HM.out h5.j hbig' X.out).mono ?_)
          rintro e w6 ⟨rfl, hb⟩
          have hB6 := Gen.over hb hB5
          have hown6 := Gen.own_keep hown5 hb
          have cb0 := Gen.keep hb cb0'
          have cb1 := Gen.keep hb cb1'
          have hS6 : w3.heap.size ≤ w6.heap.size := hB6.size
          clear hb h5 hB5 hown5 cb0' cb1' k0' k1' k7
          go_wp2_with (fail)
          have M1 := Lib.hid (show k + 1 ≤ maxLen from by simp only [maxLen]; omega)
          have M2 := Lib.hid (show (k + 1) * 32 ≤ 140737488355328 from by omega)
          have M3 := Lib.hid (show 0 < 4 from by omega)
          have q7 : IntKind.i64.wrap ((k : Int) + 1) = (k : Int) + 1 := IntWalk.i64_in _ (by omega)
          have q8 : ((k : Int) + 1).toNat = k + 1 := by omega
          have q9 : (0 : Int) ≤ (k : Int) + 1 := by omega
          have q10 : (k : Int) + 1 < (N : Int) := by omega
          have kk2 : (k : Int) < (N : Int) := by omega
          go_region_law (((refine App.step_append_any _ (by rfl) (.tmp 54) (.tmp 67) 47 (by rfl) w3.heap.size 58 i0 _ 4 32 Try.underlying47 hi0 hz0 hz1 hz2 rfl M3.out u6 k (pls acc) (by simp [Act.eval, Act.put]) (Gen.own_keep hown6 (Gen.b_alloc (Below.refl _ _).drew)) (w6.heap.size + 1) (some ⟨w6.heap.size, 0, none⟩) 1 1 [.int .i64 a', .int .i64 b, .int .i64 y, .int .i64 r] (by simp [Act.eval, Act.put]) (Gen.reads_blk (by simp) rfl) (by simp [Value.oneCell']) M1.out M2.out (Nat.le_trans hS6 (Gen.b_alloc (Below.refl _ _).drew).size) ?_); intro v2 w7 hown7 hg7 hat7))
          all_goals
            clear q7 q8 q9 q10
            have hB7 := Gen.g_below hown6 hg7 (Gen.b_alloc hB6.drew) (Nat.le_refl _)
            go_wp2
            go_roundw
            case rel => exact ⟨k + 1, acc ++ [(a', b, y, r)], b, by omega, by go_num, by rw [List.length_append, HL.out, List.length_singleton], by rw [pls_snoc]; exact hown7, HS2, HB2, hB7⟩
            case measure => simp [intOf]; omega
        · rw [perT_no2 hy hr (by omega)] at hs
          obtain rfl : [] = l := by injection hs
          obtain rfl : 3 = e := by injection hs
          obtain rfl : 0 = q := HQ.out
          clear hs hy hr HS HA
          go_wp2_with (fail)
          go_must (refine (back_is _ HN.out h5.i hbig HM.out h5.j hbig' X.out).mono ?_)
          rintro e w6 ⟨rfl, hb⟩
          have hB6 := Gen.over hb h5.b
          go_wp2
          exact bodyPost_ret (v := .tuple #[.slice none 0 0, .int .i64 3]) (by simp [results, Try.results32, go_sem]) rfl ⟨_, _, rfl, hB6, Pers.nil⟩
      · rw [perT_no1 hy (by omega)] at hs
        obtain rfl : [] = l := by injection hs
        obtain rfl : e1 = e := by injection hs
        obtain rfl : 0 = q := HQ.out
        have hB6 := h5.b
        clear hs hy HS HA
        rcases hi with rfl | rfl
        all_goals
          go_wp2
          exact bodyPost_ret (v := .tuple #[.slice none 0 0, .int .i64 _]) (by simp [results, Try.results32, go_sem]) rfl ⟨_, _, rfl, hB6, Pers.nil⟩
    · obtain rfl : N = k + 1 := by omega
      have hs := HS.out
      rw [List.drop_of_length_le (by rw [HNL.out]; omega), perT] at hs
      obtain rfl : acc = l := by injection hs
      obtain rfl : 0 = e := by injection hs
      obtain rfl : k = q := by rw [← HL.out, HQ.out]
      obtain ⟨A2, c2, rfl, hr2⟩ := Gen.own_slice hown
      have ip := pers_of_reads HL.out hr2
      have hB6 := h4.b
      clear hs hr2 hown ib4 h4
      go_wp2
      exact bodyPost_ret (v := .tuple #[.slice A2 k c2, .int .i64 0]) (by simp [results, Try.results32, go_sem]) rfl ⟨_, _, rfl, hB6, ip⟩
end
end Go.Proofs.Ytdndlipenjkfpaa.Dat
