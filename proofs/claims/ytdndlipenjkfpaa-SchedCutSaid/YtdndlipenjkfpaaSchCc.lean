/- Periods once more: the capacity of what it returns. -/
import Derived.Test.YtdndlipenjkfpaaSchC
namespace Go.Proofs.Ytdndlipenjkfpaa.Dat
open Go.ChangeShapes Go.WideShapes Go.ChangeAt Go.RowKit Go.Proofs.Ytdndlipenjkfpaa.Cell
set_option linter.unusedVariables false
set_option linter.unusedSimpArgs false

theorem own_cap {w : World} {base n size : Nat} {e : TypeId} {v : Value} {xs : List Value} (h : w.ownsRow base e size v n xs) : ∃ A c, v = .slice A n c ∧ App.Reads w w.heap.size size A n xs ∧ n ≤ c := by
  have h' := h
  rcases h'.2 with ⟨rfl, rfl⟩ | ⟨g, cap, cur, rfl, _, _, hc, _⟩
  · exact ⟨none, 0, rfl, App.Reads.of_own h, Nat.le_refl _⟩
  · exact ⟨_, _, rfl, App.Reads.of_own h, hc⟩
section
variable {cs : Array Value} {fr to ev ad re : Int} {A A' : Option Addr} {n cap m cap' : Nat} {rs ds : List Int}
set_option maxRecDepth 100000 in
set_option maxHeartbeats 8000000 in
theorem periods_cap {l : List Pr} {e : Int} {q : Nat} (w : World) (ht : Tm cs fr to ev ad re) (hn : rs.length = n) (hc : Ints w A rs) (hbig : n ≤ 1000000) (hm : ds.length = m) (hc' : Ints w A' ds) (hbig' : m ≤ 1000000) (h : perO rs ds fr to ev ad re = (l, e)) (hq : l.length = q) :
    Calls Try.prog 32 #[.agg cs, .agg #[.slice A n cap, .slice A' m cap']] w fun e' w' => ∃ A2 c2, e' = .returned (.tuple #[.slice A2 q c2, .int .i64 e]) ∧ Below w.heap.size w w' ∧ Pers w' A2 l ∧ q ≤ c2 := by
  have h0 := Hp.new (cs := cs) (n := n) (cap := cap) (m := m) (cap' := cap') w hc hc'
  have HN := Lib.hid hn
  have HM := Lib.hid hm
  have T := Lib.hid ht
  have H := Lib.hid h
  have HQ := Lib.hid hq
  have TI := Lib.hid infoTm
  clear hn hm hc hc' ht h hq
  have arm : True := trivial
  cases hv : vl fr to ev ad re
  · have hh := H.out
    unfold perO at hh
    rw [if_neg (by rw [hv]; simp)] at hh
    obtain rfl : [] = l := by injection hh
    obtain rfl : 1 = e := by injection hh
    obtain rfl : 0 = q := HQ.out
    have V := Lib.hid hv
    clear hh hv
    go_enter Try.func32, Try.ntmps32
    go_wp2_with (first | (refine wpList_load_row rfl 46 _ rfl w.heap.size rfl _ cs _ _ (Row_hp (h0.x)) Try.underlying46 rfl (TI.out.trans (by rw [T.out.sz])) ?_) | fail)
    go_must (refine (valid_is _ T.out V.out).mono ?_)
    rintro e w1 ⟨rfl, hb⟩
    have h1 := h0.keep hb
    clear h0 hb
    go_wp2
    exact bodyPost_ret (v := .tuple #[.slice none 0 0, .int .i64 1]) (by simp [results, Try.results32, go_sem]) rfl ⟨_, _, rfl, h1.b, Pers.nil, Nat.le_refl _⟩
  cases hr : rt rs ds
  · have hh := H.out
    unfold perO at hh
    rw [if_neg (by rw [hr]; simp)] at hh
    obtain rfl : [] = l := by injection hh
    obtain rfl : 1 = e := by injection hh
    obtain rfl : 0 = q := HQ.out
    have V := Lib.hid hv
    have R := Lib.hid hr
    clear hh hv hr
    go_enter Try.func32, Try.ntmps32
    go_wp2_with (first | (refine wpList_load_row rfl 46 _ rfl w.heap.size rfl _ cs _ _ (Row_hp (h0.x)) Try.underlying46 rfl (TI.out.trans (by rw [T.out.sz])) ?_) | fail)
    go_must (refine (valid_is _ T.out V.out).mono ?_)
    rintro e w1 ⟨rfl, hb⟩
    have h1 := h0.keep hb
    have k0 := h1.c0
    have k1 := h1.c1
    clear h0 hb
    go_wp2_with (fail)
    go_must (refine (right_is _ HN.out h1.i hbig HM.out h1.j hbig' R.out).mono ?_)
    rintro e w2 ⟨rfl, hb⟩
    have h2 := h1.keep hb
    clear h1 hb k0 k1
    go_wp2
    exact bodyPost_ret (v := .tuple #[.slice none 0 0, .int .i64 1]) (by simp [results, Try.results32, go_sem]) rfl ⟨_, _, rfl, h2.b, Pers.nil, Nat.le_refl _⟩
  have hh := H.out
  unfold perO at hh
  rw [if_pos ⟨hv, hr⟩] at hh
  obtain ⟨fr0, frt, to0, ev0, ev1, ad0, ad1, re0, re1⟩ := vl_in hv
  have HH := Lib.hid hh
  have V := Lib.hid hv
  have R := Lib.hid hr
  have BD := Lib.hid (bd_of fr0 frt to0 ev0)
  obtain ⟨B, hB⟩ : ∃ B, bdL fr to ev = B := ⟨_, rfl⟩
  obtain ⟨N, hN⟩ : ∃ N, B.length = N := ⟨_, rfl⟩
  have N01 : 2 ≤ N ∧ N ≤ 10003 := by rw [← hN, ← hB]; exact ⟨BD.out.len, BD.out.le⟩
  obtain ⟨N0, N1⟩ := N01
  have HBL := Lib.hid hB
  have HNL := Lib.hid hN
  clear hh hv hr hB hN H
  obtain ⟨i0, hi0, hz0, hz1, hz2⟩ := info_parts infoPer
  go_enter Try.func32, Try.ntmps32
  go_wp2_with (first | (refine wpList_load_row rfl 46 _ rfl w.heap.size rfl _ cs _ _ (Row_hp (h0.x)) Try.underlying46 rfl (TI.out.trans (by rw [T.out.sz])) ?_) | fail)
  go_must (refine (valid_is _ T.out V.out).mono ?_)
  rintro e w1 ⟨rfl, hb⟩
  have h1 := h0.keep hb
  have k0 := h1.c0
  have k1 := h1.c1
  clear h0 hb
  go_wp2_with (fail)
  go_must (refine (right_is _ HN.out h1.i hbig HM.out h1.j hbig' R.out).mono ?_)
  rintro e w2 ⟨rfl, hb⟩
  have h2 := h1.keep hb
  clear h1 hb k0 k1
  go_wp2_with (first | (refine wpList_load_row rfl 46 _ rfl w.heap.size rfl _ cs _ _ (Row_hp (h2.x)) Try.underlying46 rfl (TI.out.trans (by rw [T.out.sz])) ?_) | fail)
  go_must (refine (bounds_is _ T.out fr0 frt to0 ev0 ev1 HBL.out HNL.out).mono ?_)
  rintro e w3 ⟨Ab, cb, rfl, hb, ib⟩
  have h3 := h2.keep hb
  clear h2 hb
  have s3 : w.heap.size ≤ w3.heap.size := h3.b.size
  have gx := h3.x.lt
  have gr := h3.r.lt
  have HS0 := Lib.hid (show perT (bd rs ds) ad re.toNat [] fr (B.drop (0 + 1)) = (l, e) from by rw [← HBL.out]; exact HH.out)
  have HB0 := Lib.hid (show B[0]? = some fr from by rw [← HBL.out]; rfl)
  have BD2 : Hid (Bd fr to ev B) := Lib.hid (by rw [← HBL.out]; exact BD.out)
  clear BD HH HBL
  go_wp2_with (fail)
  go_loopw [6, 25] (fun lv kv wr => ∃ (k : Nat) (acc : List Pr) (a : Int), k + 1 ≤ N ∧ kv = .int .i64 k ∧ acc.length = k ∧ wr.ownsRow w3.heap.size 58 4 lv k (pls acc) ∧ Hid (perT (bd rs ds) ad re.toNat acc a (B.drop (k + 1)) = (l, e)) ∧ Hid (B[k]? = some a) ∧ Below w3.heap.size w3 wr) (fun _ kv _ => N - (intOf kv).toNat)
  case atStart => exact ⟨0, [], fr, by omega, rfl, rfl, ⟨rfl, .inl ⟨rfl, rfl⟩⟩, HS0, HB0, Below.refl _ _⟩
  case round =>
    obtain ⟨k, acc, a, hk, rfl, hlen, hown, HS, HA, hW⟩ := hrel
    have h4 := h3.keep hW
    have ib4 := ib.keep hW
    have HL := Lib.hid hlen
    clear HS0 HB0 hlen
    by_cases hlt : k + 1 < N
    · obtain ⟨b', off, rfl, hcell⟩ := ib4 (by rw [HNL.out]; omega)
      obtain ⟨b, hb⟩ := at_ B (k + 1) (by rw [HNL.out]; omega)
      obtain ⟨a', ha'⟩ := at_ B k (by rw [HNL.out]; omega)
      obtain rfl : a' = a := by have := HA.out; rw [ha'] at this; injection this
      have cb1 := hcell (k + 1) b hb
      have cb0 := hcell k a' ha'
      have b01 := BD2.out.in_ ev0 fr0 hb
      have b0 : 0 ≤ b := by omega
      have b1 : b ≤ 200000 := by omega
      have hs := HS.out
      rw [drop_cons hb] at hs
      have HB2 := Lib.hid hb
      clear hcell hb ha' b01
      obtain ⟨y, e1, hy⟩ : ∃ y e, adj (bd rs ds) b ad = (y, e) := ⟨_, _, rfl⟩
      have Y := Lib.hid (show adO rs ds b ad = (y, e1) from by rw [adO_in (R.out) b0 b1, hy])
      have y01 := adj_01 b0 b1 hy
      have kk0 : (0 : Int) ≤ (k : Int) := by omega
      have kk1 : (k : Int) < (N : Int) - 1 := by omega
      have k0 := h4.c0
      have k1 := h4.c1
      have k7 := h4.t T.out.c7
      go_wp2
      have q7 : IntKind.i64.wrap ((k : Int) + 1) = (k : Int) + 1 := IntWalk.i64_in _ (by omega)
      have q8 : ((k : Int) + 1).toNat = k + 1 := by omega
      have q9 : (0 : Int) ≤ (k : Int) + 1 := by omega
      have q10 : (k : Int) + 1 < (N : Int) := by omega
      go_region_held3 (fun W' => Below wr.heap.size wr W' ∧ W'.cell? ⟨w.heap.size + 1, 0, none⟩ = some (.slice A n cap) ∧ W'.cell? ⟨w.heap.size + 1, 1, none⟩ = some (.slice A' m cap') ∧ W'.cell? ⟨b', off + (k + 1), none⟩ = some (.int .i64 b) ∧ W'.cell? ⟨w.heap.size, 7, none⟩ = some (.int .i64 ad))
        (first | exact ⟨(Below.refl _ _).drew, k0, k1, cb1, k7⟩ | exact sk4 (by assumption) (by assumption))
        (first | (go_at_call 24; refine (adjust_is _ HN.out (h4.i.keep (And.left (by assumption))) hbig HM.out (h4.j.keep (And.left (by assumption))) hbig' Y.out).mono ?_; rintro e w' ⟨rfl, hb'⟩))
      rename_i hH
      obtain ⟨hb5, k0', k1', _, _⟩ := hH
      clear q7 q8 q9 q10 k0 k1 k7
      have h5 := h4.keep hb5
      have hB5 := Gen.over hb5 hW
      have hown5 := Gen.own_keep hown hb5
      have cb0' := Gen.keep hb5 cb0
      have cb1' := Gen.keep hb5 cb1
      clear h4 hW hown hb5 cb0 cb1 ib4
      rcases y01 with ⟨rfl, y0, y1⟩ | ⟨hi, rfl⟩
      · obtain ⟨r, e2, hr⟩ : ∃ u v, bk (bd rs ds) re.toNat y = (u, v) := ⟨_, _, rfl⟩
        have X := Lib.hid (show bkO rs ds y re = (r, e2) from by rw [bkO_in R.out y0 y1 re0 re1, hr])
        have r01 := bk_01 y0 y1 hr
        have k7 := h5.t T.out.c8
        rcases r01 with ⟨rfl, r0, _⟩ | ⟨rfl, rfl⟩
        · rw [perT_go hy hr] at hs
          have HS2 := Lib.hid hs
          clear hs hy hr HS HA
          go_wp2_with (fail)
          go_must (refine (back_is _ HN.out h5.i hbig HM.out h5.j hbig' X.out).mono ?_)
          rintro e w6 ⟨rfl, hb⟩
          have hB6 := Gen.over hb hB5
          have hown6 := Gen.own_keep hown5 hb
          have cb0 := Gen.keep hb cb0'
          have cb1 := Gen.keep hb cb1'
          have hS6 : w3.heap.size ≤ w6.heap.size := hB6.size
          clear hb h5 hB5 hown5 cb0' cb1' k0' k1' k7
          go_wp2_with (fail)
          have M1 := Lib.hid (show k + 1 ≤ maxLen from by simp only [maxLen]; omega)
          have M2 := Lib.hid (show (k + 1) * 32 ≤ 140737488355328 from by omega)
          have M3 := Lib.hid (show 0 < 4 from by omega)
          have q7 : IntKind.i64.wrap ((k : Int) + 1) = (k : Int) + 1 := IntWalk.i64_in _ (by omega)
          have q8 : ((k : Int) + 1).toNat = k + 1 := by omega
          have q9 : (0 : Int) ≤ (k : Int) + 1 := by omega
          have q10 : (k : Int) + 1 < (N : Int) := by omega
          have kk2 : (k : Int) < (N : Int) := by omega
          go_region_law (((refine App.step_append_any _ (by rfl) (.tmp 54) (.tmp 67) 47 (by rfl) w3.heap.size 58 i0 _ 4 32 Try.underlying47 hi0 hz0 hz1 hz2 rfl M3.out u6 k (pls acc) (by simp [Act.eval, Act.put]) (Gen.own_keep hown6 (Gen.b_alloc (Below.refl _ _).drew)) (w6.heap.size + 1) (some ⟨w6.heap.size, 0, none⟩) 1 1 [.int .i64 a', .int .i64 b, .int .i64 y, .int .i64 r] (by simp [Act.eval, Act.put]) (Gen.reads_blk (by simp) rfl) (by simp [Value.oneCell']) M1.out M2.out (Nat.le_trans hS6 (Gen.b_alloc (Below.refl _ _).drew).size) ?_); intro v2 w7 hown7 hg7 hat7))
          all_goals
            clear q7 q8 q9 q10
            have hB7 := Gen.g_below hown6 hg7 (Gen.b_alloc hB6.drew) (Nat.le_refl _)
            go_wp2
            go_roundw
            case rel => exact ⟨k + 1, acc ++ [(a', b, y, r)], b, by omega, by go_num, by rw [List.length_append, HL.out, List.length_singleton], by rw [pls_snoc]; exact hown7, HS2, HB2, hB7⟩
            case measure => simp [intOf]; omega
        · rw [perT_no2 hy hr (by omega)] at hs
          obtain rfl : [] = l := by injection hs
          obtain rfl : 3 = e := by injection hs
          obtain rfl : 0 = q := HQ.out
          clear hs hy hr HS HA
          go_wp2_with (fail)
          go_must (refine (back_is _ HN.out h5.i hbig HM.out h5.j hbig' X.out).mono ?_)
          rintro e w6 ⟨rfl, hb⟩
          have hB6 := Gen.over hb h5.b
          go_wp2
          exact bodyPost_ret (v := .tuple #[.slice none 0 0, .int .i64 3]) (by simp [results, Try.results32, go_sem]) rfl ⟨_, _, rfl, hB6, Pers.nil, Nat.le_refl _⟩
      · rw [perT_no1 hy (by omega)] at hs
        obtain rfl : [] = l := by injection hs
        obtain rfl : e1 = e := by injection hs
        obtain rfl : 0 = q := HQ.out
        have hB6 := h5.b
        clear hs hy HS HA
        rcases hi with rfl | rfl
        all_goals
          go_wp2
          exact bodyPost_ret (v := .tuple #[.slice none 0 0, .int .i64 _]) (by simp [results, Try.results32, go_sem]) rfl ⟨_, _, rfl, hB6, Pers.nil, Nat.le_refl _⟩
    · obtain rfl : N = k + 1 := by omega
      have hs := HS.out
      rw [List.drop_of_length_le (by rw [HNL.out]; omega), perT] at hs
      obtain rfl : acc = l := by injection hs
      obtain rfl : 0 = e := by injection hs
      obtain rfl : k = q := by rw [← HL.out, HQ.out]
      obtain ⟨A2, c2, rfl, hr2, hcap⟩ := own_cap hown
      have ip := pers_of_reads HL.out hr2
      have hB6 := h4.b
      clear hs hr2 hown ib4 h4
      go_wp2
      exact bodyPost_ret (v := .tuple #[.slice A2 k c2, .int .i64 0]) (by simp [results, Try.results32, go_sem]) rfl ⟨_, _, rfl, hB6, ip, hcap⟩
end
end Go.Proofs.Ytdndlipenjkfpaa.Dat
