/- The reference of date: the contracts of two, Text, Read. -/
import Derived.Test.YtbfehelhedjgjaaDoorDatY
import Derived.Laws.IdiomStrings
namespace Go.Proofs.YtbfehelhedjgjaaDoor.Dat
open Go.ChangeShapes Go.WideShapes Go.ChangeAt Go.RowKit Go.Proofs.YtbfehelhedjgjaaDoor.Cell
set_option linter.unusedVariables false
set_option linter.unusedSimpArgs false

set_option maxHeartbeats 1000000 in
theorem rtwo_any (n : Nat) (h : n < 100) (w : World) :
    Calls Tryd.prog 31 #[.int .i64 n] w fun e w' => e = .returned (.string (str (tw n))) ∧ Below w.heap.size w w' := by
  have n0 : (0 : Int) ≤ (n : Int) := by omega
  have n1 : (n : Int) < 100 := by omega
  have hd1 : (48 + (n : Int) / 10 % 10) = ((dg (n / 10)).toNat : Int) := by rw [dg_nat (by omega)]; omega
  have hd2 : (48 + (n : Int) % 10) = ((dg (n % 10)).toNat : Int) := by rw [dg_nat (by omega)]; omega
  have hconv : (convert 45 9 (.slice (some ⟨w.heap.size, 0, none⟩) 2 2)).run Tryd.prog (w.alloc (.cells #[.int .u8 (48 + (n : Int) / 10 % 10), .int .u8 (48 + (n : Int) % 10)] 5)) = .ok (.string (str (tw n))) (w.alloc (.cells #[.int .u8 (48 + (n : Int) / 10 % 10), .int .u8 (48 + (n : Int) % 10)] 5)) := by
    rw [hd1, hd2]
    exact run_convert_bytes_back _ 45 9 5 _ 2 (tw n) Tryd.underlying45 Tryd.underlying5 Tryd.underlying9 (fun j hj => by
      have : j = 0 ∨ j = 1 := by rw [tw_length] at hj; omega
      rcases this with rfl | rfl <;> simp [tw, go_sem])
  clear hd1 hd2
  go_enter Tryd.func31, Tryd.ntmps31
  go_wp2
  go_ret
  exact ⟨rfl, by go_grown⟩
theorem rtwo_is {n : Nat} {x : Int} {s : ByteArray} (w : World) (h : n < 100) (hx : x = (n : Int)) (hs : str (tw n) = s) :
    Calls Tryd.prog 31 #[.int .i64 x] w fun e w' => e = .returned (.string s) ∧ Below w.heap.size w w' := by
  have hh := rtwo_any n h w
  rw [hs] at hh
  rw [hx]
  exact hh
set_option maxHeartbeats 2000000 in
theorem rtext_is {day y : Int} {m : Nat} {d : Int} (w : World) (h0 : 0 ≤ day) (h1 : day ≤ 200000) (hp : Pt day y m d) :
    Calls Tryd.prog 21 #[.int .i64 day] w fun e w' => e = .returned (.string (str (tx y m d))) ∧ Below w.heap.size w w' := by
  have y0 := hp.y0
  have y1 := pt_hi h1 hp
  have m0 := hp.m0
  have m1 := hp.m1
  have d0 := hp.d0
  have d31 := lst_in y m (by omega) (by omega)
  have d1 : d ≤ 31 := by have := hp.d1; omega
  have HP := Lib.hid hp
  obtain ⟨dn, rfl⟩ := Int.eq_ofNat_of_zero_le (show 0 ≤ d by omega)
  obtain ⟨yn, rfl⟩ := Int.eq_ofNat_of_zero_le (show 0 ≤ y by omega)
  obtain ⟨sa, ha⟩ : ∃ s, str (tw (yn / 100)) = s := ⟨_, rfl⟩
  obtain ⟨sy, hy⟩ : ∃ s, str (tw (yn % 100)) = s := ⟨_, rfl⟩
  obtain ⟨sm, hm⟩ : ∃ s, str (tw m) = s := ⟨_, rfl⟩
  obtain ⟨sd, hd⟩ : ∃ s, str (tw dn) = s := ⟨_, rfl⟩
  have la : sa.size ≤ 2 := by rw [← ha, str_size]; exact Nat.le_refl _
  have ly : sy.size ≤ 2 := by rw [← hy, str_size]; exact Nat.le_refl _
  have lm : sm.size ≤ 2 := by rw [← hm, str_size]; exact Nat.le_refl _
  have ld : sd.size ≤ 2 := by rw [← hd, str_size]; exact Nat.le_refl _
  have HE := Lib.hid (show sa ++ sy ++ (⟨#[45]⟩ : ByteArray) ++ sm ++ (⟨#[45]⟩ : ByteArray) ++ sd = str (tx yn m dn) from by
    rw [← ha, ← hy, ← hm, ← hd]
    show str _ ++ str _ ++ str [45] ++ str _ ++ str [45] ++ str _ = _
    rw [str_append, str_append, str_append, str_append, str_append]
    rfl)
  have HA := Lib.hid ha
  have HY := Lib.hid hy
  have HM := Lib.hid hm
  have HD := Lib.hid hd
  clear hp d31 hy hm hd ha
  go_enter Tryd.func21, Tryd.ntmps21
  go_wp2_with (fail)
  go_must (refine (rparts_is _ h0 h1 HP.out).mono ?_)
  rintro e w1 ⟨rfl, hB1⟩
  go_wp2_with (fail)
  go_must (refine (rtwo_is (n := yn / 100) _ (by omega) (by omega) HA.out).mono ?_)
  rintro e w2 ⟨rfl, hb2⟩
  have hB2 := Gen.over hb2 hB1
  go_wp2_with (fail)
  go_must (refine (rtwo_is (n := yn % 100) _ (by omega) (by omega) HY.out).mono ?_)
  rintro e w3 ⟨rfl, hb3⟩
  have hB3 := Gen.over hb3 hB2
  go_wp2_with (fail)
  go_must (refine (rtwo_is (n := m) _ (by omega) rfl HM.out).mono ?_)
  rintro e w4 ⟨rfl, hb4⟩
  have hB4 := Gen.over hb4 hB3
  go_wp2_with (fail)
  go_must (refine (rtwo_is (n := dn) _ (by omega) rfl HD.out).mono ?_)
  rintro e w5 ⟨rfl, hb5⟩
  have hB5 := Gen.over hb5 hB4
  go_wp2
  go_ret
  exact ⟨ret_str HE.out, hB5⟩
set_option maxHeartbeats 1000000 in
theorem rtext_no {day : Int} (w : World) (h : ¬ (0 ≤ day ∧ day ≤ 200000)) :
    Calls Tryd.prog 21 #[.int .i64 day] w fun e w' => e = .returned (.string ⟨#[]⟩) ∧ Below w.heap.size w w' := by
  go_enter Tryd.func21, Tryd.ntmps21
  go_wp2_with (fail)
  go_must (refine (rparts_no _ _ h).mono ?_)
  rintro e w1 ⟨rfl, hB⟩
  go_wp2
  go_ret
  exact ⟨rfl, hB⟩
/-- the number between two places -/
def seg (l : List UInt8) (a b : Nat) : Nat := numL ((l.drop a).take (b - a))
theorem numL_snoc (l : List UInt8) (c : UInt8) : numL (l ++ [c]) = numL l * 10 + (c.toNat - 48) := by simp [numL]
theorem seg_self (l : List UInt8) (a : Nat) : seg l a a = 0 := by unfold seg; rw [Nat.sub_self, List.take_zero]; rfl
theorem seg_step {l : List UInt8} {a b : Nat} {c : UInt8} (h : a ≤ b) (hc : l[b]? = some c) : seg l a (b + 1) = seg l a b * 10 + (c.toNat - 48) := by
  unfold seg
  rw [← numL_snoc, show b + 1 - a = b - a + 1 by omega, take_snoc (by rw [List.getElem?_drop, show a + (b - a) = b by omega]; exact hc)]
theorem seg_lt {l : List UInt8} {a b : Nat} (hb : b ≤ l.length) (hab : a ≤ b) (h : ∀ j c, a ≤ j → j < b → l[j]? = some c → isDg c = true) : seg l a b < 10 ^ (b - a) :=
  num_le _ (fun c hc => by
    obtain ⟨j, hj⟩ := List.getElem?_of_mem hc
    have hj1 := lt_of_at hj
    rw [List.length_take, List.length_drop] at hj1
    rw [List.getElem?_take_of_lt (by omega), List.getElem?_drop] at hj
    exact h (a + j) c (by omega) (by omega) hj) _ (by rw [List.length_take, List.length_drop]; omega)
def base (k : Nat) : Nat := if k ≤ 4 then 0 else if k ≤ 7 then 5 else 8
/-- the numbers before a place -/
def rl (l : List UInt8) (k : Nat) : List Int := if k ≤ 4 then [] else if k ≤ 7 then [(seg l 0 4 : Int)] else [(seg l 0 4 : Int), (seg l 5 7 : Int)]
theorem rl_len (l : List UInt8) (k : Nat) : (rl l k).length ≤ 2 := by unfold rl; split <;> (try split) <;> simp
theorem rl_same {l : List UInt8} {k : Nat} (h : ¬ (k = 4 ∨ k = 7)) : rl l (k + 1) = rl l k ∧ base (k + 1) = base k ∧ base k ≤ k := by
  unfold rl base
  by_cases a : k ≤ 4
  · rw [if_pos (show k + 1 ≤ 4 by omega), if_pos a, if_pos (show k + 1 ≤ 4 by omega), if_pos a]; exact ⟨rfl, rfl, by omega⟩
  · rw [if_neg (show ¬ k + 1 ≤ 4 by omega), if_neg a, if_neg (show ¬ k + 1 ≤ 4 by omega), if_neg a]
    by_cases b : k ≤ 7
    · rw [if_pos (show k + 1 ≤ 7 by omega), if_pos b, if_pos (show k + 1 ≤ 7 by omega), if_pos b]; exact ⟨rfl, rfl, by omega⟩
    · rw [if_neg (show ¬ k + 1 ≤ 7 by omega), if_neg b, if_neg (show ¬ k + 1 ≤ 7 by omega), if_neg b]; exact ⟨rfl, rfl, by omega⟩
theorem rl_5 (l : List UInt8) : rl l 5 = rl l 4 ++ [(seg l 0 4 : Int)] := rfl
theorem rl_8 (l : List UInt8) : rl l 8 = rl l 7 ++ [(seg l 5 7 : Int)] := rfl
theorem seg_b {l : List UInt8} {k : Nat} (hl : l.length = 10) (hk : k ≤ 10) (h : ∀ j, j < k → okc l j = true) : seg l (base k) k < 10000 := by
  have hb : base k ≤ k := by unfold base; split; omega; split <;> omega
  have hd : k - base k ≤ 4 := by unfold base; split; omega; split <;> omega
  have := seg_lt (l := l) (a := base k) (b := k) (by omega) hb (fun j c h1 h2 hc => by
    have hj : ¬ (j = 4 ∨ j = 7) := by
      unfold base at h1
      split at h1
      · omega
      · split at h1 <;> omega
    have := h j h2
    unfold okc at this
    rw [hc] at this
    simp only [hj, if_false] at this
    exact this)
  refine Nat.lt_of_lt_of_le this ?_
  calc 10 ^ (k - base k) ≤ 10 ^ 4 := Nat.pow_le_pow_right (by omega) hd
    _ = 10000 := rfl
theorem rd_at {l : List UInt8} (hl : l.length = 10) (hf : fm l = true) : rdO l = ofO (seg l 0 4) (seg l 5 7) (seg l 8 10) := by
  unfold rdO seg
  rw [if_pos hf, List.drop_zero, show (l.drop 8).take (10 - 8) = l.drop 8 from List.take_of_length_le (by rw [List.length_drop, hl]; exact Nat.le_refl _)]
def ivs (us : List Int) : List Value := us.map (Value.int .i64)
theorem ints_own {w : World} {bs n c : Nat} {e : TypeId} {A : Option Addr} {us : List Int} (hn : us.length = n) (h : w.ownsRow bs e 1 (.slice A n c) n (ivs us)) : Ints w A us := fun h0 => by
  obtain ⟨g, cap, hv, _, hlt⟩ := h.form (by omega)
  have hA : A = some ⟨g, 0, none⟩ := by injection hv
  subst hA
  refine ⟨g, 0, rfl, fun j z hz => ?_⟩
  have := h.cells (g := g) rfl j (.int .i64 z) (by simp [ivs, hz])
  rwa [Addr.add_lit] at this
theorem infoN : (Tryd.prog.info? 3).map (fun i => (i.zero, i.size, i.bytes)) = some (some (.int .i64 0), 1, 8) := by kernel_rfl
set_option maxRecDepth 100000 in
set_option maxHeartbeats 8000000 in
theorem rread_any {s : ByteArray} {l : List UInt8} {x e : Int} (w : World) (hs : s.data.toList = l) (hbig : s.size ≤ 9223372036854775807) (h : rdO l = (x, e)) :
    Calls Tryd.prog 13 #[.string s] w fun e' w' => e' = .returned (.tuple #[.int .i64 x, .int .i64 e]) ∧ Below w.heap.size w w' := by
  have hsz : s.size = l.length := by rw [← hs]; exact (Array.length_toList).symm
  by_cases h10 : s.size = 10
  case neg =>
    have b1 : ((s.size : Int) != 10) = true := by rw [bne_iff_ne]; omega
    rw [rdO_no (by unfold fm; rw [decide_eq_false (by omega)]; rfl)] at h
    obtain rfl : 0 = x := by injection h
    obtain rfl : 2 = e := by injection h
    clear h h10 hs hsz
    go_enter Tryd.func13, Tryd.ntmps13
    go_wp2
    exact bodyPost_ret (v := .tuple #[.int .i64 0, .int .i64 2]) (by simp [results, Tryd.results13, go_sem]) rfl ⟨rfl, Below.refl _ _⟩
  have b1 : ((s.size : Int) != 10) = false := by rw [h10]; rfl
  have z0 : s.size ≤ 10 := by omega
  have z1 : 10 ≤ s.size := by omega
  have HS := Lib.hid hs
  have HL := Lib.hid (show l.length = 10 by omega)
  have H := Lib.hid h
  have H10 := Lib.hid h10
  obtain ⟨i0, hi0, hz0, hz1, hz2⟩ := info_parts infoN
  clear hs hsz h h10
  go_enter Tryd.func13, Tryd.ntmps13
  go_wp2
  go_loopw [4, 5, 6] (fun vv nv iv wr => ∃ (k : Nat) (v : Value) (r : Nat), k ≤ 10 ∧ iv = .int .i64 k ∧ nv = .int .i64 r ∧ vv = v ∧ Hid (r = seg l (base k) k) ∧ r < 10000 ∧ Hid (∀ j, j < k → okc l j = true) ∧ wr.ownsRow w.heap.size 3 1 v (rl l k).length (ivs (rl l k)) ∧ Below w.heap.size w wr) (fun _ _ iv _ => 10 - (intOf iv).toNat)
  case atStart => exact ⟨0, _, 0, Nat.zero_le _, rfl, rfl, rfl, Lib.hid (seg_self l 0).symm, by omega, Lib.hid (fun j hj => absurd hj (by omega)), ⟨rfl, .inl ⟨rfl, rfl⟩⟩, Below.refl _ _⟩
  case round =>
    obtain ⟨k, v, r, hk, rfl, rfl, rfl, HR, hr, HA, hown, hW⟩ := hrel
    have hS : w.heap.size ≤ wr.heap.size := hW.size
    by_cases hlt : k < s.size
    · have hk10 : k < 10 := by omega
      by_cases hd : k = 4 ∨ k = 7
      · have HO := Lib.hid (ok_dash HS.out hlt hd)
        by_cases c45 : (s[k].toNat : Int) = 45
        · have HA1 := Lib.hid (ok_snoc HA.out (by rw [HO.out, decide_eq_true c45]))
          have b45 : ((s[k].toNat : Int) != 45) = false := by rw [c45]; rfl
          have HRL : Hid (rl l (k + 1) = rl l k ++ [(r : Int)]) := Lib.hid (by rcases hd with rfl | rfl <;> (rw [HR.out]; rfl))
          have HBS : Hid (0 = seg l (base (k + 1)) (k + 1)) := Lib.hid (by rcases hd with rfl | rfl <;> exact (seg_self l _).symm)
          have hle := rl_len l k
          have N1 := Lib.hid (show (rl l k).length + 1 ≤ maxLen from by simp only [maxLen]; omega)
          have N2 := Lib.hid (show ((rl l k).length + 1) * 8 ≤ 140737488355328 from by omega)
          clear hle c45
          rcases hd with rfl | rfl
          all_goals
            go_wp2_with (first
                | (at_builtin
                   go_must (refine App.wpList_append_any _ rfl (.tmp 28) (.tmp 30) _ rfl w.heap.size 3 i0 _ 1 8 Tryd.underlying43 hi0 hz0 hz1 hz2 rfl (by omega) _ _ _ rfl (Gen.own_keep hown (Gen.b_alloc (Below.refl _ _))) _ _ 1 1 [.int .i64 r] rfl (Gen.reads_blk (by simp) rfl) (by simp [Value.oneCell']) N1.out N2.out (Nat.le_trans hS (Gen.b_alloc (Below.refl _ _)).size) ?_)
                   intro v2 w7 hown7 hg7 hat7
                   have hB7 := Gen.g_below hown hg7 (Gen.b_alloc hW) (Nat.le_refl _)
                   clear hg7 hat7)
                | fail)
            go_roundw
            case rel => exact ⟨_, _, 0, by decide, rfl, rfl, rfl, HBS, by omega, HA1, by rw [HRL.out, List.length_append]; simpa [ivs] using hown7, hB7⟩
            case measure => simp [intOf]
        · have HRD := Lib.hid (rd_no hk10 (by rw [HO.out, decide_eq_false c45]) H.out)
          have b45 : ((s[k].toNat : Int) != 45) = true := by rw [bne_iff_ne]; exact c45
          clear c45
          rcases hd with rfl | rfl
          all_goals
            obtain ⟨rfl, rfl⟩ := HRD.out
            go_wp2
            exact bodyPost_ret (v := .tuple #[.int .i64 0, .int .i64 2]) (by simp [results, Tryd.results13, go_sem]) rfl ⟨rfl, hW⟩
      · have b4 : ((k : Int) == 4) = false := by rw [beq_eq_false_iff_ne]; omega
        have b7 : ((k : Int) == 7) = false := by rw [beq_eq_false_iff_ne]; omega
        have HO := Lib.hid (ok_dig HS.out hlt hd)
        obtain ⟨r1, r2, r3⟩ := rl_same (l := l) hd
        have HRL := Lib.hid r1
        have HBS := Lib.hid r2
        have HB3 := Lib.hid r3
        clear hd r1 r2 r3
        by_cases hg : 48 ≤ (s[k].toNat : Int) ∧ (s[k].toNat : Int) ≤ 57
        · have HA1 := Lib.hid (ok_snoc HA.out (by rw [HO.out, decide_eq_true hg]))
          obtain ⟨g1, g2⟩ := hg
          have HSG := Lib.hid (show r * 10 + (s[k].toNat - 48) = seg l (base (k + 1)) (k + 1) from by
            rw [HBS.out, seg_step HB3.out (at_str HS.out hlt), HR.out])
          have hr2 : r * 10 + (s[k].toNat - 48) < 10000 := by rw [HSG.out]; exact seg_b HL.out (by omega) HA1.out
          have HN := Lib.hid (show 10 * (r : Int) + ((s[k].toNat : Int) - 48) = ((r * 10 + (s[k].toNat - 48) : Nat) : Int) from by omega)
          have HOW := Lib.hid hown
          clear hown
          go_wp2
          go_roundw
          case rel => first | exact ⟨k + 1, _, r * 10 + (s[k].toNat - 48), by omega, by go_num, by rw [← HN.out], rfl, HSG, hr2, HA1, by rw [HRL.out]; exact HOW.out, hW⟩ | exact ⟨k + 1, _, r * 10 + (s[k].toNat - 48), by omega, by go_num, by rw [← HN.out]; go_num, rfl, HSG, hr2, HA1, by rw [HRL.out]; exact HOW.out, hW⟩
          case measure => simp [intOf]; omega
        · obtain ⟨rfl, rfl⟩ := rd_no hk10 (by rw [HO.out, decide_eq_false hg]) H.out
          rcases (show (s[k].toNat : Int) < 48 ∨ (48 ≤ (s[k].toNat : Int) ∧ 57 < (s[k].toNat : Int)) by omega) with g1 | ⟨g1, g2⟩
          all_goals
            clear hg
            go_wp2
            exact bodyPost_ret (v := .tuple #[.int .i64 0, .int .i64 2]) (by simp [results, Tryd.results13, go_sem]) rfl ⟨rfl, hW⟩
    · obtain rfl : k = 10 := by omega
      have hf := fm_yes HL.out HA.out
      have h := H.out
      rw [rd_at HL.out hf, ← ofA_O (by omega)] at h
      rw [show seg l 8 10 = r from HR.out.symm] at h
      have HH := Lib.hid h
      obtain ⟨A2, c2, rfl, _⟩ := Gen.own_slice hown
      obtain ⟨bq, oq, rfl, hcell⟩ := ints_own rfl hown (by rw [show (rl l 10).length = 2 from rfl]; omega)
      have g0 : wr.cell? ⟨bq, oq, none⟩ = some (.int .i64 (seg l 0 4 : Int)) := hcell 0 (seg l 0 4 : Int) rfl
      have g1 := hcell 1 (seg l 5 7 : Int) rfl
      obtain ⟨Y, hY⟩ : ∃ Y : Int, (seg l 0 4 : Int) = Y := ⟨_, rfl⟩
      obtain ⟨M, hM⟩ : ∃ Y : Int, (seg l 5 7 : Int) = Y := ⟨_, rfl⟩
      rw [hY] at g0 h
      rw [hM] at g1 h
      have HH := Lib.hid h
      have hlen : (rl l 10).length = 2 := rfl
      rw [hlen]
      clear hown hcell hY hM h hf hlen
      go_wp2
      go_region_held3 (fun W' => Below wr.heap.size wr W' ∧ W'.cell? ⟨bq, oq, none⟩ = some (.int .i64 Y) ∧ W'.cell? ⟨bq, oq + 1, none⟩ = some (.int .i64 M))
        (first | exact ⟨(Below.refl _ _).drew, g0, g1⟩ | exact ⟨Gen.over (by assumption) (And.left (by assumption)), Gen.keep (by assumption) (And.left (And.right (by assumption))), Gen.keep (by assumption) (And.right (And.right (by assumption)))⟩)
        (first | (go_at_call 9; refine (rof_g _ HH.out).mono ?_; rintro e w' ⟨rfl, hb'⟩))
      all_goals
        rename_i hH
        obtain ⟨hH, _, _⟩ := hH
        have hWZ := Gen.over hH hW
        go_wp2
        exact bodyPost_ret (v := .tuple #[.int .i64 x, .int .i64 e]) (by simp [results, Tryd.results13, go_sem]) rfl ⟨rfl, hWZ⟩
end Go.Proofs.YtbfehelhedjgjaaDoor.Dat
