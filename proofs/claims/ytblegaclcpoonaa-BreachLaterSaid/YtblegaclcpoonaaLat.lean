/- BreachLater returns true: every two news, graces and longer ones; no condition. -/
import Derived.Test.YtblegaclcpoonaaSto
namespace Go.Proofs.Ytblegaclcpoonaa.Br
open Go.ChangeShapes Go.WideShapes Go.ChangeAt Go.RowKit
set_option linter.unusedVariables false
set_option linter.unusedSimpArgs false

/-- how good news is -/
def ord (z : Int) : Int := if z % 3 = 0 then 0 else if z % 3 = 2 then 1 else 2
theorem ord_in (z : Int) : 0 ≤ ord z ∧ ord z ≤ 2 := by unfold ord; split <;> (try split) <;> omega
theorem ord_is (z : Int) : (z % 3 = 0 ∧ ord z = 0) ∨ (z % 3 = 2 ∧ ord z = 1) ∨ (z % 3 = 1 ∧ ord z = 2) := by
  unfold ord
  split
  · exact .inl ⟨‹_›, rfl⟩
  · split
    · exact .inr (.inl ⟨‹_›, rfl⟩)
    · exact .inr (.inr ⟨by omega, rfl⟩)
set_option maxHeartbeats 400000 in
theorem order_any (z : Int) (w : World) (h0 : 0 ≤ z) (h1 : z ≤ 255) : Calls Try.prog 29 #[.int .u8 z] w fun e w' => e = .returned (.int .i64 (ord z)) ∧ w = w' := by
  by_cases a : z % 3 = 0
  · have HF := Lib.hid (show ord z = 0 from if_pos a)
    go_enter Try.func29, Try.ntmps29
    go_wp2
    go_ret
    exact ⟨ret_int HF.out.symm, rfl⟩
  · by_cases b : z % 3 = 2
    · have HF := Lib.hid (show ord z = 1 from by unfold ord; rw [if_neg a, if_pos b])
      have a' : (z % 3 == 0) = false := by simpa using a
      go_enter Try.func29, Try.ntmps29
      go_wp2
      go_ret
      exact ⟨ret_int HF.out.symm, rfl⟩
    · have HF := Lib.hid (show ord z = 2 from by unfold ord; rw [if_neg a, if_neg b])
      have a' : (z % 3 == 0) = false := by simpa using a
      have b' : (z % 3 == 2) = false := by simpa using b
      clear a b
      go_enter Try.func29, Try.ntmps29
      go_wp2
      go_ret
      exact ⟨ret_int HF.out.symm, rfl⟩
/-- the better one of two news -/
def pk (z y : Int) : Int := if ord z < ord y then y else z
theorem pk_or (z y : Int) : pk z y = z ∨ pk z y = y := by unfold pk; split <;> simp
theorem pk_bad {z y : Int} : (pk z y % 3 = 0 → z % 3 = 0 ∧ y % 3 = 0) ∧ (pk z y % 3 ≠ 1 → z % 3 ≠ 1 ∧ y % 3 ≠ 1) := by
  have a := ord_is z
  have b := ord_is y
  unfold pk
  split <;> omega
def bst (zs ys : List Int) : List Int := List.zipWith pk zs ys
theorem bst_at {zs ys : List Int} {k : Nat} {z y : Int} (hz : zs[k]? = some z) (hy : ys[k]? = some y) : (bst zs ys)[k]? = some (pk z y) := by simp [bst, List.getElem?_zipWith, hz, hy]
theorem bst_length {zs ys : List Int} {n : Nat} (h : zs.length = n) (h' : ys.length = n) : (bst zs ys).length = n := by simp [bst, h, h']
theorem bst_nw {zs ys : List Int} (h : ys.length = zs.length) (i : Nat) : (nw (bst zs ys) i = 0 → nw zs i = 0 ∧ nw ys i = 0) ∧ (nw (bst zs ys) i ≠ 1 → nw zs i ≠ 1 ∧ nw ys i ≠ 1) := by
  by_cases hi : i < zs.length
  · obtain ⟨z, hz⟩ := at_ zs i hi
    obtain ⟨y, hy⟩ := at_ ys i (by omega)
    rw [nw_at (bst_at hz hy), nw_at hz, nw_at hy]
    exact pk_bad
  · have e (l : List Int) (hl : l.length = zs.length) : nw l i = 0 := by
      unfold nw
      rw [List.getElem?_eq_none (by omega)]
      rfl
    rw [e _ (bst_length rfl h), e zs rfl, e ys h]
    omega
theorem bst_bad {zs ys : List Int} (h : ys.length = zs.length) {g i : Nat} (hb : bad (nw (bst zs ys)) g i) : bad (nw zs) g i ∧ bad (nw ys) g i :=
  ⟨⟨((bst_nw h i).1 hb.1).1, fun m a b => ((bst_nw h m).2 (hb.2 m a b)).1⟩, ⟨((bst_nw h i).1 hb.1).2, fun m a b => ((bst_nw h m).2 (hb.2 m a b)).2⟩⟩
theorem bst_in {zs ys : List Int} (hz : ∀ z ∈ zs, 0 ≤ z ∧ z ≤ 255) (hy : ∀ z ∈ ys, 0 ≤ z ∧ z ≤ 255) : ∀ z ∈ bst zs ys, 0 ≤ z ∧ z ≤ 255 := by
  intro x hx
  obtain ⟨k, hk⟩ := List.getElem?_of_mem hx
  have hl : k < (bst zs ys).length := (List.getElem?_eq_some_iff.1 hk).1
  have hl' : k < zs.length ∧ k < ys.length := by simp [bst] at hl; omega
  obtain ⟨z, h1⟩ := at_ zs k hl'.1
  obtain ⟨y, h2⟩ := at_ ys k hl'.2
  rw [bst_at h1 h2] at hk
  obtain rfl := Option.some.inj hk
  rcases pk_or z y with e | e
  · rw [e]; exact hz z (mem_of_at h1)
  · rw [e]; exact hy y (mem_of_at h2)
theorem bad_less {f : Nat → Int} {g l i : Nat} (h : bad f (g + l) i) : bad f g i := ⟨h.1, fun m a b => h.2 m a (by omega)⟩

def u8l (zs : List Int) : List Value := zs.map (Value.int .u8)
theorem u8s_of_reads {w : World} {B : Nat} {A : Option Addr} {zs : List Int} {n : Nat} (hn : zs.length = n) (h : App.Reads w B 1 A n (u8l zs)) : U8s w A zs := fun h0 => by
  obtain ⟨ad, e, hb, hc⟩ := h.2 (by omega)
  obtain ⟨z, hz⟩ := at_ zs 0 h0
  obtain ⟨b, off, spot⟩ := ad
  have hs : spot = none := by simpa [Addr.add] using World.cell?_spot (hc 0 (.int .u8 z) (by simp [u8l, hz]))
  subst hs
  refine ⟨b, off, e, fun j q hq => ?_⟩
  have c1 := hc j (.int .u8 q) (by simp [u8l, hq])
  rwa [Addr.add_lit] at c1
theorem reads_new1 {W : World} {g : Nat} {t : TypeId} {a : Value} (h : g = W.heap.size) : App.Reads (W.alloc (.cells #[a] t)) (g + 1) 1 (some ⟨g, 0, none⟩) 1 [a] :=
  ⟨rfl, fun _ => ⟨_, rfl, Nat.lt_succ_self _, fun j u hu => by
    have hr := rowAt W t #[a] h
    rw [Addr.add_lit, Nat.zero_add, hr.cell]
    simpa using hu⟩⟩
theorem info5 : (Try.prog.info? 5).map (fun i => (i.zero, i.size, i.bytes)) = some (some (.int .u8 0), 1, 1) := by kernel_rfl
theorem play_is (A : Option Addr) (n cap : Nat) (zs : List Int) (g : Nat) (gi : Int) (w : World) (hgi : gi = g) (hn : zs.length = n) (hc : U8s w A zs) (hz : ∀ z ∈ zs, 0 ≤ z ∧ z ≤ 255) (hbig : n ≤ 80) (hg : g ≤ 1000) :
    Calls Try.prog 26 #[.slice A n cap, .int .i64 gi, .int .i64 0] w (PlayPost zs g 0 n w) := by
  subst hgi
  exact play_any A n cap zs g 0 w hn hc hz hbig hg (Int.le_refl _) (by omega)

set_option maxRecDepth 100000 in
set_option maxHeartbeats 1000000 in
theorem later_a (A : Option Addr) (n cap : Nat) (A' : Option Addr) (m cap' : Nat) (g l : Int) (w : World) (h : 80 < n ∨ n ≤ 80 ∧ m ≠ n) :
    Calls Try.prog 5 #[.slice A n cap, .slice A' m cap', .int .u8 g, .int .u8 l] w fun e w' => e = .returned (.bool true) ∧ Below w.heap.size w w' := by
  rcases h with h | ⟨h, h'⟩
  · go_enter Try.func5, Try.ntmps5
    go_wp2_with (fail)
    refine (small_any _).mono ?_
    rintro e w1 ⟨rfl, hb⟩
    go_wp2
    go_ret
    exact ⟨rfl, hb⟩
  · have hb' : ((m : Int) != (n : Int)) = true := by rw [bne_iff_ne]; omega
    clear h'
    go_enter Try.func5, Try.ntmps5
    go_wp2_with (fail)
    refine (small_any _).mono ?_
    rintro e w1 ⟨rfl, hb⟩
    go_wp2
    go_ret
    exact ⟨rfl, hb⟩

set_option maxRecDepth 100000 in
set_option maxHeartbeats 4000000 in
theorem later_b (A : Option Addr) (n cap : Nat) (zs : List Int) (A' : Option Addr) (cap' : Nat) (ys : List Int) (g l : Int) (w : World) (hn : zs.length = n) (hm : ys.length = n) (hc : U8s w A zs) (hc' : U8s w A' ys)
    (hz : ∀ z ∈ zs, 0 ≤ z ∧ z ≤ 255) (hy : ∀ z ∈ ys, 0 ≤ z ∧ z ≤ 255) (hbig : n ≤ 80) (g0 : 0 ≤ g) (g1 : g ≤ 255) (l0 : 0 ≤ l) (l1 : l ≤ 255) :
    Calls Try.prog 5 #[.slice A n cap, .slice A' n cap', .int .u8 g, .int .u8 l] w fun e w' => e = .returned (.bool true) ∧ Below w.heap.size w w' := by
  obtain ⟨G, hG⟩ : ∃ G : Nat, g % 12 = G := ⟨(g % 12).toNat, by omega⟩
  obtain ⟨L, rfl⟩ := Int.eq_ofNat_of_zero_le l0
  have hG1 : G ≤ 11 := by omega
  have HN := Lib.hid hn
  have HM := Lib.hid hm
  have HZ := Lib.hid hz
  have HY := Lib.hid hy
  clear hn hz hm hy
  obtain ⟨i0, hi0, hz0, hz1, hz2⟩ := info_parts info5
  go_enter Try.func5, Try.ntmps5
  go_wp2_with (fail)
  refine (small_any _).mono ?_
  rintro e w1 ⟨rfl, hb1⟩
  go_wp2_with (fail)
  go_must (refine (play_is A n cap zs G _ _ rfl HN.out (hc.keep hb1) HZ.out hbig (by omega)).mono ?_)
  rintro e w2 ⟨A2, c2, rfl, hb2, p2⟩
  have k2 := over hb2 hb1
  clear hb1 hb2
  go_wp2_with (fail)
  go_must (refine (play_is A n cap zs (G + L) _ _ (by omega) HN.out (hc.keep k2) HZ.out hbig (by omega)).mono ?_)
  rintro e w3 ⟨A3, c3, rfl, hb3, p3⟩
  have k3 := over hb3 k2
  replace p2 := p2.keep hb3
  have z3 := hc.keep k3
  have y3 := hc'.keep k3
  have hS3 : w.heap.size ≤ w3.heap.size := k3.size
  clear hb3 k2 hc hc'
  go_wp2_with (fail)
  go_loopw [15, 16] (fun bv i wr => ∃ k : Nat, k ≤ n ∧ i = .int .i64 k ∧ wr.ownsRow w3.heap.size 5 1 bv k (u8l ((bst zs ys).take k)) ∧ Below w3.heap.size w3 wr) (fun _ i _ => n - (intOf i).toNat)
  case atStart => exact ⟨0, Nat.zero_le _, rfl, ⟨rfl, .inl ⟨rfl, rfl⟩⟩, Below.refl _ _⟩
  case round =>
    obtain ⟨k, hk, rfl, hown, hB⟩ := hrel
    have hS : w3.heap.size ≤ wr.heap.size := hB.size
    by_cases hlt : k < n
    · obtain ⟨b, off, rfl, hcell⟩ := z3.keep hB (by rw [HN.out]; omega)
      obtain ⟨b', off', rfl, hcell'⟩ := y3.keep hB (by rw [HM.out]; omega)
      obtain ⟨z, hzk⟩ := at_ zs k (by rw [HN.out]; exact hlt)
      obtain ⟨y, hyk⟩ := at_ ys k (by rw [HM.out]; exact hlt)
      obtain ⟨a0, a1⟩ := HZ.out z (mem_of_at hzk)
      obtain ⟨b0, b1⟩ := HY.out y (mem_of_at hyk)
      have c0 := hcell k z hzk
      have c1 := hcell' k y hyk
      have HT := Lib.hid (take_snoc (bst_at hzk hyk))
      clear hzk hyk hcell hcell'
      by_cases ho : ord z < ord y
      · have HP := Lib.hid (show pk z y = y from if_pos ho)
        obtain ⟨oz0, oz1⟩ := ord_in z
        obtain ⟨oy0, oy1⟩ := ord_in y
        go_wp2_with (fail)
        go_must (refine (order_any y _ b0 b1).mono ?_)
        rintro e w' ⟨rfl, rfl⟩
        go_wp2_with (fail)
        go_must (refine (order_any z _ a0 a1).mono ?_)
        rintro e w' ⟨rfl, rfl⟩
        go_wp2_with (first
          | (at_builtin
             go_must (refine App.wpList_append_any _ rfl (.tmp 78) (.tmp 80) _ rfl w3.heap.size 5 i0 _ 1 1 Try.underlying33 hi0 hz0 hz1 hz2 rfl (by omega) u15 k _ rfl (own_keep hown (b_alloc (Below.refl _ _))) _ _ 1 1 [.int .u8 y] rfl (reads_new1 (by simp)) (by simp [Value.oneCell']) (by simp only [maxLen]; omega) (by omega) (Nat.le_trans hS (b_alloc (Below.refl _ _)).size) ?_)
             intro v2 w2 hown2 hg2 hat2
             have hB2 := g_below hown hg2 (b_alloc hB) (Nat.le_refl _)
             clear hg2 hat2)
          | fail)
        go_roundw
        case rel => exact ⟨k + 1, by omega, by go_num, by rw [HT.out, HP.out]; simpa [u8l] using hown2, hB2⟩
        case measure => simp [intOf]; omega
      · have HP := Lib.hid (show pk z y = z from if_neg ho)
        obtain ⟨oz0, oz1⟩ := ord_in z
        obtain ⟨oy0, oy1⟩ := ord_in y
        have ho' : ord y ≤ ord z := by omega
        clear ho
        go_wp2_with (fail)
        go_must (refine (order_any y _ b0 b1).mono ?_)
        rintro e w' ⟨rfl, rfl⟩
        go_wp2_with (fail)
        go_must (refine (order_any z _ a0 a1).mono ?_)
        rintro e w' ⟨rfl, rfl⟩
        go_wp2_with (first
          | (at_builtin
             go_must (refine App.wpList_append_any _ rfl (.tmp 78) (.tmp 80) _ rfl w3.heap.size 5 i0 _ 1 1 Try.underlying33 hi0 hz0 hz1 hz2 rfl (by omega) u15 k _ rfl (own_keep hown (b_alloc (Below.refl _ _))) _ _ 1 1 [.int .u8 z] rfl (reads_new1 (by simp)) (by simp [Value.oneCell']) (by simp only [maxLen]; omega) (by omega) (Nat.le_trans hS (b_alloc (Below.refl _ _)).size) ?_)
             intro v2 w2 hown2 hg2 hat2
             have hB2 := g_below hown hg2 (b_alloc hB) (Nat.le_refl _)
             clear hg2 hat2)
          | fail)
        go_roundw
        case rel => exact ⟨k + 1, by omega, by go_num, by rw [HT.out, HP.out]; simpa [u8l] using hown2, hB2⟩
        case measure => simp [intOf]; omega
    · obtain rfl : k = n := by omega
      have HBL := Lib.hid (bst_length HN.out HM.out)
      rw [List.take_of_length_le (by rw [HBL.out]; exact Nat.le_refl _)] at hown
      obtain ⟨A5, c5, rfl, hr5⟩ := own_slice hown
      have q5 := u8s_of_reads HBL.out hr5
      replace p2 := p2.keep hB
      replace p3 := p3.keep hB
      replace y3 := y3.keep hB
      clear hr5 hown z3
      go_wp2_with (fail)
      go_must (refine (play_is A5 k c5 _ G _ _ rfl HBL.out q5 (bst_in HZ.out HY.out) hbig (by omega)).mono ?_)
      rintro e w4 ⟨A4, c4, rfl, hb4, p4⟩
      replace p2 := p2.keep hb4
      replace p3 := p3.keep hb4
      replace y3 := y3.keep hb4
      have k4 := over hb4 hB
      clear hb4 hB q5
      go_wp2_with (fail)
      go_must (refine (play_is A' k cap' ys G _ _ rfl HM.out y3 HY.out hbig (by omega)).mono ?_)
      rintro e w6 ⟨A6, c6, rfl, hb6, p6⟩
      replace p2 := p2.keep hb6
      replace p3 := p3.keep hb6
      replace p4 := p4.keep hb6
      have k6 := over hb6 k4
      clear hb6 k4 y3
      obtain ⟨ex, hex⟩ := ex_ex (nw zs) G k
      obtain ⟨ey, hey⟩ := ex_ex (nw zs) (G + L) k
      obtain ⟨ez, hez⟩ := ex_ex (nw (bst zs ys)) G k
      obtain ⟨ew, hew⟩ := ex_ex (nw ys) G k
      have hl : ys.length = zs.length := HM.out.trans HN.out.symm
      have r1 := ex_later hex hey (by omega) fun i hb => bad_less hb
      have r2 := ex_later hex hez (Nat.le_refl _) fun i hb => (bst_bad hl hb).1
      have r3 := ex_later hew hez (Nat.le_refl _) fun i hb => (bst_bad hl hb).2
      have b1 := fall_of_ex (nw_in zs) (show G ≤ 1000 by omega) (Int.le_refl 0) (show (0 : Int) + k ≤ 200000 by omega) hex
      have b2 := fall_of_ex (nw_in zs) (show G + L ≤ 1000 by omega) (Int.le_refl 0) (show (0 : Int) + k ≤ 200000 by omega) hey
      have b3 := fall_of_ex (nw_in (bst zs ys)) (show G ≤ 1000 by omega) (Int.le_refl 0) (show (0 : Int) + k ≤ 200000 by omega) hez
      have b4 := fall_of_ex (nw_in ys) (show G ≤ 1000 by omega) (Int.le_refl 0) (show (0 : Int) + k ≤ 200000 by omega) hew
      clear hex hey hez hew hl
      go_wp2_with (fail)
      go_must (refine (fallen_any A2 k c2 _ _ (hist_length _ _ _ _) p2 hbig).mono ?_)
      rintro e w' ⟨x, rfl, hx, rfl⟩
      obtain rfl := hx.uniq b1
      clear hx b1
      go_wp2_with (fail)
      go_must (refine (fallen_any A3 k c3 _ _ (hist_length _ _ _ _) p3 hbig).mono ?_)
      rintro e w' ⟨y, rfl, hx, rfl⟩
      obtain rfl := hx.uniq b2
      clear hx b2
      go_wp2_with (fail)
      go_must (refine (fallen_any A4 k c4 _ _ (hist_length _ _ _ _) p4 hbig).mono ?_)
      rintro e w' ⟨z, rfl, hx, rfl⟩
      obtain rfl := hx.uniq b3
      clear hx b3
      go_wp2_with (fail)
      go_must (refine (fallen_any A6 k c6 _ _ (hist_length _ _ _ _) p6 hbig).mono ?_)
      rintro e w' ⟨v, rfl, hx, rfl⟩
      obtain rfl := hx.uniq b4
      clear hx b4
      have hB6 : Below w.heap.size w w6 := k3.trans (k6.mono hS3)
      rcases r1 with r1 | ⟨r1, r1'⟩ <;> rcases r2 with r2 | ⟨r2, r2'⟩ <;> rcases r3 with r3 | ⟨r3, r3'⟩
      all_goals first
        | (exfalso; omega)
        | (go_wp2; go_ret; exact ⟨rfl, hB6⟩)
end Go.Proofs.Ytblegaclcpoonaa.Br
