/- Big integers: Of, magnitude, Int. -/
import Derived.Test.YtnifkianjpjahaaDoorBgN
namespace Go.Proofs.YtnifkianjpjahaaDoor.Bg
open Go.ChangeShapes Go.WideShapes Go.ChangeAt Go.RowKit Go.Proofs.YtnifkianjpjahaaDoor.Cell
set_option linter.unusedVariables false
set_option linter.unusedSimpArgs false

def I64 (n : Int) : Prop := -9223372036854775808 ≤ n ∧ n ≤ 9223372036854775807
set_option maxRecDepth 100000 in
set_option maxHeartbeats 4000000 in
theorem of_val (n : Int) (w : World) (hn : I64 n) : Calls Tryd.prog 16 #[.int .i64 n] w fun e w' => ∃ v, e = .returned v ∧ IsBig w' v n ∧ Below w.heap.size w w' := by
  have hn := hn
  unfold I64 at hn
  have HR0 := Lib.hid (Res.new (Below.refl w.heap.size w))
  by_cases h0 : n < 0
  · have h1 : IntKind.u64.wrap n = n + 18446744073709551616 := by rw [IntKind.wrap_u64]; omega
    have h2 : IntKind.u64.wrap (-(n + 18446744073709551616)) = -n := by rw [IntKind.wrap_u64]; omega
    have HS : Hid (n ≠ 0 → -1 = sg n) := Lib.hid fun _ => (sg_neg h0).symm
    go_enter Tryd.func16, Tryd.ntmps16
    go_wp2_with (fail)
    go_must (refine (ofMag_any (z := n) _ (by omega) (by omega) HS.out).mono ?_)
    rintro e w4 ⟨v, rfl, hv, hb4⟩
    obtain ⟨A3, c3, l3, rfl, _⟩ := hv.ex
    have HR2 := Lib.hid (HR0.out.keep hb4)
    have HV := Lib.hid hv
    have d0 := HR2.out.c0
    have d1 := HR2.out.c1
    have f0 := HR2.out.row.frozen 0
    have f1 := HR2.out.row.frozen 1
    have hg := HR2.out.row.lt
    clear hb4 hv HR0
    go_wp2
    refine bodyPost_ret (v := bigV (sg n) A3 l3.length c3) ?_ rfl ⟨_, rfl, HR2.out.big HV.out _ _, HR2.out.put _ _⟩
    simp [results, Tryd.results16, go_sem, *]
  · have h1 : IntKind.u64.wrap n = n := by rw [IntKind.wrap_u64]; omega
    have HS : Hid (n ≠ 0 → 1 = sg n) := Lib.hid fun _ => (sg_pos (by omega)).symm
    go_enter Tryd.func16, Tryd.ntmps16
    go_wp2_with (fail)
    go_must (refine (ofMag_any (z := n) _ (by omega) (by omega) HS.out).mono ?_)
    rintro e w4 ⟨v, rfl, hv, hb4⟩
    obtain ⟨A3, c3, l3, rfl, _⟩ := hv.ex
    have HR2 := Lib.hid (HR0.out.keep hb4)
    have HV := Lib.hid hv
    have d0 := HR2.out.c0
    have d1 := HR2.out.c1
    have f0 := HR2.out.row.frozen 0
    have f1 := HR2.out.row.frozen 1
    have hg := HR2.out.row.lt
    clear hb4 hv HR0
    go_wp2
    refine bodyPost_ret (v := bigV (sg n) A3 l3.length c3) ?_ rfl ⟨_, rfl, HR2.out.big HV.out _ _, HR2.out.put _ _⟩
    simp [results, Tryd.results16, go_sem, *]
theorem bits_or_comm (k : IntKind) (a b : Int) : bits .or k a b = bits .or k b a := by
  simp only [bits, BitVec.or_comm]
theorem or_u (i : Nat) {u x : Int} (hx0 : 0 ≤ x) (hx : x % 2 ^ i = 0) (hx1 : x < 2 ^ 64) (hu : 0 ≤ u ∧ u < 2 ^ i) (hu1 : u < 2 ^ 64) : bits .or .u64 u x = u + x := by
  rw [bits_or_comm, bits_join .u64 64 (by decide) (fun n h0 h1 => IntWalk.u64_in n (by omega)) i x u hx0 hx hx1 hu.1 hu.2 hu1]
  omega
theorem pw_1 : pw 1 = 1048576 := by decide
theorem pw_2 : pw 2 = 1099511627776 := by decide
theorem pw_3 : pw 3 = 1152921504606846976 := by decide
theorem pw_4 : pw 4 = 1208925819614629174706176 := by decide
/-- numbers of at most 64 bits -/
theorem mag_few {l : List Int} (hd : Dg l) (ht : Tr l) (h : val l < 18446744073709551616) : l.length ≤ 4 ∧ ∀ d, l[3]? = some d → d ≤ 15 := by
  constructor
  · have hn : Nm l (val l) := ⟨hd, ht, rfl⟩
    exact (hn.len 4).2 (by rw [pw_4]; omega)
  · intro d h3
    have h1 : val (l.take 4) = val (l.take 3) + pw 3 * d := val_take_succ h3
    have h2 := val_split l 4 (by have := lt_of_at h3; omega)
    have h4 := val_nonneg (hd.take 3)
    have h5 := val_nonneg (hd.drop 4)
    rw [pw_3] at h1
    rw [pw_4] at h2
    omega
theorem mag_many {l : List Int} (hd : Dg l) (h : l.length ≤ 4) (h3 : ∀ d, l[3]? = some d → d ≤ 15) : val l < 18446744073709551616 := by
  have h1 := val_lt hd
  by_cases h4 : l.length = 4
  · obtain ⟨d, hx⟩ := at_ l 3 (by omega)
    have h5 := val_take_succ hx
    rw [List.take_of_length_le (by omega), pw_3] at h5
    have h6 := val_lt (hd.take 3)
    rw [List.length_take, Nat.min_eq_left (by omega), pw_3] at h6
    have := h3 d hx
    omega
  · have := pw_le (show l.length ≤ 3 by omega)
    rw [pw_3] at this
    omega
set_option maxRecDepth 100000 in
set_option maxHeartbeats 8000000 in
theorem mag_yes {A : Option Addr} {n c : Nat} {l : List Int} (w : World) (hn : l.length = n) (hc : Ints w A l) (hd : Dg l) (ht : Tr l) (hv : val l < 18446744073709551616) :
    Calls Tryd.prog 38 #[.slice A n c] w fun e w' => e = .returned (.tuple #[.int .u64 (val l), .bool true]) ∧ w' = w := by
  obtain ⟨h4, h3⟩ := mag_few hd ht hv
  have HN := Lib.hid hn
  have HD := Lib.hid hd
  have H3 := Lib.hid h3
  have hn4 : n ≤ 4 := by omega
  have h4I : ¬ ((4 : Int) < (n : Int)) := by omega
  have HP : Hid (n = 4 → ∃ b off d, A = some ⟨b, off, none⟩ ∧ w.cell? ⟨b, off + 3, none⟩ = some (.int .i64 d) ∧ d ≤ 15) := Lib.hid fun h => by
    obtain ⟨b, off, e, hcell⟩ := hc (by omega)
    obtain ⟨d, hx⟩ := at_ l 3 (by omega)
    exact ⟨b, off, d, e, hcell 3 d hx, h3 d hx⟩
  clear hn hd ht hv h4 h3
  by_cases h4 : n = 4
  · obtain ⟨b, off, d, rfl, hcd, hd15⟩ := HP.out h4
    · subst h4
      have h15 : ¬ ((15 : Int) < d) := by omega
      go_enter Tryd.func38, Tryd.ntmps38
      go_wp2
      clear h15 hcd
      go_loopw [4, 23] (fun uv iv wr => ∃ k : Nat, k ≤ 4 ∧ iv = .int .i64 k ∧ uv = .int .u64 (val (l.take k)) ∧ wr = w) (fun _ iv _ => 4 - (intOf iv).toNat)
      case atStart => exact ⟨0, Nat.zero_le _, rfl, by rw [List.take_zero]; rfl, rfl⟩
      case round =>
        obtain ⟨k, hk, rfl, rfl, rfl⟩ := hrel
        have k0 : (0 : Int) ≤ (k : Int) := by omega
        by_cases hlt : k < 4
        · have hltI : (k : Int) < 4 := by omega
          obtain ⟨bl, ol, hBe, hcell⟩ := hc (by rw [HN.out]; omega)
          obtain ⟨x, hx⟩ := at_ l k (by rw [HN.out]; exact hlt)
          have c0 := hcell k x hx
          have hxd := HD.out.at_ hx
          have hts := val_take_succ hx
          have hu0 := val_nonneg (HD.out.take k)
          have hu1 := val_lt (HD.out.take k)
          rw [List.length_take, Nat.min_eq_left (by have := lt_of_at hx; omega)] at hu1
          have hx3 := fun h : k = 3 => H3.out x (h ▸ hx)
          clear hcell hx
          injection hBe with hBe
          injection hBe with e1 e2
          subst e1 e2
          have hwx : IntKind.u64.wrap x = x := IntWalk.u64_in _ (by omega)
          have h20 : IntKind.i64.wrap (20 * (k : Int)) = 20 * (k : Int) := IntWalk.i64_in _ (by omega)
          have h20n : ¬ (20 * (k : Int) < 0) := by omega
          have hkk : k = 0 ∨ k = 1 ∨ k = 2 ∨ k = 3 := by omega
          obtain ⟨m, hm1, hm2⟩ : ∃ m : Int, IntKind.u64.wrap (x * 2 ^ (20 * k)) = m ∧ bits .or .u64 (val (l.take k)) m = val (l.take (k + 1)) := by
            refine ⟨_, rfl, ?_⟩
            rcases hkk with h | h | h | h
            · subst h
              rw [pw_zero] at hu1 hts
              have e : x * 2 ^ (20 * 0) = x := by simp
              rw [e, hwx, or_u 0 hxd.1 (by omega) (by omega) (by omega) (by omega), hts]
              omega
            · subst h
              rw [pw_1] at hu1 hts
              have e : x * 2 ^ (20 * 1) = x * 1048576 := congrArg (x * ·) (by decide : (2 : Int) ^ (20 * 1) = 1048576)
              rw [e, IntWalk.u64_in _ (by omega), or_u 20 (by omega) (by omega) (by omega) (by omega) (by omega), hts]
              omega
            · subst h
              rw [pw_2] at hu1 hts
              have e : x * 2 ^ (20 * 2) = x * 1099511627776 := congrArg (x * ·) (by decide : (2 : Int) ^ (20 * 2) = 1099511627776)
              rw [e, IntWalk.u64_in _ (by omega), or_u 40 (by omega) (by omega) (by omega) (by omega) (by omega), hts]
              omega
            · have := hx3 h
              subst h
              rw [pw_3] at hu1 hts
              have e : x * 2 ^ (20 * 3) = x * 1152921504606846976 := congrArg (x * ·) (by decide : (2 : Int) ^ (20 * 3) = 1152921504606846976)
              rw [e, IntWalk.u64_in _ (by omega), or_u 60 (by omega) (by omega) (by omega) (by omega) (by omega), hts]
              omega
          clear hxd hts hu0 hu1 hx3 hkk
          go_wp2
          go_roundw
          case rel => exact ⟨k + 1, by omega, by go_num, rfl, trivial⟩
          case measure => simp [intOf]; omega
        · obtain rfl : k = 4 := by omega
          have HF : Hid (val (l.take 4) = val l) := Lib.hid (by rw [List.take_of_length_le (by rw [HN.out]; exact Nat.le_refl _)])
          go_wp2
          refine bodyPost_ret (v := .tuple #[.int .u64 (val (l.take 4)), .bool true]) ?_ rfl ⟨by rw [HF.out], rfl⟩
          simp [results, Tryd.results38, go_sem]
  · · have hnb : ((n : Int) == 4) = false := by simp; omega
      go_enter Tryd.func38, Tryd.ntmps38
      go_wp2
      clear hnb h4
      go_loopw [4, 23] (fun uv iv wr => ∃ k : Nat, k ≤ n ∧ iv = .int .i64 k ∧ uv = .int .u64 (val (l.take k)) ∧ wr = w) (fun _ iv _ => n - (intOf iv).toNat)
      case atStart => exact ⟨0, Nat.zero_le _, rfl, by rw [List.take_zero]; rfl, rfl⟩
      case round =>
        obtain ⟨k, hk, rfl, rfl, rfl⟩ := hrel
        have k0 : (0 : Int) ≤ (k : Int) := by omega
        by_cases hlt : k < n
        · have hltI : (k : Int) < (n : Int) := by omega
          obtain ⟨bl, ol, hBe, hcell⟩ := hc (by rw [HN.out]; omega)
          obtain ⟨x, hx⟩ := at_ l k (by rw [HN.out]; exact hlt)
          have c0 := hcell k x hx
          have hxd := HD.out.at_ hx
          have hts := val_take_succ hx
          have hu0 := val_nonneg (HD.out.take k)
          have hu1 := val_lt (HD.out.take k)
          rw [List.length_take, Nat.min_eq_left (by have := lt_of_at hx; omega)] at hu1
          have hx3 := fun h : k = 3 => H3.out x (h ▸ hx)
          clear hcell hx
          subst hBe
          have hwx : IntKind.u64.wrap x = x := IntWalk.u64_in _ (by omega)
          have h20 : IntKind.i64.wrap (20 * (k : Int)) = 20 * (k : Int) := IntWalk.i64_in _ (by omega)
          have h20n : ¬ (20 * (k : Int) < 0) := by omega
          have hkk : k = 0 ∨ k = 1 ∨ k = 2 ∨ k = 3 := by omega
          obtain ⟨m, hm1, hm2⟩ : ∃ m : Int, IntKind.u64.wrap (x * 2 ^ (20 * k)) = m ∧ bits .or .u64 (val (l.take k)) m = val (l.take (k + 1)) := by
            refine ⟨_, rfl, ?_⟩
            rcases hkk with h | h | h | h
            · subst h
              rw [pw_zero] at hu1 hts
              have e : x * 2 ^ (20 * 0) = x := by simp
              rw [e, hwx, or_u 0 hxd.1 (by omega) (by omega) (by omega) (by omega), hts]
              omega
            · subst h
              rw [pw_1] at hu1 hts
              have e : x * 2 ^ (20 * 1) = x * 1048576 := congrArg (x * ·) (by decide : (2 : Int) ^ (20 * 1) = 1048576)
              rw [e, IntWalk.u64_in _ (by omega), or_u 20 (by omega) (by omega) (by omega) (by omega) (by omega), hts]
              omega
            · subst h
              rw [pw_2] at hu1 hts
              have e : x * 2 ^ (20 * 2) = x * 1099511627776 := congrArg (x * ·) (by decide : (2 : Int) ^ (20 * 2) = 1099511627776)
              rw [e, IntWalk.u64_in _ (by omega), or_u 40 (by omega) (by omega) (by omega) (by omega) (by omega), hts]
              omega
            · have := hx3 h
              subst h
              rw [pw_3] at hu1 hts
              have e : x * 2 ^ (20 * 3) = x * 1152921504606846976 := congrArg (x * ·) (by decide : (2 : Int) ^ (20 * 3) = 1152921504606846976)
              rw [e, IntWalk.u64_in _ (by omega), or_u 60 (by omega) (by omega) (by omega) (by omega) (by omega), hts]
              omega
          clear hxd hts hu0 hu1 hx3 hkk
          go_wp2
          go_roundw
          case rel => exact ⟨k + 1, by omega, by go_num, rfl, trivial⟩
          case measure => simp [intOf]; omega
        · obtain rfl : n = k := by omega
          have HF : Hid (val (l.take n) = val l) := Lib.hid (by rw [List.take_of_length_le (by rw [HN.out]; exact Nat.le_refl _)])
          go_wp2
          refine bodyPost_ret (v := .tuple #[.int .u64 (val (l.take n)), .bool true]) ?_ rfl ⟨by rw [HF.out], rfl⟩
          simp [results, Tryd.results38, go_sem]
end Go.Proofs.YtnifkianjpjahaaDoor.Bg
