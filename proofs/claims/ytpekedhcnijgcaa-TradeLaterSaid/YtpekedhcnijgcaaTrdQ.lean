/- The reference of trade: the contracts of Open, first. -/
import Derived.Test.YtpekedhcnijgcaaTrdY
namespace Go.Proofs.Ytpekedhcnijgcaa.Book
open Go.ChangeShapes Go.WideShapes Go.ChangeAt Go.RowKit Go.Proofs.Ytpekedhcnijgcaa.Cell
set_option linter.unusedVariables false
set_option linter.unusedSimpArgs false

set_option maxRecDepth 100000 in
set_option maxHeartbeats 4000000 in
theorem ropenl_any (A : Option Addr) (n cap : Nat) (l : List Tr) (day : Int) (w : World) (hn : l.length = n) (hc : Trs w A l) (hbig : n ≤ 1000000) :
    Calls Try.prog 23 #[.slice A n cap, .int .i64 day] w (IlPost (opL day l n) w) := by
  have HN := Lib.hid hn
  obtain ⟨i0, hi0, hz0, hz1, hz2⟩ := info_parts info3
  clear hn
  go_enter Try.func23, Try.ntmps23
  go_wp2_with (fail)
  go_loopw [5, 6] (fun vv iv wr => ∃ (k : Nat) (v : Value), k ≤ n ∧ iv = .int .i64 k ∧ vv = v ∧ wr.ownsRow w.heap.size 3 1 v (opL day l k).length (ils (opL day l k)) ∧ Below w.heap.size w wr) (fun _ iv _ => n - (intOf iv).toNat)
  case atStart => exact ⟨0, _, Nat.zero_le _, rfl, rfl, ⟨rfl, .inl ⟨rfl, rfl⟩⟩, Below.refl _ _⟩
  case round =>
    obtain ⟨k, v, hk, rfl, rfl, hown, hW⟩ := hrel
    have hS : w.heap.size ≤ wr.heap.size := hW.size
    by_cases hlt : k < n
    · obtain ⟨b, off, rfl, hcell⟩ := (hc.keep hW) (by rw [HN.out]; omega)
      obtain ⟨x, hx⟩ := at_ l k (by rw [HN.out]; exact hlt)
      obtain ⟨_, _, _, _, _, c5, c6, _⟩ := hcell k x hx
      have HX := Lib.hid hx
      have hle := opL_len day l k
      have N1 := Lib.hid (show (opL day l k).length + 1 ≤ maxLen from by simp only [maxLen]; omega)
      have N2 := Lib.hid (show ((opL day l k).length + 1) * 8 ≤ 140737488355328 from by omega)
      have hltI : (k : Int) < (n : Int) := by omega
      clear hcell hx hle
      obtain ⟨xk, xf, xt, xu, xm, xd, xo, xb⟩ := x
      dsimp only at c5 c6
      by_cases ho : xo = -1
      · by_cases hd : xd ≤ day
        · have HS := Lib.hid (opL_yes HX.out (show opn day _ = true from decide_eq_true ⟨ho, hd⟩))
          subst ho
          go_wp2_with (first
              | (at_builtin
                 go_must (refine App.wpList_append_any _ rfl (.tmp 28) (.tmp 30) _ rfl w.heap.size 3 i0 _ 1 8 Try.underlying23 hi0 hz0 hz1 hz2 rfl (by omega) _ _ _ rfl (Gen.own_keep hown (Gen.b_alloc (Below.refl _ _))) _ _ 1 1 [.int .i64 k] rfl (Gen.reads_blk (by simp) rfl) (by simp [Value.oneCell']) N1.out N2.out (Nat.le_trans hS (Gen.b_alloc (Below.refl _ _)).size) ?_)
                 intro v2 w7 hown7 hg7 hat7
                 have hB7 := Gen.g_below hown hg7 (Gen.b_alloc hW) (Nat.le_refl _)
                 clear hg7 hat7)
              | fail)
          go_roundw
          case rel => exact ⟨k + 1, _, by omega, by go_num, rfl, by rw [HS.out, List.length_append]; simpa [ils] using hown7, hB7⟩
          case measure => simp [intOf]; omega
        · have hd' : day < xd := by omega
          have HO := Lib.hid hown
          have HS := Lib.hid (opL_no HX.out (show opn day _ = false from decide_eq_false (by dsimp only; omega)))
          subst ho
          clear hown hd
          go_wp2
          go_roundw
          case rel => first | exact ⟨k + 1, _, by omega, by go_num, rfl, by rw [HS.out]; exact HO.out, hW⟩ | exact ⟨k + 1, by omega, by go_num, by rw [HS.out]; exact HO.out⟩
          case measure => simp [intOf]; omega
      · have bo : (xo == -1) = false := by rw [beq_eq_false_iff_ne]; exact ho
        have HO := Lib.hid hown
        have HS := Lib.hid (opL_no HX.out (show opn day _ = false from decide_eq_false (by dsimp only; omega)))
        clear hown ho
        go_wp2
        go_roundw
        case rel => first | exact ⟨k + 1, _, by omega, by go_num, rfl, by rw [HS.out]; exact HO.out, hW⟩ | exact ⟨k + 1, by omega, by go_num, by rw [HS.out]; exact HO.out⟩
        case measure => simp [intOf]; omega
    · obtain rfl : k = n := by omega
      obtain ⟨A2, c2, rfl, _⟩ := Gen.own_slice hown
      have HP := Lib.hid (ints_of_own rfl hown)
      clear hown
      go_wp2
      go_ret
      exact ⟨A2, c2, rfl, hW, HP.out⟩
set_option maxRecDepth 100000 in
set_option maxHeartbeats 4000000 in
theorem rfirst_any (AH : Option Addr) (m cH : Nat) (H : List Int) (A : Option Addr) (n cap : Nat) (l : List Tr) (day : Int) (w : World) (hH : H.length = m) (hI : Ints w AH H) (hn : l.length = n) (hc : Trs w A l) (hbig : n ≤ 1000000)
    (hb : ∀ x ∈ l, 0 ≤ x.f ∧ x.f < m) :
    Calls Try.prog 53 #[.slice AH m cH, .slice A n cap, .int .i64 day] w fun e w' => e = .returned (.int .i64 (idx (can day H) l)) ∧ Below w.heap.size w w' := by
  have HN := Lib.hid hn
  have HH := Lib.hid hH
  have HBD := Lib.hid hb
  clear hn hH hb
  go_enter Try.func53, Try.ntmps53
  go_wp2_with (fail)
  go_loopw [7] (fun iv wr => ∃ k : Nat, k ≤ n ∧ iv = .int .i64 k ∧ Hid (∀ y ∈ l.take k, can day H y = false) ∧ ∃ nq, wr = w.drewN nq) (fun iv _ => n - (intOf iv).toNat)
  case atStart => exact ⟨0, Nat.zero_le _, rfl, Lib.hid (by simp), 0, rfl⟩
  case round =>
    obtain ⟨k, hk, rfl, HA, nq, rfl⟩ := hrel
    by_cases hlt : k < n
    · obtain ⟨b, off, rfl, hcell⟩ := hc (by rw [HN.out]; omega)
      obtain ⟨x, hx⟩ := at_ l k (by rw [HN.out]; exact hlt)
      obtain ⟨_, c1, _, c3, _, c5, c6, _⟩ := hcell k x hx
      have HX := Lib.hid hx
      obtain ⟨f0, f1⟩ := HBD.out x (mem_of_at hx)
      have HF : can day H x = false → Hid (∀ y ∈ l.take (k + 1), can day H y = false) := fun hp => Lib.hid (fun y hy => by
          rw [take_snoc HX.out, List.mem_append] at hy
          rcases hy with hy | hy
          · exact HA.out y hy
          · rw [List.mem_singleton.1 hy]; exact hp)
      have HFF := Lib.hid HF
      have HY : can day H x = true → Hid (idx (can day H) l = k) := fun hp => Lib.hid (idx_yes HA.out HX.out hp)
      have HYY := Lib.hid HY
      have hltI : (k : Int) < (n : Int) := by omega
      have kk0 : (0 : Int) ≤ (k : Int) := by omega
      clear hcell hx HF HY
      obtain ⟨xk, xf, xt, xu, xm, xd, xo, xb⟩ := x
      dsimp only at c1 c3 c5 c6 f0 f1
      obtain ⟨qf, rfl⟩ := Int.eq_ofNat_of_zero_le f0
      obtain ⟨bH, oH, rfl, hcH⟩ := hI (by rw [HH.out]; omega)
      obtain ⟨z, hz⟩ := at_ H qf (by rw [HH.out]; omega)
      have cz := hcH qf z hz
      have HCAN := Lib.hid (show can day H ⟨xk, (qf : Int), xt, xu, xm, xd, xo, xb⟩ = (decide (xo = -1 ∧ xd ≤ day) && decide (xu ≤ z)) from by
        unfold can opn
        dsimp only
        rw [Int.toNat_natCast, List.getD_eq_getElem?_getD, hz]; rfl)
      clear hcH hz
      by_cases ho : xo = -1
      · by_cases hd : xd ≤ day
        · by_cases hu : xu ≤ z
          · have HR := Lib.hid (HYY.out (by rw [HCAN.out, decide_eq_true ⟨ho, hd⟩, decide_eq_true hu]; rfl)).out
            subst ho
            go_wp2
            go_quiet (fail)
            go_wp2
            go_ret
            exact ⟨ret_int HR.out.symm, Gen.dN (Gen.dN (Below.refl _ _) _) _⟩
          · have HR := HFF.out (by rw [HCAN.out, decide_eq_false hu, Bool.and_false])
            have hu' : z < xu := by omega
            subst ho
            clear hu
            go_wp2
            go_quiet (fail)
            go_wp2
            go_roundw
            case rel => first | exact ⟨k + 1, by omega, by go_num, HR, _, rfl⟩ | exact ⟨k + 1, by omega, by go_num, HR⟩
            case measure => simp [intOf]; omega
        · have HR := HFF.out (by rw [HCAN.out, decide_eq_false (show ¬ (xo = -1 ∧ xd ≤ day) by omega), Bool.false_and])
          have hd' : day < xd := by omega
          have hdb : decide (xd ≤ day) = false := decide_eq_false hd
          subst ho
          go_wp2
          go_quiet (fail)
          go_wp2
          go_roundw
          case rel => first | exact ⟨k + 1, by omega, by go_num, HR, _, rfl⟩ | exact ⟨k + 1, by omega, by go_num, HR⟩
          case measure => simp [intOf]; omega
      · have HR := HFF.out (by rw [HCAN.out, decide_eq_false (show ¬ (xo = -1 ∧ xd ≤ day) by omega), Bool.false_and])
        have bo : (xo == -1) = false := by rw [beq_eq_false_iff_ne]; exact ho
        clear ho
        go_wp2
        go_quiet (fail)
        go_wp2
        go_roundw
        case rel => first | exact ⟨k + 1, by omega, by go_num, HR, _, rfl⟩ | exact ⟨k + 1, by omega, by go_num, HR⟩
        case measure => simp [intOf]; omega
    · obtain rfl : k = n := by omega
      have HF := Lib.hid (idx_no (p := can day H) (l := l) (fun y hy => HA.out y (by rw [List.take_of_length_le (by rw [HN.out]; exact Nat.le_refl _)]; exact hy)))
      go_wp2
      go_ret
      exact ⟨ret_int HF.out.symm, Gen.dN (Below.refl _ _) _⟩
end Go.Proofs.Ytpekedhcnijgcaa.Book
