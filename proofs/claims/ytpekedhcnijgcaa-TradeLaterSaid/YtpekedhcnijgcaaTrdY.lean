/- Package trade: the contracts of Settle (whole), Open; the reference's Same. -/
import Derived.Test.YtpekedhcnijgcaaTrdX
namespace Go.Proofs.Ytpekedhcnijgcaa.Book
open Go.ChangeShapes Go.WideShapes Go.ChangeAt Go.RowKit Go.Proofs.Ytpekedhcnijgcaa.Cell
set_option linter.unusedVariables false
set_option linter.unusedSimpArgs false

section
variable {A : Option Addr} {n cap : Nat} {ss : List (Int × Int)} {A' : Option Addr} {m cap' : Nat} {us : List Int} {A3 : Option Addr} {q cap3 : Nat} {l : List Tr} {day : Int} {R : List Int × List Tr} {E : Int}
theorem settle_any (w : World) (hn : ss.length = n) (hc : Prs w A ss) (hbig : n ≤ 1000000) (hm : us.length = m) (hc' : Ints w A' us) (hbig' : m ≤ 1000000) (hq : l.length = q) (hl : Trs w A3 l) (hq12 : q ≤ 30) (h : stO ss us l day = (R, E)) :
    Calls Try.prog 16 #[.slice A n cap, .slice A' m cap', .slice A3 q cap3, .int .i64 day] w (StPost R E w) := by
  cases hv : vd ss us
  · exact settle_a w hn hc hbig hm hc' hbig' hq hl (by omega) hv h
  cases hr : rtT ss l
  · exact settle_b w hn hc hbig hm hc' hbig' hq hl (by omega) hv hr h
  by_cases hd : 0 ≤ day ∧ day ≤ 200000
  · exact settle_d w hn hc hbig hm hc' hbig' hq hl hq12 hv hr hd.1 hd.2 h
  · exact settle_c w hn hc hbig hm hc' hbig' hq hl (by omega) hv hr hd h
end
/-- what returns numbers -/
def IlPost (L : List Int) (w : World) (e : Ending) (w' : World) : Prop := ∃ A c, e = .returned (.slice A L.length c) ∧ Below w.heap.size w w' ∧ Ints w' A L
set_option maxRecDepth 100000 in
set_option maxHeartbeats 4000000 in
theorem topenl_any (A : Option Addr) (n cap : Nat) (l : List Tr) (day : Int) (w : World) (hn : l.length = n) (hc : Trs w A l) (hbig : n ≤ 1000000) :
    Calls Try.prog 22 #[.slice A n cap, .int .i64 day] w (IlPost (opL day l n) w) := by
  have HN := Lib.hid hn
  obtain ⟨i0, hi0, hz0, hz1, hz2⟩ := info_parts info3
  clear hn
  go_enter Try.func22, Try.ntmps22
  go_wp2
  go_loopw [5, 10] (fun vv iv wr => ∃ (k : Nat) (v : Value), k ≤ n ∧ iv = .int .i64 k ∧ vv = v ∧ wr.ownsRow w.heap.size 3 1 v (opL day l k).length (ils (opL day l k)) ∧ Below w.heap.size w wr) (fun _ iv _ => n - (intOf iv).toNat)
  case atStart => exact ⟨0, _, Nat.zero_le _, rfl, rfl, ⟨rfl, .inl ⟨rfl, rfl⟩⟩, Below.refl _ _⟩
  case round =>
    obtain ⟨k, v, hk, rfl, rfl, hown, hW⟩ := hrel
    have hS : w.heap.size ≤ wr.heap.size := hW.size
    by_cases hlt : k < n
    · obtain ⟨b, off, rfl, hcell⟩ := (hc.keep hW) (by rw [HN.out]; omega)
      obtain ⟨x, hx⟩ := at_ l k (by rw [HN.out]; exact hlt)
      obtain ⟨c0, c1, c2, c3, c4, c5, c6, c7⟩ := hcell k x hx
      have HX := Lib.hid hx
      have hle := opL_len day l k
      have N1 := Lib.hid (show (opL day l k).length + 1 ≤ maxLen from by simp only [maxLen]; omega)
      have N2 := Lib.hid (show ((opL day l k).length + 1) * 8 ≤ 140737488355328 from by omega)
      obtain ⟨z, hz⟩ : ∃ z, opn day x = z := ⟨_, rfl⟩
      have HZ := Lib.hid hz
      clear hcell hx hz hle
      obtain ⟨xk, xf, xt, xu, xm, xd, xo, xb⟩ := x
      dsimp only at c0 c1 c2 c3 c4 c5 c6 c7
      have hbb : Below wr.heap.size wr (wr.alloc (.cells #[.int .i64 xk, .int .i64 xf, .int .i64 xt, .int .i64 xu, .int .i64 xm, .int .i64 xd, .int .i64 xo, .int .i64 xb] 26)) := Gen.b_alloc (Below.refl _ _)
      have HBB := Lib.hid hbb
      clear hbb
      go_wp2_with (fail)
      go_must (refine (topen_is _ HZ.out).mono ?_)
      rintro e w5 ⟨rfl, hb5⟩
      have hB5 := Gen.over hb5 HBB.out
      have hW5 := Gen.over hB5 hW
      have hown5 := Gen.own_keep hown hB5
      have hS5 : w.heap.size ≤ w5.heap.size := hW5.size
      clear hb5 hB5 hown hW HBB c0 c1 c2 c3 c4 c5 c6 c7
      cases z
      · have HO := Lib.hid hown5
        have HS := Lib.hid (opL_no HX.out HZ.out)
        clear hown5
        go_wp2
        go_roundw
        case rel => first | exact ⟨k + 1, _, by omega, by go_num, rfl, by rw [HS.out]; exact HO.out, hW5⟩ | exact ⟨k + 1, by omega, by go_num, by rw [HS.out]; exact HO.out⟩
        case measure => simp [intOf]; omega
      · have HS := Lib.hid (opL_yes HX.out HZ.out)
        go_wp2_with (first
            | (at_builtin
               go_must (refine App.wpList_append_any _ rfl (.tmp 18) (.tmp 20) _ rfl w.heap.size 3 i0 _ 1 8 Try.underlying23 hi0 hz0 hz1 hz2 rfl (by omega) _ _ _ rfl (Gen.own_keep hown5 (Gen.b_alloc (Below.refl _ _))) _ _ 1 1 [.int .i64 k] rfl (Gen.reads_blk (by simp) rfl) (by simp [Value.oneCell']) N1.out N2.out (Nat.le_trans hS5 (Gen.b_alloc (Below.refl _ _)).size) ?_)
               intro v2 w7 hown7 hg7 hat7
               have hB7 := Gen.g_below hown5 hg7 (Gen.b_alloc hW5) (Nat.le_refl _)
               clear hg7 hat7)
            | fail)
        go_roundw
        case rel => exact ⟨k + 1, _, by omega, by go_num, rfl, by rw [HS.out, List.length_append]; simpa [ils] using hown7, hB7⟩
        case measure => simp [intOf]; omega
    · obtain rfl : k = n := by omega
      obtain ⟨A2, c2, rfl, _⟩ := Gen.own_slice hown
      have HP := Lib.hid (ints_of_own rfl hown)
      clear hown
      go_wp2
      go_ret
      exact ⟨A2, c2, rfl, hW, HP.out⟩
noncomputable def tEq (a b : List Tr) : Bool := @decide (a = b) (Classical.propDecidable _)
theorem tEq_yes {a b : List Tr} (h : a = b) : tEq a b = true := @decide_eq_true _ (Classical.propDecidable _) h
theorem tEq_no {a b : List Tr} (h : a ≠ b) : tEq a b = false := @decide_eq_false _ (Classical.propDecidable _) h
set_option maxRecDepth 100000 in
set_option maxHeartbeats 8000000 in
theorem tsame_any (A : Option Addr) (n cap : Nat) (xs : List Tr) (A' : Option Addr) (m cap' : Nat) (ys : List Tr) (w : World) (hn : xs.length = n) (hc : Trs w A xs) (hbig : n ≤ 1000000)
    (hm : ys.length = m) (hc' : Trs w A' ys) (hbig' : m ≤ 1000000) :
    Calls Try.prog 18 #[.slice A n cap, .slice A' m cap'] w fun e w' => e = .returned (.bool (tEq xs ys)) ∧ Below w.heap.size w w' := by
  have HN := Lib.hid hn
  have HM := Lib.hid hm
  clear hn hm
  by_cases hnm : n = m
  · subst hnm
    go_enter Try.func18, Try.ntmps18
    go_wp2
    go_loopw [5] (fun i wr => ∃ k : Nat, k ≤ n ∧ i = .int .i64 k ∧ xs.take k = ys.take k ∧ ∃ nq, wr = w.drewN nq) (fun i _ => n - (intOf i).toNat)
    case atStart => exact ⟨0, Nat.zero_le _, rfl, by simp, 0, rfl⟩
    case round =>
      obtain ⟨k, hk, rfl, he, nq, rfl⟩ := hrel
      have HE := Lib.hid he
      clear he
      by_cases hlt : k < n
      · obtain ⟨b, off, rfl, hcell⟩ := hc (by rw [HN.out]; omega)
        obtain ⟨b', off', rfl, hcell'⟩ := hc' (by rw [HM.out]; omega)
        obtain ⟨x, hx⟩ := at_ xs k (by rw [HN.out]; exact hlt)
        obtain ⟨y, hy⟩ := at_ ys k (by rw [HM.out]; exact hlt)
        obtain ⟨c0, c1, c2, c3, c4, c5, c6, c7⟩ := hcell k x hx
        obtain ⟨e0, e1, e2, e3, e4, e5, e6, e7⟩ := hcell' k y hy
        have HX := Lib.hid hx
        have HY := Lib.hid hy
        have k0 : (0 : Int) ≤ (k : Int) := by omega
        have k1 : (k : Int) < (n : Int) := by omega
        clear hcell hcell' hx hy hc hc'
        obtain ⟨xk, xf, xt, xu, xm, xd, xo, xb⟩ := x
        obtain ⟨yk, yf, yt, yu, ym, yd, yo, yb⟩ := y
        dsimp only at c0 c1 c2 c3 c4 c5 c6 c7 e0 e1 e2 e3 e4 e5 e6 e7
        have HFF := Lib.hid (show (⟨xk, xf, xt, xu, xm, xd, xo, xb⟩ : Tr) ≠ ⟨yk, yf, yt, yu, ym, yd, yo, yb⟩ → tEq xs ys = false from fun hxy => tEq_no (fun e => hxy (by
            have h1 := HX.out
            rw [e, HY.out] at h1
            exact (Option.some.inj h1).symm)))
        by_cases h0 : xk = yk
        case neg =>
          have HR := Lib.hid (HFF.out (fun c => h0 (congrArg Tr.k c)))
          have b0 : (xk == yk) = false := by rw [beq_eq_false_iff_ne]; exact h0
          go_wp2
          go_quiet (fail)
          go_wp2
          go_ret
          exact ⟨ret_bool HR.out.symm, Gen.dN (Gen.dN (Below.refl _ _) _) _⟩
        subst h0
        by_cases h1 : xf = yf
        case neg =>
          have HR := Lib.hid (HFF.out (fun c => h1 (congrArg Tr.f c)))
          have b1 : (xf == yf) = false := by rw [beq_eq_false_iff_ne]; exact h1
          go_wp2
          go_quiet (fail)
          go_wp2
          go_ret
          exact ⟨ret_bool HR.out.symm, Gen.dN (Gen.dN (Below.refl _ _) _) _⟩
        subst h1
        by_cases h2 : xt = yt
        case neg =>
          have HR := Lib.hid (HFF.out (fun c => h2 (congrArg Tr.t c)))
          have b2 : (xt == yt) = false := by rw [beq_eq_false_iff_ne]; exact h2
          go_wp2
          go_quiet (fail)
          go_wp2
          go_ret
          exact ⟨ret_bool HR.out.symm, Gen.dN (Gen.dN (Below.refl _ _) _) _⟩
        subst h2
        by_cases h3 : xu = yu
        case neg =>
          have HR := Lib.hid (HFF.out (fun c => h3 (congrArg Tr.u c)))
          have b3 : (xu == yu) = false := by rw [beq_eq_false_iff_ne]; exact h3
          go_wp2
          go_quiet (fail)
          go_wp2
          go_ret
          exact ⟨ret_bool HR.out.symm, Gen.dN (Gen.dN (Below.refl _ _) _) _⟩
        subst h3
        by_cases h4 : xm = ym
        case neg =>
          have HR := Lib.hid (HFF.out (fun c => h4 (congrArg Tr.m c)))
          have b4 : (xm == ym) = false := by rw [beq_eq_false_iff_ne]; exact h4
          go_wp2
          go_quiet (fail)
          go_wp2
          go_ret
          exact ⟨ret_bool HR.out.symm, Gen.dN (Gen.dN (Below.refl _ _) _) _⟩
        subst h4
        by_cases h5 : xd = yd
        case neg =>
          have HR := Lib.hid (HFF.out (fun c => h5 (congrArg Tr.d c)))
          have b5 : (xd == yd) = false := by rw [beq_eq_false_iff_ne]; exact h5
          go_wp2
          go_quiet (fail)
          go_wp2
          go_ret
          exact ⟨ret_bool HR.out.symm, Gen.dN (Gen.dN (Below.refl _ _) _) _⟩
        subst h5
        by_cases h6 : xo = yo
        case neg =>
          have HR := Lib.hid (HFF.out (fun c => h6 (congrArg Tr.o c)))
          have b6 : (xo == yo) = false := by rw [beq_eq_false_iff_ne]; exact h6
          go_wp2
          go_quiet (fail)
          go_wp2
          go_ret
          exact ⟨ret_bool HR.out.symm, Gen.dN (Gen.dN (Below.refl _ _) _) _⟩
        subst h6
        by_cases h7 : xb = yb
        case neg =>
          have HR := Lib.hid (HFF.out (fun c => h7 (congrArg Tr.b c)))
          have b7 : (xb == yb) = false := by rw [beq_eq_false_iff_ne]; exact h7
          go_wp2
          go_quiet (fail)
          go_wp2
          go_ret
          exact ⟨ret_bool HR.out.symm, Gen.dN (Gen.dN (Below.refl _ _) _) _⟩
        subst h7
        go_wp2
        go_quiet (fail)
        go_wp2
        go_roundw
        case rel => exact ⟨k + 1, by omega, by go_num, by rw [take_snoc HX.out, take_snoc HY.out, HE.out], _, rfl⟩
        case measure => simp [intOf]; omega
      · obtain rfl : k = n := by omega
        have HF := Lib.hid (show tEq xs ys = true from tEq_yes (by
          have h1 := HE.out
          have e1 : xs.take k = xs := by rw [← HN.out, List.take_length]
          have e2 : ys.take k = ys := by rw [← HM.out, List.take_length]
          rwa [e1, e2] at h1))
        go_wp2
        go_ret
        exact ⟨ret_bool HF.out.symm, Gen.dN (Below.refl _ _) _⟩
  · have HF := Lib.hid (show tEq xs ys = false from tEq_no (fun e => hnm (by rw [← HN.out, ← HM.out, e])))
    have hnb : ((n : Int) != (m : Int)) = true := by rw [bne_iff_ne]; omega
    go_enter Try.func18, Try.ntmps18
    go_wp2
    go_ret
    exact ⟨ret_bool HF.out.symm, Below.refl _ _⟩
theorem tsame_is {A : Option Addr} {n cap : Nat} {xs : List Tr} {A' : Option Addr} {m cap' : Nat} {ys : List Tr} (w : World) (hn : xs.length = n) (hc : Trs w A xs) (hbig : n ≤ 1000000)
    (hm : ys.length = m) (hc' : Trs w A' ys) (hbig' : m ≤ 1000000) (h : xs = ys) :
    Calls Try.prog 18 #[.slice A n cap, .slice A' m cap'] w fun e w' => e = .returned (.bool true) ∧ Below w.heap.size w w' := by
  have hh := tsame_any A n cap xs A' m cap' ys w hn hc hbig hm hc' hbig'
  rw [tEq_yes h] at hh
  exact hh
end Go.Proofs.Ytpekedhcnijgcaa.Book
