/- Big integers: comparing digits. -/
import Derived.Test.YtnifkianjpjahaaDoorBgA
import Derived.Deep.QuietTactic
namespace Go.Proofs.YtnifkianjpjahaaDoor.Bg
open Go.ChangeShapes Go.WideShapes Go.ChangeAt Go.RowKit Go.Proofs.YtnifkianjpjahaaDoor.Cell
set_option linter.unusedVariables false
set_option linter.unusedSimpArgs false

theorem drop_at {l : List Int} {k : Nat} {d : Int} (h : l[k]? = some d) : l.drop k = d :: l.drop (k + 1) := by
  have hl := lt_of_at h
  rw [List.drop_eq_getElem_cons hl]
  congr 1
  have := List.getElem?_eq_getElem hl
  rw [h] at this
  exact (Option.some.inj this).symm
theorem cmp_at {a b : List Int} (ha : Dg a) (hb : Dg b) {k : Nat} {x y : Int} (hx : a[k]? = some x) (hy : b[k]? = some y) (he : a.drop (k + 1) = b.drop (k + 1)) (h : x < y) : val a < val b := by
  have h1 := lt_of_at hx
  have h2 := lt_of_at hy
  rw [val_split a k (by omega), val_split b k (by omega), drop_at hx, drop_at hy, val_cons, val_cons, he]
  have a1 := val_lt (ha.take k)
  have b1 := val_nonneg (hb.take k)
  rw [List.length_take, Nat.min_eq_left (by omega)] at a1
  have e1 : pw k * (x + 1048576 * val (b.drop (k + 1))) = pw k * x + pw k * (1048576 * val (b.drop (k + 1))) := Int.mul_add _ _ _
  have e2 : pw k * (y + 1048576 * val (b.drop (k + 1))) = pw k * y + pw k * (1048576 * val (b.drop (k + 1))) := Int.mul_add _ _ _
  have e3 : pw k * (x + 1) ≤ pw k * y := Int.mul_le_mul_of_nonneg_left (by omega) (by have := pw_pos k; omega)
  rw [Int.mul_add, Int.mul_one] at e3
  omega
theorem cmpI_lt {x y : Int} (h : x < y) : cmpI x y = -1 := if_pos h
theorem cmpI_gt {x y : Int} (h : y < x) : cmpI x y = 1 := (if_neg (by omega)).trans (if_pos h)
theorem cmpI_eq {x y : Int} (h : x = y) : cmpI x y = 0 := (if_neg (by omega)).trans (if_neg (by omega))
def km (k : Nat) : Int := (k : Int) - 1
theorem km_zero : km 0 = -1 := rfl
theorem km_succ (p : Nat) : km (p + 1) = p := by unfold km; omega
theorem wrap_km (k : Nat) (h : k ≤ 9223372036854775807) : IntKind.i64.wrap (km k) = km k := IntWalk.i64_in _ (by unfold km; omega)
set_option maxRecDepth 100000 in
set_option maxHeartbeats 4000000 in
theorem compare_any {A A' : Option Addr} {n n' c c' : Nat} {a b : List Int} (w : World) (hn : a.length = n) (hn' : b.length = n') (ha : Ints w A a) (hb : Ints w A' b) (da : Dg a) (db : Dg b) (ta : Tr a) (tb : Tr b) (hbig : n ≤ 9223372036854775807) (hbig' : n' ≤ 9223372036854775807) :
    Calls Tryd.prog 30 #[.slice A n c, .slice A' n' c'] w fun e w' => e = .returned (.int .i64 (cmpI (val a) (val b))) ∧ ∃ q, w' = w.drewN q := by
  by_cases hl : n = n'
  case neg =>
    have hlb : ((n : Int) != (n' : Int)) = true := by simp; omega
    have HV : Hid (cmpI (n : Int) (n' : Int) = cmpI (val a) (val b)) := Lib.hid (by
      by_cases h : n < n'
      · rw [cmpI_lt (by omega), cmpI_lt (val_len_lt da db tb (by omega))]
      · rw [cmpI_gt (by omega), cmpI_gt (val_len_lt db da ta (by omega))])
    clear hn hn' ha hb
    go_enter Tryd.func30, Tryd.ntmps30
    go_wp2_with (fail)
    go_must (refine (cmp_any (n : Int) (n' : Int) _).mono ?_)
    rintro e w1 ⟨rfl, rfl⟩
    go_wp2
    go_ret
    exact ⟨ret_int HV.out, 0, rfl⟩
  subst hl
  have HN := Lib.hid hn
  have HN' := Lib.hid hn'
  have HD : Hid (a.drop n = b.drop n) := Lib.hid (by rw [List.drop_of_length_le (by omega), List.drop_of_length_le (by omega)])
  have hlb : ((n : Int) != (n : Int)) = false := by simp
  have hkm := wrap_km n hbig
  have hkd : (n : Int) - 1 = km n := rfl
  clear hn hn'
  go_enter Tryd.func30, Tryd.ntmps30
  go_wp2
  clear hkm hkd hlb
  go_loopw [5] (fun v wr => ∃ k : Nat, k ≤ n ∧ v = .int .i64 (km k) ∧ Hid (a.drop k = b.drop k) ∧ ∃ q, wr = w.drewN q) (fun v _ => (intOf v + 1).toNat)
  case atStart => exact ⟨n, Nat.le_refl _, rfl, HD, 0, rfl⟩
  case round =>
    clear HD
    obtain ⟨k, hk, rfl, HE, q, rfl⟩ := hrel
    cases k with
    | zero =>
      rw [km_zero]
      have HV : Hid (cmpI (val a) (val b) = 0) := Lib.hid (cmpI_eq (by have := HE.out; rw [List.drop_zero, List.drop_zero] at this; rw [this]))
      go_wp2
      go_ret
      exact ⟨ret_int HV.out.symm, q, rfl⟩
    | succ p =>
      rw [km_succ]
      obtain ⟨b1, o1, rfl, hc1⟩ := ha (by rw [HN.out]; omega)
      obtain ⟨b2, o2, rfl, hc2⟩ := hb (by rw [HN'.out]; omega)
      obtain ⟨x, hx⟩ := at_ a p (by rw [HN.out]; omega)
      obtain ⟨y, hy⟩ := at_ b p (by rw [HN'.out]; omega)
      have c1 := hc1 p x hx
      have c2 := hc2 p y hy
      have e2 : (p : Int) < (n : Int) := by omega
      have p0 : (0 : Int) ≤ (p : Int) := by omega
      have hw : IntKind.i64.wrap ((p : Int) - 1) = (p : Int) - 1 := IntWalk.i64_in _ (by omega)
      have HX := Lib.hid hx
      have HY := Lib.hid hy
      clear hx hy hc1 hc2 ha hb
      by_cases hxy : x = y
      · have hxb : (x != y) = false := by simp [hxy]
        have HE2 : Hid (a.drop p = b.drop p) := Lib.hid (by rw [drop_at HX.out, drop_at HY.out, HE.out, hxy])
        clear hxy
        go_wp2
        go_quiet (fail)
        go_wp2
        go_roundw
        case rel => exact ⟨p, by omega, rfl, HE2, _, rfl⟩
        case measure => simp [intOf, km]
      · have hxb : (x != y) = true := by simp [hxy]
        have HV : Hid (cmpI x y = cmpI (val a) (val b)) := Lib.hid (by
          by_cases h : x < y
          · rw [cmpI_lt h, cmpI_lt (cmp_at da db HX.out HY.out HE.out h)]
          · rw [cmpI_gt (by omega), cmpI_gt (cmp_at db da HY.out HX.out HE.out.symm (by omega))])
        clear hxy
        go_wp2
        go_quiet (fail)
        generalize hw2 : (w.drewN q).drewN nq = w2
        replace c1 : w2.cell? ⟨b1, o1 + p, none⟩ = some (.int .i64 x) := by rw [← hw2]; exact c1
        replace c2 : w2.cell? ⟨b2, o2 + p, none⟩ = some (.int .i64 y) := by rw [← hw2]; exact c2
        have HW := Lib.hid hw2
        clear hw2
        go_wp2
        go_quiet ((go_at_call 46; refine Calls.quiet_of_same (cmp_any x y _)))
        go_wp2
        go_ret
        exact ⟨ret_int HV.out, _, by rw [← HW.out, World.drewN_drewN, World.drewN_drewN]⟩
end Go.Proofs.YtnifkianjpjahaaDoor.Bg
