/- AgentBack: what the functions of package agent return where the statement calls them. -/
import Derived.Test.YtblegaclcpoonabGone
namespace Go.Proofs.Ytblegaclcpoonab.Agent
open Go.ChangeShapes Go.WideShapes Go.ChangeAt Go.RowKit
set_option linter.unusedVariables false

theorem rdy_live {t o n : Int} (hp : okB t o = true) (n0 : 1 ≤ n) (n1 : n ≤ 1000000000000000) : rdy t o false n = 0 := by
  unfold rdy
  rw [if_pos ⟨hp, n0, n1⟩]
  rfl
theorem rdy_off {t o n : Int} (hp : okB t o = true) (n0 : 1 ≤ n) (n1 : n ≤ 1000000000000000) : rdy t o true n = 7 := by
  unfold rdy
  rw [if_pos ⟨hp, n0, n1⟩]
  rfl
theorem ch_ok {t o : Int} {g : Bool} {n s c : Int} (hr : rdy t o g n = 0) (h0 : 0 ≤ s + c) (h1 : s + c ≤ 1000000000000000) : chE t o g n s c = 0 ∧ chV t o g n s c = s + c := by
  unfold chE chV addE addV
  rw [if_pos hr, if_pos hr, if_neg (by omega), if_neg (by omega), if_neg (by omega), if_neg (by omega)]
  exact ⟨rfl, rfl⟩
theorem ch_full {t o : Int} {g : Bool} {n s c : Int} (hr : rdy t o g n = 0) (h1 : 1000000000000000 < s + c) : chE t o g n s c = 6 ∧ chV t o g n s c = s := by
  unfold chE chV addE addV
  rw [if_pos hr, if_pos hr, if_pos h1, if_pos h1]
  exact ⟨rfl, rfl⟩
theorem ch_off {t o : Int} {n s c : Int} (hr : rdy t o true n = 7) : chE t o true n s c = 7 ∧ chV t o true n s c = s := by
  unfold chE chV
  rw [hr]
  exact ⟨rfl, rfl⟩

theorem k_take_ok {t o n : Int} (hp : okB t o = true) (n0 : 1 ≤ n) (n1 : n ≤ 1000000000000000) (h : t + n ≤ 1000000000000000) (w : World) : Calls Try.prog 18 #[pv t o false, .int .i64 n] w fun e w' => e = .returned (.tuple #[pv (t + n) o false, .int .i64 0]) ∧ Below w.heap.size w w' := by
  have hh := take_any t o false n w
  have b := okB_in hp
  obtain ⟨e0, e1⟩ := ch_ok (s := t) (c := n) (rdy_live hp n0 n1) (by omega) h
  rw [e0, e1] at hh
  exact hh

theorem k_take_full {t o n : Int} (hp : okB t o = true) (n0 : 1 ≤ n) (n1 : n ≤ 1000000000000000) (h : 1000000000000000 < t + n) (w : World) : Calls Try.prog 18 #[pv t o false, .int .i64 n] w fun e w' => e = .returned (.tuple #[pv t o false, .int .i64 6]) ∧ Below w.heap.size w w' := by
  have hh := take_any t o false n w
  obtain ⟨e0, e1⟩ := ch_full (s := t) (c := n) (rdy_live hp n0 n1) h
  rw [e0, e1] at hh
  exact hh

theorem k_pay_back {t o n : Int} (hp : okB t o = true) (n0 : 1 ≤ n) (n1 : n ≤ 1000000000000000) (h : t + n ≤ 1000000000000000) (w : World) : Calls Try.prog 20 #[pv (t + n) o false, .int .i64 n] w fun e w' => e = .returned (.tuple #[pv t o false, .int .i64 0]) ∧ Below w.heap.size w w' := by
  have hh := pay_any (t + n) o false n w
  have b := okB_in hp
  obtain ⟨e0, e1⟩ := ch_ok (s := t + n) (c := -n) (rdy_live (t := t + n) (o := o) (okB_mk ⟨by omega, by omega, by omega, by omega⟩) n0 n1) (by omega) (by omega)
  have e2 : t + n + -n = t := by omega
  rw [e0, e1, e2] at hh
  exact hh

theorem k_take_m {t o n : Int} (hp : okB t o = true) (n0 : 1 ≤ n) (n1 : n ≤ 1000000000000000) {m : Int} (m0 : 1 ≤ m) (h : t + n + m ≤ 1000000000000000) (w : World) : Calls Try.prog 18 #[pv (t + n) o false, .int .i64 m] w fun e w' => e = .returned (.tuple #[pv (t + n + m) o false, .int .i64 0]) ∧ Below w.heap.size w w' := by
  have hh := take_any (t + n) o false m w
  have b := okB_in hp
  obtain ⟨e0, e1⟩ := ch_ok (s := t + n) (c := m) (rdy_live (t := t + n) (o := o) (n := m) (okB_mk ⟨by omega, by omega, by omega, by omega⟩) m0 (by omega)) (by omega) h
  rw [e0, e1] at hh
  exact hh

theorem k_take_m_full {t o n : Int} (hp : okB t o = true) (n0 : 1 ≤ n) (n1 : n ≤ 1000000000000000) {m : Int} (m0 : 1 ≤ m) (m1 : m ≤ 1000000000000000) (h0 : t + n ≤ 1000000000000000) (h : 1000000000000000 < t + n + m) (w : World) : Calls Try.prog 18 #[pv (t + n) o false, .int .i64 m] w fun e w' => e = .returned (.tuple #[pv (t + n) o false, .int .i64 6]) ∧ Below w.heap.size w w' := by
  have hh := take_any (t + n) o false m w
  have b := okB_in hp
  obtain ⟨e0, e1⟩ := ch_full (s := t + n) (c := m) (rdy_live (t := t + n) (o := o) (n := m) (okB_mk ⟨by omega, by omega, by omega, by omega⟩) m0 m1) h
  rw [e0, e1] at hh
  exact hh

theorem k_take_nm {t o n : Int} (hp : okB t o = true) (n0 : 1 ≤ n) (n1 : n ≤ 1000000000000000) {m : Int} (m0 : 1 ≤ m) (h : t + n + m ≤ 1000000000000000) (w : World) : Calls Try.prog 18 #[pv t o false, .int .i64 (n + m)] w fun e w' => e = .returned (.tuple #[pv (t + n + m) o false, .int .i64 0]) ∧ Below w.heap.size w w' := by
  have hh := take_any t o false (n + m) w
  have b := okB_in hp
  obtain ⟨e0, e1⟩ := ch_ok (s := t) (c := n + m) (rdy_live (n := n + m) hp (by omega) (by omega)) (by omega) (by omega)
  have e2 : t + (n + m) = t + n + m := by omega
  rw [e0, e1, e2] at hh
  exact hh

theorem k_take_nm_full {t o n : Int} (hp : okB t o = true) (n0 : 1 ≤ n) (n1 : n ≤ 1000000000000000) {m : Int} (m0 : 1 ≤ m) (m1 : n + m ≤ 1000000000000000) (h : 1000000000000000 < t + n + m) (w : World) : Calls Try.prog 18 #[pv t o false, .int .i64 (n + m)] w fun e w' => e = .returned (.tuple #[pv t o false, .int .i64 6]) ∧ Below w.heap.size w w' := by
  have hh := take_any t o false (n + m) w
  obtain ⟨e0, e1⟩ := ch_full (s := t) (c := n + m) (rdy_live (n := n + m) hp (by omega) m1) (by omega)
  rw [e0, e1] at hh
  exact hh

theorem k_earn_ok {t o n : Int} (hp : okB t o = true) (n0 : 1 ≤ n) (n1 : n ≤ 1000000000000000) (h : o + n ≤ 1000000000000000) (w : World) : Calls Try.prog 22 #[pv t o false, .int .i64 n] w fun e w' => e = .returned (.tuple #[pv t (o + n) false, .int .i64 0]) ∧ Below w.heap.size w w' := by
  have hh := earn_any t o false n w
  have b := okB_in hp
  obtain ⟨e0, e1⟩ := ch_ok (s := o) (c := n) (rdy_live hp n0 n1) (by omega) h
  rw [e0, e1] at hh
  exact hh

theorem k_earn_full {t o n : Int} (hp : okB t o = true) (n0 : 1 ≤ n) (n1 : n ≤ 1000000000000000) (h : 1000000000000000 < o + n) (w : World) : Calls Try.prog 22 #[pv t o false, .int .i64 n] w fun e w' => e = .returned (.tuple #[pv t o false, .int .i64 6]) ∧ Below w.heap.size w w' := by
  have hh := earn_any t o false n w
  obtain ⟨e0, e1⟩ := ch_full (s := o) (c := n) (rdy_live hp n0 n1) h
  rw [e0, e1] at hh
  exact hh

theorem k_spend_back {t o n : Int} (hp : okB t o = true) (n0 : 1 ≤ n) (n1 : n ≤ 1000000000000000) (h : o + n ≤ 1000000000000000) (w : World) : Calls Try.prog 24 #[pv t (o + n) false, .int .i64 n] w fun e w' => e = .returned (.tuple #[pv t o false, .int .i64 0]) ∧ Below w.heap.size w w' := by
  have hh := spend_any t (o + n) false n w
  have b := okB_in hp
  obtain ⟨e0, e1⟩ := ch_ok (s := o + n) (c := -n) (rdy_live (t := t) (o := o + n) (okB_mk ⟨by omega, by omega, by omega, by omega⟩) n0 n1) (by omega) (by omega)
  have e2 : o + n + -n = o := by omega
  rw [e0, e1, e2] at hh
  exact hh

theorem k_take_off {t o n : Int} (hp : okB t o = true) (n0 : 1 ≤ n) (n1 : n ≤ 1000000000000000) (w : World) : Calls Try.prog 18 #[pv t o true, .int .i64 n] w fun e w' => e = .returned (.tuple #[pv t o true, .int .i64 7]) ∧ Below w.heap.size w w' := by
  have hh := take_any t o true n w
  obtain ⟨e0, e1⟩ := ch_off (s := t) (c := n) (rdy_off hp n0 n1)
  rw [e0, e1] at hh
  exact hh

theorem k_earn_off {t o n : Int} (hp : okB t o = true) (n0 : 1 ≤ n) (n1 : n ≤ 1000000000000000) (w : World) : Calls Try.prog 22 #[pv t o true, .int .i64 n] w fun e w' => e = .returned (.tuple #[pv t o true, .int .i64 7]) ∧ Below w.heap.size w w' := by
  have hh := earn_any t o true n w
  obtain ⟨e0, e1⟩ := ch_off (s := o) (c := n) (rdy_off hp n0 n1)
  rw [e0, e1] at hh
  exact hh

theorem k_pass_no {t o : Int} {g : Bool} {t' o' : Int} {g' : Bool} {n : Int} (h : psE t o g t' o' g' n ≠ 0) (w : World) : Calls Try.prog 26 #[pv t o g, pv t' o' g', .int .i64 n] w fun e w' => e = .returned (.tuple #[pv t o g, pv t' o' g', .int .i64 (psE t o g t' o' g' n)]) ∧ Below w.heap.size w w' := by
  have hh := pass_any t o g t' o' g' n w
  have e1 : psV t o g t' o' g' n = t := by unfold psV; rw [if_neg h]
  have e2 : psW t o g t' o' g' n = t' := by unfold psW; rw [if_neg h]
  rw [e1, e2] at hh
  exact hh

theorem psE_0 {t o : Int} {t' o' : Int} {g' : Bool} {n : Int} (hp : okB t o = true) (hq : okB t' o' = true) (n0 : 1 ≤ n) (n1 : n ≤ 1000000000000000) (h : psE t o false t' o' g' n = 0) :
    g' = false ∧ 0 ≤ t - n ∧ t' + n ≤ 1000000000000000 := by
  unfold psE at h
  split at h
  · rename_i h1
    have hr := rdy_live hp n0 n1
    unfold chE at h1 h
    rw [if_pos hr] at h1
    cases g'
    · rw [if_pos (rdy_live hq n0 n1)] at h
      unfold addE at h h1
      refine ⟨rfl, ?_, ?_⟩
      · split at h1
        · simp at h1
        · split at h1
          · simp at h1
          · omega
      · split at h
        · simp at h
        · omega
    · rw [rdy_off hq n0 n1] at h
      simp at h
  · contradiction

theorem k_pass_ok {t o : Int} {t' o' : Int} {n : Int} (hp : okB t o = true) (hq : okB t' o' = true) (n0 : 1 ≤ n) (n1 : n ≤ 1000000000000000) (ha : 0 ≤ t - n) (hb : t' + n ≤ 1000000000000000) (w : World) :
    Calls Try.prog 26 #[pv t o false, pv t' o' false, .int .i64 n] w fun e w' => e = .returned (.tuple #[pv (t - n) o false, pv (t' + n) o' false, .int .i64 0]) ∧ Below w.heap.size w w' := by
  have hh := pass_any t o false t' o' false n w
  have b := okB_in hp
  have b' := okB_in hq
  obtain ⟨e0, e1⟩ := ch_ok (s := t) (c := -n) (rdy_live hp n0 n1) (by omega) (by omega)
  obtain ⟨f0, f1⟩ := ch_ok (s := t') (c := n) (rdy_live hq n0 n1) (by omega) (by omega)
  have e2 : psE t o false t' o' false n = 0 := by unfold psE; rw [if_pos e0, f0]
  have e3 : psV t o false t' o' false n = t - n := by unfold psV; rw [if_pos e2, e1]; omega
  have e4 : psW t o false t' o' false n = t' + n := by unfold psW; rw [if_pos e2, f1]
  rw [e2, e3, e4] at hh
  exact hh
theorem k_pass_back {t o : Int} {t' o' : Int} {n : Int} (hp : okB t o = true) (hq : okB t' o' = true) (n0 : 1 ≤ n) (n1 : n ≤ 1000000000000000) (ha : 0 ≤ t - n) (hb : t' + n ≤ 1000000000000000) (w : World) :
    Calls Try.prog 26 #[pv (t' + n) o' false, pv (t - n) o false, .int .i64 n] w fun e w' => e = .returned (.tuple #[pv t' o' false, pv t o false, .int .i64 0]) ∧ Below w.heap.size w w' := by
  have b := okB_in hp
  have b' := okB_in hq
  have hh := k_pass_ok (t := t' + n) (o := o') (t' := t - n) (o' := o) (n := n) (okB_mk ⟨by omega, by omega, by omega, by omega⟩) (okB_mk ⟨by omega, by omega, by omega, by omega⟩) n0 n1 (by omega) (by omega) w
  have e1 : t' + n - n = t' := by omega
  have e2 : t - n + n = t := by omega
  rw [e1, e2] at hh
  exact hh

end Go.Proofs.Ytblegaclcpoonab.Agent
