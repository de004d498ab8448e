/- The contract of agent.Pass. -/
import Derived.Test.YtblegaclcpoonabBreak
namespace Go.Proofs.Ytblegaclcpoonab.Agent
open Go.ChangeShapes Go.WideShapes Go.ChangeAt Go.RowKit

def psE (t o : Int) (g : Bool) (t' o' : Int) (g' : Bool) (n : Int) : Int := if chE t o g n t (-n) = 0 then chE t' o' g' n t' n else chE t o g n t (-n)
def psV (t o : Int) (g : Bool) (t' o' : Int) (g' : Bool) (n : Int) : Int := if psE t o g t' o' g' n = 0 then chV t o g n t (-n) else t
def psW (t o : Int) (g : Bool) (t' o' : Int) (g' : Bool) (n : Int) : Int := if psE t o g t' o' g' n = 0 then chV t' o' g' n t' n else t'

set_option maxHeartbeats 1000000 in
theorem pass_yes (t o : Int) (g : Bool) (t' o' : Int) (g' : Bool) (n : Int) (w : World) (hp : (chE t o g n t (-n) != 0) = false) (ht : (chE t' o' g' n t' n != 0) = false) :
    Calls Try.prog 26 #[pv t o g, pv t' o' g', .int .i64 n] w fun e w' =>
      e = .returned (.tuple #[pv (chV t o g n t (-n)) o g, pv (chV t' o' g' n t' n) o' g', .int .i64 0]) ∧ Below w.heap.size w w' := by
  go_enter Try.func26, Try.ntmps26
  go_wp2_with (fail)
  refine (pay_any _ _ _ _ _).mono ?_
  rintro e w1 ⟨rfl, hb⟩
  have hf := (bcell hb).2
  have z3 : w.heap.size + 1 + 1 + 1 < w1.heap.size := by (have := hb.size; simp at this; omega)
  have z2 : w.heap.size + 1 + 1 < w1.heap.size := by omega
  have z1 : w.heap.size + 1 < w1.heap.size := by omega
  have z0 : w.heap.size < w1.heap.size := by omega
  have hB : Below w.heap.size w w1 := over hb (by go_grown)
  obtain ⟨a0, a1, a2⟩ := keep3 hb w.heap.size (.int .i64 t) (.int .i64 o) (.bool g) (by simp [go_sem])
  obtain ⟨b0, b1, b2⟩ := keep3 hb (w.heap.size + 1) (.int .i64 t') (.int .i64 o') (.bool g') (by simp [go_sem])
  obtain ⟨c0, c1, c2⟩ := keep3 hb (w.heap.size + 1 + 1) (.int .i64 0) (.int .i64 0) (.bool false) (by simp [go_sem])
  obtain ⟨d0, d1, d2⟩ := keep3 hb (w.heap.size + 1 + 1 + 1) (.int .i64 0) (.int .i64 0) (.bool false) (by simp [go_sem])
  have f2 : ∀ j, w1.frozen? ⟨w.heap.size + 1 + 1, j, none⟩ = false := fun j => by rw [hf _ _ (by simp)]; simp [go_sem]
  have f3 : ∀ j, w1.frozen? ⟨w.heap.size + 1 + 1 + 1, j, none⟩ = false := fun j => by rw [hf _ _ (by simp)]; simp [go_sem]
  clear hb hf
  go_wp2_with (fail)
  refine (take_any _ _ _ _ _).mono ?_
  rintro e w2 ⟨rfl, hb2⟩
  have hf2 := (bcell hb2).2
  have y4 : w1.heap.size < w2.heap.size := by (have := hb2.size; simp at this; omega)
  have y3 : w.heap.size + 1 + 1 + 1 < w2.heap.size := by omega
  have y2 : w.heap.size + 1 + 1 < w2.heap.size := by omega
  have hB2 : Below w.heap.size w w2 := over hb2 (by go_grown)
  obtain ⟨c20, c21, c22⟩ := keep3 hb2 (w.heap.size + 1 + 1) (.int .i64 0) (.int .i64 0) (.bool false) (by simp [go_sem, c0, c1, c2, z2])
  obtain ⟨d20, d21, d22⟩ := keep3 hb2 (w.heap.size + 1 + 1 + 1) (.int .i64 0) (.int .i64 0) (.bool false) (by simp [go_sem, d0, d1, d2, z3])
  obtain ⟨x20, x21, x22⟩ := keep3 hb2 w1.heap.size (.int .i64 (chV t o g n t (-n))) (.int .i64 o) (.bool g) (by simp [go_sem])
  have g2 : ∀ j, w2.frozen? ⟨w.heap.size + 1 + 1, j, none⟩ = false := fun j => by rw [hf2 _ _ (by simp; omega)]; simp [go_sem, z2, f2]
  have g3 : ∀ j, w2.frozen? ⟨w.heap.size + 1 + 1 + 1, j, none⟩ = false := fun j => by rw [hf2 _ _ (by simp; omega)]; simp [go_sem, z3, f3]
  clear a0 a1 a2 b0 b1 b2 c0 c1 c2 d0 d1 d2 f2 f3 hb2 hf2
  go_wp2
  go_region
  clear g2 g3 x20 x21 x22 hp ht
  rename_i K hK
  simp only [Exit.then]
  apply hK
  refine wp_ret ?_
  try simp only [Exit.then]
  refine bodyPost_ret (v := .tuple #[pv (chV t o g n t (-n)) o g, pv (chV t' o' g' n t' n) o' g', .int .i64 (0)]) ?_ rfl ⟨rfl, ?_⟩
  · simp [results, Try.results26, go_sem, c20, c21, c22, d20, d21, d22, y3, y2]
  · go_grown

set_option maxHeartbeats 1000000 in
theorem pass_no1 (t o : Int) (g : Bool) (t' o' : Int) (g' : Bool) (n : Int) (w : World) (hp : (chE t o g n t (-n) != 0) = true) :
    Calls Try.prog 26 #[pv t o g, pv t' o' g', .int .i64 n] w fun e w' =>
      e = .returned (.tuple #[pv t o g, pv t' o' g', .int .i64 (chE t o g n t (-n))]) ∧ Below w.heap.size w w' := by
  go_enter Try.func26, Try.ntmps26
  go_wp2_with (fail)
  refine (pay_any _ _ _ _ _).mono ?_
  rintro e w1 ⟨rfl, hb⟩
  have hf := (bcell hb).2
  have z3 : w.heap.size + 1 + 1 + 1 < w1.heap.size := by (have := hb.size; simp at this; omega)
  have z2 : w.heap.size + 1 + 1 < w1.heap.size := by omega
  have z1 : w.heap.size + 1 < w1.heap.size := by omega
  have z0 : w.heap.size < w1.heap.size := by omega
  have hB : Below w.heap.size w w1 := over hb (by go_grown)
  obtain ⟨a0, a1, a2⟩ := keep3 hb w.heap.size (.int .i64 t) (.int .i64 o) (.bool g) (by simp [go_sem])
  obtain ⟨b0, b1, b2⟩ := keep3 hb (w.heap.size + 1) (.int .i64 t') (.int .i64 o') (.bool g') (by simp [go_sem])
  obtain ⟨c0, c1, c2⟩ := keep3 hb (w.heap.size + 1 + 1) (.int .i64 0) (.int .i64 0) (.bool false) (by simp [go_sem])
  obtain ⟨d0, d1, d2⟩ := keep3 hb (w.heap.size + 1 + 1 + 1) (.int .i64 0) (.int .i64 0) (.bool false) (by simp [go_sem])
  have f2 : ∀ j, w1.frozen? ⟨w.heap.size + 1 + 1, j, none⟩ = false := fun j => by rw [hf _ _ (by simp)]; simp [go_sem]
  have f3 : ∀ j, w1.frozen? ⟨w.heap.size + 1 + 1 + 1, j, none⟩ = false := fun j => by rw [hf _ _ (by simp)]; simp [go_sem]
  clear hb hf
  go_wp2
  go_region
  clear a0 a1 a2 b0 b1 b2 hp
  rename_i K hK
  simp only [Exit.then]
  apply hK
  refine wp_ret ?_
  try simp only [Exit.then]
  refine bodyPost_ret (v := .tuple #[pv t o g, pv t' o' g', .int .i64 (chE t o g n t (-n))]) ?_ rfl ⟨rfl, ?_⟩
  · simp [results, Try.results26, go_sem, c0, c1, c2, d0, d1, d2, z3, z2]
  · go_grown

set_option maxHeartbeats 1000000 in
theorem pass_no2 (t o : Int) (g : Bool) (t' o' : Int) (g' : Bool) (n : Int) (w : World) (hp : (chE t o g n t (-n) != 0) = false) (ht : (chE t' o' g' n t' n != 0) = true) :
    Calls Try.prog 26 #[pv t o g, pv t' o' g', .int .i64 n] w fun e w' =>
      e = .returned (.tuple #[pv t o g, pv t' o' g', .int .i64 (chE t' o' g' n t' n)]) ∧ Below w.heap.size w w' := by
  go_enter Try.func26, Try.ntmps26
  go_wp2_with (fail)
  refine (pay_any _ _ _ _ _).mono ?_
  rintro e w1 ⟨rfl, hb⟩
  have hf := (bcell hb).2
  have z3 : w.heap.size + 1 + 1 + 1 < w1.heap.size := by (have := hb.size; simp at this; omega)
  have z2 : w.heap.size + 1 + 1 < w1.heap.size := by omega
  have z1 : w.heap.size + 1 < w1.heap.size := by omega
  have z0 : w.heap.size < w1.heap.size := by omega
  have hB : Below w.heap.size w w1 := over hb (by go_grown)
  obtain ⟨a0, a1, a2⟩ := keep3 hb w.heap.size (.int .i64 t) (.int .i64 o) (.bool g) (by simp [go_sem])
  obtain ⟨b0, b1, b2⟩ := keep3 hb (w.heap.size + 1) (.int .i64 t') (.int .i64 o') (.bool g') (by simp [go_sem])
  obtain ⟨c0, c1, c2⟩ := keep3 hb (w.heap.size + 1 + 1) (.int .i64 0) (.int .i64 0) (.bool false) (by simp [go_sem])
  obtain ⟨d0, d1, d2⟩ := keep3 hb (w.heap.size + 1 + 1 + 1) (.int .i64 0) (.int .i64 0) (.bool false) (by simp [go_sem])
  have f2 : ∀ j, w1.frozen? ⟨w.heap.size + 1 + 1, j, none⟩ = false := fun j => by rw [hf _ _ (by simp)]; simp [go_sem]
  have f3 : ∀ j, w1.frozen? ⟨w.heap.size + 1 + 1 + 1, j, none⟩ = false := fun j => by rw [hf _ _ (by simp)]; simp [go_sem]
  clear hb hf
  go_wp2_with (fail)
  refine (take_any _ _ _ _ _).mono ?_
  rintro e w2 ⟨rfl, hb2⟩
  have hf2 := (bcell hb2).2
  have y4 : w1.heap.size < w2.heap.size := by (have := hb2.size; simp at this; omega)
  have y3 : w.heap.size + 1 + 1 + 1 < w2.heap.size := by omega
  have y2 : w.heap.size + 1 + 1 < w2.heap.size := by omega
  have hB2 : Below w.heap.size w w2 := over hb2 (by go_grown)
  obtain ⟨c20, c21, c22⟩ := keep3 hb2 (w.heap.size + 1 + 1) (.int .i64 0) (.int .i64 0) (.bool false) (by simp [go_sem, c0, c1, c2, z2])
  obtain ⟨d20, d21, d22⟩ := keep3 hb2 (w.heap.size + 1 + 1 + 1) (.int .i64 0) (.int .i64 0) (.bool false) (by simp [go_sem, d0, d1, d2, z3])
  obtain ⟨x20, x21, x22⟩ := keep3 hb2 w.heap.size (.int .i64 t) (.int .i64 o) (.bool g) (by simp [go_sem, a0, a1, a2, z0])
  obtain ⟨x30, x31, x32⟩ := keep3 hb2 (w.heap.size + 1) (.int .i64 t') (.int .i64 o') (.bool g') (by simp [go_sem, b0, b1, b2, z1])
  have y1 : w.heap.size + 1 < w2.heap.size := by omega
  have y0 : w.heap.size < w2.heap.size := by omega
  have g2 : ∀ j, w2.frozen? ⟨w.heap.size + 1 + 1, j, none⟩ = false := fun j => by rw [hf2 _ _ (by simp; omega)]; simp [go_sem, z2, f2]
  have g3 : ∀ j, w2.frozen? ⟨w.heap.size + 1 + 1 + 1, j, none⟩ = false := fun j => by rw [hf2 _ _ (by simp; omega)]; simp [go_sem, z3, f3]
  clear a0 a1 a2 b0 b1 b2 c0 c1 c2 d0 d1 d2 f2 f3 hb2 hf2
  go_wp2
  go_region
  clear g2 g3 x20 x21 x22 x30 x31 x32 hp ht
  rename_i K hK
  simp only [Exit.then]
  apply hK
  refine wp_ret ?_
  try simp only [Exit.then]
  refine bodyPost_ret (v := .tuple #[pv t o g, pv t' o' g', .int .i64 (chE t' o' g' n t' n)]) ?_ rfl ⟨rfl, ?_⟩
  · simp [results, Try.results26, go_sem, c20, c21, c22, d20, d21, d22, y3, y2]
  · go_grown

theorem pass_any (t o : Int) (g : Bool) (t' o' : Int) (g' : Bool) (n : Int) (w : World) :
    Calls Try.prog 26 #[pv t o g, pv t' o' g', .int .i64 n] w fun e w' =>
      e = .returned (.tuple #[pv (psV t o g t' o' g' n) o g, pv (psW t o g t' o' g' n) o' g', .int .i64 (psE t o g t' o' g' n)]) ∧ Below w.heap.size w w' := by
  by_cases hp : chE t o g n t (-n) = 0
  · have e0 : psE t o g t' o' g' n = chE t' o' g' n t' n := by unfold psE; rw [if_pos hp]
    by_cases ht : chE t' o' g' n t' n = 0
    · have e1 : psV t o g t' o' g' n = chV t o g n t (-n) := by unfold psV; rw [if_pos (by rw [e0, ht])]
      have e2 : psW t o g t' o' g' n = chV t' o' g' n t' n := by unfold psW; rw [if_pos (by rw [e0, ht])]
      rw [e0, e1, e2, ht]
      exact pass_yes t o g t' o' g' n w (by simp [hp]) (by simp [ht])
    · have e1 : psV t o g t' o' g' n = t := by unfold psV; rw [if_neg (by rw [e0]; exact ht)]
      have e2 : psW t o g t' o' g' n = t' := by unfold psW; rw [if_neg (by rw [e0]; exact ht)]
      rw [e0, e1, e2]
      exact pass_no2 t o g t' o' g' n w (by simp [hp]) (by simp [ht])
  · have e0 : psE t o g t' o' g' n = chE t o g n t (-n) := by unfold psE; rw [if_neg hp]
    have e1 : psV t o g t' o' g' n = t := by unfold psV; rw [if_neg (by rw [e0]; exact hp)]
    have e2 : psW t o g t' o' g' n = t' := by unfold psW; rw [if_neg (by rw [e0]; exact hp)]
    rw [e0, e1, e2]
    exact pass_no1 t o g t' o' g' n w (by simp [hp])
end Go.Proofs.Ytblegaclcpoonab.Agent
