/- The contracts of the reference's Break and Pass. -/
import Derived.Test.YtblegaclcpoonabRef
namespace Go.Proofs.Ytblegaclcpoonab.Agent
open Go.ChangeShapes Go.WideShapes Go.ChangeAt Go.RowKit

set_option maxHeartbeats 400000 in
theorem break_ref (t o : Int) (g : Bool) (w : World) :
    Calls Try.prog 29 #[pv t o g] w fun e w' => e = .returned (.tuple #[pv (brT t o g) o (brG t o g), .int .i64 (brN t o g), .int .i64 (brE t o g)]) ∧ Below w.heap.size w w' := by
  cases hk : okB t o
  · have e0 : brE t o g = 1 := by unfold brE; rw [if_neg (by simp [hk])]
    have e1 : brT t o g = t := by unfold brT; rw [if_neg (by simp [e0])]
    have e2 : brG t o g = g := by unfold brG; rw [if_neg (by simp [e0])]
    have e3 : brN t o g = 0 := by unfold brN; rw [if_neg (by simp [e0])]
    rw [e0, e1, e2, e3]
    clear e0 e1 e2 e3
    go_enter Try.func29, Try.ntmps29
    go_wp2_with (fail)
    refine (right_ref _ _ _ _).mono ?_
    rintro e w1 ⟨rfl, hb⟩
    have hc := (bcell hb).1
    have hf := (bcell hb).2
    have hz : w.heap.size + 1 < w1.heap.size := by (have := hb.size; simp at this; omega)
    have m0 := keep hb (w.heap.size + 1) 0 (.int .i64 0) (by simp [go_sem])
    have m1 := keep hb (w.heap.size + 1) 1 (.int .i64 0) (by simp [go_sem])
    have m2 := keep hb (w.heap.size + 1) 2 (.bool false) (by simp [go_sem])
    go_wp2
    have hB : Below w.heap.size w w1 := over hb (by go_grown)
    refine bodyPost_ret (v := .tuple #[pv t o g, .int .i64 0, .int .i64 1]) (by simp [results, Try.results29, go_sem, m0, m1, m2]) rfl ⟨rfl, ?_⟩
    go_grown
  · cases g
    · have e0 : brE t o false = 0 := by unfold brE; rw [if_pos hk]; rfl
      have e1 : brT t o false = 0 := by unfold brT; rw [if_pos e0]
      have e2 : brG t o false = true := by unfold brG; rw [if_pos e0]
      have e3 : brN t o false = t := by unfold brN; rw [if_pos e0]
      rw [e0, e1, e2, e3]
      clear e0 e1 e2 e3
      go_enter Try.func29, Try.ntmps29
      go_wp2_with (fail)
      refine (right_ref _ _ _ _).mono ?_
      rintro e w1 ⟨rfl, hb⟩
      have hc := (bcell hb).1
      have hf := (bcell hb).2
      have hz : w.heap.size + 1 < w1.heap.size := by (have := hb.size; simp at this; omega)
      have k0 := keep hb w.heap.size 0 (.int .i64 t) (by simp [go_sem])
      have k1 := keep hb w.heap.size 1 (.int .i64 o) (by simp [go_sem])
      have k2 := keep hb w.heap.size 2 (.bool false) (by simp [go_sem])
      have m0 := keep hb (w.heap.size + 1) 0 (.int .i64 0) (by simp [go_sem])
      have m1 := keep hb (w.heap.size + 1) 1 (.int .i64 0) (by simp [go_sem])
      have m2 := keep hb (w.heap.size + 1) 2 (.bool false) (by simp [go_sem])
      have hB : Below w.heap.size w w1 := over hb (by go_grown)
      go_wp2
      go_region
      all_goals go_wp2
      all_goals
        refine bodyPost_ret (v := .tuple #[pv 0 o true, .int .i64 t, .int .i64 0]) (by simp [results, Try.results29, go_sem, m0, m1, m2]) rfl ⟨rfl, ?_⟩
        go_grown
    · have e0 : brE t o true = 7 := by unfold brE; rw [if_pos hk]; rfl
      have e1 : brT t o true = t := by unfold brT; rw [if_neg (by simp [e0])]
      have e2 : brG t o true = true := by unfold brG; rw [if_neg (by simp [e0])]
      have e3 : brN t o true = 0 := by unfold brN; rw [if_neg (by simp [e0])]
      rw [e0, e1, e2, e3]
      clear e0 e1 e2 e3
      go_enter Try.func29, Try.ntmps29
      go_wp2_with (fail)
      refine (right_ref _ _ _ _).mono ?_
      rintro e w1 ⟨rfl, hb⟩
      have hc := (bcell hb).1
      have hf := (bcell hb).2
      have hz : w.heap.size + 1 < w1.heap.size := by (have := hb.size; simp at this; omega)
      have m0 := keep hb (w.heap.size + 1) 0 (.int .i64 0) (by simp [go_sem])
      have m1 := keep hb (w.heap.size + 1) 1 (.int .i64 0) (by simp [go_sem])
      have m2 := keep hb (w.heap.size + 1) 2 (.bool false) (by simp [go_sem])
      go_wp2
      have hB : Below w.heap.size w w1 := over hb (by go_grown)
      refine bodyPost_ret (v := .tuple #[pv t o true, .int .i64 0, .int .i64 7]) (by simp [results, Try.results29, go_sem, m0, m1, m2]) rfl ⟨rfl, ?_⟩
      go_grown
set_option maxHeartbeats 1000000 in
theorem pass_yes_ref (t o : Int) (g : Bool) (t' o' : Int) (g' : Bool) (n : Int) (w : World) (hp : (chE t o g n t (-n) != 0) = false) (ht : (chE t' o' g' n t' n != 0) = false) :
    Calls Try.prog 27 #[pv t o g, pv t' o' g', .int .i64 n] w fun e w' =>
      e = .returned (.tuple #[pv (chV t o g n t (-n)) o g, pv (chV t' o' g' n t' n) o' g', .int .i64 0]) ∧ Below w.heap.size w w' := by
  go_enter Try.func27, Try.ntmps27
  go_wp2_with (fail)
  refine (pay_ref _ _ _ _ _).mono ?_
  rintro e w1 ⟨rfl, hb⟩
  have hf := (bcell hb).2
  have z3 : w.heap.size + 1 + 1 + 1 < w1.heap.size := by (have := hb.size; simp at this; omega)
  have z2 : w.heap.size + 1 + 1 < w1.heap.size := by omega
  have z1 : w.heap.size + 1 < w1.heap.size := by omega
  have z0 : w.heap.size < w1.heap.size := by omega
  have hB : Below w.heap.size w w1 := over hb (by go_grown)
  obtain ⟨a0, a1, a2⟩ := keep3 hb w.heap.size (.int .i64 t) (.int .i64 o) (.bool g) (by simp [go_sem])
  obtain ⟨b0, b1, b2⟩ := keep3 hb (w.heap.size + 1) (.int .i64 t') (.int .i64 o') (.bool g') (by simp [go_sem])
  obtain ⟨c0, c1, c2⟩ := keep3 hb (w.heap.size + 1 + 1) (.int .i64 0) (.int .i64 0) (.bool false) (by simp [go_sem])
  obtain ⟨d0, d1, d2⟩ := keep3 hb (w.heap.size + 1 + 1 + 1) (.int .i64 0) (.int .i64 0) (.bool false) (by simp [go_sem])
  have f2 : ∀ j, w1.frozen? ⟨w.heap.size + 1 + 1, j, none⟩ = false := fun j => by rw [hf _ _ (by simp)]; simp [go_sem]
  have f3 : ∀ j, w1.frozen? ⟨w.heap.size + 1 + 1 + 1, j, none⟩ = false := fun j => by rw [hf _ _ (by simp)]; simp [go_sem]
  clear hb hf
  go_wp2_with (fail)
  refine (take_ref _ _ _ _ _).mono ?_
  rintro e w2 ⟨rfl, hb2⟩
  have hf2 := (bcell hb2).2
  have y4 : w1.heap.size < w2.heap.size := by (have := hb2.size; simp at this; omega)
  have y3 : w.heap.size + 1 + 1 + 1 < w2.heap.size := by omega
  have y2 : w.heap.size + 1 + 1 < w2.heap.size := by omega
  have hB2 : Below w.heap.size w w2 := over hb2 (by go_grown)
  obtain ⟨c20, c21, c22⟩ := keep3 hb2 (w.heap.size + 1 + 1) (.int .i64 0) (.int .i64 0) (.bool false) (by simp [go_sem, c0, c1, c2, z2])
  obtain ⟨d20, d21, d22⟩ := keep3 hb2 (w.heap.size + 1 + 1 + 1) (.int .i64 0) (.int .i64 0) (.bool false) (by simp [go_sem, d0, d1, d2, z3])
  obtain ⟨x20, x21, x22⟩ := keep3 hb2 w1.heap.size (.int .i64 (chV t o g n t (-n))) (.int .i64 o) (.bool g) (by simp [go_sem])
  have g2 : ∀ j, w2.frozen? ⟨w.heap.size + 1 + 1, j, none⟩ = false := fun j => by rw [hf2 _ _ (by simp; omega)]; simp [go_sem, z2, f2]
  have g3 : ∀ j, w2.frozen? ⟨w.heap.size + 1 + 1 + 1, j, none⟩ = false := fun j => by rw [hf2 _ _ (by simp; omega)]; simp [go_sem, z3, f3]
  clear a0 a1 a2 b0 b1 b2 c0 c1 c2 d0 d1 d2 f2 f3 hb2 hf2
  go_wp2
  go_region
  clear g2 g3 x20 x21 x22 hp ht
  rename_i K hK
  simp only [Exit.then]
  apply hK
  refine wp_ret ?_
  try simp only [Exit.then]
  refine bodyPost_ret (v := .tuple #[pv (chV t o g n t (-n)) o g, pv (chV t' o' g' n t' n) o' g', .int .i64 (0)]) ?_ rfl ⟨rfl, ?_⟩
  · simp [results, Try.results27, go_sem, c20, c21, c22, d20, d21, d22, y3, y2]
  · go_grown

set_option maxHeartbeats 1000000 in
theorem pass_no1_ref (t o : Int) (g : Bool) (t' o' : Int) (g' : Bool) (n : Int) (w : World) (hp : (chE t o g n t (-n) != 0) = true) :
    Calls Try.prog 27 #[pv t o g, pv t' o' g', .int .i64 n] w fun e w' =>
      e = .returned (.tuple #[pv t o g, pv t' o' g', .int .i64 (chE t o g n t (-n))]) ∧ Below w.heap.size w w' := by
  go_enter Try.func27, Try.ntmps27
  go_wp2_with (fail)
  refine (pay_ref _ _ _ _ _).mono ?_
  rintro e w1 ⟨rfl, hb⟩
  have hf := (bcell hb).2
  have z3 : w.heap.size + 1 + 1 + 1 < w1.heap.size := by (have := hb.size; simp at this; omega)
  have z2 : w.heap.size + 1 + 1 < w1.heap.size := by omega
  have z1 : w.heap.size + 1 < w1.heap.size := by omega
  have z0 : w.heap.size < w1.heap.size := by omega
  have hB : Below w.heap.size w w1 := over hb (by go_grown)
  obtain ⟨a0, a1, a2⟩ := keep3 hb w.heap.size (.int .i64 t) (.int .i64 o) (.bool g) (by simp [go_sem])
  obtain ⟨b0, b1, b2⟩ := keep3 hb (w.heap.size + 1) (.int .i64 t') (.int .i64 o') (.bool g') (by simp [go_sem])
  obtain ⟨c0, c1, c2⟩ := keep3 hb (w.heap.size + 1 + 1) (.int .i64 0) (.int .i64 0) (.bool false) (by simp [go_sem])
  obtain ⟨d0, d1, d2⟩ := keep3 hb (w.heap.size + 1 + 1 + 1) (.int .i64 0) (.int .i64 0) (.bool false) (by simp [go_sem])
  have f2 : ∀ j, w1.frozen? ⟨w.heap.size + 1 + 1, j, none⟩ = false := fun j => by rw [hf _ _ (by simp)]; simp [go_sem]
  have f3 : ∀ j, w1.frozen? ⟨w.heap.size + 1 + 1 + 1, j, none⟩ = false := fun j => by rw [hf _ _ (by simp)]; simp [go_sem]
  clear hb hf
  go_wp2
  go_region
  clear a0 a1 a2 b0 b1 b2 hp
  rename_i K hK
  simp only [Exit.then]
  apply hK
  refine wp_ret ?_
  try simp only [Exit.then]
  refine bodyPost_ret (v := .tuple #[pv t o g, pv t' o' g', .int .i64 (chE t o g n t (-n))]) ?_ rfl ⟨rfl, ?_⟩
  · simp [results, Try.results27, go_sem, c0, c1, c2, d0, d1, d2, z3, z2]
  · go_grown

set_option maxHeartbeats 1000000 in
theorem pass_no2_ref (t o : Int) (g : Bool) (t' o' : Int) (g' : Bool) (n : Int) (w : World) (hp : (chE t o g n t (-n) != 0) = false) (ht : (chE t' o' g' n t' n != 0) = true) :
    Calls Try.prog 27 #[pv t o g, pv t' o' g', .int .i64 n] w fun e w' =>
      e = .returned (.tuple #[pv t o g, pv t' o' g', .int .i64 (chE t' o' g' n t' n)]) ∧ Below w.heap.size w w' := by
  go_enter Try.func27, Try.ntmps27
  go_wp2_with (fail)
  refine (pay_ref _ _ _ _ _).mono ?_
  rintro e w1 ⟨rfl, hb⟩
  have hf := (bcell hb).2
  have z3 : w.heap.size + 1 + 1 + 1 < w1.heap.size := by (have := hb.size; simp at this; omega)
  have z2 : w.heap.size + 1 + 1 < w1.heap.size := by omega
  have z1 : w.heap.size + 1 < w1.heap.size := by omega
  have z0 : w.heap.size < w1.heap.size := by omega
  have hB : Below w.heap.size w w1 := over hb (by go_grown)
  obtain ⟨a0, a1, a2⟩ := keep3 hb w.heap.size (.int .i64 t) (.int .i64 o) (.bool g) (by simp [go_sem])
  obtain ⟨b0, b1, b2⟩ := keep3 hb (w.heap.size + 1) (.int .i64 t') (.int .i64 o') (.bool g') (by simp [go_sem])
  obtain ⟨c0, c1, c2⟩ := keep3 hb (w.heap.size + 1 + 1) (.int .i64 0) (.int .i64 0) (.bool false) (by simp [go_sem])
  obtain ⟨d0, d1, d2⟩ := keep3 hb (w.heap.size + 1 + 1 + 1) (.int .i64 0) (.int .i64 0) (.bool false) (by simp [go_sem])
  have f2 : ∀ j, w1.frozen? ⟨w.heap.size + 1 + 1, j, none⟩ = false := fun j => by rw [hf _ _ (by simp)]; simp [go_sem]
  have f3 : ∀ j, w1.frozen? ⟨w.heap.size + 1 + 1 + 1, j, none⟩ = false := fun j => by rw [hf _ _ (by simp)]; simp [go_sem]
  clear hb hf
  go_wp2_with (fail)
  refine (take_ref _ _ _ _ _).mono ?_
  rintro e w2 ⟨rfl, hb2⟩
  have hf2 := (bcell hb2).2
  have y4 : w1.heap.size < w2.heap.size := by (have := hb2.size; simp at this; omega)
  have y3 : w.heap.size + 1 + 1 + 1 < w2.heap.size := by omega
  have y2 : w.heap.size + 1 + 1 < w2.heap.size := by omega
  have hB2 : Below w.heap.size w w2 := over hb2 (by go_grown)
  obtain ⟨c20, c21, c22⟩ := keep3 hb2 (w.heap.size + 1 + 1) (.int .i64 0) (.int .i64 0) (.bool false) (by simp [go_sem, c0, c1, c2, z2])
  obtain ⟨d20, d21, d22⟩ := keep3 hb2 (w.heap.size + 1 + 1 + 1) (.int .i64 0) (.int .i64 0) (.bool false) (by simp [go_sem, d0, d1, d2, z3])
  obtain ⟨x20, x21, x22⟩ := keep3 hb2 w.heap.size (.int .i64 t) (.int .i64 o) (.bool g) (by simp [go_sem, a0, a1, a2, z0])
  obtain ⟨x30, x31, x32⟩ := keep3 hb2 (w.heap.size + 1) (.int .i64 t') (.int .i64 o') (.bool g') (by simp [go_sem, b0, b1, b2, z1])
  have y1 : w.heap.size + 1 < w2.heap.size := by omega
  have y0 : w.heap.size < w2.heap.size := by omega
  have g2 : ∀ j, w2.frozen? ⟨w.heap.size + 1 + 1, j, none⟩ = false := fun j => by rw [hf2 _ _ (by simp; omega)]; simp [go_sem, z2, f2]
  have g3 : ∀ j, w2.frozen? ⟨w.heap.size + 1 + 1 + 1, j, none⟩ = false := fun j => by rw [hf2 _ _ (by simp; omega)]; simp [go_sem, z3, f3]
  clear a0 a1 a2 b0 b1 b2 c0 c1 c2 d0 d1 d2 f2 f3 hb2 hf2
  go_wp2
  go_region
  clear g2 g3 x20 x21 x22 x30 x31 x32 hp ht
  rename_i K hK
  simp only [Exit.then]
  apply hK
  refine wp_ret ?_
  try simp only [Exit.then]
  refine bodyPost_ret (v := .tuple #[pv t o g, pv t' o' g', .int .i64 (chE t' o' g' n t' n)]) ?_ rfl ⟨rfl, ?_⟩
  · simp [results, Try.results27, go_sem, c20, c21, c22, d20, d21, d22, y3, y2]
  · go_grown

theorem pass_ref (t o : Int) (g : Bool) (t' o' : Int) (g' : Bool) (n : Int) (w : World) :
    Calls Try.prog 27 #[pv t o g, pv t' o' g', .int .i64 n] w fun e w' =>
      e = .returned (.tuple #[pv (psV t o g t' o' g' n) o g, pv (psW t o g t' o' g' n) o' g', .int .i64 (psE t o g t' o' g' n)]) ∧ Below w.heap.size w w' := by
  by_cases hp : chE t o g n t (-n) = 0
  · have e0 : psE t o g t' o' g' n = chE t' o' g' n t' n := by unfold psE; rw [if_pos hp]
    by_cases ht : chE t' o' g' n t' n = 0
    · have e1 : psV t o g t' o' g' n = chV t o g n t (-n) := by unfold psV; rw [if_pos (by rw [e0, ht])]
      have e2 : psW t o g t' o' g' n = chV t' o' g' n t' n := by unfold psW; rw [if_pos (by rw [e0, ht])]
      rw [e0, e1, e2, ht]
      exact pass_yes_ref t o g t' o' g' n w (by simp [hp]) (by simp [ht])
    · have e1 : psV t o g t' o' g' n = t := by unfold psV; rw [if_neg (by rw [e0]; exact ht)]
      have e2 : psW t o g t' o' g' n = t' := by unfold psW; rw [if_neg (by rw [e0]; exact ht)]
      rw [e0, e1, e2]
      exact pass_no2_ref t o g t' o' g' n w (by simp [hp]) (by simp [ht])
  · have e0 : psE t o g t' o' g' n = chE t o g n t (-n) := by unfold psE; rw [if_neg hp]
    have e1 : psV t o g t' o' g' n = t := by unfold psV; rw [if_neg (by rw [e0]; exact hp)]
    have e2 : psW t o g t' o' g' n = t' := by unfold psW; rw [if_neg (by rw [e0]; exact hp)]
    rw [e0, e1, e2]
    exact pass_no1_ref t o g t' o' g' n w (by simp [hp])
end Go.Proofs.Ytblegaclcpoonab.Agent
