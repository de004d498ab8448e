/- Big integers: texts that are refused. -/
import Derived.Test.YtnifkianjpjahaaDoorBhG
namespace Go.Proofs.YtnifkianjpjahaaDoor.Bg
open Go.ChangeShapes Go.WideShapes Go.ChangeAt Go.RowKit Go.Proofs.YtnifkianjpjahaaDoor.Cell
set_option linter.unusedVariables false
set_option linter.unusedSimpArgs false

theorem ret_tup {a b : ByteArray} {c : Bool} (h : a = b) : Ending.returned (.tuple #[.string a, .bool c]) = .returned (.tuple #[.string b, .bool c]) := by rw [h]
set_option maxRecDepth 100000 in
theorem hp_d (w : World) : Calls Tryd.prog 70 #[.string ⟨#[48, 48, 55]⟩, .string ⟨#[45]⟩] w fun e w' => e = .returned (.bool false) ∧ w' = w := by
  go_enter Tryd.func70, Tryd.ntmps70
  go_wp2
  go_ret
  exact ⟨congrArg (fun b => Ending.returned (Value.bool b)) (show ((({ data := #[48, 48, 55] } : ByteArray).extract 0 1).toList == [45]) = false from by kernel_rfl), rfl⟩
set_option maxRecDepth 100000 in
theorem lc_d (w : World) : Calls Tryd.prog 59 #[.string ⟨#[48, 48, 55]⟩, .string ⟨#[45]⟩] w fun e w' => e = .returned (.tuple #[.string ⟨#[48, 48, 55]⟩, .bool false]) ∧ w' = w := by
  go_enter Tryd.func59, Tryd.ntmps59
  go_wp2_with (fail)
  go_must (refine (hp_d _).mono ?_)
  rintro e w2 ⟨rfl, rfl⟩
  go_wp2
  go_ret2
  exact ⟨ret_tup (by kernel_rfl), rfl⟩
set_option maxRecDepth 100000 in
theorem cp_d (w : World) : Calls Tryd.prog 44 #[.string ⟨#[48, 48, 55]⟩, .string ⟨#[45]⟩] w fun e w' => e = .returned (.tuple #[.string ⟨#[48, 48, 55]⟩, .bool false]) ∧ w' = w := by
  go_enter Tryd.func44, Tryd.ntmps44
  go_wp2_with (fail)
  go_must (refine (lc_d _).mono ?_)
  rintro e w2 ⟨rfl, rfl⟩
  go_wp2
  go_ret2
  exact ⟨ret_tup (by kernel_rfl), rfl⟩
set_option maxRecDepth 100000 in
theorem dm_d (w : World) : Calls Tryd.prog 45 #[.string ⟨#[48, 48, 55]⟩] w fun e w' => e = .returned (.bool false) ∧ w' = w := by
  go_enter Tryd.func45, Tryd.ntmps45
  go_wp2
  go_ret
  exact ⟨rfl, rfl⟩
set_option maxRecDepth 100000 in
theorem read_d (w : World) : Calls Tryd.prog 24 #[.string ⟨#[48, 48, 55]⟩] w fun e w' => e = .returned (.tuple #[zeroV, .int .i64 2]) ∧ Below w.heap.size w w' := by
  have HR0 := Lib.hid (Res.new (Below.refl w.heap.size w))
  go_enter Tryd.func24, Tryd.ntmps24
  go_wp2_with (fail)
  go_must (refine (cp_d _).mono ?_)
  rintro e w2 ⟨rfl, rfl⟩
  go_wp2_with (fail)
  go_must (refine (dm_d _).mono ?_)
  rintro e w2 ⟨rfl, rfl⟩
  have d0 := HR0.out.c0
  have d1 := HR0.out.c1
  have f0 := HR0.out.row.frozen 0
  have f1 := HR0.out.row.frozen 1
  have hg := HR0.out.row.lt
  go_wp2
  refine bodyPost_ret (v := .tuple #[zeroV, .int .i64 2]) ?_ rfl ⟨rfl, HR0.out.bl⟩
  simp [results, Tryd.results24, go_sem, *]
set_option maxRecDepth 100000 in
theorem hp_m (w : World) : Calls Tryd.prog 70 #[.string ⟨#[45, 48]⟩, .string ⟨#[45]⟩] w fun e w' => e = .returned (.bool true) ∧ w' = w := by
  go_enter Tryd.func70, Tryd.ntmps70
  go_wp2
  go_ret
  exact ⟨congrArg (fun b => Ending.returned (Value.bool b)) (show ((({ data := #[45, 48] } : ByteArray).extract 0 1).toList == [45]) = true from by kernel_rfl), rfl⟩
set_option maxRecDepth 100000 in
theorem lc_m (w : World) : Calls Tryd.prog 59 #[.string ⟨#[45, 48]⟩, .string ⟨#[45]⟩] w fun e w' => e = .returned (.tuple #[.string ⟨#[48]⟩, .bool true]) ∧ w' = w := by
  go_enter Tryd.func59, Tryd.ntmps59
  go_wp2_with (fail)
  go_must (refine (hp_m _).mono ?_)
  rintro e w2 ⟨rfl, rfl⟩
  go_wp2
  go_ret2
  exact ⟨ret_tup (by kernel_rfl), rfl⟩
set_option maxRecDepth 100000 in
theorem cp_m (w : World) : Calls Tryd.prog 44 #[.string ⟨#[45, 48]⟩, .string ⟨#[45]⟩] w fun e w' => e = .returned (.tuple #[.string ⟨#[48]⟩, .bool true]) ∧ w' = w := by
  go_enter Tryd.func44, Tryd.ntmps44
  go_wp2_with (fail)
  go_must (refine (lc_m _).mono ?_)
  rintro e w2 ⟨rfl, rfl⟩
  go_wp2
  go_ret2
  exact ⟨ret_tup (by kernel_rfl), rfl⟩
set_option maxRecDepth 100000 in
theorem dm_m (w : World) : Calls Tryd.prog 45 #[.string ⟨#[48]⟩] w fun e w' => e = .returned (.bool true) ∧ w' = w := by
  go_enter Tryd.func45, Tryd.ntmps45
  go_wp2
  go_loopw [18] (fun iv wr => ∃ k : Nat, k ≤ 1 ∧ iv = .int .i64 k ∧ wr = w) (fun iv _ => 1 - (intOf iv).toNat)
  case atStart => exact ⟨0, by omega, rfl, rfl⟩
  case round =>
    obtain ⟨k, hk, rfl, rfl⟩ := hrel
    by_cases h : k = 0
    · subst h
      go_wp2
      go_roundw
      case rel => exact ⟨1, by omega, rfl, trivial⟩
      case measure => simp [intOf]
    · obtain rfl : k = 1 := by omega
      go_wp2
      go_ret
      exact ⟨rfl, rfl⟩
set_option maxRecDepth 100000 in
theorem read_m (w : World) : Calls Tryd.prog 24 #[.string ⟨#[45, 48]⟩] w fun e w' => e = .returned (.tuple #[zeroV, .int .i64 2]) ∧ Below w.heap.size w w' := by
  have HR0 := Lib.hid (Res.new (Below.refl w.heap.size w))
  go_enter Tryd.func24, Tryd.ntmps24
  go_wp2_with (fail)
  go_must (refine (cp_m _).mono ?_)
  rintro e w2 ⟨rfl, rfl⟩
  go_wp2_with (fail)
  go_must (refine (dm_m _).mono ?_)
  rintro e w2 ⟨rfl, rfl⟩
  have d0 := HR0.out.c0
  have d1 := HR0.out.c1
  have f0 := HR0.out.row.frozen 0
  have f1 := HR0.out.row.frozen 1
  have hg := HR0.out.row.lt
  go_wp2
  refine bodyPost_ret (v := .tuple #[zeroV, .int .i64 2]) ?_ rfl ⟨rfl, HR0.out.bl⟩
  simp [results, Tryd.results24, go_sem, *]
set_option maxRecDepth 100000 in
theorem hp_e (w : World) : Calls Tryd.prog 70 #[.string ⟨#[]⟩, .string ⟨#[45]⟩] w fun e w' => e = .returned (.bool false) ∧ w' = w := by
  go_enter Tryd.func70, Tryd.ntmps70
  go_wp2
  go_ret
  exact ⟨rfl, rfl⟩
set_option maxRecDepth 100000 in
theorem lc_e (w : World) : Calls Tryd.prog 59 #[.string ⟨#[]⟩, .string ⟨#[45]⟩] w fun e w' => e = .returned (.tuple #[.string ⟨#[]⟩, .bool false]) ∧ w' = w := by
  go_enter Tryd.func59, Tryd.ntmps59
  go_wp2_with (fail)
  go_must (refine (hp_e _).mono ?_)
  rintro e w2 ⟨rfl, rfl⟩
  go_wp2
  go_ret2
  exact ⟨ret_tup (by kernel_rfl), rfl⟩
set_option maxRecDepth 100000 in
theorem cp_e (w : World) : Calls Tryd.prog 44 #[.string ⟨#[]⟩, .string ⟨#[45]⟩] w fun e w' => e = .returned (.tuple #[.string ⟨#[]⟩, .bool false]) ∧ w' = w := by
  go_enter Tryd.func44, Tryd.ntmps44
  go_wp2_with (fail)
  go_must (refine (lc_e _).mono ?_)
  rintro e w2 ⟨rfl, rfl⟩
  go_wp2
  go_ret2
  exact ⟨ret_tup (by kernel_rfl), rfl⟩
set_option maxRecDepth 100000 in
theorem dm_e (w : World) : Calls Tryd.prog 45 #[.string ⟨#[]⟩] w fun e w' => e = .returned (.bool false) ∧ w' = w := by
  go_enter Tryd.func45, Tryd.ntmps45
  go_wp2
  go_ret
  exact ⟨rfl, rfl⟩
set_option maxRecDepth 100000 in
theorem read_e (w : World) : Calls Tryd.prog 24 #[.string ⟨#[]⟩] w fun e w' => e = .returned (.tuple #[zeroV, .int .i64 2]) ∧ Below w.heap.size w w' := by
  have HR0 := Lib.hid (Res.new (Below.refl w.heap.size w))
  go_enter Tryd.func24, Tryd.ntmps24
  go_wp2_with (fail)
  go_must (refine (cp_e _).mono ?_)
  rintro e w2 ⟨rfl, rfl⟩
  go_wp2_with (fail)
  go_must (refine (dm_e _).mono ?_)
  rintro e w2 ⟨rfl, rfl⟩
  have d0 := HR0.out.c0
  have d1 := HR0.out.c1
  have f0 := HR0.out.row.frozen 0
  have f1 := HR0.out.row.frozen 1
  have hg := HR0.out.row.lt
  go_wp2
  refine bodyPost_ret (v := .tuple #[zeroV, .int .i64 2]) ?_ rfl ⟨rfl, HR0.out.bl⟩
  simp [results, Tryd.results24, go_sem, *]
end Go.Proofs.YtnifkianjpjahaaDoor.Bg
