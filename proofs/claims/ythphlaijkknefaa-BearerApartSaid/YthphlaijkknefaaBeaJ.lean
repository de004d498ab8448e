/- Bearer pieces: the examples. -/
import Derived.Test.YthphlaijkknefaaBeaI
namespace Go.Proofs.Ythphlaijkknefaa.Bea
open Go.ChangeShapes Go.WideShapes Go.ChangeAt Go.RowKit Go.Proofs.Ythphlaijkknefaa.Cell
set_option linter.unusedVariables false
set_option linter.unusedSimpArgs false

abbrev la : List Pc := [⟨4, 10, [false, true], -1, -1⟩, ⟨4, 20, [false, false], -1, -1⟩]
abbrev lb : List Pc := [⟨4, 10, [false, true], -1, -1⟩, ⟨4, 20, [false, false], 50, -1⟩]
abbrev lc : List Pc := [⟨4, 10, [false, true], -1, -1⟩, ⟨4, 20, [false, false], 50, 7⟩]
abbrev ld : List Pc := [⟨4, 10, [false, true], -1, -1⟩, ⟨4, 20, [true, false], 50, 7⟩]
theorem rgt_l0 : rgtL l0 = true := by decide
theorem rgt_la : rgtL la = true := by decide
theorem rgt_lb : rgtL lb = true := by decide
theorem rgt_lc : rgtL lc = true := by decide
theorem rgt_ld : rgtL ld = true := by decide
set_option maxRecDepth 100000 in
set_option maxHeartbeats 8000000 in
theorem small31_any (w : World) : Calls Try.prog 7 #[] w fun e w' => e = .returned (.bool true) ∧ Below w.heap.size w w' := by
  go_enter Try.func7, Try.ntmps7
  go_wp2_with (fail)
  go_must (refine (sample_any _).mono ?_)
  rintro e w1 ⟨A0, c0, rfl, hp0, hb⟩
  have HB1 := Lib.hid hb
  have Hl1 := Lib.hid hp0
  clear hb hp0
  go_wp2_with (fail)
  go_must (refine (present_fresh (p := 0) (k := 1) rfl Hl1.out rgt_l0 rfl (by omega) (by omega) rfl rfl).mono ?_)
  rintro e w2 ⟨v, rfl, ⟨⟨ga, ca, rfl, hp⟩, _, hb⟩⟩
  have HB2 := Lib.hid (Gen.over hb HB1.out)
  have Hl2 := Lib.hid (Hl1.out.keep hb)
  have Ha2 : Hid (Pcl _ _ la) := Lib.hid hp
  clear hb HB1 Hl1 hp
  go_wp2_with (fail)
  go_must (refine (present_paid (p := 0) (k := 1) rfl Ha2.out rgt_la rfl (by omega) (by omega) rfl).mono ?_)
  rintro e w3 ⟨rfl, hb⟩
  have HB3 := Lib.hid (Gen.over hb HB2.out)
  have Hl3 := Lib.hid (Hl2.out.keep hb)
  have Ha3 := Lib.hid (Ha2.out.keep hb)
  clear hb HB2 Hl2 Ha2
  go_wp2_with (fail)
  go_must (refine (report_ok (p := 1) rfl Ha3.out rgt_la rfl (by omega) rfl).mono ?_)
  rintro e w4 ⟨v, rfl, ⟨⟨gb, cb, rfl, hp⟩, _, hb⟩⟩
  have HB4 := Lib.hid (Gen.over hb HB3.out)
  have Hl4 := Lib.hid (Hl3.out.keep hb)
  have Ha4 := Lib.hid (Ha3.out.keep hb)
  have Hb4 : Hid (Pcl _ _ lb) := Lib.hid hp
  clear hb HB3 Hl3 Ha3 hp
  go_wp2_with (fail)
  go_must (refine (present_key (p := 1) (k := 0) rfl Hb4.out rgt_lb rfl (by omega) (by omega) rfl (by decide) (by decide)).mono ?_)
  rintro e w5 ⟨rfl, hb⟩
  have HB5 := Lib.hid (Gen.over hb HB4.out)
  have Hl5 := Lib.hid (Hl4.out.keep hb)
  have Ha5 := Lib.hid (Ha4.out.keep hb)
  have Hb5 := Lib.hid (Hb4.out.keep hb)
  clear hb HB4 Hl4 Ha4 Hb4
  go_wp2_with (fail)
  go_must (refine (secure_ok (p := 1) rfl Hb5.out rgt_lb rfl (by omega) (by decide) rfl).mono ?_)
  rintro e w6 ⟨v, rfl, ⟨⟨gc, cc, rfl, hp⟩, _, hb⟩⟩
  have HB6 := Lib.hid (Gen.over hb HB5.out)
  have Hl6 := Lib.hid (Hl5.out.keep hb)
  have Ha6 := Lib.hid (Ha5.out.keep hb)
  have Hb6 := Lib.hid (Hb5.out.keep hb)
  have Hc6 : Hid (Pcl _ _ lc) := Lib.hid hp
  clear hb HB5 Hl5 Ha5 Hb5 hp
  go_wp2_with (fail)
  go_must (refine (present_early (p := 1) (k := 0) (wh := 7) rfl Hc6.out rgt_lc rfl (by omega) (by omega) rfl (by decide) rfl (by decide)).mono ?_)
  rintro e w7 ⟨rfl, hb⟩
  have HB7 := Lib.hid (Gen.over hb HB6.out)
  have Hl7 := Lib.hid (Hl6.out.keep hb)
  have Ha7 := Lib.hid (Ha6.out.keep hb)
  have Hb7 := Lib.hid (Hb6.out.keep hb)
  have Hc7 := Lib.hid (Hc6.out.keep hb)
  clear hb HB6 Hl6 Ha6 Hb6 Hc6
  go_wp2_with (fail)
  go_must (refine (present_late (p := 1) (k := 0) (wh := 7) rfl Hc7.out rgt_lc rfl (by omega) (by omega) rfl (by decide) rfl (by decide)).mono ?_)
  rintro e w8 ⟨v, rfl, ⟨⟨gd, cd, rfl, hp⟩, _, hb⟩⟩
  have HB8 := Lib.hid (Gen.over hb HB7.out)
  have Hl8 := Lib.hid (Hl7.out.keep hb)
  have Ha8 := Lib.hid (Ha7.out.keep hb)
  have Hb8 := Lib.hid (Hb7.out.keep hb)
  have Hc8 := Lib.hid (Hc7.out.keep hb)
  have Hd8 : Hid (Pcl _ _ ld) := Lib.hid hp
  clear hb HB7 Hl7 Ha7 Hb7 Hc7 hp
  go_wp2_with (fail)
  go_must (refine (present_key (p := 1) (k := 0) rfl Hc8.out rgt_lc rfl (by omega) (by omega) rfl (by decide) (by decide)).mono ?_)
  rintro e w9 ⟨rfl, hb⟩
  have HB9 := Lib.hid (Gen.over hb HB8.out)
  have Hl9 := Lib.hid (Hl8.out.keep hb)
  have Ha9 := Lib.hid (Ha8.out.keep hb)
  have Hb9 := Lib.hid (Hb8.out.keep hb)
  have Hc9 := Lib.hid (Hc8.out.keep hb)
  have Hd9 := Lib.hid (Hd8.out.keep hb)
  clear hb HB8 Hl8 Ha8 Hb8 Hc8 Hd8
  go_wp2_with (fail)
  go_must (refine (open_any 4 0 _ 2 _ l0 _ rfl Hl9.out rgt_l0).mono ?_)
  rintro e w10 ⟨rfl, hb⟩
  rw [show opn l0 4 0 = 30 from by decide]
  have HB10 := Lib.hid (Gen.over hb HB9.out)
  have Hl10 := Lib.hid (Hl9.out.keep hb)
  have Ha10 := Lib.hid (Ha9.out.keep hb)
  have Hb10 := Lib.hid (Hb9.out.keep hb)
  have Hc10 := Lib.hid (Hc9.out.keep hb)
  have Hd10 := Lib.hid (Hd9.out.keep hb)
  clear hb HB9 Hl9 Ha9 Hb9 Hc9 Hd9
  go_wp2_with (fail)
  go_must (refine (open_any 4 1 _ 2 _ l0 _ rfl Hl10.out rgt_l0).mono ?_)
  rintro e w11 ⟨rfl, hb⟩
  rw [show opn l0 4 1 = 30 from by decide]
  have HB11 := Lib.hid (Gen.over hb HB10.out)
  have Hl11 := Lib.hid (Hl10.out.keep hb)
  have Ha11 := Lib.hid (Ha10.out.keep hb)
  have Hb11 := Lib.hid (Hb10.out.keep hb)
  have Hc11 := Lib.hid (Hc10.out.keep hb)
  have Hd11 := Lib.hid (Hd10.out.keep hb)
  clear hb HB10 Hl10 Ha10 Hb10 Hc10 Hd10
  go_wp2_with (fail)
  go_must (refine (open_any 4 0 _ 2 _ ld _ rfl Hd11.out rgt_ld).mono ?_)
  rintro e w12 ⟨rfl, hb⟩
  rw [show opn ld 4 0 = 10 from by decide]
  have HB12 := Lib.hid (Gen.over hb HB11.out)
  have Hl12 := Lib.hid (Hl11.out.keep hb)
  have Ha12 := Lib.hid (Ha11.out.keep hb)
  have Hb12 := Lib.hid (Hb11.out.keep hb)
  have Hc12 := Lib.hid (Hc11.out.keep hb)
  have Hd12 := Lib.hid (Hd11.out.keep hb)
  clear hb HB11 Hl11 Ha11 Hb11 Hc11 Hd11
  go_wp2_with (fail)
  go_must (refine (open_any 4 1 _ 2 _ ld _ rfl Hd12.out rgt_ld).mono ?_)
  rintro e w13 ⟨rfl, hb⟩
  rw [show opn ld 4 1 = 20 from by decide]
  have HB13 := Lib.hid (Gen.over hb HB12.out)
  have Hl13 := Lib.hid (Hl12.out.keep hb)
  have Ha13 := Lib.hid (Ha12.out.keep hb)
  have Hb13 := Lib.hid (Hb12.out.keep hb)
  have Hc13 := Lib.hid (Hc12.out.keep hb)
  have Hd13 := Lib.hid (Hd12.out.keep hb)
  clear hb HB12 Hl12 Ha12 Hb12 Hc12 Hd12
  go_wp2_with (fail)
  go_must (refine (Right_any _ 2 _ ld _ rfl Hd13.out (by decide) (by omega)).mono ?_)
  rintro e w14 ⟨rfl, hb⟩
  rw [rgt_ld]
  have HBF := Lib.hid (Gen.over hb HB13.out)
  clear hb
  go_wp2
  go_ret
  exact ⟨rfl, HBF.out⟩
end Go.Proofs.Ythphlaijkknefaa.Bea
