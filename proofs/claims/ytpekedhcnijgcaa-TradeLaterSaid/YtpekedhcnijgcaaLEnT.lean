/- EntitleTells returns true: every list of seats, units, trades and shares, day, issuer and seat; no condition. -/
import Derived.Test.YtpekedhcnijgcaaEntG
import Derived.Test.YtpekedhcnijgcaaEntS
namespace Go.Proofs.Ytpekedhcnijgcaa.Book
open Go.ChangeShapes Go.WideShapes Go.ChangeAt Go.RowKit Go.Proofs.Ytpekedhcnijgcaa.Cell
set_option linter.unusedVariables false
set_option linter.unusedSimpArgs false

theorem pdO_len {ss : List (Int × Int)} {us : List Int} {l : List Tr} {day E : Int} {L : List (Int × Int)} (h : pdO ss us l day = (L, E)) : L.length ≤ ss.length := by
  unfold pdO at h
  split at h
  · injection h with h1 h2; rw [← h1]; exact sel_len _ _
  · injection h with h1 h2; rw [← h1]; simp
theorem vtO_len {ss : List (Int × Int)} {us : List Int} {s E : Int} {L : List (Int × Int)} (h : vtO ss us s = (L, E)) : L.length ≤ ss.length := by
  unfold vtO at h
  split at h
  · injection h with h1 h2; rw [← h1]; exact sel_len _ _
  · injection h with h1 h2; rw [← h1]; simp
theorem sEq_self (L : List (Int × Int)) : sEq L L = true := decide_eq_true rfl
section
variable {A A' A3 A4 : Option Addr} {n cap m cap' q cap3 p cap4 : Nat} {ss : List (Int × Int)} {us : List Int} {l : List Tr} {so : List (Int × Int)} {day iss seat : Int}
set_option maxRecDepth 100000 in
set_option maxHeartbeats 1000000 in
theorem ent_a (w : World) (hn : n ≤ 9223372036854775807) (hm : m ≤ 9223372036854775807) (hq : q ≤ 9223372036854775807) (h : fewB n m q = false) :
    Calls Try.prog 7 #[.slice A n cap, .slice A' m cap', .slice A3 q cap3, .int .i64 day, .int .i64 iss, .slice A4 p cap4, .int .i64 seat] w fun e w' => e = .returned (.bool true) ∧ Below w.heap.size w w' := by
  have HF := Lib.hid h
  clear h
  go_enter Try.func7, Try.ntmps7
  go_wp2_with (fail)
  go_must (refine (small33_any _).mono ?_)
  rintro e w1 ⟨rfl, hb⟩
  go_wp2_with (fail)
  go_must (refine (tfew_is _ hn hm hq HF.out).mono ?_)
  rintro e w2 ⟨rfl, rfl⟩
  go_wp2
  go_ret
  exact ⟨rfl, hb⟩
set_option maxRecDepth 100000 in
set_option maxHeartbeats 1000000 in
theorem ent_b (w : World) (hn : n ≤ 9223372036854775807) (hm : m ≤ 9223372036854775807) (hq : q ≤ 9223372036854775807) (h : fewB n m q = true) (hp : so.length = p) (hc : Prs w A4 so) (hp2 : p ≤ 9223372036854775807) (hs : smlO so = false) :
    Calls Try.prog 7 #[.slice A n cap, .slice A' m cap', .slice A3 q cap3, .int .i64 day, .int .i64 iss, .slice A4 p cap4, .int .i64 seat] w fun e w' => e = .returned (.bool true) ∧ Below w.heap.size w w' := by
  have HF := Lib.hid h
  have HP := Lib.hid hp
  have HS := Lib.hid hs
  clear h hp hs
  go_enter Try.func7, Try.ntmps7
  go_wp2_with (fail)
  go_must (refine (small33_any _).mono ?_)
  rintro e w1 ⟨rfl, hb⟩
  go_wp2_with (fail)
  go_must (refine (tfew_is _ hn hm hq HF.out).mono ?_)
  rintro e w2 ⟨rfl, rfl⟩
  go_wp2_with (fail)
  go_must (refine (rsmall_any _ _ _ so _ HP.out (hc.keep hb) hp2).mono ?_)
  rintro e w2 ⟨rfl, rfl⟩
  rw [HS.out]
  go_wp2
  go_ret
  exact ⟨rfl, hb⟩
set_option maxRecDepth 100000 in
set_option maxHeartbeats 8000000 in
theorem ent_c (w : World) (hn : ss.length = n) (hc : Prs w A ss) (hm : us.length = m) (hc' : Ints w A' us) (hq : l.length = q) (hl : Trs w A3 l) (hp : so.length = p) (hs4 : Prs w A4 so) (hf : fewB n m q = true) (hs : smlO so = true) :
    Calls Try.prog 7 #[.slice A n cap, .slice A' m cap', .slice A3 q cap3, .int .i64 day, .int .i64 iss, .slice A4 p cap4, .int .i64 seat] w fun e w' => e = .returned (.bool true) ∧ Below w.heap.size w w' := by
  obtain ⟨f1, f2, f3⟩ := fewB_in hf
  have hsm := smlO_in hs
  have hp1 : p ≤ 1000 := by have := hsm.1; omega
  obtain ⟨L, E, hL⟩ : ∃ L E, pdO ss us l day = (L, E) := ⟨_, _, rfl⟩
  obtain ⟨V, F, hV⟩ : ∃ L E, vtO ss us iss = (L, E) := ⟨_, _, rfl⟩
  obtain ⟨x, hx⟩ : ∃ x, thO ss so seat = x := ⟨_, rfl⟩
  have hL1 := pdO_len hL
  have hV1 := vtO_len hV
  rw [hn] at hL1 hV1
  have HN := Lib.hid hn
  have HM := Lib.hid hm
  have HQ := Lib.hid hq
  have HP := Lib.hid hp
  have HF := Lib.hid hf
  have HS := Lib.hid hs
  have HSM := Lib.hid hsm
  have HL := Lib.hid hL
  have HV := Lib.hid hV
  have HX := Lib.hid hx
  clear hn hm hq hp hf hs hsm hL hV hx
  go_enter Try.func7, Try.ntmps7
  go_wp2_with (fail)
  go_must (refine (small33_any _).mono ?_)
  rintro e w1 ⟨rfl, hb⟩
  go_wp2_with (fail)
  go_must (refine (tfew_is _ (by omega) (by omega) (by omega) HF.out).mono ?_)
  rintro e w2 ⟨rfl, rfl⟩
  go_wp2_with (fail)
  go_must (refine (rsmall_any _ _ _ so _ HP.out (hs4.keep hb) (by omega)).mono ?_)
  rintro e w2 ⟨rfl, rfl⟩
  rw [HS.out]
  go_wp2_with (fail)
  go_must (refine (paid_any _ _ _ ss _ _ _ us _ _ _ l day _ _ _ HN.out (hc.keep hb) (by omega) HM.out (hc'.keep hb) (by omega) HQ.out (hl.keep hb) (by omega) HL.out).mono ?_)
  rintro e w3 ⟨B1, c1, rfl, hb3, hp1'⟩
  have hB3 := Gen.over hb3 hb
  clear hb3 hb
  go_wp2_with (fail)
  go_must (refine (rpaid_any _ _ _ ss _ _ _ us _ _ _ l day _ _ _ HN.out (hc.keep hB3) (by omega) HM.out (hc'.keep hB3) (by omega) HQ.out (hl.keep hB3) (by omega) HL.out).mono ?_)
  rintro e w4 ⟨B2, c2, rfl, hb4, hp2'⟩
  have hB4 := Gen.over hb4 hB3
  have hp1' := hp1'.keep hb4
  clear hb4 hB3
  go_wp2_with (fail)
  go_must (refine (votes_any _ _ _ ss _ _ _ us iss _ _ _ HN.out (hc.keep hB4) (by omega) HM.out (hc'.keep hB4) (by omega) HV.out).mono ?_)
  rintro e w5 ⟨B3, c3, rfl, hb5, hp3'⟩
  have hB5 := Gen.over hb5 hB4
  have hp1' := hp1'.keep hb5
  have hp2' := hp2'.keep hb5
  clear hb5 hB4
  go_wp2_with (fail)
  go_must (refine (rvotes_any _ _ _ ss _ _ _ us iss _ _ _ HN.out (hc.keep hB5) (by omega) HM.out (hc'.keep hB5) (by omega) HV.out).mono ?_)
  rintro e w6 ⟨B4, c4, rfl, hb6, hp4'⟩
  have hB6 := Gen.over hb6 hB5
  have hp1' := hp1'.keep hb6
  have hp2' := hp2'.keep hb6
  have hp3' := hp3'.keep hb6
  clear hb6 hB5
  go_wp2_with (fail)
  go_must (refine (same_is _ rfl hp1' (by omega) rfl hp2' (by omega) (sEq_self L)).mono ?_)
  rintro e w7 ⟨rfl, hb7⟩
  have hB7 := Gen.over hb7 hB6
  have hp3' := hp3'.keep hb7
  have hp4' := hp4'.keep hb7
  clear hb7 hB6
  go_wp2_with (fail)
  go_must (refine (same_is _ rfl hp3' (by omega) rfl hp4' (by omega) (sEq_self V)).mono ?_)
  rintro e w8 ⟨rfl, hb8⟩
  have hB8 := Gen.over hb8 hB7
  clear hb8 hB7
  go_wp2_with (fail)
  go_must (refine (thro_any _ _ _ ss _ _ _ so seat x _ HN.out (hc.keep hB8) (by omega) HP.out (hs4.keep hB8) HSM.out HX.out).mono ?_)
  rintro e w9 ⟨rfl, hb9⟩
  have hB9 := Gen.over hb9 hB8
  clear hb9 hB8
  go_wp2_with (fail)
  go_must (refine (rthro_any _ _ _ ss _ _ _ so seat x _ HN.out (hc.keep hB9) (by omega) HP.out (hs4.keep hB9) HSM.out HX.out).mono ?_)
  rintro e wa ⟨rfl, hba⟩
  have hBa := Gen.over hba hB9
  go_wp2
  go_ret
  exact ⟨rfl, hBa⟩
theorem ent_any (w : World) (hc : Prs w A ss) (hc' : Ints w A' us) (hl : Trs w A3 l) (hs : Prs w A4 so) (hn : ss.length ≤ 9223372036854775807) (hm : us.length ≤ 9223372036854775807) (hq : l.length ≤ 9223372036854775807) (hp : so.length ≤ 9223372036854775807) :
    Calls Try.prog 7 #[.slice A ss.length cap, .slice A' us.length cap', .slice A3 l.length cap3, .int .i64 day, .int .i64 iss, .slice A4 so.length cap4, .int .i64 seat] w fun e w' => e = .returned (.bool true) ∧ Below w.heap.size w w' := by
  cases hf : fewB ss.length us.length l.length
  · exact ent_a w hn hm hq hf
  · cases hso : smlO so
    · exact ent_b w hn hm hq hf rfl hs hp hso
    · exact ent_c w rfl hc rfl hc' rfl hl rfl hs hf hso
end
end Go.Proofs.Ytpekedhcnijgcaa.Book
