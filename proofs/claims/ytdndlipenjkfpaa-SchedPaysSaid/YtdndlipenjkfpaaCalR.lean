/- The reference of cal: the contracts of ascending, Right, has, day, Business, moved, Next, Before, Adjust, Back, Few. -/
import Derived.Test.YtdndlipenjkfpaaCalF
import Derived.Test.YtdndlipenjkfpaaDatR
namespace Go.Proofs.Ytdndlipenjkfpaa.Dat
open Go.ChangeShapes Go.WideShapes Go.ChangeAt Go.RowKit Go.Proofs.Ytdndlipenjkfpaa.Cell
set_option linter.unusedVariables false
set_option linter.unusedSimpArgs false

theorem dec_y {P : Prop} [Decidable P] (h : P) : decide P = true := decide_eq_true h
theorem dec_n {P : Prop} [Decidable P] (h : ¬ P) : decide P = false := decide_eq_false h
set_option maxRecDepth 100000 in
set_option maxHeartbeats 4000000 in
theorem rasc_any (A : Option Addr) (n cap : Nat) (zs : List Int) (m : Int) (w : World) (hn : zs.length = n) (hc : Ints w A zs) (hbig : n ≤ 1000000) :
    Calls Try.prog 46 #[.slice A n cap, .int .i64 m] w fun e w' => e = .returned (.bool (ascA m (-1) zs)) ∧ Below w.heap.size w w' := by
  have HN := Lib.hid hn
  clear hn
  go_enter Try.func46, Try.ntmps46
  go_wp2_with (fail)
  go_loopw [5] (fun iv wr => ∃ (k : Nat) (b : Int), k ≤ n ∧ iv = .int .i64 k ∧ ((k = 0 ∧ b = -1) ∨ ∃ j, k = j + 1 ∧ zs[j]? = some b ∧ 0 ≤ b) ∧ ascA m (-1) zs = ascA m b (zs.drop k) ∧ Below w.heap.size w wr) (fun iv _ => n - (intOf iv).toNat)
  case atStart => exact ⟨0, -1, Nat.zero_le _, rfl, .inl ⟨rfl, rfl⟩, rfl, Below.refl _ _⟩
  case round =>
    obtain ⟨k, b, hk, rfl, hkb, hq, hW⟩ := hrel
    by_cases hlt : k < n
    · obtain ⟨b', off, rfl, hcell⟩ := (hc.keep hW) (by rw [HN.out]; omega)
      obtain ⟨z, hz⟩ := at_ zs k (by rw [HN.out]; exact hlt)
      have d0 := hcell k z hz
      have k0 : (0 : Int) ≤ (k : Int) := by omega
      have k1 : (k : Int) < (n : Int) := by omega
      have b0 : -1 ≤ b := by rcases hkb with ⟨_, h⟩ | ⟨_, _, _, h⟩ <;> omega
      have HC := Lib.hid hc
      by_cases g0 : z < 0
      · have HS := Lib.hid (hq.trans (ascA_stop hz (by omega)))
        have q0 := dec_y g0
        clear hcell hz hq hkb hc g0
        go_wp2
        go_quiet (fail)
        go_wp2
        go_ret
        exact ⟨ret_bool HS.out.symm, Gen.dN hW _⟩
      have q0 : decide (z < 0) = false := dec_n g0
      by_cases g1 : m < z
      · have HS := Lib.hid (hq.trans (ascA_stop hz (by omega)))
        have q1 := dec_y g1
        clear hcell hz hq hkb hc g0 g1
        go_wp2
        go_quiet (fail)
        go_wp2
        go_ret
        exact ⟨ret_bool HS.out.symm, Gen.dN hW _⟩
      have q1 : decide (m < z) = false := dec_n g1
      rcases hkb with ⟨rfl, rfl⟩ | ⟨j, rfl, hj, hjb⟩
      · have HS := Lib.hid (hq.trans (ascA_step hz (by omega) (by omega)))
        have HZ := Lib.hid hz
        have z0 : 0 ≤ z := by omega
        rw [Nat.add_zero] at d0
        clear hcell hz hq hc g0 g1
        go_wp2
        go_quiet (fail)
        go_wp2
        go_roundw
        case rel => exact ⟨0 + 1, z, by omega, by go_num, .inr ⟨0, rfl, HZ.out, z0⟩, HS.out, Gen.dN hW _⟩
        case measure => simp [intOf]; omega
      · have d1 := hcell j b hj
        have HZ := Lib.hid hz
        have z0 : 0 ≤ z := by omega
        have i0 : (0 : Int) ≤ (j : Int) := by omega
        have i1 : (j : Int) < (n : Int) := by omega
        have q4 : decide ((0 : Int) < (j : Int) + 1) = true := dec_y (by omega)
        have q6 : (if (j : Int) < 0 then (0 : Int) else j) = j := if_neg (by omega)
        by_cases g2 : z ≤ b
        · have HS := Lib.hid (hq.trans (ascA_stop hz (by omega)))
          have q2 := dec_y g2
          clear hcell hz hq hc g0 g1 g2 hj
          go_wp2
          have q7 : IntKind.i64.wrap (j : Int) = j := IntWalk.i64_in _ (by omega)
          have q8 : IntKind.i64.wrap ((j : Int) + 1 - 1) = j := by rw [Int.add_sub_cancel]; exact q7
          go_quiet (fail)
          clear q7 q8
          go_wp2
          go_ret
          exact ⟨ret_bool HS.out.symm, Gen.dN hW _⟩
        · have HS := Lib.hid (hq.trans (ascA_step hz (by omega) (by omega)))
          have q2 : decide (z ≤ b) = false := dec_n g2
          clear hcell hz hq hc g0 g1 g2 hj
          go_wp2
          have q7 : IntKind.i64.wrap (j : Int) = j := IntWalk.i64_in _ (by omega)
          have q8 : IntKind.i64.wrap ((j : Int) + 1 - 1) = j := by rw [Int.add_sub_cancel]; exact q7
          go_quiet (fail)
          clear q7 q8
          go_wp2
          go_roundw
          case rel => exact ⟨j + 1 + 1, z, by omega, by go_num, .inr ⟨j + 1, rfl, HZ.out, z0⟩, HS.out, Gen.dN hW _⟩
          case measure => simp [intOf]; omega
    · have HS := Lib.hid (hq.trans (ascA_end (by rw [HN.out]; omega)))
      clear hq hc hkb
      go_wp2
      go_ret
      exact ⟨ret_bool HS.out.symm, hW⟩
theorem rasc_is {A : Option Addr} {n cap : Nat} {zs : List Int} {m : Int} {b : Bool} (w : World) (hn : zs.length = n) (hc : Ints w A zs) (hbig : n ≤ 1000000) (h : ascA m (-1) zs = b) :
    Calls Try.prog 46 #[.slice A n cap, .int .i64 m] w fun e w' => e = .returned (.bool b) ∧ Below w.heap.size w w' := by
  have hh := rasc_any A n cap zs m w hn hc hbig
  rw [h] at hh
  exact hh

set_option maxHeartbeats 1000000 in
theorem rday_any (day : Int) (w : World) :
    Calls Try.prog 43 #[.int .i64 day] w fun e w' => e = .returned (.bool (dy day)) ∧ w = w' := by
  cases h : dy day
  · rcases dy_out h with a | ⟨a, b⟩
    · clear h
      go_enter Try.func43, Try.ntmps43
      go_wp2
      go_ret
      exact ⟨rfl, rfl⟩
    · clear h
      go_enter Try.func43, Try.ntmps43
      go_wp2
      go_ret
      exact ⟨ret_bool (decide_eq_false (by omega)), rfl⟩
  · obtain ⟨a, b⟩ := dy_in h
    clear h
    go_enter Try.func43, Try.ntmps43
    go_wp2
    go_ret
    exact ⟨rfl, rfl⟩
theorem rday_is {day : Int} {b : Bool} (w : World) (h : dy day = b) :
    Calls Try.prog 43 #[.int .i64 day] w fun e w' => e = .returned (.bool b) ∧ w = w' := by
  have hh := rday_any day w
  rw [h] at hh
  exact hh


theorem mem_step {v z : Int} {l : List Int} {k : Nat} (h : l[k]? = some z) (h1 : z ≠ v) : (v ∈ l.drop k) = (v ∈ l.drop (k + 1)) := by
  rw [drop_cons h]
  simp [Ne.symm h1]
set_option maxHeartbeats 1000000 in
theorem has_is {A : Option Addr} {n cap : Nat} {zs : List Int} {v : Int} {b : Bool} (w : World) (hn : zs.length = n) (hc : Ints w A zs) (hbig : n ≤ 1000000) (h : decide (v ∈ zs) = b) :
    Calls Try.prog 49 #[.slice A n cap, .int .i64 v] w fun e w' => e = .returned (.bool b) ∧ w = w' := by
  have HN := Lib.hid hn
  have HX := Lib.hid h
  clear hn h
  go_enter Try.func49, Try.ntmps49
  go_wp2_with (fail)
  go_loop [5] (fun iv => ∃ k : Nat, k ≤ n ∧ iv = .int .i64 k ∧ Hid ((v ∈ zs) = (v ∈ zs.drop k))) (fun iv => n - (intOf iv).toNat)
  case atStart => exact ⟨0, Nat.zero_le _, rfl, Lib.hid rfl⟩
  case round =>
    obtain ⟨k, hk, rfl, HQ⟩ := hrel
    by_cases hlt : k < n
    · obtain ⟨b', off, rfl, hcell⟩ := hc (by rw [HN.out]; omega)
      obtain ⟨z, hz⟩ := at_ zs k (by rw [HN.out]; exact hlt)
      have d0 := hcell k z hz
      by_cases h1 : z = v
      · have hb1 : b = true := by
          rw [← HX.out]
          exact decide_eq_true (by rw [HQ.out, drop_cons hz, h1]; simp)
        have hb : (z == v) = true := by simpa using h1
        subst hb1
        clear hcell hz hc h1
        go_wp2
        go_ret
        exact ⟨rfl, rfl⟩
      · have HS := Lib.hid (HQ.out.trans (mem_step hz h1))
        have hb : (z == v) = false := by simpa using h1
        clear hcell hz hc h1
        go_wp2
        go_round
        case rel => exact ⟨k + 1, by omega, by go_num, HS⟩
        case measure => simp [intOf]; omega
    · have hb0 : b = false := by
        rw [← HX.out]
        exact decide_eq_false (by rw [HQ.out, List.drop_of_length_le (by rw [HN.out]; omega)]; simp)
      subst hb0
      clear hc
      go_wp2
      go_ret
      exact ⟨rfl, rfl⟩

section
variable {A A' : Option Addr} {n cap m cap' : Nat} {rs ds : List Int}
set_option maxRecDepth 100000 in
set_option maxHeartbeats 2000000 in
theorem rright_is {b : Bool} (w : World) (hn : rs.length = n) (hc : Ints w A rs) (hbig : n ≤ 1000000) (hm : ds.length = m) (hc' : Ints w A' ds) (hbig' : m ≤ 1000000) (h : rt rs ds = b) :
    Calls Try.prog 21 #[.agg #[.slice A n cap, .slice A' m cap']] w fun e w' => e = .returned (.bool b) ∧ Below w.heap.size w w' := by
  have hB0 : Below w.heap.size w (w.alloc (.cells #[.slice A n cap, .slice A' m cap'] 24)) := Gen.b_alloc (Below.refl _ _)
  have hr0 : Row (w.alloc (.cells #[.slice A n cap, .slice A' m cap'] 24)) w.heap.size 24 #[.slice A n cap, .slice A' m cap'] := Row.new _ _ _
  have hc1 := hc.keep hB0
  have hc1' := hc'.keep hB0
  have HN := Lib.hid hn
  have HM := Lib.hid hm
  have HB0 := Lib.hid hB0
  clear hB0
  unfold rt at h
  rw [hn, hm] at h
  clear hn hm
  by_cases h6 : n ≤ 6
  · by_cases h4 : m ≤ 4000
    · rw [decide_eq_true h6, decide_eq_true h4, Bool.true_and, Bool.true_and] at h
      cases hr : ascA 6 (-1) rs
      · rw [hr, Bool.false_and] at h
        have HR := Lib.hid hr
        subst h
        clear hr
        go_enter Try.func21, Try.ntmps21
        go_wp2_with (fail)
        go_must (refine (rasc_is _ HN.out hc1 hbig HR.out).mono ?_)
        rintro e w1 ⟨rfl, hb1⟩
        have hB1 := Gen.over hb1 HB0.out
        have k0 := (hr0.keep hb1).cell 0
        have k1 := (hr0.keep hb1).cell 1
        have hc2' := hc1'.keep hb1
        clear hr0 hc1 hc1' hb1
        go_wp2
        go_ret
        exact ⟨rfl, hB1⟩
      · rw [hr, Bool.true_and] at h
        have HR := Lib.hid hr
        have HX := Lib.hid h
        clear hr h
        go_enter Try.func21, Try.ntmps21
        go_wp2_with (fail)
        go_must (refine (rasc_is _ HN.out hc1 hbig HR.out).mono ?_)
        rintro e w1 ⟨rfl, hb1⟩
        have hB1 := Gen.over hb1 HB0.out
        have k0 := (hr0.keep hb1).cell 0
        have k1 := (hr0.keep hb1).cell 1
        have hc2' := hc1'.keep hb1
        clear hr0 hc1 hc1' hb1
        go_wp2_with (fail)
        go_must (refine (rasc_is _ HM.out hc2' hbig' HX.out).mono ?_)
        rintro e w2 ⟨rfl, hb2⟩
        have hB2 := Gen.over hb2 hB1
        go_wp2
        go_ret
        exact ⟨rfl, hB2⟩
    · rw [decide_eq_false h4, Bool.false_and, Bool.and_false] at h
      subst h
      have h4' : 4000 < m := by omega
      clear h4
      go_enter Try.func21, Try.ntmps21
      go_wp2
      go_ret
      exact ⟨rfl, HB0.out⟩
  · rw [decide_eq_false h6, Bool.false_and] at h
    subst h
    have h6' : 6 < n := by omega
    clear h6
    go_enter Try.func21, Try.ntmps21
    go_wp2
    go_ret
    exact ⟨rfl, HB0.out⟩

set_option maxRecDepth 100000 in
set_option maxHeartbeats 2000000 in
theorem rbus_is {b : Bool} {day : Int} (w : World) (hn : rs.length = n) (hc : Ints w A rs) (hbig : n ≤ 1000000) (hm : ds.length = m) (hc' : Ints w A' ds) (hbig' : m ≤ 1000000) (h : bz rs ds day = b) :
    Calls Try.prog 23 #[.agg #[.slice A n cap, .slice A' m cap'], .int .i64 day] w fun e w' => e = .returned (.bool b) ∧ Below w.heap.size w w' := by
  have hB0 : Below w.heap.size w (w.alloc (.cells #[.slice A n cap, .slice A' m cap'] 24)) := Gen.b_alloc (Below.refl _ _)
  have hr0 : Row (w.alloc (.cells #[.slice A n cap, .slice A' m cap'] 24)) w.heap.size 24 #[.slice A n cap, .slice A' m cap'] := Row.new _ _ _
  have hc1 := hc.keep hB0
  have hc1' := hc'.keep hB0
  have HN := Lib.hid hn
  have HM := Lib.hid hm
  have HB0 := Lib.hid hB0
  clear hB0 hn hm
  unfold bz at h
  cases hr : rt rs ds
  · rw [hr, Bool.false_and] at h
    subst h
    have HR := Lib.hid hr
    clear hr hr0
    go_enter Try.func23, Try.ntmps23
    go_wp2_with (fail)
    go_must (refine (rright_is _ HN.out hc1 hbig HM.out hc1' hbig' HR.out).mono ?_)
    rintro e w1 ⟨rfl, hb1⟩
    have hB1 := Gen.over hb1 HB0.out
    go_wp2
    go_ret
    exact ⟨rfl, hB1⟩
  · rw [hr, Bool.true_and] at h
    have HR := Lib.hid hr
    have HA := Lib.hid (asc_of (rt_in hr).2.2.2)
    clear hr
    cases hd : dy day
    · rw [hd, Bool.false_and] at h
      subst h
      have HD := Lib.hid hd
      clear hd hr0
      go_enter Try.func23, Try.ntmps23
      go_wp2_with (fail)
      go_must (refine (rright_is _ HN.out hc1 hbig HM.out hc1' hbig' HR.out).mono ?_)
      rintro e w1 ⟨rfl, hb1⟩
      have hB1 := Gen.over hb1 HB0.out
      go_wp2_with (fail)
      go_must (refine (rday_is _ HD.out).mono ?_)
      rintro e w1 ⟨rfl, rfl⟩
      go_wp2
      go_ret
      exact ⟨rfl, hB1⟩
    · rw [hd, Bool.true_and] at h
      have HD := Lib.hid hd
      obtain ⟨h0, h1⟩ := dy_in hd
      clear hd
      unfold bd at h
      cases hx : decide (day % 7 ∈ rs)
      · rw [hx, Bool.not_false, Bool.true_and] at h
        obtain ⟨b2, hb2⟩ : ∃ b2, decide (day ∈ ds) = b2 := ⟨_, rfl⟩
        rw [hb2] at h
        subst h
        have HX := Lib.hid hx
        have HX2 := Lib.hid hb2
        clear hx hb2
        go_enter Try.func23, Try.ntmps23
        go_wp2_with (fail)
        go_must (refine (rright_is _ HN.out hc1 hbig HM.out hc1' hbig' HR.out).mono ?_)
        rintro e w1 ⟨rfl, hb1⟩
        have hB1 := Gen.over hb1 HB0.out
        have k0 := (hr0.keep hb1).cell 0
        have k1 := (hr0.keep hb1).cell 1
        have hc2 := hc1.keep hb1
        have hc2' := hc1'.keep hb1
        clear hr0 hc1 hc1' hb1
        go_wp2_with (fail)
        go_must (refine (rday_is _ HD.out).mono ?_)
        rintro e w1 ⟨rfl, rfl⟩
        go_wp2_with (fail)
        go_must (refine (has_is _ HN.out hc2 hbig HX.out).mono ?_)
        rintro e w1 ⟨rfl, rfl⟩
        go_wp2_with (fail)
        go_must (refine (has_is _ HM.out hc2' hbig' HX2.out).mono ?_)
        rintro e w1 ⟨rfl, rfl⟩
        go_wp2
        go_ret
        exact ⟨rfl, hB1⟩
      · rw [hx, Bool.not_true, Bool.false_and] at h
        subst h
        have HX := Lib.hid hx
        clear hx
        go_enter Try.func23, Try.ntmps23
        go_wp2_with (fail)
        go_must (refine (rright_is _ HN.out hc1 hbig HM.out hc1' hbig' HR.out).mono ?_)
        rintro e w1 ⟨rfl, hb1⟩
        have hB1 := Gen.over hb1 HB0.out
        have k0 := (hr0.keep hb1).cell 0
        have k1 := (hr0.keep hb1).cell 1
        have hc2 := hc1.keep hb1
        have hc2' := hc1'.keep hb1
        clear hr0 hc1 hc1' hb1
        go_wp2_with (fail)
        go_must (refine (rday_is _ HD.out).mono ?_)
        rintro e w1 ⟨rfl, rfl⟩
        go_wp2_with (fail)
        go_must (refine (has_is _ HN.out hc2 hbig HX.out).mono ?_)
        rintro e w1 ⟨rfl, rfl⟩
        go_wp2
        go_ret
        exact ⟨rfl, hB1⟩
theorem bz_of {rs ds : List Int} {d : Int} (hr : rt rs ds = true) (h0 : 0 ≤ d) (h1 : d ≤ 200000) : bz rs ds d = bd rs ds d := by
  unfold bz
  rw [hr, dy_yes h0 h1]
  rfl
set_option maxRecDepth 100000 in
set_option maxHeartbeats 2000000 in
theorem rmovedUp_is {day x e : Int} (w : World) (hn : rs.length = n) (hc : Ints w A rs) (hbig : n ≤ 1000000) (hm : ds.length = m) (hc' : Ints w A' ds) (hbig' : m ≤ 1000000) (hd : rt rs ds = true) (h0 : 0 ≤ day) (h1 : day ≤ 200001) (h : nx (bd rs ds) day = (x, e)) :
    Calls Try.prog 44 #[.agg #[.slice A n cap, .slice A' m cap'], .int .i64 day, .int .i64 1] w fun e' w' => e' = .returned (.tuple #[.int .i64 x, .int .i64 e]) ∧ Below w.heap.size w w' := by
  have hB0 : Below w.heap.size w (w.alloc (.cells #[.slice A n cap, .slice A' m cap'] 24)) := Gen.b_alloc (Below.refl _ _)
  have hr0 : Row (w.alloc (.cells #[.slice A n cap, .slice A' m cap'] 24)) w.heap.size 24 #[.slice A n cap, .slice A' m cap'] := Row.new _ _ _
  have hc1 := hc.keep hB0
  have hc1' := hc'.keep hB0
  have HN := Lib.hid hn
  have HM := Lib.hid hm
  have HD := Lib.hid hd
  have HX := Lib.hid h
  have HB0 := Lib.hid hB0
  clear hB0 hn hm hd h hc hc'
  go_enter Try.func44, Try.ntmps44
  go_wp2_with (fail)
  go_loopw [1] (fun dv wr => ∃ d : Int, 0 ≤ d ∧ d ≤ 200001 ∧ dv = .int .i64 d ∧ Hid (nx (bd rs ds) d = (x, e)) ∧ Below (w.alloc (.cells #[.slice A n cap, .slice A' m cap'] 24)).heap.size (w.alloc (.cells #[.slice A n cap, .slice A' m cap'] 24)) wr) (fun dv _ => (200001 - intOf dv).toNat)
  case atStart => exact ⟨day, h0, h1, rfl, HX, Below.refl _ _⟩
  case round =>
    obtain ⟨d, d0, d1, rfl, HD2, hW⟩ := hrel
    have hB := Gen.over hW HB0.out
    have k0 := (hr0.keep hW).cell 0
    have k1 := (hr0.keep hW).cell 1
    have hc2 := hc1.keep hW
    have hc2' := hc1'.keep hW
    by_cases hlt : d ≤ 200000
    · have HY := Lib.hid (dy_yes d0 hlt)
      cases hp : bd rs ds d
      · have HS := Lib.hid (show nx (bd rs ds) (d + 1) = (x, e) from by rw [← nx_step hlt hp]; exact HD2.out)
        have HP := Lib.hid ((bz_of HD.out d0 hlt).trans hp)
        clear hp hr0 hc1 hc1'
        go_wp2_with (fail)
        go_must (refine (rday_is _ HY.out).mono ?_)
        rintro e w1 ⟨rfl, rfl⟩
        go_wp2_with (fail)
        go_must (refine (rbus_is _ HN.out hc2 hbig HM.out hc2' hbig' HP.out).mono ?_)
        rintro e w2 ⟨rfl, hb2⟩
        have hB2 := Gen.over hb2 hW
        clear hW hB k0 k1
        go_wp2
        go_roundw
        case rel => exact ⟨d + 1, by omega, by omega, rfl, HS, hB2⟩
        case measure => simp [intOf]; omega
      · have hS := HD2.out
        rw [nx_here hlt hp] at hS
        have e1 : d = x := by injection hS
        have e2 : 0 = e := by injection hS
        subst e1 e2
        have HP := Lib.hid ((bz_of HD.out d0 hlt).trans hp)
        clear hp hr0 hc1 hc1' hS
        go_wp2_with (fail)
        go_must (refine (rday_is _ HY.out).mono ?_)
        rintro e w1 ⟨rfl, rfl⟩
        go_wp2_with (fail)
        go_must (refine (rbus_is _ HN.out hc2 hbig HM.out hc2' hbig' HP.out).mono ?_)
        rintro e w2 ⟨rfl, hb2⟩
        have hB2 := Gen.over hb2 hB
        clear hW hB k0 k1
        go_wp2
        exact bodyPost_ret (v := .tuple #[.int .i64 d, .int .i64 0]) (by simp [results, Try.results44, go_sem]) rfl ⟨rfl, hB2⟩
    · have HY := Lib.hid (dy_no (day := d) (by omega))
      have hS := HD2.out
      rw [nx_end (by omega)] at hS
      have e1 : 0 = x := by injection hS
      have e2 : 3 = e := by injection hS
      subst e1 e2
      clear hS hr0 hc1 hc1' k0 k1
      go_wp2_with (fail)
      go_must (refine (rday_is _ HY.out).mono ?_)
      rintro e w1 ⟨rfl, rfl⟩
      go_wp2
      exact bodyPost_ret (v := .tuple #[.int .i64 0, .int .i64 3]) (by simp [results, Try.results44, go_sem]) rfl ⟨rfl, hB⟩

set_option maxRecDepth 100000 in
set_option maxHeartbeats 2000000 in
theorem rmovedDn_is {day x e : Int} (w : World) (hn : rs.length = n) (hc : Ints w A rs) (hbig : n ≤ 1000000) (hm : ds.length = m) (hc' : Ints w A' ds) (hbig' : m ≤ 1000000) (hd : rt rs ds = true) (h0 : -1 ≤ day) (h1 : day ≤ 200000) (h : bf (bd rs ds) day = (x, e)) :
    Calls Try.prog 44 #[.agg #[.slice A n cap, .slice A' m cap'], .int .i64 day, .int .i64 (-1)] w fun e' w' => e' = .returned (.tuple #[.int .i64 x, .int .i64 e]) ∧ Below w.heap.size w w' := by
  have hB0 : Below w.heap.size w (w.alloc (.cells #[.slice A n cap, .slice A' m cap'] 24)) := Gen.b_alloc (Below.refl _ _)
  have hr0 : Row (w.alloc (.cells #[.slice A n cap, .slice A' m cap'] 24)) w.heap.size 24 #[.slice A n cap, .slice A' m cap'] := Row.new _ _ _
  have hc1 := hc.keep hB0
  have hc1' := hc'.keep hB0
  have HN := Lib.hid hn
  have HM := Lib.hid hm
  have HD := Lib.hid hd
  have HX := Lib.hid h
  have HB0 := Lib.hid hB0
  clear hB0 hn hm hd h hc hc'
  go_enter Try.func44, Try.ntmps44
  go_wp2_with (fail)
  go_loopw [1] (fun dv wr => ∃ d : Int, -1 ≤ d ∧ d ≤ 200000 ∧ dv = .int .i64 d ∧ Hid (bf (bd rs ds) d = (x, e)) ∧ Below (w.alloc (.cells #[.slice A n cap, .slice A' m cap'] 24)).heap.size (w.alloc (.cells #[.slice A n cap, .slice A' m cap'] 24)) wr) (fun dv _ => (1 + intOf dv).toNat)
  case atStart => exact ⟨day, h0, h1, rfl, HX, Below.refl _ _⟩
  case round =>
    obtain ⟨d, d0, d1, rfl, HD2, hW⟩ := hrel
    have hB := Gen.over hW HB0.out
    have k0 := (hr0.keep hW).cell 0
    have k1 := (hr0.keep hW).cell 1
    have hc2 := hc1.keep hW
    have hc2' := hc1'.keep hW
    by_cases hlt : 0 ≤ d
    · have HY := Lib.hid (dy_yes hlt d1)
      cases hp : bd rs ds d
      · have HS := Lib.hid (show bf (bd rs ds) (d - 1) = (x, e) from by rw [← bf_step hlt hp]; exact HD2.out)
        have HP := Lib.hid ((bz_of HD.out hlt d1).trans hp)
        clear hp hr0 hc1 hc1'
        go_wp2_with (fail)
        go_must (refine (rday_is _ HY.out).mono ?_)
        rintro e w1 ⟨rfl, rfl⟩
        go_wp2_with (fail)
        go_must (refine (rbus_is _ HN.out hc2 hbig HM.out hc2' hbig' HP.out).mono ?_)
        rintro e w2 ⟨rfl, hb2⟩
        have hB2 := Gen.over hb2 hW
        clear hW hB k0 k1
        go_wp2
        go_roundw
        case rel => exact ⟨d - 1, by omega, by omega, by first | rfl | go_num, HS, hB2⟩
        case measure => simp [intOf]; omega
      · have hS := HD2.out
        rw [bf_here hlt hp] at hS
        have e1 : d = x := by injection hS
        have e2 : 0 = e := by injection hS
        subst e1 e2
        have HP := Lib.hid ((bz_of HD.out hlt d1).trans hp)
        clear hp hr0 hc1 hc1' hS
        go_wp2_with (fail)
        go_must (refine (rday_is _ HY.out).mono ?_)
        rintro e w1 ⟨rfl, rfl⟩
        go_wp2_with (fail)
        go_must (refine (rbus_is _ HN.out hc2 hbig HM.out hc2' hbig' HP.out).mono ?_)
        rintro e w2 ⟨rfl, hb2⟩
        have hB2 := Gen.over hb2 hB
        clear hW hB k0 k1
        go_wp2
        exact bodyPost_ret (v := .tuple #[.int .i64 d, .int .i64 0]) (by simp [results, Try.results44, go_sem]) rfl ⟨rfl, hB2⟩
    · have HY := Lib.hid (dy_no (day := d) (by omega))
      have hS := HD2.out
      rw [bf_end (by omega)] at hS
      have e1 : 0 = x := by injection hS
      have e2 : 3 = e := by injection hS
      subst e1 e2
      clear hS hr0 hc1 hc1' k0 k1
      go_wp2_with (fail)
      go_must (refine (rday_is _ HY.out).mono ?_)
      rintro e w1 ⟨rfl, rfl⟩
      go_wp2
      exact bodyPost_ret (v := .tuple #[.int .i64 0, .int .i64 3]) (by simp [results, Try.results44, go_sem]) rfl ⟨rfl, hB⟩

end
end Go.Proofs.Ytdndlipenjkfpaa.Dat
