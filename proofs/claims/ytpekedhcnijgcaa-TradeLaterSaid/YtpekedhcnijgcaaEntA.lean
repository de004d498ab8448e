/- Package entitle: the contracts of valid, Votes, and the reference's Votes. -/
import Derived.Test.YtpekedhcnijgcaaTrdC
namespace Go.Proofs.Ytpekedhcnijgcaa.Book
open Go.ChangeShapes Go.WideShapes Go.ChangeAt Go.RowKit Go.Proofs.Ytpekedhcnijgcaa.Cell
set_option linter.unusedVariables false
set_option linter.unusedSimpArgs false

/-- what is chosen out of the first numbers -/
def sel (f : Nat → Option (Int × Int)) : Nat → List (Int × Int)
  | 0 => []
  | k + 1 => sel f k ++ (f k).toList
theorem sel_yes {f : Nat → Option (Int × Int)} {k : Nat} {x : Int × Int} (h : f k = some x) : sel f (k + 1) = sel f k ++ [x] := by rw [sel, h]; rfl
theorem sel_no {f : Nat → Option (Int × Int)} {k : Nat} (h : f k = none) : sel f (k + 1) = sel f k := by rw [sel, h]; simp
theorem sel_len (f : Nat → Option (Int × Int)) (k : Nat) : (sel f k).length ≤ k := by
  induction k with
  | zero => simp [sel]
  | succ k ih =>
    rw [sel, List.length_append]
    have : (f k).toList.length ≤ 1 := by cases f k <;> simp
    omega
theorem pcs_length (x : Int × Int) : (pcs x).length = 2 := rfl
theorem prs_own {w : World} {base : Nat} {e : TypeId} {A : Option Addr} {c : Nat} {l : List (Int × Int)} (h : w.ownsRow base e 2 (.slice A l.length c) l.length (l.flatMap pcs)) : Prs w A l := fun h0 => by
  have hr := App.Reads.of_own h
  obtain ⟨b, off, ea, hc⟩ := Gen.reads_at pcs_length (by omega) rfl hr h0
  exact ⟨b, off, ea, fun j p hj => ⟨hc j p hj 0 _ rfl, hc j p hj 1 _ rfl⟩⟩
theorem infoS : (Try.prog.info? 54).map (fun i => (i.zero, i.size, i.bytes)) = some (some (.agg #[.int .i64 0, .int .i64 0]), 2, 16) := by kernel_rfl
/-- what returns shares -/
def ShPost (L : List (Int × Int)) (E : Int) (w : World) (e : Ending) (w' : World) : Prop := ∃ A c, e = .returned (.tuple #[.slice A L.length c, .int .i64 E]) ∧ Below w.heap.size w w' ∧ Prs w' A L
theorem sh_no {L : List (Int × Int)} {E : Int} (h : ([], 1) = (L, E)) {w w' : World} (hb : Below w.heap.size w w') : ShPost L E w (.returned (.tuple #[.slice none 0 0, .int .i64 1])) w' := by
  obtain rfl : [] = L := by injection h
  obtain rfl : 1 = E := by injection h
  exact ⟨none, 0, rfl, hb, fun h => absurd h (by simp)⟩

theorem mv_1 (ss : List (Int × Int)) (us : List Int) : mvE ss us 0 0 1 = 1 ↔ vd ss us = false := by
  unfold mvE
  constructor
  · intro h
    by_cases c : vd ss us = false
    · exact c
    · rw [if_neg (by simp [c])] at h
      split at h
      · cases h
      · split at h <;> cases h
  · intro h
    rw [if_pos (.inr h)]
set_option maxHeartbeats 1000000 in
theorem evalid_any (A : Option Addr) (n cap : Nat) (ss : List (Int × Int)) (A' : Option Addr) (m cap' : Nat) (us : List Int) (w : World) (hn : ss.length = n) (hc : Prs w A ss) (hbig : n ≤ 1000000) (hm : us.length = m) (hc' : Ints w A' us) (hbig' : m ≤ 1000000) :
    Calls Try.prog 62 #[.slice A n cap, .slice A' m cap'] w fun e w' => e = .returned (.bool (vd ss us)) ∧ Below w.heap.size w w' := by
  cases hv : vd ss us
  · have HE := Lib.hid ((mv_1 ss us).2 hv)
    clear hv
    go_enter Try.func62, Try.ntmps62
    go_wp2_with (fail)
    go_must (refine (move_any _ _ _ ss _ _ _ us 0 0 1 _ hn hc hbig hm hc' hbig').mono ?_)
    rintro e w1 ⟨A2, c2, rfl, hb, _⟩
    rw [HE.out]
    clear hn hm
    go_wp2
    go_ret
    exact ⟨rfl, hb⟩
  · obtain ⟨x, hx⟩ : ∃ x, mvE ss us 0 0 1 = x := ⟨_, rfl⟩
    have HX := Lib.hid hx
    have hb1 : (x != 1) = true := by
      rw [bne_iff_ne, ← hx]
      intro c
      rw [(mv_1 ss us).1 c] at hv
      cases hv
    clear hv hx
    go_enter Try.func62, Try.ntmps62
    go_wp2_with (fail)
    go_must (refine (move_any _ _ _ ss _ _ _ us 0 0 1 _ hn hc hbig hm hc' hbig').mono ?_)
    rintro e w1 ⟨A2, c2, rfl, hb, _⟩
    rw [HX.out]
    clear hn hm
    go_wp2
    go_ret
    exact ⟨rfl, hb⟩
theorem evalid_is {A : Option Addr} {n cap : Nat} {ss : List (Int × Int)} {A' : Option Addr} {m cap' : Nat} {us : List Int} {b : Bool} (w : World) (hn : ss.length = n) (hc : Prs w A ss) (hbig : n ≤ 1000000) (hm : us.length = m) (hc' : Ints w A' us) (hbig' : m ≤ 1000000) (h : vd ss us = b) :
    Calls Try.prog 62 #[.slice A n cap, .slice A' m cap'] w fun e w' => e = .returned (.bool b) ∧ Below w.heap.size w w' := by
  have hh := evalid_any A n cap ss A' m cap' us w hn hc hbig hm hc' hbig'
  rw [h] at hh
  exact hh

/-- who votes -/
def vf (ss : List (Int × Int)) (us : List Int) (s : Int) (i : Nat) : Option (Int × Int) := match us[i]?, ss[i]? with
  | some u, some p => if 0 < u ∧ (p.2 = -1 ∨ p.2 ≠ s) then some ((i : Int), u) else none
  | _, _ => none
theorem vf_at {ss : List (Int × Int)} {us : List Int} {s u : Int} {i : Nat} {p : Int × Int} (hu : us[i]? = some u) (hp : ss[i]? = some p) : vf ss us s i = if 0 < u ∧ (p.2 = -1 ∨ p.2 ≠ s) then some ((i : Int), u) else none := by
  unfold vf
  rw [hu, hp]
def vtO (ss : List (Int × Int)) (us : List Int) (s : Int) : List (Int × Int) × Int := if vd ss us = true ∧ -1 ≤ s ∧ s ≤ 59 then (sel (vf ss us s) ss.length, 0) else ([], 1)
set_option maxRecDepth 100000 in
set_option maxHeartbeats 8000000 in
theorem votes_any (A : Option Addr) (n cap : Nat) (ss : List (Int × Int)) (A' : Option Addr) (m cap' : Nat) (us : List Int) (s : Int) (L : List (Int × Int)) (E : Int) (w : World) (hn : ss.length = n) (hc : Prs w A ss) (hbig : n ≤ 1000000) (hm : us.length = m) (hc' : Ints w A' us) (hbig' : m ≤ 1000000)
    (h : vtO ss us s = (L, E)) :
    Calls Try.prog 31 #[.slice A n cap, .slice A' m cap', .int .i64 s] w (ShPost L E w) := by
  have HN := Lib.hid hn
  have HM := Lib.hid hm
  clear hn hm
  by_cases hok : vd ss us = true ∧ -1 ≤ s ∧ s ≤ 59
  case neg =>
    unfold vtO at h
    rw [if_neg hok] at h
    have H := Lib.hid h
    clear h
    cases hv : vd ss us
    · have HV := Lib.hid hv
      clear hv hok
      go_enter Try.func31, Try.ntmps31
      go_wp2_with (fail)
      go_must (refine (evalid_is _ HN.out hc hbig HM.out hc' (by omega) HV.out).mono ?_)
      rintro e w1 ⟨rfl, hb⟩
      go_wp2
      go_ret2
      exact sh_no H.out hb
    · have HV := Lib.hid hv
      rcases (show s < -1 ∨ (-1 ≤ s ∧ 59 < s) from (by have hq : ¬ (-1 ≤ s ∧ s ≤ 59) := fun c => hok ⟨hv, c⟩; omega)) with a | ⟨a, b⟩
      all_goals
        clear hv hok
        go_enter Try.func31, Try.ntmps31
        go_wp2_with (fail)
        go_must (refine (evalid_is _ HN.out hc hbig HM.out hc' (by omega) HV.out).mono ?_)
        rintro e w1 ⟨rfl, hb⟩
        go_wp2
        go_ret2
        exact sh_no H.out hb
  unfold vtO at h
  rw [if_pos hok] at h
  obtain ⟨hv, s0, s1⟩ := hok
  have HV := Lib.hid hv
  have hmn : m = n := by have := (vd_in hv).2.1; rw [HM.out, HN.out] at this; exact this
  subst hmn
  rw [HN.out] at h
  have H := Lib.hid h
  clear h hv
  obtain ⟨i0, hi0, hz0, hz1, hz2⟩ := info_parts infoS
  go_enter Try.func31, Try.ntmps31
  go_wp2_with (fail)
  go_must (refine (evalid_is _ HN.out hc hbig HM.out hc' (by omega) HV.out).mono ?_)
  rintro e w1 ⟨rfl, hb⟩
  go_wp2_with (fail)
  go_loopw [8, 25] (fun vv iv wr => ∃ (k : Nat) (v : Value), k ≤ m ∧ iv = .int .i64 k ∧ vv = v ∧ wr.ownsRow w1.heap.size 54 2 v (sel (vf ss us s) k).length ((sel (vf ss us s) k).flatMap pcs) ∧ Below w1.heap.size w1 wr) (fun _ iv _ => m - (intOf iv).toNat)
  case atStart => exact ⟨0, _, Nat.zero_le _, rfl, rfl, ⟨rfl, .inl ⟨rfl, rfl⟩⟩, Below.refl _ _⟩
  case round =>
    obtain ⟨k, v, hk, rfl, rfl, hown, hW⟩ := hrel
    have hS : w1.heap.size ≤ wr.heap.size := hW.size
    have hbw := Gen.over hW hb
    by_cases hlt : k < m
    · obtain ⟨b, off, rfl, hcell⟩ := (hc.keep hbw) (by rw [HN.out]; omega)
      obtain ⟨b', off', rfl, hcell'⟩ := (hc'.keep hbw) (by rw [HM.out]; omega)
      obtain ⟨p, hp⟩ := at_ ss k (by rw [HN.out]; exact hlt)
      obtain ⟨u, hu⟩ := at_ us k (by rw [HM.out]; exact hlt)
      obtain ⟨c0, c1⟩ := hcell k p hp
      have d0 := hcell' k u hu
      have HF := Lib.hid (vf_at (s := s) hu hp)
      have kk0 : (0 : Int) ≤ (k : Int) := by omega
      have kk1 : (k : Int) < (m : Int) := by omega
      obtain ⟨uu0, uu1⟩ := vd_all HV.out u (mem_of_at hu)
      have hle := sel_len (vf ss us s) k
      have N1 := Lib.hid (show (sel (vf ss us s) k).length + 1 ≤ maxLen from by simp only [maxLen]; omega)
      have N2 := Lib.hid (show ((sel (vf ss us s) k).length + 1) * 16 ≤ 140737488355328 from by omega)
      clear hcell hcell' hp hu hle
      obtain ⟨pa, o⟩ := p
      dsimp only at c0 c1 HF
      by_cases hu0 : 0 < u
      · by_cases ho : o = -1 ∨ o ≠ s
        · have HS := Lib.hid (sel_yes (f := vf ss us s) (k := k) (by rw [HF.out, if_pos ⟨hu0, ho⟩]))
          clear HF
          by_cases ho1 : o = -1
          · have b1 : (o == -1) = true := by rw [ho1]; rfl
            subst ho1
            clear ho
            go_wp2_with (first
                | (at_builtin
                   go_must (refine App.wpList_append_any _ rfl (.tmp 49) (.tmp 53) _ rfl w1.heap.size 54 i0 _ 2 16 Try.underlying45 hi0 hz0 hz1 hz2 rfl (by omega) _ _ _ rfl (Gen.own_keep hown (Gen.b_alloc (Below.refl _ _))) _ _ 1 1 [.int .i64 k, .int .i64 u] rfl (Gen.reads_blk (by simp) rfl) (by simp [Value.oneCell']) N1.out N2.out (Nat.le_trans hS (Gen.b_alloc (Below.refl _ _)).size) ?_)
                   intro v2 w7 hown7 hg7 hat7
                   have hB7 := Gen.g_below hown hg7 (Gen.b_alloc hW) (Nat.le_refl _)
                   clear hg7 hat7)
                | fail)
            go_roundw
            case rel => exact ⟨k + 1, _, by omega, by go_num, rfl, by rw [HS.out, List.length_append, List.flatMap_append]; simpa [pcs] using hown7, hB7⟩
            case measure => simp [intOf]; omega
          · have b1 : (o == -1) = false := by simpa using ho1
            have b2 : (o != s) = true := by rw [bne_iff_ne]; rcases ho with c | c; exact absurd c ho1; exact c
            clear ho ho1
            go_wp2_with (first
                | (at_builtin
                   go_must (refine App.wpList_append_any _ rfl (.tmp 49) (.tmp 53) _ rfl w1.heap.size 54 i0 _ 2 16 Try.underlying45 hi0 hz0 hz1 hz2 rfl (by omega) _ _ _ rfl (Gen.own_keep hown (Gen.b_alloc (Below.refl _ _))) _ _ 1 1 [.int .i64 k, .int .i64 u] rfl (Gen.reads_blk (by simp) rfl) (by simp [Value.oneCell']) N1.out N2.out (Nat.le_trans hS (Gen.b_alloc (Below.refl _ _)).size) ?_)
                   intro v2 w7 hown7 hg7 hat7
                   have hB7 := Gen.g_below hown hg7 (Gen.b_alloc hW) (Nat.le_refl _)
                   clear hg7 hat7)
                | fail)
            go_roundw
            case rel => exact ⟨k + 1, _, by omega, by go_num, rfl, by rw [HS.out, List.length_append, List.flatMap_append]; simpa [pcs] using hown7, hB7⟩
            case measure => simp [intOf]; omega
        · have HS := Lib.hid (sel_no (f := vf ss us s) (k := k) (by rw [HF.out, if_neg (fun c => ho c.2)]))
          have b1 : (o == -1) = false := by rw [beq_eq_false_iff_ne]; exact fun c => ho (.inl c)
          have b2 : (o != s) = false := by rw [bne_eq_false_iff_eq]; exact Decidable.byContradiction fun c => ho (.inr c)
          have HO := Lib.hid hown
          clear ho HF hown
          go_wp2
          go_roundw
          case rel => exact ⟨k + 1, _, by omega, by go_num, rfl, by rw [HS.out]; exact HO.out, hW⟩
          case measure => simp [intOf]; omega
      · have HS := Lib.hid (sel_no (f := vf ss us s) (k := k) (by rw [HF.out, if_neg (fun c => hu0 c.1)]))
        have hu1 : u ≤ 0 := by omega
        have HO := Lib.hid hown
        clear hu0 HF hown
        go_wp2
        go_roundw
        case rel => exact ⟨k + 1, _, by omega, by go_num, rfl, by rw [HS.out]; exact HO.out, hW⟩
        case measure => simp [intOf]; omega
    · obtain rfl : k = m := by omega
      obtain ⟨A2, c2, rfl, _⟩ := Gen.own_slice hown
      have HP := Lib.hid (prs_own hown)
      clear hown
      go_wp2
      go_ret2
      obtain rfl : _ = L := by have := H.out; injection this
      obtain rfl : _ = E := by have := H.out; injection this
      exact ⟨A2, c2, rfl, hbw, HP.out⟩
set_option maxRecDepth 100000 in
set_option maxHeartbeats 8000000 in
theorem rvotes_any (A : Option Addr) (n cap : Nat) (ss : List (Int × Int)) (A' : Option Addr) (m cap' : Nat) (us : List Int) (s : Int) (L : List (Int × Int)) (E : Int) (w : World) (hn : ss.length = n) (hc : Prs w A ss) (hbig : n ≤ 1000000) (hm : us.length = m) (hc' : Ints w A' us) (hbig' : m ≤ 1000000)
    (h : vtO ss us s = (L, E)) :
    Calls Try.prog 32 #[.slice A n cap, .slice A' m cap', .int .i64 s] w (ShPost L E w) := by
  have HN := Lib.hid hn
  have HM := Lib.hid hm
  clear hn hm
  by_cases hok : vd ss us = true ∧ -1 ≤ s ∧ s ≤ 59
  case neg =>
    unfold vtO at h
    rw [if_neg hok] at h
    have H := Lib.hid h
    clear h
    cases hv : vd ss us
    · have HV := Lib.hid hv
      clear hv hok
      go_enter Try.func32, Try.ntmps32
      go_wp2_with (fail)
      go_must (refine (units_is _ HN.out hc hbig HM.out hc' (by omega) HV.out).mono ?_)
      rintro e w1 ⟨rfl, hb⟩
      go_wp2
      go_ret2
      exact sh_no H.out hb
    · have HV := Lib.hid hv
      rcases (show s < -1 ∨ (-1 ≤ s ∧ 59 < s) from (by have hq : ¬ (-1 ≤ s ∧ s ≤ 59) := fun c => hok ⟨hv, c⟩; omega)) with a | ⟨a, b⟩
      all_goals
        clear hv hok
        go_enter Try.func32, Try.ntmps32
        go_wp2_with (fail)
        go_must (refine (units_is _ HN.out hc hbig HM.out hc' (by omega) HV.out).mono ?_)
        rintro e w1 ⟨rfl, hb⟩
        go_wp2
        go_ret2
        exact sh_no H.out hb
  unfold vtO at h
  rw [if_pos hok] at h
  obtain ⟨hv, s0, s1⟩ := hok
  have HV := Lib.hid hv
  have hmn : m = n := by have := (vd_in hv).2.1; rw [HM.out, HN.out] at this; exact this
  subst hmn
  rw [HN.out] at h
  have H := Lib.hid h
  clear h hv
  obtain ⟨i0, hi0, hz0, hz1, hz2⟩ := info_parts infoS
  go_enter Try.func32, Try.ntmps32
  go_wp2_with (fail)
  go_must (refine (units_is _ HN.out hc hbig HM.out hc' (by omega) HV.out).mono ?_)
  rintro e w1 ⟨rfl, hb⟩
  go_wp2_with (fail)
  go_loopw [8, 9] (fun vv iv wr => ∃ (k : Nat) (v : Value), k ≤ m ∧ iv = .int .i64 k ∧ vv = v ∧ wr.ownsRow w1.heap.size 54 2 v (sel (vf ss us s) k).length ((sel (vf ss us s) k).flatMap pcs) ∧ Below w1.heap.size w1 wr) (fun _ iv _ => m - (intOf iv).toNat)
  case atStart => exact ⟨0, _, Nat.zero_le _, rfl, rfl, ⟨rfl, .inl ⟨rfl, rfl⟩⟩, Below.refl _ _⟩
  case round =>
    obtain ⟨k, v, hk, rfl, rfl, hown, hW⟩ := hrel
    have hS : w1.heap.size ≤ wr.heap.size := hW.size
    have hbw := Gen.over hW hb
    by_cases hlt : k < m
    · obtain ⟨b, off, rfl, hcell⟩ := (hc.keep hbw) (by rw [HN.out]; omega)
      obtain ⟨b', off', rfl, hcell'⟩ := (hc'.keep hbw) (by rw [HM.out]; omega)
      obtain ⟨p, hp⟩ := at_ ss k (by rw [HN.out]; exact hlt)
      obtain ⟨u, hu⟩ := at_ us k (by rw [HM.out]; exact hlt)
      obtain ⟨c0, c1⟩ := hcell k p hp
      have d0 := hcell' k u hu
      have HF := Lib.hid (vf_at (s := s) hu hp)
      have kk0 : (0 : Int) ≤ (k : Int) := by omega
      have kk1 : (k : Int) < (m : Int) := by omega
      obtain ⟨uu0, uu1⟩ := vd_all HV.out u (mem_of_at hu)
      have hle := sel_len (vf ss us s) k
      have N1 := Lib.hid (show (sel (vf ss us s) k).length + 1 ≤ maxLen from by simp only [maxLen]; omega)
      have N2 := Lib.hid (show ((sel (vf ss us s) k).length + 1) * 16 ≤ 140737488355328 from by omega)
      clear hcell hcell' hp hu hle
      obtain ⟨pa, o⟩ := p
      dsimp only at c0 c1 HF
      by_cases hu0 : 0 < u
      · by_cases ho : o = -1 ∨ o ≠ s
        · have HS := Lib.hid (sel_yes (f := vf ss us s) (k := k) (by rw [HF.out, if_pos ⟨hu0, ho⟩]))
          clear HF
          by_cases ho1 : o = -1
          · have b1 : (o == -1) = true := by rw [ho1]; rfl
            subst ho1
            clear ho
            go_wp2_with (first
                | (at_builtin
                   go_must (refine App.wpList_append_any _ rfl (.tmp 50) (.tmp 57) _ rfl w1.heap.size 54 i0 _ 2 16 Try.underlying45 hi0 hz0 hz1 hz2 rfl (by omega) _ _ _ rfl (Gen.own_keep hown (Gen.b_alloc (Below.refl _ _))) _ _ 1 1 [.int .i64 k, .int .i64 u] rfl (Gen.reads_blk (by simp) rfl) (by simp [Value.oneCell']) N1.out N2.out (Nat.le_trans hS (Gen.b_alloc (Below.refl _ _)).size) ?_)
                   intro v2 w7 hown7 hg7 hat7
                   have hB7 := Gen.g_below hown hg7 (Gen.b_alloc hW) (Nat.le_refl _)
                   clear hg7 hat7)
                | fail)
            go_roundw
            case rel => exact ⟨k + 1, _, by omega, by go_num, rfl, by rw [HS.out, List.length_append, List.flatMap_append]; simpa [pcs] using hown7, hB7⟩
            case measure => simp [intOf]; omega
          · have b1 : (o == -1) = false := by simpa using ho1
            have b2 : (o != s) = true := by rw [bne_iff_ne]; rcases ho with c | c; exact absurd c ho1; exact c
            clear ho ho1
            go_wp2_with (first
                | (at_builtin
                   go_must (refine App.wpList_append_any _ rfl (.tmp 50) (.tmp 57) _ rfl w1.heap.size 54 i0 _ 2 16 Try.underlying45 hi0 hz0 hz1 hz2 rfl (by omega) _ _ _ rfl (Gen.own_keep hown (Gen.b_alloc (Below.refl _ _))) _ _ 1 1 [.int .i64 k, .int .i64 u] rfl (Gen.reads_blk (by simp) rfl) (by simp [Value.oneCell']) N1.out N2.out (Nat.le_trans hS (Gen.b_alloc (Below.refl _ _)).size) ?_)
                   intro v2 w7 hown7 hg7 hat7
                   have hB7 := Gen.g_below hown hg7 (Gen.b_alloc hW) (Nat.le_refl _)
                   clear hg7 hat7)
                | fail)
            go_roundw
            case rel => exact ⟨k + 1, _, by omega, by go_num, rfl, by rw [HS.out, List.length_append, List.flatMap_append]; simpa [pcs] using hown7, hB7⟩
            case measure => simp [intOf]; omega
        · have HS := Lib.hid (sel_no (f := vf ss us s) (k := k) (by rw [HF.out, if_neg (fun c => ho c.2)]))
          have b1 : (o == -1) = false := by rw [beq_eq_false_iff_ne]; exact fun c => ho (.inl c)
          have b2 : (o != s) = false := by rw [bne_eq_false_iff_eq]; exact Decidable.byContradiction fun c => ho (.inr c)
          have HO := Lib.hid hown
          clear ho HF hown
          go_wp2
          go_roundw
          case rel => exact ⟨k + 1, _, by omega, by go_num, rfl, by rw [HS.out]; exact HO.out, hW⟩
          case measure => simp [intOf]; omega
      · have HS := Lib.hid (sel_no (f := vf ss us s) (k := k) (by rw [HF.out, if_neg (fun c => hu0 c.1)]))
        have hu1 : u ≤ 0 := by omega
        have HO := Lib.hid hown
        clear hu0 HF hown
        go_wp2
        go_roundw
        case rel => exact ⟨k + 1, _, by omega, by go_num, rfl, by rw [HS.out]; exact HO.out, hW⟩
        case measure => simp [intOf]; omega
    · obtain rfl : k = m := by omega
      obtain ⟨A2, c2, rfl, _⟩ := Gen.own_slice hown
      have HP := Lib.hid (prs_own hown)
      clear hown
      go_wp2
      go_ret2
      obtain rfl : _ = L := by have := H.out; injection this
      obtain rfl : _ = E := by have := H.out; injection this
      exact ⟨A2, c2, rfl, hbw, HP.out⟩
end Go.Proofs.Ytpekedhcnijgcaa.Book
