/- LexErrors returns true: every string; no condition. -/
import Derived.Test.YtmineoilmmifiaaDoorLLxW
namespace Go.Proofs.YtmineoilmmifiaaDoor.Lx
open Go.Lib Go.ChangeShapes Go.WideShapes Go.ChangeAt Go.RowKit Go.Proofs.YtmineoilmmifiaaDoor.Cell
set_option linter.unusedVariables false
set_option linter.unusedSimpArgs false
def slen : Value → Nat
  | .string s => s.size
  | _ => 0
def bl (m : Nat) : List UInt8 := List.replicate m 32
theorem bl_len (m : Nat) : (bl m).length = m := List.length_replicate
theorem bl_size (m : Nat) : (⟨(bl m).toArray⟩ : ByteArray).size = m := by rw [show (⟨(bl m).toArray⟩ : ByteArray).size = (bl m).length from by simp [ByteArray.size], bl_len]
theorem bl_add (m : Nat) : (⟨(bl m).toArray⟩ : ByteArray) ++ ⟨(bl m).toArray⟩ = ⟨(bl (m + m)).toArray⟩ := by
  rw [app_list]
  unfold bl
  rw [List.replicate_append_replicate]
theorem bl_cut {m k : Nat} (h : k ≤ m) : (⟨(bl m).toArray⟩ : ByteArray).extract 0 k = ⟨(bl k).toArray⟩ := str_eq (by
  rw [Lib.extract_data, List.drop_zero, Nat.sub_zero]
  show (bl m).take k = bl k
  unfold bl
  rw [List.take_replicate, Nat.min_eq_left h])
theorem bl_ten : (⟨#[32, 32, 32, 32, 32, 32, 32, 32, 32, 32]⟩ : ByteArray) = ⟨(bl 10).toArray⟩ := rfl
/-- blanks behind a text -/
theorem lx_fill {s : List UInt8} {ts : List Tk} {o : Option (Nat × Int)} (h : Lx 0 s ts o) (k : Nat) : Lx 0 (s ++ bl k) ts o := by
  have hall : ∀ c ∈ bl k, blk c = true := fun c hc => by
    rw [List.eq_of_mem_replicate hc]
    decide
  have hb : Bl (bl k) := fun c r e => hall c (by rw [e]; exact List.mem_cons_self)
  cases o with
  | none =>
    have := (lx_join h hb).1 rfl [] none (lx_blanks hall)
    rwa [List.append_nil] at this
  | some y => exact (lx_join h hb).2 y rfl
section
variable {w : World} {l : List UInt8}
set_option maxRecDepth 100000 in
set_option maxHeartbeats 16000000 in
theorem errors_any (hE : Ev w w) : Calls Tryd.prog 7 #[.string ⟨l.toArray⟩] w fun e w' => e = .returned (.bool true) ∧ Below w.heap.size w w' := by
  obtain ⟨s, hs⟩ : ∃ s, l.take 900 = s := ⟨_, rfl⟩
  have hsl : s.length ≤ 900 := by rw [← hs, List.length_take]; omega
  obtain ⟨ts, o, hx⟩ := lx_ex s.length 0 s (Nat.le_refl _)
  have HE := Lib.hid hE
  have HCut := Lib.hid (fun W => cut_any (W := W) (l := l))
  rw [hs] at HCut
  have HX := Lib.hid hx
  have hlen := lx_len hx
  have hz : (⟨s.toArray⟩ : ByteArray).size = s.length := by simp [ByteArray.size]
  clear hE hs hx
  go_enter Tryd.func7, Tryd.ntmps7
  go_wp2_with (fail)
  go_must (refine (small_any HE.out).mono ?_)
  rintro e w1 ⟨rfl, hb⟩
  have HB := Lib.hid hb
  clear hb
  dsimp only
  go_wp2_with (fail)
  go_must (refine (HCut.out _).mono ?_)
  rintro e w2 ⟨rfl, hw⟩
  have hw := hw.symm
  subst hw
  dsimp only
  go_wp2_with (fail)
  go_must (refine (lex_any (HE.out.keep HB.out) (by omega)).mono ?_)
  intro e w2 h
  cases o with
  | some y =>
    obtain ⟨q, x⟩ := y
    have hx3 := lx_errx HX.out q x rfl
    obtain ⟨rfl, hb⟩ := lexP_err HX.out h
    replace HB := Lib.hid (Gen.over hb HB.out)
    obtain ⟨_, hq, hp1, hp2⟩ := lx_take HX.out rfl
    rw [Nat.sub_zero] at hq hp1 hp2
    have HP1 := Lib.hid hp1
    have HP2 := Lib.hid hp2
    have q0 : (0 : Int) ≤ (q : Int) := by omega
    have q1 : (q : Int) < (s.length : Int) := by omega
    have q2 : (q : Int) ≤ (s.length : Int) := by omega
    have HQ1 : Hid ((⟨s.toArray⟩ : ByteArray).extract 0 q = ⟨(s.take q).toArray⟩) := Lib.hid (str_eq (by rw [Lib.extract_data, List.drop_zero, Nat.sub_zero]))
    have HQ2 : Hid ((⟨s.toArray⟩ : ByteArray).extract q (⟨s.toArray⟩ : ByteArray).size = ⟨(s.drop q).toArray⟩) := Lib.hid (str_eq (by rw [ext_end]))
    rw [hz] at HQ2
    have ht1 : (s.take q).length ≤ 4000 := by rw [List.length_take]; omega
    have ht2 : (s.drop q).length ≤ 4000 := by rw [List.length_drop]; omega
    clear h hb hp1 hp2
    dsimp only
    go_wp2
    rw [bl_ten]
    go_loopw [8] (fun fv wr => ∃ m : Nat, (m = 10 ∨ m = 20 ∨ m = 40 ∨ m = 80 ∨ m = 160 ∨ m = 320 ∨ m = 640 ∨ m = 1280 ∨ m = 2560 ∨ m = 5120) ∧ fv = .string ⟨(bl m).toArray⟩ ∧ wr = w2) (fun fv _ => 8000 - slen fv)
    case atStart => exact ⟨10, by decide, rfl, rfl⟩
    case round =>
      obtain ⟨m, hm1, rfl, hw⟩ := hrel
      have hm2 : 10 ≤ m ∧ m ≤ 5120 := by omega
      have hw := hw.symm
      subst hw
      have hbm := bl_size m
      have hbs := bl_len m
      by_cases hm : m < 4000
      · have hmI : (m : Int) < 4000 := by omega
        have HAD := Lib.hid (bl_add m)
        have HSZ := Lib.hid (bl_size (m + m))
        have HSM := Lib.hid hbm
        go_wp2
        rw [HAD.out]
        go_roundw
        case rel => exact ⟨m + m, by omega, rfl, by first | rfl | trivial⟩
        case measure =>
          show 8000 - (⟨(bl (m + m)).toArray⟩ : ByteArray).size < 8000 - (⟨(bl m).toArray⟩ : ByteArray).size
          rw [HSZ.out, HSM.out]
          omega
      · have hmI : ¬ (m : Int) < 4000 := by omega
        obtain ⟨K, hK⟩ : ∃ K, 4000 - s.length = K := ⟨_, rfl⟩
        obtain ⟨K1, hK1⟩ : ∃ K1, 4001 - s.length = K1 := ⟨_, rfl⟩
        have hwK : IntKind.i64.wrap (4000 - (s.length : Int)) = (K : Int) := by rw [IntWalk.i64_in _ (by omega)]; omega
        have hwK1 : IntKind.i64.wrap (4001 - (s.length : Int)) = (K1 : Int) := by rw [IntWalk.i64_in _ (by omega)]; omega
        have k0 : (0 : Int) ≤ (K : Int) := by omega
        have k1 : (K : Int) ≤ (m : Int) := by omega
        have k2 : (0 : Int) ≤ (K1 : Int) := by omega
        have hm5 : m = 5120 := by omega
        have HC1 : Hid ((⟨(bl m).toArray⟩ : ByteArray).extract 0 K = ⟨(bl K).toArray⟩) := Lib.hid (bl_cut (by omega))
        have HC2 : Hid ((⟨(bl m).toArray⟩ : ByteArray).extract 0 K1 = ⟨(bl K1).toArray⟩) := Lib.hid (bl_cut (by omega))
        have HA1 : Hid ((⟨s.toArray⟩ : ByteArray) ++ ⟨(bl K).toArray⟩ = ⟨(s ++ bl K).toArray⟩) := Lib.hid (app_list _ _)
        have HA2 : Hid ((⟨s.toArray⟩ : ByteArray) ++ ⟨(bl K1).toArray⟩ = ⟨(s ++ bl K1).toArray⟩) := Lib.hid (app_list _ _)
        have HL1 : Hid ((s ++ bl K).length ≤ 4000) := Lib.hid (by rw [List.length_append, bl_len]; omega)
        have HL2 : Hid (4000 < (s ++ bl K1).length) := Lib.hid (by rw [List.length_append, bl_len]; omega)
        have hbK := bl_size K
        have hbsK := bl_len K
        have hbK1 := bl_size K1
        have hbsK1 := bl_len K1
        have k3 : (K1 : Int) ≤ (m : Int) := by omega
        clear hm1 hm5
        go_wp2_with (fail)
        rw [HC1.out, HA1.out]
        go_must (refine (lex_any (HE.out.keep HB.out) HL1.out).mono ?_)
        intro e w3 h
        rcases hx3 with rfl | rfl | rfl
        all_goals
          obtain ⟨rfl, hb⟩ := lexP_err (lx_fill HX.out K) h
          replace HB := Lib.hid (Gen.over hb HB.out)
          clear h hb
          dsimp only
          go_wp2_with (fail)
          rw [HC2.out, HA2.out]
          go_must (refine (lex_full HL2.out).mono ?_)
          rintro e w4 ⟨rfl, hw⟩
          have hw := hw.symm
          subst hw
          dsimp only
          go_wp2_with (fail)
          rw [HQ1.out]
          go_must (refine (lex_any (HE.out.keep HB.out) ht1).mono ?_)
          intro e w5 h
          obtain ⟨⟨A5, c5, rfl, _⟩, hb⟩ := lexP_ok HP1.out h
          replace HB := Lib.hid (Gen.over hb HB.out)
          clear h hb
          dsimp only
          go_wp2_with (fail)
          rw [HQ2.out]
          go_must (refine (lex_any (HE.out.keep HB.out) ht2).mono ?_)
          intro e w6 h
          obtain ⟨rfl, hb⟩ := lexP_err HP2.out h
          replace HB := Lib.hid (Gen.over hb HB.out)
          clear h hb
          dsimp only
          go_wp2
          go_ret
          exact ⟨rfl, HB.out⟩
  | none =>
    obtain ⟨⟨A, c, rfl, ho⟩, hb⟩ := lexP_ok HX.out h
    replace HB := Lib.hid (Gen.over hb HB.out)
    clear h hb ho
    dsimp only
    go_wp2
    rw [bl_ten]
    go_loopw [8] (fun fv wr => ∃ m : Nat, (m = 10 ∨ m = 20 ∨ m = 40 ∨ m = 80 ∨ m = 160 ∨ m = 320 ∨ m = 640 ∨ m = 1280 ∨ m = 2560 ∨ m = 5120) ∧ fv = .string ⟨(bl m).toArray⟩ ∧ wr = w2) (fun fv _ => 8000 - slen fv)
    case atStart => exact ⟨10, by decide, rfl, rfl⟩
    case round =>
      obtain ⟨m, hm1, rfl, hw⟩ := hrel
      have hm2 : 10 ≤ m ∧ m ≤ 5120 := by omega
      have hw := hw.symm
      subst hw
      have hbm := bl_size m
      have hbs := bl_len m
      by_cases hm : m < 4000
      · have hmI : (m : Int) < 4000 := by omega
        have HAD := Lib.hid (bl_add m)
        have HSZ := Lib.hid (bl_size (m + m))
        have HSM := Lib.hid hbm
        go_wp2
        rw [HAD.out]
        go_roundw
        case rel => exact ⟨m + m, by omega, rfl, by first | rfl | trivial⟩
        case measure =>
          show 8000 - (⟨(bl (m + m)).toArray⟩ : ByteArray).size < 8000 - (⟨(bl m).toArray⟩ : ByteArray).size
          rw [HSZ.out, HSM.out]
          omega
      · have hmI : ¬ (m : Int) < 4000 := by omega
        obtain ⟨K, hK⟩ : ∃ K, 4000 - s.length = K := ⟨_, rfl⟩
        obtain ⟨K1, hK1⟩ : ∃ K1, 4001 - s.length = K1 := ⟨_, rfl⟩
        have hwK : IntKind.i64.wrap (4000 - (s.length : Int)) = (K : Int) := by rw [IntWalk.i64_in _ (by omega)]; omega
        have hwK1 : IntKind.i64.wrap (4001 - (s.length : Int)) = (K1 : Int) := by rw [IntWalk.i64_in _ (by omega)]; omega
        have k0 : (0 : Int) ≤ (K : Int) := by omega
        have k1 : (K : Int) ≤ (m : Int) := by omega
        have k2 : (0 : Int) ≤ (K1 : Int) := by omega
        have hm5 : m = 5120 := by omega
        have HC1 : Hid ((⟨(bl m).toArray⟩ : ByteArray).extract 0 K = ⟨(bl K).toArray⟩) := Lib.hid (bl_cut (by omega))
        have HC2 : Hid ((⟨(bl m).toArray⟩ : ByteArray).extract 0 K1 = ⟨(bl K1).toArray⟩) := Lib.hid (bl_cut (by omega))
        have HA1 : Hid ((⟨s.toArray⟩ : ByteArray) ++ ⟨(bl K).toArray⟩ = ⟨(s ++ bl K).toArray⟩) := Lib.hid (app_list _ _)
        have HA2 : Hid ((⟨s.toArray⟩ : ByteArray) ++ ⟨(bl K1).toArray⟩ = ⟨(s ++ bl K1).toArray⟩) := Lib.hid (app_list _ _)
        have HL1 : Hid ((s ++ bl K).length ≤ 4000) := Lib.hid (by rw [List.length_append, bl_len]; omega)
        have HL2 : Hid (4000 < (s ++ bl K1).length) := Lib.hid (by rw [List.length_append, bl_len]; omega)
        have hbK := bl_size K
        have hbsK := bl_len K
        have hbK1 := bl_size K1
        have hbsK1 := bl_len K1
        have k3 : (K1 : Int) ≤ (m : Int) := by omega
        clear hm1 hm5
        go_wp2_with (fail)
        rw [HC1.out, HA1.out]
        go_must (refine (lex_any (HE.out.keep HB.out) HL1.out).mono ?_)
        intro e w3 h
        obtain ⟨⟨A3, c3, rfl, _⟩, hb⟩ := lexP_ok (lx_fill HX.out K) h
        replace HB := Lib.hid (Gen.over hb HB.out)
        clear h hb
        dsimp only
        go_wp2_with (fail)
        rw [HC2.out, HA2.out]
        go_must (refine (lex_full HL2.out).mono ?_)
        rintro e w4 ⟨rfl, hw⟩
        have hw := hw.symm
        subst hw
        dsimp only
        go_wp2
        go_ret
        exact ⟨rfl, HB.out⟩
end
end Go.Proofs.YtmineoilmmifiaaDoor.Lx
