/- Package date: the contracts of Of, at whatever month and day, and of Read. -/
import Derived.Test.YtbfehelhedjgjaaDoorDatT
namespace Go.Proofs.YtbfehelhedjgjaaDoor.Dat
open Go.ChangeShapes Go.WideShapes Go.ChangeAt Go.RowKit Go.Proofs.YtbfehelhedjgjaaDoor.Cell
set_option linter.unusedVariables false
set_option linter.unusedSimpArgs false

/-- the day of a date, or why there is none -/
def ofO (y m d : Int) : Int × Int := if m < 1 ∨ 12 < m ∨ d < 1 ∨ lst y m < d then (0, 23) else ofR y m d
theorem of_any {y m d x e : Int} (w : World) (y0 : 0 ≤ y) (y1 : y ≤ 10000) (h : ofO y m d = (x, e)) :
    Calls Tryd.prog 8 #[.int .i64 y, .int .i64 m, .int .i64 d] w fun e' w' => e' = .returned (.tuple #[.int .i64 x, .int .i64 e]) ∧ w = w' := by
  by_cases hb : m < 1 ∨ 12 < m ∨ d < 1 ∨ lst y m < d
  · unfold ofO at h
    rw [if_pos hb] at h
    obtain rfl : 0 = x := by injection h
    obtain rfl : 23 = e := by injection h
    clear h
    by_cases hd : d < 1
    · clear hb
      go_enter Tryd.func8, Tryd.ntmps8
      go_wp2
      exact bodyPost_ret (v := .tuple #[.int .i64 0, .int .i64 23]) (by simp [results, Tryd.results8, go_sem]) rfl ⟨rfl, rfl⟩
    · obtain ⟨L, hL⟩ : ∃ L, lst y m = L := ⟨_, rfl⟩
      have hl : L < d := by
        rcases hb with c | c | c | c
        · rw [lst_out (.inl c)] at hL; omega
        · rw [lst_out (.inr c)] at hL; omega
        · omega
        · omega
      have hd' : 1 ≤ d := by omega
      have HL := Lib.hid hL
      clear hb hL hd
      go_enter Tryd.func8, Tryd.ntmps8
      go_wp2_with (fail)
      go_must (refine (last_is _ y0 (by omega) HL.out).mono ?_)
      rintro e w1 ⟨rfl, rfl⟩
      go_wp2
      exact bodyPost_ret (v := .tuple #[.int .i64 0, .int .i64 23]) (by simp [results, Tryd.results8, go_sem]) rfl ⟨rfl, rfl⟩
  · unfold ofO at h
    rw [if_neg hb] at h
    exact of_is w y0 y1 (by omega) (by omega) (by omega) (by omega) h

/-- what is read as a number -/
def numL (l : List UInt8) : Nat := l.foldl (fun a c => a * 10 + (c.toNat - 48)) 0
def isDg (c : UInt8) : Bool := decide (48 ≤ c.toNat ∧ c.toNat ≤ 57)
theorem digitVal_of {c : UInt8} (h : isDg c = true) : Lib.digitVal c = some (c.toNat - 48) := by
  have := of_decide_eq_true h
  unfold Lib.digitVal
  simp [UInt8.le_iff_toNat_le]
  omega
theorem decFrom_of : ∀ (l : List UInt8) (a : Nat), (∀ c ∈ l, isDg c = true) → Lib.decFrom a l = some (l.foldl (fun a c => a * 10 + (c.toNat - 48)) a)
  | [], a, _ => rfl
  | c :: l, a, h => by
    unfold Lib.decFrom
    rw [digitVal_of (h c (by simp))]
    exact decFrom_of l _ fun c hc => h c (by simp [hc])
theorem atoi_of {l : List UInt8} (hl : l.length ≤ 18) (h0 : l ≠ []) (h : ∀ c ∈ l, isDg c = true) : Lib.atoiAll l = .ok (numL l : Int) := by
  rw [Lib.atoiAll_short l hl]
  cases l with
  | nil => exact absurd rfl h0
  | cons c r =>
    have hc := of_decide_eq_true (h c (by simp))
    have e1 : (c == 45) = false := by rw [beq_eq_false_iff_ne]; rintro rfl; simp at hc
    have e2 : (c == 43) = false := by rw [beq_eq_false_iff_ne]; rintro rfl; simp at hc
    unfold Lib.atoi
    simp only [e1, e2]
    unfold Lib.decNat
    rw [List.isEmpty_cons, decFrom_of _ _ h]
    rfl
theorem atoi_is {s : ByteArray} {v : Int} (w : World) (hs : s.size ≤ 18) (h : Lib.atoiAll s.data.toList = .ok v) :
    Calls Tryd.prog 28 #[.string s] w fun e w' => e = .returned (.tuple #[.int .i64 v, .nilIface]) ∧ Below w.heap.size w w' :=
  (Tryd.strconv_Atoi_ok s (by omega) v h w).mono fun e w' ⟨he, hw⟩ => ⟨he, by
    rcases hw with rfl | ⟨t, rfl⟩
    · exact Below.refl _ _
    · exact Lib.bytesWorld_below _ _ _⟩
/-- the form of a text of a day, at a place -/
def okc (l : List UInt8) (i : Nat) : Bool := match l[i]? with
  | some c => if i = 4 ∨ i = 7 then decide (c.toNat = 45) else isDg c
  | none => false
def fm (l : List UInt8) : Bool := decide (l.length = 10) && (List.range 10).all (okc l)
def rdO (l : List UInt8) : Int × Int := if fm l = true then ofO (numL (l.take 4)) (numL ((l.drop 5).take 2)) (numL (l.drop 8)) else (0, 2)
theorem fm_no {l : List UInt8} {k : Nat} (hk : k < 10) (h : okc l k = false) : fm l = false := by
  unfold fm
  have : (List.range 10).all (okc l) = false := by
    rw [List.all_eq_false]
    exact ⟨k, List.mem_range.2 hk, by simp [h]⟩
  rw [this, Bool.and_false]
theorem fm_yes {l : List UInt8} (hl : l.length = 10) (h : ∀ k, k < 10 → okc l k = true) : fm l = true := by
  unfold fm
  rw [decide_eq_true hl, List.all_eq_true.2 fun k hk => h k (List.mem_range.1 hk)]
  rfl
theorem fm_in {l : List UInt8} (h : fm l = true) : l.length = 10 ∧ ∀ k, k < 10 → okc l k = true := by
  unfold fm at h
  rw [Bool.and_eq_true] at h
  exact ⟨of_decide_eq_true h.1, fun k hk => List.all_eq_true.1 h.2 k (List.mem_range.2 hk)⟩
theorem rdO_no {l : List UInt8} (h : fm l = false) : rdO l = (0, 2) := by unfold rdO; rw [h]; rfl
theorem num_le (l : List UInt8) (h : ∀ c ∈ l, isDg c = true) (n : Nat) (hn : l.length = n) : numL l < 10 ^ n := by
  have key : ∀ (l : List UInt8) (a : Nat), (∀ c ∈ l, isDg c = true) → l.foldl (fun a c => a * 10 + (c.toNat - 48)) a < (a + 1) * 10 ^ l.length := by
    intro l
    induction l with
    | nil => intro a _; simp
    | cons c l ih =>
      intro a h
      have hc := of_decide_eq_true (h c (by simp))
      have := ih (a * 10 + (c.toNat - 48)) fun c hc => h c (by simp [hc])
      rw [List.foldl_cons, List.length_cons, Nat.pow_succ]
      refine Nat.lt_of_lt_of_le this ?_
      rw [show (a + 1) * (10 ^ l.length * 10) = ((a + 1) * 10) * 10 ^ l.length by rw [Nat.mul_comm (10 ^ l.length) 10, Nat.mul_assoc]]
      exact Nat.mul_le_mul_right _ (by omega)
  have := key l 0 h
  rw [hn] at this
  simpa [numL] using this
theorem dig_mem {l : List UInt8} {a n : Nat} (h : fm l = true) (hh : ∀ i, a ≤ i → i < a + n → i ≠ 4 ∧ i ≠ 7) : ∀ c ∈ (l.drop a).take n, isDg c = true := fun c hc => by
  obtain ⟨hl, hf⟩ := fm_in h
  obtain ⟨j, hj⟩ := List.getElem?_of_mem hc
  have hj1 := lt_of_at hj
  rw [List.length_take, List.length_drop] at hj1
  rw [List.getElem?_take_of_lt (by omega), List.getElem?_drop] at hj
  have := hf (a + j) (by omega)
  unfold okc at this
  rw [hj] at this
  have hn := hh (a + j) (by omega) (by omega)
  simpa [hn.1, hn.2] using this
theorem at_str {s : ByteArray} {l : List UInt8} {k : Nat} (hs : s.data.toList = l) (h : k < s.size) : l[k]? = some s[k] := by
  subst hs
  rw [Array.getElem?_toList]
  exact Array.getElem?_eq_getElem h
theorem ok_snoc {l : List UInt8} {k : Nat} (h : ∀ j, j < k → okc l j = true) (hk : okc l k = true) : ∀ j, j < k + 1 → okc l j = true := fun j hj => by
  by_cases e : j = k
  · rw [e]; exact hk
  · exact h j (by omega)
theorem ok_dash {s : ByteArray} {l : List UInt8} {k : Nat} (hs : s.data.toList = l) (h : k < s.size) (hd : k = 4 ∨ k = 7) : okc l k = decide ((s[k].toNat : Int) = 45) := by
  unfold okc
  rw [at_str hs h]
  simp only [hd, if_true]
  exact decide_eq_decide.2 (by omega)
theorem ok_dig {s : ByteArray} {l : List UInt8} {k : Nat} (hs : s.data.toList = l) (h : k < s.size) (hd : ¬ (k = 4 ∨ k = 7)) : okc l k = decide (48 ≤ (s[k].toNat : Int) ∧ (s[k].toNat : Int) ≤ 57) := by
  unfold okc
  rw [at_str hs h]
  simp only [hd, if_false]
  exact decide_eq_decide.2 (by omega)
theorem rd_no {l : List UInt8} {k : Nat} {x e : Int} (hk : k < 10) (ho : okc l k = false) (h : rdO l = (x, e)) : 0 = x ∧ 2 = e := by
  rw [rdO_no (fm_no hk ho)] at h
  exact ⟨by injection h, by injection h⟩
set_option maxRecDepth 100000 in
set_option maxHeartbeats 4000000 in
theorem read_any {s : ByteArray} {l : List UInt8} {x e : Int} (w : World) (hs : s.data.toList = l) (hbig : s.size ≤ 9223372036854775807) (h : rdO l = (x, e)) :
    Calls Tryd.prog 12 #[.string s] w fun e' w' => e' = .returned (.tuple #[.int .i64 x, .int .i64 e]) ∧ Below w.heap.size w w' := by
  have hsz : s.size = l.length := by rw [← hs]; exact (Array.length_toList).symm
  by_cases h10 : s.size = 10
  case neg =>
    have b1 : ((s.size : Int) != 10) = true := by rw [bne_iff_ne]; omega
    rw [rdO_no (by unfold fm; rw [decide_eq_false (by omega)]; rfl)] at h
    obtain rfl : 0 = x := by injection h
    obtain rfl : 2 = e := by injection h
    clear h h10 hs hsz
    go_enter Tryd.func12, Tryd.ntmps12
    go_wp2
    exact bodyPost_ret (v := .tuple #[.int .i64 0, .int .i64 2]) (by simp [results, Tryd.results12, go_sem]) rfl ⟨rfl, Below.refl _ _⟩
  have b1 : ((s.size : Int) != 10) = false := by rw [h10]; rfl
  have z0 : s.size ≤ 10 := by omega
  have z1 : 10 ≤ s.size := by omega
  have HS := Lib.hid hs
  have HL := Lib.hid (show l.length = 10 by omega)
  have H := Lib.hid h
  have H10 := Lib.hid h10
  clear hs hsz h h10
  go_enter Tryd.func12, Tryd.ntmps12
  go_wp2
  go_loop [17] (fun iv => ∃ k : Nat, k ≤ 10 ∧ iv = .int .i64 k ∧ ∀ j, j < k → okc l j = true) (fun iv => 10 - (intOf iv).toNat)
  case atStart => exact ⟨0, Nat.zero_le _, rfl, fun j hj => absurd hj (by omega)⟩
  case round =>
    obtain ⟨k, hk, rfl, ha⟩ := hrel
    have HA := Lib.hid ha
    clear ha
    by_cases hlt : k < s.size
    · by_cases hd : k = 4 ∨ k = 7
      · have HO := Lib.hid (ok_dash HS.out hlt hd)
        have hk10 : k < 10 := by omega
        rcases hd with rfl | rfl
        all_goals
          go_wp2
          · exact ⟨⟨_, by decide, rfl, ok_snoc HA.out (by rw [HO.out, decide_eq_true (by omega)])⟩, by simp [intOf]⟩
          · obtain ⟨rfl, rfl⟩ := rd_no hk10 (by rw [HO.out, decide_eq_false (by omega)]) H.out
            exact bodyPost_ret (v := .tuple #[.int .i64 0, .int .i64 2]) (by simp [results, Tryd.results12, go_sem]) rfl ⟨rfl, Below.refl _ _⟩
      · have b4 : ((k : Int) == 4) = false := by rw [beq_eq_false_iff_ne]; omega
        have b7 : ((k : Int) == 7) = false := by rw [beq_eq_false_iff_ne]; omega
        have HO := Lib.hid (ok_dig HS.out hlt hd)
        have hk10 : k < 10 := by omega
        clear hd
        by_cases c45 : (s[k].toNat : Int) = 45
        · obtain ⟨rfl, rfl⟩ := rd_no hk10 (by rw [HO.out, decide_eq_false (by omega)]) H.out
          go_wp2
          exact bodyPost_ret (v := .tuple #[.int .i64 0, .int .i64 2]) (by simp [results, Tryd.results12, go_sem]) rfl ⟨rfl, Below.refl _ _⟩
        · have b45 : ((s[k].toNat : Int) == 45) = false := by rw [beq_eq_false_iff_ne]; exact c45
          by_cases hg : 48 ≤ (s[k].toNat : Int) ∧ (s[k].toNat : Int) ≤ 57
          · have hh := Lib.hid (ok_snoc HA.out (by rw [HO.out, decide_eq_true hg]))
            obtain ⟨g1, g2⟩ := hg
            clear c45
            go_wp2
            go_round
            case rel => exact ⟨k + 1, by omega, by go_num, hh.out⟩
            case measure => simp [intOf]; omega
          · obtain ⟨rfl, rfl⟩ := rd_no hk10 (by rw [HO.out, decide_eq_false hg]) H.out
            rcases (show (s[k].toNat : Int) < 48 ∨ (48 ≤ (s[k].toNat : Int) ∧ 57 < (s[k].toNat : Int)) by omega) with g1 | ⟨g1, g2⟩
            all_goals
              clear c45 hg
              go_wp2
              exact bodyPost_ret (v := .tuple #[.int .i64 0, .int .i64 2]) (by simp [results, Tryd.results12, go_sem]) rfl ⟨rfl, Below.refl _ _⟩
    · obtain rfl : k = 10 := by omega
      have hf := fm_yes HL.out HA.out
      have h := H.out
      unfold rdO at h
      rw [if_pos hf] at h
      have d1 := dig_mem (a := 0) (n := 4) hf (fun i _ _ => by omega)
      have d2 := dig_mem (a := 5) (n := 2) hf (fun i _ _ => by omega)
      have d3 := dig_mem (a := 8) (n := 2) hf (fun i _ _ => by omega)
      have L := HL.out
      rw [List.drop_zero] at d1
      have e8 : (l.drop 8).take 2 = l.drop 8 := List.take_of_length_le (by rw [List.length_drop, L]; exact Nat.le_refl _)
      rw [e8] at d3
      have a1 := atoi_of (l := l.take 4) (by rw [List.length_take, L]; decide) (by intro c; have := congrArg List.length c; rw [List.length_take, L] at this; simp at this) d1
      have a2 := atoi_of (l := (l.drop 5).take 2) (by rw [List.length_take, List.length_drop, L]; decide) (by intro c; have := congrArg List.length c; rw [List.length_take, List.length_drop, L] at this; simp at this) d2
      have a3 := atoi_of (l := l.drop 8) (by rw [List.length_drop, L]; decide) (by intro c; have := congrArg List.length c; rw [List.length_drop, L] at this; simp at this) d3
      have y1 := num_le (l.take 4) d1 4 (by rw [List.length_take, L]; rfl)
      obtain ⟨Y, hY⟩ : ∃ Y : Int, (numL (l.take 4) : Int) = Y := ⟨_, rfl⟩
      obtain ⟨M, hM⟩ : ∃ Y : Int, (numL ((l.drop 5).take 2) : Int) = Y := ⟨_, rfl⟩
      obtain ⟨D, hD⟩ : ∃ Y : Int, (numL (l.drop 8) : Int) = Y := ⟨_, rfl⟩
      have Y0 : 0 ≤ Y := by omega
      have Y1 : Y ≤ 10000 := by omega
      rw [hY] at a1 h
      rw [hM] at a2 h
      rw [hD] at a3 h
      have A1 := Lib.hid (show Lib.atoiAll (s.extract 0 4).data.toList = .ok Y from by rw [Lib.extract_data, HS.out]; exact a1)
      have A2 := Lib.hid (show Lib.atoiAll (s.extract 5 7).data.toList = .ok M from by rw [Lib.extract_data, HS.out]; exact a2)
      have A3 := Lib.hid (show Lib.atoiAll (s.extract 8 s.size).data.toList = .ok D from by rw [Lib.extract_data, HS.out, List.take_of_length_le (by rw [List.length_drop, HL.out]; omega)]; exact a3)
      have HH := Lib.hid h
      have q1 : (s.extract 0 4).size ≤ 18 := by rw [ByteArray.size_extract]; omega
      have q2 : (s.extract 5 7).size ≤ 18 := by rw [ByteArray.size_extract]; omega
      have q3 : (s.extract 8 s.size).size ≤ 18 := by rw [ByteArray.size_extract]; omega
      have Q1 := Lib.hid q1
      have Q2 := Lib.hid q2
      have Q3 := Lib.hid q3
      clear hf h d1 d2 d3 L e8 a1 a2 a3 y1 hY hM hD q1 q2 q3
      go_wp2_with (fail)
      go_must (refine (atoi_is _ Q1.out A1.out).mono ?_)
      rintro e w1 ⟨rfl, hb1⟩
      go_wp2_with (fail)
      go_must (refine (atoi_is _ Q2.out A2.out).mono ?_)
      rintro e w2 ⟨rfl, hb2⟩
      have hB2 := Gen.over hb2 hb1
      go_wp2_with (fail)
      go_must (refine (atoi_is _ Q3.out A3.out).mono ?_)
      rintro e w3 ⟨rfl, hb3⟩
      have hB3 := Gen.over hb3 hB2
      go_wp2_with (fail)
      go_must (refine (of_any _ Y0 Y1 HH.out).mono ?_)
      rintro e w4 ⟨rfl, rfl⟩
      go_wp2
      exact bodyPost_ret (v := .tuple #[.int .i64 x, .int .i64 e]) (by simp [results, Tryd.results12, go_sem]) rfl ⟨rfl, hB3⟩
end Go.Proofs.YtbfehelhedjgjaaDoor.Dat
