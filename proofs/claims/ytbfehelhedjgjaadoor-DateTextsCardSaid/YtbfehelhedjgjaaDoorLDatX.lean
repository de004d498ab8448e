/- DateTexts returns true: every two numbers and string; the table of powers of ten as the text lays it. -/
import Derived.Test.YtbfehelhedjgjaaDoorDatX
namespace Go.Proofs.YtbfehelhedjgjaaDoor.Dat
open Go.ChangeShapes Go.WideShapes Go.ChangeAt Go.RowKit Go.Proofs.YtbfehelhedjgjaaDoor.Cell
set_option linter.unusedVariables false
set_option linter.unusedSimpArgs false

theorem lex_ne {l l' : List UInt8} {k : Nat} {x y : UInt8} (h : l.take k = l'.take k) (hx : l[k]? = some x) (hy : l'[k]? = some y) (hne : x ≠ y) : lexB l l' = decide (x.toNat < y.toNat) := by
  rw [lex_same h (Nat.le_of_lt (lt_of_at hx)) (Nat.le_of_lt (lt_of_at hy)), List.drop_eq_getElem_cons (lt_of_at hx), List.drop_eq_getElem_cons (lt_of_at hy), (List.getElem?_eq_some_iff.1 hx).2, (List.getElem?_eq_some_iff.1 hy).2, lexB, if_neg hne]
theorem lex_end {l l' : List UInt8} {k : Nat} (h : l.take k = l'.take k) (h1 : k ≤ l.length) (h2 : k ≤ l'.length) (h3 : k = l.length ∨ k = l'.length) : lexB l l' = decide (l.length < l'.length) := by
  rw [lex_same h h1 h2]
  by_cases e : k = l.length
  · rw [List.drop_of_length_le (by omega)]
    cases hd : l'.drop k with
    | nil =>
      have := congrArg List.length hd
      rw [List.length_drop] at this
      simp at this
      rw [lexB]; symm; exact decide_eq_false (by omega)
    | cons a r =>
      have := congrArg List.length hd
      rw [List.length_drop] at this
      simp at this
      rw [lexB]; symm; exact decide_eq_true (by omega)
  · have e' : k = l'.length := by omega
    rw [List.drop_of_length_le (l := l') (by omega)]
    cases hd : l.drop k with
    | nil =>
      have := congrArg List.length hd
      rw [List.length_drop] at this
      simp at this
      omega
    | cons a r => rw [lexB]; symm; exact decide_eq_false (by omega)
set_option maxRecDepth 100000 in
set_option maxHeartbeats 4000000 in
theorem bl_any {s s' : ByteArray} {l l' : List UInt8} {z : Bool} (w : World) (hs : s.data.toList = l) (hs' : s'.data.toList = l') (hb : s.size ≤ 9223372036854775807) (hb' : s'.size ≤ 9223372036854775807) (h : lexB l l' = z) :
    Calls Tryd.prog 24 #[.string s, .string s'] w fun e w' => e = .returned (.bool z) ∧ Below w.heap.size w w' := by
  have hsz : s.size = l.length := by rw [← hs]; exact (Array.length_toList).symm
  have hsz' : s'.size = l'.length := by rw [← hs']; exact (Array.length_toList).symm
  have HS := Lib.hid hs
  have HS' := Lib.hid hs'
  have HZ := Lib.hid hsz
  have HZ' := Lib.hid hsz'
  have H := Lib.hid h
  clear hs hs' hsz hsz' h
  go_enter Tryd.func24, Tryd.ntmps24
  go_wp2
  go_loopw [5] (fun i wr => ∃ k : Nat, k ≤ s.size ∧ k ≤ s'.size ∧ i = .int .i64 k ∧ Hid (l.take k = l'.take k) ∧ ∃ nq, wr = w.drewN nq) (fun i _ => s.size - (intOf i).toNat)
  case atStart => exact ⟨0, Nat.zero_le _, Nat.zero_le _, rfl, Lib.hid (by simp), 0, rfl⟩
  case round =>
    obtain ⟨k, hk, hk', rfl, HE, nq, rfl⟩ := hrel
    have k0 : (0 : Int) ≤ (k : Int) := by omega
    by_cases h1 : k < s.size
    · by_cases h2 : k < s'.size
      · have hx := at_str HS.out h1
        have hy := at_str HS'.out h2
        have k1 : (k : Int) < (s.size : Int) := by omega
        have k2 : (k : Int) < (s'.size : Int) := by omega
        by_cases hxy : s[k] = s'[k]
        · have HN : Hid (l.take (k + 1) = l'.take (k + 1)) := Lib.hid (by rw [take_snoc hx, take_snoc hy, HE.out, hxy])
          have b1 : ((s[k].toNat : Int) != (s'[k].toNat : Int)) = false := by rw [hxy]; simp
          clear hx hy hxy
          go_wp2
          go_quiet (fail)
          go_wp2
          go_roundw
          case rel => first | exact ⟨k + 1, by omega, by omega, by go_num, HN, _, rfl⟩ | exact ⟨k + 1, by omega, by omega, by go_num, HN⟩
          case measure => simp [intOf]; omega
        · have HN := Lib.hid (lex_ne HE.out hx hy hxy)
          have hne : s[k].toNat ≠ s'[k].toNat := fun c => hxy (UInt8.toNat.inj c)
          have b1 : ((s[k].toNat : Int) != (s'[k].toNat : Int)) = true := by rw [bne_iff_ne]; omega
          clear hx hy hxy hne
          go_wp2
          go_quiet (fail)
          go_wp2
          go_quiet (fail)
          go_wp2
          go_ret
          exact ⟨ret_bool (by rw [← H.out, HN.out]), by first | exact Gen.dN (Gen.dN (Gen.dN (Gen.dN (Gen.dN (Below.refl _ _) _) _) _) _) _ | exact Gen.dN (Gen.dN (Gen.dN (Gen.dN (Below.refl _ _) _) _) _) _ | exact Gen.dN (Gen.dN (Gen.dN (Below.refl _ _) _) _) _ | exact Gen.dN (Gen.dN (Below.refl _ _) _) _⟩
      · have HN := Lib.hid (lex_end HE.out (by rw [← HZ.out]; exact hk) (by rw [← HZ'.out]; exact hk') (.inr (by rw [← HZ'.out]; omega)))
        have h2' : (s'.size : Int) ≤ (k : Int) := by omega
        have h1' : (k : Int) < (s.size : Int) := by omega
        clear h2
        go_wp2
        go_ret
        exact ⟨ret_bool (by rw [← H.out, HN.out, HZ.out, HZ'.out]), Gen.dN (Below.refl _ _) _⟩
    · have HN := Lib.hid (lex_end HE.out (by rw [← HZ.out]; exact hk) (by rw [← HZ'.out]; exact hk') (.inl (by rw [← HZ.out]; omega)))
      have h1' : (s.size : Int) ≤ (k : Int) := by omega
      clear h1
      go_wp2
      go_ret
      exact ⟨ret_bool (by rw [← H.out, HN.out, HZ.out, HZ'.out]), Gen.dN (Below.refl _ _) _⟩
theorem text_x {day y : Int} {m : Nat} {d : Int} {s : ByteArray} (w : World) (h0 : 0 ≤ day) (h1 : day ≤ 200000) (hp : Pt day y m d) (hT : PowTab w) (hs : str (tx y m d) = s) :
    Calls Tryd.prog 20 #[.int .i64 day] w fun e w' => e = .returned (.string s) ∧ Below w.heap.size w w' := by
  have hh := text_is w h0 h1 hp hT
  rw [hs] at hh
  exact hh
theorem str_of {s : ByteArray} {l : List UInt8} (h : s.data.toList = l) : str l = s := by
  subst h
  unfold str
  simp
/-- what Read says of a string: it has this text, or nothing was read -/
def RdOk (l : List UInt8) (x e : Int) : Prop := (e = 0 ∧ ∃ y m d, Pt x y m d ∧ 0 ≤ x ∧ x ≤ 200000 ∧ l = tx y m d) ∨ ((e == 0) = false ∧ x = 0)
theorem ofO_bad {y m d x e : Int} (h : ofO y m d = (x, e)) (he : e ≠ 0) : x = 0 := by
  unfold ofO at h
  split at h
  · injection h with h1 _; exact h1.symm
  · unfold ofR at h
    split at h
    · injection h with _ h2; exact absurd h2.symm he
    · injection h with h1 _; exact h1.symm
theorem rd_ok {l : List UInt8} {x e : Int} (h : rdO l = (x, e)) : RdOk l x e := by
  by_cases he : e = 0
  · subst he
    exact .inl ⟨rfl, rd_back h⟩
  · refine .inr ⟨by rw [beq_eq_false_iff_ne]; exact he, ?_⟩
    unfold rdO at h
    split at h
    · exact ofO_bad h he
    · injection h with h1 _; exact h1.symm
set_option maxRecDepth 100000 in
set_option maxHeartbeats 4000000 in
theorem dt_00 (a b : Int) (s : ByteArray) (l : List UInt8) (x e : Int) (w : World) (hT : PowTab w) (hs : s.data.toList = l) (hb : s.size ≤ 9223372036854775807) (h : rdO l = (x, e)) (he : (e == 0) = false) (hx : x = 0) (ha : a < 0) :
    Calls Tryd.prog 6 #[.int .i64 a, .int .i64 b, .string s] w fun e w' => e = .returned (.bool true) ∧ Below w.heap.size w w' := by
  have HT := Lib.hid hT
  have HS := Lib.hid hs
  have H := Lib.hid h
  have he2 : (e != 0) = true := by rw [bne_iff_ne]; simpa using he
  subst hx
  have HA := Lib.hid (show ¬ (0 ≤ a ∧ a ≤ 200000) by omega)
  clear hT hs h
  go_enter Tryd.func6, Tryd.ntmps6
  go_wp2_with (fail)
  go_must (refine (small_any _ HT.out).mono ?_)
  rintro e w1 ⟨rfl, hb1⟩
  have HT1 := Lib.hid (HT.out.keep hb1)
  go_wp2_with (fail)
  go_must (refine (read_any _ HS.out hb H.out).mono ?_)
  rintro e w2 ⟨rfl, hb2⟩
  have HT2 := Lib.hid (HT1.out.keep hb2)
  have hB2 := Gen.over hb2 hb1
  go_wp2_with (fail)
  go_must (refine (text_no _ HA.out).mono ?_)
  rintro e w4 ⟨rfl, rfl⟩
  go_wp2
  go_ret
  exact ⟨rfl, hB2⟩
set_option maxRecDepth 100000 in
set_option maxHeartbeats 4000000 in
theorem dt_01 (a b : Int) (s : ByteArray) (l : List UInt8) (x e : Int) (w : World) (hT : PowTab w) (hs : s.data.toList = l) (hb : s.size ≤ 9223372036854775807) (h : rdO l = (x, e)) (he : (e == 0) = false) (hx : x = 0) (ya : Int) (ma : Nat) (da : Int) (ha0 : 0 ≤ a) (ha1 : a ≤ 200000) (hpa : Pt a ya ma da) (hb0 : ¬ (0 ≤ b ∧ b ≤ 200000)) :
    Calls Tryd.prog 6 #[.int .i64 a, .int .i64 b, .string s] w fun e w' => e = .returned (.bool true) ∧ Below w.heap.size w w' := by
  have HT := Lib.hid hT
  have HS := Lib.hid hs
  have H := Lib.hid h
  have he2 : (e != 0) = true := by rw [bne_iff_ne]; simpa using he
  subst hx
  have HPA := Lib.hid hpa
  obtain ⟨t, ht⟩ : ∃ t, str (tx ya ma da) = t := ⟨_, rfl⟩
  have htl : t.data.toList = tx ya ma da := by rw [← ht]; unfold str; simp
  have tz : t.size = 10 := by rw [← ht, str_size]; rfl
  have t10 : t.size ≤ 10 := by omega
  have t11 : 10 ≤ t.size := by omega
  have tne : t.toList.isEmpty = false := by rw [Lib.toList_data, htl]; rfl
  have HTX := Lib.hid ht
  have HTL := Lib.hid htl
  have HRD := Lib.hid (tx_read hpa ha0 ha1)
  have HBB := Lib.hid hb0
  clear hT hs h hpa ht htl tz hb0
  go_enter Tryd.func6, Tryd.ntmps6
  go_wp2_with (fail)
  go_must (refine (small_any _ HT.out).mono ?_)
  rintro e w1 ⟨rfl, hb1⟩
  have HT1 := Lib.hid (HT.out.keep hb1)
  go_wp2_with (fail)
  go_must (refine (read_any _ HS.out hb H.out).mono ?_)
  rintro e w2 ⟨rfl, hb2⟩
  have HT2 := Lib.hid (HT1.out.keep hb2)
  have hB2 := Gen.over hb2 hb1
  go_wp2_with (fail)
  go_must (refine (text_x _ ha0 ha1 HPA.out HT2.out HTX.out).mono ?_)
  rintro e w4 ⟨rfl, hb4⟩
  have HT4 := Lib.hid (HT2.out.keep hb4)
  have hB4 := Gen.over hb4 hB2
  go_wp2_with (fail)
  go_must (refine (read_any _ HTL.out (by omega) HRD.out).mono ?_)
  rintro e w5 ⟨rfl, hb5⟩
  have HT5 := Lib.hid (HT4.out.keep hb5)
  have hB5 := Gen.over hb5 hB4
  go_wp2_with (fail)
  go_must (refine (text_no _ HBB.out).mono ?_)
  rintro e w6 ⟨rfl, rfl⟩
  go_wp2
  go_ret
  exact ⟨rfl, hB5⟩
set_option maxRecDepth 100000 in
set_option maxHeartbeats 4000000 in
theorem dt_02 (a b : Int) (s : ByteArray) (l : List UInt8) (x e : Int) (w : World) (hT : PowTab w) (hs : s.data.toList = l) (hb : s.size ≤ 9223372036854775807) (h : rdO l = (x, e)) (he : (e == 0) = false) (hx : x = 0) (ya : Int) (ma : Nat) (da : Int) (ha0 : 0 ≤ a) (ha1 : a ≤ 200000) (hpa : Pt a ya ma da) (yb : Int) (mb : Nat) (db : Int) (hb0 : 0 ≤ b) (hbb1 : b ≤ 200000) (hpb : Pt b yb mb db) :
    Calls Tryd.prog 6 #[.int .i64 a, .int .i64 b, .string s] w fun e w' => e = .returned (.bool true) ∧ Below w.heap.size w w' := by
  have HT := Lib.hid hT
  have HS := Lib.hid hs
  have H := Lib.hid h
  have he2 : (e != 0) = true := by rw [bne_iff_ne]; simpa using he
  subst hx
  have HPA := Lib.hid hpa
  obtain ⟨t, ht⟩ : ∃ t, str (tx ya ma da) = t := ⟨_, rfl⟩
  have htl : t.data.toList = tx ya ma da := by rw [← ht]; unfold str; simp
  have tz : t.size = 10 := by rw [← ht, str_size]; rfl
  have t10 : t.size ≤ 10 := by omega
  have t11 : 10 ≤ t.size := by omega
  have tne : t.toList.isEmpty = false := by rw [Lib.toList_data, htl]; rfl
  have HTX := Lib.hid ht
  have HTL := Lib.hid htl
  have HRD := Lib.hid (tx_read hpa ha0 ha1)
  have HPB := Lib.hid hpb
  obtain ⟨u, hu⟩ : ∃ t, str (tx yb mb db) = t := ⟨_, rfl⟩
  have hul : u.data.toList = tx yb mb db := by rw [← hu]; unfold str; simp
  have uz : u.size ≤ 10 := by rw [← hu, str_size]; exact Nat.le_refl _
  have une : u.toList.isEmpty = false := by rw [Lib.toList_data, hul]; rfl
  have HUX := Lib.hid hu
  have HUL := Lib.hid hul
  have HLX := Lib.hid (lex_tx hpa hpb ha0 ha1 hb0 hbb1)
  clear hT hs h hpa ht htl tz hpb hu hul
  go_enter Tryd.func6, Tryd.ntmps6
  go_wp2_with (fail)
  go_must (refine (small_any _ HT.out).mono ?_)
  rintro e w1 ⟨rfl, hb1⟩
  have HT1 := Lib.hid (HT.out.keep hb1)
  go_wp2_with (fail)
  go_must (refine (read_any _ HS.out hb H.out).mono ?_)
  rintro e w2 ⟨rfl, hb2⟩
  have HT2 := Lib.hid (HT1.out.keep hb2)
  have hB2 := Gen.over hb2 hb1
  go_wp2_with (fail)
  go_must (refine (text_x _ ha0 ha1 HPA.out HT2.out HTX.out).mono ?_)
  rintro e w4 ⟨rfl, hb4⟩
  have HT4 := Lib.hid (HT2.out.keep hb4)
  have hB4 := Gen.over hb4 hB2
  go_wp2_with (fail)
  go_must (refine (read_any _ HTL.out (by omega) HRD.out).mono ?_)
  rintro e w5 ⟨rfl, hb5⟩
  have HT5 := Lib.hid (HT4.out.keep hb5)
  have hB5 := Gen.over hb5 hB4
  go_wp2_with (fail)
  go_must (refine (text_x _ hb0 hbb1 HPB.out HT5.out HUX.out).mono ?_)
  rintro e w6 ⟨rfl, hb6⟩
  have hB6 := Gen.over hb6 hB5
  go_wp2_with (fail)
  go_must (refine (bl_any _ HTL.out HUL.out (by omega) (by omega) HLX.out).mono ?_)
  rintro e w7 ⟨rfl, hb7⟩
  have hB7 := Gen.over hb7 hB6
  go_wp2
  go_ret
  exact ⟨rfl, hB7⟩
set_option maxRecDepth 100000 in
set_option maxHeartbeats 4000000 in
theorem dt_03 (a b : Int) (s : ByteArray) (l : List UInt8) (x e : Int) (w : World) (hT : PowTab w) (hs : s.data.toList = l) (hb : s.size ≤ 9223372036854775807) (h : rdO l = (x, e)) (he : (e == 0) = false) (hx : x = 0) (ha : 0 ≤ a) (ha2 : 200000 < a) :
    Calls Tryd.prog 6 #[.int .i64 a, .int .i64 b, .string s] w fun e w' => e = .returned (.bool true) ∧ Below w.heap.size w w' := by
  have HT := Lib.hid hT
  have HS := Lib.hid hs
  have H := Lib.hid h
  have he2 : (e != 0) = true := by rw [bne_iff_ne]; simpa using he
  subst hx
  have HA := Lib.hid (show ¬ (0 ≤ a ∧ a ≤ 200000) by omega)
  clear hT hs h
  go_enter Tryd.func6, Tryd.ntmps6
  go_wp2_with (fail)
  go_must (refine (small_any _ HT.out).mono ?_)
  rintro e w1 ⟨rfl, hb1⟩
  have HT1 := Lib.hid (HT.out.keep hb1)
  go_wp2_with (fail)
  go_must (refine (read_any _ HS.out hb H.out).mono ?_)
  rintro e w2 ⟨rfl, hb2⟩
  have HT2 := Lib.hid (HT1.out.keep hb2)
  have hB2 := Gen.over hb2 hb1
  go_wp2_with (fail)
  go_must (refine (text_no _ HA.out).mono ?_)
  rintro e w4 ⟨rfl, rfl⟩
  go_wp2
  go_ret
  exact ⟨rfl, hB2⟩
set_option maxRecDepth 100000 in
set_option maxHeartbeats 4000000 in
theorem dt_10 (a b : Int) (s : ByteArray) (l : List UInt8) (x e : Int) (w : World) (hT : PowTab w) (hs : s.data.toList = l) (hb : s.size ≤ 9223372036854775807) (h : rdO l = (x, e)) (he : e = 0) (y m d : Int) (mn : Nat) (hx0 : 0 ≤ x) (hx1 : x ≤ 200000) (hp : Pt x y mn d) (hl : l = tx y mn d) (ha : a < 0) :
    Calls Tryd.prog 6 #[.int .i64 a, .int .i64 b, .string s] w fun e w' => e = .returned (.bool true) ∧ Below w.heap.size w w' := by
  have HT := Lib.hid hT
  have HS := Lib.hid hs
  have H := Lib.hid h
  subst he
  have HP := Lib.hid hp
  have HST := Lib.hid (show str (tx y mn d) = s from by rw [← hl]; exact str_of hs)
  have HA := Lib.hid (show ¬ (0 ≤ a ∧ a ≤ 200000) by omega)
  clear hT hs h hp hl
  go_enter Tryd.func6, Tryd.ntmps6
  go_wp2_with (fail)
  go_must (refine (small_any _ HT.out).mono ?_)
  rintro e w1 ⟨rfl, hb1⟩
  have HT1 := Lib.hid (HT.out.keep hb1)
  go_wp2_with (fail)
  go_must (refine (read_any _ HS.out hb H.out).mono ?_)
  rintro e w2 ⟨rfl, hb2⟩
  have HT2 := Lib.hid (HT1.out.keep hb2)
  have hB2 := Gen.over hb2 hb1
  go_wp2_with (fail)
  go_must (refine (text_x _ hx0 hx1 HP.out HT2.out HST.out).mono ?_)
  rintro e w3 ⟨rfl, hb3⟩
  have HT2 := Lib.hid (HT2.out.keep hb3)
  have hB2 := Gen.over hb3 hB2
  go_wp2_with (fail)
  go_must (refine (text_no _ HA.out).mono ?_)
  rintro e w4 ⟨rfl, rfl⟩
  go_wp2
  go_ret
  exact ⟨rfl, hB2⟩
set_option maxRecDepth 100000 in
set_option maxHeartbeats 4000000 in
theorem dt_11 (a b : Int) (s : ByteArray) (l : List UInt8) (x e : Int) (w : World) (hT : PowTab w) (hs : s.data.toList = l) (hb : s.size ≤ 9223372036854775807) (h : rdO l = (x, e)) (he : e = 0) (y m d : Int) (mn : Nat) (hx0 : 0 ≤ x) (hx1 : x ≤ 200000) (hp : Pt x y mn d) (hl : l = tx y mn d) (ya : Int) (ma : Nat) (da : Int) (ha0 : 0 ≤ a) (ha1 : a ≤ 200000) (hpa : Pt a ya ma da) (hb0 : ¬ (0 ≤ b ∧ b ≤ 200000)) :
    Calls Tryd.prog 6 #[.int .i64 a, .int .i64 b, .string s] w fun e w' => e = .returned (.bool true) ∧ Below w.heap.size w w' := by
  have HT := Lib.hid hT
  have HS := Lib.hid hs
  have H := Lib.hid h
  subst he
  have HP := Lib.hid hp
  have HST := Lib.hid (show str (tx y mn d) = s from by rw [← hl]; exact str_of hs)
  have HPA := Lib.hid hpa
  obtain ⟨t, ht⟩ : ∃ t, str (tx ya ma da) = t := ⟨_, rfl⟩
  have htl : t.data.toList = tx ya ma da := by rw [← ht]; unfold str; simp
  have tz : t.size = 10 := by rw [← ht, str_size]; rfl
  have t10 : t.size ≤ 10 := by omega
  have t11 : 10 ≤ t.size := by omega
  have tne : t.toList.isEmpty = false := by rw [Lib.toList_data, htl]; rfl
  have HTX := Lib.hid ht
  have HTL := Lib.hid htl
  have HRD := Lib.hid (tx_read hpa ha0 ha1)
  have HBB := Lib.hid hb0
  clear hT hs h hp hl hpa ht htl tz hb0
  go_enter Tryd.func6, Tryd.ntmps6
  go_wp2_with (fail)
  go_must (refine (small_any _ HT.out).mono ?_)
  rintro e w1 ⟨rfl, hb1⟩
  have HT1 := Lib.hid (HT.out.keep hb1)
  go_wp2_with (fail)
  go_must (refine (read_any _ HS.out hb H.out).mono ?_)
  rintro e w2 ⟨rfl, hb2⟩
  have HT2 := Lib.hid (HT1.out.keep hb2)
  have hB2 := Gen.over hb2 hb1
  go_wp2_with (fail)
  go_must (refine (text_x _ hx0 hx1 HP.out HT2.out HST.out).mono ?_)
  rintro e w3 ⟨rfl, hb3⟩
  have HT2 := Lib.hid (HT2.out.keep hb3)
  have hB2 := Gen.over hb3 hB2
  go_wp2_with (fail)
  go_must (refine (text_x _ ha0 ha1 HPA.out HT2.out HTX.out).mono ?_)
  rintro e w4 ⟨rfl, hb4⟩
  have HT4 := Lib.hid (HT2.out.keep hb4)
  have hB4 := Gen.over hb4 hB2
  go_wp2_with (fail)
  go_must (refine (read_any _ HTL.out (by omega) HRD.out).mono ?_)
  rintro e w5 ⟨rfl, hb5⟩
  have HT5 := Lib.hid (HT4.out.keep hb5)
  have hB5 := Gen.over hb5 hB4
  go_wp2_with (fail)
  go_must (refine (text_no _ HBB.out).mono ?_)
  rintro e w6 ⟨rfl, rfl⟩
  go_wp2
  go_ret
  exact ⟨rfl, hB5⟩
set_option maxRecDepth 100000 in
set_option maxHeartbeats 4000000 in
theorem dt_12 (a b : Int) (s : ByteArray) (l : List UInt8) (x e : Int) (w : World) (hT : PowTab w) (hs : s.data.toList = l) (hb : s.size ≤ 9223372036854775807) (h : rdO l = (x, e)) (he : e = 0) (y m d : Int) (mn : Nat) (hx0 : 0 ≤ x) (hx1 : x ≤ 200000) (hp : Pt x y mn d) (hl : l = tx y mn d) (ya : Int) (ma : Nat) (da : Int) (ha0 : 0 ≤ a) (ha1 : a ≤ 200000) (hpa : Pt a ya ma da) (yb : Int) (mb : Nat) (db : Int) (hb0 : 0 ≤ b) (hbb1 : b ≤ 200000) (hpb : Pt b yb mb db) :
    Calls Tryd.prog 6 #[.int .i64 a, .int .i64 b, .string s] w fun e w' => e = .returned (.bool true) ∧ Below w.heap.size w w' := by
  have HT := Lib.hid hT
  have HS := Lib.hid hs
  have H := Lib.hid h
  subst he
  have HP := Lib.hid hp
  have HST := Lib.hid (show str (tx y mn d) = s from by rw [← hl]; exact str_of hs)
  have HPA := Lib.hid hpa
  obtain ⟨t, ht⟩ : ∃ t, str (tx ya ma da) = t := ⟨_, rfl⟩
  have htl : t.data.toList = tx ya ma da := by rw [← ht]; unfold str; simp
  have tz : t.size = 10 := by rw [← ht, str_size]; rfl
  have t10 : t.size ≤ 10 := by omega
  have t11 : 10 ≤ t.size := by omega
  have tne : t.toList.isEmpty = false := by rw [Lib.toList_data, htl]; rfl
  have HTX := Lib.hid ht
  have HTL := Lib.hid htl
  have HRD := Lib.hid (tx_read hpa ha0 ha1)
  have HPB := Lib.hid hpb
  obtain ⟨u, hu⟩ : ∃ t, str (tx yb mb db) = t := ⟨_, rfl⟩
  have hul : u.data.toList = tx yb mb db := by rw [← hu]; unfold str; simp
  have uz : u.size ≤ 10 := by rw [← hu, str_size]; exact Nat.le_refl _
  have une : u.toList.isEmpty = false := by rw [Lib.toList_data, hul]; rfl
  have HUX := Lib.hid hu
  have HUL := Lib.hid hul
  have HLX := Lib.hid (lex_tx hpa hpb ha0 ha1 hb0 hbb1)
  clear hT hs h hp hl hpa ht htl tz hpb hu hul
  go_enter Tryd.func6, Tryd.ntmps6
  go_wp2_with (fail)
  go_must (refine (small_any _ HT.out).mono ?_)
  rintro e w1 ⟨rfl, hb1⟩
  have HT1 := Lib.hid (HT.out.keep hb1)
  go_wp2_with (fail)
  go_must (refine (read_any _ HS.out hb H.out).mono ?_)
  rintro e w2 ⟨rfl, hb2⟩
  have HT2 := Lib.hid (HT1.out.keep hb2)
  have hB2 := Gen.over hb2 hb1
  go_wp2_with (fail)
  go_must (refine (text_x _ hx0 hx1 HP.out HT2.out HST.out).mono ?_)
  rintro e w3 ⟨rfl, hb3⟩
  have HT2 := Lib.hid (HT2.out.keep hb3)
  have hB2 := Gen.over hb3 hB2
  go_wp2_with (fail)
  go_must (refine (text_x _ ha0 ha1 HPA.out HT2.out HTX.out).mono ?_)
  rintro e w4 ⟨rfl, hb4⟩
  have HT4 := Lib.hid (HT2.out.keep hb4)
  have hB4 := Gen.over hb4 hB2
  go_wp2_with (fail)
  go_must (refine (read_any _ HTL.out (by omega) HRD.out).mono ?_)
  rintro e w5 ⟨rfl, hb5⟩
  have HT5 := Lib.hid (HT4.out.keep hb5)
  have hB5 := Gen.over hb5 hB4
  go_wp2_with (fail)
  go_must (refine (text_x _ hb0 hbb1 HPB.out HT5.out HUX.out).mono ?_)
  rintro e w6 ⟨rfl, hb6⟩
  have hB6 := Gen.over hb6 hB5
  go_wp2_with (fail)
  go_must (refine (bl_any _ HTL.out HUL.out (by omega) (by omega) HLX.out).mono ?_)
  rintro e w7 ⟨rfl, hb7⟩
  have hB7 := Gen.over hb7 hB6
  go_wp2
  go_ret
  exact ⟨rfl, hB7⟩
set_option maxRecDepth 100000 in
set_option maxHeartbeats 4000000 in
theorem dt_13 (a b : Int) (s : ByteArray) (l : List UInt8) (x e : Int) (w : World) (hT : PowTab w) (hs : s.data.toList = l) (hb : s.size ≤ 9223372036854775807) (h : rdO l = (x, e)) (he : e = 0) (y m d : Int) (mn : Nat) (hx0 : 0 ≤ x) (hx1 : x ≤ 200000) (hp : Pt x y mn d) (hl : l = tx y mn d) (ha : 0 ≤ a) (ha2 : 200000 < a) :
    Calls Tryd.prog 6 #[.int .i64 a, .int .i64 b, .string s] w fun e w' => e = .returned (.bool true) ∧ Below w.heap.size w w' := by
  have HT := Lib.hid hT
  have HS := Lib.hid hs
  have H := Lib.hid h
  subst he
  have HP := Lib.hid hp
  have HST := Lib.hid (show str (tx y mn d) = s from by rw [← hl]; exact str_of hs)
  have HA := Lib.hid (show ¬ (0 ≤ a ∧ a ≤ 200000) by omega)
  clear hT hs h hp hl
  go_enter Tryd.func6, Tryd.ntmps6
  go_wp2_with (fail)
  go_must (refine (small_any _ HT.out).mono ?_)
  rintro e w1 ⟨rfl, hb1⟩
  have HT1 := Lib.hid (HT.out.keep hb1)
  go_wp2_with (fail)
  go_must (refine (read_any _ HS.out hb H.out).mono ?_)
  rintro e w2 ⟨rfl, hb2⟩
  have HT2 := Lib.hid (HT1.out.keep hb2)
  have hB2 := Gen.over hb2 hb1
  go_wp2_with (fail)
  go_must (refine (text_x _ hx0 hx1 HP.out HT2.out HST.out).mono ?_)
  rintro e w3 ⟨rfl, hb3⟩
  have HT2 := Lib.hid (HT2.out.keep hb3)
  have hB2 := Gen.over hb3 hB2
  go_wp2_with (fail)
  go_must (refine (text_no _ HA.out).mono ?_)
  rintro e w4 ⟨rfl, rfl⟩
  go_wp2
  go_ret
  exact ⟨rfl, hB2⟩
theorem dtexts_any (a b : Int) (s : ByteArray) (w : World) (hT : PowTab w) (hb : s.size ≤ 9223372036854775807) :
    Calls Tryd.prog 6 #[.int .i64 a, .int .i64 b, .string s] w fun e w' => e = .returned (.bool true) ∧ Below w.heap.size w w' := by
  obtain ⟨x, e, h⟩ : ∃ x e, rdO s.data.toList = (x, e) := ⟨_, _, rfl⟩
  by_cases ha : 0 ≤ a ∧ a ≤ 200000
  · obtain ⟨ya, ma, da, hpa⟩ := pt_ex a ha.1 ha.2
    by_cases hbb : 0 ≤ b ∧ b ≤ 200000
    · obtain ⟨yb, mb, db, hpb⟩ := pt_ex b hbb.1 hbb.2
      rcases rd_ok h with ⟨rfl, y, m, d, hp, x0, x1, hl⟩ | ⟨he, rfl⟩
      · exact dt_12 a b s _ x 0 w hT rfl hb h rfl y 0 d m x0 x1 hp hl ya ma da ha.1 ha.2 hpa yb mb db hbb.1 hbb.2 hpb
      · exact dt_02 a b s _ 0 e w hT rfl hb h he rfl ya ma da ha.1 ha.2 hpa yb mb db hbb.1 hbb.2 hpb
    · rcases rd_ok h with ⟨rfl, y, m, d, hp, x0, x1, hl⟩ | ⟨he, rfl⟩
      · exact dt_11 a b s _ x 0 w hT rfl hb h rfl y 0 d m x0 x1 hp hl ya ma da ha.1 ha.2 hpa hbb
      · exact dt_01 a b s _ 0 e w hT rfl hb h he rfl ya ma da ha.1 ha.2 hpa hbb
  · rcases rd_ok h with ⟨rfl, y, m, d, hp, x0, x1, hl⟩ | ⟨he, rfl⟩
    · by_cases hn : a < 0
      · exact dt_10 a b s _ x 0 w hT rfl hb h rfl y 0 d m x0 x1 hp hl hn
      · exact dt_13 a b s _ x 0 w hT rfl hb h rfl y 0 d m x0 x1 hp hl (by omega) (by omega)
    · by_cases hn : a < 0
      · exact dt_00 a b s _ 0 e w hT rfl hb h he rfl hn
      · exact dt_03 a b s _ 0 e w hT rfl hb h he rfl (by omega) (by omega)
end Go.Proofs.YtbfehelhedjgjaaDoor.Dat
