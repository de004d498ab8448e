/- Fractions: texts, read and written; the text of what is not right. -/
import Derived.Test.YtnifkianjpjahaaGreatDoorFrM
namespace Go.Proofs.YtnifkianjpjahaaGreatDoor.Bg
open Go.ChangeShapes Go.WideShapes Go.ChangeAt Go.RowKit Go.Proofs.YtnifkianjpjahaaGreatDoor.Cell
set_option linter.unusedVariables false
set_option linter.unusedSimpArgs false
variable {N0 : Nat}

theorem rd_zero {s : List UInt8} (h : rdE s = 0) : ∃ z, rd s = some z ∧ rdV s = z ∧ Fit z := by
  unfold rdE at h
  unfold rdV
  cases hr : rd s with
  | none => rw [hr] at h; exact absurd h (by decide)
  | some z =>
    rw [hr] at h
    have hf : Fit z := by
      refine Classical.byContradiction fun hn => ?_
      have h1 : fe z = 0 := h
      unfold fe at h1
      rw [if_neg hn] at h1
      exact absurd h1 (by decide)
    exact ⟨z, rfl, fz_yes hf, hf⟩
theorem fOk_text {s : List UInt8} (h : fOk s) : ftxt (rdV (fa s)) (rdV (fb s)) = s := by
  obtain ⟨h1, h2, _⟩ := h
  obtain ⟨a, ra, va, _⟩ := rd_zero h1
  obtain ⟨b, rb, vb, _⟩ := rd_zero h2
  have ta := txt_rd ra
  have tb := txt_rd rb
  unfold ftxt
  rw [va, vb, ta, tb]
  unfold fa fb Lib.cut at *
  by_cases h0 : 0 ≤ Lib.index s [47]
  · simp only [if_pos h0, List.length_cons, List.length_nil] at *
    rw [Lib.index_one] at *
    obtain ⟨o, ho⟩ : ∃ o : Nat, Lib.indexByte s 47 = o := ⟨_, (Int.toNat_of_nonneg h0).symm⟩
    obtain ⟨h3, _⟩ := Lib.indexByte_some ho
    rw [ho]
    simp only [Int.toNat_natCast, Nat.zero_add]
    obtain ⟨hl, h4⟩ := List.getElem?_eq_some_iff.1 h3
    have h5 : s.drop o = 47 :: s.drop (o + 1) := by rw [← h4]; exact List.drop_eq_getElem_cons hl
    rw [← h5, List.take_append_drop]
  · simp only [if_neg h0] at *
    exact absurd h2 (by decide)
theorem txt_no47 (z : Int) (k : Nat) : (txt z)[k]? ≠ some 47 := fun e => by
  have hd : ∀ (n k : Nat), (Lib.decDigits n)[k]? ≠ some 47 := fun n k e => by
    have h1 := List.all_eq_true.1 (dec_all n) 47 (List.mem_of_getElem? e)
    exact absurd h1 (by decide)
  unfold txt at e
  split at e
  · cases k with
    | zero => simp at e
    | succ k => exact hd _ k (by simpa using e)
  · exact hd _ k e
theorem cut_ftxt (p q : Int) : fa (ftxt p q) = txt p ∧ fb (ftxt p q) = txt q := by
  have hat : (ftxt p q)[(txt p).length]? = some 47 := by
    unfold ftxt
    rw [List.getElem?_append_right (Nat.le_refl _), Nat.sub_self]
    rfl
  have hix : Lib.index (ftxt p q) [47] = ((txt p).length : Int) := by
    rw [Lib.index_one]
    have h1 := Lib.index_ge (ftxt p q) [47]
    rw [Lib.index_one] at h1
    by_cases h0 : 0 ≤ Lib.indexByte (ftxt p q) 47
    · obtain ⟨o, ho⟩ : ∃ o : Nat, Lib.indexByte (ftxt p q) 47 = o := ⟨_, (Int.toNat_of_nonneg h0).symm⟩
      obtain ⟨h3, h4⟩ := Lib.indexByte_some ho
      have h5 : ¬ (txt p).length < o := fun hc => h4 _ hc hat
      have h6 : ¬ o < (txt p).length := fun hc => by
        unfold ftxt at h3
        rw [List.getElem?_append_left hc] at h3
        exact txt_no47 p o h3
      rw [ho]
      omega
    · exact absurd hat (Lib.indexByte_none (by omega) _)
  unfold fa fb Lib.cut
  rw [hix, if_pos (by omega)]
  simp only [Int.toNat_natCast, List.length_cons, List.length_nil, Nat.zero_add]
  unfold ftxt
  refine ⟨List.take_left' rfl, ?_⟩
  rw [List.drop_append, List.drop_of_length_le (by omega)]
  simp
theorem rd_back {z : Int} (h : Fit z) : rdE (txt z) = 0 ∧ rdV (txt z) = z := by
  unfold rdE rdV
  rw [rd_txt]
  exact ⟨fe_yes h, fz_yes h⟩
theorem ftxt_ok {p q : Int} (r : Rt p q) (hp : Fit p) (hq : Fit q) : fOk (ftxt p q) ∧ rdV (fa (ftxt p q)) = p ∧ rdV (fb (ftxt p q)) = q := by
  obtain ⟨h1, h2⟩ := cut_ftxt p q
  unfold fOk
  rw [h1, h2, (rd_back hp).1, (rd_back hp).2, (rd_back hq).1, (rd_back hq).2]
  exact ⟨⟨rfl, rfl, r⟩, rfl, rfl⟩
section
variable {s s' : Int} {A A' : Option Addr} {n c n' c' : Nat} {l l' : List Int}
set_option maxRecDepth 100000 in
set_option maxHeartbeats 8000000 in
theorem ftext_no (w : World) (h : ArgF N0 w (frV s A n c s' A' n' c') n n' s s' l l') (hb : frB s s' l l' = false) : Calls Tryz.prog 58 #[frV s A n c s' A' n' c'] w fun e w' => e = .returned (.string ⟨#[]⟩) ∧ Below w.heap.size w w' := by
  have HB := Lib.hid (Gen.b_alloc (x := .cells (fC s A n c s' A' n' c') 43) (Below.refl w.heap.size w))
  have HA := Lib.hid (h.keep HB.out)
  have R0 := Lib.hid (Row.new w 43 (fC s A n c s' A' n' c'))
  have HQ := Lib.hid hb
  clear h hb
  go_enter Tryz.func58, Tryz.ntmps58
  go_wp2_with (fail)
  go_must (refine (HA.out.right false HQ.out).mono ?_)
  rintro e W1 ⟨rfl, hb⟩
  replace HB := Lib.hid (Gen.over hb HB.out)
  clear hb
  go_wp2
  go_ret
  exact ⟨rfl, HB.out⟩
end
end Go.Proofs.YtnifkianjpjahaaGreatDoor.Bg
