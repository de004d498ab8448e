/- Tokens: the reference's token. -/
import Derived.Test.YtmineoilmmifiaaDoorLxZ
namespace Go.Proofs.YtmineoilmmifiaaDoor.Lx
open Go.Lib Go.ChangeShapes Go.WideShapes Go.ChangeAt Go.RowKit Go.Proofs.YtmineoilmmifiaaDoor.Cell
set_option linter.unusedVariables false
set_option linter.unusedSimpArgs false
/-- what the reference's token returns -/
def TkR (l : List UInt8) (a : Int) : Value := match nxt l with
  | .ok (k, t, n) => .tuple #[tkv k t n a, .int .i64 0]
  | .error e => .tuple #[tkv 0 [] 0 0, .int .i64 e]
theorem spn_mid {p : UInt8 → Bool} {l : List UInt8} {a E : Nat} (haE : a ≤ E) (hE : E ≤ l.length) (h : ∀ j d, a ≤ j → j < E → l[j]? = some d → p d = true) (hx : ∀ x, l[E]? = some x → p x = false) : spn p (l.drop a) = E - a := by
  by_cases hlt : E < l.length
  · refine spn_at (c := l[E]) (fun j d hj hd => h (a + j) d (by omega) (by omega) (by rw [← List.getElem?_drop]; exact hd)) ?_ (hx _ (List.getElem?_eq_getElem hlt))
    rw [List.getElem?_drop, show a + (E - a) = E by omega]
    exact List.getElem?_eq_getElem hlt
  · rw [spn_all, List.length_drop]
    · omega
    · refine all_yes fun j d hj hd => ?_
      rw [List.length_drop] at hj
      exact h (a + j) d (by omega) (by omega) (by rw [← List.getElem?_drop]; exact hd)
theorem ext_mid {p : UInt8 → Bool} {l : List UInt8} {a E : Nat} (h : spn p (l.drop a) = E - a) : (⟨l.toArray⟩ : ByteArray).extract a E = ⟨((l.drop a).takeWhile p).toArray⟩ := str_eq (by
  rw [Lib.extract_data]
  show (l.drop a).take (E - a) = (l.drop a).takeWhile p
  rw [← h, take_spn])
theorem word_tw {c : UInt8} {r : List UInt8} (hc : ltr c = true) : isWord ((c :: r).takeWhile wrd) = decide (spn wrd (c :: r) ≤ 20) := by
  have h1 := tw_all wrd (c :: r)
  unfold spn
  rw [List.takeWhile_cons, ltr_wrd hc] at h1 ⊢
  simp only [if_true] at h1 ⊢
  rw [isWord_eq, hc, h1]
  simp
section
variable {W : World} {l r : List UInt8} {c : UInt8} {a : Nat}
set_option maxRecDepth 100000 in
set_option maxHeartbeats 16000000 in
theorem token_ltr (hl : l.length ≤ 1000000000) (hd : l.drop a = c :: r) (hc : ltr c = true) :
    Calls Tryd.prog 25 #[.string ⟨l.toArray⟩, .int .i64 (a : Int)] W fun e w' => e = .returned (TkR (c :: r) (a : Int)) ∧ Below W.heap.size W w' := by
  have hz : (⟨l.toArray⟩ : ByteArray).size = l.length := by simp [ByteArray.size]
  obtain ⟨h1, h2, h3⟩ := drop_hd hd
  have ha : a < l.length := by omega
  have a0 : (0 : Int) ≤ (a : Int) := by omega
  have a1 : (a : Int) < (l.length : Int) := by omega
  have a2 : (a : Int) ≤ (l.length : Int) := by omega
  have hwa : IntKind.i64.wrap ((a : Int) + 1) = ((a + 1 : Nat) : Int) := by rw [IntWalk.i64_in _ (by omega)]; omega
  obtain ⟨A1, hA1⟩ : ∃ A1, a + 1 = A1 := ⟨_, rfl⟩
  rw [hA1] at hwa
  have hga := byte_of h1 (by rw [hz]; exact ha)
  have HR1 : Hid (Row (W.alloc (.cells #[.int .i64 0, .string ⟨#[]⟩, .int .i64 0, .int .i64 0] 25)) W.heap.size 25 #[.int .i64 0, .string ⟨#[]⟩, .int .i64 0, .int .i64 0]) := Lib.hid (Row.new _ _ _)
  have HB1 : Hid (Below W.heap.size W (W.alloc (.cells #[.int .i64 0, .string ⟨#[]⟩, .int .i64 0, .int .i64 0] 25))) := Lib.hid (Gen.b_alloc (Below.refl _ _))
  have HPC := Lib.hid (ltr_wrd hc)
  have HD := Lib.hid hd
  have H1 := Lib.hid h1
  have H3 := Lib.hid h3
  clear hd h1 h2 h3
  go_enter Tryd.func25, Tryd.ntmps25
  go_upto_region 2 with (fail)
  generalize W.alloc (.cells #[.int .i64 0, .string ⟨#[]⟩, .int .i64 0, .int .i64 0] 25) = W1 at *
  go_wp2_with (fail)
  go_must (refine (rletter_any c _).mono ?_)
  rintro e w1 ⟨rfl, hw⟩
  have hw := hw.symm
  subst hw
  rw [hc]
  dsimp only
  go_wp2
  go_loopw [6] (fun iv wr => ∃ E : Nat, A1 ≤ E ∧ E ≤ l.length ∧ iv = .int .i64 (E : Int) ∧ Hid (∀ j d, a ≤ j → j < E → l[j]? = some d → wrd d = true) ∧ wr = W1) (fun iv _ => l.length - (RowKit.intOf iv).toNat)
  case atStart => exact ⟨A1, Nat.le_refl _, by omega, rfl, Lib.hid (fun j d hj hj2 hd => by obtain rfl : j = a := (by omega); rw [H1.out] at hd; injection hd with hd; subst hd; exact HPC.out), rfl⟩
  case round =>
    obtain ⟨E, hE1, hE2, rfl, HJ, hw⟩ := hrel
    have hw := hw.symm
    subst hw
    have e00 : (0 : Int) ≤ (E : Int) := by omega
    have haE : a ≤ E := by omega
    have e01 : (E : Int) ≤ (l.length : Int) := by omega
    have e02 : (a : Int) ≤ (E : Int) := by omega
    obtain ⟨S, hS⟩ : ∃ S, E - a = S := ⟨_, rfl⟩
    have hwS : IntKind.i64.wrap ((E : Int) - (a : Int)) = (S : Int) := by rw [IntWalk.i64_in _ (by omega)]; omega
    by_cases hlt : E < l.length
    · have hltI : (E : Int) < (l.length : Int) := by omega
      obtain ⟨x, hx⟩ := at_ l E hlt
      have hgc := byte_of hx (by rw [hz]; exact hlt)
      have HX := Lib.hid hx
      clear hx
      have NEXT : Hid (wrd x = true → ∀ j d, a ≤ j → j < E + 1 → l[j]? = some d → wrd d = true) := Lib.hid fun hw j d hj1 hj hd => by
        by_cases hjk : j < E
        · exact HJ.out j d hj1 hjk hd
        · obtain rfl : j = E := (by omega)
          rw [HX.out] at hd
          injection hd with hd
          subst hd
          exact hw
      cases hlx : ltr x
      · go_wp2_with (fail)
        go_must (refine (rletter_any x _).mono ?_)
        rintro e w1 ⟨rfl, hw⟩
        have hw := hw.symm
        subst hw
        rw [hlx]
        dsimp only
        go_wp2_with (fail)
        go_must (refine (rdigit_any x _).mono ?_)
        rintro e w1 ⟨rfl, hw⟩
        have hw := hw.symm
        subst hw
        cases hdx : dgt x
        · have HSP : Hid (spn wrd (c :: r) = S) := Lib.hid (by
            rw [← HD.out, ← hS]
            exact spn_mid haE hE2 HJ.out (fun y hy => by rw [HX.out] at hy; injection hy with hy; subst hy; exact (by unfold wrd; rw [hlx, hdx]; rfl)))
          dsimp only
          have HT : Hid ((⟨l.toArray⟩ : ByteArray).extract a E = ⟨((c :: r).takeWhile wrd).toArray⟩) := Lib.hid (by
            have h := ext_mid (p := wrd) (l := l) (a := a) (E := E) (by rw [HD.out, HSP.out]; exact hS.symm)
            rw [HD.out] at h
            exact h)
          by_cases h20 : S ≤ 20
          · have h20I : ¬ (20 : Int) < (S : Int) := by omega
            obtain ⟨T, hT⟩ : ∃ T, (c :: r).takeWhile wrd = T := ⟨_, rfl⟩
            have HN : Hid (TkR (c :: r) (a : Int) = .tuple #[tkv 0 T 0 (a : Int), .int .i64 0]) := Lib.hid (by
              have hw : isWord ((c :: r).takeWhile wrd) = true := by rw [word_tw hc, HSP.out]; simp [h20]
              unfold TkR nxt
              dsimp only
              rw [if_pos hc, if_pos hw, hT])
            rw [hT] at HT
            clear hT
            have f0 := Row.frozen HR1.out 0
            have f1 := Row.frozen HR1.out 1
            have f2 := Row.frozen HR1.out 2
            have f3 := Row.frozen HR1.out 3
            have d0 := Row.cell HR1.out 0
            have d1 := Row.cell HR1.out 1
            have d2 := Row.cell HR1.out 2
            have d3 := Row.cell HR1.out 3
            have HBz := Lib.hid (show Below W.heap.size W ((((W1.setCell ⟨W.heap.size, 0, none⟩ (.int .i64 0)).setCell ⟨W.heap.size, 1, none⟩ (.string ((⟨l.toArray⟩ : ByteArray).extract a E))).setCell ⟨W.heap.size, 2, none⟩ (.int .i64 0)).setCell ⟨W.heap.size, 3, none⟩ (.int .i64 (a : Int))) from (Below.setCell (p := ⟨W.heap.size, 3, none⟩) (Below.setCell (p := ⟨W.heap.size, 2, none⟩) (Below.setCell (p := ⟨W.heap.size, 1, none⟩) (Below.setCell (p := ⟨W.heap.size, 0, none⟩) HB1.out (Nat.le_refl _) (.int .i64 0)) (Nat.le_refl _) (.string ((⟨l.toArray⟩ : ByteArray).extract a E))) (Nat.le_refl _) (.int .i64 0)) (Nat.le_refl _) (.int .i64 (a : Int))))
            have hrz := (Row.set (Row.set (Row.set (Row.set HR1.out 0 (.int .i64 0)) 1 (.string ((⟨l.toArray⟩ : ByteArray).extract a E))) 2 (.int .i64 0)) 3 (.int .i64 (a : Int)))
            have e0 := Row.cell hrz 0
            have e1 := Row.cell hrz 1
            have e2 := Row.cell hrz 2
            have e3 := Row.cell hrz 3
            clear hrz
            go_wp2
            exact bodyPost_ret (v := .tuple #[.agg #[.int .i64 0, .string ((⟨l.toArray⟩ : ByteArray).extract a E), .int .i64 0, .int .i64 (a : Int)], .int .i64 0]) (by simp [results, Tryd.results25, go_sem, e0, e1, e2, e3]) rfl ⟨by rw [HN.out, HT.out]; rfl, HBz.out⟩
          · have h20I : (20 : Int) < (S : Int) := by omega
            have HN : Hid (TkR (c :: r) (a : Int) = .tuple #[tkv 0 [] 0 0, .int .i64 11]) := Lib.hid (by
              have hw : isWord ((c :: r).takeWhile wrd) = false := by rw [word_tw hc, HSP.out]; simp [h20]
              unfold TkR nxt
              dsimp only
              rw [if_pos hc, hw]
              rfl)
            have f0 := Row.frozen HR1.out 0
            have f1 := Row.frozen HR1.out 1
            have f2 := Row.frozen HR1.out 2
            have f3 := Row.frozen HR1.out 3
            have d0 := Row.cell HR1.out 0
            have d1 := Row.cell HR1.out 1
            have d2 := Row.cell HR1.out 2
            have d3 := Row.cell HR1.out 3
            have HBz := Lib.hid (show Below W.heap.size W ((((W1.setCell ⟨W.heap.size, 0, none⟩ (.int .i64 0)).setCell ⟨W.heap.size, 1, none⟩ (.string ⟨#[]⟩)).setCell ⟨W.heap.size, 2, none⟩ (.int .i64 0)).setCell ⟨W.heap.size, 3, none⟩ (.int .i64 0)) from (Below.setCell (p := ⟨W.heap.size, 3, none⟩) (Below.setCell (p := ⟨W.heap.size, 2, none⟩) (Below.setCell (p := ⟨W.heap.size, 1, none⟩) (Below.setCell (p := ⟨W.heap.size, 0, none⟩) HB1.out (Nat.le_refl _) (.int .i64 0)) (Nat.le_refl _) (.string ⟨#[]⟩)) (Nat.le_refl _) (.int .i64 0)) (Nat.le_refl _) (.int .i64 0)))
            have hrz := (Row.set (Row.set (Row.set (Row.set HR1.out 0 (.int .i64 0)) 1 (.string ⟨#[]⟩)) 2 (.int .i64 0)) 3 (.int .i64 0))
            have e0 := Row.cell hrz 0
            have e1 := Row.cell hrz 1
            have e2 := Row.cell hrz 2
            have e3 := Row.cell hrz 3
            clear hrz
            go_wp2
            exact bodyPost_ret (v := .tuple #[.agg #[.int .i64 0, .string ⟨#[]⟩, .int .i64 0, .int .i64 0], .int .i64 11]) (by simp [results, Tryd.results25, go_sem, e0, e1, e2, e3]) rfl ⟨by rw [HN.out]; rfl, HBz.out⟩
        · have HJ2 := Lib.hid (NEXT.out (dgt_wrd hdx))
          dsimp only
          go_wp2
          go_roundw
          case rel => exact ⟨E + 1, by omega, by omega, by go_num, HJ2, by first | rfl | trivial⟩
          case measure => simp [RowKit.intOf]; omega
      · go_wp2_with (fail)
        go_must (refine (rletter_any x _).mono ?_)
        rintro e w1 ⟨rfl, hw⟩
        have hw := hw.symm
        subst hw
        rw [hlx]
        have HJ2 := Lib.hid (NEXT.out (ltr_wrd hlx))
        dsimp only
        go_wp2
        go_roundw
        case rel => exact ⟨E + 1, by omega, by omega, by go_num, HJ2, by first | rfl | trivial⟩
        case measure => simp [RowKit.intOf]; omega
    · have hltI : ¬ (E : Int) < (l.length : Int) := by omega
      have HSP : Hid (spn wrd (c :: r) = S) := Lib.hid (by
        rw [← HD.out, ← hS]
        exact spn_mid haE hE2 HJ.out (fun y hy => absurd (List.getElem?_eq_some_iff.1 hy).1 hlt))
      have HT : Hid ((⟨l.toArray⟩ : ByteArray).extract a E = ⟨((c :: r).takeWhile wrd).toArray⟩) := Lib.hid (by
        have h := ext_mid (p := wrd) (l := l) (a := a) (E := E) (by rw [HD.out, HSP.out]; exact hS.symm)
        rw [HD.out] at h
        exact h)
      by_cases h20 : S ≤ 20
      · have h20I : ¬ (20 : Int) < (S : Int) := by omega
        obtain ⟨T, hT⟩ : ∃ T, (c :: r).takeWhile wrd = T := ⟨_, rfl⟩
        have HN : Hid (TkR (c :: r) (a : Int) = .tuple #[tkv 0 T 0 (a : Int), .int .i64 0]) := Lib.hid (by
          have hw : isWord ((c :: r).takeWhile wrd) = true := by rw [word_tw hc, HSP.out]; simp [h20]
          unfold TkR nxt
          dsimp only
          rw [if_pos hc, if_pos hw, hT])
        rw [hT] at HT
        clear hT
        have f0 := Row.frozen HR1.out 0
        have f1 := Row.frozen HR1.out 1
        have f2 := Row.frozen HR1.out 2
        have f3 := Row.frozen HR1.out 3
        have d0 := Row.cell HR1.out 0
        have d1 := Row.cell HR1.out 1
        have d2 := Row.cell HR1.out 2
        have d3 := Row.cell HR1.out 3
        have HBz := Lib.hid (show Below W.heap.size W ((((W1.setCell ⟨W.heap.size, 0, none⟩ (.int .i64 0)).setCell ⟨W.heap.size, 1, none⟩ (.string ((⟨l.toArray⟩ : ByteArray).extract a E))).setCell ⟨W.heap.size, 2, none⟩ (.int .i64 0)).setCell ⟨W.heap.size, 3, none⟩ (.int .i64 (a : Int))) from (Below.setCell (p := ⟨W.heap.size, 3, none⟩) (Below.setCell (p := ⟨W.heap.size, 2, none⟩) (Below.setCell (p := ⟨W.heap.size, 1, none⟩) (Below.setCell (p := ⟨W.heap.size, 0, none⟩) HB1.out (Nat.le_refl _) (.int .i64 0)) (Nat.le_refl _) (.string ((⟨l.toArray⟩ : ByteArray).extract a E))) (Nat.le_refl _) (.int .i64 0)) (Nat.le_refl _) (.int .i64 (a : Int))))
        have hrz := (Row.set (Row.set (Row.set (Row.set HR1.out 0 (.int .i64 0)) 1 (.string ((⟨l.toArray⟩ : ByteArray).extract a E))) 2 (.int .i64 0)) 3 (.int .i64 (a : Int)))
        have e0 := Row.cell hrz 0
        have e1 := Row.cell hrz 1
        have e2 := Row.cell hrz 2
        have e3 := Row.cell hrz 3
        clear hrz
        go_wp2
        exact bodyPost_ret (v := .tuple #[.agg #[.int .i64 0, .string ((⟨l.toArray⟩ : ByteArray).extract a E), .int .i64 0, .int .i64 (a : Int)], .int .i64 0]) (by simp [results, Tryd.results25, go_sem, e0, e1, e2, e3]) rfl ⟨by rw [HN.out, HT.out]; rfl, HBz.out⟩
      · have h20I : (20 : Int) < (S : Int) := by omega
        have HN : Hid (TkR (c :: r) (a : Int) = .tuple #[tkv 0 [] 0 0, .int .i64 11]) := Lib.hid (by
          have hw : isWord ((c :: r).takeWhile wrd) = false := by rw [word_tw hc, HSP.out]; simp [h20]
          unfold TkR nxt
          dsimp only
          rw [if_pos hc, hw]
          rfl)
        have f0 := Row.frozen HR1.out 0
        have f1 := Row.frozen HR1.out 1
        have f2 := Row.frozen HR1.out 2
        have f3 := Row.frozen HR1.out 3
        have d0 := Row.cell HR1.out 0
        have d1 := Row.cell HR1.out 1
        have d2 := Row.cell HR1.out 2
        have d3 := Row.cell HR1.out 3
        have HBz := Lib.hid (show Below W.heap.size W ((((W1.setCell ⟨W.heap.size, 0, none⟩ (.int .i64 0)).setCell ⟨W.heap.size, 1, none⟩ (.string ⟨#[]⟩)).setCell ⟨W.heap.size, 2, none⟩ (.int .i64 0)).setCell ⟨W.heap.size, 3, none⟩ (.int .i64 0)) from (Below.setCell (p := ⟨W.heap.size, 3, none⟩) (Below.setCell (p := ⟨W.heap.size, 2, none⟩) (Below.setCell (p := ⟨W.heap.size, 1, none⟩) (Below.setCell (p := ⟨W.heap.size, 0, none⟩) HB1.out (Nat.le_refl _) (.int .i64 0)) (Nat.le_refl _) (.string ⟨#[]⟩)) (Nat.le_refl _) (.int .i64 0)) (Nat.le_refl _) (.int .i64 0)))
        have hrz := (Row.set (Row.set (Row.set (Row.set HR1.out 0 (.int .i64 0)) 1 (.string ⟨#[]⟩)) 2 (.int .i64 0)) 3 (.int .i64 0))
        have e0 := Row.cell hrz 0
        have e1 := Row.cell hrz 1
        have e2 := Row.cell hrz 2
        have e3 := Row.cell hrz 3
        clear hrz
        go_wp2
        exact bodyPost_ret (v := .tuple #[.agg #[.int .i64 0, .string ⟨#[]⟩, .int .i64 0, .int .i64 0], .int .i64 11]) (by simp [results, Tryd.results25, go_sem, e0, e1, e2, e3]) rfl ⟨by rw [HN.out]; rfl, HBz.out⟩
set_option maxRecDepth 100000 in
set_option maxHeartbeats 16000000 in
theorem token_dgt (hl : l.length ≤ 1000000000) (hd : l.drop a = c :: r) (hc : dgt c = true) :
    Calls Tryd.prog 25 #[.string ⟨l.toArray⟩, .int .i64 (a : Int)] W fun e w' => e = .returned (TkR (c :: r) (a : Int)) ∧ Below W.heap.size W w' := by
  have hz : (⟨l.toArray⟩ : ByteArray).size = l.length := by simp [ByteArray.size]
  obtain ⟨h1, h2, h3⟩ := drop_hd hd
  have ha : a < l.length := by omega
  have a0 : (0 : Int) ≤ (a : Int) := by omega
  have a1 : (a : Int) < (l.length : Int) := by omega
  have a2 : (a : Int) ≤ (l.length : Int) := by omega
  have hwa : IntKind.i64.wrap ((a : Int) + 1) = ((a + 1 : Nat) : Int) := by rw [IntWalk.i64_in _ (by omega)]; omega
  obtain ⟨A1, hA1⟩ : ∃ A1, a + 1 = A1 := ⟨_, rfl⟩
  rw [hA1] at hwa
  have hga := byte_of h1 (by rw [hz]; exact ha)
  have HR1 : Hid (Row (W.alloc (.cells #[.int .i64 0, .string ⟨#[]⟩, .int .i64 0, .int .i64 0] 25)) W.heap.size 25 #[.int .i64 0, .string ⟨#[]⟩, .int .i64 0, .int .i64 0]) := Lib.hid (Row.new _ _ _)
  have HB1 : Hid (Below W.heap.size W (W.alloc (.cells #[.int .i64 0, .string ⟨#[]⟩, .int .i64 0, .int .i64 0] 25))) := Lib.hid (Gen.b_alloc (Below.refl _ _))
  have HPC := Lib.hid hc
  have HD := Lib.hid hd
  have H1 := Lib.hid h1
  have H3 := Lib.hid h3
  clear hd h1 h2 h3
  go_enter Tryd.func25, Tryd.ntmps25
  go_upto_region 2 with (fail)
  generalize W.alloc (.cells #[.int .i64 0, .string ⟨#[]⟩, .int .i64 0, .int .i64 0] 25) = W1 at *
  go_wp2_with (fail)
  go_must (refine (rletter_any c _).mono ?_)
  rintro e w1 ⟨rfl, hw⟩
  have hw := hw.symm
  subst hw
  rw [dgt_ltr hc]
  dsimp only
  go_wp2_with (fail)
  go_must (refine (rdigit_any c _).mono ?_)
  rintro e w1 ⟨rfl, hw⟩
  have hw := hw.symm
  subst hw
  rw [hc]
  dsimp only
  go_wp2
  go_loopw [6] (fun iv wr => ∃ E : Nat, A1 ≤ E ∧ E ≤ l.length ∧ iv = .int .i64 (E : Int) ∧ Hid (∀ j d, a ≤ j → j < E → l[j]? = some d → dgt d = true) ∧ wr = W1) (fun iv _ => l.length - (RowKit.intOf iv).toNat)
  case atStart => exact ⟨A1, Nat.le_refl _, by omega, rfl, Lib.hid (fun j d hj hj2 hd => by obtain rfl : j = a := (by omega); rw [H1.out] at hd; injection hd with hd; subst hd; exact HPC.out), rfl⟩
  case round =>
    obtain ⟨E, hE1, hE2, rfl, HJ, hw⟩ := hrel
    have hw := hw.symm
    subst hw
    have e00 : (0 : Int) ≤ (E : Int) := by omega
    have haE : a ≤ E := by omega
    have e01 : (E : Int) ≤ (l.length : Int) := by omega
    have e02 : (a : Int) ≤ (E : Int) := by omega
    obtain ⟨S, hS⟩ : ∃ S, E - a = S := ⟨_, rfl⟩
    have hwS : IntKind.i64.wrap ((E : Int) - (a : Int)) = (S : Int) := by rw [IntWalk.i64_in _ (by omega)]; omega
    by_cases hlt : E < l.length
    · have hltI : (E : Int) < (l.length : Int) := by omega
      obtain ⟨x, hx⟩ := at_ l E hlt
      have hgc := byte_of hx (by rw [hz]; exact hlt)
      have HX := Lib.hid hx
      clear hx
      have NEXT : Hid (dgt x = true → ∀ j d, a ≤ j → j < E + 1 → l[j]? = some d → dgt d = true) := Lib.hid fun hw j d hj1 hj hd => by
        by_cases hjk : j < E
        · exact HJ.out j d hj1 hjk hd
        · obtain rfl : j = E := (by omega)
          rw [HX.out] at hd
          injection hd with hd
          subst hd
          exact hw
      cases hdx : dgt x
      · go_wp2_with (fail)
        go_must (refine (rdigit_any x _).mono ?_)
        rintro e w1 ⟨rfl, hw⟩
        have hw := hw.symm
        subst hw
        rw [hdx]
        have HSP : Hid (spn dgt (c :: r) = S) := Lib.hid (by
          rw [← HD.out, ← hS]
          exact spn_mid haE hE2 HJ.out (fun y hy => by rw [HX.out] at hy; injection hy with hy; subst hy; exact hdx))
        dsimp only
        have HT : Hid ((⟨l.toArray⟩ : ByteArray).extract a E = ⟨((c :: r).takeWhile dgt).toArray⟩) := Lib.hid (by
          have h := ext_mid (p := dgt) (l := l) (a := a) (E := E) (by rw [HD.out, HSP.out]; exact hS.symm)
          rw [HD.out] at h
          exact h)
        have hTl : ((c :: r).takeWhile dgt).length ≤ 1000000000 := by
          have h := spn_le dgt (c :: r)
          unfold spn at h
          have h5 := congrArg List.length HD.out
          rw [List.length_drop] at h5
          omega
        obtain ⟨T, hT⟩ : ∃ T, (c :: r).takeWhile dgt = T := ⟨_, rfl⟩
        have HNX : Hid (TkR (c :: r) (a : Int) = if isNum T then .tuple #[tkv 1 T (val T : Int) (a : Int), .int .i64 0] else .tuple #[tkv 0 [] 0 0, .int .i64 3]) := Lib.hid (by
          unfold TkR nxt
          dsimp only
          rw [dgt_ltr hc, if_neg (by simp), if_pos hc, hT]
          by_cases h : isNum T = true
          · rw [if_pos h, if_pos h]
          · rw [if_neg h, if_neg h])
        rw [hT] at HT hTl
        clear hT
        have f0 := Row.frozen HR1.out 0
        have f1 := Row.frozen HR1.out 1
        have f2 := Row.frozen HR1.out 2
        have f3 := Row.frozen HR1.out 3
        have d0 := Row.cell HR1.out 0
        have d1 := Row.cell HR1.out 1
        have d2 := Row.cell HR1.out 2
        have d3 := Row.cell HR1.out 3
        go_wp2_with (fail)
        rw [HT.out]
        go_must (refine (rnumber_any hTl).mono ?_)
        rintro e w5 ⟨rfl, hw⟩
        have hw := hw.symm
        subst hw
        cases hnum : isNum T
        · have HN : Hid (TkR (c :: r) (a : Int) = .tuple #[tkv 0 [] 0 0, .int .i64 3]) := Lib.hid (by rw [HNX.out, hnum]; rfl)
          rw [NumR_no hnum]
          dsimp only
          have HBz := Lib.hid (show Below W.heap.size W ((((W1.setCell ⟨W.heap.size, 0, none⟩ (.int .i64 0)).setCell ⟨W.heap.size, 1, none⟩ (.string ⟨#[]⟩)).setCell ⟨W.heap.size, 2, none⟩ (.int .i64 0)).setCell ⟨W.heap.size, 3, none⟩ (.int .i64 0)) from (Below.setCell (p := ⟨W.heap.size, 3, none⟩) (Below.setCell (p := ⟨W.heap.size, 2, none⟩) (Below.setCell (p := ⟨W.heap.size, 1, none⟩) (Below.setCell (p := ⟨W.heap.size, 0, none⟩) HB1.out (Nat.le_refl _) (.int .i64 0)) (Nat.le_refl _) (.string ⟨#[]⟩)) (Nat.le_refl _) (.int .i64 0)) (Nat.le_refl _) (.int .i64 0)))
          have hrz := (Row.set (Row.set (Row.set (Row.set HR1.out 0 (.int .i64 0)) 1 (.string ⟨#[]⟩)) 2 (.int .i64 0)) 3 (.int .i64 0))
          have e0 := Row.cell hrz 0
          have e1 := Row.cell hrz 1
          have e2 := Row.cell hrz 2
          have e3 := Row.cell hrz 3
          clear hrz
          go_wp2
          exact bodyPost_ret (v := .tuple #[.agg #[.int .i64 0, .string ⟨#[]⟩, .int .i64 0, .int .i64 0], .int .i64 3]) (by simp [results, Tryd.results25, go_sem, e0, e1, e2, e3]) rfl ⟨by rw [HN.out]; rfl, HBz.out⟩
        · have HN : Hid (TkR (c :: r) (a : Int) = .tuple #[tkv 1 T (val T : Int) (a : Int), .int .i64 0]) := Lib.hid (by rw [HNX.out, hnum]; rfl)
          rw [NumR_yes hnum rfl]
          obtain ⟨V, hV⟩ : ∃ V, val T = V := ⟨_, rfl⟩
          rw [hV] at HN ⊢
          dsimp only
          have HBz := Lib.hid (show Below W.heap.size W ((((W1.setCell ⟨W.heap.size, 0, none⟩ (.int .i64 1)).setCell ⟨W.heap.size, 1, none⟩ (.string ((⟨l.toArray⟩ : ByteArray).extract a E))).setCell ⟨W.heap.size, 2, none⟩ (.int .i64 (V : Int))).setCell ⟨W.heap.size, 3, none⟩ (.int .i64 (a : Int))) from (Below.setCell (p := ⟨W.heap.size, 3, none⟩) (Below.setCell (p := ⟨W.heap.size, 2, none⟩) (Below.setCell (p := ⟨W.heap.size, 1, none⟩) (Below.setCell (p := ⟨W.heap.size, 0, none⟩) HB1.out (Nat.le_refl _) (.int .i64 1)) (Nat.le_refl _) (.string ((⟨l.toArray⟩ : ByteArray).extract a E))) (Nat.le_refl _) (.int .i64 (V : Int))) (Nat.le_refl _) (.int .i64 (a : Int))))
          have hrz := (Row.set (Row.set (Row.set (Row.set HR1.out 0 (.int .i64 1)) 1 (.string ((⟨l.toArray⟩ : ByteArray).extract a E))) 2 (.int .i64 (V : Int))) 3 (.int .i64 (a : Int)))
          have e0 := Row.cell hrz 0
          have e1 := Row.cell hrz 1
          have e2 := Row.cell hrz 2
          have e3 := Row.cell hrz 3
          clear hrz
          go_wp2
          exact bodyPost_ret (v := .tuple #[.agg #[.int .i64 1, .string ((⟨l.toArray⟩ : ByteArray).extract a E), .int .i64 (V : Int), .int .i64 (a : Int)], .int .i64 0]) (by simp [results, Tryd.results25, go_sem, e0, e1, e2, e3]) rfl ⟨by rw [HN.out, HT.out]; rfl, HBz.out⟩
      · go_wp2_with (fail)
        go_must (refine (rdigit_any x _).mono ?_)
        rintro e w1 ⟨rfl, hw⟩
        have hw := hw.symm
        subst hw
        rw [hdx]
        have HJ2 := Lib.hid (NEXT.out hdx)
        dsimp only
        go_wp2
        go_roundw
        case rel => exact ⟨E + 1, by omega, by omega, by go_num, HJ2, by first | rfl | trivial⟩
        case measure => simp [RowKit.intOf]; omega
    · have hltI : ¬ (E : Int) < (l.length : Int) := by omega
      have HSP : Hid (spn dgt (c :: r) = S) := Lib.hid (by
        rw [← HD.out, ← hS]
        exact spn_mid haE hE2 HJ.out (fun y hy => absurd (List.getElem?_eq_some_iff.1 hy).1 hlt))
      have HT : Hid ((⟨l.toArray⟩ : ByteArray).extract a E = ⟨((c :: r).takeWhile dgt).toArray⟩) := Lib.hid (by
        have h := ext_mid (p := dgt) (l := l) (a := a) (E := E) (by rw [HD.out, HSP.out]; exact hS.symm)
        rw [HD.out] at h
        exact h)
      have hTl : ((c :: r).takeWhile dgt).length ≤ 1000000000 := by
        have h := spn_le dgt (c :: r)
        unfold spn at h
        have h5 := congrArg List.length HD.out
        rw [List.length_drop] at h5
        omega
      obtain ⟨T, hT⟩ : ∃ T, (c :: r).takeWhile dgt = T := ⟨_, rfl⟩
      have HNX : Hid (TkR (c :: r) (a : Int) = if isNum T then .tuple #[tkv 1 T (val T : Int) (a : Int), .int .i64 0] else .tuple #[tkv 0 [] 0 0, .int .i64 3]) := Lib.hid (by
        unfold TkR nxt
        dsimp only
        rw [dgt_ltr hc, if_neg (by simp), if_pos hc, hT]
        by_cases h : isNum T = true
        · rw [if_pos h, if_pos h]
        · rw [if_neg h, if_neg h])
      rw [hT] at HT hTl
      clear hT
      have f0 := Row.frozen HR1.out 0
      have f1 := Row.frozen HR1.out 1
      have f2 := Row.frozen HR1.out 2
      have f3 := Row.frozen HR1.out 3
      have d0 := Row.cell HR1.out 0
      have d1 := Row.cell HR1.out 1
      have d2 := Row.cell HR1.out 2
      have d3 := Row.cell HR1.out 3
      go_wp2_with (fail)
      rw [HT.out]
      go_must (refine (rnumber_any hTl).mono ?_)
      rintro e w5 ⟨rfl, hw⟩
      have hw := hw.symm
      subst hw
      cases hnum : isNum T
      · have HN : Hid (TkR (c :: r) (a : Int) = .tuple #[tkv 0 [] 0 0, .int .i64 3]) := Lib.hid (by rw [HNX.out, hnum]; rfl)
        rw [NumR_no hnum]
        dsimp only
        have HBz := Lib.hid (show Below W.heap.size W ((((W1.setCell ⟨W.heap.size, 0, none⟩ (.int .i64 0)).setCell ⟨W.heap.size, 1, none⟩ (.string ⟨#[]⟩)).setCell ⟨W.heap.size, 2, none⟩ (.int .i64 0)).setCell ⟨W.heap.size, 3, none⟩ (.int .i64 0)) from (Below.setCell (p := ⟨W.heap.size, 3, none⟩) (Below.setCell (p := ⟨W.heap.size, 2, none⟩) (Below.setCell (p := ⟨W.heap.size, 1, none⟩) (Below.setCell (p := ⟨W.heap.size, 0, none⟩) HB1.out (Nat.le_refl _) (.int .i64 0)) (Nat.le_refl _) (.string ⟨#[]⟩)) (Nat.le_refl _) (.int .i64 0)) (Nat.le_refl _) (.int .i64 0)))
        have hrz := (Row.set (Row.set (Row.set (Row.set HR1.out 0 (.int .i64 0)) 1 (.string ⟨#[]⟩)) 2 (.int .i64 0)) 3 (.int .i64 0))
        have e0 := Row.cell hrz 0
        have e1 := Row.cell hrz 1
        have e2 := Row.cell hrz 2
        have e3 := Row.cell hrz 3
        clear hrz
        go_wp2
        exact bodyPost_ret (v := .tuple #[.agg #[.int .i64 0, .string ⟨#[]⟩, .int .i64 0, .int .i64 0], .int .i64 3]) (by simp [results, Tryd.results25, go_sem, e0, e1, e2, e3]) rfl ⟨by rw [HN.out]; rfl, HBz.out⟩
      · have HN : Hid (TkR (c :: r) (a : Int) = .tuple #[tkv 1 T (val T : Int) (a : Int), .int .i64 0]) := Lib.hid (by rw [HNX.out, hnum]; rfl)
        rw [NumR_yes hnum rfl]
        obtain ⟨V, hV⟩ : ∃ V, val T = V := ⟨_, rfl⟩
        rw [hV] at HN ⊢
        dsimp only
        have HBz := Lib.hid (show Below W.heap.size W ((((W1.setCell ⟨W.heap.size, 0, none⟩ (.int .i64 1)).setCell ⟨W.heap.size, 1, none⟩ (.string ((⟨l.toArray⟩ : ByteArray).extract a E))).setCell ⟨W.heap.size, 2, none⟩ (.int .i64 (V : Int))).setCell ⟨W.heap.size, 3, none⟩ (.int .i64 (a : Int))) from (Below.setCell (p := ⟨W.heap.size, 3, none⟩) (Below.setCell (p := ⟨W.heap.size, 2, none⟩) (Below.setCell (p := ⟨W.heap.size, 1, none⟩) (Below.setCell (p := ⟨W.heap.size, 0, none⟩) HB1.out (Nat.le_refl _) (.int .i64 1)) (Nat.le_refl _) (.string ((⟨l.toArray⟩ : ByteArray).extract a E))) (Nat.le_refl _) (.int .i64 (V : Int))) (Nat.le_refl _) (.int .i64 (a : Int))))
        have hrz := (Row.set (Row.set (Row.set (Row.set HR1.out 0 (.int .i64 1)) 1 (.string ((⟨l.toArray⟩ : ByteArray).extract a E))) 2 (.int .i64 (V : Int))) 3 (.int .i64 (a : Int)))
        have e0 := Row.cell hrz 0
        have e1 := Row.cell hrz 1
        have e2 := Row.cell hrz 2
        have e3 := Row.cell hrz 3
        clear hrz
        go_wp2
        exact bodyPost_ret (v := .tuple #[.agg #[.int .i64 1, .string ((⟨l.toArray⟩ : ByteArray).extract a E), .int .i64 (V : Int), .int .i64 (a : Int)], .int .i64 0]) (by simp [results, Tryd.results25, go_sem, e0, e1, e2, e3]) rfl ⟨by rw [HN.out, HT.out]; rfl, HBz.out⟩
set_option maxRecDepth 100000 in
set_option maxHeartbeats 16000000 in
theorem token_sgn (hl : l.length ≤ 1000000000) (hd : l.drop a = c :: r) (hc1 : ltr c = false) (hc2 : dgt c = false) :
    Calls Tryd.prog 25 #[.string ⟨l.toArray⟩, .int .i64 (a : Int)] W fun e w' => e = .returned (TkR (c :: r) (a : Int)) ∧ Below W.heap.size W w' := by
  have hz : (⟨l.toArray⟩ : ByteArray).size = l.length := by simp [ByteArray.size]
  obtain ⟨h1, h2, h3⟩ := drop_hd hd
  have ha : a < l.length := by omega
  have a0 : (0 : Int) ≤ (a : Int) := by omega
  have a1 : (a : Int) < (l.length : Int) := by omega
  have a2 : (a : Int) ≤ (l.length : Int) := by omega
  have hwa : IntKind.i64.wrap ((a : Int) + 1) = ((a + 1 : Nat) : Int) := by rw [IntWalk.i64_in _ (by omega)]; omega
  obtain ⟨A1, hA1⟩ : ∃ A1, a + 1 = A1 := ⟨_, rfl⟩
  rw [hA1] at hwa
  have hga := byte_of h1 (by rw [hz]; exact ha)
  have HR1 : Hid (Row (W.alloc (.cells #[.int .i64 0, .string ⟨#[]⟩, .int .i64 0, .int .i64 0] 25)) W.heap.size 25 #[.int .i64 0, .string ⟨#[]⟩, .int .i64 0, .int .i64 0]) := Lib.hid (Row.new _ _ _)
  have HB1 : Hid (Below W.heap.size W (W.alloc (.cells #[.int .i64 0, .string ⟨#[]⟩, .int .i64 0, .int .i64 0] 25))) := Lib.hid (Gen.b_alloc (Below.refl _ _))
  have HD := Lib.hid hd
  have H1 := Lib.hid h1
  have H3 := Lib.hid h3
  clear hd h1 h2 h3
  go_enter Tryd.func25, Tryd.ntmps25
  go_upto_region 2 with (fail)
  generalize W.alloc (.cells #[.int .i64 0, .string ⟨#[]⟩, .int .i64 0, .int .i64 0] 25) = W1 at *
  go_wp2_with (fail)
  go_must (refine (rletter_any c _).mono ?_)
  rintro e w1 ⟨rfl, hw⟩
  have hw := hw.symm
  subst hw
  rw [hc1]
  dsimp only
  go_wp2_with (fail)
  go_must (refine (rdigit_any c _).mono ?_)
  rintro e w1 ⟨rfl, hw⟩
  have hw := hw.symm
  subst hw
  rw [hc2]
  dsimp only
  have hll : l.length ≤ 1000000000 := hl
  go_wp2_with (fail)
  go_must (refine (sign_any hll HD.out).mono ?_)
  rintro e w5 ⟨rfl, hb5⟩
  replace HB1 := Lib.hid (Gen.over hb5 HB1.out)
  replace HR1 := Lib.hid (HR1.out.keep hb5)
  clear hb5
  have f0 := Row.frozen HR1.out 0
  have f1 := Row.frozen HR1.out 1
  have f2 := Row.frozen HR1.out 2
  have f3 := Row.frozen HR1.out 3
  have d0 := Row.cell HR1.out 0
  have d1 := Row.cell HR1.out 1
  have d2 := Row.cell HR1.out 2
  have d3 := Row.cell HR1.out 3
  cases hs : sgn (c :: r) with
  | none =>
    have HN : Hid (TkR (c :: r) (a : Int) = .tuple #[tkv 0 [] 0 0, .int .i64 10]) := Lib.hid (by
      unfold TkR nxt
      dsimp only
      rw [hc1, hc2, hs]
      rfl)
    rw [show sgl (c :: r) = 0 from by unfold sgl; rw [hs]]
    dsimp only
    have HBz := Lib.hid (show Below W.heap.size W ((((w5.setCell ⟨W.heap.size, 0, none⟩ (.int .i64 0)).setCell ⟨W.heap.size, 1, none⟩ (.string ⟨#[]⟩)).setCell ⟨W.heap.size, 2, none⟩ (.int .i64 0)).setCell ⟨W.heap.size, 3, none⟩ (.int .i64 0)) from (Below.setCell (p := ⟨W.heap.size, 3, none⟩) (Below.setCell (p := ⟨W.heap.size, 2, none⟩) (Below.setCell (p := ⟨W.heap.size, 1, none⟩) (Below.setCell (p := ⟨W.heap.size, 0, none⟩) HB1.out (Nat.le_refl _) (.int .i64 0)) (Nat.le_refl _) (.string ⟨#[]⟩)) (Nat.le_refl _) (.int .i64 0)) (Nat.le_refl _) (.int .i64 0)))
    have hrz := (Row.set (Row.set (Row.set (Row.set HR1.out 0 (.int .i64 0)) 1 (.string ⟨#[]⟩)) 2 (.int .i64 0)) 3 (.int .i64 0))
    have e0 := Row.cell hrz 0
    have e1 := Row.cell hrz 1
    have e2 := Row.cell hrz 2
    have e3 := Row.cell hrz 3
    clear hrz
    go_wp2
    exact bodyPost_ret (v := .tuple #[.agg #[.int .i64 0, .string ⟨#[]⟩, .int .i64 0, .int .i64 0], .int .i64 10]) (by simp [results, Tryd.results25, go_sem, e0, e1, e2, e3]) rfl ⟨by rw [HN.out]; rfl, HBz.out⟩
  | some t =>
    have HN : Hid (TkR (c :: r) (a : Int) = .tuple #[tkv 2 t 0 (a : Int), .int .i64 0]) := Lib.hid (by
      unfold TkR nxt
      dsimp only
      rw [hc1, hc2, hs]
      rfl)
    obtain ⟨hm, hp⟩ := sgn_in hs
    have ht0 := (sgn_pos hm).1
    have htk := isPrefixOf_take hp
    have htl : t.length ≤ (c :: r).length := by
      have := congrArg List.length htk
      rw [List.length_take] at this
      omega
    have h5 := congrArg List.length HD.out
    rw [List.length_drop] at h5
    obtain ⟨S, hS⟩ : ∃ S, t.length = S := ⟨_, rfl⟩
    rw [show sgl (c :: r) = S from by unfold sgl; rw [hs]; exact hS]
    obtain ⟨E, hE⟩ : ∃ E, a + S = E := ⟨_, rfl⟩
    have hwS : IntKind.i64.wrap ((a : Int) + (S : Int)) = (E : Int) := by rw [IntWalk.i64_in _ (by omega)]; omega
    have hS0 : ¬ (S : Int) = 0 := by omega
    have e01 : (E : Int) ≤ (l.length : Int) := by omega
    have e02 : (a : Int) ≤ (E : Int) := by omega
    have HT : Hid ((⟨l.toArray⟩ : ByteArray).extract a E = ⟨t.toArray⟩) := Lib.hid (str_eq (by
      rw [Lib.extract_data]
      show (l.drop a).take (E - a) = t
      rw [HD.out, show E - a = t.length by omega]
      exact htk))
    clear hs hm hp ht0 htk htl h5 hS hE
    dsimp only
    have HBz := Lib.hid (show Below W.heap.size W ((((w5.setCell ⟨W.heap.size, 0, none⟩ (.int .i64 2)).setCell ⟨W.heap.size, 1, none⟩ (.string ((⟨l.toArray⟩ : ByteArray).extract a E))).setCell ⟨W.heap.size, 2, none⟩ (.int .i64 0)).setCell ⟨W.heap.size, 3, none⟩ (.int .i64 (a : Int))) from (Below.setCell (p := ⟨W.heap.size, 3, none⟩) (Below.setCell (p := ⟨W.heap.size, 2, none⟩) (Below.setCell (p := ⟨W.heap.size, 1, none⟩) (Below.setCell (p := ⟨W.heap.size, 0, none⟩) HB1.out (Nat.le_refl _) (.int .i64 2)) (Nat.le_refl _) (.string ((⟨l.toArray⟩ : ByteArray).extract a E))) (Nat.le_refl _) (.int .i64 0)) (Nat.le_refl _) (.int .i64 (a : Int))))
    have hrz := (Row.set (Row.set (Row.set (Row.set HR1.out 0 (.int .i64 2)) 1 (.string ((⟨l.toArray⟩ : ByteArray).extract a E))) 2 (.int .i64 0)) 3 (.int .i64 (a : Int)))
    have e0 := Row.cell hrz 0
    have e1 := Row.cell hrz 1
    have e2 := Row.cell hrz 2
    have e3 := Row.cell hrz 3
    clear hrz
    go_wp2
    exact bodyPost_ret (v := .tuple #[.agg #[.int .i64 2, .string ((⟨l.toArray⟩ : ByteArray).extract a E), .int .i64 0, .int .i64 (a : Int)], .int .i64 0]) (by simp [results, Tryd.results25, go_sem, e0, e1, e2, e3]) rfl ⟨by rw [HN.out, HT.out]; rfl, HBz.out⟩
theorem token_any (hl : l.length ≤ 1000000000) (hd : l.drop a = c :: r) :
    Calls Tryd.prog 25 #[.string ⟨l.toArray⟩, .int .i64 (a : Int)] W fun e w' => e = .returned (TkR (c :: r) (a : Int)) ∧ Below W.heap.size W w' := by
  cases h1 : ltr c
  · cases h2 : dgt c
    · exact token_sgn hl hd h1 h2
    · exact token_dgt hl hd h2
  · exact token_ltr hl hd h1
end
end Go.Proofs.YtmineoilmmifiaaDoor.Lx
