/- Wire: the reader: lists. -/
import Derived.Test.YtapcfnlononniaaDoorWrC
namespace Go.Proofs.YtapcfnlononniaaDoor.Wr
open Go.Lib Go.ChangeShapes Go.WideShapes Go.ChangeAt Go.RowKit Go.Proofs.YtapcfnlononniaaDoor.Cell
set_option linter.unusedVariables false
set_option linter.unusedSimpArgs false
theorem info_parts' {o : Option TypeInfo} {z : Value} {a b : Nat} (h : o.map (fun i => (i.zero, i.size, i.bytes)) = some (some z, a, b)) : ∃ i, o = some i ∧ i.zero = some z ∧ i.size = a ∧ i.bytes = b := by
  cases o with
  | none => cases h
  | some i =>
    simp only [Option.map_some, Option.some.injEq, Prod.mk.injEq] at h
    exact ⟨i, rfl, h.1, h.2.1, h.2.2⟩
theorem infoI : (Tryd.prog.info? 3).map (fun i => (i.zero, i.size, i.bytes)) = some (some (.int .i64 0), 1, 8) := by kernel_rfl
theorem infoS : (Tryd.prog.info? 9).map (fun i => (i.zero, i.size, i.bytes)) = some (some (.string ⟨#[]⟩), 1, 16) := by kernel_rfl
/-- the world a law began in, and what its variables hold -/
structure En (w0 W : World) : Prop where
  b : Below w0.heap.size w0 W
  t : PowTab w0
  s2 : Sent w0 2
  s3 : Sent w0 3
theorem En.only {w0 W w' : World} {g : Nat} (h : En w0 W) (ho : Only W w' (fun x => x = g)) (hg : w0.heap.size ≤ g) : En w0 w' := ⟨Only.below h.b ho (fun b e => by subst e; exact hg), h.t, h.s2, h.s3⟩
theorem En.keep {w0 W w' : World} (h : En w0 W) (hb : Below W.heap.size W w') : En w0 w' := ⟨Gen.over hb h.b, h.t, h.s2, h.s3⟩
theorem En.pt {w0 W : World} (h : En w0 W) : PowTab W := h.t.keep h.b
theorem En.e2 {w0 W : World} (h : En w0 W) : Sent W 2 := h.s2.keep h.b
theorem En.e3 {w0 W : World} (h : En w0 W) : Sent W 3 := h.s3.keep h.b
theorem Only.grown {W w1 w2 : World} {R : Nat → Prop} {r : Option Nat} (h : Only W w1 R) (hg : w1.grownBy w2 r) (hr : ∀ b, r = some b → R b ∨ W.heap.size ≤ b) : Only W w2 R :=
  ⟨hg.os.trans h.os, hg.tape.trans h.tape, hg.output.trans h.output, Nat.le_trans h.size hg.size, fun k hk hn => (hg.block k (Nat.lt_of_lt_of_le hk h.size) (fun e => by
    rcases hr k e.symm with e | e
    · exact hn e
    · omega)).trans (h.block k hk hn)⟩
theorem Only.own {W w' : World} {g B n size : Nat} {e : TypeId} {v : Value} {xs : List Value} (h : W.ownsRow B e size v n xs) (ho : Only W w' (fun x => x = g)) (hg : g < B) : w'.ownsRow B e size v n xs := by
  refine ⟨h.1, ?_⟩
  rcases h.2 with h2 | ⟨q, cap, cur, hv, hb, hr, h3⟩
  · exact .inl h2
  · exact .inr ⟨q, cap, cur, hv, hb, ho.row hr (by omega), h3⟩
theorem own_nil {w : World} (B size : Nat) (e : TypeId) : w.ownsRow B e size (.slice none 0 0) 0 [] := ⟨by simp, .inl ⟨rfl, rfl⟩⟩
/-- some values, read one after the other -/
def rdl {α : Type} (one : List UInt8 → Option (α × List UInt8)) : Nat → List UInt8 → Option (List α × List UInt8)
  | 0, l => some ([], l)
  | n + 1, l => match one l with
    | some (v, t) => (match rdl one n t with | some (vs, t') => some (v :: vs, t') | none => none)
    | none => none
/-- a list, read -/
def lsr {α : Type} (one : List UInt8 → Option (α × List UInt8)) (l : List UInt8) : Option (List α × List UInt8) := match siz 91 l with
  | some (n, t) => (match rdl one n t with | some (vs, 93 :: t') => some (vs, t') | _ => none)
  | none => none
theorem untl_short {e : UInt8} {l t : List UInt8} {v : Int} (h : untl e l = some (v, t)) : t.length < l.length := by
  obtain ⟨h1, _⟩ := untl_some h
  rw [h1, List.length_append, List.length_cons]
  omega
theorem txr_short {l t : List UInt8} {v : List UInt8} (h : txr l = some (v, t)) : t.length < l.length := by
  unfold txr at h
  cases hs : siz 58 l with
  | none => rw [hs] at h; cases h
  | some y =>
    obtain ⟨n, t'⟩ := y
    obtain ⟨h1, _⟩ := siz_some hs
    rw [hs] at h
    dsimp only at h
    split at h
    · injection h with h
      injection h with e1 e2
      subst e2
      rw [h1, List.length_append, List.length_cons, List.length_drop]
      omega
    · cases h
/-- the rest of the round of a list -/
structure Lq {α : Type} (one : List UInt8 → Option (α × List UInt8)) (n : Nat) (t0 : List UInt8) (k : Nat) (vs : List α) (t : List UInt8) : Prop where
  h : rdl one n t0 = (rdl one (n - k) t).map fun y => (vs ++ y.1, y.2)
  vk : vs.length = k
  l : t.length + k ≤ t0.length
section
variable {α : Type} {one : List UInt8 → Option (α × List UInt8)} {n k : Nat} {t0 t t' : List UInt8} {vs : List α} {v : α}
theorem Lq.start (n : Nat) (t0 : List UInt8) : Lq one n t0 0 [] t0 := ⟨by cases h : rdl one n t0 <;> simp [h], rfl, Nat.le_refl _⟩
theorem Lq.next (h : Lq one n t0 k vs t) (hk : k < n) (ho : one t = some (v, t')) (hs : t'.length < t.length) : Lq one n t0 (k + 1) (vs ++ [v]) t' := by
  refine ⟨?_, by rw [List.length_append, h.vk]; rfl, by have := h.l; omega⟩
  rw [h.h]
  obtain ⟨m, hm⟩ : ∃ m, n - k = m + 1 := ⟨n - k - 1, by omega⟩
  rw [hm, show n - (k + 1) = m by omega]
  simp only [rdl, ho]
  cases hr : rdl one m t' with
  | none => rfl
  | some y => simp
theorem Lq.no (h : Lq one n t0 k vs t) (hk : k < n) (ho : one t = none) : rdl one n t0 = none := by
  rw [h.h]
  obtain ⟨m, hm⟩ : ∃ m, n - k = m + 1 := ⟨n - k - 1, by omega⟩
  rw [hm]
  simp only [rdl, ho]
  rfl
theorem Lq.done (h : Lq one n t0 n vs t) : rdl one n t0 = some (vs, t) := by
  rw [h.h, Nat.sub_self]
  simp [rdl]
end
set_option maxRecDepth 100000 in
set_option maxHeartbeats 8000000 in
theorem int_list {w0 W : World} {g : Nat} {s : ByteArray} {f : Bool} (h : Rd W g s f) (hf : f = true → s.data.toList = []) (hs : s.size ≤ 1000000000) (hE : En w0 W) (hg0 : w0.heap.size ≤ g) :
    Calls Tryd.prog 55 #[.pointer (some ⟨g, 0, none⟩), .func (.func 26) #[.pointer (some ⟨g, 0, none⟩)] #[]] W fun e w' =>
      (∃ vs t A c, lsr (untl 59) s.data.toList = some (vs, t) ∧ e = .returned (.slice A vs.length c) ∧ Rd w' g ⟨t.toArray⟩ f ∧ w'.ownsRow W.heap.size 3 1 (.slice A vs.length c) vs.length (vs.map (fun n => Value.int .i64 n)) ∧ Only W w' (fun x => x = g)) ∨
      (lsr (untl 59) s.data.toList = none ∧ e = .returned (.slice none 0 0) ∧ Rd w' g ⟨#[]⟩ true ∧ Only W w' (fun x => x = g)) := by
  have hlen : s.data.toList.length ≤ 1000000000 := hs
  have HU := Lib.hid (size_any (c := 91) h hs hE.pt hE.e2 hE.e3)
  have hg := Row.lt h
  have HH := Lib.hid h
  have HE := Lib.hid hE
  have HG0 := Lib.hid hg0
  obtain ⟨i0, hi0, hz0, hz1, hz2⟩ := info_parts' infoI
  clear h hE hg0
  go_enter Tryd.func55, Tryd.ntmps55
  go_wp2_with (fail)
  go_must (refine HU.out.mono ?_)
  rintro e w1 (⟨n, t, hu, rfl, hr, ho⟩ | ⟨hu, rfl, hr, ho⟩)
  · have hu : siz 91 s.data.toList = some (n, t) := hu
    obtain ⟨hsp, hn⟩ := siz_some hu
    have hf0 : f = false := by
      cases hq : f
      · rfl
      · rw [hf hq] at hu; cases hu
    subst hf0
    have htl : t.length ≤ 1000000000 := by rw [hsp, List.length_append, List.length_cons] at hlen; omega
    have HU1 := Lib.hid hu
    have HR := Lib.hid hr
    have HO := Lib.hid ho
    have hnI : (n : Int) ≤ 9223372036854775807 := by omega
    clear hr ho hu hsp hlen hf hs
    dsimp only
    go_wp2
    go_loopw [7, 17] (fun v iv wr => ∃ (k : Nat) (vs : List Int) (t' : List UInt8), k ≤ n ∧ iv = .int .i64 k ∧ Hid (Lq (untl 59) n t k vs t') ∧ Hid (wr.ownsRow W.heap.size 3 1 v vs.length (vs.map (fun n => Value.int .i64 n))) ∧ Hid (Rd wr g ⟨t'.toArray⟩ false) ∧ Hid (Only W wr (fun x => x = g))) (fun _ iv _ => n - (RowKit.intOf iv).toNat)
    case atStart => exact ⟨0, [], t, Nat.zero_le _, rfl, Lib.hid (Lq.start n t), Lib.hid (own_nil _ _ _), HR, HO⟩
    case round =>
      obtain ⟨k, vs, t', hk, rfl, HQ, HW, HRr, HOr⟩ := hrel
      have k0 : (0 : Int) ≤ (k : Int) := by omega
      by_cases hlt : k < n
      · have hltI : (k : Int) < (n : Int) := by omega
        have hvk := HQ.out.vk
        have hql := HQ.out.l
        have hz : (⟨t'.toArray⟩ : ByteArray).size = t'.length := by simp [ByteArray.size]
        have HEr := Lib.hid (HE.out.only HOr.out HG0.out)
        go_wp2_with (fail)
        go_must (refine (int_any HRr.out (by rw [hz]; omega) HEr.out.pt HEr.out.e2 HEr.out.e3).mono ?_)
        rintro e w2 (⟨v, t'', hv, rfl, hr2, ho2⟩ | ⟨hv, rfl, hr2, ho2⟩)
        · have hv : (untl 59) t' = some (v, t'') := hv
          have HQ2 := Lib.hid (HQ.out.next hlt hv (untl_short hv))
          have HR2 := Lib.hid hr2
          have HO2 := Lib.hid (HOr.out.then ho2)
          have HW2 := Lib.hid (Only.own HW.out ho2 hg)
          have d1 := Row.cell hr2 1
          have hWs := HO2.out.size
          have hvl : vs.length ≤ 1000000000 := by omega
          clear hr2 ho2 hv hz hql hvk
          obtain ⟨Al, cl, rfl, _⟩ := Gen.own_slice HW2.out
          dsimp only
          go_wp2_with (first
            | (at_builtin
               go_must (refine App.wpList_append_any _ rfl (.tmp 25) (.tmp 27) _ rfl W.heap.size 3 i0 _ 1 8 Tryd.underlying22 hi0 hz0 hz1 hz2 rfl (by omega) (.slice Al vs.length cl) vs.length (vs.map (fun n => Value.int .i64 n)) rfl (Gen.own_keep HW2.out (Gen.b_alloc (Below.refl _ _))) (w2.heap.size + 1) (some ⟨w2.heap.size, 0, none⟩) 1 1 [(fun n => Value.int .i64 n) v] rfl (Gen.reads_blk rfl rfl) (by simp [Value.oneCell']) (by simp only [maxLen]; omega) (by omega) (by simp; omega) ?_
                        intro v5 w5 hown5 hg5 hat5
                        have ho5 : w5.ownsRow W.heap.size 3 1 v5 (vs.length + 1) ((vs ++ [v]).map (fun n => Value.int .i64 n)) := by
                          rw [List.map_append]; exact hown5
                        have hb5 : Only W w5 (fun x => x = g) := (HO2.out.more (Gen.b_alloc (Below.refl _ _))).grown hg5 (fun q hq => .inr (HW2.out.lt q hq).1)
                        have hr5 : Rd w5 g ⟨t''.toArray⟩ false := (hg5.block g (by simp; omega) (fun e => by have := (HW2.out.lt g e.symm).1; omega)).trans (Row.alloc HR2.out _)
                        have HR5 := Lib.hid hr5
                        obtain ⟨A5, c5, rfl, _⟩ := Gen.own_slice ho5
                        have HO5 := Lib.hid (show w5.ownsRow W.heap.size 3 1 (.slice A5 (vs.length + 1) c5) (vs ++ [v]).length ((vs ++ [v]).map (fun n => Value.int .i64 n)) from by rw [List.length_append]; exact ho5)
                        have HB5 := Lib.hid hb5
                        clear hown5 hg5 hat5 hb5 ho5 hr5))
            | fail)
          go_roundw
          case rel => exact ⟨k + 1, vs ++ [v], t'', by omega, by go_num, HQ2, HO5, HR5, HB5⟩
          case measure => simp [RowKit.intOf]; omega
        · have hv : (untl 59) t' = none := hv
          have HX := Lib.hid (show lsr (untl 59) s.data.toList = none by unfold lsr; rw [HU1.out]; dsimp only; rw [HQ.out.no hlt hv])
          have HR2 := Lib.hid hr2
          have HO2 := Lib.hid (HOr.out.then ho2)
          have d1 := Row.cell hr2 1
          clear hr2 ho2 hv
          dsimp only
          go_wp2
          go_ret
          exact .inr ⟨HX.out, rfl, HR2.out, HO2.out⟩
      · obtain rfl : k = n := by omega
        have HD := Lib.hid HQ.out.done
        have d0 := Row.cell HRr.out 0
        have f0 := Row.frozen HRr.out 0
        have hql := HQ.out.l
        obtain ⟨Al, cl, rfl, _⟩ := Gen.own_slice HW.out
        have hFail : lsr (untl 59) s.data.toList = none → Calls Tryd.prog 52 #[.pointer (some ⟨g, 0, none⟩)] wr fun e w' => (∃ v, e = .returned v) ∧ lsr (untl 59) s.data.toList = none ∧ Rd w' g ⟨#[]⟩ true ∧ Only W w' (fun x => x = g) := fun hn =>
          (fail_any HRr.out).mono fun e w' ⟨hv, hr, ho⟩ => ⟨hv, hn, hr, HOr.out.then ho⟩
        have HF := Lib.hid hFail
        clear hFail
        cases t' with
        | nil =>
          have HN : Hid (lsr (untl 59) s.data.toList = none) := Lib.hid (by unfold lsr; rw [HU1.out]; dsimp only; rw [HD.out]; try rfl)
          go_wp2_with (fail)
          go_must (refine (HF.out HN.out).mono ?_)
          rintro e w2 ⟨⟨v', rfl⟩, hY⟩
          have HY := Lib.hid hY
          clear hY
          go_wp2
          go_ret
          exact .inr ⟨HY.out.1, rfl, HY.out.2⟩
        | cons c t'' =>
          have hz : (⟨(c :: t'').toArray⟩ : ByteArray).size = t''.length + 1 := by simp [ByteArray.size]
          have hb := byte_is (t := c :: t'') (n := 0) (by rw [hz]; omega) 93
          have z1 : (1 : Int) ≤ (t''.length : Int) + 1 := by omega
          by_cases h93 : c = 93
          · subst h93
            have hbf : ((((⟨((93 : UInt8) :: t'').toArray⟩ : ByteArray)[0]'(by rw [hz]; omega)).toNat : Int) != 93) = false := hb.2 rfl
            have HX : Hid (lsr (untl 59) s.data.toList = some (vs, t'')) := Lib.hid (by unfold lsr; rw [HU1.out]; dsimp only; rw [HD.out]; first | rfl | simp)
            have HR9 := Lib.hid (show Rd (wr.setCell ⟨g, 0, none⟩ (.string ((⟨((93 : UInt8) :: t'').toArray⟩ : ByteArray).extract 1 (⟨((93 : UInt8) :: t'').toArray⟩ : ByteArray).size))) g ⟨t''.toArray⟩ false from by
              rw [show (⟨t''.toArray⟩ : ByteArray) = (⟨((93 : UInt8) :: t'').toArray⟩ : ByteArray).extract 1 (⟨((93 : UInt8) :: t'').toArray⟩ : ByteArray).size from str_eq (by rw [ext_end]; rfl)]
              exact Row.set HRr.out 0 _)
            have HO9 := Lib.hid (show Only W (wr.setCell ⟨g, 0, none⟩ (.string ((⟨((93 : UInt8) :: t'').toArray⟩ : ByteArray).extract 1 (⟨((93 : UInt8) :: t'').toArray⟩ : ByteArray).size))) (fun x => x = g) from HOr.out.set (p := ⟨g, 0, none⟩) (.inl rfl) _)
            have HW9 := Lib.hid (Only.own HW.out (Only.set (R := fun x => x = g) (p := ⟨g, 0, none⟩) (Only.refl wr _) (.inl rfl) (.string ((⟨((93 : UInt8) :: t'').toArray⟩ : ByteArray).extract 1 (⟨((93 : UInt8) :: t'').toArray⟩ : ByteArray).size))) hg)
            clear hb
            go_wp2
            go_ret
            exact .inl ⟨vs, t'', Al, cl, HX.out, rfl, HR9.out, HW9.out, HO9.out⟩
          · have hbt : ((((⟨(c :: t'').toArray⟩ : ByteArray)[0]'(by rw [hz]; omega)).toNat : Int) != 93) = true := by
              cases hx : ((((⟨(c :: t'').toArray⟩ : ByteArray)[0]'(by rw [hz]; omega)).toNat : Int) != 93)
              · have := hb.1 hx
                simp at this
                exact absurd this h93
              · rfl
            have HN : Hid (lsr (untl 59) s.data.toList = none) := Lib.hid (by
              unfold lsr
              rw [HU1.out]
              dsimp only
              rw [HD.out]
              split
              · rename_i h
                injection h with h
                injection h with _ h
                injection h with h _
                exact absurd h h93
              · rfl)
            clear hb
            go_wp2_with (fail)
            go_must (refine (HF.out HN.out).mono ?_)
            rintro e w2 ⟨⟨v', rfl⟩, hY⟩
            have HY := Lib.hid hY
            clear hY
            go_wp2
            go_ret
            exact .inr ⟨HY.out.1, rfl, HY.out.2⟩
  · have HX := Lib.hid (show lsr (untl 59) s.data.toList = none by unfold lsr; rw [show siz 91 s.data.toList = none from hu])
    have HR := Lib.hid hr
    have HO := Lib.hid ho
    clear hr ho hu
    dsimp only
    go_wp2
    go_ret
    exact .inr ⟨HX.out, rfl, HR.out, HO.out⟩
set_option maxRecDepth 100000 in
set_option maxHeartbeats 8000000 in
theorem string_list {w0 W : World} {g : Nat} {s : ByteArray} {f : Bool} (h : Rd W g s f) (hf : f = true → s.data.toList = []) (hs : s.size ≤ 1000000000) (hE : En w0 W) (hg0 : w0.heap.size ≤ g) :
    Calls Tryd.prog 56 #[.pointer (some ⟨g, 0, none⟩), .func (.func 28) #[.pointer (some ⟨g, 0, none⟩)] #[]] W fun e w' =>
      (∃ vs t A c, lsr txr s.data.toList = some (vs, t) ∧ e = .returned (.slice A vs.length c) ∧ Rd w' g ⟨t.toArray⟩ f ∧ w'.ownsRow W.heap.size 9 1 (.slice A vs.length c) vs.length (vs.map (fun l => Value.string ⟨l.toArray⟩)) ∧ Only W w' (fun x => x = g)) ∨
      (lsr txr s.data.toList = none ∧ e = .returned (.slice none 0 0) ∧ Rd w' g ⟨#[]⟩ true ∧ Only W w' (fun x => x = g)) := by
  have hlen : s.data.toList.length ≤ 1000000000 := hs
  have HU := Lib.hid (size_any (c := 91) h hs hE.pt hE.e2 hE.e3)
  have hg := Row.lt h
  have HH := Lib.hid h
  have HE := Lib.hid hE
  have HG0 := Lib.hid hg0
  obtain ⟨i0, hi0, hz0, hz1, hz2⟩ := info_parts' infoS
  clear h hE hg0
  go_enter Tryd.func56, Tryd.ntmps56
  go_wp2_with (fail)
  go_must (refine HU.out.mono ?_)
  rintro e w1 (⟨n, t, hu, rfl, hr, ho⟩ | ⟨hu, rfl, hr, ho⟩)
  · have hu : siz 91 s.data.toList = some (n, t) := hu
    obtain ⟨hsp, hn⟩ := siz_some hu
    have hf0 : f = false := by
      cases hq : f
      · rfl
      · rw [hf hq] at hu; cases hu
    subst hf0
    have htl : t.length ≤ 1000000000 := by rw [hsp, List.length_append, List.length_cons] at hlen; omega
    have HU1 := Lib.hid hu
    have HR := Lib.hid hr
    have HO := Lib.hid ho
    have hnI : (n : Int) ≤ 9223372036854775807 := by omega
    clear hr ho hu hsp hlen hf hs
    dsimp only
    go_wp2
    go_loopw [7, 17] (fun v iv wr => ∃ (k : Nat) (vs : List (List UInt8)) (t' : List UInt8), k ≤ n ∧ iv = .int .i64 k ∧ Hid (Lq txr n t k vs t') ∧ Hid (wr.ownsRow W.heap.size 9 1 v vs.length (vs.map (fun l => Value.string ⟨l.toArray⟩))) ∧ Hid (Rd wr g ⟨t'.toArray⟩ false) ∧ Hid (Only W wr (fun x => x = g))) (fun _ iv _ => n - (RowKit.intOf iv).toNat)
    case atStart => exact ⟨0, [], t, Nat.zero_le _, rfl, Lib.hid (Lq.start n t), Lib.hid (own_nil _ _ _), HR, HO⟩
    case round =>
      obtain ⟨k, vs, t', hk, rfl, HQ, HW, HRr, HOr⟩ := hrel
      have k0 : (0 : Int) ≤ (k : Int) := by omega
      by_cases hlt : k < n
      · have hltI : (k : Int) < (n : Int) := by omega
        have hvk := HQ.out.vk
        have hql := HQ.out.l
        have hz : (⟨t'.toArray⟩ : ByteArray).size = t'.length := by simp [ByteArray.size]
        have HEr := Lib.hid (HE.out.only HOr.out HG0.out)
        go_wp2_with (fail)
        go_must (refine (text_any HRr.out (by rw [hz]; omega) HEr.out.pt HEr.out.e2 HEr.out.e3).mono ?_)
        rintro e w2 (⟨v, t'', hv, rfl, hr2, ho2⟩ | ⟨hv, rfl, hr2, ho2⟩)
        · have hv : txr t' = some (v, t'') := hv
          have HQ2 := Lib.hid (HQ.out.next hlt hv (txr_short hv))
          have HR2 := Lib.hid hr2
          have HO2 := Lib.hid (HOr.out.then ho2)
          have HW2 := Lib.hid (Only.own HW.out ho2 hg)
          have d1 := Row.cell hr2 1
          have hWs := HO2.out.size
          have hvl : vs.length ≤ 1000000000 := by omega
          clear hr2 ho2 hv hz hql hvk
          obtain ⟨Al, cl, rfl, _⟩ := Gen.own_slice HW2.out
          dsimp only
          go_wp2_with (first
            | (at_builtin
               go_must (refine App.wpList_append_any _ rfl (.tmp 25) (.tmp 27) _ rfl W.heap.size 9 i0 _ 1 16 Tryd.underlying23 hi0 hz0 hz1 hz2 rfl (by omega) (.slice Al vs.length cl) vs.length (vs.map (fun l => Value.string ⟨l.toArray⟩)) rfl (Gen.own_keep HW2.out (Gen.b_alloc (Below.refl _ _))) (w2.heap.size + 1) (some ⟨w2.heap.size, 0, none⟩) 1 1 [(fun l => Value.string ⟨l.toArray⟩) v] rfl (Gen.reads_blk rfl rfl) (by simp [Value.oneCell']) (by simp only [maxLen]; omega) (by omega) (by simp; omega) ?_
                        intro v5 w5 hown5 hg5 hat5
                        have ho5 : w5.ownsRow W.heap.size 9 1 v5 (vs.length + 1) ((vs ++ [v]).map (fun l => Value.string ⟨l.toArray⟩)) := by
                          rw [List.map_append]; exact hown5
                        have hb5 : Only W w5 (fun x => x = g) := (HO2.out.more (Gen.b_alloc (Below.refl _ _))).grown hg5 (fun q hq => .inr (HW2.out.lt q hq).1)
                        have hr5 : Rd w5 g ⟨t''.toArray⟩ false := (hg5.block g (by simp; omega) (fun e => by have := (HW2.out.lt g e.symm).1; omega)).trans (Row.alloc HR2.out _)
                        have HR5 := Lib.hid hr5
                        obtain ⟨A5, c5, rfl, _⟩ := Gen.own_slice ho5
                        have HO5 := Lib.hid (show w5.ownsRow W.heap.size 9 1 (.slice A5 (vs.length + 1) c5) (vs ++ [v]).length ((vs ++ [v]).map (fun l => Value.string ⟨l.toArray⟩)) from by rw [List.length_append]; exact ho5)
                        have HB5 := Lib.hid hb5
                        clear hown5 hg5 hat5 hb5 ho5 hr5))
            | fail)
          go_roundw
          case rel => exact ⟨k + 1, vs ++ [v], t'', by omega, by go_num, HQ2, HO5, HR5, HB5⟩
          case measure => simp [RowKit.intOf]; omega
        · have hv : txr t' = none := hv
          have HX := Lib.hid (show lsr txr s.data.toList = none by unfold lsr; rw [HU1.out]; dsimp only; rw [HQ.out.no hlt hv])
          have HR2 := Lib.hid hr2
          have HO2 := Lib.hid (HOr.out.then ho2)
          have d1 := Row.cell hr2 1
          clear hr2 ho2 hv
          dsimp only
          go_wp2
          go_ret
          exact .inr ⟨HX.out, rfl, HR2.out, HO2.out⟩
      · obtain rfl : k = n := by omega
        have HD := Lib.hid HQ.out.done
        have d0 := Row.cell HRr.out 0
        have f0 := Row.frozen HRr.out 0
        have hql := HQ.out.l
        obtain ⟨Al, cl, rfl, _⟩ := Gen.own_slice HW.out
        have hFail : lsr txr s.data.toList = none → Calls Tryd.prog 52 #[.pointer (some ⟨g, 0, none⟩)] wr fun e w' => (∃ v, e = .returned v) ∧ lsr txr s.data.toList = none ∧ Rd w' g ⟨#[]⟩ true ∧ Only W w' (fun x => x = g) := fun hn =>
          (fail_any HRr.out).mono fun e w' ⟨hv, hr, ho⟩ => ⟨hv, hn, hr, HOr.out.then ho⟩
        have HF := Lib.hid hFail
        clear hFail
        cases t' with
        | nil =>
          have HN : Hid (lsr txr s.data.toList = none) := Lib.hid (by unfold lsr; rw [HU1.out]; dsimp only; rw [HD.out]; try rfl)
          go_wp2_with (fail)
          go_must (refine (HF.out HN.out).mono ?_)
          rintro e w2 ⟨⟨v', rfl⟩, hY⟩
          have HY := Lib.hid hY
          clear hY
          go_wp2
          go_ret
          exact .inr ⟨HY.out.1, rfl, HY.out.2⟩
        | cons c t'' =>
          have hz : (⟨(c :: t'').toArray⟩ : ByteArray).size = t''.length + 1 := by simp [ByteArray.size]
          have hb := byte_is (t := c :: t'') (n := 0) (by rw [hz]; omega) 93
          have z1 : (1 : Int) ≤ (t''.length : Int) + 1 := by omega
          by_cases h93 : c = 93
          · subst h93
            have hbf : ((((⟨((93 : UInt8) :: t'').toArray⟩ : ByteArray)[0]'(by rw [hz]; omega)).toNat : Int) != 93) = false := hb.2 rfl
            have HX : Hid (lsr txr s.data.toList = some (vs, t'')) := Lib.hid (by unfold lsr; rw [HU1.out]; dsimp only; rw [HD.out]; first | rfl | simp)
            have HR9 := Lib.hid (show Rd (wr.setCell ⟨g, 0, none⟩ (.string ((⟨((93 : UInt8) :: t'').toArray⟩ : ByteArray).extract 1 (⟨((93 : UInt8) :: t'').toArray⟩ : ByteArray).size))) g ⟨t''.toArray⟩ false from by
              rw [show (⟨t''.toArray⟩ : ByteArray) = (⟨((93 : UInt8) :: t'').toArray⟩ : ByteArray).extract 1 (⟨((93 : UInt8) :: t'').toArray⟩ : ByteArray).size from str_eq (by rw [ext_end]; rfl)]
              exact Row.set HRr.out 0 _)
            have HO9 := Lib.hid (show Only W (wr.setCell ⟨g, 0, none⟩ (.string ((⟨((93 : UInt8) :: t'').toArray⟩ : ByteArray).extract 1 (⟨((93 : UInt8) :: t'').toArray⟩ : ByteArray).size))) (fun x => x = g) from HOr.out.set (p := ⟨g, 0, none⟩) (.inl rfl) _)
            have HW9 := Lib.hid (Only.own HW.out (Only.set (R := fun x => x = g) (p := ⟨g, 0, none⟩) (Only.refl wr _) (.inl rfl) (.string ((⟨((93 : UInt8) :: t'').toArray⟩ : ByteArray).extract 1 (⟨((93 : UInt8) :: t'').toArray⟩ : ByteArray).size))) hg)
            clear hb
            go_wp2
            go_ret
            exact .inl ⟨vs, t'', Al, cl, HX.out, rfl, HR9.out, HW9.out, HO9.out⟩
          · have hbt : ((((⟨(c :: t'').toArray⟩ : ByteArray)[0]'(by rw [hz]; omega)).toNat : Int) != 93) = true := by
              cases hx : ((((⟨(c :: t'').toArray⟩ : ByteArray)[0]'(by rw [hz]; omega)).toNat : Int) != 93)
              · have := hb.1 hx
                simp at this
                exact absurd this h93
              · rfl
            have HN : Hid (lsr txr s.data.toList = none) := Lib.hid (by
              unfold lsr
              rw [HU1.out]
              dsimp only
              rw [HD.out]
              split
              · rename_i h
                injection h with h
                injection h with _ h
                injection h with h _
                exact absurd h h93
              · rfl)
            clear hb
            go_wp2_with (fail)
            go_must (refine (HF.out HN.out).mono ?_)
            rintro e w2 ⟨⟨v', rfl⟩, hY⟩
            have HY := Lib.hid hY
            clear hY
            go_wp2
            go_ret
            exact .inr ⟨HY.out.1, rfl, HY.out.2⟩
  · have HX := Lib.hid (show lsr txr s.data.toList = none by unfold lsr; rw [show siz 91 s.data.toList = none from hu])
    have HR := Lib.hid hr
    have HO := Lib.hid ho
    clear hr ho hu
    dsimp only
    go_wp2
    go_ret
    exact .inr ⟨HX.out, rfl, HR.out, HO.out⟩
set_option maxRecDepth 100000 in
set_option maxHeartbeats 4000000 in
theorem nums_any {w0 W : World} {g : Nat} {s : ByteArray} {f : Bool} (h : Rd W g s f) (hf : f = true → s.data.toList = []) (hs : s.size ≤ 1000000000) (hE : En w0 W) (hg0 : w0.heap.size ≤ g) :
    Calls Tryd.prog 31 #[.pointer (some ⟨g, 0, none⟩)] W fun e w' =>
      (∃ vs t A c, lsr (untl 59) s.data.toList = some (vs, t) ∧ e = .returned (.slice A vs.length c) ∧ Rd w' g ⟨t.toArray⟩ f ∧ w'.ownsRow W.heap.size 3 1 (.slice A vs.length c) vs.length (vs.map (fun n => Value.int .i64 n)) ∧ Only W w' (fun x => x = g)) ∨
      (lsr (untl 59) s.data.toList = none ∧ e = .returned (.slice none 0 0) ∧ Rd w' g ⟨#[]⟩ true ∧ Only W w' (fun x => x = g)) := by
  have HU := Lib.hid (int_list h hf hs hE hg0)
  clear h hf hs hE hg0
  go_enter Tryd.func31, Tryd.ntmps31
  go_wp2_with (fail)
  go_must (refine HU.out.mono ?_)
  rintro e w1 (⟨vs, t, A, c, h1, rfl, h2, h3, h4⟩ | ⟨h1, rfl, h2, h3⟩)
  · have HX := Lib.hid (And.intro h1 (And.intro h2 (And.intro h3 h4)))
    clear h1 h2 h3 h4
    dsimp only
    go_wp2
    go_ret
    exact .inl ⟨vs, t, A, c, HX.out.1, rfl, HX.out.2.1, HX.out.2.2.1, HX.out.2.2.2⟩
  · have HX := Lib.hid (And.intro h1 (And.intro h2 h3))
    clear h1 h2 h3
    dsimp only
    go_wp2
    go_ret
    exact .inr ⟨HX.out.1, rfl, HX.out.2⟩
set_option maxRecDepth 100000 in
set_option maxHeartbeats 4000000 in
theorem texts_any {w0 W : World} {g : Nat} {s : ByteArray} {f : Bool} (h : Rd W g s f) (hf : f = true → s.data.toList = []) (hs : s.size ≤ 1000000000) (hE : En w0 W) (hg0 : w0.heap.size ≤ g) :
    Calls Tryd.prog 34 #[.pointer (some ⟨g, 0, none⟩)] W fun e w' =>
      (∃ vs t A c, lsr txr s.data.toList = some (vs, t) ∧ e = .returned (.slice A vs.length c) ∧ Rd w' g ⟨t.toArray⟩ f ∧ w'.ownsRow W.heap.size 9 1 (.slice A vs.length c) vs.length (vs.map (fun l => Value.string ⟨l.toArray⟩)) ∧ Only W w' (fun x => x = g)) ∨
      (lsr txr s.data.toList = none ∧ e = .returned (.slice none 0 0) ∧ Rd w' g ⟨#[]⟩ true ∧ Only W w' (fun x => x = g)) := by
  have HU := Lib.hid (string_list h hf hs hE hg0)
  clear h hf hs hE hg0
  go_enter Tryd.func34, Tryd.ntmps34
  go_wp2_with (fail)
  go_must (refine HU.out.mono ?_)
  rintro e w1 (⟨vs, t, A, c, h1, rfl, h2, h3, h4⟩ | ⟨h1, rfl, h2, h3⟩)
  · have HX := Lib.hid (And.intro h1 (And.intro h2 (And.intro h3 h4)))
    clear h1 h2 h3 h4
    dsimp only
    go_wp2
    go_ret
    exact .inl ⟨vs, t, A, c, HX.out.1, rfl, HX.out.2.1, HX.out.2.2.1, HX.out.2.2.2⟩
  · have HX := Lib.hid (And.intro h1 (And.intro h2 h3))
    clear h1 h2 h3
    dsimp only
    go_wp2
    go_ret
    exact .inr ⟨HX.out.1, rfl, HX.out.2⟩
set_option maxRecDepth 100000 in
set_option maxHeartbeats 4000000 in
theorem rest_any {W : World} {g : Nat} {s : ByteArray} {f : Bool} (h : Rd W g s f) :
    Calls Tryd.prog 40 #[.pointer (some ⟨g, 0, none⟩)] W fun e w' => e = .returned (.string s) ∧ Rd w' g ⟨#[]⟩ f ∧ Only W w' (fun x => x = g) := by
  have d0 := Row.cell h 0
  have f0 := Row.frozen h 0
  have HX := Lib.hid (show Rd (W.setCell ⟨g, 0, none⟩ (.string ⟨#[]⟩)) g ⟨#[]⟩ f ∧ Only W (W.setCell ⟨g, 0, none⟩ (.string ⟨#[]⟩)) (fun x => x = g) from ⟨Row.set h 0 _, Only.set (R := fun b => b = g) (p := ⟨g, 0, none⟩) (Only.refl W _) (.inl rfl) _⟩)
  clear h
  go_enter Tryd.func40, Tryd.ntmps40
  go_wp2
  go_ret
  exact ⟨rfl, HX.out⟩
set_option maxRecDepth 100000 in
set_option maxHeartbeats 4000000 in
theorem left_any {W : World} {g : Nat} {s : ByteArray} {f : Bool} (h : Rd W g s f) :
    Calls Tryd.prog 36 #[.pointer (some ⟨g, 0, none⟩)] W fun e w' => e = .returned (.int .i64 (s.size : Int)) ∧ w' = W := by
  have d0 := Row.cell h 0
  clear h
  go_enter Tryd.func36, Tryd.ntmps36
  go_wp2
  go_ret
  exact ⟨rfl, rfl⟩
set_option maxRecDepth 100000 in
set_option maxHeartbeats 4000000 in
theorem done_any {W : World} {g : Nat} {l : List UInt8} {f : Bool} (h : Rd W g ⟨l.toArray⟩ f) :
    Calls Tryd.prog 38 #[.pointer (some ⟨g, 0, none⟩)] W fun e w' => e = .returned (.bool (!f && l.isEmpty)) ∧ w' = W := by
  have d0 := Row.cell h 0
  have d1 := Row.cell h 1
  clear h
  go_enter Tryd.func38, Tryd.ntmps38
  cases f <;> cases l
  all_goals
    go_wp2
    go_ret
    first | exact ⟨rfl, rfl⟩ | trace_state
set_option maxRecDepth 100000 in
set_option maxHeartbeats 4000000 in
theorem wopen_any {W : World} {s : ByteArray} :
    Calls Tryd.prog 21 #[.string s] W fun e w' => ∃ g, e = .returned (.pointer (some ⟨g, 0, none⟩)) ∧ W.heap.size ≤ g ∧ Rd w' g s false ∧ Below W.heap.size W w' := by
  go_enter Tryd.func21, Tryd.ntmps21
  go_wp2
  go_ret
  exact ⟨W.heap.size, rfl, Nat.le_refl _, Row.new _ _ _, Gen.b_alloc (Below.refl _ _)⟩
end Go.Proofs.YtapcfnlononniaaDoor.Wr
