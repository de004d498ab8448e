/- Restatements: the reference's Add. -/
import Derived.Test.YtohbdffmidbjhaaRrA
import Derived.Test.YtohbdffmidbjhaaRsL
import Derived.Deep.RegionLaw
namespace Go.Proofs.Ytohbdffmidbjhaa.Re
open Go.ChangeShapes Go.WideShapes Go.ChangeAt Go.RowKit Go.Maps Go.Proofs.Ytohbdffmidbjhaa.Cell Go.Proofs.Ytohbdffmidbjhaa.Rk
set_option linter.unusedVariables false
set_option linter.unusedSimpArgs false
theorem p2_one (l : List (Int × Int)) : ∀ u ∈ l.flatMap p2, u.oneCell' = true := fun u hu => by
  obtain ⟨x, _, hx⟩ := List.mem_flatMap.1 hu
  simp [p2] at hx
  rcases hx with rfl | rfl <;> rfl
theorem addL_new : ∀ {l : List (Int × Int)} {k : Nat} {s x : Int}, (∀ p ∈ l.take k, p.1 < s) → k ≤ l.length → (∀ p, l[k]? = some p → s < p.1) → addL l s x = l.take k ++ (s, x) :: l.drop k
  | [], k, s, x, _, hk, _ => by
    have : k = 0 := by simpa using hk
    subst this
    rfl
  | q :: l, 0, s, x, _, _, h => by
    have := h q rfl
    unfold addL
    rw [if_neg (by omega), if_neg (by omega)]
    rfl
  | q :: l, k + 1, s, x, h1, hk, h => by
    have hq := h1 q (by simp)
    unfold addL
    rw [if_pos hq, addL_new (k := k) (fun p hp => h1 p (by simp [hp])) (by simpa using hk) (fun p hp => h p (by simpa using hp))]
    rfl
theorem addL_old : ∀ {l : List (Int × Int)} {k : Nat} {s x y : Int}, (∀ p ∈ l.take k, p.1 < s) → l[k]? = some (s, y) → addL l s x = l.set k (s, y + x)
  | [], k, s, x, y, _, h => by simp at h
  | q :: l, 0, s, x, y, _, h => by
    obtain rfl : q = (s, y) := by simpa using h
    unfold addL
    rw [if_neg (by dsimp only; omega), if_pos rfl]
    rfl
  | q :: l, k + 1, s, x, y, h1, h => by
    have hq := h1 q (by simp)
    unfold addL
    rw [if_pos hq, addL_old (k := k) (fun p hp => h1 p (by simp [hp])) (by simpa using h)]
    rfl
/-- what Add returns -/
def AddP (w : World) (L : List (Int × Int)) (e : Ending) (w' : World) : Prop := ∃ B m c, L.length = m ∧ e = .returned (.slice B m c) ∧ w'.ownsRow w.heap.size 48 2 (.slice B m c) m (L.flatMap p2) ∧ Below w.heap.size w w'
section
variable {w w9 : World} {A : Option Addr} {q cap3 kk : Nat} {s x : Int} {P Q L : List (Int × Int)}
variable {x3 x4 x5 x6 x8 x9 x10 x11 x12 x13 x14 x15 x16 x17 x18 x19 x20 x21 x22 x23 x24 x25 x26 x27 x28 x29 x30 x31 x32 x33 x34 x35 x36 x37 x38 x39 x40 x41 x42 x43 x44 x45 x46 x47 x48 x49 x50 x51 x52 x53 x54 x55 x56 x57 x58 x59 x60 x61 x62 x63 : Value}
set_option maxRecDepth 100000 in
set_option maxHeartbeats 8000000 in
theorem add_tail (HP : Hid (P.length = kk)) (HPQ : Hid ((P ++ Q).length = q)) (HR : Hid (Rs p2 2 w9 A (P ++ Q))) (hkq : kk ≤ q) (hq : q ≤ 100000) (hcap : q ≤ cap3) (HL : Hid (P ++ (s, x) :: Q = L)) (HB : Hid (Below w.heap.size w w9)) {K : Act → World → Prop} (hK : ∀ a w', Code.wp Try.prog (tailO 6 Try.f25.body) (bodyPost Try.prog Try.f25 (AddP w L)) a w' → K a w') :
    Code.wp Try.prog (headO 5 Try.f25.body) (Exit.then K (bodyPost Try.prog Try.f25 (AddP w L))) { tmps := #[.slice A q cap3, .int .i64 s, .int .i64 x, x3, x4, x5, x6, .int .i64 (kk : Int), x8, x9, x10, x11, x12, x13, x14, x15, x16, x17, x18, x19, x20, x21, x22, x23, x24, x25, x26, x27, x28, x29, x30, x31, x32, x33, x34, x35, x36, x37, x38, x39, x40, x41, x42, x43, x44, x45, x46, x47, x48, x49, x50, x51, x52, x53, x54, x55, x56, x57, x58, x59, x60, x61, x62, x63], defers := [] } w9 := by
  have HK := Lib.hid hK
  clear hK
  obtain ⟨i0, hi0, hz0, hz1, hz2⟩ := info_parts' infoS
  have hrd := rs_reads (f := p2) (K := 2) (fun _ => rfl) (by omega) HPQ.out HR.out
  have rp := reads_pre hrd hkq
  have rq := hrd.cut hkq hcap
  rw [← HP.out, (flat_cut (f := p2) (K := 2) (fun _ => rfl) P Q).1] at rp
  rw [← HP.out, (flat_cut (f := p2) (K := 2) (fun _ => rfl) P Q).2] at rq
  rw [HP.out] at rp rq
  have N1 := Lib.hid (show kk + 1 ≤ maxLen from by simp only [maxLen]; omega)
  have N2 := Lib.hid (show (kk + 1) * 16 ≤ 140737488355328 from by omega)
  have N3 := Lib.hid (show 0 + kk ≤ maxLen from by simp only [maxLen]; omega)
  have N4 := Lib.hid (show (0 + kk) * 16 ≤ 140737488355328 from by omega)
  have N5 := Lib.hid (show kk + 1 + (q - kk) ≤ maxLen from by simp only [maxLen]; omega)
  have N6 := Lib.hid (show (kk + 1 + (q - kk)) * 16 ≤ 140737488355328 from by omega)
  have NQ : kk + 1 + (q - kk) = q + 1 := by omega
  have k0 : (0 : Int) ≤ (kk : Int) := by omega
  have k1 : (kk : Int) ≤ (q : Int) := by omega
  have k2 : (kk : Int) ≤ (cap3 : Int) := by omega
  have k3 : (q : Int) ≤ (cap3 : Int) := by omega
  conv => arg 2; whnf
  by_cases hck : cap3 = kk
  all_goals
    first | rw [if_pos hck] at rq | rw [if_neg hck] at rq
    first | (have hcp3 : (cap3 = kk) = True := eq_true hck) | (have hcp3 : (cap3 = kk) = False := eq_false hck)
    clear hck
    go_region_law (first
        | (refine App.step_append_any _ (by rfl) (.tmp 50) (.tmp 53) 28 (by rfl) w9.heap.size 48 i0 _ 2 16 Try.underlying28 hi0 hz0 hz1 hz2 rfl (by omega) (.slice (some ⟨w9.heap.size, 0, none⟩) 0 0) 0 [] (by simp [Act.eval, Act.put]) (Gen.own_keep (blk0 w9 48 2) (Below.refl _ _).drew) w9.heap.size _ kk cap3 (P.flatMap p2) (by simp [Act.eval, Act.put]) (rp.alloc (Nat.le_refl _) _).drew (p2_one P) N3.out N4.out (by first | (simp; done) | (simp only [World.size_alloc, World.size_drew]; omega)) ?_; intro v2 w7 hown7 hg7 hat7; rw [List.nil_append, Nat.zero_add] at hown7; have hb7 : Below w9.heap.size w9 w7 := Gen.g_below (Gen.own_keep (blk0 w9 48 2) (Below.refl _ _).drew) hg7 ((Gen.b_alloc (Below.refl _ _)).drew) (by omega); have hs7 : w9.heap.size + 1 ≤ w7.heap.size := (by have := hg7.size; simp at this; omega))
        | (refine App.step_append_any _ (by rfl) (.tmp 50) (.tmp 53) 28 (by rfl) w9.heap.size 48 i0 _ 2 16 Try.underlying28 hi0 hz0 hz1 hz2 rfl (by omega) (.slice (some ⟨w9.heap.size, 0, none⟩) 0 0) 0 [] (by simp [Act.eval, Act.put]) (Gen.own_keep (Gen.own_keep (blk0 w9 48 2) (Gen.b_alloc (x := (.cells #[.int .i64 s, .int .i64 x] 48)) (Below.refl _ _))) (Below.refl _ _).drew) w9.heap.size _ kk cap3 (P.flatMap p2) (by simp [Act.eval, Act.put]) ((rp.alloc (Nat.le_refl _) _).alloc (by simp) _).drew (p2_one P) N3.out N4.out (by first | (simp; done) | (simp only [World.size_alloc, World.size_drew]; omega)) ?_; intro v2 w7 hown7 hg7 hat7; rw [List.nil_append, Nat.zero_add] at hown7; have hb7 : Below w9.heap.size w9 w7 := Gen.g_below (Gen.own_keep (Gen.own_keep (blk0 w9 48 2) (Gen.b_alloc (x := (.cells #[.int .i64 s, .int .i64 x] 48)) (Below.refl _ _))) (Below.refl _ _).drew) hg7 ((Gen.b_alloc (Gen.b_alloc (Below.refl _ _))).drew) (by omega); have hRB := App.Reads.of_own ((Gen.own_keep (blk1A w9 (.cells #[] 48) 48 2 #[.int .i64 s, .int .i64 x] rfl) (Below.refl _ _).drew).kept hg7 (.inr (fun c => absurd (Option.some.inj (show some (w9.heap.size + 1) = some w9.heap.size from c)) (by omega)))); have hs7 : w9.heap.size + 1 ≤ w7.heap.size := (by have := hg7.size; simp at this; omega))
        | (refine App.step_append_any _ (by rfl) (.tmp 50) (.tmp 53) 28 (by rfl) (w9.heap.size + 1) 48 i0 _ 2 16 Try.underlying28 hi0 hz0 hz1 hz2 rfl (by omega) (.slice (some ⟨(w9.heap.size + 1), 0, none⟩) 0 0) 0 [] (by simp [Act.eval, Act.put]) (Gen.own_keep (blk0A w9 (.cells #[.int .i64 s, .int .i64 x] 48) 48 2) (Below.refl _ _).drew) w9.heap.size _ kk cap3 (P.flatMap p2) (by simp [Act.eval, Act.put]) ((rp.alloc (Nat.le_refl _) _).alloc (by simp) _).drew (p2_one P) N3.out N4.out (by first | (simp; done) | (simp only [World.size_alloc, World.size_drew]; omega)) ?_; intro v2 w7 hown7 hg7 hat7; rw [List.nil_append, Nat.zero_add] at hown7; have hb7 : Below w9.heap.size w9 w7 := Gen.g_below (Gen.own_keep (blk0A w9 (.cells #[.int .i64 s, .int .i64 x] 48) 48 2) (Below.refl _ _).drew) hg7 ((Gen.b_alloc (Gen.b_alloc (Below.refl _ _))).drew) (by omega); have hRB := App.Reads.of_own ((Gen.own_keep (Gen.own_keep (blk1 w9 48 2 #[.int .i64 s, .int .i64 x] rfl) (Gen.b_alloc (Below.refl _ _))) (Below.refl _ _).drew).kept hg7 (.inr (fun c => absurd (Option.some.inj (show some w9.heap.size = some (w9.heap.size + 1) from c)) (by omega)))); have hs7 : w9.heap.size + 1 ≤ w7.heap.size := (by have := hg7.size; simp at this; omega))
        | (refine App.step_append_any _ (by rfl) (.tmp 54) (.tmp 58) 28 (by rfl) w9.heap.size 48 i0 _ 2 16 Try.underlying28 hi0 hz0 hz1 hz2 rfl (by omega) v2 kk (P.flatMap p2) (by simp [Act.eval, Act.put]) (Gen.own_keep hown7 (Gen.b_alloc (Below.refl _ _))) _ (some ⟨w7.heap.size, 0, none⟩) 1 1 [.int .i64 s, .int .i64 x] (by simp [Act.eval, Act.put]) (Gen.reads_blk rfl rfl) (by simp [Value.oneCell']) N1.out N2.out (by simp; have := hs7; omega) ?_; intro v3 w8 hown8 hg8 hat8; have hb8 : Below w9.heap.size w9 w8 := Gen.g_below hown7 hg8 (hb7.alloc hb7.size _) (by omega); have hF8 := own_base hown8 (show w9.heap.size ≤ _ from by omega); have rq8 := rq.below hb8; have hs8 := hb8.size)
        | (refine App.step_append_any _ (by rfl) (.tmp 54) (.tmp 58) 28 (by rfl) w9.heap.size 48 i0 _ 2 16 Try.underlying28 hi0 hz0 hz1 hz2 rfl (by omega) v2 kk (P.flatMap p2) (by simp [Act.eval, Act.put]) hown7 _ (some ⟨w9.heap.size + 1, 0, none⟩) 1 1 [.int .i64 s, .int .i64 x] (by simp [Act.eval, Act.put]) hRB (by simp [Value.oneCell']) N1.out N2.out (by have := hs7; omega) ?_; intro v3 w8 hown8 hg8 hat8; have hb8 : Below w9.heap.size w9 w8 := Gen.g_below hown7 hg8 (hb7) (by omega); have hF8 := own_base hown8 (show w9.heap.size ≤ _ from by omega); have rq8 := rq.below hb8; have hs8 := hb8.size)
        | (refine App.step_append_any _ (by rfl) (.tmp 54) (.tmp 58) 28 (by rfl) (w9.heap.size + 1) 48 i0 _ 2 16 Try.underlying28 hi0 hz0 hz1 hz2 rfl (by omega) v2 kk (P.flatMap p2) (by simp [Act.eval, Act.put]) hown7 _ (some ⟨w9.heap.size, 0, none⟩) 1 1 [.int .i64 s, .int .i64 x] (by simp [Act.eval, Act.put]) hRB (by simp [Value.oneCell']) N1.out N2.out (by have := hs7; omega) ?_; intro v3 w8 hown8 hg8 hat8; have hb8 : Below w9.heap.size w9 w8 := Gen.g_below hown7 hg8 (hb7) (by omega); have hF8 := own_base hown8 (show w9.heap.size ≤ _ from by omega); have rq8 := rq.below hb8; have hs8 := hb8.size)
        | (refine App.step_append_any _ (by rfl) (.tmp 59) (.tmp 62) 28 (by rfl) w9.heap.size 48 i0 _ 2 16 Try.underlying28 hi0 hz0 hz1 hz2 rfl (by omega) v3 (kk + 1) (P.flatMap p2 ++ [.int .i64 s, .int .i64 x]) (by simp [Act.eval, Act.put]) hF8 w9.heap.size _ (q - kk) (cap3 - kk) (Q.flatMap p2) (by simp [Act.eval, Act.put]) rq8 (p2_one Q) N5.out N6.out (by have := hs8; omega) ?_; intro v4 w5 hown5 hg5 hat5; have hb5 : Below w9.heap.size w9 w5 := Gen.g_below hF8 hg5 hb8 (Nat.le_refl _)))
    all_goals
      rw [NQ] at hown5
      obtain ⟨A5, c5, rfl, _⟩ := Gen.own_slice hown5
      have hm5 : w5.ownsRow w9.heap.size 48 2 (.slice A5 (q + 1) c5) (q + 1) ((P ++ (s, x) :: Q).flatMap p2) := by rw [List.flatMap_append, List.flatMap_cons, ← List.append_assoc]; exact hown5
      have HE := Lib.hid (show AddP w L (.returned (.slice A5 (q + 1) c5)) w5 from ⟨A5, q + 1, c5, by rw [← HL.out]; have := HPQ.out; simp at this ⊢; omega, rfl, by rw [← HL.out]; exact own_base hm5 HB.out.size, Gen.over hb5 HB.out⟩)
      clear hm5 hown5 hg5 hat5
      go_wp2
      refine HK.out _ _ ?_
      conv => arg 2; whnf
      go_wp2
      exact bodyPost_ret (v := .slice A5 (q + 1) c5) (by simp [results, Try.results25, go_sem]) rfl HE.out
end
set_option maxRecDepth 100000 in
set_option maxHeartbeats 8000000 in
theorem radd_any {w : World} {A : Option Addr} {q cap3 : Nat} {l : List (Int × Int)} (hq : l.length = q) (hr : Rs p2 2 w A l) (hbig : q ≤ 100000) (hcap : q ≤ cap3) (s x : Int) (hov : ∀ p ∈ l, IntKind.i64.wrap (p.2 + x) = p.2 + x) :
    Calls Try.prog 25 #[.slice A q cap3, .int .i64 s, .int .i64 x] w (AddP w (addL l s x)) := by
  obtain ⟨iS, hiS, hzS, hyS, hxS⟩ := info_parts' infoS
  have HQ := Lib.hid hq
  have HR := Lib.hid hr
  have HOV := Lib.hid hov
  clear hq hr hov
  go_enter Try.func25, Try.ntmps25
  go_wp2_with (fail)
  go_loopw [7] (fun iv wr => ∃ k : Nat, k ≤ q ∧ iv = .int .i64 k ∧ Hid (∀ p ∈ l.take k, p.1 < s) ∧ w = wr) (fun iv _ => q - (intOf iv).toNat)
  case atStart => exact ⟨0, Nat.zero_le _, rfl, Lib.hid (by simp), rfl⟩
  case round =>
    obtain ⟨k, hk, rfl, HA, hww⟩ := hrel
    subst hww
    have k0 : (0 : Int) ≤ (k : Int) := by omega
    have hx0 : Below w.heap.size w (w.alloc (.cells #[] 48)) := Gen.b_alloc (Below.refl _ _)
    have HO0 := Lib.hid (blk0 w 48 2)
    have HRE := Lib.hid (rs_reads (f := p2) (K := 2) (fun _ => rfl) (by omega) HQ.out (HR.out.keep hx0))
    have N1 := Lib.hid (show 0 + q ≤ maxLen by simp only [maxLen]; omega)
    have N2 := Lib.hid (show (0 + q) * 16 ≤ 140737488355328 by omega)
    clear hx0
    by_cases hlt : k < q
    · have hltI : (k : Int) < (q : Int) := by omega
      obtain ⟨⟨t, y⟩, hx⟩ := at_ l k (by rw [HQ.out]; exact hlt)
      obtain ⟨b, off, rfl, hcell⟩ := HR.out (by rw [HQ.out]; omega)
      have c0 := hcell k _ hx 0 _ rfl
      dsimp only at c0
      rw [Nat.add_zero] at c0
      have HX := Lib.hid hx
      by_cases h1 : t < s
      · have HA2 : Hid (∀ p ∈ l.take (k + 1), p.1 < s) := Lib.hid (fun p hp => by
          rw [take_snoc hx, List.mem_append] at hp
          rcases hp with hp | hp
          · exact HA.out p hp
          · rw [List.mem_singleton.1 hp]; exact h1)
        clear hcell hx hlt HO0 HRE
        go_wp2
        go_roundw
        case rel => first | exact ⟨k + 1, by omega, by go_num, HA2, rfl⟩ | exact ⟨k + 1, by omega, by go_num, HA2, trivial⟩ | exact ⟨k + 1, by omega, by go_num, HA2⟩
        case measure => simp [intOf]; omega
      · by_cases h2 : t = s
        · subst h2
          have he : (t == t) = true := by simp
          have HE := Lib.hid (addL_old (x := x) HA.out hx)
          have hwr := HOV.out _ (mem_of_at hx)
          dsimp only at hwr
          clear hcell hx
          go_wp2_with (first
            | (at_builtin
               go_must (refine App.wpList_append_any _ rfl (.tmp 24) (.tmp 25) _ rfl w.heap.size 48 iS _ 2 16 Try.underlying28 hiS hzS hyS hxS rfl (by omega) (.slice (some ⟨w.heap.size, 0, none⟩) 0 0) 0 [] rfl HO0.out _ (some ⟨b, off, none⟩) q cap3 (l.flatMap p2) rfl HRE.out (p2_one _) N1.out N2.out (Gen.b_alloc (Below.refl _ _)).size ?_
                        intro v7 w7 ho7 hg7 ha7
                        rw [Nat.zero_add, List.nil_append] at ho7
                        have HB7 := Lib.hid (Gen.g_below (w := w) HO0.out hg7 (Gen.b_alloc (Below.refl _ _)) (Nat.le_refl _))
                        obtain ⟨g7, cap7, rfl, hB7, _⟩ := ho7.form (by omega)
                        have HO7 := Lib.hid ho7
                        have hrs7 := rs_own (f := p2) (K := 2) (fun _ => rfl) HQ.out ho7
                        have q1 := hrs7.at HX.out (r := 1) rfl
                        have q2 : w7.frozen? ⟨g7, 0 + k * 2 + 1, none⟩ = false := (own_row ho7).frozen _
                        rw [Nat.zero_add] at q1 q2
                        have c7 := keep0 HB7.out _ _ _ c0
                        clear ho7 hg7 ha7 hrs7))
            | fail)
          have hset := own_set (j := k * 2 + 1) HO7.out (.int .i64 (y + x))
          rw [flat_set (f := p2) (K := 2) (fun _ => rfl) (o := 1) (by omega) (x := (t, y)) (y := (t, y + x)) rfl l k HX.out] at hset
          have HF := Lib.hid (show AddP w (addL l t x) (.returned (.slice (some ⟨g7, 0, none⟩) q cap7)) (w7.setCell ⟨g7, k * 2 + 1, none⟩ (.int .i64 (y + x))) from ⟨_, q, cap7, by rw [HE.out, List.length_set]; exact HQ.out, rfl, by rw [HE.out]; exact hset, Gen.b_set (p := ⟨g7, k * 2 + 1, none⟩) HB7.out hB7⟩)
          clear hset
          go_wp2
          exact bodyPost_ret (v := .slice (some ⟨g7, 0, none⟩) q cap7) (by simp [results, Try.results25, go_sem]) rfl HF.out
        · have he : (t == s) = false := by simp [h2]
          have HE := Lib.hid (addL_new (x := x) HA.out (by rw [HQ.out]; exact hk) (fun p hp => by rw [hx] at hp; obtain rfl := Option.some.inj hp; dsimp only; omega)).symm
          have HP : Hid ((l.take k).length = k) := Lib.hid (by rw [List.length_take, HQ.out]; omega)
          clear hcell hx
          go_wp2_with (first
            | (at_builtin
               go_must (refine App.wpList_append_any _ rfl (.tmp 24) (.tmp 25) _ rfl w.heap.size 48 iS _ 2 16 Try.underlying28 hiS hzS hyS hxS rfl (by omega) (.slice (some ⟨w.heap.size, 0, none⟩) 0 0) 0 [] rfl HO0.out _ (some ⟨b, off, none⟩) q cap3 (l.flatMap p2) rfl HRE.out (p2_one _) N1.out N2.out (Gen.b_alloc (Below.refl _ _)).size ?_
                        intro v7 w7 ho7 hg7 ha7
                        have HB7 := Lib.hid (Gen.g_below (w := w) HO0.out hg7 (Gen.b_alloc (Below.refl _ _)) (Nat.le_refl _))
                        have c7 := keep0 HB7.out _ _ _ c0
                        clear ho7 hg7 ha7))
            | fail)
          have HPQ : Hid ((l.take k ++ l.drop k).length = q) := Lib.hid (by rw [List.take_append_drop]; exact HQ.out)
          have HRR := Lib.hid (show Rs p2 2 w7 (some ⟨b, off, none⟩) (l.take k ++ l.drop k) by rw [List.take_append_drop]; exact HR.out.keep HB7.out)
          go_upto_region 9 with (fail)
          exact add_tail HP HPQ HRR hk hbig hcap HE HB7 (by assumption)
    · obtain rfl : q = k := by omega
      have HE := Lib.hid (addL_new (x := x) HA.out (by rw [HQ.out]; exact hk) (fun p hp => by have := lt_of_at hp; rw [HQ.out] at this; omega)).symm
      have HP : Hid ((l.take q).length = q) := Lib.hid (by rw [List.length_take, HQ.out]; omega)
      clear hlt
      go_wp2_with (first
        | (at_builtin
           go_must (refine App.wpList_append_any _ rfl (.tmp 24) (.tmp 25) _ rfl w.heap.size 48 iS _ 2 16 Try.underlying28 hiS hzS hyS hxS rfl (by omega) (.slice (some ⟨w.heap.size, 0, none⟩) 0 0) 0 [] rfl HO0.out _ A q cap3 (l.flatMap p2) rfl HRE.out (p2_one _) N1.out N2.out (Gen.b_alloc (Below.refl _ _)).size ?_
                    intro v7 w7 ho7 hg7 ha7
                    have HB7 := Lib.hid (Gen.g_below (w := w) HO0.out hg7 (Gen.b_alloc (Below.refl _ _)) (Nat.le_refl _))
                    clear ho7 hg7 ha7))
        | fail)
      have HPQ : Hid ((l.take q ++ l.drop q).length = q) := Lib.hid (by rw [List.take_append_drop]; exact HQ.out)
      have HRR := Lib.hid (show Rs p2 2 w7 A (l.take q ++ l.drop q) by rw [List.take_append_drop]; exact HR.out.keep HB7.out)
      go_upto_region 9 with (fail)
      exact add_tail HP HPQ HRR (Nat.le_refl _) hbig hcap HE HB7 (by assumption)
end Go.Proofs.Ytohbdffmidbjhaa.Re
