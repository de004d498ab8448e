/- Package trade: the contracts of leaves, right, Right. -/
import Derived.Test.YtpekedhcnijgcaaTrdA
namespace Go.Proofs.Ytpekedhcnijgcaa.Book
open Go.ChangeShapes Go.WideShapes Go.ChangeAt Go.RowKit Go.Proofs.Ytpekedhcnijgcaa.Cell
set_option linter.unusedVariables false
set_option linter.unusedSimpArgs false

def LvPost (ss : List (Int × Int)) (n : Nat) (w : World) (e : Ending) (w' : World) : Prop := ∃ g, e = .returned (.slice (some ⟨g, 0, none⟩) n n) ∧ Boos w' (some ⟨g, 0, none⟩) (lvs ss n n) ∧ Below w.heap.size w w'
set_option maxRecDepth 100000 in
set_option maxHeartbeats 4000000 in
theorem leaves_any (A : Option Addr) (n cap : Nat) (ss : List (Int × Int)) (w : World) (hn : ss.length = n) (hc : Prs w A ss) (hr : rg ss = true) :
    Calls Try.prog 43 #[.slice A n cap] w (LvPost ss n w) := by
  have hle := (rg_ok hr).1
  rw [hn] at hle
  have HP := Lib.hid (pre_of hr)
  have HN := Lib.hid hn
  have h0 : (w.alloc (.cells #[.bool true] 4)).cell? ⟨w.heap.size, 0, none⟩ = some (.bool true) := by simp [go_sem]
  have H0 := Lib.hid h0
  clear hn hr h0
  go_enter Try.func43, Try.ntmps43
  go_wp2_with (fail)
  go_must (refine (rep_any _ n _ (by omega) H0.out).mono ?_)
  rintro e w1 ⟨g, rfl, hrow, hb1, hg⟩
  have hb : Below w.heap.size w w1 := Gen.over hb1 (Gen.b_alloc (Below.refl _ _))
  have hg' : w.heap.size ≤ g := by simp at hg; omega
  have HR := Lib.hid hrow
  clear hrow hb1 hg
  go_wp2
  go_loopw [12] (fun iv wr => ∃ k : Nat, k ≤ n ∧ iv = .int .i64 k ∧ Row wr g 4 (bcs (lvs ss n k)) ∧ Below w.heap.size w wr) (fun iv _ => n - (intOf iv).toNat)
  case atStart => exact ⟨0, Nat.zero_le _, rfl, by rw [lvs_0]; exact HR.out, hb⟩
  case round =>
    obtain ⟨k, hk, rfl, hrow, hB⟩ := hrel
    have hS : g < wr.heap.size := hrow.lt
    by_cases hlt : k < n
    · obtain ⟨b, off, rfl, hcell⟩ := (hc.keep hB) (by rw [HN.out]; omega)
      obtain ⟨s, hs⟩ := at_ ss k (by rw [HN.out]; exact hlt)
      obtain ⟨c0, c1⟩ := hcell k s hs
      have hsk := okS_in (HP.out k s hs)
      have HS := Lib.hid hs
      clear hcell hs
      obtain ⟨p, o⟩ := s
      dsimp only at c0 c1 hsk
      by_cases hp : 0 ≤ p
      · obtain ⟨q, rfl⟩ := Int.eq_ofNat_of_zero_le hp
        have hq : q < n := by omega
        have q1 : (q : Int) < (n : Int) := by omega
        have l0 : (wr.alloc (.cells #[.int .i64 (q : Int), .int .i64 o] 57)).cell? ⟨g, q, none⟩ = some (.bool (!anyP (ss.take k) (q : Int))) := Gen.al (hrow.booAt (lvs_at ss k hq))
        obtain ⟨b0, hb0⟩ : ∃ b0, (!anyP (ss.take k) (q : Int)) = b0 := ⟨_, rfl⟩
        rw [hb0] at l0
        have l1 := hrow.frozen q
        have HE := Lib.hid (lvs_pos (n := n) HS.out rfl hq)
        have HROW := Lib.hid hrow
        clear hb0 hrow
        go_wp2
        go_roundw
        case rel => exact ⟨k + 1, by omega, by go_num, by rw [← HE.out, ← bcs_set]; exact (HROW.out.set _ _).alloc _, by go_grown⟩
        case measure => simp [intOf]; omega
      · have hp' : p < 0 := by omega
        have HE := Lib.hid (lvs_neg (n := n) HS.out hp')
        have HROW := Lib.hid hrow
        clear hp hrow
        go_wp2
        go_roundw
        case rel => exact ⟨k + 1, by omega, by go_num, by rw [HE.out]; exact HROW.out.alloc _, by go_grown⟩
        case measure => simp [intOf]; omega
    · obtain rfl : k = n := by omega
      have HROW := Lib.hid (Boos.row hrow)
      clear hrow
      go_wp2
      go_ret
      exact ⟨g, rfl, HROW.out, hB⟩

set_option maxHeartbeats 1000000 in
theorem lf1_any (i : Int) (A : Option Addr) (n cap : Nat) (bs : List Bool) (g : Nat) (w : World) (hg : w.cell? ⟨g, 0, none⟩ = some (.slice A n cap)) (hn : bs.length = n) (hc : Boos w A bs) :
    Calls Try.prog 67 #[.int .i64 i, .pointer (some ⟨g, 0, none⟩)] w fun e w' => e = .returned (.bool (lfB bs i)) ∧ w = w' := by
  have HN := Lib.hid hn
  by_cases h : 0 ≤ i ∧ i < n
  · obtain ⟨h0, h1⟩ := h
    obtain ⟨c, rfl⟩ := Int.eq_ofNat_of_zero_le h0
    obtain ⟨b, off, rfl, hcell⟩ := hc (by omega)
    obtain ⟨z, hz⟩ := at_ bs c (by omega)
    have c0 := hcell c z hz
    have HF := Lib.hid (show lfB bs c = z from by
      unfold lfB
      rw [decide_eq_true (by omega), Int.toNat_natCast, List.getD_eq_getElem?_getD, hz]; rfl)
    clear hcell hz hn
    go_enter Try.func67, Try.ntmps67
    go_wp2
    go_ret
    exact ⟨ret_bool HF.out.symm, rfl⟩
  · have HF := Lib.hid (show lfB bs i = false from by unfold lfB; rw [decide_eq_false (by omega)]; rfl)
    rcases (show i < 0 ∨ (0 ≤ i ∧ (n : Int) ≤ i) by omega) with a | ⟨a, b⟩
    all_goals
      clear h hn
      go_enter Try.func67, Try.ntmps67
      go_wp2
      go_ret
      first | exact ⟨ret_bool HF.out.symm, rfl⟩ | exact ⟨ret_bool (by rw [HF.out]; exact decide_eq_false (by omega)), rfl⟩
theorem lf1_is {i : Int} {A : Option Addr} {n cap : Nat} {bs : List Bool} {g : Nat} {x : Bool} (w : World) (hg : w.cell? ⟨g, 0, none⟩ = some (.slice A n cap)) (hn : bs.length = n) (hc : Boos w A bs) (h : lfB bs i = x) :
    Calls Try.prog 67 #[.int .i64 i, .pointer (some ⟨g, 0, none⟩)] w fun e w' => e = .returned (.bool x) ∧ w = w' := by
  have hh := lf1_any i A n cap bs g w hg hn hc
  rw [h] at hh
  exact hh
theorem isd_is {x : Int} {b : Bool} (w : World) (h : dyB x = b) : Calls Try.prog 47 #[.int .i64 x] w fun e w' => e = .returned (.bool b) ∧ w = w' := by
  have hh := isd_any x w
  rw [h] at hh
  exact hh
theorem dyB_yes {x : Int} (h : 0 ≤ x ∧ x ≤ 200000) : dyB x = true := decide_eq_true h
theorem dyB_no {x : Int} (h : ¬ (0 ≤ x ∧ x ≤ 200000)) : dyB x = false := decide_eq_false h
theorem okB_no {bs : List Bool} {x : Tr} (h : lfB bs x.f = false ∨ lfB bs x.t = false ∨ okD x = false) : okB bs x = false := by
  unfold okB
  rcases h with h | h | h
  · rw [h]; rfl
  · rw [h, Bool.and_false]; rfl
  · rw [h, Bool.and_false]
theorem okB_D {bs : List Bool} {x : Tr} (h : lfB bs x.f = true) (h2 : lfB bs x.t = true) : okB bs x = okD x := by
  unfold okB
  rw [h, h2]; rfl
set_option maxRecDepth 100000 in
set_option maxHeartbeats 4000000 in
theorem right_a (k f t u m d o b : Int) (A : Option Addr) (n cap : Nat) (bs : List Bool) (w : World) (hn : bs.length = n) (hc : Boos w A bs) (hf : lfB bs f = false) :
    Calls Try.prog 42 #[.slice A n cap, .agg #[.int .i64 k, .int .i64 f, .int .i64 t, .int .i64 u, .int .i64 m, .int .i64 d, .int .i64 o, .int .i64 b]] w fun e w' => e = .returned (.bool (okB bs ⟨k, f, t, u, m, d, o, b⟩)) ∧ Below w.heap.size w w' := by
  have HN := Lib.hid hn
  have hg0 : ((w.alloc (.cells #[.slice A n cap] 64)).alloc (.cells #[.int .i64 k, .int .i64 f, .int .i64 t, .int .i64 u, .int .i64 m, .int .i64 d, .int .i64 o, .int .i64 b] 26)).cell? ⟨w.heap.size, 0, none⟩ = some (.slice A n cap) := Gen.al (by simp [go_sem])
  have HG := Lib.hid hg0
  have HC := Lib.hid (hc.keep (Gen.b_alloc (x := .cells #[.int .i64 k, .int .i64 f, .int .i64 t, .int .i64 u, .int .i64 m, .int .i64 d, .int .i64 o, .int .i64 b] 26) (Gen.b_alloc (x := .cells #[.slice A n cap] 64) (Below.refl w.heap.size w))))
  have HF := Lib.hid (show okB bs ⟨k, f, t, u, m, d, o, b⟩ = false from okB_no (.inl hf))
  have H1 := Lib.hid hf
  clear hn hg0 hc hf
  go_enter Try.func42, Try.ntmps42
  go_wp2_with (fail)
  go_must (refine (lf1_is _ HG.out HN.out HC.out H1.out).mono ?_)
  rintro e w1 ⟨rfl, rfl⟩
  go_wp2
  go_ret
  first | exact ⟨ret_bool HF.out.symm, by go_grown⟩ | exact ⟨ret_bool (by rw [HF.out]), by go_grown⟩ | exact ⟨ret_bool (by rw [HF.out]; exact decide_eq_false (by omega)), by go_grown⟩ | exact ⟨ret_bool (by rw [HF.out]; exact decide_eq_true (by omega)), by go_grown⟩ | exact ⟨ret_bool (by rw [HF.out]; simp; omega), by go_grown⟩
set_option maxRecDepth 100000 in
set_option maxHeartbeats 4000000 in
theorem right_b (k f t u m d o b : Int) (A : Option Addr) (n cap : Nat) (bs : List Bool) (w : World) (hn : bs.length = n) (hc : Boos w A bs) (hf : lfB bs f = true) (ht : lfB bs t = false) :
    Calls Try.prog 42 #[.slice A n cap, .agg #[.int .i64 k, .int .i64 f, .int .i64 t, .int .i64 u, .int .i64 m, .int .i64 d, .int .i64 o, .int .i64 b]] w fun e w' => e = .returned (.bool (okB bs ⟨k, f, t, u, m, d, o, b⟩)) ∧ Below w.heap.size w w' := by
  have HN := Lib.hid hn
  have hg0 : ((w.alloc (.cells #[.slice A n cap] 64)).alloc (.cells #[.int .i64 k, .int .i64 f, .int .i64 t, .int .i64 u, .int .i64 m, .int .i64 d, .int .i64 o, .int .i64 b] 26)).cell? ⟨w.heap.size, 0, none⟩ = some (.slice A n cap) := Gen.al (by simp [go_sem])
  have HG := Lib.hid hg0
  have HC := Lib.hid (hc.keep (Gen.b_alloc (x := .cells #[.int .i64 k, .int .i64 f, .int .i64 t, .int .i64 u, .int .i64 m, .int .i64 d, .int .i64 o, .int .i64 b] 26) (Gen.b_alloc (x := .cells #[.slice A n cap] 64) (Below.refl w.heap.size w))))
  have HF := Lib.hid (show okB bs ⟨k, f, t, u, m, d, o, b⟩ = false from okB_no (.inr (.inl ht)))
  have H1 := Lib.hid hf
  have H2 := Lib.hid ht
  clear hn hg0 hc hf ht
  go_enter Try.func42, Try.ntmps42
  go_wp2_with (fail)
  go_must (refine (lf1_is _ HG.out HN.out HC.out H1.out).mono ?_)
  rintro e w1 ⟨rfl, rfl⟩
  go_wp2_with (fail)
  go_must (refine (lf1_is _ HG.out HN.out HC.out H2.out).mono ?_)
  rintro e w1 ⟨rfl, rfl⟩
  go_wp2
  go_ret
  first | exact ⟨ret_bool HF.out.symm, by go_grown⟩ | exact ⟨ret_bool (by rw [HF.out]), by go_grown⟩ | exact ⟨ret_bool (by rw [HF.out]; exact decide_eq_false (by omega)), by go_grown⟩ | exact ⟨ret_bool (by rw [HF.out]; exact decide_eq_true (by omega)), by go_grown⟩ | exact ⟨ret_bool (by rw [HF.out]; simp; omega), by go_grown⟩
set_option maxRecDepth 100000 in
set_option maxHeartbeats 4000000 in
theorem right_c (k f t u m d o b : Int) (A : Option Addr) (n cap : Nat) (bs : List Bool) (w : World) (hn : bs.length = n) (hc : Boos w A bs) (hf : lfB bs f = true) (ht : lfB bs t = true) (h : f = t) :
    Calls Try.prog 42 #[.slice A n cap, .agg #[.int .i64 k, .int .i64 f, .int .i64 t, .int .i64 u, .int .i64 m, .int .i64 d, .int .i64 o, .int .i64 b]] w fun e w' => e = .returned (.bool (okB bs ⟨k, f, t, u, m, d, o, b⟩)) ∧ Below w.heap.size w w' := by
  have HN := Lib.hid hn
  have hg0 : ((w.alloc (.cells #[.slice A n cap] 64)).alloc (.cells #[.int .i64 k, .int .i64 f, .int .i64 t, .int .i64 u, .int .i64 m, .int .i64 d, .int .i64 o, .int .i64 b] 26)).cell? ⟨w.heap.size, 0, none⟩ = some (.slice A n cap) := Gen.al (by simp [go_sem])
  have HG := Lib.hid hg0
  have HC := Lib.hid (hc.keep (Gen.b_alloc (x := .cells #[.int .i64 k, .int .i64 f, .int .i64 t, .int .i64 u, .int .i64 m, .int .i64 d, .int .i64 o, .int .i64 b] 26) (Gen.b_alloc (x := .cells #[.slice A n cap] 64) (Below.refl w.heap.size w))))
  have HF := Lib.hid (show okB bs ⟨k, f, t, u, m, d, o, b⟩ = false from okB_no (.inr (.inr (decide_eq_false (by dsimp only; omega)))))
  subst h
  have H1 := Lib.hid hf
  have H2 := Lib.hid ht
  clear hn hg0 hc hf ht
  go_enter Try.func42, Try.ntmps42
  go_wp2_with (fail)
  go_must (refine (lf1_is _ HG.out HN.out HC.out H1.out).mono ?_)
  rintro e w1 ⟨rfl, rfl⟩
  go_wp2_with (fail)
  go_must (refine (lf1_is _ HG.out HN.out HC.out H2.out).mono ?_)
  rintro e w1 ⟨rfl, rfl⟩
  go_wp2
  go_ret
  first | exact ⟨ret_bool HF.out.symm, by go_grown⟩ | exact ⟨ret_bool (by rw [HF.out]), by go_grown⟩ | exact ⟨ret_bool (by rw [HF.out]; exact decide_eq_false (by omega)), by go_grown⟩ | exact ⟨ret_bool (by rw [HF.out]; exact decide_eq_true (by omega)), by go_grown⟩ | exact ⟨ret_bool (by rw [HF.out]; simp; omega), by go_grown⟩
set_option maxRecDepth 100000 in
set_option maxHeartbeats 4000000 in
theorem right_d (k f t u m d o b : Int) (A : Option Addr) (n cap : Nat) (bs : List Bool) (w : World) (hn : bs.length = n) (hc : Boos w A bs) (hf : lfB bs f = true) (ht : lfB bs t = true) (h : (f == t) = false) (h1 : u < 1) :
    Calls Try.prog 42 #[.slice A n cap, .agg #[.int .i64 k, .int .i64 f, .int .i64 t, .int .i64 u, .int .i64 m, .int .i64 d, .int .i64 o, .int .i64 b]] w fun e w' => e = .returned (.bool (okB bs ⟨k, f, t, u, m, d, o, b⟩)) ∧ Below w.heap.size w w' := by
  have HN := Lib.hid hn
  have hg0 : ((w.alloc (.cells #[.slice A n cap] 64)).alloc (.cells #[.int .i64 k, .int .i64 f, .int .i64 t, .int .i64 u, .int .i64 m, .int .i64 d, .int .i64 o, .int .i64 b] 26)).cell? ⟨w.heap.size, 0, none⟩ = some (.slice A n cap) := Gen.al (by simp [go_sem])
  have HG := Lib.hid hg0
  have HC := Lib.hid (hc.keep (Gen.b_alloc (x := .cells #[.int .i64 k, .int .i64 f, .int .i64 t, .int .i64 u, .int .i64 m, .int .i64 d, .int .i64 o, .int .i64 b] 26) (Gen.b_alloc (x := .cells #[.slice A n cap] 64) (Below.refl w.heap.size w))))
  have HF := Lib.hid (show okB bs ⟨k, f, t, u, m, d, o, b⟩ = false from okB_no (.inr (.inr (decide_eq_false (by dsimp only; omega)))))
  have H1 := Lib.hid hf
  have H2 := Lib.hid ht
  clear hn hg0 hc hf ht
  go_enter Try.func42, Try.ntmps42
  go_wp2_with (fail)
  go_must (refine (lf1_is _ HG.out HN.out HC.out H1.out).mono ?_)
  rintro e w1 ⟨rfl, rfl⟩
  go_wp2_with (fail)
  go_must (refine (lf1_is _ HG.out HN.out HC.out H2.out).mono ?_)
  rintro e w1 ⟨rfl, rfl⟩
  go_wp2
  go_ret
  first | exact ⟨ret_bool HF.out.symm, by go_grown⟩ | exact ⟨ret_bool (by rw [HF.out]), by go_grown⟩ | exact ⟨ret_bool (by rw [HF.out]; exact decide_eq_false (by omega)), by go_grown⟩ | exact ⟨ret_bool (by rw [HF.out]; exact decide_eq_true (by omega)), by go_grown⟩ | exact ⟨ret_bool (by rw [HF.out]; simp; omega), by go_grown⟩
set_option maxRecDepth 100000 in
set_option maxHeartbeats 4000000 in
theorem right_e (k f t u m d o b : Int) (A : Option Addr) (n cap : Nat) (bs : List Bool) (w : World) (hn : bs.length = n) (hc : Boos w A bs) (hf : lfB bs f = true) (ht : lfB bs t = true) (h : (f == t) = false) (h1 : 1 ≤ u) (h2 : 1000000000 < u) :
    Calls Try.prog 42 #[.slice A n cap, .agg #[.int .i64 k, .int .i64 f, .int .i64 t, .int .i64 u, .int .i64 m, .int .i64 d, .int .i64 o, .int .i64 b]] w fun e w' => e = .returned (.bool (okB bs ⟨k, f, t, u, m, d, o, b⟩)) ∧ Below w.heap.size w w' := by
  have HN := Lib.hid hn
  have hg0 : ((w.alloc (.cells #[.slice A n cap] 64)).alloc (.cells #[.int .i64 k, .int .i64 f, .int .i64 t, .int .i64 u, .int .i64 m, .int .i64 d, .int .i64 o, .int .i64 b] 26)).cell? ⟨w.heap.size, 0, none⟩ = some (.slice A n cap) := Gen.al (by simp [go_sem])
  have HG := Lib.hid hg0
  have HC := Lib.hid (hc.keep (Gen.b_alloc (x := .cells #[.int .i64 k, .int .i64 f, .int .i64 t, .int .i64 u, .int .i64 m, .int .i64 d, .int .i64 o, .int .i64 b] 26) (Gen.b_alloc (x := .cells #[.slice A n cap] 64) (Below.refl w.heap.size w))))
  have HF := Lib.hid (show okB bs ⟨k, f, t, u, m, d, o, b⟩ = false from okB_no (.inr (.inr (decide_eq_false (by dsimp only; omega)))))
  have H1 := Lib.hid hf
  have H2 := Lib.hid ht
  clear hn hg0 hc hf ht
  go_enter Try.func42, Try.ntmps42
  go_wp2_with (fail)
  go_must (refine (lf1_is _ HG.out HN.out HC.out H1.out).mono ?_)
  rintro e w1 ⟨rfl, rfl⟩
  go_wp2_with (fail)
  go_must (refine (lf1_is _ HG.out HN.out HC.out H2.out).mono ?_)
  rintro e w1 ⟨rfl, rfl⟩
  go_wp2
  go_ret
  first | exact ⟨ret_bool HF.out.symm, by go_grown⟩ | exact ⟨ret_bool (by rw [HF.out]), by go_grown⟩ | exact ⟨ret_bool (by rw [HF.out]; exact decide_eq_false (by omega)), by go_grown⟩ | exact ⟨ret_bool (by rw [HF.out]; exact decide_eq_true (by omega)), by go_grown⟩ | exact ⟨ret_bool (by rw [HF.out]; simp; omega), by go_grown⟩
set_option maxRecDepth 100000 in
set_option maxHeartbeats 4000000 in
theorem right_f (k f t u m d o b : Int) (A : Option Addr) (n cap : Nat) (bs : List Bool) (w : World) (hn : bs.length = n) (hc : Boos w A bs) (hf : lfB bs f = true) (ht : lfB bs t = true) (h : (f == t) = false) (h1 : 1 ≤ u) (h2 : u ≤ 1000000000) (h3 : ¬ (0 ≤ m ∧ m ≤ 200000)) :
    Calls Try.prog 42 #[.slice A n cap, .agg #[.int .i64 k, .int .i64 f, .int .i64 t, .int .i64 u, .int .i64 m, .int .i64 d, .int .i64 o, .int .i64 b]] w fun e w' => e = .returned (.bool (okB bs ⟨k, f, t, u, m, d, o, b⟩)) ∧ Below w.heap.size w w' := by
  have HN := Lib.hid hn
  have hg0 : ((w.alloc (.cells #[.slice A n cap] 64)).alloc (.cells #[.int .i64 k, .int .i64 f, .int .i64 t, .int .i64 u, .int .i64 m, .int .i64 d, .int .i64 o, .int .i64 b] 26)).cell? ⟨w.heap.size, 0, none⟩ = some (.slice A n cap) := Gen.al (by simp [go_sem])
  have HG := Lib.hid hg0
  have HC := Lib.hid (hc.keep (Gen.b_alloc (x := .cells #[.int .i64 k, .int .i64 f, .int .i64 t, .int .i64 u, .int .i64 m, .int .i64 d, .int .i64 o, .int .i64 b] 26) (Gen.b_alloc (x := .cells #[.slice A n cap] 64) (Below.refl w.heap.size w))))
  have HF := Lib.hid (show okB bs ⟨k, f, t, u, m, d, o, b⟩ = false from okB_no (.inr (.inr (decide_eq_false (by dsimp only; omega)))))
  have H1 := Lib.hid hf
  have H2 := Lib.hid ht
  have H3 := Lib.hid (dyB_no h3)
  clear hn hg0 hc hf ht h3
  go_enter Try.func42, Try.ntmps42
  go_wp2_with (fail)
  go_must (refine (lf1_is _ HG.out HN.out HC.out H1.out).mono ?_)
  rintro e w1 ⟨rfl, rfl⟩
  go_wp2_with (fail)
  go_must (refine (lf1_is _ HG.out HN.out HC.out H2.out).mono ?_)
  rintro e w1 ⟨rfl, rfl⟩
  go_wp2_with (fail)
  go_must (refine (isd_is _ H3.out).mono ?_)
  rintro e w1 ⟨rfl, rfl⟩
  go_wp2
  go_ret
  first | exact ⟨ret_bool HF.out.symm, by go_grown⟩ | exact ⟨ret_bool (by rw [HF.out]), by go_grown⟩ | exact ⟨ret_bool (by rw [HF.out]; exact decide_eq_false (by omega)), by go_grown⟩ | exact ⟨ret_bool (by rw [HF.out]; exact decide_eq_true (by omega)), by go_grown⟩ | exact ⟨ret_bool (by rw [HF.out]; simp; omega), by go_grown⟩
set_option maxRecDepth 100000 in
set_option maxHeartbeats 4000000 in
theorem right_g (k f t u m d o b : Int) (A : Option Addr) (n cap : Nat) (bs : List Bool) (w : World) (hn : bs.length = n) (hc : Boos w A bs) (hf : lfB bs f = true) (ht : lfB bs t = true) (h : (f == t) = false) (h1 : 1 ≤ u) (h2 : u ≤ 1000000000) (h3 : 0 ≤ m ∧ m ≤ 200000) (h4 : ¬ (0 ≤ d ∧ d ≤ 200000)) :
    Calls Try.prog 42 #[.slice A n cap, .agg #[.int .i64 k, .int .i64 f, .int .i64 t, .int .i64 u, .int .i64 m, .int .i64 d, .int .i64 o, .int .i64 b]] w fun e w' => e = .returned (.bool (okB bs ⟨k, f, t, u, m, d, o, b⟩)) ∧ Below w.heap.size w w' := by
  have HN := Lib.hid hn
  have hg0 : ((w.alloc (.cells #[.slice A n cap] 64)).alloc (.cells #[.int .i64 k, .int .i64 f, .int .i64 t, .int .i64 u, .int .i64 m, .int .i64 d, .int .i64 o, .int .i64 b] 26)).cell? ⟨w.heap.size, 0, none⟩ = some (.slice A n cap) := Gen.al (by simp [go_sem])
  have HG := Lib.hid hg0
  have HC := Lib.hid (hc.keep (Gen.b_alloc (x := .cells #[.int .i64 k, .int .i64 f, .int .i64 t, .int .i64 u, .int .i64 m, .int .i64 d, .int .i64 o, .int .i64 b] 26) (Gen.b_alloc (x := .cells #[.slice A n cap] 64) (Below.refl w.heap.size w))))
  have HF := Lib.hid (show okB bs ⟨k, f, t, u, m, d, o, b⟩ = false from okB_no (.inr (.inr (decide_eq_false (by dsimp only; omega)))))
  have H1 := Lib.hid hf
  have H2 := Lib.hid ht
  have H3 := Lib.hid (dyB_yes h3)
  have H4 := Lib.hid (dyB_no h4)
  clear hn hg0 hc hf ht h3 h4
  go_enter Try.func42, Try.ntmps42
  go_wp2_with (fail)
  go_must (refine (lf1_is _ HG.out HN.out HC.out H1.out).mono ?_)
  rintro e w1 ⟨rfl, rfl⟩
  go_wp2_with (fail)
  go_must (refine (lf1_is _ HG.out HN.out HC.out H2.out).mono ?_)
  rintro e w1 ⟨rfl, rfl⟩
  go_wp2_with (fail)
  go_must (refine (isd_is _ H3.out).mono ?_)
  rintro e w1 ⟨rfl, rfl⟩
  go_wp2_with (fail)
  go_must (refine (isd_is _ H4.out).mono ?_)
  rintro e w1 ⟨rfl, rfl⟩
  go_wp2
  go_ret
  first | exact ⟨ret_bool HF.out.symm, by go_grown⟩ | exact ⟨ret_bool (by rw [HF.out]), by go_grown⟩ | exact ⟨ret_bool (by rw [HF.out]; exact decide_eq_false (by omega)), by go_grown⟩ | exact ⟨ret_bool (by rw [HF.out]; exact decide_eq_true (by omega)), by go_grown⟩ | exact ⟨ret_bool (by rw [HF.out]; simp; omega), by go_grown⟩
set_option maxRecDepth 100000 in
set_option maxHeartbeats 4000000 in
theorem right_h (k f t u m d o b : Int) (A : Option Addr) (n cap : Nat) (bs : List Bool) (w : World) (hn : bs.length = n) (hc : Boos w A bs) (hf : lfB bs f = true) (ht : lfB bs t = true) (h : (f == t) = false) (h1 : 1 ≤ u) (h2 : u ≤ 1000000000) (h3 : 0 ≤ m ∧ m ≤ 200000) (h4 : 0 ≤ d ∧ d ≤ 200000) (h5 : d < m) :
    Calls Try.prog 42 #[.slice A n cap, .agg #[.int .i64 k, .int .i64 f, .int .i64 t, .int .i64 u, .int .i64 m, .int .i64 d, .int .i64 o, .int .i64 b]] w fun e w' => e = .returned (.bool (okB bs ⟨k, f, t, u, m, d, o, b⟩)) ∧ Below w.heap.size w w' := by
  have HN := Lib.hid hn
  have hg0 : ((w.alloc (.cells #[.slice A n cap] 64)).alloc (.cells #[.int .i64 k, .int .i64 f, .int .i64 t, .int .i64 u, .int .i64 m, .int .i64 d, .int .i64 o, .int .i64 b] 26)).cell? ⟨w.heap.size, 0, none⟩ = some (.slice A n cap) := Gen.al (by simp [go_sem])
  have HG := Lib.hid hg0
  have HC := Lib.hid (hc.keep (Gen.b_alloc (x := .cells #[.int .i64 k, .int .i64 f, .int .i64 t, .int .i64 u, .int .i64 m, .int .i64 d, .int .i64 o, .int .i64 b] 26) (Gen.b_alloc (x := .cells #[.slice A n cap] 64) (Below.refl w.heap.size w))))
  have HF := Lib.hid (show okB bs ⟨k, f, t, u, m, d, o, b⟩ = false from okB_no (.inr (.inr (decide_eq_false (by dsimp only; omega)))))
  have H1 := Lib.hid hf
  have H2 := Lib.hid ht
  have H3 := Lib.hid (dyB_yes h3)
  have H4 := Lib.hid (dyB_yes h4)
  clear hn hg0 hc hf ht h3 h4
  go_enter Try.func42, Try.ntmps42
  go_wp2_with (fail)
  go_must (refine (lf1_is _ HG.out HN.out HC.out H1.out).mono ?_)
  rintro e w1 ⟨rfl, rfl⟩
  go_wp2_with (fail)
  go_must (refine (lf1_is _ HG.out HN.out HC.out H2.out).mono ?_)
  rintro e w1 ⟨rfl, rfl⟩
  go_wp2_with (fail)
  go_must (refine (isd_is _ H3.out).mono ?_)
  rintro e w1 ⟨rfl, rfl⟩
  go_wp2_with (fail)
  go_must (refine (isd_is _ H4.out).mono ?_)
  rintro e w1 ⟨rfl, rfl⟩
  go_wp2
  go_ret
  first | exact ⟨ret_bool HF.out.symm, by go_grown⟩ | exact ⟨ret_bool (by rw [HF.out]), by go_grown⟩ | exact ⟨ret_bool (by rw [HF.out]; exact decide_eq_false (by omega)), by go_grown⟩ | exact ⟨ret_bool (by rw [HF.out]; exact decide_eq_true (by omega)), by go_grown⟩ | exact ⟨ret_bool (by rw [HF.out]; simp; omega), by go_grown⟩
set_option maxRecDepth 100000 in
set_option maxHeartbeats 4000000 in
theorem right_i (k f t u m d o b : Int) (A : Option Addr) (n cap : Nat) (bs : List Bool) (w : World) (hn : bs.length = n) (hc : Boos w A bs) (hf : lfB bs f = true) (ht : lfB bs t = true) (h : (f == t) = false) (h1 : 1 ≤ u) (h2 : u ≤ 1000000000) (h3 : 0 ≤ m ∧ m ≤ 200000) (h4 : 0 ≤ d ∧ d ≤ 200000) (h5 : m ≤ d) (h6 : (o == -1) = false) (h7 : ¬ (0 ≤ o ∧ o ≤ 200000)) :
    Calls Try.prog 42 #[.slice A n cap, .agg #[.int .i64 k, .int .i64 f, .int .i64 t, .int .i64 u, .int .i64 m, .int .i64 d, .int .i64 o, .int .i64 b]] w fun e w' => e = .returned (.bool (okB bs ⟨k, f, t, u, m, d, o, b⟩)) ∧ Below w.heap.size w w' := by
  have HN := Lib.hid hn
  have hg0 : ((w.alloc (.cells #[.slice A n cap] 64)).alloc (.cells #[.int .i64 k, .int .i64 f, .int .i64 t, .int .i64 u, .int .i64 m, .int .i64 d, .int .i64 o, .int .i64 b] 26)).cell? ⟨w.heap.size, 0, none⟩ = some (.slice A n cap) := Gen.al (by simp [go_sem])
  have HG := Lib.hid hg0
  have HC := Lib.hid (hc.keep (Gen.b_alloc (x := .cells #[.int .i64 k, .int .i64 f, .int .i64 t, .int .i64 u, .int .i64 m, .int .i64 d, .int .i64 o, .int .i64 b] 26) (Gen.b_alloc (x := .cells #[.slice A n cap] 64) (Below.refl w.heap.size w))))
  have h6o : o ≠ -1 := by simpa using h6
  have h6b : (o != -1) = true := by simpa using h6
  have HF := Lib.hid (show okB bs ⟨k, f, t, u, m, d, o, b⟩ = false from okB_no (.inr (.inr (decide_eq_false (by dsimp only; omega)))))
  have H1 := Lib.hid hf
  have H2 := Lib.hid ht
  have H3 := Lib.hid (dyB_yes h3)
  have H4 := Lib.hid (dyB_yes h4)
  have H7 := Lib.hid (dyB_no h7)
  clear hn hg0 hc hf ht h3 h4 h6o h7
  go_enter Try.func42, Try.ntmps42
  go_wp2_with (fail)
  go_must (refine (lf1_is _ HG.out HN.out HC.out H1.out).mono ?_)
  rintro e w1 ⟨rfl, rfl⟩
  go_wp2_with (fail)
  go_must (refine (lf1_is _ HG.out HN.out HC.out H2.out).mono ?_)
  rintro e w1 ⟨rfl, rfl⟩
  go_wp2_with (fail)
  go_must (refine (isd_is _ H3.out).mono ?_)
  rintro e w1 ⟨rfl, rfl⟩
  go_wp2_with (fail)
  go_must (refine (isd_is _ H4.out).mono ?_)
  rintro e w1 ⟨rfl, rfl⟩
  go_wp2_with (fail)
  go_must (refine (isd_is _ H7.out).mono ?_)
  rintro e w1 ⟨rfl, rfl⟩
  go_wp2
  go_ret
  first | exact ⟨ret_bool HF.out.symm, by go_grown⟩ | exact ⟨ret_bool (by rw [HF.out]), by go_grown⟩ | exact ⟨ret_bool (by rw [HF.out]; exact decide_eq_false (by omega)), by go_grown⟩ | exact ⟨ret_bool (by rw [HF.out]; exact decide_eq_true (by omega)), by go_grown⟩ | exact ⟨ret_bool (by rw [HF.out]; simp; omega), by go_grown⟩
set_option maxRecDepth 100000 in
set_option maxHeartbeats 4000000 in
theorem right_j (k f t u m d o b : Int) (A : Option Addr) (n cap : Nat) (bs : List Bool) (w : World) (hn : bs.length = n) (hc : Boos w A bs) (hf : lfB bs f = true) (ht : lfB bs t = true) (h : (f == t) = false) (h1 : 1 ≤ u) (h2 : u ≤ 1000000000) (h3 : 0 ≤ m ∧ m ≤ 200000) (h4 : 0 ≤ d ∧ d ≤ 200000) (h5 : m ≤ d) (h6 : (o == -1) = false) (h7 : 0 ≤ o ∧ o ≤ 200000) (h8 : o < d) :
    Calls Try.prog 42 #[.slice A n cap, .agg #[.int .i64 k, .int .i64 f, .int .i64 t, .int .i64 u, .int .i64 m, .int .i64 d, .int .i64 o, .int .i64 b]] w fun e w' => e = .returned (.bool (okB bs ⟨k, f, t, u, m, d, o, b⟩)) ∧ Below w.heap.size w w' := by
  have HN := Lib.hid hn
  have hg0 : ((w.alloc (.cells #[.slice A n cap] 64)).alloc (.cells #[.int .i64 k, .int .i64 f, .int .i64 t, .int .i64 u, .int .i64 m, .int .i64 d, .int .i64 o, .int .i64 b] 26)).cell? ⟨w.heap.size, 0, none⟩ = some (.slice A n cap) := Gen.al (by simp [go_sem])
  have HG := Lib.hid hg0
  have HC := Lib.hid (hc.keep (Gen.b_alloc (x := .cells #[.int .i64 k, .int .i64 f, .int .i64 t, .int .i64 u, .int .i64 m, .int .i64 d, .int .i64 o, .int .i64 b] 26) (Gen.b_alloc (x := .cells #[.slice A n cap] 64) (Below.refl w.heap.size w))))
  have h6o : o ≠ -1 := by simpa using h6
  have h6b : (o != -1) = true := by simpa using h6
  have HF := Lib.hid (show okB bs ⟨k, f, t, u, m, d, o, b⟩ = false from okB_no (.inr (.inr (decide_eq_false (by dsimp only; omega)))))
  have H1 := Lib.hid hf
  have H2 := Lib.hid ht
  have H3 := Lib.hid (dyB_yes h3)
  have H4 := Lib.hid (dyB_yes h4)
  have H7 := Lib.hid (dyB_yes h7)
  clear hn hg0 hc hf ht h3 h4 h6o h7
  go_enter Try.func42, Try.ntmps42
  go_wp2_with (fail)
  go_must (refine (lf1_is _ HG.out HN.out HC.out H1.out).mono ?_)
  rintro e w1 ⟨rfl, rfl⟩
  go_wp2_with (fail)
  go_must (refine (lf1_is _ HG.out HN.out HC.out H2.out).mono ?_)
  rintro e w1 ⟨rfl, rfl⟩
  go_wp2_with (fail)
  go_must (refine (isd_is _ H3.out).mono ?_)
  rintro e w1 ⟨rfl, rfl⟩
  go_wp2_with (fail)
  go_must (refine (isd_is _ H4.out).mono ?_)
  rintro e w1 ⟨rfl, rfl⟩
  go_wp2_with (fail)
  go_must (refine (isd_is _ H7.out).mono ?_)
  rintro e w1 ⟨rfl, rfl⟩
  go_wp2
  go_ret
  first | exact ⟨ret_bool HF.out.symm, by go_grown⟩ | exact ⟨ret_bool (by rw [HF.out]), by go_grown⟩ | exact ⟨ret_bool (by rw [HF.out]; exact decide_eq_false (by omega)), by go_grown⟩ | exact ⟨ret_bool (by rw [HF.out]; exact decide_eq_true (by omega)), by go_grown⟩ | exact ⟨ret_bool (by rw [HF.out]; simp; omega), by go_grown⟩
set_option maxRecDepth 100000 in
set_option maxHeartbeats 4000000 in
theorem right_k0 (k f t u m d o b : Int) (A : Option Addr) (n cap : Nat) (bs : List Bool) (w : World) (hn : bs.length = n) (hc : Boos w A bs) (hf : lfB bs f = true) (ht : lfB bs t = true) (h : (f == t) = false) (h1 : 1 ≤ u) (h2 : u ≤ 1000000000) (h3 : 0 ≤ m ∧ m ≤ 200000) (h4 : 0 ≤ d ∧ d ≤ 200000) (h5 : m ≤ d) (h6 : o = -1) (h9 : k = 0) :
    Calls Try.prog 42 #[.slice A n cap, .agg #[.int .i64 k, .int .i64 f, .int .i64 t, .int .i64 u, .int .i64 m, .int .i64 d, .int .i64 o, .int .i64 b]] w fun e w' => e = .returned (.bool (okB bs ⟨k, f, t, u, m, d, o, b⟩)) ∧ Below w.heap.size w w' := by
  have HN := Lib.hid hn
  have hg0 : ((w.alloc (.cells #[.slice A n cap] 64)).alloc (.cells #[.int .i64 k, .int .i64 f, .int .i64 t, .int .i64 u, .int .i64 m, .int .i64 d, .int .i64 o, .int .i64 b] 26)).cell? ⟨w.heap.size, 0, none⟩ = some (.slice A n cap) := Gen.al (by simp [go_sem])
  have HG := Lib.hid hg0
  have HC := Lib.hid (hc.keep (Gen.b_alloc (x := .cells #[.int .i64 k, .int .i64 f, .int .i64 t, .int .i64 u, .int .i64 m, .int .i64 d, .int .i64 o, .int .i64 b] 26) (Gen.b_alloc (x := .cells #[.slice A n cap] 64) (Below.refl w.heap.size w))))
  subst h6
  have HF := Lib.hid (show okB bs ⟨k, f, t, u, m, d, -1, b⟩ = (b == 0) from by
    rw [okB_D hf ht]; unfold okD; dsimp only; have e : (b == 0) = decide (b = 0) := rfl; rw [e]; have hft : f ≠ t := by simpa using h
    exact decide_eq_decide.2 (by omega))
  have H1 := Lib.hid hf
  have H2 := Lib.hid ht
  have H3 := Lib.hid (dyB_yes h3)
  have H4 := Lib.hid (dyB_yes h4)
  subst h9
  clear hn hg0 hc hf ht h3 h4
  go_enter Try.func42, Try.ntmps42
  go_wp2_with (fail)
  go_must (refine (lf1_is _ HG.out HN.out HC.out H1.out).mono ?_)
  rintro e w1 ⟨rfl, rfl⟩
  go_wp2_with (fail)
  go_must (refine (lf1_is _ HG.out HN.out HC.out H2.out).mono ?_)
  rintro e w1 ⟨rfl, rfl⟩
  go_wp2_with (fail)
  go_must (refine (isd_is _ H3.out).mono ?_)
  rintro e w1 ⟨rfl, rfl⟩
  go_wp2_with (fail)
  go_must (refine (isd_is _ H4.out).mono ?_)
  rintro e w1 ⟨rfl, rfl⟩
  go_wp2
  go_ret
  first | exact ⟨ret_bool HF.out.symm, by go_grown⟩ | exact ⟨ret_bool (by rw [HF.out]), by go_grown⟩ | exact ⟨ret_bool (by rw [HF.out]; exact decide_eq_false (by omega)), by go_grown⟩ | exact ⟨ret_bool (by rw [HF.out]; exact decide_eq_true (by omega)), by go_grown⟩ | exact ⟨ret_bool (by rw [HF.out]; simp; omega), by go_grown⟩
set_option maxRecDepth 100000 in
set_option maxHeartbeats 4000000 in
theorem right_k1 (k f t u m d o b : Int) (A : Option Addr) (n cap : Nat) (bs : List Bool) (w : World) (hn : bs.length = n) (hc : Boos w A bs) (hf : lfB bs f = true) (ht : lfB bs t = true) (h : (f == t) = false) (h1 : 1 ≤ u) (h2 : u ≤ 1000000000) (h3 : 0 ≤ m ∧ m ≤ 200000) (h4 : 0 ≤ d ∧ d ≤ 200000) (h5 : m ≤ d) (h6 : o = -1) (h9 : k = 1) (h10 : ¬ (0 ≤ b ∧ b ≤ 200000)) :
    Calls Try.prog 42 #[.slice A n cap, .agg #[.int .i64 k, .int .i64 f, .int .i64 t, .int .i64 u, .int .i64 m, .int .i64 d, .int .i64 o, .int .i64 b]] w fun e w' => e = .returned (.bool (okB bs ⟨k, f, t, u, m, d, o, b⟩)) ∧ Below w.heap.size w w' := by
  have HN := Lib.hid hn
  have hg0 : ((w.alloc (.cells #[.slice A n cap] 64)).alloc (.cells #[.int .i64 k, .int .i64 f, .int .i64 t, .int .i64 u, .int .i64 m, .int .i64 d, .int .i64 o, .int .i64 b] 26)).cell? ⟨w.heap.size, 0, none⟩ = some (.slice A n cap) := Gen.al (by simp [go_sem])
  have HG := Lib.hid hg0
  have HC := Lib.hid (hc.keep (Gen.b_alloc (x := .cells #[.int .i64 k, .int .i64 f, .int .i64 t, .int .i64 u, .int .i64 m, .int .i64 d, .int .i64 o, .int .i64 b] 26) (Gen.b_alloc (x := .cells #[.slice A n cap] 64) (Below.refl w.heap.size w))))
  subst h6
  have HF := Lib.hid (show okB bs ⟨k, f, t, u, m, d, -1, b⟩ = false from okB_no (.inr (.inr (decide_eq_false (by dsimp only; omega)))))
  have H1 := Lib.hid hf
  have H2 := Lib.hid ht
  have H3 := Lib.hid (dyB_yes h3)
  have H4 := Lib.hid (dyB_yes h4)
  subst h9
  have H10 := Lib.hid (dyB_no h10)
  clear hn hg0 hc hf ht h3 h4 h10
  go_enter Try.func42, Try.ntmps42
  go_wp2_with (fail)
  go_must (refine (lf1_is _ HG.out HN.out HC.out H1.out).mono ?_)
  rintro e w1 ⟨rfl, rfl⟩
  go_wp2_with (fail)
  go_must (refine (lf1_is _ HG.out HN.out HC.out H2.out).mono ?_)
  rintro e w1 ⟨rfl, rfl⟩
  go_wp2_with (fail)
  go_must (refine (isd_is _ H3.out).mono ?_)
  rintro e w1 ⟨rfl, rfl⟩
  go_wp2_with (fail)
  go_must (refine (isd_is _ H4.out).mono ?_)
  rintro e w1 ⟨rfl, rfl⟩
  go_wp2_with (fail)
  go_must (refine (isd_is _ H10.out).mono ?_)
  rintro e w1 ⟨rfl, rfl⟩
  go_wp2
  go_ret
  first | exact ⟨ret_bool HF.out.symm, by go_grown⟩ | exact ⟨ret_bool (by rw [HF.out]), by go_grown⟩ | exact ⟨ret_bool (by rw [HF.out]; exact decide_eq_false (by omega)), by go_grown⟩ | exact ⟨ret_bool (by rw [HF.out]; exact decide_eq_true (by omega)), by go_grown⟩ | exact ⟨ret_bool (by rw [HF.out]; simp; omega), by go_grown⟩
set_option maxRecDepth 100000 in
set_option maxHeartbeats 4000000 in
theorem right_k2 (k f t u m d o b : Int) (A : Option Addr) (n cap : Nat) (bs : List Bool) (w : World) (hn : bs.length = n) (hc : Boos w A bs) (hf : lfB bs f = true) (ht : lfB bs t = true) (h : (f == t) = false) (h1 : 1 ≤ u) (h2 : u ≤ 1000000000) (h3 : 0 ≤ m ∧ m ≤ 200000) (h4 : 0 ≤ d ∧ d ≤ 200000) (h5 : m ≤ d) (h6 : o = -1) (h9 : k = 1) (h10 : 0 ≤ b ∧ b ≤ 200000) :
    Calls Try.prog 42 #[.slice A n cap, .agg #[.int .i64 k, .int .i64 f, .int .i64 t, .int .i64 u, .int .i64 m, .int .i64 d, .int .i64 o, .int .i64 b]] w fun e w' => e = .returned (.bool (okB bs ⟨k, f, t, u, m, d, o, b⟩)) ∧ Below w.heap.size w w' := by
  have HN := Lib.hid hn
  have hg0 : ((w.alloc (.cells #[.slice A n cap] 64)).alloc (.cells #[.int .i64 k, .int .i64 f, .int .i64 t, .int .i64 u, .int .i64 m, .int .i64 d, .int .i64 o, .int .i64 b] 26)).cell? ⟨w.heap.size, 0, none⟩ = some (.slice A n cap) := Gen.al (by simp [go_sem])
  have HG := Lib.hid hg0
  have HC := Lib.hid (hc.keep (Gen.b_alloc (x := .cells #[.int .i64 k, .int .i64 f, .int .i64 t, .int .i64 u, .int .i64 m, .int .i64 d, .int .i64 o, .int .i64 b] 26) (Gen.b_alloc (x := .cells #[.slice A n cap] 64) (Below.refl w.heap.size w))))
  subst h6
  have HF := Lib.hid (show okB bs ⟨k, f, t, u, m, d, -1, b⟩ = decide (d < b) from by
    rw [okB_D hf ht]; unfold okD; dsimp only; have hft : f ≠ t := by simpa using h
    exact decide_eq_decide.2 (by omega))
  have H1 := Lib.hid hf
  have H2 := Lib.hid ht
  have H3 := Lib.hid (dyB_yes h3)
  have H4 := Lib.hid (dyB_yes h4)
  subst h9
  have H10 := Lib.hid (dyB_yes h10)
  clear hn hg0 hc hf ht h3 h4 h10
  go_enter Try.func42, Try.ntmps42
  go_wp2_with (fail)
  go_must (refine (lf1_is _ HG.out HN.out HC.out H1.out).mono ?_)
  rintro e w1 ⟨rfl, rfl⟩
  go_wp2_with (fail)
  go_must (refine (lf1_is _ HG.out HN.out HC.out H2.out).mono ?_)
  rintro e w1 ⟨rfl, rfl⟩
  go_wp2_with (fail)
  go_must (refine (isd_is _ H3.out).mono ?_)
  rintro e w1 ⟨rfl, rfl⟩
  go_wp2_with (fail)
  go_must (refine (isd_is _ H4.out).mono ?_)
  rintro e w1 ⟨rfl, rfl⟩
  go_wp2_with (fail)
  go_must (refine (isd_is _ H10.out).mono ?_)
  rintro e w1 ⟨rfl, rfl⟩
  go_wp2
  go_ret
  first | exact ⟨ret_bool HF.out.symm, by go_grown⟩ | exact ⟨ret_bool (by rw [HF.out]), by go_grown⟩ | exact ⟨ret_bool (by rw [HF.out]; exact decide_eq_false (by omega)), by go_grown⟩ | exact ⟨ret_bool (by rw [HF.out]; exact decide_eq_true (by omega)), by go_grown⟩ | exact ⟨ret_bool (by rw [HF.out]; simp; omega), by go_grown⟩
set_option maxRecDepth 100000 in
set_option maxHeartbeats 4000000 in
theorem right_k3 (k f t u m d o b : Int) (A : Option Addr) (n cap : Nat) (bs : List Bool) (w : World) (hn : bs.length = n) (hc : Boos w A bs) (hf : lfB bs f = true) (ht : lfB bs t = true) (h : (f == t) = false) (h1 : 1 ≤ u) (h2 : u ≤ 1000000000) (h3 : 0 ≤ m ∧ m ≤ 200000) (h4 : 0 ≤ d ∧ d ≤ 200000) (h5 : m ≤ d) (h6 : o = -1) (h9 : (k == 0) = false) (h10 : (k == 1) = false) :
    Calls Try.prog 42 #[.slice A n cap, .agg #[.int .i64 k, .int .i64 f, .int .i64 t, .int .i64 u, .int .i64 m, .int .i64 d, .int .i64 o, .int .i64 b]] w fun e w' => e = .returned (.bool (okB bs ⟨k, f, t, u, m, d, o, b⟩)) ∧ Below w.heap.size w w' := by
  have HN := Lib.hid hn
  have hg0 : ((w.alloc (.cells #[.slice A n cap] 64)).alloc (.cells #[.int .i64 k, .int .i64 f, .int .i64 t, .int .i64 u, .int .i64 m, .int .i64 d, .int .i64 o, .int .i64 b] 26)).cell? ⟨w.heap.size, 0, none⟩ = some (.slice A n cap) := Gen.al (by simp [go_sem])
  have HG := Lib.hid hg0
  have HC := Lib.hid (hc.keep (Gen.b_alloc (x := .cells #[.int .i64 k, .int .i64 f, .int .i64 t, .int .i64 u, .int .i64 m, .int .i64 d, .int .i64 o, .int .i64 b] 26) (Gen.b_alloc (x := .cells #[.slice A n cap] 64) (Below.refl w.heap.size w))))
  subst h6
  have h9o : k ≠ 0 := by simpa using h9
  have h10o : k ≠ 1 := by simpa using h10
  have HF := Lib.hid (show okB bs ⟨k, f, t, u, m, d, -1, b⟩ = false from okB_no (.inr (.inr (decide_eq_false (by dsimp only; omega)))))
  have H1 := Lib.hid hf
  have H2 := Lib.hid ht
  have H3 := Lib.hid (dyB_yes h3)
  have H4 := Lib.hid (dyB_yes h4)
  clear hn hg0 hc hf ht h3 h4 h9o h10o
  go_enter Try.func42, Try.ntmps42
  go_wp2_with (fail)
  go_must (refine (lf1_is _ HG.out HN.out HC.out H1.out).mono ?_)
  rintro e w1 ⟨rfl, rfl⟩
  go_wp2_with (fail)
  go_must (refine (lf1_is _ HG.out HN.out HC.out H2.out).mono ?_)
  rintro e w1 ⟨rfl, rfl⟩
  go_wp2_with (fail)
  go_must (refine (isd_is _ H3.out).mono ?_)
  rintro e w1 ⟨rfl, rfl⟩
  go_wp2_with (fail)
  go_must (refine (isd_is _ H4.out).mono ?_)
  rintro e w1 ⟨rfl, rfl⟩
  go_wp2
  go_ret
  first | exact ⟨ret_bool HF.out.symm, by go_grown⟩ | exact ⟨ret_bool (by rw [HF.out]), by go_grown⟩ | exact ⟨ret_bool (by rw [HF.out]; exact decide_eq_false (by omega)), by go_grown⟩ | exact ⟨ret_bool (by rw [HF.out]; exact decide_eq_true (by omega)), by go_grown⟩ | exact ⟨ret_bool (by rw [HF.out]; simp; omega), by go_grown⟩
set_option maxRecDepth 100000 in
set_option maxHeartbeats 4000000 in
theorem right_l0 (k f t u m d o b : Int) (A : Option Addr) (n cap : Nat) (bs : List Bool) (w : World) (hn : bs.length = n) (hc : Boos w A bs) (hf : lfB bs f = true) (ht : lfB bs t = true) (h : (f == t) = false) (h1 : 1 ≤ u) (h2 : u ≤ 1000000000) (h3 : 0 ≤ m ∧ m ≤ 200000) (h4 : 0 ≤ d ∧ d ≤ 200000) (h5 : m ≤ d) (h6 : (o == -1) = false) (h7 : 0 ≤ o ∧ o ≤ 200000) (h8 : d ≤ o) (h9 : k = 0) :
    Calls Try.prog 42 #[.slice A n cap, .agg #[.int .i64 k, .int .i64 f, .int .i64 t, .int .i64 u, .int .i64 m, .int .i64 d, .int .i64 o, .int .i64 b]] w fun e w' => e = .returned (.bool (okB bs ⟨k, f, t, u, m, d, o, b⟩)) ∧ Below w.heap.size w w' := by
  have HN := Lib.hid hn
  have hg0 : ((w.alloc (.cells #[.slice A n cap] 64)).alloc (.cells #[.int .i64 k, .int .i64 f, .int .i64 t, .int .i64 u, .int .i64 m, .int .i64 d, .int .i64 o, .int .i64 b] 26)).cell? ⟨w.heap.size, 0, none⟩ = some (.slice A n cap) := Gen.al (by simp [go_sem])
  have HG := Lib.hid hg0
  have HC := Lib.hid (hc.keep (Gen.b_alloc (x := .cells #[.int .i64 k, .int .i64 f, .int .i64 t, .int .i64 u, .int .i64 m, .int .i64 d, .int .i64 o, .int .i64 b] 26) (Gen.b_alloc (x := .cells #[.slice A n cap] 64) (Below.refl w.heap.size w))))
  have h6b : (o != -1) = true := by simpa using h6
  have HF := Lib.hid (show okB bs ⟨k, f, t, u, m, d, o, b⟩ = (b == 0) from by
    rw [okB_D hf ht]; unfold okD; dsimp only; have e : (b == 0) = decide (b = 0) := rfl; rw [e]; have hft : f ≠ t := by simpa using h
    exact decide_eq_decide.2 (by omega))
  have H1 := Lib.hid hf
  have H2 := Lib.hid ht
  have H3 := Lib.hid (dyB_yes h3)
  have H4 := Lib.hid (dyB_yes h4)
  have H7 := Lib.hid (dyB_yes h7)
  subst h9
  clear hn hg0 hc hf ht h3 h4 h7
  go_enter Try.func42, Try.ntmps42
  go_wp2_with (fail)
  go_must (refine (lf1_is _ HG.out HN.out HC.out H1.out).mono ?_)
  rintro e w1 ⟨rfl, rfl⟩
  go_wp2_with (fail)
  go_must (refine (lf1_is _ HG.out HN.out HC.out H2.out).mono ?_)
  rintro e w1 ⟨rfl, rfl⟩
  go_wp2_with (fail)
  go_must (refine (isd_is _ H3.out).mono ?_)
  rintro e w1 ⟨rfl, rfl⟩
  go_wp2_with (fail)
  go_must (refine (isd_is _ H4.out).mono ?_)
  rintro e w1 ⟨rfl, rfl⟩
  go_wp2_with (fail)
  go_must (refine (isd_is _ H7.out).mono ?_)
  rintro e w1 ⟨rfl, rfl⟩
  go_wp2
  go_ret
  first | exact ⟨ret_bool HF.out.symm, by go_grown⟩ | exact ⟨ret_bool (by rw [HF.out]), by go_grown⟩ | exact ⟨ret_bool (by rw [HF.out]; exact decide_eq_false (by omega)), by go_grown⟩ | exact ⟨ret_bool (by rw [HF.out]; exact decide_eq_true (by omega)), by go_grown⟩ | exact ⟨ret_bool (by rw [HF.out]; simp; omega), by go_grown⟩
set_option maxRecDepth 100000 in
set_option maxHeartbeats 4000000 in
theorem right_l1 (k f t u m d o b : Int) (A : Option Addr) (n cap : Nat) (bs : List Bool) (w : World) (hn : bs.length = n) (hc : Boos w A bs) (hf : lfB bs f = true) (ht : lfB bs t = true) (h : (f == t) = false) (h1 : 1 ≤ u) (h2 : u ≤ 1000000000) (h3 : 0 ≤ m ∧ m ≤ 200000) (h4 : 0 ≤ d ∧ d ≤ 200000) (h5 : m ≤ d) (h6 : (o == -1) = false) (h7 : 0 ≤ o ∧ o ≤ 200000) (h8 : d ≤ o) (h9 : k = 1) (h10 : ¬ (0 ≤ b ∧ b ≤ 200000)) :
    Calls Try.prog 42 #[.slice A n cap, .agg #[.int .i64 k, .int .i64 f, .int .i64 t, .int .i64 u, .int .i64 m, .int .i64 d, .int .i64 o, .int .i64 b]] w fun e w' => e = .returned (.bool (okB bs ⟨k, f, t, u, m, d, o, b⟩)) ∧ Below w.heap.size w w' := by
  have HN := Lib.hid hn
  have hg0 : ((w.alloc (.cells #[.slice A n cap] 64)).alloc (.cells #[.int .i64 k, .int .i64 f, .int .i64 t, .int .i64 u, .int .i64 m, .int .i64 d, .int .i64 o, .int .i64 b] 26)).cell? ⟨w.heap.size, 0, none⟩ = some (.slice A n cap) := Gen.al (by simp [go_sem])
  have HG := Lib.hid hg0
  have HC := Lib.hid (hc.keep (Gen.b_alloc (x := .cells #[.int .i64 k, .int .i64 f, .int .i64 t, .int .i64 u, .int .i64 m, .int .i64 d, .int .i64 o, .int .i64 b] 26) (Gen.b_alloc (x := .cells #[.slice A n cap] 64) (Below.refl w.heap.size w))))
  have h6b : (o != -1) = true := by simpa using h6
  have HF := Lib.hid (show okB bs ⟨k, f, t, u, m, d, o, b⟩ = false from okB_no (.inr (.inr (decide_eq_false (by dsimp only; omega)))))
  have H1 := Lib.hid hf
  have H2 := Lib.hid ht
  have H3 := Lib.hid (dyB_yes h3)
  have H4 := Lib.hid (dyB_yes h4)
  have H7 := Lib.hid (dyB_yes h7)
  subst h9
  have H10 := Lib.hid (dyB_no h10)
  clear hn hg0 hc hf ht h3 h4 h10 h7
  go_enter Try.func42, Try.ntmps42
  go_wp2_with (fail)
  go_must (refine (lf1_is _ HG.out HN.out HC.out H1.out).mono ?_)
  rintro e w1 ⟨rfl, rfl⟩
  go_wp2_with (fail)
  go_must (refine (lf1_is _ HG.out HN.out HC.out H2.out).mono ?_)
  rintro e w1 ⟨rfl, rfl⟩
  go_wp2_with (fail)
  go_must (refine (isd_is _ H3.out).mono ?_)
  rintro e w1 ⟨rfl, rfl⟩
  go_wp2_with (fail)
  go_must (refine (isd_is _ H4.out).mono ?_)
  rintro e w1 ⟨rfl, rfl⟩
  go_wp2_with (fail)
  go_must (refine (isd_is _ H7.out).mono ?_)
  rintro e w1 ⟨rfl, rfl⟩
  go_wp2_with (fail)
  go_must (refine (isd_is _ H10.out).mono ?_)
  rintro e w1 ⟨rfl, rfl⟩
  go_wp2
  go_ret
  first | exact ⟨ret_bool HF.out.symm, by go_grown⟩ | exact ⟨ret_bool (by rw [HF.out]), by go_grown⟩ | exact ⟨ret_bool (by rw [HF.out]; exact decide_eq_false (by omega)), by go_grown⟩ | exact ⟨ret_bool (by rw [HF.out]; exact decide_eq_true (by omega)), by go_grown⟩ | exact ⟨ret_bool (by rw [HF.out]; simp; omega), by go_grown⟩
set_option maxRecDepth 100000 in
set_option maxHeartbeats 4000000 in
theorem right_l2 (k f t u m d o b : Int) (A : Option Addr) (n cap : Nat) (bs : List Bool) (w : World) (hn : bs.length = n) (hc : Boos w A bs) (hf : lfB bs f = true) (ht : lfB bs t = true) (h : (f == t) = false) (h1 : 1 ≤ u) (h2 : u ≤ 1000000000) (h3 : 0 ≤ m ∧ m ≤ 200000) (h4 : 0 ≤ d ∧ d ≤ 200000) (h5 : m ≤ d) (h6 : (o == -1) = false) (h7 : 0 ≤ o ∧ o ≤ 200000) (h8 : d ≤ o) (h9 : k = 1) (h10 : 0 ≤ b ∧ b ≤ 200000) :
    Calls Try.prog 42 #[.slice A n cap, .agg #[.int .i64 k, .int .i64 f, .int .i64 t, .int .i64 u, .int .i64 m, .int .i64 d, .int .i64 o, .int .i64 b]] w fun e w' => e = .returned (.bool (okB bs ⟨k, f, t, u, m, d, o, b⟩)) ∧ Below w.heap.size w w' := by
  have HN := Lib.hid hn
  have hg0 : ((w.alloc (.cells #[.slice A n cap] 64)).alloc (.cells #[.int .i64 k, .int .i64 f, .int .i64 t, .int .i64 u, .int .i64 m, .int .i64 d, .int .i64 o, .int .i64 b] 26)).cell? ⟨w.heap.size, 0, none⟩ = some (.slice A n cap) := Gen.al (by simp [go_sem])
  have HG := Lib.hid hg0
  have HC := Lib.hid (hc.keep (Gen.b_alloc (x := .cells #[.int .i64 k, .int .i64 f, .int .i64 t, .int .i64 u, .int .i64 m, .int .i64 d, .int .i64 o, .int .i64 b] 26) (Gen.b_alloc (x := .cells #[.slice A n cap] 64) (Below.refl w.heap.size w))))
  have h6b : (o != -1) = true := by simpa using h6
  have HF := Lib.hid (show okB bs ⟨k, f, t, u, m, d, o, b⟩ = decide (d < b) from by
    rw [okB_D hf ht]; unfold okD; dsimp only; have hft : f ≠ t := by simpa using h
    exact decide_eq_decide.2 (by omega))
  have H1 := Lib.hid hf
  have H2 := Lib.hid ht
  have H3 := Lib.hid (dyB_yes h3)
  have H4 := Lib.hid (dyB_yes h4)
  have H7 := Lib.hid (dyB_yes h7)
  subst h9
  have H10 := Lib.hid (dyB_yes h10)
  clear hn hg0 hc hf ht h3 h4 h10 h7
  go_enter Try.func42, Try.ntmps42
  go_wp2_with (fail)
  go_must (refine (lf1_is _ HG.out HN.out HC.out H1.out).mono ?_)
  rintro e w1 ⟨rfl, rfl⟩
  go_wp2_with (fail)
  go_must (refine (lf1_is _ HG.out HN.out HC.out H2.out).mono ?_)
  rintro e w1 ⟨rfl, rfl⟩
  go_wp2_with (fail)
  go_must (refine (isd_is _ H3.out).mono ?_)
  rintro e w1 ⟨rfl, rfl⟩
  go_wp2_with (fail)
  go_must (refine (isd_is _ H4.out).mono ?_)
  rintro e w1 ⟨rfl, rfl⟩
  go_wp2_with (fail)
  go_must (refine (isd_is _ H7.out).mono ?_)
  rintro e w1 ⟨rfl, rfl⟩
  go_wp2_with (fail)
  go_must (refine (isd_is _ H10.out).mono ?_)
  rintro e w1 ⟨rfl, rfl⟩
  go_wp2
  go_ret
  first | exact ⟨ret_bool HF.out.symm, by go_grown⟩ | exact ⟨ret_bool (by rw [HF.out]), by go_grown⟩ | exact ⟨ret_bool (by rw [HF.out]; exact decide_eq_false (by omega)), by go_grown⟩ | exact ⟨ret_bool (by rw [HF.out]; exact decide_eq_true (by omega)), by go_grown⟩ | exact ⟨ret_bool (by rw [HF.out]; simp; omega), by go_grown⟩
set_option maxRecDepth 100000 in
set_option maxHeartbeats 4000000 in
theorem right_l3 (k f t u m d o b : Int) (A : Option Addr) (n cap : Nat) (bs : List Bool) (w : World) (hn : bs.length = n) (hc : Boos w A bs) (hf : lfB bs f = true) (ht : lfB bs t = true) (h : (f == t) = false) (h1 : 1 ≤ u) (h2 : u ≤ 1000000000) (h3 : 0 ≤ m ∧ m ≤ 200000) (h4 : 0 ≤ d ∧ d ≤ 200000) (h5 : m ≤ d) (h6 : (o == -1) = false) (h7 : 0 ≤ o ∧ o ≤ 200000) (h8 : d ≤ o) (h9 : (k == 0) = false) (h10 : (k == 1) = false) :
    Calls Try.prog 42 #[.slice A n cap, .agg #[.int .i64 k, .int .i64 f, .int .i64 t, .int .i64 u, .int .i64 m, .int .i64 d, .int .i64 o, .int .i64 b]] w fun e w' => e = .returned (.bool (okB bs ⟨k, f, t, u, m, d, o, b⟩)) ∧ Below w.heap.size w w' := by
  have HN := Lib.hid hn
  have hg0 : ((w.alloc (.cells #[.slice A n cap] 64)).alloc (.cells #[.int .i64 k, .int .i64 f, .int .i64 t, .int .i64 u, .int .i64 m, .int .i64 d, .int .i64 o, .int .i64 b] 26)).cell? ⟨w.heap.size, 0, none⟩ = some (.slice A n cap) := Gen.al (by simp [go_sem])
  have HG := Lib.hid hg0
  have HC := Lib.hid (hc.keep (Gen.b_alloc (x := .cells #[.int .i64 k, .int .i64 f, .int .i64 t, .int .i64 u, .int .i64 m, .int .i64 d, .int .i64 o, .int .i64 b] 26) (Gen.b_alloc (x := .cells #[.slice A n cap] 64) (Below.refl w.heap.size w))))
  have h6b : (o != -1) = true := by simpa using h6
  have h9o : k ≠ 0 := by simpa using h9
  have h10o : k ≠ 1 := by simpa using h10
  have HF := Lib.hid (show okB bs ⟨k, f, t, u, m, d, o, b⟩ = false from okB_no (.inr (.inr (decide_eq_false (by dsimp only; omega)))))
  have H1 := Lib.hid hf
  have H2 := Lib.hid ht
  have H3 := Lib.hid (dyB_yes h3)
  have H4 := Lib.hid (dyB_yes h4)
  have H7 := Lib.hid (dyB_yes h7)
  clear hn hg0 hc hf ht h3 h4 h9o h10o h7
  go_enter Try.func42, Try.ntmps42
  go_wp2_with (fail)
  go_must (refine (lf1_is _ HG.out HN.out HC.out H1.out).mono ?_)
  rintro e w1 ⟨rfl, rfl⟩
  go_wp2_with (fail)
  go_must (refine (lf1_is _ HG.out HN.out HC.out H2.out).mono ?_)
  rintro e w1 ⟨rfl, rfl⟩
  go_wp2_with (fail)
  go_must (refine (isd_is _ H3.out).mono ?_)
  rintro e w1 ⟨rfl, rfl⟩
  go_wp2_with (fail)
  go_must (refine (isd_is _ H4.out).mono ?_)
  rintro e w1 ⟨rfl, rfl⟩
  go_wp2_with (fail)
  go_must (refine (isd_is _ H7.out).mono ?_)
  rintro e w1 ⟨rfl, rfl⟩
  go_wp2
  go_ret
  first | exact ⟨ret_bool HF.out.symm, by go_grown⟩ | exact ⟨ret_bool (by rw [HF.out]), by go_grown⟩ | exact ⟨ret_bool (by rw [HF.out]; exact decide_eq_false (by omega)), by go_grown⟩ | exact ⟨ret_bool (by rw [HF.out]; exact decide_eq_true (by omega)), by go_grown⟩ | exact ⟨ret_bool (by rw [HF.out]; simp; omega), by go_grown⟩
theorem tright_any (x : Tr) (A : Option Addr) (n cap : Nat) (bs : List Bool) (w : World) (hn : bs.length = n) (hc : Boos w A bs) :
    Calls Try.prog 42 #[.slice A n cap, .agg (tcs x).toArray] w fun e w' => e = .returned (.bool (okB bs x)) ∧ Below w.heap.size w w' := by
  obtain ⟨k, f, t, u, m, d, o, b⟩ := x
  have N : ∀ {a c : Int}, ¬ a = c → (a == c) = false := fun h => by rw [beq_eq_false_iff_ne]; exact h
  cases hf : lfB bs f
  · exact right_a k f t u m d o b A n cap bs w hn hc hf
  cases ht : lfB bs t
  · exact right_b k f t u m d o b A n cap bs w hn hc hf ht
  by_cases h : f = t
  · exact right_c k f t u m d o b A n cap bs w hn hc hf ht h
  by_cases h1 : u < 1
  · exact right_d k f t u m d o b A n cap bs w hn hc hf ht (N h) h1
  by_cases h2 : 1000000000 < u
  · exact right_e k f t u m d o b A n cap bs w hn hc hf ht (N h) (by omega) h2
  by_cases h3 : 0 ≤ m ∧ m ≤ 200000
  case neg => exact right_f k f t u m d o b A n cap bs w hn hc hf ht (N h) (by omega) (by omega) h3
  by_cases h4 : 0 ≤ d ∧ d ≤ 200000
  case neg => exact right_g k f t u m d o b A n cap bs w hn hc hf ht (N h) (by omega) (by omega) h3 h4
  by_cases h5 : d < m
  · exact right_h k f t u m d o b A n cap bs w hn hc hf ht (N h) (by omega) (by omega) h3 h4 h5
  by_cases h6 : o = -1
  · by_cases h9 : k = 0
    · exact right_k0 k f t u m d o b A n cap bs w hn hc hf ht (N h) (by omega) (by omega) h3 h4 (by omega) h6 h9
    · by_cases h10 : k = 1
      · by_cases h11 : 0 ≤ b ∧ b ≤ 200000
        · exact right_k2 k f t u m d o b A n cap bs w hn hc hf ht (N h) (by omega) (by omega) h3 h4 (by omega) h6 h10 h11
        · exact right_k1 k f t u m d o b A n cap bs w hn hc hf ht (N h) (by omega) (by omega) h3 h4 (by omega) h6 h10 h11
      · exact right_k3 k f t u m d o b A n cap bs w hn hc hf ht (N h) (by omega) (by omega) h3 h4 (by omega) h6 (N h9) (N h10)
  · by_cases h7 : 0 ≤ o ∧ o ≤ 200000
    case neg => exact right_i k f t u m d o b A n cap bs w hn hc hf ht (N h) (by omega) (by omega) h3 h4 (by omega) (N h6) h7
    by_cases h8 : o < d
    · exact right_j k f t u m d o b A n cap bs w hn hc hf ht (N h) (by omega) (by omega) h3 h4 (by omega) (N h6) h7 h8
    · by_cases h9 : k = 0
      · exact right_l0 k f t u m d o b A n cap bs w hn hc hf ht (N h) (by omega) (by omega) h3 h4 (by omega) (N h6) h7 (by omega) h9
      · by_cases h10 : k = 1
        · by_cases h11 : 0 ≤ b ∧ b ≤ 200000
          · exact right_l2 k f t u m d o b A n cap bs w hn hc hf ht (N h) (by omega) (by omega) h3 h4 (by omega) (N h6) h7 (by omega) h10 h11
          · exact right_l1 k f t u m d o b A n cap bs w hn hc hf ht (N h) (by omega) (by omega) h3 h4 (by omega) (N h6) h7 (by omega) h10 h11
        · exact right_l3 k f t u m d o b A n cap bs w hn hc hf ht (N h) (by omega) (by omega) h3 h4 (by omega) (N h6) h7 (by omega) (N h9) (N h10)
end Go.Proofs.Ytpekedhcnijgcaa.Book
