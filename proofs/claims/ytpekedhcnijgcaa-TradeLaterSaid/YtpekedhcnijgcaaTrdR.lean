/- The reference of trade: the contracts of day, One. -/
import Derived.Test.YtpekedhcnijgcaaTrdC
namespace Go.Proofs.Ytpekedhcnijgcaa.Book
open Go.ChangeShapes Go.WideShapes Go.ChangeAt Go.RowKit Go.Proofs.Ytpekedhcnijgcaa.Cell
set_option linter.unusedVariables false
set_option linter.unusedSimpArgs false

set_option maxHeartbeats 400000 in
theorem rday_any (x : Int) (w : World) : Calls Try.prog 52 #[.int .i64 x] w fun e w' => e = .returned (.bool (dyB x)) ∧ w = w' := by
  by_cases h : 0 ≤ x ∧ x ≤ 200000
  · have HF := Lib.hid (show dyB x = true from decide_eq_true h)
    obtain ⟨h0, h1⟩ := h
    go_enter Try.func52, Try.ntmps52
    go_wp2
    go_ret
    exact ⟨ret_bool HF.out.symm, rfl⟩
  · have HF := Lib.hid (show dyB x = false from decide_eq_false h)
    rcases (show x < 0 ∨ (0 ≤ x ∧ 200000 < x) by omega) with a | ⟨a, b⟩
    all_goals
      clear h
      go_enter Try.func52, Try.ntmps52
      go_wp2
      go_ret
      first | exact ⟨ret_bool HF.out.symm, rfl⟩ | exact ⟨ret_bool (by rw [HF.out]; exact decide_eq_false (by omega)), rfl⟩
theorem rday_is {x : Int} {b : Bool} (w : World) (h : dyB x = b) : Calls Try.prog 52 #[.int .i64 x] w fun e w' => e = .returned (.bool b) ∧ w = w' := by
  have hh := rday_any x w
  rw [h] at hh
  exact hh
def okO (ss : List (Int × Int)) (x : Tr) : Bool := lfO ss x.f && lfO ss x.t && okD x
theorem okO_no {ss : List (Int × Int)} {x : Tr} (h : lfO ss x.f = false ∨ lfO ss x.t = false ∨ okD x = false) : okO ss x = false := by
  unfold okO
  rcases h with h | h | h
  · rw [h]; rfl
  · rw [h, Bool.and_false]; rfl
  · rw [h, Bool.and_false]
theorem okO_D {ss : List (Int × Int)} {x : Tr} (h : lfO ss x.f = true) (h2 : lfO ss x.t = true) : okO ss x = okD x := by
  unfold okO
  rw [h, h2]; rfl
theorem okO_T {ss : List (Int × Int)} (h : rg ss = true) (x : Tr) : okO ss x = okT ss x := by
  unfold okO okT lfO
  rw [h, Bool.true_and, Bool.true_and]
set_option maxRecDepth 100000 in
set_option maxHeartbeats 4000000 in
theorem rone_p (k f t u m d o b : Int) (A : Option Addr) (n cap : Nat) (ss : List (Int × Int)) (w : World) (hn : ss.length = n) (hc : Prs w A ss) (hbig : n ≤ 1000000) (h : k < 0) :
    Calls Try.prog 45 #[.slice A n cap, .agg #[.int .i64 k, .int .i64 f, .int .i64 t, .int .i64 u, .int .i64 m, .int .i64 d, .int .i64 o, .int .i64 b]] w fun e w' => e = .returned (.bool (okO ss ⟨k, f, t, u, m, d, o, b⟩)) ∧ Below w.heap.size w w' := by
  have HN := Lib.hid hn
  have hbox : Row (w.alloc (.cells #[.int .i64 k, .int .i64 f, .int .i64 t, .int .i64 u, .int .i64 m, .int .i64 d, .int .i64 o, .int .i64 b] 26)) w.heap.size 26 #[.int .i64 k, .int .i64 f, .int .i64 t, .int .i64 u, .int .i64 m, .int .i64 d, .int .i64 o, .int .i64 b] := Row.new _ _ _
  have hB0 : Below w.heap.size w (w.alloc (.cells #[.int .i64 k, .int .i64 f, .int .i64 t, .int .i64 u, .int .i64 m, .int .i64 d, .int .i64 o, .int .i64 b] 26)) := Gen.b_alloc (Below.refl _ _)
  have HB0 := Lib.hid hB0
  have HBX := Lib.hid hbox
  have HC := Lib.hid (hc.keep hB0)
  have HF := Lib.hid (show okO ss ⟨k, f, t, u, m, d, o, b⟩ = false from okO_no (.inr (.inr (decide_eq_false (by dsimp only; omega)))))
  clear hn hbox hB0 hc
  go_enter Try.func45, Try.ntmps45
  go_wp2
  go_ret
  first | exact ⟨ret_bool HF.out.symm, (by go_grown)⟩ | exact ⟨ret_bool (by rw [HF.out]), (by go_grown)⟩ | exact ⟨ret_bool (by rw [HF.out]; exact decide_eq_false (by omega)), (by go_grown)⟩ | exact ⟨ret_bool (by rw [HF.out]; exact decide_eq_true (by omega)), (by go_grown)⟩ | exact ⟨ret_bool (by rw [HF.out]; simp; omega), (by go_grown)⟩
set_option maxRecDepth 100000 in
set_option maxHeartbeats 4000000 in
theorem rone_q (k f t u m d o b : Int) (A : Option Addr) (n cap : Nat) (ss : List (Int × Int)) (w : World) (hn : ss.length = n) (hc : Prs w A ss) (hbig : n ≤ 1000000) (h0 : 0 ≤ k) (h : 2 ≤ k) :
    Calls Try.prog 45 #[.slice A n cap, .agg #[.int .i64 k, .int .i64 f, .int .i64 t, .int .i64 u, .int .i64 m, .int .i64 d, .int .i64 o, .int .i64 b]] w fun e w' => e = .returned (.bool (okO ss ⟨k, f, t, u, m, d, o, b⟩)) ∧ Below w.heap.size w w' := by
  have HN := Lib.hid hn
  have hbox : Row (w.alloc (.cells #[.int .i64 k, .int .i64 f, .int .i64 t, .int .i64 u, .int .i64 m, .int .i64 d, .int .i64 o, .int .i64 b] 26)) w.heap.size 26 #[.int .i64 k, .int .i64 f, .int .i64 t, .int .i64 u, .int .i64 m, .int .i64 d, .int .i64 o, .int .i64 b] := Row.new _ _ _
  have hB0 : Below w.heap.size w (w.alloc (.cells #[.int .i64 k, .int .i64 f, .int .i64 t, .int .i64 u, .int .i64 m, .int .i64 d, .int .i64 o, .int .i64 b] 26)) := Gen.b_alloc (Below.refl _ _)
  have HB0 := Lib.hid hB0
  have HBX := Lib.hid hbox
  have HC := Lib.hid (hc.keep hB0)
  have HF := Lib.hid (show okO ss ⟨k, f, t, u, m, d, o, b⟩ = false from okO_no (.inr (.inr (decide_eq_false (by dsimp only; omega)))))
  clear hn hbox hB0 hc
  go_enter Try.func45, Try.ntmps45
  go_wp2
  go_ret
  first | exact ⟨ret_bool HF.out.symm, (by go_grown)⟩ | exact ⟨ret_bool (by rw [HF.out]), (by go_grown)⟩ | exact ⟨ret_bool (by rw [HF.out]; exact decide_eq_false (by omega)), (by go_grown)⟩ | exact ⟨ret_bool (by rw [HF.out]; exact decide_eq_true (by omega)), (by go_grown)⟩ | exact ⟨ret_bool (by rw [HF.out]; simp; omega), (by go_grown)⟩
set_option maxRecDepth 100000 in
set_option maxHeartbeats 4000000 in
theorem rone_c (k f t u m d o b : Int) (A : Option Addr) (n cap : Nat) (ss : List (Int × Int)) (w : World) (hn : ss.length = n) (hc : Prs w A ss) (hbig : n ≤ 1000000) (k0 : 0 ≤ k) (k1 : k < 2) (h : f = t) :
    Calls Try.prog 45 #[.slice A n cap, .agg #[.int .i64 k, .int .i64 f, .int .i64 t, .int .i64 u, .int .i64 m, .int .i64 d, .int .i64 o, .int .i64 b]] w fun e w' => e = .returned (.bool (okO ss ⟨k, f, t, u, m, d, o, b⟩)) ∧ Below w.heap.size w w' := by
  have HN := Lib.hid hn
  have hbox : Row (w.alloc (.cells #[.int .i64 k, .int .i64 f, .int .i64 t, .int .i64 u, .int .i64 m, .int .i64 d, .int .i64 o, .int .i64 b] 26)) w.heap.size 26 #[.int .i64 k, .int .i64 f, .int .i64 t, .int .i64 u, .int .i64 m, .int .i64 d, .int .i64 o, .int .i64 b] := Row.new _ _ _
  have hB0 : Below w.heap.size w (w.alloc (.cells #[.int .i64 k, .int .i64 f, .int .i64 t, .int .i64 u, .int .i64 m, .int .i64 d, .int .i64 o, .int .i64 b] 26)) := Gen.b_alloc (Below.refl _ _)
  have HB0 := Lib.hid hB0
  have HBX := Lib.hid hbox
  have HC := Lib.hid (hc.keep hB0)
  have HF := Lib.hid (show okO ss ⟨k, f, t, u, m, d, o, b⟩ = false from okO_no (.inr (.inr (decide_eq_false (by dsimp only; omega)))))
  subst h
  clear hn hbox hB0 hc
  go_enter Try.func45, Try.ntmps45
  go_wp2
  go_ret
  first | exact ⟨ret_bool HF.out.symm, (by go_grown)⟩ | exact ⟨ret_bool (by rw [HF.out]), (by go_grown)⟩ | exact ⟨ret_bool (by rw [HF.out]; exact decide_eq_false (by omega)), (by go_grown)⟩ | exact ⟨ret_bool (by rw [HF.out]; exact decide_eq_true (by omega)), (by go_grown)⟩ | exact ⟨ret_bool (by rw [HF.out]; simp; omega), (by go_grown)⟩
set_option maxRecDepth 100000 in
set_option maxHeartbeats 4000000 in
theorem rone_a (k f t u m d o b : Int) (A : Option Addr) (n cap : Nat) (ss : List (Int × Int)) (w : World) (hn : ss.length = n) (hc : Prs w A ss) (hbig : n ≤ 1000000) (k0 : 0 ≤ k) (k1 : k < 2) (h : (f == t) = false) (hf : lfO ss f = false) :
    Calls Try.prog 45 #[.slice A n cap, .agg #[.int .i64 k, .int .i64 f, .int .i64 t, .int .i64 u, .int .i64 m, .int .i64 d, .int .i64 o, .int .i64 b]] w fun e w' => e = .returned (.bool (okO ss ⟨k, f, t, u, m, d, o, b⟩)) ∧ Below w.heap.size w w' := by
  have HN := Lib.hid hn
  have hbox : Row (w.alloc (.cells #[.int .i64 k, .int .i64 f, .int .i64 t, .int .i64 u, .int .i64 m, .int .i64 d, .int .i64 o, .int .i64 b] 26)) w.heap.size 26 #[.int .i64 k, .int .i64 f, .int .i64 t, .int .i64 u, .int .i64 m, .int .i64 d, .int .i64 o, .int .i64 b] := Row.new _ _ _
  have hB0 : Below w.heap.size w (w.alloc (.cells #[.int .i64 k, .int .i64 f, .int .i64 t, .int .i64 u, .int .i64 m, .int .i64 d, .int .i64 o, .int .i64 b] 26)) := Gen.b_alloc (Below.refl _ _)
  have HB0 := Lib.hid hB0
  have HBX := Lib.hid hbox
  have HC := Lib.hid (hc.keep hB0)
  have HF := Lib.hid (show okO ss ⟨k, f, t, u, m, d, o, b⟩ = false from okO_no (.inl hf))
  have H1 := Lib.hid hf
  clear hn hbox hB0 hc hf
  go_enter Try.func45, Try.ntmps45
  go_wp2_with (fail)
  go_must (refine (rleaf_is _ HN.out HC.out hbig H1.out).mono ?_)
  rintro e w1 ⟨rfl, hb1⟩
  have hB1 := Gen.over hb1 HB0.out
  have hx1 := HBX.out.keep hb1
  have HC1 := Lib.hid (HC.out.keep hb1)
  have d2 := hx1.cell 2
  clear hb1
  go_wp2
  go_ret
  first | exact ⟨ret_bool HF.out.symm, hB1⟩ | exact ⟨ret_bool (by rw [HF.out]), hB1⟩ | exact ⟨ret_bool (by rw [HF.out]; exact decide_eq_false (by omega)), hB1⟩ | exact ⟨ret_bool (by rw [HF.out]; exact decide_eq_true (by omega)), hB1⟩ | exact ⟨ret_bool (by rw [HF.out]; simp; omega), hB1⟩
set_option maxRecDepth 100000 in
set_option maxHeartbeats 4000000 in
theorem rone_b (k f t u m d o b : Int) (A : Option Addr) (n cap : Nat) (ss : List (Int × Int)) (w : World) (hn : ss.length = n) (hc : Prs w A ss) (hbig : n ≤ 1000000) (k0 : 0 ≤ k) (k1 : k < 2) (h : (f == t) = false) (hf : lfO ss f = true) (ht : lfO ss t = false) :
    Calls Try.prog 45 #[.slice A n cap, .agg #[.int .i64 k, .int .i64 f, .int .i64 t, .int .i64 u, .int .i64 m, .int .i64 d, .int .i64 o, .int .i64 b]] w fun e w' => e = .returned (.bool (okO ss ⟨k, f, t, u, m, d, o, b⟩)) ∧ Below w.heap.size w w' := by
  have HN := Lib.hid hn
  have hbox : Row (w.alloc (.cells #[.int .i64 k, .int .i64 f, .int .i64 t, .int .i64 u, .int .i64 m, .int .i64 d, .int .i64 o, .int .i64 b] 26)) w.heap.size 26 #[.int .i64 k, .int .i64 f, .int .i64 t, .int .i64 u, .int .i64 m, .int .i64 d, .int .i64 o, .int .i64 b] := Row.new _ _ _
  have hB0 : Below w.heap.size w (w.alloc (.cells #[.int .i64 k, .int .i64 f, .int .i64 t, .int .i64 u, .int .i64 m, .int .i64 d, .int .i64 o, .int .i64 b] 26)) := Gen.b_alloc (Below.refl _ _)
  have HB0 := Lib.hid hB0
  have HBX := Lib.hid hbox
  have HC := Lib.hid (hc.keep hB0)
  have HF := Lib.hid (show okO ss ⟨k, f, t, u, m, d, o, b⟩ = false from okO_no (.inr (.inl ht)))
  have H1 := Lib.hid hf
  have H2 := Lib.hid ht
  clear hn hbox hB0 hc hf ht
  go_enter Try.func45, Try.ntmps45
  go_wp2_with (fail)
  go_must (refine (rleaf_is _ HN.out HC.out hbig H1.out).mono ?_)
  rintro e w1 ⟨rfl, hb1⟩
  have hB1 := Gen.over hb1 HB0.out
  have hx1 := HBX.out.keep hb1
  have HC1 := Lib.hid (HC.out.keep hb1)
  have d2 := hx1.cell 2
  clear hb1
  go_wp2_with (fail)
  go_must (refine (rleaf_is _ HN.out HC1.out hbig H2.out).mono ?_)
  rintro e w2 ⟨rfl, hb2⟩
  have hB2 := Gen.over hb2 hB1
  have hx2 := hx1.keep hb2
  clear hb2 d2
  have d0 := hx2.cell 0
  have d1 := hx2.cell 1
  have d2 := hx2.cell 2
  have d3 := hx2.cell 3
  have d4 := hx2.cell 4
  have d5 := hx2.cell 5
  have d6 := hx2.cell 6
  have d7 := hx2.cell 7
  clear hx1 hx2
  go_wp2
  go_ret
  first | exact ⟨ret_bool HF.out.symm, hB2⟩ | exact ⟨ret_bool (by rw [HF.out]), hB2⟩ | exact ⟨ret_bool (by rw [HF.out]; exact decide_eq_false (by omega)), hB2⟩ | exact ⟨ret_bool (by rw [HF.out]; exact decide_eq_true (by omega)), hB2⟩ | exact ⟨ret_bool (by rw [HF.out]; simp; omega), hB2⟩
set_option maxRecDepth 100000 in
set_option maxHeartbeats 4000000 in
theorem rone_d (k f t u m d o b : Int) (A : Option Addr) (n cap : Nat) (ss : List (Int × Int)) (w : World) (hn : ss.length = n) (hc : Prs w A ss) (hbig : n ≤ 1000000) (k0 : 0 ≤ k) (k1 : k < 2) (h : (f == t) = false) (hf : lfO ss f = true) (ht : lfO ss t = true) (h1 : u < 1) :
    Calls Try.prog 45 #[.slice A n cap, .agg #[.int .i64 k, .int .i64 f, .int .i64 t, .int .i64 u, .int .i64 m, .int .i64 d, .int .i64 o, .int .i64 b]] w fun e w' => e = .returned (.bool (okO ss ⟨k, f, t, u, m, d, o, b⟩)) ∧ Below w.heap.size w w' := by
  have HN := Lib.hid hn
  have hbox : Row (w.alloc (.cells #[.int .i64 k, .int .i64 f, .int .i64 t, .int .i64 u, .int .i64 m, .int .i64 d, .int .i64 o, .int .i64 b] 26)) w.heap.size 26 #[.int .i64 k, .int .i64 f, .int .i64 t, .int .i64 u, .int .i64 m, .int .i64 d, .int .i64 o, .int .i64 b] := Row.new _ _ _
  have hB0 : Below w.heap.size w (w.alloc (.cells #[.int .i64 k, .int .i64 f, .int .i64 t, .int .i64 u, .int .i64 m, .int .i64 d, .int .i64 o, .int .i64 b] 26)) := Gen.b_alloc (Below.refl _ _)
  have HB0 := Lib.hid hB0
  have HBX := Lib.hid hbox
  have HC := Lib.hid (hc.keep hB0)
  have HF := Lib.hid (show okO ss ⟨k, f, t, u, m, d, o, b⟩ = false from okO_no (.inr (.inr (decide_eq_false (by dsimp only; omega)))))
  have H1 := Lib.hid hf
  have H2 := Lib.hid ht
  clear hn hbox hB0 hc hf ht
  go_enter Try.func45, Try.ntmps45
  go_wp2_with (fail)
  go_must (refine (rleaf_is _ HN.out HC.out hbig H1.out).mono ?_)
  rintro e w1 ⟨rfl, hb1⟩
  have hB1 := Gen.over hb1 HB0.out
  have hx1 := HBX.out.keep hb1
  have HC1 := Lib.hid (HC.out.keep hb1)
  have d2 := hx1.cell 2
  clear hb1
  go_wp2_with (fail)
  go_must (refine (rleaf_is _ HN.out HC1.out hbig H2.out).mono ?_)
  rintro e w2 ⟨rfl, hb2⟩
  have hB2 := Gen.over hb2 hB1
  have hx2 := hx1.keep hb2
  clear hb2 d2
  have d0 := hx2.cell 0
  have d1 := hx2.cell 1
  have d2 := hx2.cell 2
  have d3 := hx2.cell 3
  have d4 := hx2.cell 4
  have d5 := hx2.cell 5
  have d6 := hx2.cell 6
  have d7 := hx2.cell 7
  clear hx1 hx2
  go_wp2
  go_ret
  first | exact ⟨ret_bool HF.out.symm, hB2⟩ | exact ⟨ret_bool (by rw [HF.out]), hB2⟩ | exact ⟨ret_bool (by rw [HF.out]; exact decide_eq_false (by omega)), hB2⟩ | exact ⟨ret_bool (by rw [HF.out]; exact decide_eq_true (by omega)), hB2⟩ | exact ⟨ret_bool (by rw [HF.out]; simp; omega), hB2⟩
set_option maxRecDepth 100000 in
set_option maxHeartbeats 4000000 in
theorem rone_e (k f t u m d o b : Int) (A : Option Addr) (n cap : Nat) (ss : List (Int × Int)) (w : World) (hn : ss.length = n) (hc : Prs w A ss) (hbig : n ≤ 1000000) (k0 : 0 ≤ k) (k1 : k < 2) (h : (f == t) = false) (hf : lfO ss f = true) (ht : lfO ss t = true) (h1 : 1 ≤ u) (h2 : 1000000000 < u) :
    Calls Try.prog 45 #[.slice A n cap, .agg #[.int .i64 k, .int .i64 f, .int .i64 t, .int .i64 u, .int .i64 m, .int .i64 d, .int .i64 o, .int .i64 b]] w fun e w' => e = .returned (.bool (okO ss ⟨k, f, t, u, m, d, o, b⟩)) ∧ Below w.heap.size w w' := by
  have HN := Lib.hid hn
  have hbox : Row (w.alloc (.cells #[.int .i64 k, .int .i64 f, .int .i64 t, .int .i64 u, .int .i64 m, .int .i64 d, .int .i64 o, .int .i64 b] 26)) w.heap.size 26 #[.int .i64 k, .int .i64 f, .int .i64 t, .int .i64 u, .int .i64 m, .int .i64 d, .int .i64 o, .int .i64 b] := Row.new _ _ _
  have hB0 : Below w.heap.size w (w.alloc (.cells #[.int .i64 k, .int .i64 f, .int .i64 t, .int .i64 u, .int .i64 m, .int .i64 d, .int .i64 o, .int .i64 b] 26)) := Gen.b_alloc (Below.refl _ _)
  have HB0 := Lib.hid hB0
  have HBX := Lib.hid hbox
  have HC := Lib.hid (hc.keep hB0)
  have HF := Lib.hid (show okO ss ⟨k, f, t, u, m, d, o, b⟩ = false from okO_no (.inr (.inr (decide_eq_false (by dsimp only; omega)))))
  have H1 := Lib.hid hf
  have H2 := Lib.hid ht
  clear hn hbox hB0 hc hf ht
  go_enter Try.func45, Try.ntmps45
  go_wp2_with (fail)
  go_must (refine (rleaf_is _ HN.out HC.out hbig H1.out).mono ?_)
  rintro e w1 ⟨rfl, hb1⟩
  have hB1 := Gen.over hb1 HB0.out
  have hx1 := HBX.out.keep hb1
  have HC1 := Lib.hid (HC.out.keep hb1)
  have d2 := hx1.cell 2
  clear hb1
  go_wp2_with (fail)
  go_must (refine (rleaf_is _ HN.out HC1.out hbig H2.out).mono ?_)
  rintro e w2 ⟨rfl, hb2⟩
  have hB2 := Gen.over hb2 hB1
  have hx2 := hx1.keep hb2
  clear hb2 d2
  have d0 := hx2.cell 0
  have d1 := hx2.cell 1
  have d2 := hx2.cell 2
  have d3 := hx2.cell 3
  have d4 := hx2.cell 4
  have d5 := hx2.cell 5
  have d6 := hx2.cell 6
  have d7 := hx2.cell 7
  clear hx1 hx2
  go_wp2
  go_ret
  first | exact ⟨ret_bool HF.out.symm, hB2⟩ | exact ⟨ret_bool (by rw [HF.out]), hB2⟩ | exact ⟨ret_bool (by rw [HF.out]; exact decide_eq_false (by omega)), hB2⟩ | exact ⟨ret_bool (by rw [HF.out]; exact decide_eq_true (by omega)), hB2⟩ | exact ⟨ret_bool (by rw [HF.out]; simp; omega), hB2⟩
set_option maxRecDepth 100000 in
set_option maxHeartbeats 4000000 in
theorem rone_f (k f t u m d o b : Int) (A : Option Addr) (n cap : Nat) (ss : List (Int × Int)) (w : World) (hn : ss.length = n) (hc : Prs w A ss) (hbig : n ≤ 1000000) (k0 : 0 ≤ k) (k1 : k < 2) (h : (f == t) = false) (hf : lfO ss f = true) (ht : lfO ss t = true) (h1 : 1 ≤ u) (h2 : u ≤ 1000000000) (h3 : ¬ (0 ≤ m ∧ m ≤ 200000)) :
    Calls Try.prog 45 #[.slice A n cap, .agg #[.int .i64 k, .int .i64 f, .int .i64 t, .int .i64 u, .int .i64 m, .int .i64 d, .int .i64 o, .int .i64 b]] w fun e w' => e = .returned (.bool (okO ss ⟨k, f, t, u, m, d, o, b⟩)) ∧ Below w.heap.size w w' := by
  have HN := Lib.hid hn
  have hbox : Row (w.alloc (.cells #[.int .i64 k, .int .i64 f, .int .i64 t, .int .i64 u, .int .i64 m, .int .i64 d, .int .i64 o, .int .i64 b] 26)) w.heap.size 26 #[.int .i64 k, .int .i64 f, .int .i64 t, .int .i64 u, .int .i64 m, .int .i64 d, .int .i64 o, .int .i64 b] := Row.new _ _ _
  have hB0 : Below w.heap.size w (w.alloc (.cells #[.int .i64 k, .int .i64 f, .int .i64 t, .int .i64 u, .int .i64 m, .int .i64 d, .int .i64 o, .int .i64 b] 26)) := Gen.b_alloc (Below.refl _ _)
  have HB0 := Lib.hid hB0
  have HBX := Lib.hid hbox
  have HC := Lib.hid (hc.keep hB0)
  have HF := Lib.hid (show okO ss ⟨k, f, t, u, m, d, o, b⟩ = false from okO_no (.inr (.inr (decide_eq_false (by dsimp only; omega)))))
  have H1 := Lib.hid hf
  have H2 := Lib.hid ht
  have H3 := Lib.hid (dyB_no h3)
  clear hn hbox hB0 hc hf ht h3
  go_enter Try.func45, Try.ntmps45
  go_wp2_with (fail)
  go_must (refine (rleaf_is _ HN.out HC.out hbig H1.out).mono ?_)
  rintro e w1 ⟨rfl, hb1⟩
  have hB1 := Gen.over hb1 HB0.out
  have hx1 := HBX.out.keep hb1
  have HC1 := Lib.hid (HC.out.keep hb1)
  have d2 := hx1.cell 2
  clear hb1
  go_wp2_with (fail)
  go_must (refine (rleaf_is _ HN.out HC1.out hbig H2.out).mono ?_)
  rintro e w2 ⟨rfl, hb2⟩
  have hB2 := Gen.over hb2 hB1
  have hx2 := hx1.keep hb2
  clear hb2 d2
  have d0 := hx2.cell 0
  have d1 := hx2.cell 1
  have d2 := hx2.cell 2
  have d3 := hx2.cell 3
  have d4 := hx2.cell 4
  have d5 := hx2.cell 5
  have d6 := hx2.cell 6
  have d7 := hx2.cell 7
  clear hx1 hx2
  go_wp2_with (fail)
  go_must (refine (rday_is _ H3.out).mono ?_)
  rintro e w1 ⟨rfl, rfl⟩
  go_wp2
  go_ret
  first | exact ⟨ret_bool HF.out.symm, hB2⟩ | exact ⟨ret_bool (by rw [HF.out]), hB2⟩ | exact ⟨ret_bool (by rw [HF.out]; exact decide_eq_false (by omega)), hB2⟩ | exact ⟨ret_bool (by rw [HF.out]; exact decide_eq_true (by omega)), hB2⟩ | exact ⟨ret_bool (by rw [HF.out]; simp; omega), hB2⟩
set_option maxRecDepth 100000 in
set_option maxHeartbeats 4000000 in
theorem rone_g (k f t u m d o b : Int) (A : Option Addr) (n cap : Nat) (ss : List (Int × Int)) (w : World) (hn : ss.length = n) (hc : Prs w A ss) (hbig : n ≤ 1000000) (k0 : 0 ≤ k) (k1 : k < 2) (h : (f == t) = false) (hf : lfO ss f = true) (ht : lfO ss t = true) (h1 : 1 ≤ u) (h2 : u ≤ 1000000000) (h3 : 0 ≤ m ∧ m ≤ 200000) (h4 : ¬ (0 ≤ d ∧ d ≤ 200000)) :
    Calls Try.prog 45 #[.slice A n cap, .agg #[.int .i64 k, .int .i64 f, .int .i64 t, .int .i64 u, .int .i64 m, .int .i64 d, .int .i64 o, .int .i64 b]] w fun e w' => e = .returned (.bool (okO ss ⟨k, f, t, u, m, d, o, b⟩)) ∧ Below w.heap.size w w' := by
  have HN := Lib.hid hn
  have hbox : Row (w.alloc (.cells #[.int .i64 k, .int .i64 f, .int .i64 t, .int .i64 u, .int .i64 m, .int .i64 d, .int .i64 o, .int .i64 b] 26)) w.heap.size 26 #[.int .i64 k, .int .i64 f, .int .i64 t, .int .i64 u, .int .i64 m, .int .i64 d, .int .i64 o, .int .i64 b] := Row.new _ _ _
  have hB0 : Below w.heap.size w (w.alloc (.cells #[.int .i64 k, .int .i64 f, .int .i64 t, .int .i64 u, .int .i64 m, .int .i64 d, .int .i64 o, .int .i64 b] 26)) := Gen.b_alloc (Below.refl _ _)
  have HB0 := Lib.hid hB0
  have HBX := Lib.hid hbox
  have HC := Lib.hid (hc.keep hB0)
  have HF := Lib.hid (show okO ss ⟨k, f, t, u, m, d, o, b⟩ = false from okO_no (.inr (.inr (decide_eq_false (by dsimp only; omega)))))
  have H1 := Lib.hid hf
  have H2 := Lib.hid ht
  have H3 := Lib.hid (dyB_yes h3)
  have H4 := Lib.hid (dyB_no h4)
  clear hn hbox hB0 hc hf ht h3 h4
  go_enter Try.func45, Try.ntmps45
  go_wp2_with (fail)
  go_must (refine (rleaf_is _ HN.out HC.out hbig H1.out).mono ?_)
  rintro e w1 ⟨rfl, hb1⟩
  have hB1 := Gen.over hb1 HB0.out
  have hx1 := HBX.out.keep hb1
  have HC1 := Lib.hid (HC.out.keep hb1)
  have d2 := hx1.cell 2
  clear hb1
  go_wp2_with (fail)
  go_must (refine (rleaf_is _ HN.out HC1.out hbig H2.out).mono ?_)
  rintro e w2 ⟨rfl, hb2⟩
  have hB2 := Gen.over hb2 hB1
  have hx2 := hx1.keep hb2
  clear hb2 d2
  have d0 := hx2.cell 0
  have d1 := hx2.cell 1
  have d2 := hx2.cell 2
  have d3 := hx2.cell 3
  have d4 := hx2.cell 4
  have d5 := hx2.cell 5
  have d6 := hx2.cell 6
  have d7 := hx2.cell 7
  clear hx1 hx2
  go_wp2_with (fail)
  go_must (refine (rday_is _ H3.out).mono ?_)
  rintro e w1 ⟨rfl, rfl⟩
  go_wp2_with (fail)
  go_must (refine (rday_is _ H4.out).mono ?_)
  rintro e w1 ⟨rfl, rfl⟩
  go_wp2
  go_ret
  first | exact ⟨ret_bool HF.out.symm, hB2⟩ | exact ⟨ret_bool (by rw [HF.out]), hB2⟩ | exact ⟨ret_bool (by rw [HF.out]; exact decide_eq_false (by omega)), hB2⟩ | exact ⟨ret_bool (by rw [HF.out]; exact decide_eq_true (by omega)), hB2⟩ | exact ⟨ret_bool (by rw [HF.out]; simp; omega), hB2⟩
set_option maxRecDepth 100000 in
set_option maxHeartbeats 4000000 in
theorem rone_h (k f t u m d o b : Int) (A : Option Addr) (n cap : Nat) (ss : List (Int × Int)) (w : World) (hn : ss.length = n) (hc : Prs w A ss) (hbig : n ≤ 1000000) (k0 : 0 ≤ k) (k1 : k < 2) (h : (f == t) = false) (hf : lfO ss f = true) (ht : lfO ss t = true) (h1 : 1 ≤ u) (h2 : u ≤ 1000000000) (h3 : 0 ≤ m ∧ m ≤ 200000) (h4 : 0 ≤ d ∧ d ≤ 200000) (h5 : d < m) :
    Calls Try.prog 45 #[.slice A n cap, .agg #[.int .i64 k, .int .i64 f, .int .i64 t, .int .i64 u, .int .i64 m, .int .i64 d, .int .i64 o, .int .i64 b]] w fun e w' => e = .returned (.bool (okO ss ⟨k, f, t, u, m, d, o, b⟩)) ∧ Below w.heap.size w w' := by
  have HN := Lib.hid hn
  have hbox : Row (w.alloc (.cells #[.int .i64 k, .int .i64 f, .int .i64 t, .int .i64 u, .int .i64 m, .int .i64 d, .int .i64 o, .int .i64 b] 26)) w.heap.size 26 #[.int .i64 k, .int .i64 f, .int .i64 t, .int .i64 u, .int .i64 m, .int .i64 d, .int .i64 o, .int .i64 b] := Row.new _ _ _
  have hB0 : Below w.heap.size w (w.alloc (.cells #[.int .i64 k, .int .i64 f, .int .i64 t, .int .i64 u, .int .i64 m, .int .i64 d, .int .i64 o, .int .i64 b] 26)) := Gen.b_alloc (Below.refl _ _)
  have HB0 := Lib.hid hB0
  have HBX := Lib.hid hbox
  have HC := Lib.hid (hc.keep hB0)
  have HF := Lib.hid (show okO ss ⟨k, f, t, u, m, d, o, b⟩ = false from okO_no (.inr (.inr (decide_eq_false (by dsimp only; omega)))))
  have H1 := Lib.hid hf
  have H2 := Lib.hid ht
  have H3 := Lib.hid (dyB_yes h3)
  have H4 := Lib.hid (dyB_yes h4)
  clear hn hbox hB0 hc hf ht h3 h4
  go_enter Try.func45, Try.ntmps45
  go_wp2_with (fail)
  go_must (refine (rleaf_is _ HN.out HC.out hbig H1.out).mono ?_)
  rintro e w1 ⟨rfl, hb1⟩
  have hB1 := Gen.over hb1 HB0.out
  have hx1 := HBX.out.keep hb1
  have HC1 := Lib.hid (HC.out.keep hb1)
  have d2 := hx1.cell 2
  clear hb1
  go_wp2_with (fail)
  go_must (refine (rleaf_is _ HN.out HC1.out hbig H2.out).mono ?_)
  rintro e w2 ⟨rfl, hb2⟩
  have hB2 := Gen.over hb2 hB1
  have hx2 := hx1.keep hb2
  clear hb2 d2
  have d0 := hx2.cell 0
  have d1 := hx2.cell 1
  have d2 := hx2.cell 2
  have d3 := hx2.cell 3
  have d4 := hx2.cell 4
  have d5 := hx2.cell 5
  have d6 := hx2.cell 6
  have d7 := hx2.cell 7
  clear hx1 hx2
  go_wp2_with (fail)
  go_must (refine (rday_is _ H3.out).mono ?_)
  rintro e w1 ⟨rfl, rfl⟩
  go_wp2_with (fail)
  go_must (refine (rday_is _ H4.out).mono ?_)
  rintro e w1 ⟨rfl, rfl⟩
  go_wp2
  go_ret
  first | exact ⟨ret_bool HF.out.symm, hB2⟩ | exact ⟨ret_bool (by rw [HF.out]), hB2⟩ | exact ⟨ret_bool (by rw [HF.out]; exact decide_eq_false (by omega)), hB2⟩ | exact ⟨ret_bool (by rw [HF.out]; exact decide_eq_true (by omega)), hB2⟩ | exact ⟨ret_bool (by rw [HF.out]; simp; omega), hB2⟩
set_option maxRecDepth 100000 in
set_option maxHeartbeats 4000000 in
theorem rone_i (k f t u m d o b : Int) (A : Option Addr) (n cap : Nat) (ss : List (Int × Int)) (w : World) (hn : ss.length = n) (hc : Prs w A ss) (hbig : n ≤ 1000000) (k0 : 0 ≤ k) (k1 : k < 2) (h : (f == t) = false) (hf : lfO ss f = true) (ht : lfO ss t = true) (h1 : 1 ≤ u) (h2 : u ≤ 1000000000) (h3 : 0 ≤ m ∧ m ≤ 200000) (h4 : 0 ≤ d ∧ d ≤ 200000) (h5 : m ≤ d) (h6 : (o == -1) = false) (h7 : ¬ (0 ≤ o ∧ o ≤ 200000)) :
    Calls Try.prog 45 #[.slice A n cap, .agg #[.int .i64 k, .int .i64 f, .int .i64 t, .int .i64 u, .int .i64 m, .int .i64 d, .int .i64 o, .int .i64 b]] w fun e w' => e = .returned (.bool (okO ss ⟨k, f, t, u, m, d, o, b⟩)) ∧ Below w.heap.size w w' := by
  have HN := Lib.hid hn
  have hbox : Row (w.alloc (.cells #[.int .i64 k, .int .i64 f, .int .i64 t, .int .i64 u, .int .i64 m, .int .i64 d, .int .i64 o, .int .i64 b] 26)) w.heap.size 26 #[.int .i64 k, .int .i64 f, .int .i64 t, .int .i64 u, .int .i64 m, .int .i64 d, .int .i64 o, .int .i64 b] := Row.new _ _ _
  have hB0 : Below w.heap.size w (w.alloc (.cells #[.int .i64 k, .int .i64 f, .int .i64 t, .int .i64 u, .int .i64 m, .int .i64 d, .int .i64 o, .int .i64 b] 26)) := Gen.b_alloc (Below.refl _ _)
  have HB0 := Lib.hid hB0
  have HBX := Lib.hid hbox
  have HC := Lib.hid (hc.keep hB0)
  have h6o : o ≠ -1 := by simpa using h6
  have h6b : (o != -1) = true := by simpa using h6
  have HF := Lib.hid (show okO ss ⟨k, f, t, u, m, d, o, b⟩ = false from okO_no (.inr (.inr (decide_eq_false (by dsimp only; omega)))))
  have H1 := Lib.hid hf
  have H2 := Lib.hid ht
  have H3 := Lib.hid (dyB_yes h3)
  have H4 := Lib.hid (dyB_yes h4)
  have H7 := Lib.hid (dyB_no h7)
  clear hn hbox hB0 hc hf ht h3 h4 h6o h7
  go_enter Try.func45, Try.ntmps45
  go_wp2_with (fail)
  go_must (refine (rleaf_is _ HN.out HC.out hbig H1.out).mono ?_)
  rintro e w1 ⟨rfl, hb1⟩
  have hB1 := Gen.over hb1 HB0.out
  have hx1 := HBX.out.keep hb1
  have HC1 := Lib.hid (HC.out.keep hb1)
  have d2 := hx1.cell 2
  clear hb1
  go_wp2_with (fail)
  go_must (refine (rleaf_is _ HN.out HC1.out hbig H2.out).mono ?_)
  rintro e w2 ⟨rfl, hb2⟩
  have hB2 := Gen.over hb2 hB1
  have hx2 := hx1.keep hb2
  clear hb2 d2
  have d0 := hx2.cell 0
  have d1 := hx2.cell 1
  have d2 := hx2.cell 2
  have d3 := hx2.cell 3
  have d4 := hx2.cell 4
  have d5 := hx2.cell 5
  have d6 := hx2.cell 6
  have d7 := hx2.cell 7
  clear hx1 hx2
  go_wp2_with (fail)
  go_must (refine (rday_is _ H3.out).mono ?_)
  rintro e w1 ⟨rfl, rfl⟩
  go_wp2_with (fail)
  go_must (refine (rday_is _ H4.out).mono ?_)
  rintro e w1 ⟨rfl, rfl⟩
  go_wp2_with (fail)
  go_must (refine (rday_is _ H7.out).mono ?_)
  rintro e w1 ⟨rfl, rfl⟩
  go_wp2
  go_ret
  first | exact ⟨ret_bool HF.out.symm, hB2⟩ | exact ⟨ret_bool (by rw [HF.out]), hB2⟩ | exact ⟨ret_bool (by rw [HF.out]; exact decide_eq_false (by omega)), hB2⟩ | exact ⟨ret_bool (by rw [HF.out]; exact decide_eq_true (by omega)), hB2⟩ | exact ⟨ret_bool (by rw [HF.out]; simp; omega), hB2⟩
set_option maxRecDepth 100000 in
set_option maxHeartbeats 4000000 in
theorem rone_j (k f t u m d o b : Int) (A : Option Addr) (n cap : Nat) (ss : List (Int × Int)) (w : World) (hn : ss.length = n) (hc : Prs w A ss) (hbig : n ≤ 1000000) (k0 : 0 ≤ k) (k1 : k < 2) (h : (f == t) = false) (hf : lfO ss f = true) (ht : lfO ss t = true) (h1 : 1 ≤ u) (h2 : u ≤ 1000000000) (h3 : 0 ≤ m ∧ m ≤ 200000) (h4 : 0 ≤ d ∧ d ≤ 200000) (h5 : m ≤ d) (h6 : (o == -1) = false) (h7 : 0 ≤ o ∧ o ≤ 200000) (h8 : o < d) :
    Calls Try.prog 45 #[.slice A n cap, .agg #[.int .i64 k, .int .i64 f, .int .i64 t, .int .i64 u, .int .i64 m, .int .i64 d, .int .i64 o, .int .i64 b]] w fun e w' => e = .returned (.bool (okO ss ⟨k, f, t, u, m, d, o, b⟩)) ∧ Below w.heap.size w w' := by
  have HN := Lib.hid hn
  have hbox : Row (w.alloc (.cells #[.int .i64 k, .int .i64 f, .int .i64 t, .int .i64 u, .int .i64 m, .int .i64 d, .int .i64 o, .int .i64 b] 26)) w.heap.size 26 #[.int .i64 k, .int .i64 f, .int .i64 t, .int .i64 u, .int .i64 m, .int .i64 d, .int .i64 o, .int .i64 b] := Row.new _ _ _
  have hB0 : Below w.heap.size w (w.alloc (.cells #[.int .i64 k, .int .i64 f, .int .i64 t, .int .i64 u, .int .i64 m, .int .i64 d, .int .i64 o, .int .i64 b] 26)) := Gen.b_alloc (Below.refl _ _)
  have HB0 := Lib.hid hB0
  have HBX := Lib.hid hbox
  have HC := Lib.hid (hc.keep hB0)
  have h6o : o ≠ -1 := by simpa using h6
  have h6b : (o != -1) = true := by simpa using h6
  have HF := Lib.hid (show okO ss ⟨k, f, t, u, m, d, o, b⟩ = false from okO_no (.inr (.inr (decide_eq_false (by dsimp only; omega)))))
  have H1 := Lib.hid hf
  have H2 := Lib.hid ht
  have H3 := Lib.hid (dyB_yes h3)
  have H4 := Lib.hid (dyB_yes h4)
  have H7 := Lib.hid (dyB_yes h7)
  clear hn hbox hB0 hc hf ht h3 h4 h6o h7
  go_enter Try.func45, Try.ntmps45
  go_wp2_with (fail)
  go_must (refine (rleaf_is _ HN.out HC.out hbig H1.out).mono ?_)
  rintro e w1 ⟨rfl, hb1⟩
  have hB1 := Gen.over hb1 HB0.out
  have hx1 := HBX.out.keep hb1
  have HC1 := Lib.hid (HC.out.keep hb1)
  have d2 := hx1.cell 2
  clear hb1
  go_wp2_with (fail)
  go_must (refine (rleaf_is _ HN.out HC1.out hbig H2.out).mono ?_)
  rintro e w2 ⟨rfl, hb2⟩
  have hB2 := Gen.over hb2 hB1
  have hx2 := hx1.keep hb2
  clear hb2 d2
  have d0 := hx2.cell 0
  have d1 := hx2.cell 1
  have d2 := hx2.cell 2
  have d3 := hx2.cell 3
  have d4 := hx2.cell 4
  have d5 := hx2.cell 5
  have d6 := hx2.cell 6
  have d7 := hx2.cell 7
  clear hx1 hx2
  go_wp2_with (fail)
  go_must (refine (rday_is _ H3.out).mono ?_)
  rintro e w1 ⟨rfl, rfl⟩
  go_wp2_with (fail)
  go_must (refine (rday_is _ H4.out).mono ?_)
  rintro e w1 ⟨rfl, rfl⟩
  go_wp2_with (fail)
  go_must (refine (rday_is _ H7.out).mono ?_)
  rintro e w1 ⟨rfl, rfl⟩
  go_wp2
  go_ret
  first | exact ⟨ret_bool HF.out.symm, hB2⟩ | exact ⟨ret_bool (by rw [HF.out]), hB2⟩ | exact ⟨ret_bool (by rw [HF.out]; exact decide_eq_false (by omega)), hB2⟩ | exact ⟨ret_bool (by rw [HF.out]; exact decide_eq_true (by omega)), hB2⟩ | exact ⟨ret_bool (by rw [HF.out]; simp; omega), hB2⟩
set_option maxRecDepth 100000 in
set_option maxHeartbeats 4000000 in
theorem rone_k0 (k f t u m d o b : Int) (A : Option Addr) (n cap : Nat) (ss : List (Int × Int)) (w : World) (hn : ss.length = n) (hc : Prs w A ss) (hbig : n ≤ 1000000) (k0 : 0 ≤ k) (k1 : k < 2) (h : (f == t) = false) (hf : lfO ss f = true) (ht : lfO ss t = true) (h1 : 1 ≤ u) (h2 : u ≤ 1000000000) (h3 : 0 ≤ m ∧ m ≤ 200000) (h4 : 0 ≤ d ∧ d ≤ 200000) (h5 : m ≤ d) (h6 : o = -1) (h9 : k = 0) :
    Calls Try.prog 45 #[.slice A n cap, .agg #[.int .i64 k, .int .i64 f, .int .i64 t, .int .i64 u, .int .i64 m, .int .i64 d, .int .i64 o, .int .i64 b]] w fun e w' => e = .returned (.bool (okO ss ⟨k, f, t, u, m, d, o, b⟩)) ∧ Below w.heap.size w w' := by
  have HN := Lib.hid hn
  have hbox : Row (w.alloc (.cells #[.int .i64 k, .int .i64 f, .int .i64 t, .int .i64 u, .int .i64 m, .int .i64 d, .int .i64 o, .int .i64 b] 26)) w.heap.size 26 #[.int .i64 k, .int .i64 f, .int .i64 t, .int .i64 u, .int .i64 m, .int .i64 d, .int .i64 o, .int .i64 b] := Row.new _ _ _
  have hB0 : Below w.heap.size w (w.alloc (.cells #[.int .i64 k, .int .i64 f, .int .i64 t, .int .i64 u, .int .i64 m, .int .i64 d, .int .i64 o, .int .i64 b] 26)) := Gen.b_alloc (Below.refl _ _)
  have HB0 := Lib.hid hB0
  have HBX := Lib.hid hbox
  have HC := Lib.hid (hc.keep hB0)
  subst h6
  have HF := Lib.hid (show okO ss ⟨k, f, t, u, m, d, -1, b⟩ = (b == 0) from by
    rw [okO_D hf ht]; unfold okD; dsimp only; have e : (b == 0) = decide (b = 0) := rfl; rw [e]; have hft : f ≠ t := by simpa using h
    exact decide_eq_decide.2 (by omega))
  have H1 := Lib.hid hf
  have H2 := Lib.hid ht
  have H3 := Lib.hid (dyB_yes h3)
  have H4 := Lib.hid (dyB_yes h4)
  subst h9
  clear hn hbox hB0 hc hf ht h3 h4
  go_enter Try.func45, Try.ntmps45
  go_wp2_with (fail)
  go_must (refine (rleaf_is _ HN.out HC.out hbig H1.out).mono ?_)
  rintro e w1 ⟨rfl, hb1⟩
  have hB1 := Gen.over hb1 HB0.out
  have hx1 := HBX.out.keep hb1
  have HC1 := Lib.hid (HC.out.keep hb1)
  have d2 := hx1.cell 2
  clear hb1
  go_wp2_with (fail)
  go_must (refine (rleaf_is _ HN.out HC1.out hbig H2.out).mono ?_)
  rintro e w2 ⟨rfl, hb2⟩
  have hB2 := Gen.over hb2 hB1
  have hx2 := hx1.keep hb2
  clear hb2 d2
  have d0 := hx2.cell 0
  have d1 := hx2.cell 1
  have d2 := hx2.cell 2
  have d3 := hx2.cell 3
  have d4 := hx2.cell 4
  have d5 := hx2.cell 5
  have d6 := hx2.cell 6
  have d7 := hx2.cell 7
  clear hx1 hx2
  go_wp2_with (fail)
  go_must (refine (rday_is _ H3.out).mono ?_)
  rintro e w1 ⟨rfl, rfl⟩
  go_wp2_with (fail)
  go_must (refine (rday_is _ H4.out).mono ?_)
  rintro e w1 ⟨rfl, rfl⟩
  go_wp2
  go_ret
  first | exact ⟨ret_bool HF.out.symm, hB2⟩ | exact ⟨ret_bool (by rw [HF.out]), hB2⟩ | exact ⟨ret_bool (by rw [HF.out]; exact decide_eq_false (by omega)), hB2⟩ | exact ⟨ret_bool (by rw [HF.out]; exact decide_eq_true (by omega)), hB2⟩ | exact ⟨ret_bool (by rw [HF.out]; simp; omega), hB2⟩
set_option maxRecDepth 100000 in
set_option maxHeartbeats 4000000 in
theorem rone_k1 (k f t u m d o b : Int) (A : Option Addr) (n cap : Nat) (ss : List (Int × Int)) (w : World) (hn : ss.length = n) (hc : Prs w A ss) (hbig : n ≤ 1000000) (k0 : 0 ≤ k) (k1 : k < 2) (h : (f == t) = false) (hf : lfO ss f = true) (ht : lfO ss t = true) (h1 : 1 ≤ u) (h2 : u ≤ 1000000000) (h3 : 0 ≤ m ∧ m ≤ 200000) (h4 : 0 ≤ d ∧ d ≤ 200000) (h5 : m ≤ d) (h6 : o = -1) (h9 : k = 1) (h10 : ¬ (0 ≤ b ∧ b ≤ 200000)) :
    Calls Try.prog 45 #[.slice A n cap, .agg #[.int .i64 k, .int .i64 f, .int .i64 t, .int .i64 u, .int .i64 m, .int .i64 d, .int .i64 o, .int .i64 b]] w fun e w' => e = .returned (.bool (okO ss ⟨k, f, t, u, m, d, o, b⟩)) ∧ Below w.heap.size w w' := by
  have HN := Lib.hid hn
  have hbox : Row (w.alloc (.cells #[.int .i64 k, .int .i64 f, .int .i64 t, .int .i64 u, .int .i64 m, .int .i64 d, .int .i64 o, .int .i64 b] 26)) w.heap.size 26 #[.int .i64 k, .int .i64 f, .int .i64 t, .int .i64 u, .int .i64 m, .int .i64 d, .int .i64 o, .int .i64 b] := Row.new _ _ _
  have hB0 : Below w.heap.size w (w.alloc (.cells #[.int .i64 k, .int .i64 f, .int .i64 t, .int .i64 u, .int .i64 m, .int .i64 d, .int .i64 o, .int .i64 b] 26)) := Gen.b_alloc (Below.refl _ _)
  have HB0 := Lib.hid hB0
  have HBX := Lib.hid hbox
  have HC := Lib.hid (hc.keep hB0)
  subst h6
  have HF := Lib.hid (show okO ss ⟨k, f, t, u, m, d, -1, b⟩ = false from okO_no (.inr (.inr (decide_eq_false (by dsimp only; omega)))))
  have H1 := Lib.hid hf
  have H2 := Lib.hid ht
  have H3 := Lib.hid (dyB_yes h3)
  have H4 := Lib.hid (dyB_yes h4)
  subst h9
  have H10 := Lib.hid (dyB_no h10)
  clear hn hbox hB0 hc hf ht h3 h4 h10
  go_enter Try.func45, Try.ntmps45
  go_wp2_with (fail)
  go_must (refine (rleaf_is _ HN.out HC.out hbig H1.out).mono ?_)
  rintro e w1 ⟨rfl, hb1⟩
  have hB1 := Gen.over hb1 HB0.out
  have hx1 := HBX.out.keep hb1
  have HC1 := Lib.hid (HC.out.keep hb1)
  have d2 := hx1.cell 2
  clear hb1
  go_wp2_with (fail)
  go_must (refine (rleaf_is _ HN.out HC1.out hbig H2.out).mono ?_)
  rintro e w2 ⟨rfl, hb2⟩
  have hB2 := Gen.over hb2 hB1
  have hx2 := hx1.keep hb2
  clear hb2 d2
  have d0 := hx2.cell 0
  have d1 := hx2.cell 1
  have d2 := hx2.cell 2
  have d3 := hx2.cell 3
  have d4 := hx2.cell 4
  have d5 := hx2.cell 5
  have d6 := hx2.cell 6
  have d7 := hx2.cell 7
  clear hx1 hx2
  go_wp2_with (fail)
  go_must (refine (rday_is _ H3.out).mono ?_)
  rintro e w1 ⟨rfl, rfl⟩
  go_wp2_with (fail)
  go_must (refine (rday_is _ H4.out).mono ?_)
  rintro e w1 ⟨rfl, rfl⟩
  go_wp2_with (fail)
  go_must (refine (rday_is _ H10.out).mono ?_)
  rintro e w1 ⟨rfl, rfl⟩
  go_wp2
  go_ret
  first | exact ⟨ret_bool HF.out.symm, hB2⟩ | exact ⟨ret_bool (by rw [HF.out]), hB2⟩ | exact ⟨ret_bool (by rw [HF.out]; exact decide_eq_false (by omega)), hB2⟩ | exact ⟨ret_bool (by rw [HF.out]; exact decide_eq_true (by omega)), hB2⟩ | exact ⟨ret_bool (by rw [HF.out]; simp; omega), hB2⟩
set_option maxRecDepth 100000 in
set_option maxHeartbeats 4000000 in
theorem rone_k2 (k f t u m d o b : Int) (A : Option Addr) (n cap : Nat) (ss : List (Int × Int)) (w : World) (hn : ss.length = n) (hc : Prs w A ss) (hbig : n ≤ 1000000) (k0 : 0 ≤ k) (k1 : k < 2) (h : (f == t) = false) (hf : lfO ss f = true) (ht : lfO ss t = true) (h1 : 1 ≤ u) (h2 : u ≤ 1000000000) (h3 : 0 ≤ m ∧ m ≤ 200000) (h4 : 0 ≤ d ∧ d ≤ 200000) (h5 : m ≤ d) (h6 : o = -1) (h9 : k = 1) (h10 : 0 ≤ b ∧ b ≤ 200000) :
    Calls Try.prog 45 #[.slice A n cap, .agg #[.int .i64 k, .int .i64 f, .int .i64 t, .int .i64 u, .int .i64 m, .int .i64 d, .int .i64 o, .int .i64 b]] w fun e w' => e = .returned (.bool (okO ss ⟨k, f, t, u, m, d, o, b⟩)) ∧ Below w.heap.size w w' := by
  have HN := Lib.hid hn
  have hbox : Row (w.alloc (.cells #[.int .i64 k, .int .i64 f, .int .i64 t, .int .i64 u, .int .i64 m, .int .i64 d, .int .i64 o, .int .i64 b] 26)) w.heap.size 26 #[.int .i64 k, .int .i64 f, .int .i64 t, .int .i64 u, .int .i64 m, .int .i64 d, .int .i64 o, .int .i64 b] := Row.new _ _ _
  have hB0 : Below w.heap.size w (w.alloc (.cells #[.int .i64 k, .int .i64 f, .int .i64 t, .int .i64 u, .int .i64 m, .int .i64 d, .int .i64 o, .int .i64 b] 26)) := Gen.b_alloc (Below.refl _ _)
  have HB0 := Lib.hid hB0
  have HBX := Lib.hid hbox
  have HC := Lib.hid (hc.keep hB0)
  subst h6
  have HF := Lib.hid (show okO ss ⟨k, f, t, u, m, d, -1, b⟩ = decide (d < b) from by
    rw [okO_D hf ht]; unfold okD; dsimp only; have hft : f ≠ t := by simpa using h
    exact decide_eq_decide.2 (by omega))
  have H1 := Lib.hid hf
  have H2 := Lib.hid ht
  have H3 := Lib.hid (dyB_yes h3)
  have H4 := Lib.hid (dyB_yes h4)
  subst h9
  have H10 := Lib.hid (dyB_yes h10)
  clear hn hbox hB0 hc hf ht h3 h4 h10
  go_enter Try.func45, Try.ntmps45
  go_wp2_with (fail)
  go_must (refine (rleaf_is _ HN.out HC.out hbig H1.out).mono ?_)
  rintro e w1 ⟨rfl, hb1⟩
  have hB1 := Gen.over hb1 HB0.out
  have hx1 := HBX.out.keep hb1
  have HC1 := Lib.hid (HC.out.keep hb1)
  have d2 := hx1.cell 2
  clear hb1
  go_wp2_with (fail)
  go_must (refine (rleaf_is _ HN.out HC1.out hbig H2.out).mono ?_)
  rintro e w2 ⟨rfl, hb2⟩
  have hB2 := Gen.over hb2 hB1
  have hx2 := hx1.keep hb2
  clear hb2 d2
  have d0 := hx2.cell 0
  have d1 := hx2.cell 1
  have d2 := hx2.cell 2
  have d3 := hx2.cell 3
  have d4 := hx2.cell 4
  have d5 := hx2.cell 5
  have d6 := hx2.cell 6
  have d7 := hx2.cell 7
  clear hx1 hx2
  go_wp2_with (fail)
  go_must (refine (rday_is _ H3.out).mono ?_)
  rintro e w1 ⟨rfl, rfl⟩
  go_wp2_with (fail)
  go_must (refine (rday_is _ H4.out).mono ?_)
  rintro e w1 ⟨rfl, rfl⟩
  go_wp2_with (fail)
  go_must (refine (rday_is _ H10.out).mono ?_)
  rintro e w1 ⟨rfl, rfl⟩
  go_wp2
  go_ret
  first | exact ⟨ret_bool HF.out.symm, hB2⟩ | exact ⟨ret_bool (by rw [HF.out]), hB2⟩ | exact ⟨ret_bool (by rw [HF.out]; exact decide_eq_false (by omega)), hB2⟩ | exact ⟨ret_bool (by rw [HF.out]; exact decide_eq_true (by omega)), hB2⟩ | exact ⟨ret_bool (by rw [HF.out]; simp; omega), hB2⟩
set_option maxRecDepth 100000 in
set_option maxHeartbeats 4000000 in
theorem rone_l0 (k f t u m d o b : Int) (A : Option Addr) (n cap : Nat) (ss : List (Int × Int)) (w : World) (hn : ss.length = n) (hc : Prs w A ss) (hbig : n ≤ 1000000) (k0 : 0 ≤ k) (k1 : k < 2) (h : (f == t) = false) (hf : lfO ss f = true) (ht : lfO ss t = true) (h1 : 1 ≤ u) (h2 : u ≤ 1000000000) (h3 : 0 ≤ m ∧ m ≤ 200000) (h4 : 0 ≤ d ∧ d ≤ 200000) (h5 : m ≤ d) (h6 : (o == -1) = false) (h7 : 0 ≤ o ∧ o ≤ 200000) (h8 : d ≤ o) (h9 : k = 0) :
    Calls Try.prog 45 #[.slice A n cap, .agg #[.int .i64 k, .int .i64 f, .int .i64 t, .int .i64 u, .int .i64 m, .int .i64 d, .int .i64 o, .int .i64 b]] w fun e w' => e = .returned (.bool (okO ss ⟨k, f, t, u, m, d, o, b⟩)) ∧ Below w.heap.size w w' := by
  have HN := Lib.hid hn
  have hbox : Row (w.alloc (.cells #[.int .i64 k, .int .i64 f, .int .i64 t, .int .i64 u, .int .i64 m, .int .i64 d, .int .i64 o, .int .i64 b] 26)) w.heap.size 26 #[.int .i64 k, .int .i64 f, .int .i64 t, .int .i64 u, .int .i64 m, .int .i64 d, .int .i64 o, .int .i64 b] := Row.new _ _ _
  have hB0 : Below w.heap.size w (w.alloc (.cells #[.int .i64 k, .int .i64 f, .int .i64 t, .int .i64 u, .int .i64 m, .int .i64 d, .int .i64 o, .int .i64 b] 26)) := Gen.b_alloc (Below.refl _ _)
  have HB0 := Lib.hid hB0
  have HBX := Lib.hid hbox
  have HC := Lib.hid (hc.keep hB0)
  have h6b : (o != -1) = true := by simpa using h6
  have HF := Lib.hid (show okO ss ⟨k, f, t, u, m, d, o, b⟩ = (b == 0) from by
    rw [okO_D hf ht]; unfold okD; dsimp only; have e : (b == 0) = decide (b = 0) := rfl; rw [e]; have hft : f ≠ t := by simpa using h
    exact decide_eq_decide.2 (by omega))
  have H1 := Lib.hid hf
  have H2 := Lib.hid ht
  have H3 := Lib.hid (dyB_yes h3)
  have H4 := Lib.hid (dyB_yes h4)
  have H7 := Lib.hid (dyB_yes h7)
  subst h9
  clear hn hbox hB0 hc hf ht h3 h4 h7
  go_enter Try.func45, Try.ntmps45
  go_wp2_with (fail)
  go_must (refine (rleaf_is _ HN.out HC.out hbig H1.out).mono ?_)
  rintro e w1 ⟨rfl, hb1⟩
  have hB1 := Gen.over hb1 HB0.out
  have hx1 := HBX.out.keep hb1
  have HC1 := Lib.hid (HC.out.keep hb1)
  have d2 := hx1.cell 2
  clear hb1
  go_wp2_with (fail)
  go_must (refine (rleaf_is _ HN.out HC1.out hbig H2.out).mono ?_)
  rintro e w2 ⟨rfl, hb2⟩
  have hB2 := Gen.over hb2 hB1
  have hx2 := hx1.keep hb2
  clear hb2 d2
  have d0 := hx2.cell 0
  have d1 := hx2.cell 1
  have d2 := hx2.cell 2
  have d3 := hx2.cell 3
  have d4 := hx2.cell 4
  have d5 := hx2.cell 5
  have d6 := hx2.cell 6
  have d7 := hx2.cell 7
  clear hx1 hx2
  go_wp2_with (fail)
  go_must (refine (rday_is _ H3.out).mono ?_)
  rintro e w1 ⟨rfl, rfl⟩
  go_wp2_with (fail)
  go_must (refine (rday_is _ H4.out).mono ?_)
  rintro e w1 ⟨rfl, rfl⟩
  go_wp2_with (fail)
  go_must (refine (rday_is _ H7.out).mono ?_)
  rintro e w1 ⟨rfl, rfl⟩
  go_wp2
  go_ret
  first | exact ⟨ret_bool HF.out.symm, hB2⟩ | exact ⟨ret_bool (by rw [HF.out]), hB2⟩ | exact ⟨ret_bool (by rw [HF.out]; exact decide_eq_false (by omega)), hB2⟩ | exact ⟨ret_bool (by rw [HF.out]; exact decide_eq_true (by omega)), hB2⟩ | exact ⟨ret_bool (by rw [HF.out]; simp; omega), hB2⟩
set_option maxRecDepth 100000 in
set_option maxHeartbeats 4000000 in
theorem rone_l1 (k f t u m d o b : Int) (A : Option Addr) (n cap : Nat) (ss : List (Int × Int)) (w : World) (hn : ss.length = n) (hc : Prs w A ss) (hbig : n ≤ 1000000) (k0 : 0 ≤ k) (k1 : k < 2) (h : (f == t) = false) (hf : lfO ss f = true) (ht : lfO ss t = true) (h1 : 1 ≤ u) (h2 : u ≤ 1000000000) (h3 : 0 ≤ m ∧ m ≤ 200000) (h4 : 0 ≤ d ∧ d ≤ 200000) (h5 : m ≤ d) (h6 : (o == -1) = false) (h7 : 0 ≤ o ∧ o ≤ 200000) (h8 : d ≤ o) (h9 : k = 1) (h10 : ¬ (0 ≤ b ∧ b ≤ 200000)) :
    Calls Try.prog 45 #[.slice A n cap, .agg #[.int .i64 k, .int .i64 f, .int .i64 t, .int .i64 u, .int .i64 m, .int .i64 d, .int .i64 o, .int .i64 b]] w fun e w' => e = .returned (.bool (okO ss ⟨k, f, t, u, m, d, o, b⟩)) ∧ Below w.heap.size w w' := by
  have HN := Lib.hid hn
  have hbox : Row (w.alloc (.cells #[.int .i64 k, .int .i64 f, .int .i64 t, .int .i64 u, .int .i64 m, .int .i64 d, .int .i64 o, .int .i64 b] 26)) w.heap.size 26 #[.int .i64 k, .int .i64 f, .int .i64 t, .int .i64 u, .int .i64 m, .int .i64 d, .int .i64 o, .int .i64 b] := Row.new _ _ _
  have hB0 : Below w.heap.size w (w.alloc (.cells #[.int .i64 k, .int .i64 f, .int .i64 t, .int .i64 u, .int .i64 m, .int .i64 d, .int .i64 o, .int .i64 b] 26)) := Gen.b_alloc (Below.refl _ _)
  have HB0 := Lib.hid hB0
  have HBX := Lib.hid hbox
  have HC := Lib.hid (hc.keep hB0)
  have h6b : (o != -1) = true := by simpa using h6
  have HF := Lib.hid (show okO ss ⟨k, f, t, u, m, d, o, b⟩ = false from okO_no (.inr (.inr (decide_eq_false (by dsimp only; omega)))))
  have H1 := Lib.hid hf
  have H2 := Lib.hid ht
  have H3 := Lib.hid (dyB_yes h3)
  have H4 := Lib.hid (dyB_yes h4)
  have H7 := Lib.hid (dyB_yes h7)
  subst h9
  have H10 := Lib.hid (dyB_no h10)
  clear hn hbox hB0 hc hf ht h3 h4 h10 h7
  go_enter Try.func45, Try.ntmps45
  go_wp2_with (fail)
  go_must (refine (rleaf_is _ HN.out HC.out hbig H1.out).mono ?_)
  rintro e w1 ⟨rfl, hb1⟩
  have hB1 := Gen.over hb1 HB0.out
  have hx1 := HBX.out.keep hb1
  have HC1 := Lib.hid (HC.out.keep hb1)
  have d2 := hx1.cell 2
  clear hb1
  go_wp2_with (fail)
  go_must (refine (rleaf_is _ HN.out HC1.out hbig H2.out).mono ?_)
  rintro e w2 ⟨rfl, hb2⟩
  have hB2 := Gen.over hb2 hB1
  have hx2 := hx1.keep hb2
  clear hb2 d2
  have d0 := hx2.cell 0
  have d1 := hx2.cell 1
  have d2 := hx2.cell 2
  have d3 := hx2.cell 3
  have d4 := hx2.cell 4
  have d5 := hx2.cell 5
  have d6 := hx2.cell 6
  have d7 := hx2.cell 7
  clear hx1 hx2
  go_wp2_with (fail)
  go_must (refine (rday_is _ H3.out).mono ?_)
  rintro e w1 ⟨rfl, rfl⟩
  go_wp2_with (fail)
  go_must (refine (rday_is _ H4.out).mono ?_)
  rintro e w1 ⟨rfl, rfl⟩
  go_wp2_with (fail)
  go_must (refine (rday_is _ H7.out).mono ?_)
  rintro e w1 ⟨rfl, rfl⟩
  go_wp2_with (fail)
  go_must (refine (rday_is _ H10.out).mono ?_)
  rintro e w1 ⟨rfl, rfl⟩
  go_wp2
  go_ret
  first | exact ⟨ret_bool HF.out.symm, hB2⟩ | exact ⟨ret_bool (by rw [HF.out]), hB2⟩ | exact ⟨ret_bool (by rw [HF.out]; exact decide_eq_false (by omega)), hB2⟩ | exact ⟨ret_bool (by rw [HF.out]; exact decide_eq_true (by omega)), hB2⟩ | exact ⟨ret_bool (by rw [HF.out]; simp; omega), hB2⟩
set_option maxRecDepth 100000 in
set_option maxHeartbeats 4000000 in
theorem rone_l2 (k f t u m d o b : Int) (A : Option Addr) (n cap : Nat) (ss : List (Int × Int)) (w : World) (hn : ss.length = n) (hc : Prs w A ss) (hbig : n ≤ 1000000) (k0 : 0 ≤ k) (k1 : k < 2) (h : (f == t) = false) (hf : lfO ss f = true) (ht : lfO ss t = true) (h1 : 1 ≤ u) (h2 : u ≤ 1000000000) (h3 : 0 ≤ m ∧ m ≤ 200000) (h4 : 0 ≤ d ∧ d ≤ 200000) (h5 : m ≤ d) (h6 : (o == -1) = false) (h7 : 0 ≤ o ∧ o ≤ 200000) (h8 : d ≤ o) (h9 : k = 1) (h10 : 0 ≤ b ∧ b ≤ 200000) :
    Calls Try.prog 45 #[.slice A n cap, .agg #[.int .i64 k, .int .i64 f, .int .i64 t, .int .i64 u, .int .i64 m, .int .i64 d, .int .i64 o, .int .i64 b]] w fun e w' => e = .returned (.bool (okO ss ⟨k, f, t, u, m, d, o, b⟩)) ∧ Below w.heap.size w w' := by
  have HN := Lib.hid hn
  have hbox : Row (w.alloc (.cells #[.int .i64 k, .int .i64 f, .int .i64 t, .int .i64 u, .int .i64 m, .int .i64 d, .int .i64 o, .int .i64 b] 26)) w.heap.size 26 #[.int .i64 k, .int .i64 f, .int .i64 t, .int .i64 u, .int .i64 m, .int .i64 d, .int .i64 o, .int .i64 b] := Row.new _ _ _
  have hB0 : Below w.heap.size w (w.alloc (.cells #[.int .i64 k, .int .i64 f, .int .i64 t, .int .i64 u, .int .i64 m, .int .i64 d, .int .i64 o, .int .i64 b] 26)) := Gen.b_alloc (Below.refl _ _)
  have HB0 := Lib.hid hB0
  have HBX := Lib.hid hbox
  have HC := Lib.hid (hc.keep hB0)
  have h6b : (o != -1) = true := by simpa using h6
  have HF := Lib.hid (show okO ss ⟨k, f, t, u, m, d, o, b⟩ = decide (d < b) from by
    rw [okO_D hf ht]; unfold okD; dsimp only; have hft : f ≠ t := by simpa using h
    exact decide_eq_decide.2 (by omega))
  have H1 := Lib.hid hf
  have H2 := Lib.hid ht
  have H3 := Lib.hid (dyB_yes h3)
  have H4 := Lib.hid (dyB_yes h4)
  have H7 := Lib.hid (dyB_yes h7)
  subst h9
  have H10 := Lib.hid (dyB_yes h10)
  clear hn hbox hB0 hc hf ht h3 h4 h10 h7
  go_enter Try.func45, Try.ntmps45
  go_wp2_with (fail)
  go_must (refine (rleaf_is _ HN.out HC.out hbig H1.out).mono ?_)
  rintro e w1 ⟨rfl, hb1⟩
  have hB1 := Gen.over hb1 HB0.out
  have hx1 := HBX.out.keep hb1
  have HC1 := Lib.hid (HC.out.keep hb1)
  have d2 := hx1.cell 2
  clear hb1
  go_wp2_with (fail)
  go_must (refine (rleaf_is _ HN.out HC1.out hbig H2.out).mono ?_)
  rintro e w2 ⟨rfl, hb2⟩
  have hB2 := Gen.over hb2 hB1
  have hx2 := hx1.keep hb2
  clear hb2 d2
  have d0 := hx2.cell 0
  have d1 := hx2.cell 1
  have d2 := hx2.cell 2
  have d3 := hx2.cell 3
  have d4 := hx2.cell 4
  have d5 := hx2.cell 5
  have d6 := hx2.cell 6
  have d7 := hx2.cell 7
  clear hx1 hx2
  go_wp2_with (fail)
  go_must (refine (rday_is _ H3.out).mono ?_)
  rintro e w1 ⟨rfl, rfl⟩
  go_wp2_with (fail)
  go_must (refine (rday_is _ H4.out).mono ?_)
  rintro e w1 ⟨rfl, rfl⟩
  go_wp2_with (fail)
  go_must (refine (rday_is _ H7.out).mono ?_)
  rintro e w1 ⟨rfl, rfl⟩
  go_wp2_with (fail)
  go_must (refine (rday_is _ H10.out).mono ?_)
  rintro e w1 ⟨rfl, rfl⟩
  go_wp2
  go_ret
  first | exact ⟨ret_bool HF.out.symm, hB2⟩ | exact ⟨ret_bool (by rw [HF.out]), hB2⟩ | exact ⟨ret_bool (by rw [HF.out]; exact decide_eq_false (by omega)), hB2⟩ | exact ⟨ret_bool (by rw [HF.out]; exact decide_eq_true (by omega)), hB2⟩ | exact ⟨ret_bool (by rw [HF.out]; simp; omega), hB2⟩
theorem rone_any (x : Tr) (A : Option Addr) (n cap : Nat) (ss : List (Int × Int)) (w : World) (hn : ss.length = n) (hc : Prs w A ss) (hbig : n ≤ 1000000) :
    Calls Try.prog 45 #[.slice A n cap, .agg (tcs x).toArray] w fun e w' => e = .returned (.bool (okO ss x)) ∧ Below w.heap.size w w' := by
  obtain ⟨k, f, t, u, m, d, o, b⟩ := x
  have N : ∀ {a c : Int}, ¬ a = c → (a == c) = false := fun h => by rw [beq_eq_false_iff_ne]; exact h
  by_cases k0 : k < 0
  · exact rone_p k f t u m d o b A n cap ss w hn hc hbig k0
  by_cases k1 : 2 ≤ k
  · exact rone_q k f t u m d o b A n cap ss w hn hc hbig (by omega) k1
  have k2 : 0 ≤ k := by omega
  have k3 : k < 2 := by omega
  by_cases h : f = t
  · exact rone_c k f t u m d o b A n cap ss w hn hc hbig k2 k3 h
  cases hf : lfO ss f
  · exact rone_a k f t u m d o b A n cap ss w hn hc hbig k2 k3 (N h) hf
  cases ht : lfO ss t
  · exact rone_b k f t u m d o b A n cap ss w hn hc hbig k2 k3 (N h) hf ht
  by_cases h1 : u < 1
  · exact rone_d k f t u m d o b A n cap ss w hn hc hbig k2 k3 (N h) hf ht h1
  by_cases h2 : 1000000000 < u
  · exact rone_e k f t u m d o b A n cap ss w hn hc hbig k2 k3 (N h) hf ht (by omega) h2
  by_cases h3 : 0 ≤ m ∧ m ≤ 200000
  case neg => exact rone_f k f t u m d o b A n cap ss w hn hc hbig k2 k3 (N h) hf ht (by omega) (by omega) h3
  by_cases h4 : 0 ≤ d ∧ d ≤ 200000
  case neg => exact rone_g k f t u m d o b A n cap ss w hn hc hbig k2 k3 (N h) hf ht (by omega) (by omega) h3 h4
  by_cases h5 : d < m
  · exact rone_h k f t u m d o b A n cap ss w hn hc hbig k2 k3 (N h) hf ht (by omega) (by omega) h3 h4 h5
  by_cases h6 : o = -1
  · by_cases h9 : k = 0
    · exact rone_k0 k f t u m d o b A n cap ss w hn hc hbig k2 k3 (N h) hf ht (by omega) (by omega) h3 h4 (by omega) h6 h9
    · have h10 : k = 1 := by omega
      by_cases h11 : 0 ≤ b ∧ b ≤ 200000
      · exact rone_k2 k f t u m d o b A n cap ss w hn hc hbig k2 k3 (N h) hf ht (by omega) (by omega) h3 h4 (by omega) h6 h10 h11
      · exact rone_k1 k f t u m d o b A n cap ss w hn hc hbig k2 k3 (N h) hf ht (by omega) (by omega) h3 h4 (by omega) h6 h10 h11
  · by_cases h7 : 0 ≤ o ∧ o ≤ 200000
    case neg => exact rone_i k f t u m d o b A n cap ss w hn hc hbig k2 k3 (N h) hf ht (by omega) (by omega) h3 h4 (by omega) (N h6) h7
    by_cases h8 : o < d
    · exact rone_j k f t u m d o b A n cap ss w hn hc hbig k2 k3 (N h) hf ht (by omega) (by omega) h3 h4 (by omega) (N h6) h7 h8
    · by_cases h9 : k = 0
      · exact rone_l0 k f t u m d o b A n cap ss w hn hc hbig k2 k3 (N h) hf ht (by omega) (by omega) h3 h4 (by omega) (N h6) h7 (by omega) h9
      · have h10 : k = 1 := by omega
        by_cases h11 : 0 ≤ b ∧ b ≤ 200000
        · exact rone_l2 k f t u m d o b A n cap ss w hn hc hbig k2 k3 (N h) hf ht (by omega) (by omega) h3 h4 (by omega) (N h6) h7 (by omega) h10 h11
        · exact rone_l1 k f t u m d o b A n cap ss w hn hc hbig k2 k3 (N h) hf ht (by omega) (by omega) h3 h4 (by omega) (N h6) h7 (by omega) h10 h11
theorem rone_is {x : Tr} {A : Option Addr} {n cap : Nat} {ss : List (Int × Int)} {z : Bool} (w : World) (hn : ss.length = n) (hc : Prs w A ss) (hbig : n ≤ 1000000) (h : okO ss x = z) :
    Calls Try.prog 45 #[.slice A n cap, .agg (tcs x).toArray] w fun e w' => e = .returned (.bool z) ∧ Below w.heap.size w w' := by
  have hh := rone_any x A n cap ss w hn hc hbig
  rw [h] at hh
  exact hh
end Go.Proofs.Ytpekedhcnijgcaa.Book
