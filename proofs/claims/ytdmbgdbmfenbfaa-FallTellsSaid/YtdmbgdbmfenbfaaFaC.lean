/- Fall: the closures of Right; slices.IndexFunc and ContainsFunc. -/
import Derived.Test.YtdmbgdbmfenbfaaFaB
namespace Go.Proofs.Ytdmbgdbmfenbfaa.Fa
open Go.ChangeShapes Go.WideShapes Go.ChangeAt Go.RowKit Go.Proofs.Ytdmbgdbmfenbfaa.Cell
set_option linter.unusedVariables false
set_option linter.unusedSimpArgs false

section
variable {α : Type}
/-- the first one that fits -/
def idx (p : α → Bool) (l : List α) : Int := match l.findIdx? p with
  | some i => i
  | none => -1
theorem idx_yes {p : α → Bool} {l : List α} {k : Nat} {x : α} (h : ∀ y ∈ l.take k, p y = false) (hx : l[k]? = some x) (hp : p x = true) : idx p l = k := by
  unfold idx
  have hk := lt_of_at hx
  have : l.findIdx? p = some k := by
    rw [List.findIdx?_eq_some_iff_getElem]
    refine ⟨hk, by rw [(List.getElem?_eq_some_iff.1 hx).2]; exact hp, fun j hj => ?_⟩
    have := h l[j] (List.mem_of_getElem? (i := j) (by rw [List.getElem?_take_of_lt hj]; exact List.getElem?_eq_getElem (by omega)))
    simp [this]
  rw [this]
theorem idx_no {p : α → Bool} {l : List α} (h : ∀ y ∈ l, p y = false) : idx p l = -1 := by
  unfold idx
  rw [List.findIdx?_eq_none_iff.2 h]
theorem idx_any_ (p : α → Bool) (l : List α) : decide (0 ≤ idx p l) = l.any p := by
  unfold idx
  cases h : l.findIdx? p with
  | none =>
    rw [List.findIdx?_eq_none_iff] at h
    have : l.any p = false := by rw [List.any_eq_false]; exact fun x hx => by simp [h x hx]
    rw [this]; rfl
  | some i =>
    rw [List.findIdx?_eq_some_iff_getElem] at h
    obtain ⟨hi, hp, _⟩ := h
    have : l.any p = true := by rw [List.any_eq_true]; exact ⟨_, List.getElem_mem hi, hp⟩
    rw [this]
    exact decide_eq_true (by simp)
theorem idx_in (p : α → Bool) (l : List α) : -1 ≤ idx p l ∧ idx p l < l.length := by
  unfold idx
  cases h : l.findIdx? p with
  | none => exact ⟨by simp, (by dsimp only; omega)⟩
  | some i =>
    rw [List.findIdx?_eq_some_iff_getElem] at h
    obtain ⟨hi, hp, _⟩ := h
    exact ⟨by first | omega | simp, by first | omega | (simp; omega)⟩
theorem take_snoc' {l : List α} {k : Nat} {x : α} (h : l[k]? = some x) : l.take (k + 1) = l.take k ++ [x] := by
  rw [List.take_add_one, h]; rfl
end
def pT (x : Tr) : Bool := !decide (trOk x)
def pQ (q : Nat) (x : Te) : Bool := !decide (teOk q x)
def pS (q v : Nat) (s : St) : Bool := !decide (stOk q v s)
theorem cl_t (x : Tr) (w : World) : Calls Try.prog 29 #[.agg #[.int .i64 x.b, .int .i64 x.u]] w fun e w' => e = .returned (.bool (pT x)) ∧ Below w.heap.size w w' := by
  obtain ⟨b, u⟩ := x
  by_cases h0 : 0 ≤ b ∧ b ≤ 1000000000000000
  · by_cases h1 : 0 ≤ u ∧ u ≤ 1000000000000000
    · rw [show pT ⟨b, u⟩ = false by unfold pT; rw [decide_eq_true (show trOk ⟨b, u⟩ from ⟨h0, h1⟩)]; rfl]
      go_enter Try.func29, Try.ntmps29
      go_wp2_with (fail)
      go_must (refine (money_any _ _).mono ?_)
      rintro e w1 ⟨rfl, rfl⟩
      rw [show decide (mon b) = true from decide_eq_true h0]
      go_wp2_with (fail)
      go_must (refine (money_any _ _).mono ?_)
      rintro e w1 ⟨rfl, rfl⟩
      rw [show decide (mon u) = true from decide_eq_true h1]
      go_wp2
      go_ret
      exact ⟨rfl, by first | exact Below.refl _ _ | go_grown⟩
    · rw [show pT ⟨b, u⟩ = true by unfold pT; rw [decide_eq_false (show ¬trOk ⟨b, u⟩ from fun h => h1 h.2)]; rfl]
      go_enter Try.func29, Try.ntmps29
      go_wp2_with (fail)
      go_must (refine (money_any _ _).mono ?_)
      rintro e w1 ⟨rfl, rfl⟩
      rw [show decide (mon b) = true from decide_eq_true h0]
      go_wp2_with (fail)
      go_must (refine (money_any _ _).mono ?_)
      rintro e w1 ⟨rfl, rfl⟩
      rw [show decide (mon u) = false from decide_eq_false h1]
      go_wp2
      go_ret
      exact ⟨rfl, by first | exact Below.refl _ _ | go_grown⟩
  · rw [show pT ⟨b, u⟩ = true by unfold pT; rw [decide_eq_false (show ¬trOk ⟨b, u⟩ from fun h => h0 h.1)]; rfl]
    go_enter Try.func29, Try.ntmps29
    go_wp2_with (fail)
    go_must (refine (money_any _ _).mono ?_)
    rintro e w1 ⟨rfl, rfl⟩
    rw [show decide (mon b) = false from decide_eq_false h0]
    go_wp2
    go_ret
    exact ⟨rfl, by first | exact Below.refl _ _ | go_grown⟩
theorem cl_q (x : Te) (g q c1 : Nat) (A1 : Option Addr) (w : World) (k4 : w.cell? ⟨g, 4, none⟩ = some (.slice A1 q c1)) : Calls Try.prog 30 #[.agg #[.int .i64 x.o, .int .i64 x.m], .pointer (some ⟨g, 0, none⟩)] w fun e w' => e = .returned (.bool (pQ q x)) ∧ Below w.heap.size w w' := by
  obtain ⟨o, m⟩ := x
  have hB : Below w.heap.size w (w.alloc (.cells #[.int .i64 o, .int .i64 m] 50)) := Gen.b_alloc (Below.refl _ _)
  have hk := keep0 hB _ _ _ k4
  clear hB k4
  by_cases h4 : 1 ≤ o
  · by_cases h3 : o ≤ (q : Int)
    · by_cases h2 : 0 ≤ m
      · by_cases h1 : m ≤ 2000
        · rw [show pQ q ⟨o, m⟩ = false by unfold pQ; rw [decide_eq_true (by unfold teOk; dsimp only; omega)]; rfl]
          go_enter Try.func30, Try.ntmps30
          go_wp2
          go_ret
          exact ⟨by first | rfl | exact ret_bool (by simp; omega), by first | exact Below.refl _ _ | go_grown⟩
        · rw [show pQ q ⟨o, m⟩ = true by unfold pQ; rw [decide_eq_false (by unfold teOk; dsimp only; omega)]; rfl]
          go_enter Try.func30, Try.ntmps30
          go_wp2
          go_ret
          exact ⟨by first | rfl | exact ret_bool (by simp; omega), by first | exact Below.refl _ _ | go_grown⟩
      · rw [show pQ q ⟨o, m⟩ = true by unfold pQ; rw [decide_eq_false (by unfold teOk; dsimp only; omega)]; rfl]
        go_enter Try.func30, Try.ntmps30
        go_wp2
        go_ret
        exact ⟨by first | rfl | exact ret_bool (by simp; omega), by first | exact Below.refl _ _ | go_grown⟩
    · rw [show pQ q ⟨o, m⟩ = true by unfold pQ; rw [decide_eq_false (by unfold teOk; dsimp only; omega)]; rfl]
      go_enter Try.func30, Try.ntmps30
      go_wp2
      go_ret
      exact ⟨by first | rfl | exact ret_bool (by simp; omega), by first | exact Below.refl _ _ | go_grown⟩
  · rw [show pQ q ⟨o, m⟩ = true by unfold pQ; rw [decide_eq_false (by unfold teOk; dsimp only; omega)]; rfl]
    go_enter Try.func30, Try.ntmps30
    go_wp2
    go_ret
    exact ⟨by first | rfl | exact ret_bool (by simp; omega), by first | exact Below.refl _ _ | go_grown⟩
theorem cl_s (s : St) (g : Nat) (d : Dl) (p : Pl) (w : World) (h : DmAt w g d p) : Calls Try.prog 31 #[.agg #[.int .i64 s.k, .int .i64 s.n, .int .i64 s.a], .pointer (some ⟨g, 0, none⟩)] w fun e w' => e = .returned (.bool (pS d.tr.length d.te.length s)) ∧ Below w.heap.size w w' := by
  obtain ⟨k, n, a⟩ := s
  have hB : Below w.heap.size w (w.alloc (.cells #[.int .i64 k, .int .i64 n, .int .i64 a] 42)) := Gen.b_alloc (Below.refl _ _)
  obtain ⟨k0, k1, k2, k3, k4, k5, k6⟩ := h.keep hB
  have HB := Lib.hid hB
  clear h hB
  go_enter Try.func31, Try.ntmps31
  go_wp2_with (fail)
  go_must (refine (rst_any _ _ _ _ _ _ _ _ _ _ _ _ _ ⟨k, n, a⟩ _).mono ?_)
  rintro e w1 ⟨rfl, hb1⟩
  have hB1 := Gen.over hb1 HB.out
  have HP := Lib.hid (show pS d.tr.length d.te.length ⟨k, n, a⟩ = !decide (stOk d.tr.length d.te.length ⟨k, n, a⟩) from rfl)
  obtain ⟨z, hz⟩ : ∃ z, decide (stOk d.tr.length d.te.length ⟨k, n, a⟩) = z := ⟨_, rfl⟩
  rw [hz] at HP ⊢
  clear hz
  go_wp2
  go_ret
  exact ⟨ret_bool HP.out.symm, hB1⟩
set_option maxRecDepth 100000 in
set_option maxHeartbeats 4000000 in
theorem idx_t (A : Option Addr) (n cap : Nat) (l : List Tr) (w : World) (hn : l.length = n) (hc : Rs tcs 2 w A l) (hbig : n ≤ 1000000) :
    Calls Try.prog 37 #[.slice A n cap, .func (Fn.func 29) #[] #[]] w fun e w' => e = .returned (.int .i64 (idx (pT) l)) ∧ Below w.heap.size w w' := by
  have HN := Lib.hid hn
  clear hn
  go_enter Try.func37, Try.ntmps37
  go_wp2
  go_loopw [8] (fun iv wr => ∃ k : Nat, k ≤ n ∧ iv = .int .i64 k ∧ Hid (∀ y ∈ l.take k, (pT) y = false) ∧ Below w.heap.size w wr) (fun iv _ => n - (intOf iv).toNat)
  case atStart => exact ⟨0, Nat.zero_le _, rfl, Lib.hid (by simp), Below.refl _ _⟩
  case round =>
    obtain ⟨k, hk, rfl, HA, hB⟩ := hrel
    by_cases hlt : k < n
    · obtain ⟨b, off, rfl, hcell⟩ := (hc.keep hB) (by rw [HN.out]; omega)
      obtain ⟨x, hx⟩ := at_ l k (by rw [HN.out]; exact hlt)
      have m0 := hcell k x hx 0 _ rfl
      have m1 := hcell k x hx 1 _ rfl
      have HX := Lib.hid hx
      have hl := cl_t x wr
      clear hcell hx hc
      obtain ⟨xb, xu⟩ := x
      dsimp only at hl
      rw [Nat.add_zero] at m0
      have HL : Hid (Calls Try.prog 29 #[.agg #[.int .i64 xb, .int .i64 xu]] wr fun e w' => e = .returned (.bool ((pT) ⟨xb, xu⟩)) ∧ Below wr.heap.size wr w') := Lib.hid hl
      clear hl
      go_wp2_with (fail)
      go_must (refine (HL.out).mono ?_)
      rintro e w1 ⟨rfl, hb⟩
      have hB1 := Gen.over hb hB
      clear hb hB HL
      cases hp : (pT) ⟨xb, xu⟩
      · have HF : Hid (∀ y ∈ l.take (k + 1), (pT) y = false) := Lib.hid (fun y hy => by
          rw [take_snoc' HX.out, List.mem_append] at hy
          rcases hy with hy | hy
          · exact HA.out y hy
          · rw [List.mem_singleton.1 hy]; exact hp)
        clear hp
        go_wp2
        go_roundw
        case rel => first | exact ⟨k + 1, by omega, by go_num, HF, hB1⟩ | exact ⟨k + 1, by omega, by go_num, HF⟩
        case measure => simp [intOf]; omega
      · have HF := Lib.hid (idx_yes HA.out HX.out hp)
        clear hp
        go_wp2
        go_ret
        exact ⟨ret_int HF.out.symm, hB1⟩
    · obtain rfl : k = n := by omega
      have HF := Lib.hid (idx_no (p := pT) (l := l) (fun y hy => HA.out y (by rw [List.take_of_length_le (by rw [HN.out]; exact Nat.le_refl _)]; exact hy)))
      go_wp2
      go_ret
      exact ⟨ret_int HF.out.symm, hB⟩
set_option maxHeartbeats 1000000 in
theorem cont_t (A : Option Addr) (n cap : Nat) (l : List Tr) (w : World) (hn : l.length = n) (hc : Rs tcs 2 w A l) (hbig : n ≤ 1000000) :
    Calls Try.prog 33 #[.slice A n cap, .func (Fn.func 29) #[] #[]] w fun e w' => e = .returned (.bool (l.any (pT))) ∧ Below w.heap.size w w' := by
  have HI := Lib.hid (idx_any_ (pT) l)
  obtain ⟨h1, h2⟩ := idx_in (pT) l
  have HC := Lib.hid (idx_t A n cap l w hn hc hbig)
  obtain ⟨i, hi⟩ : ∃ i, idx (pT) l = i := ⟨_, rfl⟩
  rw [hi] at HI HC h1 h2
  rw [hn] at h2
  clear hi hn hc
  go_enter Try.func33, Try.ntmps33
  go_wp2_with (fail)
  go_must (refine (HC.out).mono ?_)
  rintro e w1 ⟨rfl, hb⟩
  go_wp2
  go_ret
  exact ⟨ret_bool HI.out, hb⟩
set_option maxRecDepth 100000 in
set_option maxHeartbeats 4000000 in
theorem idx_q (A : Option Addr) (n cap : Nat) (l : List Te) (w : World) (hn : l.length = n) (hc : Rs qcs 2 w A l) (hbig : n ≤ 1000000) {g q c1 : Nat} {A1 : Option Addr} (k4 : w.cell? ⟨g, 4, none⟩ = some (.slice A1 q c1)) :
    Calls Try.prog 38 #[.slice A n cap, .func (Fn.func 30) #[] #[.pointer (some ⟨g, 0, none⟩)]] w fun e w' => e = .returned (.int .i64 (idx (pQ q) l)) ∧ Below w.heap.size w w' := by
  have HN := Lib.hid hn
  have HK := Lib.hid k4
  clear hn k4
  go_enter Try.func38, Try.ntmps38
  go_wp2
  go_loopw [8] (fun iv wr => ∃ k : Nat, k ≤ n ∧ iv = .int .i64 k ∧ Hid (∀ y ∈ l.take k, (pQ q) y = false) ∧ Below w.heap.size w wr) (fun iv _ => n - (intOf iv).toNat)
  case atStart => exact ⟨0, Nat.zero_le _, rfl, Lib.hid (by simp), Below.refl _ _⟩
  case round =>
    obtain ⟨k, hk, rfl, HA, hB⟩ := hrel
    by_cases hlt : k < n
    · obtain ⟨b, off, rfl, hcell⟩ := (hc.keep hB) (by rw [HN.out]; omega)
      obtain ⟨x, hx⟩ := at_ l k (by rw [HN.out]; exact hlt)
      have m0 := hcell k x hx 0 _ rfl
      have m1 := hcell k x hx 1 _ rfl
      have HX := Lib.hid hx
      have hl := cl_q x g q c1 A1 wr (keep0 hB _ _ _ HK.out)
      clear hcell hx hc
      obtain ⟨xo, xm⟩ := x
      dsimp only at hl
      rw [Nat.add_zero] at m0
      have HL : Hid (Calls Try.prog 30 #[.agg #[.int .i64 xo, .int .i64 xm], .pointer (some ⟨g, 0, none⟩)] wr fun e w' => e = .returned (.bool ((pQ q) ⟨xo, xm⟩)) ∧ Below wr.heap.size wr w') := Lib.hid hl
      clear hl
      go_wp2_with (fail)
      go_must (refine (HL.out).mono ?_)
      rintro e w1 ⟨rfl, hb⟩
      have hB1 := Gen.over hb hB
      clear hb hB HL
      cases hp : (pQ q) ⟨xo, xm⟩
      · have HF : Hid (∀ y ∈ l.take (k + 1), (pQ q) y = false) := Lib.hid (fun y hy => by
          rw [take_snoc' HX.out, List.mem_append] at hy
          rcases hy with hy | hy
          · exact HA.out y hy
          · rw [List.mem_singleton.1 hy]; exact hp)
        clear hp
        go_wp2
        go_roundw
        case rel => first | exact ⟨k + 1, by omega, by go_num, HF, hB1⟩ | exact ⟨k + 1, by omega, by go_num, HF⟩
        case measure => simp [intOf]; omega
      · have HF := Lib.hid (idx_yes HA.out HX.out hp)
        clear hp
        go_wp2
        go_ret
        exact ⟨ret_int HF.out.symm, hB1⟩
    · obtain rfl : k = n := by omega
      have HF := Lib.hid (idx_no (p := pQ q) (l := l) (fun y hy => HA.out y (by rw [List.take_of_length_le (by rw [HN.out]; exact Nat.le_refl _)]; exact hy)))
      go_wp2
      go_ret
      exact ⟨ret_int HF.out.symm, hB⟩
set_option maxHeartbeats 1000000 in
theorem cont_q (A : Option Addr) (n cap : Nat) (l : List Te) (w : World) (hn : l.length = n) (hc : Rs qcs 2 w A l) (hbig : n ≤ 1000000) {g q c1 : Nat} {A1 : Option Addr} (k4 : w.cell? ⟨g, 4, none⟩ = some (.slice A1 q c1)) :
    Calls Try.prog 34 #[.slice A n cap, .func (Fn.func 30) #[] #[.pointer (some ⟨g, 0, none⟩)]] w fun e w' => e = .returned (.bool (l.any (pQ q))) ∧ Below w.heap.size w w' := by
  have HI := Lib.hid (idx_any_ (pQ q) l)
  obtain ⟨h1, h2⟩ := idx_in (pQ q) l
  have HC := Lib.hid (idx_q A n cap l w hn hc hbig k4)
  obtain ⟨i, hi⟩ : ∃ i, idx (pQ q) l = i := ⟨_, rfl⟩
  rw [hi] at HI HC h1 h2
  rw [hn] at h2
  clear hi hn hc k4
  go_enter Try.func34, Try.ntmps34
  go_wp2_with (fail)
  go_must (refine (HC.out).mono ?_)
  rintro e w1 ⟨rfl, hb⟩
  go_wp2
  go_ret
  exact ⟨ret_bool HI.out, hb⟩
set_option maxRecDepth 100000 in
set_option maxHeartbeats 4000000 in
theorem idx_s (A : Option Addr) (n cap : Nat) (l : List St) (w : World) (hn : l.length = n) (hc : Rs scs 3 w A l) (hbig : n ≤ 1000000) {g : Nat} {d : Dl} {p : Pl} (k4 : DmAt w g d p) :
    Calls Try.prog 39 #[.slice A n cap, .func (Fn.func 31) #[] #[.pointer (some ⟨g, 0, none⟩)]] w fun e w' => e = .returned (.int .i64 (idx (pS d.tr.length d.te.length) l)) ∧ Below w.heap.size w w' := by
  have HN := Lib.hid hn
  have HK := Lib.hid k4
  clear hn k4
  go_enter Try.func39, Try.ntmps39
  go_wp2
  go_loopw [8] (fun iv wr => ∃ k : Nat, k ≤ n ∧ iv = .int .i64 k ∧ Hid (∀ y ∈ l.take k, (pS d.tr.length d.te.length) y = false) ∧ Below w.heap.size w wr) (fun iv _ => n - (intOf iv).toNat)
  case atStart => exact ⟨0, Nat.zero_le _, rfl, Lib.hid (by simp), Below.refl _ _⟩
  case round =>
    obtain ⟨k, hk, rfl, HA, hB⟩ := hrel
    by_cases hlt : k < n
    · obtain ⟨b, off, rfl, hcell⟩ := (hc.keep hB) (by rw [HN.out]; omega)
      obtain ⟨x, hx⟩ := at_ l k (by rw [HN.out]; exact hlt)
      have m0 := hcell k x hx 0 _ rfl
      have m1 := hcell k x hx 1 _ rfl
      have m2 := hcell k x hx 2 _ rfl
      have HX := Lib.hid hx
      have hl := cl_s x g d p wr (HK.out.keep hB)
      clear hcell hx hc
      obtain ⟨xk, xn, xa⟩ := x
      dsimp only at hl
      rw [Nat.add_zero] at m0
      have HL : Hid (Calls Try.prog 31 #[.agg #[.int .i64 xk, .int .i64 xn, .int .i64 xa], .pointer (some ⟨g, 0, none⟩)] wr fun e w' => e = .returned (.bool ((pS d.tr.length d.te.length) ⟨xk, xn, xa⟩)) ∧ Below wr.heap.size wr w') := Lib.hid hl
      clear hl
      go_wp2_with (fail)
      go_must (refine (HL.out).mono ?_)
      rintro e w1 ⟨rfl, hb⟩
      have hB1 := Gen.over hb hB
      clear hb hB HL
      cases hp : (pS d.tr.length d.te.length) ⟨xk, xn, xa⟩
      · have HF : Hid (∀ y ∈ l.take (k + 1), (pS d.tr.length d.te.length) y = false) := Lib.hid (fun y hy => by
          rw [take_snoc' HX.out, List.mem_append] at hy
          rcases hy with hy | hy
          · exact HA.out y hy
          · rw [List.mem_singleton.1 hy]; exact hp)
        clear hp
        go_wp2
        go_roundw
        case rel => first | exact ⟨k + 1, by omega, by go_num, HF, hB1⟩ | exact ⟨k + 1, by omega, by go_num, HF⟩
        case measure => simp [intOf]; omega
      · have HF := Lib.hid (idx_yes HA.out HX.out hp)
        clear hp
        go_wp2
        go_ret
        exact ⟨ret_int HF.out.symm, hB1⟩
    · obtain rfl : k = n := by omega
      have HF := Lib.hid (idx_no (p := pS d.tr.length d.te.length) (l := l) (fun y hy => HA.out y (by rw [List.take_of_length_le (by rw [HN.out]; exact Nat.le_refl _)]; exact hy)))
      go_wp2
      go_ret
      exact ⟨ret_int HF.out.symm, hB⟩
set_option maxHeartbeats 1000000 in
theorem cont_s (A : Option Addr) (n cap : Nat) (l : List St) (w : World) (hn : l.length = n) (hc : Rs scs 3 w A l) (hbig : n ≤ 1000000) {g : Nat} {d : Dl} {p : Pl} (k4 : DmAt w g d p) :
    Calls Try.prog 35 #[.slice A n cap, .func (Fn.func 31) #[] #[.pointer (some ⟨g, 0, none⟩)]] w fun e w' => e = .returned (.bool (l.any (pS d.tr.length d.te.length))) ∧ Below w.heap.size w w' := by
  have HI := Lib.hid (idx_any_ (pS d.tr.length d.te.length) l)
  obtain ⟨h1, h2⟩ := idx_in (pS d.tr.length d.te.length) l
  have HC := Lib.hid (idx_s A n cap l w hn hc hbig k4)
  obtain ⟨i, hi⟩ : ∃ i, idx (pS d.tr.length d.te.length) l = i := ⟨_, rfl⟩
  rw [hi] at HI HC h1 h2
  rw [hn] at h2
  clear hi hn hc k4
  go_enter Try.func35, Try.ntmps35
  go_wp2_with (fail)
  go_must (refine (HC.out).mono ?_)
  rintro e w1 ⟨rfl, hb⟩
  go_wp2
  go_ret
  exact ⟨ret_bool HI.out, hb⟩
end Go.Proofs.Ytdmbgdbmfenbfaa.Fa
