/- Package trade: the contract of Right; slices.IndexFunc and ContainsFunc over trades. -/
import Derived.Test.YtpekedhcnijgcaaTrdB
namespace Go.Proofs.Ytpekedhcnijgcaa.Book
open Go.ChangeShapes Go.WideShapes Go.ChangeAt Go.RowKit Go.Proofs.Ytpekedhcnijgcaa.Cell
set_option linter.unusedVariables false
set_option linter.unusedSimpArgs false

set_option maxHeartbeats 1000000 in
theorem tr1_lit (k f t u m d o b : Int) (A : Option Addr) (n cap : Nat) (bs : List Bool) (g : Nat) (w : World) (hg : w.cell? ⟨g, 0, none⟩ = some (.slice A n cap)) (hn : bs.length = n) (hc : Boos w A bs) :
    Calls Try.prog 56 #[.agg #[.int .i64 k, .int .i64 f, .int .i64 t, .int .i64 u, .int .i64 m, .int .i64 d, .int .i64 o, .int .i64 b], .pointer (some ⟨g, 0, none⟩)] w fun e w' => e = .returned (.bool (!okB bs ⟨k, f, t, u, m, d, o, b⟩)) ∧ Below w.heap.size w w' := by
  have hB : Below w.heap.size w (w.alloc (.cells #[.int .i64 k, .int .i64 f, .int .i64 t, .int .i64 u, .int .i64 m, .int .i64 d, .int .i64 o, .int .i64 b] 26)) := Gen.b_alloc (Below.refl _ _)
  have hg2 := keep0 hB _ _ _ hg
  have HN := Lib.hid hn
  have HC := Lib.hid (hc.keep hB)
  have HB := Lib.hid hB
  clear hn hc hg hB
  go_enter Try.func56, Try.ntmps56
  go_wp2_with (fail)
  go_must (refine (tright_any ⟨k, f, t, u, m, d, o, b⟩ _ _ _ bs _ HN.out HC.out).mono ?_)
  rintro e w1 ⟨rfl, hb1⟩
  have hB1 := Gen.over hb1 HB.out
  obtain ⟨z, hz⟩ : ∃ z, okB bs ⟨k, f, t, u, m, d, o, b⟩ = z := ⟨_, rfl⟩
  rw [hz]
  have HZ := Lib.hid hz
  clear hz
  go_wp2
  go_ret
  exact ⟨ret_bool (by rw [HZ.out]), hB1⟩

theorem tr1_any (x : Tr) (A : Option Addr) (n cap : Nat) (bs : List Bool) (g : Nat) (w : World) (hg : w.cell? ⟨g, 0, none⟩ = some (.slice A n cap)) (hn : bs.length = n) (hc : Boos w A bs) :
    Calls Try.prog 56 #[.agg (tcs x).toArray, .pointer (some ⟨g, 0, none⟩)] w fun e w' => e = .returned (.bool (!okB bs x)) ∧ Below w.heap.size w w' :=
  tr1_lit x.k x.f x.t x.u x.m x.d x.o x.b A n cap bs g w hg hn hc

/-- the first one that fits -/
def idx (p : Tr → Bool) (l : List Tr) : Int := match l.findIdx? p with
  | some i => i
  | none => -1
theorem idx_yes {p : Tr → Bool} {l : List Tr} {k : Nat} {x : Tr} (h : ∀ y ∈ l.take k, p y = false) (hx : l[k]? = some x) (hp : p x = true) : idx p l = k := by
  unfold idx
  have hk := lt_of_at hx
  have : l.findIdx? p = some k := by
    rw [List.findIdx?_eq_some_iff_getElem]
    refine ⟨hk, by rw [(List.getElem?_eq_some_iff.1 hx).2]; exact hp, fun j hj => ?_⟩
    have := h l[j] (List.mem_of_getElem? (i := j) (by rw [List.getElem?_take_of_lt hj]; exact List.getElem?_eq_getElem (by omega)))
    simp [this]
  rw [this]
theorem idx_no {p : Tr → Bool} {l : List Tr} (h : ∀ y ∈ l, p y = false) : idx p l = -1 := by
  unfold idx
  rw [List.findIdx?_eq_none_iff.2 h]
theorem idx_any_ (p : Tr → Bool) (l : List Tr) : decide (0 ≤ idx p l) = l.any p := by
  unfold idx
  cases h : l.findIdx? p with
  | none =>
    rw [List.findIdx?_eq_none_iff] at h
    have : l.any p = false := by rw [List.any_eq_false]; exact fun x hx => by simp [h x hx]
    rw [this]; rfl
  | some i =>
    rw [List.findIdx?_eq_some_iff_getElem] at h
    obtain ⟨hi, hp, _⟩ := h
    have : l.any p = true := by rw [List.any_eq_true]; exact ⟨_, List.getElem_mem hi, hp⟩
    rw [this]
    exact decide_eq_true (by simp)
theorem idx_in (p : Tr → Bool) (l : List Tr) : -1 ≤ idx p l ∧ idx p l < l.length ∧ (0 ≤ idx p l → ∃ x, l[(idx p l).toNat]? = some x ∧ p x = true) := by
  unfold idx
  cases h : l.findIdx? p with
  | none => exact ⟨by simp, (by dsimp only; omega), fun h => by simp at h⟩
  | some i =>
    rw [List.findIdx?_eq_some_iff_getElem] at h
    obtain ⟨hi, hp, _⟩ := h
    exact ⟨by first | omega | simp, by first | omega | (simp; omega), fun _ => ⟨l[i], by simp [hi], hp⟩⟩
/-- what a closure over trades returns, in each world that has what it needs -/
def TellsR (g : Nat) (p : Tr → Bool) (w : World) : Prop := ∀ (W : World) (x : Tr), Below w.heap.size w W → Calls Try.prog 56 #[.agg (tcs x).toArray, .pointer (some ⟨g, 0, none⟩)] W fun e w' => e = .returned (.bool (p x)) ∧ Below W.heap.size W w'
set_option maxRecDepth 100000 in
set_option maxHeartbeats 4000000 in
theorem tidxR (A : Option Addr) (n cap : Nat) (l : List Tr) (g : Nat) (p : Tr → Bool) (w : World) (hn : l.length = n) (hc : Trs w A l) (hbig : n ≤ 1000000)
    (hcl : TellsR g p w) :
    Calls Try.prog 49 #[.slice A n cap, .func (Fn.func 56) #[] #[.pointer (some ⟨g, 0, none⟩)]] w fun e w' => e = .returned (.int .i64 (idx p l)) ∧ Below w.heap.size w w' := by
  have HN := Lib.hid hn
  have HT := Lib.hid hcl
  clear hn hcl
  go_enter Try.func49, Try.ntmps49
  go_wp2
  go_loopw [8] (fun iv wr => ∃ k : Nat, k ≤ n ∧ iv = .int .i64 k ∧ Hid (∀ y ∈ l.take k, p y = false) ∧ Below w.heap.size w wr) (fun iv _ => n - (intOf iv).toNat)
  case atStart => exact ⟨0, Nat.zero_le _, rfl, Lib.hid (by simp), Below.refl _ _⟩
  case round =>
    obtain ⟨k, hk, rfl, HA, hB⟩ := hrel
    by_cases hlt : k < n
    · obtain ⟨b, off, rfl, hcell⟩ := (hc.keep hB) (by rw [HN.out]; omega)
      obtain ⟨x, hx⟩ := at_ l k (by rw [HN.out]; exact hlt)
      obtain ⟨c0, c1, c2, c3, c4, c5, c6, c7⟩ := hcell k x hx
      have HX := Lib.hid hx
      have hl := HT.out wr x hB
      clear hcell hx hc
      obtain ⟨xk, xf, xt, xu, xm, xd, xo, xb⟩ := x
      dsimp only at c0 c1 c2 c3 c4 c5 c6 c7
      have HL : Hid (Calls Try.prog 56 #[.agg #[.int .i64 xk, .int .i64 xf, .int .i64 xt, .int .i64 xu, .int .i64 xm, .int .i64 xd, .int .i64 xo, .int .i64 xb], .pointer (some ⟨g, 0, none⟩)] wr fun e w' => e = .returned (.bool (p ⟨xk, xf, xt, xu, xm, xd, xo, xb⟩)) ∧ Below wr.heap.size wr w') := Lib.hid hl
      clear hl
      go_wp2_with (fail)
      go_must (refine (HL.out).mono ?_)
      rintro e w1 ⟨rfl, hb⟩
      have hB1 := Gen.over hb hB
      clear hb hB HL
      cases hp : p ⟨xk, xf, xt, xu, xm, xd, xo, xb⟩
      · have HF : Hid (∀ y ∈ l.take (k + 1), p y = false) := Lib.hid (fun y hy => by
          rw [take_snoc HX.out, List.mem_append] at hy
          rcases hy with hy | hy
          · exact HA.out y hy
          · rw [List.mem_singleton.1 hy]; exact hp)
        clear hp
        go_wp2
        go_roundw
        case rel => first | exact ⟨k + 1, by omega, by go_num, HF, hB1⟩ | exact ⟨k + 1, by omega, by go_num, HF⟩
        case measure => simp [intOf]; omega
      · have HF := Lib.hid (idx_yes HA.out HX.out hp)
        clear hp
        go_wp2
        go_ret
        exact ⟨ret_int HF.out.symm, hB1⟩
    · obtain rfl : k = n := by omega
      have HF := Lib.hid (idx_no (p := p) (l := l) (fun y hy => HA.out y (by rw [List.take_of_length_le (by rw [HN.out]; exact Nat.le_refl _)]; exact hy)))
      go_wp2
      go_ret
      exact ⟨ret_int HF.out.symm, hB⟩
set_option maxHeartbeats 1000000 in
theorem tcontR (A : Option Addr) (n cap : Nat) (l : List Tr) (g : Nat) (p : Tr → Bool) (w : World) (hn : l.length = n) (hc : Trs w A l) (hbig : n ≤ 1000000)
    (hcl : TellsR g p w) :
    Calls Try.prog 55 #[.slice A n cap, .func (Fn.func 56) #[] #[.pointer (some ⟨g, 0, none⟩)]] w fun e w' => e = .returned (.bool (l.any p)) ∧ Below w.heap.size w w' := by
  have HT := Lib.hid hcl
  have HI := Lib.hid (idx_any_ p l)
  obtain ⟨i, hi⟩ : ∃ i, idx p l = i := ⟨_, rfl⟩
  have HII := Lib.hid hi
  clear hcl hi
  go_enter Try.func55, Try.ntmps55
  go_wp2_with (fail)
  go_must (refine (tidxR _ _ _ l _ p _ hn hc hbig HT.out).mono ?_)
  rintro e w1 ⟨rfl, hb⟩
  rw [HII.out]
  clear hn
  go_wp2
  go_ret
  exact ⟨ret_bool (by rw [← HI.out, HII.out]), hb⟩

set_option maxRecDepth 100000 in
set_option maxHeartbeats 2000000 in
theorem tRight_any (A : Option Addr) (n cap : Nat) (ss : List (Int × Int)) (A' : Option Addr) (m cap' : Nat) (l : List Tr) (w : World) (hn : ss.length = n) (hc : Prs w A ss) (hbig : n ≤ 1000000) (hm : l.length = m) (hc' : Trs w A' l) (hbig' : m ≤ 9223372036854775807) :
    Calls Try.prog 20 #[.slice A n cap, .slice A' m cap'] w fun e w' => e = .returned (.bool (rtT ss l)) ∧ Below w.heap.size w w' := by
  have HN := Lib.hid hn
  have HM := Lib.hid hm
  clear hn hm
  cases hr : rg ss
  · have HF := Lib.hid (show rtT ss l = false by unfold rtT; rw [hr]; rfl)
    have HR := Lib.hid hr
    clear hr
    go_enter Try.func20, Try.ntmps20
    go_wp2_with (fail)
    go_must (refine (right_is _ HN.out hc (by omega) HR.out).mono ?_)
    rintro e w1 ⟨rfl, hb⟩
    go_wp2
    go_ret
    exact ⟨ret_bool HF.out.symm, hb⟩
  · have HR := Lib.hid hr
    clear hr
    by_cases h1 : m ≤ 10000
    · have HF := Lib.hid (show rtT ss l = !(l.any fun x => !okB (lvs ss n n) x) by
        unfold rtT
        rw [HR.out, HM.out, decide_eq_true h1, Bool.true_and, Bool.true_and, List.all_eq_not_any_not, ← HN.out]
        congr 2
        funext x
        rw [okB_lvs])
      obtain ⟨z, hz⟩ : ∃ z, (l.any fun x => !okB (lvs ss n n) x) = z := ⟨_, rfl⟩
      have HZ := Lib.hid hz
      have hle := (rg_ok HR.out).1
      rw [HN.out] at hle
      clear hz
      go_enter Try.func20, Try.ntmps20
      go_wp2_with (fail)
      go_must (refine (right_is _ HN.out hc (by omega) HR.out).mono ?_)
      rintro e w1 ⟨rfl, hb⟩
      have hc1 := hc.keep hb
      go_wp2_with (fail)
      go_must (refine (leaves_any _ _ _ ss _ HN.out hc1 HR.out).mono ?_)
      rintro e w2 ⟨g, rfl, hbo, hb2⟩
      have hB2 := Gen.over hb2 hb
      have hb3 : Below w2.heap.size w2 (w2.alloc (.cells #[.slice (some ⟨g, 0, none⟩) n n] 64)) := Gen.b_alloc (Below.refl _ _)
      have hB3 := Gen.over hb3 hB2
      have hg : (w2.alloc (.cells #[.slice (some ⟨g, 0, none⟩) n n] 64)).cell? ⟨w2.heap.size, 0, none⟩ = some (.slice (some ⟨g, 0, none⟩) n n) := by simp [go_sem]
      have HT : Hid (TellsR w2.heap.size (fun x => !okB (lvs ss n n) x) (w2.alloc (.cells #[.slice (some ⟨g, 0, none⟩) n n] 64))) :=
        Lib.hid fun W x hW => tr1_any x _ n n (lvs ss n n) _ W (keep0 hW _ _ _ hg) (lvs_length _ _ _) ((hbo.keep hb3).keep hW)
      have HC := Lib.hid (hc'.keep hB3)
      clear hbo hg hc1 hb3
      go_wp2_with (fail)
      go_must (refine (tcontR _ _ _ l _ _ _ HM.out HC.out (by omega) HT.out).mono ?_)
      rintro e w3 ⟨rfl, hb4⟩
      have hB4 := Gen.over hb4 hB3
      rw [HZ.out]
      go_wp2
      go_ret
      exact ⟨ret_bool (by rw [HF.out, HZ.out]), hB4⟩
    · have HF := Lib.hid (show rtT ss l = false by unfold rtT; rw [HM.out, decide_eq_false h1, Bool.and_false]; rfl)
      have h1' : 10000 < (m : Int) := by omega
      clear h1
      go_enter Try.func20, Try.ntmps20
      go_wp2_with (fail)
      go_must (refine (right_is _ HN.out hc (by omega) HR.out).mono ?_)
      rintro e w1 ⟨rfl, hb⟩
      go_wp2
      go_ret
      exact ⟨ret_bool HF.out.symm, hb⟩
theorem tRight_is {A : Option Addr} {n cap : Nat} {ss : List (Int × Int)} {A' : Option Addr} {m cap' : Nat} {l : List Tr} {b : Bool} (w : World) (hn : ss.length = n) (hc : Prs w A ss) (hbig : n ≤ 1000000) (hm : l.length = m) (hc' : Trs w A' l) (hbig' : m ≤ 9223372036854775807) (h : rtT ss l = b) :
    Calls Try.prog 20 #[.slice A n cap, .slice A' m cap'] w fun e w' => e = .returned (.bool b) ∧ Below w.heap.size w w' := by
  have hh := tRight_any A n cap ss A' m cap' l w hn hc hbig hm hc' hbig'
  rw [h] at hh
  exact hh
end Go.Proofs.Ytpekedhcnijgcaa.Book
