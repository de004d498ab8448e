/- Package breach: the contract of 'Worst': the functions that it hands to the library, the library's IndexFunc and MaxFunc at them. -/
import Derived.Test.YtblegaclcpoonaaBrB
import Derived.Test.YtblegaclcpoonaaVoteC
import Derived.LoopTactic
import Derived.Deep.RegionHeld3
namespace Go.Proofs.Ytblegaclcpoonaa.Br
open Go.ChangeShapes Go.WideShapes Go.ChangeAt Go.RowKit
set_option linter.unusedVariables false

theorem at_ {α : Type} (xs : List α) (k : Nat) (h : k < xs.length) : ∃ x, xs[k]? = some x := ⟨xs[k], List.getElem?_eq_getElem h⟩
theorem take_snoc {α : Type} {xs : List α} {k : Nat} {x : α} (h : xs[k]? = some x) : xs.take (k + 1) = xs.take k ++ [x] := by
  rw [List.take_add_one, h]; rfl
theorem mem_of_at {α : Type} {xs : List α} {k : Nat} {x : α} (h : xs[k]? = some x) : x ∈ xs := List.mem_of_getElem? h

/-- the two cells of a breach -/
def At2 (w : World) (b o : Nat) (p : Int × Int) : Prop := w.cell? ⟨b, o, none⟩ = some (.int .i64 p.1) ∧ w.cell? ⟨b, o + 1, none⟩ = some (.int .i64 p.2)
/-- the memory of a slice of breaches -/
def Brs (w : World) (A : Option Addr) (l : List (Int × Int)) : Prop := 0 < l.length → ∃ b off, A = some ⟨b, off, none⟩ ∧ ∀ j p, l[j]? = some p → At2 w b (off + j * 2) p
theorem At2.keep {w w1 : World} {b o : Nat} {p : Int × Int} (h : At2 w b o p) (hb : Below w.heap.size w w1) : At2 w1 b o p := ⟨Br.keep hb _ _ _ h.1, Br.keep hb _ _ _ h.2⟩
theorem Brs.keep {w w1 : World} {A : Option Addr} {l : List (Int × Int)} (h : Brs w A l) (hb : Below w.heap.size w w1) : Brs w1 A l := fun h0 => by
  obtain ⟨b, off, e, hc⟩ := h h0
  exact ⟨b, off, e, fun j v hv => (hc j v hv).keep hb⟩

set_option maxHeartbeats 400000 in
theorem f57 (s d : Int) (w : World) : Calls Try.prog 57 #[bv s d] w fun e w' => e = .returned (.bool (!okB s d)) ∧ Below w.heap.size w w' := by
  go_enter Try.func57, Try.ntmps57
  go_wp2_with (fail)
  refine (right_any _ _ _).mono ?_
  rintro e w1 ⟨rfl, hb⟩
  have hB : Below w.heap.size w w1 := over hb (by go_grown)
  clear hb
  go_wp2
  go_ret
  exact ⟨rfl, hB⟩

/-- which of two is worse -/
def cmpB (s d s' d' : Int) : Int := if s = s' then d' - d else s - s'
set_option maxHeartbeats 400000 in
theorem f59 (s d s' d' : Int) (w : World) (h0 : 0 ≤ s ∧ s < 4) (h1 : 0 ≤ s' ∧ s' < 4) (h2 : 0 ≤ d ∧ d ≤ 200000) (h3 : 0 ≤ d' ∧ d' ≤ 200000) :
    Calls Try.prog 59 #[bv s d, bv s' d'] w fun e w' => e = .returned (.int .i64 (cmpB s d s' d')) ∧ Below w.heap.size w w' := by
  by_cases hs : s = s'
  · subst hs
    have HF := Lib.hid (show cmpB s d s d' = d' - d from if_pos rfl)
    go_enter Try.func59, Try.ntmps59
    go_wp2
    go_ret
    exact ⟨ret_int HF.out.symm, by go_grown⟩
  · have HF := Lib.hid (show cmpB s d s' d' = s - s' from if_neg hs)
    have hn : (s != s') = true := by rw [bne_iff_ne]; exact hs
    clear hs
    go_enter Try.func59, Try.ntmps59
    go_wp2
    go_ret
    exact ⟨ret_int HF.out.symm, by go_grown⟩

def okP (p : Int × Int) : Bool := okB p.1 p.2
def IdxPost (l : List (Int × Int)) (w : World) (e : Ending) (w' : World) : Prop := ∃ r : Int, -1 ≤ r ∧ r ≤ 1000000 ∧ e = .returned (.int .i64 r) ∧ (l.all okP = decide (r < 0)) ∧ Below w.heap.size w w'

theorem not_all {l : List (Int × Int)} {k : Nat} {p : Int × Int} (h : l[k]? = some p) (hp : okP p = false) : l.all okP = false := by
  rw [List.all_eq_false]
  exact ⟨p, mem_of_at h, by simp [hp]⟩

set_option maxHeartbeats 2000000 in
theorem idx_any (A : Option Addr) (n cap : Nat) (l : List (Int × Int)) (w : World) (hn : l.length = n) (hc : Brs w A l) (hbig : n ≤ 1000000) :
    Calls Try.prog 71 #[.slice A n cap, .func (Fn.func 57) #[] #[]] w (IdxPost l w) := by
  have HN := Lib.hid hn
  clear hn
  go_enter Try.func71, Try.ntmps71
  go_wp2
  go_loopw [8] (fun i wr => ∃ k : Nat, k ≤ n ∧ i = .int .i64 k ∧ (l.take k).all okP = true ∧ Below w.heap.size w wr) (fun i _ => n - (intOf i).toNat)
  case atStart => exact ⟨0, Nat.zero_le _, rfl, by simp, Below.refl _ _⟩
  case round =>
    obtain ⟨k, hk, rfl, ha, hB⟩ := hrel
    have HA := Lib.hid ha
    have hS : w.heap.size ≤ wr.heap.size := hB.size
    clear ha
    by_cases hlt : k < n
    · obtain ⟨b, off, rfl, hcell⟩ := (hc.keep hB) (by rw [HN.out]; omega)
      obtain ⟨p, hp⟩ := at_ l k (by rw [HN.out]; exact hlt)
      obtain ⟨c0, c1⟩ := hcell k p hp
      have HP := Lib.hid hp
      clear hcell hp hc
      obtain ⟨s, d⟩ := p
      dsimp only at c0 c1
      cases ho : okB s d
      · have HF := Lib.hid (not_all HP.out ho)
        go_wp2_with (fail)
        refine (f57 _ _ _).mono ?_
        rintro e w1 ⟨rfl, hb⟩
        have hB1 := over hb hB
        clear hb hB
        go_wp2
        go_ret
        exact ⟨k, by omega, by omega, rfl, by rw [HF.out, decide_eq_false (by omega)], hB1⟩
      · have HG := Lib.hid (show (l.take (k + 1)).all okP = true from by
          rw [take_snoc HP.out, List.all_append, HA.out]
          simp [okP, ho])
        go_wp2_with (fail)
        refine (f57 _ _ _).mono ?_
        rintro e w1 ⟨rfl, hb⟩
        have hB1 := over hb hB
        clear hb hB
        go_wp2
        go_roundw
        case rel => exact ⟨k + 1, by omega, by go_num, HG.out, hB1⟩
        case measure => simp [intOf]; omega
    · obtain rfl : k = n := by omega
      go_wp2
      go_ret
      refine ⟨-1, by omega, by omega, rfl, ?_, hB⟩
      have h1 := HA.out
      rw [← HN.out, List.take_length] at h1
      rw [h1]
      rfl

theorem dec_ge (r : Int) : decide (0 ≤ r) = !decide (r < 0) := by
  by_cases h : r < 0
  · rw [decide_eq_true h, decide_eq_false (by omega)]; rfl
  · rw [decide_eq_false h, decide_eq_true (by omega)]; rfl

set_option maxHeartbeats 400000 in
theorem has_any (A : Option Addr) (n cap : Nat) (l : List (Int × Int)) (w : World) (hn : l.length = n) (hc : Brs w A l) (hbig : n ≤ 1000000) :
    Calls Try.prog 56 #[.slice A n cap, .func (Fn.func 57) #[] #[]] w fun e w' => e = .returned (.bool (!l.all okP)) ∧ Below w.heap.size w w' := by
  go_enter Try.func56, Try.ntmps56
  go_wp2_with (fail)
  refine (idx_any _ _ _ l _ hn hc hbig).mono ?_
  rintro e w1 ⟨r, r0, r1, rfl, hr, hb⟩
  have HR := Lib.hid hr
  clear hr
  go_wp2
  go_ret
  exact ⟨ret_bool (a := decide (0 ≤ r)) (by rw [HR.out]; exact dec_ge r), hb⟩

/-- the worse one of two -/
def maxB (m x : Int × Int) : Int × Int := if 0 < cmpB x.1 x.2 m.1 m.2 then x else m
def mxL : List (Int × Int) → Int × Int
  | [] => (0, 0)
  | x :: l => l.foldl maxB x
theorem mxL_snoc (l : List (Int × Int)) (x : Int × Int) (h : l ≠ []) : mxL (l ++ [x]) = maxB (mxL l) x := by
  cases l with
  | nil => exact absurd rfl h
  | cons y l => simp [mxL]
theorem okP_in {p : Int × Int} (h : okP p = true) : 0 ≤ p.1 ∧ p.1 < 4 ∧ 0 ≤ p.2 ∧ p.2 ≤ 200000 := by
  have := okB_in h
  omega
theorem maxB_ok {m x : Int × Int} (hm : okP m = true) (hx : okP x = true) : okP (maxB m x) = true := by
  unfold maxB
  split
  · exact hx
  · exact hm
theorem take_ne {l : List (Int × Int)} {k : Nat} (h0 : 0 < k) (h : k < l.length) : l.take k ≠ [] := by
  intro e
  have := congrArg List.length e
  rw [List.length_take, List.length_nil] at this
  omega

theorem held_m {w W W' : World} {g b o : Nat} {M R : Array Value} {x y z u : Value} (hb : Below W.heap.size W W')
    (h : Below w.heap.size w W ∧ Vote.Row W (g + 1) 25 M ∧ Vote.Row W g 25 R ∧ W.cell? ⟨g + 1, 0, none⟩ = some x ∧ W.cell? ⟨g + 1, 1, none⟩ = some y ∧ W.cell? ⟨b, o, none⟩ = some z ∧ W.cell? ⟨b, o + 1, none⟩ = some u) :
    Below w.heap.size w W' ∧ Vote.Row W' (g + 1) 25 M ∧ Vote.Row W' g 25 R ∧ W'.cell? ⟨g + 1, 0, none⟩ = some x ∧ W'.cell? ⟨g + 1, 1, none⟩ = some y ∧ W'.cell? ⟨b, o, none⟩ = some z ∧ W'.cell? ⟨b, o + 1, none⟩ = some u :=
  ⟨over hb h.1, h.2.1.keep hb, h.2.2.1.keep hb, keep hb _ _ _ h.2.2.2.1, keep hb _ _ _ h.2.2.2.2.1, keep hb _ _ _ h.2.2.2.2.2.1, keep hb _ _ _ h.2.2.2.2.2.2⟩
theorem _root_.Go.Proofs.Ytblegaclcpoonaa.Vote.Row.far {w : World} {g : Nat} {t : TypeId} {cs : Array Value} (h : Vote.Row w g t cs) {p : Addr} (hp : g ≠ p.block) (u : Value) : Vote.Row (w.setCell p u) g t cs := (Below.heap_setCell w p u g hp).trans h
theorem ret_p {a b : Int} {f : Int × Int} (h : f = (a, b)) : Ending.returned (bv a b) = .returned (bv f.1 f.2) := by rw [h]
theorem rowAt (w : World) (t : TypeId) (cs : Array Value) {g : Nat} (h : g = w.heap.size) : Vote.Row (w.alloc (.cells cs t)) g t cs := by
  subst h
  exact Vote.Row.new _ _ _

set_option maxHeartbeats 4000000 in
theorem max_any (A : Option Addr) (n cap : Nat) (l : List (Int × Int)) (w : World) (hn : l.length = n) (hc : Brs w A l) (hbig : n ≤ 1000000) (h0 : 0 < n) (hall : l.all okP = true) :
    Calls Try.prog 58 #[.slice A n cap, .func (Fn.func 59) #[] #[]] w fun e w' => e = .returned (bv (mxL l).1 (mxL l).2) ∧ Below w.heap.size w w' := by
  have HN := Lib.hid hn
  clear hn
  obtain ⟨b, off, rfl, hcell⟩ := hc (by rw [HN.out]; exact h0)
  obtain ⟨p, hp⟩ := at_ l 0 (by rw [HN.out]; exact h0)
  obtain ⟨c0, c1⟩ := hcell 0 p hp
  rw [Nat.zero_mul, Nat.add_zero] at c0 c1
  have HC := Lib.hid hcell
  have HALL := Lib.hid hall
  have HP := Lib.hid hp
  have hb0 := World.block_lt_of_cell? w ⟨b, off, none⟩ c0
  clear hcell hall hp hc
  obtain ⟨s, d⟩ := p
  dsimp only at c0 c1 hb0
  have hn1 : ¬ (n : Int) < 1 := by omega
  go_enter Try.func58, Try.ntmps58
  go_wp2
  go_loopw [6] (fun i wr => ∃ (k : Nat) (ms md : Int), 1 ≤ k ∧ k ≤ n ∧ i = .int .i64 k ∧ (ms, md) = mxL (l.take k) ∧ okP (ms, md) = true ∧ Vote.Row wr (w.heap.size + 1) 25 #[.int .i64 ms, .int .i64 md] ∧ Vote.Row wr w.heap.size 25 #[.int .i64 0, .int .i64 0] ∧ Below w.heap.size w wr) (fun i _ => n - (intOf i).toNat)
  case atStart =>
    refine ⟨1, s, d, Nat.le_refl _, h0, rfl, ?_, List.all_eq_true.1 HALL.out _ (mem_of_at HP.out), rowAt _ _ _ (by simp), (Vote.Row.new _ _ _).alloc _, by go_grown⟩
    have := take_snoc HP.out
    rw [Nat.zero_add, List.take_zero, List.nil_append] at this
    rw [this]
    rfl
  case round =>
    obtain ⟨k, ms, md, hk1, hk, rfl, he, okm, hM, hR, hB⟩ := hrel
    have HE := Lib.hid he
    have hS : w.heap.size + 1 < wr.heap.size := hM.lt
    clear he
    by_cases hlt : k < n
    · obtain ⟨x, hx⟩ := at_ l k (by rw [HN.out]; exact hlt)
      obtain ⟨x0, x1⟩ := (HC.out k x hx).keep hB
      have HX := Lib.hid hx
      have hbw : b < wr.heap.size := by have := hB.size; omega
      have hbn : ¬ b = w.heap.size + 1 := by omega
      have hbn' : ¬ w.heap.size + 1 = b := by omega
      have k0 : (0 : Int) ≤ (k : Int) := by omega
      have k1 : (k : Int) < (n : Int) := by omega
      have okx : okP x = true := List.all_eq_true.1 HALL.out x (mem_of_at hx)
      clear hx
      obtain ⟨s', d'⟩ := x
      dsimp only at x0 x1
      have bx := okP_in okx
      have bm := okP_in okm
      dsimp only at bx bm
      have m0 : wr.cell? ⟨w.heap.size + 1, 0, none⟩ = some (.int .i64 ms) := by rw [hM.cell]; rfl
      have m1 : wr.cell? ⟨w.heap.size + 1, 1, none⟩ = some (.int .i64 md) := by rw [hM.cell]; rfl
      have HT := Lib.hid (take_snoc HX.out)
      have HBX := Lib.hid bx
      have HBM := Lib.hid bm
      have HOK := Lib.hid (show okP (maxB (ms, md) (s', d')) = true from maxB_ok okm okx)
      have HN1 := Lib.hid (show mxL (l.take (k + 1)) = maxB (ms, md) (s', d') from by rw [HT.out, mxL_snoc _ _ (take_ne hk1 (by rw [HN.out]; exact hlt)), ← HE.out])
      clear bx bm okx okm
      by_cases hgt : 0 < cmpB s' d' ms md
      · have HMX := Lib.hid (show maxB (ms, md) (s', d') = (s', d') from if_pos hgt)
        go_wp2
        go_region_held3 (fun W' => Below w.heap.size w W' ∧ Vote.Row W' (w.heap.size + 1) 25 #[.int .i64 ms, .int .i64 md] ∧ Vote.Row W' w.heap.size 25 #[.int .i64 0, .int .i64 0] ∧ W'.cell? ⟨w.heap.size + 1, 0, none⟩ = some (.int .i64 ms) ∧ W'.cell? ⟨w.heap.size + 1, 1, none⟩ = some (.int .i64 md) ∧ W'.cell? ⟨b, off + k * 2, none⟩ = some (.int .i64 s') ∧ W'.cell? ⟨b, off + k * 2 + 1, none⟩ = some (.int .i64 d'))
          (first | exact ⟨hB.drew, hM, hR, m0, m1, x0, x1⟩ | exact held_m (by assumption) (by assumption))
          (first | (go_at_call 59; refine (f59 s' d' ms md _ ⟨HBX.out.1, HBX.out.2.1⟩ ⟨HBM.out.1, HBM.out.2.1⟩ HBX.out.2.2 HBM.out.2.2).mono ?_; rintro e w' ⟨rfl, hb'⟩))
        rename_i hH
        obtain ⟨hB', hM', hR', y0, y1, z0, z1⟩ := hH
        have hS' : w.heap.size + 1 < w'.heap.size := hM'.lt
        have fr := hM'.frozen
        go_wp2
        go_roundw
        case rel => exact ⟨k + 1, s', d', by omega, by omega, by go_num, by rw [HN1.out, HMX.out], by rw [← HMX.out]; exact HOK.out, (hM'.set 0 _).set 1 _, (hR'.far (p := ⟨w.heap.size + 1, 0, none⟩) (by simp) _).far (p := ⟨w.heap.size + 1, 1, none⟩) (by simp) _, by go_grown⟩
        case measure => simp [intOf]; omega
      · have HMX := Lib.hid (show maxB (ms, md) (s', d') = (ms, md) from if_neg hgt)
        go_wp2
        go_region_held3 (fun W' => Below w.heap.size w W' ∧ Vote.Row W' (w.heap.size + 1) 25 #[.int .i64 ms, .int .i64 md] ∧ Vote.Row W' w.heap.size 25 #[.int .i64 0, .int .i64 0] ∧ W'.cell? ⟨w.heap.size + 1, 0, none⟩ = some (.int .i64 ms) ∧ W'.cell? ⟨w.heap.size + 1, 1, none⟩ = some (.int .i64 md) ∧ W'.cell? ⟨b, off + k * 2, none⟩ = some (.int .i64 s') ∧ W'.cell? ⟨b, off + k * 2 + 1, none⟩ = some (.int .i64 d'))
          (first | exact ⟨hB.drew, hM, hR, m0, m1, x0, x1⟩ | exact held_m (by assumption) (by assumption))
          (first | (go_at_call 59; refine (f59 s' d' ms md _ ⟨HBX.out.1, HBX.out.2.1⟩ ⟨HBM.out.1, HBM.out.2.1⟩ HBX.out.2.2 HBM.out.2.2).mono ?_; rintro e w' ⟨rfl, hb'⟩))
        rename_i hH
        obtain ⟨hB', hM', hR', y0, y1, z0, z1⟩ := hH
        have hS' : w.heap.size + 1 < w'.heap.size := hM'.lt
        go_wp2
        go_roundw
        case rel => exact ⟨k + 1, ms, md, by omega, by omega, by go_num, by rw [HN1.out, HMX.out], by rw [← HMX.out]; exact HOK.out, hM', hR', hB'⟩
        case measure => simp [intOf]; omega
    · obtain rfl : k = n := by omega
      have HF := Lib.hid (show mxL l = (ms, md) from by
        have := HE.out
        rw [← HN.out, List.take_length] at this
        exact this.symm)
      have m0 : wr.cell? ⟨w.heap.size + 1, 0, none⟩ = some (.int .i64 ms) := by rw [hM.cell]; rfl
      have m1 : wr.cell? ⟨w.heap.size + 1, 1, none⟩ = some (.int .i64 md) := by rw [hM.cell]; rfl
      have r0 : wr.cell? ⟨w.heap.size, 0, none⟩ = some (.int .i64 0) := by rw [hR.cell]; rfl
      have r1 : wr.cell? ⟨w.heap.size, 1, none⟩ = some (.int .i64 0) := by rw [hR.cell]; rfl
      have fr := hR.frozen
      clear hM hR
      go_wp2
      refine bodyPost_ret (v := bv ms md) (by simp [results, Try.results58, go_sem, r0, r1]) rfl ⟨ret_p HF.out, ?_⟩
      go_grown

def wrs (l : List (Int × Int)) : Int × Int := if l.length = 0 ∨ l.all okP = false then (0, 0) else mxL l

set_option maxHeartbeats 1000000 in
theorem worst_any (A : Option Addr) (n cap : Nat) (l : List (Int × Int)) (w : World) (hn : l.length = n) (hc : Brs w A l) (hbig : n ≤ 1000000) :
    Calls Try.prog 24 #[.slice A n cap] w fun e w' => e = .returned (bv (wrs l).1 (wrs l).2) ∧ Below w.heap.size w w' := by
  have HN := Lib.hid hn
  have HC := Lib.hid hc
  clear hn hc
  by_cases h0 : n = 0
  · subst h0
    have HF := Lib.hid (show wrs l = (0, 0) from if_pos (.inl HN.out))
    go_enter Try.func24, Try.ntmps24
    go_wp2
    refine bodyPost_ret (v := bv 0 0) (by simp [results, Try.results24, go_sem]) rfl ⟨ret_p HF.out, ?_⟩
    go_grown
  have hnb : ((n : Int) == 0) = false := by rw [beq_eq_false_iff_ne]; omega
  have h0' : 0 < n := by omega
  cases hall : l.all okP
  · have HF := Lib.hid (show wrs l = (0, 0) from if_pos (.inr hall))
    have HA := Lib.hid hall
    clear hall h0
    go_enter Try.func24, Try.ntmps24
    go_wp2_with (fail)
    refine (has_any _ _ _ l _ HN.out (HC.out.keep (by go_grown)) hbig).mono ?_
    rw [HA.out]
    rintro e w1 ⟨rfl, hb⟩
    have hB : Below w.heap.size w w1 := over hb (by go_grown)
    obtain ⟨m0, m1⟩ := keep2 hb w.heap.size (.int .i64 0) (.int .i64 0) (by simp [go_sem])
    have fm := keepf hb w.heap.size (by first | (simp; done) | (simp; omega)) (fun j => by simp [go_sem])
    clear hb
    go_wp2
    refine bodyPost_ret (v := bv 0 0) (by simp [results, Try.results24, go_sem, m0, m1]) rfl ⟨ret_p HF.out, ?_⟩
    go_grown
  · have HF := Lib.hid (show wrs l = mxL l from if_neg (by rw [HN.out, hall]; simp; omega))
    have HA := Lib.hid hall
    clear hall h0
    go_enter Try.func24, Try.ntmps24
    go_wp2_with (fail)
    refine (has_any _ _ _ l _ HN.out (HC.out.keep (by go_grown)) hbig).mono ?_
    rw [HA.out]
    rintro e w1 ⟨rfl, hb⟩
    have hB : Below w.heap.size w w1 := over hb (by go_grown)
    obtain ⟨m0, m1⟩ := keep2 hb w.heap.size (.int .i64 0) (.int .i64 0) (by simp [go_sem])
    have fm := keepf hb w.heap.size (by first | (simp; done) | (simp; omega)) (fun j => by simp [go_sem])
    have z0 : w.heap.size < w1.heap.size := by (have := hb.size; simp at this; omega)
    clear hb
    go_wp2_with (fail)
    refine (max_any _ _ _ l _ HN.out (HC.out.keep hB) hbig h0' HA.out).mono ?_
    rintro e w2 ⟨rfl, hb2⟩
    have hB2 : Below w.heap.size w w2 := over hb2 hB
    obtain ⟨n0, n1⟩ := keep2 hb2 w.heap.size (.int .i64 0) (.int .i64 0) ⟨m0, m1⟩
    have fn := keepf hb2 w.heap.size z0 fm
    clear hb2 m0 m1 fm
    go_wp2
    refine bodyPost_ret (v := bv (mxL l).1 (mxL l).2) (by simp [results, Try.results24, go_sem, n0, n1]) rfl ⟨ret_p HF.out, ?_⟩
    go_grown
end Go.Proofs.Ytblegaclcpoonaa.Br
