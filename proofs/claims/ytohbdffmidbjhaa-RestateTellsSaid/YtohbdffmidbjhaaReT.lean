/- Restatements: what seats owe back. -/
import Derived.Test.YtohbdffmidbjhaaReS
namespace Go.Proofs.Ytohbdffmidbjhaa.Re
open Go.ChangeShapes Go.WideShapes Go.ChangeAt Go.RowKit Go.Maps Go.Proofs.Ytohbdffmidbjhaa.Cell
set_option linter.unusedVariables false
set_option linter.unusedSimpArgs false
/-- a payment -/
structure Py where
  is : Int
  se : Int
  dy : Int
  du : Int
  pa : Int
  pe : Int
/-- payments in memory -/
def Pys (w : World) (A : Option Addr) (l : List Py) : Prop := 0 < l.length → ∃ b off, A = some ⟨b, off, none⟩ ∧ ∀ (j : Nat) x, l[j]? = some x →
  w.cell? ⟨b, off + j * 6, none⟩ = some (.int .i64 x.is) ∧ w.cell? ⟨b, off + j * 6 + 1, none⟩ = some (.int .i64 x.se) ∧ w.cell? ⟨b, off + j * 6 + 2, none⟩ = some (.int .i64 x.dy) ∧
  w.cell? ⟨b, off + j * 6 + 3, none⟩ = some (.int .i64 x.du) ∧ w.cell? ⟨b, off + j * 6 + 4, none⟩ = some (.int .i64 x.pa) ∧ w.cell? ⟨b, off + j * 6 + 5, none⟩ = some (.int .i64 x.pe)
theorem Pys.keep {w w1 : World} {A : Option Addr} {l : List Py} (h : Pys w A l) (hb : Below w.heap.size w w1) : Pys w1 A l := fun h0 => by
  obtain ⟨b, off, e, hc⟩ := h h0
  refine ⟨b, off, e, fun j x hx => ?_⟩
  obtain ⟨a0, a1, a2, a3, a4, a5⟩ := hc j x hx
  exact ⟨keep0 hb _ _ _ a0, keep0 hb _ _ _ a1, keep0 hb _ _ _ a2, keep0 hb _ _ _ a3, keep0 hb _ _ _ a4, keep0 hb _ _ _ a5⟩
/-- bools in memory -/
def Bos (w : World) (A : Option Addr) (l : List Bool) : Prop := 0 < l.length → ∃ b off, A = some ⟨b, off, none⟩ ∧ ∀ (j : Nat) x, l[j]? = some x → w.cell? ⟨b, off + j, none⟩ = some (.bool x)
theorem Bos.keep {w w1 : World} {A : Option Addr} {l : List Bool} (h : Bos w A l) (hb : Below w.heap.size w w1) : Bos w1 A l := fun h0 => by
  obtain ⟨b, off, e, hc⟩ := h h0
  exact ⟨b, off, e, fun j x hx => keep0 hb _ _ _ (hc j x hx)⟩
/-- a payment and what was due are right -/
def pyOk (x : Py) (d : Int) : Bool := decide (0 ≤ x.se) && decide (mon x.pa) && decide (mon d)
def pysOk : List Py → List Int → Bool
  | x :: l, d :: ds => pyOk x d && pysOk l ds
  | _, _ => true
def bkOk (l : List Py) (due : List Int) (good : List Bool) : Bool := decide (due.length = l.length) && decide (good.length = l.length) && pysOk l due
theorem pysOk_at : ∀ {l : List Py} {ds : List Int} {k : Nat} {x : Py} {d : Int}, pysOk l ds = true → l[k]? = some x → ds[k]? = some d → pyOk x d = true
  | [], ds, k, x, d, _, hx, _ => by simp at hx
  | y :: l, [], k, x, d, _, _, hd => by simp at hd
  | y :: l, e :: ds, 0, x, d, h, hx, hd => by
    simp at hx hd
    subst hx hd
    unfold pysOk at h
    simp only [Bool.and_eq_true] at h
    exact h.1
  | y :: l, e :: ds, k + 1, x, d, h, hx, hd => by
    unfold pysOk at h
    simp only [Bool.and_eq_true] at h
    exact pysOk_at (l := l) (ds := ds) (k := k) h.2 (by simpa using hx) (by simpa using hd)
theorem MI.more {w : World} {b n n' : Nat} {f : Int → Option Int} (h : MI w b n f) (hn : n ≤ n') : MI w b n' f := by
  obtain ⟨D, h1, h2⟩ := h
  exact ⟨D, h1.mono hn, h2⟩
theorem cell_same {w w' : World} {q i : Nat} {v : Value} (h : w'.heap[q]? = w.heap[q]?) (hv : w.cell? ⟨q, i, none⟩ = some v) : w'.cell? ⟨q, i, none⟩ = some v := by
  rw [← hv]
  simp only [World.cell?, h]
/-- what is kept: what is owed back by seats, what is owed to them, whether a sum is too much -/
structure Sb where
  f : Int → Option Int
  h : Int → Option Int
  full : Bool
def stB (s : Sb) (x : Py) (d : Int) (g : Bool) : Sb :=
  if d < x.pa ∧ g = false then ⟨addA s.f x.se (x.pa - d), s.h, s.full || decide (1000000000000000 < sumA s.f x.se (x.pa - d))⟩
  else if x.pa < d then ⟨s.f, addA s.h x.se (d - x.pa), s.full || decide (1000000000000000 < sumA s.h x.se (d - x.pa))⟩ else s
def rB (l : List Py) (due : List Int) (good : List Bool) : Nat → Sb
  | 0 => ⟨fun _ => none, fun _ => none, false⟩
  | k + 1 => match l[k]?, due[k]?, good[k]? with
    | some x, some d, some g => stB (rB l due good k) x d g
    | _, _, _ => rB l due good k
theorem rB_next {l : List Py} {due : List Int} {good : List Bool} {k : Nat} {x : Py} {d : Int} {g : Bool} (hx : l[k]? = some x) (hd : due[k]? = some d) (hg : good[k]? = some g) : rB l due good (k + 1) = stB (rB l due good k) x d g := by
  rw [rB, hx, hd, hg]
/-- a list of shares that holds the entries of a map -/
def Ents (w w' : World) (v : Value) (n : Nat) (f : Int → Option Int) : Prop := ∃ ks : List Int, ks.Pairwise (· < ·) ∧ (∀ x, x ∈ ks ↔ wfI x ∧ (f x).isSome = true) ∧ ks.length ≤ n ∧ w'.ownsRow w.heap.size 48 2 v ks.length ((ent f ks).flatMap p2)
abbrev nilV : Value := .slice none 0 0
/-- how Back ends -/
def BackP (w : World) (l : List Py) (due : List Int) (good : List Bool) (e : Ending) (w' : World) : Prop := Below w.heap.size w w' ∧
  ((bkOk l due good = false ∧ e = .returned (.tuple #[nilV, nilV, .int .i64 1])) ∨
   (bkOk l due good = true ∧ (rB l due good l.length).full = true ∧ e = .returned (.tuple #[nilV, nilV, .int .i64 6])) ∨
   (bkOk l due good = true ∧ (rB l due good l.length).full = false ∧ ∃ v1 v2, e = .returned (.tuple #[v1, v2, .int .i64 0]) ∧ Ents w w' v1 l.length (rB l due good l.length).f ∧ Ents w w' v2 l.length (rB l due good l.length).h))
theorem BackP.bad {w w' : World} {l : List Py} {due : List Int} {good : List Bool} (hB : Below w.heap.size w w') (h : bkOk l due good = false) : BackP w l due good (.returned (.tuple #[nilV, nilV, .int .i64 1])) w' := ⟨hB, .inl ⟨h, rfl⟩⟩
set_option maxRecDepth 100000 in
set_option maxHeartbeats 40000000 in
theorem back_any {w : World} {A A1 A2 : Option Addr} {n n1 n2 c c1 c2 : Nat} {l : List Py} {due : List Int} {good : List Bool} (hn : l.length = n) (hn1 : due.length = n1) (hn2 : good.length = n2) (hc : Pys w A l) (hd : Ints w A1 due) (hg : Bos w A2 good) (hbig : n ≤ 1000000) (hbig1 : n1 ≤ 9223372036854775807) (hbig2 : n2 ≤ 9223372036854775807) (hwf : ∀ x ∈ l, wfI x.se) :
    Calls Try.prog 10 #[.slice A n c, .slice A1 n1 c1, .slice A2 n2 c2] w (BackP w l due good) := by
  by_cases h1 : n1 = n
  case neg =>
    have hb : bkOk l due good = false := by unfold bkOk; rw [hn, hn1, decide_eq_false h1]; rfl
    have HBB := Lib.hid hb
    have i1 : ¬((n1 : Int) = (n : Int)) := by omega
    clear hn hn1 hn2 hc hd hg hwf hb
    go_enter Try.func10, Try.ntmps10
    go_wp2
    exact bodyPost_ret (v := .tuple #[nilV, nilV, .int .i64 1]) (by simp [results, Try.results10, go_sem]) rfl (BackP.bad (by first | exact Below.refl _ _ | go_grown) HBB.out)
  subst h1
  by_cases h2 : n2 = n1
  case neg =>
    have hb : bkOk l due good = false := by unfold bkOk; rw [hn, hn2, decide_eq_false h2, Bool.and_false]; rfl
    have HBB := Lib.hid hb
    have i1 : ¬((n2 : Int) = (n1 : Int)) := by omega
    clear hn hn1 hn2 hc hd hg hwf hb
    go_enter Try.func10, Try.ntmps10
    go_wp2
    exact bodyPost_ret (v := .tuple #[nilV, nilV, .int .i64 1]) (by simp [results, Try.results10, go_sem]) rfl (BackP.bad (by first | exact Below.refl _ _ | go_grown) HBB.out)
  subst h2
  have hbk : bkOk l due good = pysOk l due := by unfold bkOk; rw [hn, hn1, hn2]; simp
  obtain ⟨R, hR⟩ : ∃ R, pysOk l due = R := ⟨_, rfl⟩
  rw [hR] at hbk
  have HBK := Lib.hid hbk
  have HR := Lib.hid (show pysOk (l.drop 0) (due.drop 0) = R from hR)
  have HN := Lib.hid hn
  have HN1 := Lib.hid hn1
  have HN2 := Lib.hid hn2
  have HC := Lib.hid hc
  have HD := Lib.hid hd
  have HG := Lib.hid hg
  have HWF := Lib.hid hwf
  have HRI := Lib.hid hR
  clear hn hn1 hn2 hc hd hg hwf hbk hR
  go_enter Try.func10, Try.ntmps10
  go_wp2_with (fail)
  go_loopw [31] (fun iv wr => ∃ (k : Nat), k ≤ n2 ∧ iv = .int .i64 k ∧ Hid (pysOk (l.drop k) (due.drop k) = R) ∧ Hid (Below w.heap.size w wr)) (fun iv _ => n2 - (intOf iv).toNat)
  case atStart => exact ⟨0, Nat.zero_le _, rfl, HR, Lib.hid (Below.refl _ _)⟩
  case round =>
    obtain ⟨k, hk, rfl, HA, HB⟩ := hrel
    have k0 : (0 : Int) ≤ (k : Int) := by omega
    by_cases hlt : k < n2
    · have hltI : (k : Int) < (n2 : Int) := by omega
      obtain ⟨⟨xi, xs, xd, xu, xp, xe⟩, hx⟩ := at_ l k (by rw [HN.out]; exact hlt)
      obtain ⟨d, hd⟩ := at_ due k (by rw [HN1.out]; exact hlt)
      obtain ⟨b, off, rfl, hcell⟩ := (HC.out.keep HB.out) (by rw [HN.out]; omega)
      obtain ⟨b1, off1, rfl, hcell1⟩ := (HD.out.keep HB.out) (by rw [HN1.out]; omega)
      obtain ⟨m0, m1, m2, m3, m4, m5⟩ := hcell k _ hx
      dsimp only at m0 m1 m2 m3 m4 m5
      have d0 := hcell1 k d hd
      have hx0 : Below wr.heap.size wr (wr.alloc (.cells #[.int .i64 xi, .int .i64 xs, .int .i64 xd, .int .i64 xu, .int .i64 xp, .int .i64 xe] 44)) := Gen.b_alloc (Below.refl _ _)
      have d1 := keep0 hx0 _ _ _ d0
      have HB2 := Lib.hid (Gen.over hx0 HB.out)
      have hA := HA.out
      rw [drop_at hx, drop_at hd, pysOk] at hA
      have hA2 := hA
      unfold pyOk at hA
      dsimp only at hA
      clear hcell hcell1 hx hd hx0 HA hlt
      by_cases hs : 0 ≤ xs
      case neg =>
        rw [decide_eq_false hs] at hA
        obtain rfl : R = false := by rw [← hA]; rfl
        have hs2 : xs < 0 := by omega
        clear hA hA2
        go_wp2
        exact bodyPost_ret (v := .tuple #[nilV, nilV, .int .i64 1]) (by simp [results, Try.results10, go_sem]) rfl (BackP.bad HB2.out HBK.out)
      have hs2 : ¬ (xs < 0) := by omega
      rw [decide_eq_true hs, Bool.true_and] at hA
      have HA1 := Lib.hid hA
      clear hA hA2
      go_wp2_with (fail)
      go_must (refine (money_any _ _).mono ?_)
      rintro e w1 ⟨rfl, rfl⟩
      have hA := HA1.out
      cases hp : decide (mon xp)
      · rw [hp] at hA
        obtain rfl : R = false := by rw [← hA]; rfl
        clear hA HA1 hp
        go_wp2
        exact bodyPost_ret (v := .tuple #[nilV, nilV, .int .i64 1]) (by simp [results, Try.results10, go_sem]) rfl (BackP.bad HB2.out HBK.out)
      · rw [hp, Bool.true_and] at hA
        have HA2 := Lib.hid hA
        clear hA HA1 hp
        go_wp2_with (fail)
        go_must (refine (money_any _ _).mono ?_)
        rintro e w1 ⟨rfl, rfl⟩
        have hA := HA2.out
        cases hq : decide (mon d)
        · rw [hq] at hA
          obtain rfl : R = false := by rw [← hA]; rfl
          clear hA HA2 hq
          go_wp2
          exact bodyPost_ret (v := .tuple #[nilV, nilV, .int .i64 1]) (by simp [results, Try.results10, go_sem]) rfl (BackP.bad HB2.out HBK.out)
        · rw [hq, Bool.true_and] at hA
          have HA3 := Lib.hid hA
          clear hA HA2 hq
          go_wp2
          go_roundw
          case rel => exact ⟨k + 1, by omega, by go_num, HA3, HB2⟩
          case measure => simp [intOf]; omega
    · obtain rfl : n2 = k := by omega
      have hA := HA.out
      rw [List.drop_of_length_le (by rw [HN.out]; exact Nat.le_refl _), pysOk] at hA
      case _ => 
        subst hA
        have hmm := @run_makeMap Try.prog
        have HPB := Lib.hid (HB.out)
        clear hlt HA HR
        go_wp2
        clear hmm
        obtain ⟨u, hu⟩ : ∃ u, wr.heap.size = u := ⟨_, rfl⟩
        have HST := Lib.hid (show MI (((wr.alloc (.map #[] 0)).alloc (.map #[] 0)).alloc (.cells #[.bool false] 4)) u 0 (fun _ => none) ∧ MI (((wr.alloc (.map #[] 0)).alloc (.map #[] 0)).alloc (.cells #[.bool false] 4)) (u + 1) 0 (fun _ => none) ∧ Row (((wr.alloc (.map #[] 0)).alloc (.map #[] 0)).alloc (.cells #[.bool false] 4)) (u + 2) 4 #[.bool false] ∧ Below u wr (((wr.alloc (.map #[] 0)).alloc (.map #[] 0)).alloc (.cells #[.bool false] 4)) from by
          have h2 := MI.made (wr.alloc (.map #[] 0))
          rw [World.size_alloc] at h2
          rw [← hu]
          exact ⟨(MI.made wr).keep (Gen.b_alloc (Gen.b_alloc (Below.refl _ _))), h2.keep (Gen.b_alloc (Below.refl _ _)), Gen.rowAt _ _ _ (by simp), Gen.b_alloc (Gen.b_alloc (Gen.b_alloc (Below.refl _ _)))⟩)
        have HBU := Lib.hid (show Below w.heap.size w wr ∧ w.heap.size ≤ u from ⟨HB.out, by rw [← hu]; exact HB.out.size⟩)
        have HC1 := Lib.hid (HC.out.keep HB.out)
        have HD1 := Lib.hid (HD.out.keep HB.out)
        have HG1 := Lib.hid (HG.out.keep HB.out)
        try simp only [hu]
        go_loopw [59] (fun iv wq => ∃ (k : Nat), k ≤ n2 ∧ iv = .int .i64 k ∧ Hid (MI wq u k (rB l due good k).f) ∧ Hid (MI wq (u + 1) k (rB l due good k).h) ∧ Hid (Row wq (u + 2) 4 #[.bool (rB l due good k).full]) ∧ Hid (okM (rB l due good k).f) ∧ Hid (okM (rB l due good k).h) ∧ Hid (Below u wr wq)) (fun iv _ => n2 - (intOf iv).toNat)
        case atStart => exact ⟨0, Nat.zero_le _, rfl, Lib.hid HST.out.1, Lib.hid HST.out.2.1, Lib.hid HST.out.2.2.1, Lib.hid (fun y v h => by cases h), Lib.hid (fun y v h => by cases h), Lib.hid HST.out.2.2.2⟩
        case round =>
          clear HST
          obtain ⟨k, hk, rfl, HM1, HM2, HFL, HOK1, HOK2, HBQ⟩ := hrel
          by_cases hlt : k < n2
          · obtain ⟨⟨xi, xs, xd, xu, xp, xe⟩, hx⟩ := at_ l k (by rw [HN.out]; exact hlt)
            obtain ⟨d, hd⟩ := at_ due k (by rw [HN1.out]; exact hlt)
            obtain ⟨z, hz⟩ := at_ good k (by rw [HN2.out]; exact hlt)
            obtain ⟨b, off, rfl, hcell⟩ := HC1.out (by rw [HN.out]; omega)
            obtain ⟨b1, off1, rfl, hcell1⟩ := HD1.out (by rw [HN1.out]; omega)
            obtain ⟨b2, off2, rfl, hcell2⟩ := HG1.out (by rw [HN2.out]; omega)
            obtain ⟨m0, m1, m2, m3, m4, m5⟩ := hcell k _ hx
            dsimp only at m0 m1 m2 m3 m4 m5
            have d0 := hcell1 k d hd
            have z0 := hcell2 k z hz
            have hb1 : b1 < u := by rw [← hu]; exact World.block_lt_of_cell? _ _ d0
            have hBq := HBQ.out
            rw [← hu] at hBq
            have m0 := keep0 hBq _ _ _ m0
            have m1 := keep0 hBq _ _ _ m1
            have m2 := keep0 hBq _ _ _ m2
            have m3 := keep0 hBq _ _ _ m3
            have m4 := keep0 hBq _ _ _ m4
            have m5 := keep0 hBq _ _ _ m5
            have hok := pysOk_at HRI.out hx hd
            unfold pyOk at hok
            simp only [Bool.and_eq_true, decide_eq_true_eq] at hok
            obtain ⟨⟨o1, o2, o3⟩, o4, o5⟩ := hok
            try dsimp only at o1 o2 o3
            have HWS := Lib.hid (HWF.out _ (mem_of_at hx))
            have HNX := Lib.hid (rB_next hx hd hz)
            have k0 : (0 : Int) ≤ (k : Int) := by omega
            have hltI : (k : Int) < (n2 : Int) := by omega
            have hfl := HFL.out.lt
            obtain ⟨W0, hW0⟩ : ∃ W0, (wr.alloc (.cells #[.int .i64 xi, .int .i64 xs, .int .i64 xd, .int .i64 xu, .int .i64 xp, .int .i64 xe] 44)) = W0 := ⟨_, rfl⟩
            have hx0 : Below wr.heap.size wr W0 := by rw [← hW0]; exact Gen.b_alloc (Below.refl _ _)
            have hrw : Row W0 wr.heap.size 44 #[.int .i64 xi, .int .i64 xs, .int .i64 xd, .int .i64 xu, .int .i64 xp, .int .i64 xe] := by rw [← hW0]; exact Gen.rowAt _ _ _ rfl
            have e1 : W0.cell? ⟨wr.heap.size, 1, none⟩ = some (.int .i64 xs) := hrw.cell 1
            have e4 : W0.cell? ⟨wr.heap.size, 4, none⟩ = some (.int .i64 xp) := hrw.cell 4
            have ed := keep0 hx0 _ _ _ (keep0 hBq _ _ _ d0)
            have ez := keep0 hx0 _ _ _ (keep0 hBq _ _ _ z0)
            have HSW := Lib.hid (show wr.heap.size < W0.heap.size from hrw.lt)
            have HSU2 := Lib.hid (show u + 2 < wr.heap.size from hfl)
            have HSU := Lib.hid (show u ≤ W0.heap.size by have := hrw.lt; omega)
            have HBQ := Lib.hid (HBQ.out.trans (hx0.mono (show u ≤ wr.heap.size by omega)))
            have HM1 := Lib.hid (HM1.out.keep hx0)
            have HM2 := Lib.hid (HM2.out.keep hx0)
            have HFL := Lib.hid (HFL.out.keep hx0)
            clear hcell hcell1 hcell2 hx hd hz d0 z0 hBq hrw hx0 hfl hu
            by_cases hdp : d < xp
            · have hq1 : ¬ (xp < d) := by omega
              have hq2 : decide (xp < d) = false := decide_eq_false hq1
              have hq3 : decide (d < xp) = true := decide_eq_true hdp
              cases z
              · go_wp2
                try rw [hW0]
                clear hW0 m0 m1 m2 m3 m4 m5
                go_quiet (fail)
                all_goals
                  have HADD := Lib.hid (fun (W' : World) (hb : Below W0.heap.size W0 W') => add_any (s := xs) (x := xp - d) (HM1.out.keep hb) (show Row W' (u + 1 + 1) 4 _ from HFL.out.keep hb) (by omega) (HOK1.out) HWS.out (by omega) (by omega))
                  have hwr : IntKind.i64.wrap (xp - d) = xp - d := IntWalk.i64_in _ (by omega)
                  have HAM := Lib.hid (HOK1.out.add (s := xs) (x := xp - d) (by omega))
                  have HEQ := Lib.hid (show rB l due good (k + 1) = ⟨addA (rB l due good k).f xs (xp - d), (rB l due good k).h, (rB l due good k).full || decide ((1000000000000000 : Int) < sumA (rB l due good k).f xs (xp - d))⟩ by rw [HNX.out]; unfold stB; rw [if_pos ⟨by first | omega | (dsimp only; omega), rfl⟩])
                  go_wp2
                  refine wp_region_held_drew (S := (fun W' : World => W'.cell? ⟨wr.heap.size, 1, none⟩ = some (.int .i64 xs) ∧ W'.cell? ⟨wr.heap.size, 4, none⟩ = some (.int .i64 xp) ∧ W'.cell? ⟨b1, off1 + k, none⟩ = some (.int .i64 d))) (by kernel_rfl) (⟨e1, e4, ed⟩) (fun hHeld => ?_)
                  refine wpAnyH_take (i := 0) (v := .func (Fn.func 23) #[] #[.pointer (some ⟨u + 1 + 1, 0, none⟩)]) rfl (by kernel_rfl) (by kernel_rfl) (by kernel_rfl) (fun _ _ _ h => h) (Or.inl ⟨by rfl, (by intro w hSw; (try dsimp only at hSw); go_simp <;> with_reducible rfl)⟩) (by assumption) ?_
                  (try simp only [Act.put, List.getElem_toArray, List.getElem_cons_succ, List.getElem_cons_zero, List.setIfInBounds_toArray, List.set_cons_zero, List.set_cons_succ])
                  refine wpAnyH_take (i := 1) (v := .map (some (u))) rfl (by kernel_rfl) (by kernel_rfl) (by kernel_rfl) (fun _ _ _ h => h) (Or.inl ⟨by rfl, (by intro w hSw; (try dsimp only at hSw); go_simp <;> with_reducible rfl)⟩) (by assumption) ?_
                  (try simp only [Act.put, List.getElem_toArray, List.getElem_cons_succ, List.getElem_cons_zero, List.setIfInBounds_toArray, List.set_cons_zero, List.set_cons_succ])
                  refine wpAnyH_take (i := 2) (v := .pointer (some ⟨wr.heap.size, 1, none⟩)) rfl (by kernel_rfl) (by kernel_rfl) (by kernel_rfl) (fun _ _ _ h => h) (Or.inl ⟨by rfl, (by intro w hSw; (try dsimp only at hSw); go_simp <;> with_reducible rfl)⟩) (by assumption) ?_
                  (try simp only [Act.put, List.getElem_toArray, List.getElem_cons_succ, List.getElem_cons_zero, List.setIfInBounds_toArray, List.set_cons_zero, List.set_cons_succ])
                  refine wpAnyH_take (i := 3) (v := .int .i64 xs) rfl (by kernel_rfl) (by kernel_rfl) (by kernel_rfl) (fun _ _ _ h => h) (Or.inl ⟨by rfl, (by intro w hSw; (try dsimp only at hSw); go_simp <;> with_reducible rfl)⟩) (by assumption) ?_
                  (try simp only [Act.put, List.getElem_toArray, List.getElem_cons_succ, List.getElem_cons_zero, List.setIfInBounds_toArray, List.set_cons_zero, List.set_cons_succ])
                  refine wpAnyH_take (i := 4) (v := .pointer (some ⟨wr.heap.size, 4, none⟩)) rfl (by kernel_rfl) (by kernel_rfl) (by kernel_rfl) (fun _ _ _ h => h) (Or.inl ⟨by rfl, (by intro w hSw; (try dsimp only at hSw); go_simp <;> with_reducible rfl)⟩) (by assumption) ?_
                  (try simp only [Act.put, List.getElem_toArray, List.getElem_cons_succ, List.getElem_cons_zero, List.setIfInBounds_toArray, List.set_cons_zero, List.set_cons_succ])
                  refine wpAnyH_take (i := 5) (v := .int .i64 xp) rfl (by kernel_rfl) (by kernel_rfl) (by kernel_rfl) (fun _ _ _ h => h) (Or.inl ⟨by rfl, (by intro w hSw; (try dsimp only at hSw); go_simp <;> with_reducible rfl)⟩) (by assumption) ?_
                  (try simp only [Act.put, List.getElem_toArray, List.getElem_cons_succ, List.getElem_cons_zero, List.setIfInBounds_toArray, List.set_cons_zero, List.set_cons_succ])
                  refine wpAnyH_take (i := 6) (v := .slice (some ⟨b1, off1, none⟩) n2 c1) rfl (by kernel_rfl) (by kernel_rfl) (by kernel_rfl) (fun _ _ _ h => h) (Or.inl ⟨by rfl, (by intro w hSw; (try dsimp only at hSw); go_simp <;> with_reducible rfl)⟩) (by assumption) ?_
                  (try simp only [Act.put, List.getElem_toArray, List.getElem_cons_succ, List.getElem_cons_zero, List.setIfInBounds_toArray, List.set_cons_zero, List.set_cons_succ])
                  refine wpAnyH_take (i := 7) (v := .int .i64 (k : Int)) rfl (by kernel_rfl) (by kernel_rfl) (by kernel_rfl) (fun _ _ _ h => h) (Or.inl ⟨by rfl, (by intro w hSw; (try dsimp only at hSw); go_simp <;> with_reducible rfl)⟩) (by assumption) ?_
                  (try simp only [Act.put, List.getElem_toArray, List.getElem_cons_succ, List.getElem_cons_zero, List.setIfInBounds_toArray, List.set_cons_zero, List.set_cons_succ])
                  refine wpAnyH_take (i := 8) (v := .pointer (some ⟨b1, off1 + k, none⟩)) rfl (by kernel_rfl) (by kernel_rfl) (by kernel_rfl) (fun _ _ _ h => h) (Or.inl ⟨by rfl, (by intro w hSw; (try dsimp only at hSw); go_simp <;> with_reducible rfl)⟩) (by assumption) ?_
                  (try simp only [Act.put, List.getElem_toArray, List.getElem_cons_succ, List.getElem_cons_zero, List.setIfInBounds_toArray, List.set_cons_zero, List.set_cons_succ])
                  refine wpAnyH_take (i := 9) (v := .int .i64 d) rfl (by kernel_rfl) (by kernel_rfl) (by kernel_rfl) (fun _ _ _ h => h) (Or.inl ⟨by rfl, (by intro w hSw; (try dsimp only at hSw); go_simp <;> with_reducible rfl)⟩) (by assumption) ?_
                  (try simp only [Act.put, List.getElem_toArray, List.getElem_cons_succ, List.getElem_cons_zero, List.setIfInBounds_toArray, List.set_cons_zero, List.set_cons_succ])
                  refine wpAnyH_take (i := 10) (v := .int .i64 (xp - d)) rfl (by kernel_rfl) (by kernel_rfl) (by kernel_rfl) (fun _ _ _ h => h) (Or.inl ⟨by rfl, (by intro w hSw; (try dsimp only at hSw); go_simp <;> first | with_reducible rfl | rw [hwr])⟩) (by assumption) ?_
                  (try simp only [Act.put, List.getElem_toArray, List.getElem_cons_succ, List.getElem_cons_zero, List.setIfInBounds_toArray, List.set_cons_zero, List.set_cons_succ])
                  refine wpAnyH_ready (rs := [11]) (by kernel_rfl) (by simp) ?_
                  refine AllReadyH.cons rfl (fun K hK => ?_) AllReadyH.nil
                  rw [if_pos (by rfl)]
                  (try simp only [Act.put, List.getElem_toArray, List.getElem_cons_succ, List.getElem_cons_zero, List.setIfInBounds_toArray, List.set_cons_zero, List.set_cons_succ])
                  go_simp
                  go_at_call 23
                  refine (HADD.out _ (by first | exact Gen.dN (Gen.dN (Below.refl _ _) _) 1 | exact (Gen.dN (Below.refl _ _) _).drew | exact Below.refl _ _ | exact (Below.refl _ _).drew | exact (Below.refl _ _).drew.drew | exact (Below.refl _ _).drew.drew.drew | exact Gen.dN (Below.refl _ _) _ | exact Gen.dN (Gen.dN (Below.refl _ _) 1) _ | exact Gen.dN (Gen.dN (Gen.dN (Below.refl _ _) 1) 1) _)).mono ?_
                  rintro e' w3 ⟨rfl, a2, a3, a4, a5, a6⟩
                  refine hK.out _ _ (⟨cell_same (a4 _ (show wr.heap.size < W0.heap.size from HSW.out) (by have := HSU2.out; omega) (by have := HSU2.out; omega)) e1, cell_same (a4 _ (show wr.heap.size < W0.heap.size from HSW.out) (by have := HSU2.out; omega) (by have := HSU2.out; omega)) e4, cell_same (a4 _ (show b1 < W0.heap.size by have := HSW.out; have := HSU2.out; omega) (by omega) (by omega)) ed⟩) (fun hH11 => ?_)
                  clear hK K
                  (try simp only [Act.put, List.getElem_toArray, List.getElem_cons_succ, List.getElem_cons_zero, List.setIfInBounds_toArray, List.set_cons_zero, List.set_cons_succ])
                  refine wpAnyH_done (by kernel_rfl) ?_ _
                  all_goals
                    have HO3 := Lib.hid ((HM2.out.more (Nat.le_succ k)).at (w' := w3) (a4 (u + 1) (by show u + 1 < W0.heap.size; have := HSW.out; have := HSU2.out; omega) (by omega) (by omega)))
                    have HB3 := Lib.hid (HBQ.out.trans (Below.trans (Below.mono (show Below W0.heap.size W0 _ from (by first | exact Gen.dN (Gen.dN (Below.refl _ _) _) 1 | exact (Gen.dN (Below.refl _ _) _).drew | exact Below.refl _ _ | exact (Below.refl _ _).drew | exact (Below.refl _ _).drew.drew | exact (Below.refl _ _).drew.drew.drew | exact Gen.dN (Below.refl _ _) _ | exact Gen.dN (Gen.dN (Below.refl _ _) 1) _ | exact Gen.dN (Gen.dN (Gen.dN (Below.refl _ _) 1) 1) _)) HSU.out) (a5 u (by omega) (by omega))))
                    have H2 := Lib.hid a2
                    have H3 := Lib.hid a3
                    clear a2 a3 a4 a5 a6 e1 e4 ed ez hwr
                    go_wp2
                    go_roundw
                    case rel => exact ⟨k + 1, by omega, by go_num, by rw [HEQ.out]; exact H2, by rw [HEQ.out]; exact HO3, by rw [HEQ.out]; exact H3, by rw [HEQ.out]; exact HAM, by rw [HEQ.out]; exact HOK2, HB3⟩
                    case measure => simp [intOf]; omega
              · go_wp2
                try rw [hW0]
                clear hW0 m0 m1 m2 m3 m4 m5
                go_quiet (fail)
                all_goals
                  go_wp2
                  go_quiet (fail)
                  all_goals
                    have HEQ := Lib.hid (show rB l due good (k + 1) = rB l due good k by rw [HNX.out]; unfold stB; rw [if_neg (by simp; try omega), if_neg (by dsimp only; omega)])
                    go_wp2
                    go_roundw
                    case rel => exact ⟨k + 1, by omega, by go_num, by rw [HEQ.out]; exact Lib.hid ((HM1.out.more (Nat.le_succ k)).keep (by first | exact Gen.dN (Gen.dN (Below.refl _ _) _) 1 | exact (Gen.dN (Below.refl _ _) _).drew | exact Below.refl _ _ | exact (Below.refl _ _).drew | exact (Below.refl _ _).drew.drew | exact (Below.refl _ _).drew.drew.drew | exact Gen.dN (Below.refl _ _) _ | exact Gen.dN (Gen.dN (Below.refl _ _) 1) _ | exact Gen.dN (Gen.dN (Gen.dN (Below.refl _ _) 1) 1) _)), by rw [HEQ.out]; exact Lib.hid ((HM2.out.more (Nat.le_succ k)).keep (by first | exact Gen.dN (Gen.dN (Below.refl _ _) _) 1 | exact (Gen.dN (Below.refl _ _) _).drew | exact Below.refl _ _ | exact (Below.refl _ _).drew | exact (Below.refl _ _).drew.drew | exact (Below.refl _ _).drew.drew.drew | exact Gen.dN (Below.refl _ _) _ | exact Gen.dN (Gen.dN (Below.refl _ _) 1) _ | exact Gen.dN (Gen.dN (Gen.dN (Below.refl _ _) 1) 1) _)), by rw [HEQ.out]; exact Lib.hid (HFL.out.keep (by first | exact Gen.dN (Gen.dN (Below.refl _ _) _) 1 | exact (Gen.dN (Below.refl _ _) _).drew | exact Below.refl _ _ | exact (Below.refl _ _).drew | exact (Below.refl _ _).drew.drew | exact (Below.refl _ _).drew.drew.drew | exact Gen.dN (Below.refl _ _) _ | exact Gen.dN (Gen.dN (Below.refl _ _) 1) _ | exact Gen.dN (Gen.dN (Gen.dN (Below.refl _ _) 1) 1) _)), by rw [HEQ.out]; exact HOK1, by rw [HEQ.out]; exact HOK2, Lib.hid (HBQ.out.trans (Below.mono (by first | exact Gen.dN (Gen.dN (Below.refl _ _) _) 1 | exact (Gen.dN (Below.refl _ _) _).drew | exact Below.refl _ _ | exact (Below.refl _ _).drew | exact (Below.refl _ _).drew.drew | exact (Below.refl _ _).drew.drew.drew | exact Gen.dN (Below.refl _ _) _ | exact Gen.dN (Gen.dN (Below.refl _ _) 1) _ | exact Gen.dN (Gen.dN (Gen.dN (Below.refl _ _) 1) 1) _) HSU.out))⟩
                    case measure => simp [intOf]; omega
            · have hq3 : decide (d < xp) = false := decide_eq_false hdp
              by_cases hq1 : xp < d
              · go_wp2
                try rw [hW0]
                clear hW0 m0 m1 m2 m3 m4 m5
                go_quiet (fail)
                all_goals
                  go_wp2
                  go_quiet (fail)
                  all_goals
                    have HADD := Lib.hid (fun (W' : World) (hb : Below W0.heap.size W0 W') => add_any (s := xs) (x := d - xp) (HM2.out.keep hb) (show Row W' (u + 1 + 1) 4 _ from HFL.out.keep hb) (by omega) (HOK2.out) HWS.out (by omega) (by omega))
                    have hwr : IntKind.i64.wrap (d - xp) = d - xp := IntWalk.i64_in _ (by omega)
                    have HAM := Lib.hid (HOK2.out.add (s := xs) (x := d - xp) (by omega))
                    have HEQ := Lib.hid (show rB l due good (k + 1) = ⟨(rB l due good k).f, addA (rB l due good k).h xs (d - xp), (rB l due good k).full || decide ((1000000000000000 : Int) < sumA (rB l due good k).h xs (d - xp))⟩ by rw [HNX.out]; unfold stB; rw [if_neg (by simp; try omega), if_pos (by dsimp only; omega)])
                    go_wp2
                    refine wp_region_held_drew (S := (fun W' : World => W'.cell? ⟨wr.heap.size, 1, none⟩ = some (.int .i64 xs) ∧ W'.cell? ⟨wr.heap.size, 4, none⟩ = some (.int .i64 xp) ∧ W'.cell? ⟨b1, off1 + k, none⟩ = some (.int .i64 d))) (by kernel_rfl) (⟨e1, e4, ed⟩) (fun hHeld => ?_)
                    refine wpAnyH_take (i := 0) (v := .func (Fn.func 23) #[] #[.pointer (some ⟨u + 1 + 1, 0, none⟩)]) rfl (by kernel_rfl) (by kernel_rfl) (by kernel_rfl) (fun _ _ _ h => h) (Or.inl ⟨by rfl, (by intro w hSw; (try dsimp only at hSw); go_simp <;> with_reducible rfl)⟩) (by assumption) ?_
                    (try simp only [Act.put, List.getElem_toArray, List.getElem_cons_succ, List.getElem_cons_zero, List.setIfInBounds_toArray, List.set_cons_zero, List.set_cons_succ])
                    refine wpAnyH_take (i := 1) (v := .map (some (u + 1))) rfl (by kernel_rfl) (by kernel_rfl) (by kernel_rfl) (fun _ _ _ h => h) (Or.inl ⟨by rfl, (by intro w hSw; (try dsimp only at hSw); go_simp <;> with_reducible rfl)⟩) (by assumption) ?_
                    (try simp only [Act.put, List.getElem_toArray, List.getElem_cons_succ, List.getElem_cons_zero, List.setIfInBounds_toArray, List.set_cons_zero, List.set_cons_succ])
                    refine wpAnyH_take (i := 2) (v := .pointer (some ⟨wr.heap.size, 1, none⟩)) rfl (by kernel_rfl) (by kernel_rfl) (by kernel_rfl) (fun _ _ _ h => h) (Or.inl ⟨by rfl, (by intro w hSw; (try dsimp only at hSw); go_simp <;> with_reducible rfl)⟩) (by assumption) ?_
                    (try simp only [Act.put, List.getElem_toArray, List.getElem_cons_succ, List.getElem_cons_zero, List.setIfInBounds_toArray, List.set_cons_zero, List.set_cons_succ])
                    refine wpAnyH_take (i := 3) (v := .int .i64 xs) rfl (by kernel_rfl) (by kernel_rfl) (by kernel_rfl) (fun _ _ _ h => h) (Or.inl ⟨by rfl, (by intro w hSw; (try dsimp only at hSw); go_simp <;> with_reducible rfl)⟩) (by assumption) ?_
                    (try simp only [Act.put, List.getElem_toArray, List.getElem_cons_succ, List.getElem_cons_zero, List.setIfInBounds_toArray, List.set_cons_zero, List.set_cons_succ])
                    refine wpAnyH_take (i := 4) (v := .slice (some ⟨b1, off1, none⟩) n2 c1) rfl (by kernel_rfl) (by kernel_rfl) (by kernel_rfl) (fun _ _ _ h => h) (Or.inl ⟨by rfl, (by intro w hSw; (try dsimp only at hSw); go_simp <;> with_reducible rfl)⟩) (by assumption) ?_
                    (try simp only [Act.put, List.getElem_toArray, List.getElem_cons_succ, List.getElem_cons_zero, List.setIfInBounds_toArray, List.set_cons_zero, List.set_cons_succ])
                    refine wpAnyH_take (i := 5) (v := .int .i64 (k : Int)) rfl (by kernel_rfl) (by kernel_rfl) (by kernel_rfl) (fun _ _ _ h => h) (Or.inl ⟨by rfl, (by intro w hSw; (try dsimp only at hSw); go_simp <;> with_reducible rfl)⟩) (by assumption) ?_
                    (try simp only [Act.put, List.getElem_toArray, List.getElem_cons_succ, List.getElem_cons_zero, List.setIfInBounds_toArray, List.set_cons_zero, List.set_cons_succ])
                    refine wpAnyH_take (i := 6) (v := .pointer (some ⟨b1, off1 + k, none⟩)) rfl (by kernel_rfl) (by kernel_rfl) (by kernel_rfl) (fun _ _ _ h => h) (Or.inl ⟨by rfl, (by intro w hSw; (try dsimp only at hSw); go_simp <;> with_reducible rfl)⟩) (by assumption) ?_
                    (try simp only [Act.put, List.getElem_toArray, List.getElem_cons_succ, List.getElem_cons_zero, List.setIfInBounds_toArray, List.set_cons_zero, List.set_cons_succ])
                    refine wpAnyH_take (i := 7) (v := .int .i64 d) rfl (by kernel_rfl) (by kernel_rfl) (by kernel_rfl) (fun _ _ _ h => h) (Or.inl ⟨by rfl, (by intro w hSw; (try dsimp only at hSw); go_simp <;> with_reducible rfl)⟩) (by assumption) ?_
                    (try simp only [Act.put, List.getElem_toArray, List.getElem_cons_succ, List.getElem_cons_zero, List.setIfInBounds_toArray, List.set_cons_zero, List.set_cons_succ])
                    refine wpAnyH_take (i := 8) (v := .pointer (some ⟨wr.heap.size, 4, none⟩)) rfl (by kernel_rfl) (by kernel_rfl) (by kernel_rfl) (fun _ _ _ h => h) (Or.inl ⟨by rfl, (by intro w hSw; (try dsimp only at hSw); go_simp <;> with_reducible rfl)⟩) (by assumption) ?_
                    (try simp only [Act.put, List.getElem_toArray, List.getElem_cons_succ, List.getElem_cons_zero, List.setIfInBounds_toArray, List.set_cons_zero, List.set_cons_succ])
                    refine wpAnyH_take (i := 9) (v := .int .i64 xp) rfl (by kernel_rfl) (by kernel_rfl) (by kernel_rfl) (fun _ _ _ h => h) (Or.inl ⟨by rfl, (by intro w hSw; (try dsimp only at hSw); go_simp <;> with_reducible rfl)⟩) (by assumption) ?_
                    (try simp only [Act.put, List.getElem_toArray, List.getElem_cons_succ, List.getElem_cons_zero, List.setIfInBounds_toArray, List.set_cons_zero, List.set_cons_succ])
                    refine wpAnyH_take (i := 10) (v := .int .i64 (d - xp)) rfl (by kernel_rfl) (by kernel_rfl) (by kernel_rfl) (fun _ _ _ h => h) (Or.inl ⟨by rfl, (by intro w hSw; (try dsimp only at hSw); go_simp <;> first | with_reducible rfl | rw [hwr])⟩) (by assumption) ?_
                    (try simp only [Act.put, List.getElem_toArray, List.getElem_cons_succ, List.getElem_cons_zero, List.setIfInBounds_toArray, List.set_cons_zero, List.set_cons_succ])
                    refine wpAnyH_ready (rs := [11]) (by kernel_rfl) (by simp) ?_
                    refine AllReadyH.cons rfl (fun K hK => ?_) AllReadyH.nil
                    rw [if_pos (by rfl)]
                    (try simp only [Act.put, List.getElem_toArray, List.getElem_cons_succ, List.getElem_cons_zero, List.setIfInBounds_toArray, List.set_cons_zero, List.set_cons_succ])
                    go_simp
                    go_at_call 23
                    refine (HADD.out _ (by first | exact Gen.dN (Gen.dN (Below.refl _ _) _) 1 | exact (Gen.dN (Below.refl _ _) _).drew | exact Below.refl _ _ | exact (Below.refl _ _).drew | exact (Below.refl _ _).drew.drew | exact (Below.refl _ _).drew.drew.drew | exact Gen.dN (Below.refl _ _) _ | exact Gen.dN (Gen.dN (Below.refl _ _) 1) _ | exact Gen.dN (Gen.dN (Gen.dN (Below.refl _ _) 1) 1) _)).mono ?_
                    rintro e' w3 ⟨rfl, a2, a3, a4, a5, a6⟩
                    refine hK.out _ _ (⟨cell_same (a4 _ (show wr.heap.size < W0.heap.size from HSW.out) (by have := HSU2.out; omega) (by have := HSU2.out; omega)) e1, cell_same (a4 _ (show wr.heap.size < W0.heap.size from HSW.out) (by have := HSU2.out; omega) (by have := HSU2.out; omega)) e4, cell_same (a4 _ (show b1 < W0.heap.size by have := HSW.out; have := HSU2.out; omega) (by omega) (by omega)) ed⟩) (fun hH11 => ?_)
                    clear hK K
                    (try simp only [Act.put, List.getElem_toArray, List.getElem_cons_succ, List.getElem_cons_zero, List.setIfInBounds_toArray, List.set_cons_zero, List.set_cons_succ])
                    refine wpAnyH_done (by kernel_rfl) ?_ _
                    all_goals
                      have HO3 := Lib.hid ((HM1.out.more (Nat.le_succ k)).at (w' := w3) (a4 (u) (by show u < W0.heap.size; have := HSW.out; have := HSU2.out; omega) (by omega) (by omega)))
                      have HB3 := Lib.hid (HBQ.out.trans (Below.trans (Below.mono (show Below W0.heap.size W0 _ from (by first | exact Gen.dN (Gen.dN (Below.refl _ _) _) 1 | exact (Gen.dN (Below.refl _ _) _).drew | exact Below.refl _ _ | exact (Below.refl _ _).drew | exact (Below.refl _ _).drew.drew | exact (Below.refl _ _).drew.drew.drew | exact Gen.dN (Below.refl _ _) _ | exact Gen.dN (Gen.dN (Below.refl _ _) 1) _ | exact Gen.dN (Gen.dN (Gen.dN (Below.refl _ _) 1) 1) _)) HSU.out) (a5 u (by omega) (by omega))))
                      have H2 := Lib.hid a2
                      have H3 := Lib.hid a3
                      clear a2 a3 a4 a5 a6 e1 e4 ed ez hwr
                      go_wp2
                      go_roundw
                      case rel => exact ⟨k + 1, by omega, by go_num, by rw [HEQ.out]; exact HO3, by rw [HEQ.out]; exact H2, by rw [HEQ.out]; exact H3, by rw [HEQ.out]; exact HOK1, by rw [HEQ.out]; exact HAM, HB3⟩
                      case measure => simp [intOf]; omega
              · go_wp2
                try rw [hW0]
                clear hW0 m0 m1 m2 m3 m4 m5
                go_quiet (fail)
                all_goals
                  go_wp2
                  go_quiet (fail)
                  all_goals
                    have HEQ := Lib.hid (show rB l due good (k + 1) = rB l due good k by rw [HNX.out]; unfold stB; rw [if_neg (by simp; try omega), if_neg (by dsimp only; omega)])
                    go_wp2
                    go_roundw
                    case rel => exact ⟨k + 1, by omega, by go_num, by rw [HEQ.out]; exact Lib.hid ((HM1.out.more (Nat.le_succ k)).keep (by first | exact Gen.dN (Gen.dN (Below.refl _ _) _) 1 | exact (Gen.dN (Below.refl _ _) _).drew | exact Below.refl _ _ | exact (Below.refl _ _).drew | exact (Below.refl _ _).drew.drew | exact (Below.refl _ _).drew.drew.drew | exact Gen.dN (Below.refl _ _) _ | exact Gen.dN (Gen.dN (Below.refl _ _) 1) _ | exact Gen.dN (Gen.dN (Gen.dN (Below.refl _ _) 1) 1) _)), by rw [HEQ.out]; exact Lib.hid ((HM2.out.more (Nat.le_succ k)).keep (by first | exact Gen.dN (Gen.dN (Below.refl _ _) _) 1 | exact (Gen.dN (Below.refl _ _) _).drew | exact Below.refl _ _ | exact (Below.refl _ _).drew | exact (Below.refl _ _).drew.drew | exact (Below.refl _ _).drew.drew.drew | exact Gen.dN (Below.refl _ _) _ | exact Gen.dN (Gen.dN (Below.refl _ _) 1) _ | exact Gen.dN (Gen.dN (Gen.dN (Below.refl _ _) 1) 1) _)), by rw [HEQ.out]; exact Lib.hid (HFL.out.keep (by first | exact Gen.dN (Gen.dN (Below.refl _ _) _) 1 | exact (Gen.dN (Below.refl _ _) _).drew | exact Below.refl _ _ | exact (Below.refl _ _).drew | exact (Below.refl _ _).drew.drew | exact (Below.refl _ _).drew.drew.drew | exact Gen.dN (Below.refl _ _) _ | exact Gen.dN (Gen.dN (Below.refl _ _) 1) _ | exact Gen.dN (Gen.dN (Gen.dN (Below.refl _ _) 1) 1) _)), by rw [HEQ.out]; exact HOK1, by rw [HEQ.out]; exact HOK2, Lib.hid (HBQ.out.trans (Below.mono (by first | exact Gen.dN (Gen.dN (Below.refl _ _) _) 1 | exact (Gen.dN (Below.refl _ _) _).drew | exact Below.refl _ _ | exact (Below.refl _ _).drew | exact (Below.refl _ _).drew.drew | exact (Below.refl _ _).drew.drew.drew | exact Gen.dN (Below.refl _ _) _ | exact Gen.dN (Gen.dN (Below.refl _ _) 1) _ | exact Gen.dN (Gen.dN (Gen.dN (Below.refl _ _) 1) 1) _) HSU.out))⟩
                    case measure => simp [intOf]; omega
          · obtain rfl : n2 = k := by omega
            have hN := HN.out
            cases hfu : (rB l due good n2).full
            · rw [hfu] at HFL
              have e0 := HFL.out.cell 0
              have HFU := Lib.hid hfu
              clear hfu hlt
              go_wp2_with (fail)
              go_must (refine (shares_any HM1.out (by omega)).mono ?_)
              rintro e w3 ⟨v1, ks1, rfl, p1, p2', p3, p4, p5⟩
              have HM3 := Lib.hid (HM2.out.keep p5)
              have HE1 := Lib.hid (And.intro p1 (And.intro p2' (And.intro p3 p4)))
              have HB3 := Lib.hid p5
              clear p1 p2' p3 p4 p5
              go_wp2_with (fail)
              go_must (refine (shares_any HM3.out (by omega)).mono ?_)
              rintro e w4 ⟨v2, ks2, rfl, p1, p2', p3, p4, p5⟩
              have hww : w.heap.size ≤ wr.heap.size := Nat.le_trans HBU.out.2 (by have := HFL.out.lt; omega)
              have HE := Lib.hid (show BackP w l due good (.returned (.tuple #[v1, v2, .int .i64 0])) w4 from ⟨(HBU.out.1.trans (HBQ.out.mono HBU.out.2)).trans ((HB3.out.trans (p5.mono HB3.out.size)).mono hww), .inr (.inr ⟨HBK.out, by rw [hN]; exact HFU.out, v1, v2, rfl,
                by rw [hN]; exact ⟨ks1, HE1.out.1, HE1.out.2.1, HE1.out.2.2.1, own_low (Gen.own_keep HE1.out.2.2.2 p5) hww⟩,
                by rw [hN]; exact ⟨ks2, p1, p2', p3, own_low p4 (Nat.le_trans hww HB3.out.size)⟩⟩)⟩)
              clear p1 p2' p3 p4 p5 HE1 HM3 hN
              go_wp2
              exact bodyPost_ret (v := .tuple #[v1, v2, .int .i64 0]) (by simp [results, Try.results10, go_sem]) rfl HE.out
            · rw [hfu] at HFL
              have e0 := HFL.out.cell 0
              have HE := Lib.hid (show BackP w l due good (.returned (.tuple #[nilV, nilV, .int .i64 6])) wr from ⟨HBU.out.1.trans (HBQ.out.mono HBU.out.2), .inr (.inl ⟨HBK.out, by rw [hN]; exact hfu, rfl⟩)⟩)
              clear hfu hN hlt
              go_wp2
              exact bodyPost_ret (v := .tuple #[nilV, nilV, .int .i64 6]) (by simp [results, Try.results10, go_sem]) rfl HE.out
      all_goals simp
end Go.Proofs.Ytohbdffmidbjhaa.Re
