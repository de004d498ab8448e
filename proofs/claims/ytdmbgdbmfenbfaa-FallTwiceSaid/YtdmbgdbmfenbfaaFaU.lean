/- Waterfalls in plain words: the money in two parts. -/
import Derived.Test.YtdmbgdbmfenbfaaFaT
import Derived.Test.YtdmbgdbmfenbfaaFaS
namespace Go.Proofs.Ytdmbgdbmfenbfaa.Fa
set_option linter.unusedVariables false

/-- more money in the pot -/
def addp (f : Fl) (m : Int) : Fl := ⟨f.p + m, f.r, f.t, f.e, f.tr⟩
def owes (s : St) (x : Tr) : Int := if s.k = 0 then x.u else x.b
def gets (s : St) (x : Tr) (n : Int) : Tr := if s.k = 0 then ⟨x.b, x.u - n⟩ else ⟨x.b - n, x.u⟩
/-- what is wanted of money with an empty reserve -/
structure Wk (f : Fl) : Prop where
  p : 0 ≤ f.p
  r : f.r = 0
  tr : ∀ x ∈ f.tr, 0 ≤ x.b ∧ 0 ≤ x.u
theorem stp_pd {c : Int} {te : List Te} {f : Fl} {s : St} {x : Tr} (hs : pd s) (h : Wk f) (hx : f.tr[s.n.toNat]? = some x) :
    stp c te f s = (min (owes s x) f.p, ⟨f.p - min (owes s x) f.p, 0, f.t, f.e, f.tr.set s.n.toNat (gets s x (min (owes s x) f.p))⟩) := by
  have h1 := h.p
  have h2 := h.r
  obtain ⟨p, r, t, e, tr⟩ := f
  dsimp only at h1 h2 hx
  subst h2
  unfold stp owes gets
  rcases hs with hk | hk
  · rw [if_pos hk, if_pos hk, if_pos hk]
    dsimp only
    rw [hx]
    dsimp only
    rw [show p + 0 = p by omega]
    rw [show min (min x.u p) p = min x.u p by omega]
    rw [show (0 : Int) - (min x.u p - min x.u p) = 0 by omega]
  · rw [if_neg (by omega), if_pos hk, if_neg (by omega), if_neg (by omega)]
    dsimp only
    rw [hx]
theorem stp_none {c : Int} {te : List Te} {f : Fl} {s : St} (hs : pd s) (hx : f.tr[s.n.toNat]? = none) : stp c te f s = (0, f) := by
  unfold stp
  rcases hs with hk | hk
  · rw [if_pos hk, hx]
  · rw [if_neg (by omega), if_pos hk, hx]
theorem wk_stp {c : Int} {te : List Te} {f : Fl} {s : St} (hs : pd s) (h : Wk f) : Wk (stp c te f s).2 := by
  cases hx : f.tr[s.n.toNat]? with
  | none => rw [stp_none hs hx]; exact h
  | some x =>
    rw [stp_pd hs h hx]
    obtain ⟨x1, x2⟩ := h.tr x (List.mem_of_getElem? hx)
    have h1 := h.p
    refine ⟨by dsimp only; omega, rfl, fun y hy => ?_⟩
    rcases List.mem_or_eq_of_mem_set hy with hy | rfl
    · exact h.tr y hy
    · unfold gets owes
      split <;> constructor <;> dsimp only <;> omega
theorem wk_run {c : Int} {te : List Te} : ∀ (l : List St) (f : Fl), (∀ s ∈ l, pd s) → Wk f → Wk (run c te l f).2 ∧ (run c te l f).2.t = f.t ∧ (run c te l f).2.e = f.e
  | [], f, _, h => ⟨h, rfl, rfl⟩
  | s :: l, f, hl, h => by
    obtain ⟨h1, h2, h3⟩ := wk_run (c := c) (te := te) l _ (fun s' hs' => hl s' (by simp [hs'])) (wk_stp (c := c) (te := te) (hl s (by simp)) h)
    rw [run_cons]
    refine ⟨h1, h2.trans ?_, h3.trans ?_⟩
    · cases hx : f.tr[s.n.toNat]? with
      | none => rw [stp_none (hl s (by simp)) hx]
      | some x => rw [stp_pd (hl s (by simp)) h hx]
    · cases hx : f.tr[s.n.toNat]? with
      | none => rw [stp_none (hl s (by simp)) hx]
      | some x => rw [stp_pd (hl s (by simp)) h hx]
/-- an empty pot pays nothing -/
theorem run_dry {c : Int} {te : List Te} : ∀ (l : List St) (f : Fl), (∀ s ∈ l, pd s) → Wk f → f.p = 0 → (run c te l f).2 = f
  | [], f, _, _, _ => rfl
  | s :: l, f, hl, h, hp => by
    have e : (stp c te f s).2 = f := by
      cases hx : f.tr[s.n.toNat]? with
      | none => rw [stp_none (hl s (by simp)) hx]
      | some x =>
        rw [stp_pd (hl s (by simp)) h hx]
        obtain ⟨x1, x2⟩ := h.tr x (List.mem_of_getElem? hx)
        have hr := h.r
        obtain ⟨p, r, t, e, tr⟩ := f
        dsimp only at hp hr hx ⊢
        subst hp hr
        have e0 : min (owes s x) 0 = 0 := by unfold owes; split <;> omega
        rw [e0]
        have e1 : gets s x 0 = x := by unfold gets; split <;> simp
        rw [e1, List.set_getElem?_self' hx]
        rfl
    rw [run_cons, e, run_dry l f (fun s' hs' => hl s' (by simp [hs'])) h hp]
/-- what is owed by a step's tranche does not grow -/
theorem owes_run {c : Int} {te : List Te} {s0 : St} : ∀ (l : List St) (f : Fl), (∀ s ∈ l, pd s) → Wk f → ∀ x, f.tr[s0.n.toNat]? = some x → ∃ y, (run c te l f).2.tr[s0.n.toNat]? = some y ∧ owes s0 y ≤ owes s0 x
  | [], f, _, _, x, hx => ⟨x, hx, Int.le_refl _⟩
  | s :: l, f, hl, h, x, hx => by
    have hst : ∃ y, (stp c te f s).2.tr[s0.n.toNat]? = some y ∧ owes s0 y ≤ owes s0 x := by
      cases hy : f.tr[s.n.toNat]? with
      | none => rw [stp_none (hl s (by simp)) hy]; exact ⟨x, hx, Int.le_refl _⟩
      | some z =>
        rw [stp_pd (hl s (by simp)) h hy]
        dsimp only
        rw [List.getElem?_set]
        split
        · rename_i e
          rw [if_pos (by rw [e]; exact (List.getElem?_eq_some_iff.1 hx).1)]
          rw [e, hx] at hy
          injection hy with hy
          subst hy
          refine ⟨_, rfl, ?_⟩
          obtain ⟨x1, x2⟩ := h.tr x (List.mem_of_getElem? hx)
          have h1 := h.p
          unfold owes gets
          split <;> split <;> dsimp only <;> omega
        · exact ⟨x, hx, Int.le_refl _⟩
    obtain ⟨y, hy, hle⟩ := hst
    obtain ⟨u, hu, hle2⟩ := owes_run (c := c) (te := te) (s0 := s0) l _ (fun s' hs' => hl s' (by simp [hs'])) (wk_stp (c := c) (te := te) (hl s (by simp)) h) y hy
    exact ⟨u, by rw [run_cons]; exact hu, Int.le_trans hle2 hle⟩
theorem addp_wk {f : Fl} {m : Int} (h : Wk f) (hm : 0 ≤ m) : Wk (addp f m) := ⟨by unfold addp; dsimp only; have := h.p; omega, h.r, h.tr⟩
/-- one part after the other one -/
theorem run_two_parts {c : Int} {te : List Te} {m : Int} (hm : 0 ≤ m) : ∀ (l : List St) (f : Fl), (∀ s ∈ l, pd s) → Wk f → (run c te l (addp (run c te l f).2 m)).2 = (run c te l (addp f m)).2
  | [], f, _, _ => rfl
  | s :: l, f, hl, h => by
    have hps := hl s (by simp)
    have hll : ∀ s' ∈ l, pd s' := fun s' hs' => hl s' (by simp [hs'])
    rw [run_cons]
    dsimp only
    rw [run_cons, run_cons]
    dsimp only
    cases hx : f.tr[s.n.toNat]? with
    | none =>
      rw [stp_none hps hx]
      dsimp only
      have e2 : (addp f m).tr[s.n.toNat]? = none := hx
      rw [stp_none hps e2]
      have e3 : (addp (run c te l f).2 m).tr[s.n.toNat]? = none := by
        show (run c te l f).2.tr[s.n.toNat]? = none
        have : (run c te l f).2.tr.length = f.tr.length := by
          clear hx e2
          have hl2 := hll
          clear hps hl
          induction l generalizing f with
          | nil => rfl
          | cons s' l ih =>
            rw [run_cons]
            dsimp only
            rw [ih (f := (stp c te f s').2) (wk_stp (hl2 s' (by simp)) h) (fun s h => hl2 s (by simp [h])) (fun s h => hl2 s (by simp [h]))]
            cases hy : f.tr[s'.n.toNat]? with
            | none => rw [stp_none (hl2 s' (by simp)) hy]
            | some z => rw [stp_pd (hl2 s' (by simp)) h hy]; exact List.length_set
        rw [List.getElem?_eq_none_iff] at hx ⊢
        omega
      rw [stp_none hps e3]
      dsimp only
      exact run_two_parts hm l f hll h
    | some x =>
      obtain ⟨x1, x2⟩ := h.tr x (List.mem_of_getElem? hx)
      have h1 := h.p
      have hw1 := wk_stp (c := c) (te := te) hps h
      have e2 : (addp f m).tr[s.n.toNat]? = some x := hx
      have ow : 0 ≤ owes s x := by unfold owes; split <;> omega
      by_cases hcase : owes s x ≤ f.p
      · -- the tranche is paid in full
        have ih := run_two_parts (c := c) (te := te) hm l (stp c te f s).2 hll hw1
        have en : min (owes s x) f.p = owes s x := by omega
        have en2 : min (owes s x) (addp f m).p = owes s x := by unfold addp; dsimp only; omega
        have eq1 : (stp c te (addp f m) s).2 = addp (stp c te f s).2 m := by
          rw [stp_pd hps (addp_wk h hm) e2, stp_pd hps h hx, en, en2]
          unfold addp
          dsimp only
          rw [show f.p + m - owes s x = f.p - owes s x + m by omega]
        rw [eq1, ← ih]
        -- nothing is owed there any more
        have hs1 : (stp c te f s).2.tr[s.n.toNat]? = some (gets s x (owes s x)) := by
          rw [stp_pd hps h hx, en]
          dsimp only
          exact List.getElem?_set_self (List.getElem?_eq_some_iff.1 hx).1
        obtain ⟨y, hy, hle⟩ := owes_run (c := c) (te := te) (s0 := s) l (stp c te f s).2 hll hw1 _ hs1
        have hz : owes s (gets s x (owes s x)) = 0 := by
          unfold owes gets
          by_cases hk : s.k = 0
          · simp [hk]
          · simp [hk]
        have hw2 := (wk_run (c := c) (te := te) l _ hll hw1).1
        obtain ⟨y1, y2⟩ := hw2.tr y (List.mem_of_getElem? hy)
        have hy0 : owes s y = 0 := by
          have : 0 ≤ owes s y := by unfold owes; split <;> omega
          omega
        have e4 : (stp c te (addp (run c te l (stp c te f s).2).2 m) s).2 = addp (run c te l (stp c te f s).2).2 m := by
          have hw3 := addp_wk hw2 hm
          have hp3 := hw3.p
          have hr3 := hw3.r
          have hy' : (addp (run c te l (stp c te f s).2).2 m).tr[s.n.toNat]? = some y := hy
          rw [stp_pd hps hw3 hy', hy0]
          rw [show min 0 (addp (run c te l (stp c te f s).2).2 m).p = 0 by omega]
          have e5 : gets s y 0 = y := by unfold gets; split <;> simp
          rw [e5, List.set_getElem?_self' hy']
          obtain ⟨X, hX⟩ : ∃ X, addp (run c te l (stp c te f s).2).2 m = X := ⟨_, rfl⟩
          rw [hX] at hr3 ⊢
          clear hX hw3 hp3 hy'
          obtain ⟨p, r, t, e, tr⟩ := X
          replace hr3 : r = 0 := hr3
          subst hr3
          rw [Int.sub_zero]
        rw [e4]
      · -- the pot is empty behind it
        have en : min (owes s x) f.p = f.p := by omega
        have hs1 : (stp c te f s).2 = ⟨0, 0, f.t, f.e, f.tr.set s.n.toNat (gets s x f.p)⟩ := by
          rw [stp_pd hps h hx, en]
          dsimp only
          rw [show f.p - f.p = 0 by omega]
        have hd := run_dry (c := c) (te := te) l (stp c te f s).2 hll hw1 (by rw [hs1])
        rw [hd]
        have e6 : (stp c te (addp (stp c te f s).2 m) s).2 = (stp c te (addp f m) s).2 := by
          have hs2 : (addp (stp c te f s).2 m).tr[s.n.toNat]? = some (gets s x f.p) := by
            rw [hs1]
            exact List.getElem?_set_self (List.getElem?_eq_some_iff.1 hx).1
          rw [stp_pd hps (addp_wk hw1 hm) hs2, stp_pd hps (addp_wk h hm) e2]
          have o1 : owes s (gets s x f.p) = owes s x - f.p := by unfold owes gets; split <;> dsimp only
          rw [o1]
          rw [hs1]
          unfold addp
          dsimp only
          have e7 : min (owes s x) (f.p + m) = f.p + min (owes s x - f.p) (0 + m) := by omega
          rw [e7, List.set_set]
          have e8 : gets s (gets s x f.p) (min (owes s x - f.p) (0 + m)) = gets s x (f.p + min (owes s x - f.p) (0 + m)) := by
            unfold gets
            split
            · dsimp only; congr 1; omega
            · dsimp only; congr 1; omega
          rw [e8]
          congr 1
          omega
        rw [e6]
/-- Run twice, and once -/
theorem twice_all {d : Dl} {m m2 : Int} (hp : ∀ s ∈ d.st, pd s) (hm : mon m) (hm2 : mon m2) (hr : d.r = 0) :
    (runE d m = 0 → runE (runD d m) m2 = 0 → runE d (m + m2) = 0 → runD (runD d m) m2 = runD d (m + m2) ∧ (runD d (m + m2)).e = d.e ∧ (runD d (m + m2)).r = 0) ∧
    (runE d (m + m2) = 0 → runE d m = 0 ∧ runE (runD d m) m2 = 0) := by
  have hg0 := hm.1
  have hg1 := hm2.1
  have key : rgb d = true → ∀ x : Int, mon x → x + d.t ≤ 1000000000000000 → Wk (top d x) ∧ Wk (dwn d x).2 ∧ (dwn d x).2.t = 0 ∧ (dwn d x).2.e = d.e := fun hg x hx hb => by
    have ok := top_ok (rgb_iff.1 hg) hx hb
    have hw : Wk (top d x) := ⟨ok.p, hr, fun y hy => ⟨(ok.tr y hy).1.1, (ok.tr y hy).2.1⟩⟩
    obtain ⟨a, b, c⟩ := wk_run (c := d.c) (te := d.te) d.st (top d x) hp hw
    exact ⟨hw, a, b, c⟩
  have two : rgb d = true → m + d.t ≤ 1000000000000000 → (dwn (bot d (dwn d m).2) m2).2 = (dwn d (m + m2)).2 := fun hg hb => by
    obtain ⟨a1, a2, a3, a4⟩ := key hg m hm hb
    have := run_two_parts (c := d.c) (te := d.te) hg1 d.st (top d m) hp a1
    have e1 : addp (dwn d m).2 m2 = top (bot d (dwn d m).2) m2 := by
      unfold addp top bot
      dsimp only
      rw [a3, show (dwn d m).2.p + m2 = m2 + (0 + (dwn d m).2.p) by omega]
    have e2 : addp (top d m) m2 = top d (m + m2) := by
      unfold addp top
      dsimp only
      rw [show m + d.t + m2 = m + m2 + d.t by omega]
    rw [e2] at this
    unfold dwn at e1 ⊢
    rw [e1] at this
    exact this
  have le1 : rgb d = true → m + d.t ≤ 1000000000000000 → (dwn d m).2.p ≤ m + d.t := fun hg hb => by
    obtain ⟨a1, _, _, _, _⟩ := dwn_keeps (rgb_iff.1 hg) hm hb
    exact a1.p
  refine ⟨fun h1 h2 h3 => ?_, fun h3 => ?_⟩
  · obtain ⟨g1, g2, g3, g4⟩ := runE_0.1 h1
    obtain ⟨c1, c2, c3, c4⟩ := runE_0.1 h3
    have t2 := two g1 g3
    obtain ⟨b1, b2, b3, b4⟩ := key g1 (m + m2) c2 c3
    have e1 : runD d m = bot d (dwn d m).2 := by unfold runD; rw [if_pos h1]
    have e3 : runD d (m + m2) = bot d (dwn d (m + m2)).2 := by unfold runD; rw [if_pos h3]
    have e2 : runD (runD d m) m2 = bot (bot d (dwn d m).2) (dwn d (m + m2)).2 := by
      unfold runD at h2 ⊢
      rw [if_pos h2]
      rw [if_pos h1] at h2 ⊢
      rw [t2]
    rw [e2, e3]
    exact ⟨rfl, b4, b2.r⟩
  · obtain ⟨c1, c2, c3, c4⟩ := runE_0.1 h3
    have g3 : m + d.t ≤ 1000000000000000 := by omega
    obtain ⟨a1, a2, a3, a4⟩ := key c1 m hm g3
    have he := (rgb_iff.1 c1).e.2
    have h1 : runE d m = 0 := runE_0.2 ⟨c1, hm, g3, by rw [a4]; exact he⟩
    refine ⟨h1, ?_⟩
    have e1 : runD d m = bot d (dwn d m).2 := by unfold runD; rw [if_pos h1]
    have hl := le1 c1 g3
    refine runE_0.2 ⟨runD_right, hm2, ?_, ?_⟩
    · rw [e1]
      show m2 + ((dwn d m).2.t + (dwn d m).2.p) ≤ _
      rw [a3]
      omega
    · rw [e1, two c1 g3]
      exact c4
end Go.Proofs.Ytdmbgdbmfenbfaa.Fa
