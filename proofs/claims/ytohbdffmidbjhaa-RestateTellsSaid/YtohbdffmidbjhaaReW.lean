/- Restatements, in plain words: sums by seats as lists; Back says the same. -/
import Derived.Test.YtohbdffmidbjhaaReU
namespace Go.Proofs.Ytohbdffmidbjhaa.Re
open Go.ChangeShapes Go.WideShapes Go.ChangeAt Go.RowKit Go.Maps Go.Proofs.Ytohbdffmidbjhaa.Cell Go.Proofs.Ytohbdffmidbjhaa.Rk
set_option linter.unusedVariables false
set_option linter.unusedSimpArgs false
/-- an amount is added to a seat's -/
def addL : List (Int × Int) → Int → Int → List (Int × Int)
  | [], s, x => [(s, x)]
  | p :: l, s, x => if p.1 < s then p :: addL l s x else if p.1 = s then (p.1, p.2 + x) :: l else (s, x) :: p :: l
theorem addL_low : ∀ {l : List (Int × Int)} {s x b : Int}, (∀ p ∈ l, b < p.1) → b < s → ∀ p ∈ addL l s x, b < p.1
  | [], s, x, b, _, hs, p, hp => by
    simp [addL] at hp
    subst hp
    exact hs
  | q :: l, s, x, b, h, hs, p, hp => by
    unfold addL at hp
    have hq := h q (by simp)
    split at hp
    · rcases List.mem_cons.1 hp with rfl | hp
      · exact hq
      · exact addL_low (fun p hp => h p (by simp [hp])) hs p hp
    · split at hp
      · rcases List.mem_cons.1 hp with rfl | hp
        · exact hq
        · exact h p (by simp [hp])
      · rcases List.mem_cons.1 hp with rfl | hp
        · exact hs
        · exact h p hp
theorem addL_asc : ∀ {l : List (Int × Int)} {s x : Int}, l.Pairwise (fun a b => a.1 < b.1) → (addL l s x).Pairwise (fun a b => a.1 < b.1)
  | [], s, x, _ => by simp [addL]
  | q :: l, s, x, h => by
    unfold addL
    rw [List.pairwise_cons] at h
    split
    · rename_i hq
      rw [List.pairwise_cons]
      exact ⟨addL_low h.1 hq, addL_asc h.2⟩
    · split
      · rw [List.pairwise_cons]
        exact ⟨h.1, h.2⟩
      · rename_i h1 h2
        rw [List.pairwise_cons]
        refine ⟨fun p hp => ?_, List.pairwise_cons.2 h⟩
        rcases List.mem_cons.1 hp with rfl | hp
        · dsimp only; omega
        · have := h.1 p hp
          dsimp only; omega
/-- what a list says of a seat -/
def lk : List (Int × Int) → Int → Option Int
  | [], _ => none
  | p :: l, s => if p.1 = s then some p.2 else lk l s
theorem lk_none {l : List (Int × Int)} {s : Int} (h : ∀ p ∈ l, p.1 ≠ s) : lk l s = none := by
  induction l with
  | nil => rfl
  | cons q l ih =>
    unfold lk
    rw [if_neg (h q (by simp))]
    exact ih (fun p hp => h p (by simp [hp]))
theorem lk_mem {l : List (Int × Int)} {s z : Int} (h : lk l s = some z) : (s, z) ∈ l := by
  induction l with
  | nil => cases h
  | cons q l ih =>
    unfold lk at h
    split at h
    · rename_i e
      injection h with h
      obtain ⟨a, b⟩ := q
      dsimp only at e h
      subst e h
      simp
    · exact List.mem_cons_of_mem _ (ih h)
theorem lk_of {l : List (Int × Int)} (hp : l.Pairwise (fun a b => a.1 < b.1)) {p : Int × Int} (h : p ∈ l) : lk l p.1 = some p.2 := by
  induction l with
  | nil => cases h
  | cons q l ih =>
    rw [List.pairwise_cons] at hp
    unfold lk
    rcases List.mem_cons.1 h with rfl | h
    · rw [if_pos rfl]
    · have := hp.1 p h
      rw [if_neg (by omega)]
      exact ih hp.2 h
theorem lk_add : ∀ {l : List (Int × Int)} {s x : Int}, l.Pairwise (fun a b => a.1 < b.1) → ∀ y, lk (addL l s x) y = if y = s then some ((lk l s).getD 0 + x) else lk l y
  | [], s, x, _, y => by
    unfold addL
    by_cases h : y = s
    · rw [if_pos h]; simp [lk, h]
    · rw [if_neg h]; simp [lk]; exact fun e => h e.symm
  | q :: l, s, x, hp, y => by
    rw [List.pairwise_cons] at hp
    unfold addL
    by_cases h1 : q.1 < s
    · rw [if_pos h1]
      rw [lk, lk_add hp.2 y]
      by_cases h : y = s
      · subst h
        rw [if_neg (by omega), if_pos rfl, if_pos rfl, lk, if_neg (by omega)]
      · rw [if_neg h, if_neg h, lk]
    · rw [if_neg h1]
      by_cases h2 : q.1 = s
      · rw [if_pos h2]
        by_cases h : y = s
        · subst h
          rw [if_pos rfl, lk, if_pos h2, lk, if_pos h2]
          rfl
        · rw [if_neg h, lk, if_neg (by dsimp only; omega), lk, if_neg (by omega)]
      · rw [if_neg h2]
        by_cases h : y = s
        · subst h
          rw [if_pos rfl, lk, if_pos rfl]
          have : lk (q :: l) y = none := lk_none (fun p hp' => by
            rcases List.mem_cons.1 hp' with rfl | hp'
            · omega
            · have := hp.1 p hp'; omega)
          rw [this]
          simp
        · rw [if_neg h, lk, if_neg (by dsimp only; omega)]
theorem lk_ofA : ∀ (l : List (Int × Int)) (s : Int), ofA l s = (lk l s).getD 0
  | [], s => rfl
  | p :: l, s => by
    unfold ofA lk
    split
    · rfl
    · exact lk_ofA l s
/-- some amount is more than all money -/
def ovr (l : List (Int × Int)) : Bool := l.any fun p => decide (1000000000000000 < p.2)
theorem ovr_add : ∀ {l : List (Int × Int)} {s x : Int}, l.Pairwise (fun a b => a.1 < b.1) → 0 ≤ x → ovr (addL l s x) = (ovr l || decide (1000000000000000 < (lk l s).getD 0 + x))
  | [], s, x, _, _ => by simp [ovr, addL, lk]
  | q :: l, s, x, hp, hx => by
    rw [List.pairwise_cons] at hp
    unfold addL
    by_cases h1 : q.1 < s
    · rw [if_pos h1]
      have ih := ovr_add (s := s) hp.2 hx
      unfold ovr at ih ⊢
      rw [List.any_cons, ih, List.any_cons, lk, if_neg (by omega), Bool.or_assoc]
    · rw [if_neg h1]
      by_cases h2 : q.1 = s
      · rw [if_pos h2, lk, if_pos h2]
        unfold ovr
        rw [List.any_cons, List.any_cons]
        dsimp only [Option.getD_some]
        by_cases h3 : (1000000000000000 : Int) < q.2
        · rw [decide_eq_true h3, decide_eq_true (show (1000000000000000 : Int) < q.2 + x by omega)]
          simp
        · rw [decide_eq_false h3, Bool.false_or, Bool.or_comm]
      · rw [if_neg h2]
        have : lk (q :: l) s = none := lk_none (fun p hp' => by
            rcases List.mem_cons.1 hp' with rfl | hp'
            · omega
            · have := hp.1 p hp'; omega)
        rw [this]
        unfold ovr
        rw [List.any_cons]
        simp only [Option.getD_none, Int.zero_add]
        rw [Bool.or_comm]
/-- a map says what a list says, but no more than one more than all money -/
structure Rep (f : Int → Option Int) (l : List (Int × Int)) : Prop where
  asc : l.Pairwise (fun a b => a.1 < b.1)
  eq : ∀ x, f x = (lk l x).map fun z => min z 1000000000000001
  nn : ∀ p ∈ l, 0 ≤ p.2
theorem rep_nil : Rep (fun _ => none) [] := ⟨by simp, fun x => rfl, by simp⟩
theorem addL_mem : ∀ {l : List (Int × Int)} {s x : Int} {P : Int → Int → Prop}, (∀ p ∈ l, P p.1 p.2) → (∀ p ∈ l, p.1 = s → P s (p.2 + x)) → P s x → ∀ p ∈ addL l s x, P p.1 p.2
  | [], s, x, P, _, _, h3, p, hp => by
    simp [addL] at hp
    subst hp
    exact h3
  | q :: l, s, x, P, h1, h2, h3, p, hp => by
    unfold addL at hp
    split at hp
    · rcases List.mem_cons.1 hp with rfl | hp
      · exact h1 _ (by simp)
      · exact addL_mem (fun p hp => h1 p (by simp [hp])) (fun p hp => h2 p (by simp [hp])) h3 p hp
    · split at hp
      · rename_i e
        rcases List.mem_cons.1 hp with rfl | hp
        · dsimp only
          rw [e]
          exact h2 q (by simp) e
        · exact h1 p (by simp [hp])
      · rcases List.mem_cons.1 hp with rfl | hp
        · exact h3
        · exact h1 p hp
theorem Rep.sum {f : Int → Option Int} {l : List (Int × Int)} (h : Rep f l) {s x : Int} (hx : 0 ≤ x) : sumA f s x = min ((lk l s).getD 0 + x) 1000000000000001 := by
  unfold sumA
  rw [h.eq s]
  cases e : lk l s with
  | none => rfl
  | some z =>
    have := h.nn _ (lk_mem e)
    dsimp only at this
    simp only [Option.map_some, Option.getD_some]
    omega
theorem Rep.add {f : Int → Option Int} {l : List (Int × Int)} (h : Rep f l) {s x : Int} (hx : 0 ≤ x) : Rep (addA f s x) (addL l s x) :=
  ⟨addL_asc h.asc, fun y => by
    rw [lk_add h.asc]
    unfold addA
    by_cases e : y = s
    · rw [if_pos e, if_pos e, h.sum hx]
      rfl
    · rw [if_neg e, if_neg e]
      exact h.eq y, addL_mem (P := fun _ z => 0 ≤ z) h.nn (fun p hp _ => by have := h.nn p hp; omega) hx⟩
theorem Rep.over {f : Int → Option Int} {l : List (Int × Int)} (h : Rep f l) {s x : Int} (hx : 0 ≤ x) : decide (1000000000000000 < sumA f s x) = decide (1000000000000000 < (lk l s).getD 0 + x) := by
  rw [h.sum hx]
  congr 1
  exact propext ⟨fun h => by omega, fun h => by omega⟩
/-- what is owed back and owed, as lists -/
abbrev Ls := List (Int × Int) × List (Int × Int)
def stL (s : Ls) (x : Py) (d : Int) (g : Bool) : Ls :=
  if d < x.pa ∧ g = false then (addL s.1 x.se (x.pa - d), s.2) else if x.pa < d then (s.1, addL s.2 x.se (d - x.pa)) else s
def rL (l : List Py) (due : List Int) (good : List Bool) : Nat → Ls
  | 0 => ([], [])
  | k + 1 => match l[k]?, due[k]?, good[k]? with
    | some x, some d, some g => stL (rL l due good k) x d g
    | _, _, _ => rL l due good k
theorem rL_next {l : List Py} {due : List Int} {good : List Bool} {k : Nat} {x : Py} {d : Int} {g : Bool} (hx : l[k]? = some x) (hd : due[k]? = some d) (hg : good[k]? = some g) : rL l due good (k + 1) = stL (rL l due good k) x d g := by
  rw [rL, hx, hd, hg]
structure RepB (s : Sb) (t : Ls) : Prop where
  a : Rep s.f t.1
  b : Rep s.h t.2
  o : s.full = (ovr t.1 || ovr t.2)
theorem RepB.st {s : Sb} {t : Ls} (h : RepB s t) (x : Py) (d : Int) (g : Bool) : RepB (stB s x d g) (stL t x d g) := by
  unfold stB stL
  by_cases h1 : d < x.pa ∧ g = false
  · rw [if_pos h1, if_pos h1]
    have hx : 0 ≤ x.pa - d := by omega
    refine ⟨h.a.add hx, h.b, ?_⟩
    dsimp only
    rw [h.a.over hx, ovr_add h.a.asc hx, h.o]
    cases ovr t.1 <;> cases ovr t.2 <;> simp
  · rw [if_neg h1, if_neg h1]
    by_cases h2 : x.pa < d
    · rw [if_pos h2, if_pos h2]
      have hx : 0 ≤ d - x.pa := by omega
      refine ⟨h.a, h.b.add hx, ?_⟩
      dsimp only
      rw [h.b.over hx, ovr_add h.b.asc hx, h.o]
      cases ovr t.1 <;> cases ovr t.2 <;> simp
    · rw [if_neg h2, if_neg h2]
      exact h
theorem repB (l : List Py) (due : List Int) (good : List Bool) : ∀ k, RepB (rB l due good k) (rL l due good k)
  | 0 => ⟨rep_nil, rep_nil, rfl⟩
  | k + 1 => by
    have ih := repB l due good k
    unfold rB rL
    cases l[k]? with
    | none => exact ih
    | some x =>
      cases due[k]? with
      | none => exact ih
      | some d =>
        cases good[k]? with
        | none => exact ih
        | some g => exact ih.st x d g
/-- the seats are those of payments -/
theorem rL_seats (l : List Py) (due : List Int) (good : List Bool) (P : Int → Prop) (hP : ∀ x ∈ l, P x.se) : ∀ k, (∀ p ∈ (rL l due good k).1, P p.1) ∧ ∀ p ∈ (rL l due good k).2, P p.1
  | 0 => ⟨by simp [rL], by simp [rL]⟩
  | k + 1 => by
    have ih := rL_seats l due good P hP k
    unfold rL
    cases hx : l[k]? with
    | none => exact ih
    | some x =>
      cases due[k]? with
      | none => exact ih
      | some d =>
        cases good[k]? with
        | none => exact ih
        | some g =>
          have hs := hP x (mem_of_at hx)
          dsimp only
          unfold stL
          split
          · exact ⟨addL_mem (P := fun a _ => P a) ih.1 (fun p hp e => hs) hs, ih.2⟩
          · split
            · exact ⟨ih.1, addL_mem (P := fun a _ => P a) ih.2 (fun p hp e => hs) hs⟩
            · exact ih
theorem asc_ext : ∀ {a b : List Int}, a.Pairwise (· < ·) → b.Pairwise (· < ·) → (∀ x, x ∈ a ↔ x ∈ b) → a = b
  | [], [], _, _, _ => rfl
  | [], y :: b, _, _, h => by have := (h y).2 (by simp); simp at this
  | x :: a, [], _, _, h => by have := (h x).1 (by simp); simp at this
  | x :: a, y :: b, ha, hb, h => by
    rw [List.pairwise_cons] at ha hb
    have hxy : x = y := by
      rcases List.mem_cons.1 ((h x).1 (by simp)) with e | e
      · exact e
      · rcases List.mem_cons.1 ((h y).2 (by simp)) with e' | e'
        · exact e'.symm
        · have := hb.1 x e
          have := ha.1 y e'
          omega
    subst hxy
    congr 1
    refine asc_ext ha.2 hb.2 (fun z => ⟨fun hz => ?_, fun hz => ?_⟩)
    · rcases List.mem_cons.1 ((h z).1 (by simp [hz])) with e | e
      · subst e; have := ha.1 z hz; omega
      · exact e
    · rcases List.mem_cons.1 ((h z).2 (by simp [hz])) with e | e
      · subst e; have := hb.1 z hz; omega
      · exact e
/-- the entries of a map that says what a list says, where nothing is too much -/
theorem Ents.list {w w' : World} {v : Value} {n : Nat} {f : Int → Option Int} {l : List (Int × Int)} (h : Ents w w' v n f) (hr : Rep f l) (ho : ovr l = false) (hw : ∀ p ∈ l, wfI p.1) :
    l.length ≤ n ∧ w'.ownsRow w.heap.size 48 2 v l.length (l.flatMap p2) := by
  obtain ⟨ks, h1, h2, h3, h4⟩ := h
  have hz : ∀ p ∈ l, ¬ (1000000000000000 < p.2) := fun p hp => by
    unfold ovr at ho
    simpa using (List.any_eq_false.1 ho) p hp
  have hks : ks = l.map (·.1) := by
    refine asc_ext h1 (List.pairwise_map.2 hr.asc) (fun x => ?_)
    rw [h2, List.mem_map]
    constructor
    · rintro ⟨_, hx⟩
      rw [hr.eq x] at hx
      cases e : lk l x with
      | none => rw [e] at hx; cases hx
      | some z => exact ⟨_, lk_mem e, rfl⟩
    · rintro ⟨p, hp, rfl⟩
      refine ⟨hw p hp, ?_⟩
      rw [hr.eq, lk_of hr.asc hp]
      rfl
  have he : ent f ks = l := by
    unfold ent
    rw [hks, List.map_map]
    have : ∀ p ∈ l, ((fun s => (s, (f s).getD 0)) ∘ fun x => x.1) p = p := fun p hp => by
      have h5 := hz p hp
      have h6 : f p.1 = some p.2 := by
        rw [hr.eq, lk_of hr.asc hp]
        simp only [Option.map_some]
        congr 1
        omega
      simp only [Function.comp, h6, Option.getD_some]
    exact (List.map_congr_left this).trans (List.map_id' l)
  have hl : ks.length = l.length := by rw [hks, List.length_map]
  rw [he, hl] at h4
  exact ⟨by omega, h4⟩
/-- how Back ends, by lists -/
def BackL (w : World) (l : List Py) (due : List Int) (good : List Bool) (e : Ending) (w' : World) : Prop := Below w.heap.size w w' ∧
  ((bkOk l due good = false ∧ e = .returned (.tuple #[nilV, nilV, .int .i64 1])) ∨
   (bkOk l due good = true ∧ (ovr (rL l due good l.length).1 || ovr (rL l due good l.length).2) = true ∧ e = .returned (.tuple #[nilV, nilV, .int .i64 6])) ∨
   (bkOk l due good = true ∧ (ovr (rL l due good l.length).1 || ovr (rL l due good l.length).2) = false ∧ ∃ v1 v2, e = .returned (.tuple #[v1, v2, .int .i64 0]) ∧
     (rL l due good l.length).1.length ≤ l.length ∧ w'.ownsRow w.heap.size 48 2 v1 (rL l due good l.length).1.length ((rL l due good l.length).1.flatMap p2) ∧
     (rL l due good l.length).2.length ≤ l.length ∧ w'.ownsRow w.heap.size 48 2 v2 (rL l due good l.length).2.length ((rL l due good l.length).2.flatMap p2)))
theorem back_l {w : World} {A A1 A2 : Option Addr} {n n1 n2 c c1 c2 : Nat} {l : List Py} {due : List Int} {good : List Bool} (hn : l.length = n) (hn1 : due.length = n1) (hn2 : good.length = n2) (hc : Pys w A l) (hd : Ints w A1 due) (hg : Bos w A2 good) (hbig : n ≤ 1000000) (hbig1 : n1 ≤ 9223372036854775807) (hbig2 : n2 ≤ 9223372036854775807) (hwf : ∀ x ∈ l, wfI x.se) :
    Calls Try.prog 10 #[.slice A n c, .slice A1 n1 c1, .slice A2 n2 c2] w (BackL w l due good) := by
  refine (back_any hn hn1 hn2 hc hd hg hbig hbig1 hbig2 hwf).mono ?_
  rintro e w' ⟨hB, h⟩
  have hr := repB l due good l.length
  have hs := rL_seats l due good wfI hwf l.length
  refine ⟨hB, ?_⟩
  rcases h with ⟨h1, h2⟩ | ⟨h1, h2, h3⟩ | ⟨h1, h2, v1, v2, h3, h4, h5⟩
  · exact .inl ⟨h1, h2⟩
  · rw [hr.o] at h2
    exact .inr (.inl ⟨h1, h2, h3⟩)
  · rw [hr.o] at h2
    have h6 := Bool.or_eq_false_iff.1 h2
    obtain ⟨a1, a2⟩ := h4.list hr.a h6.1 hs.1
    obtain ⟨b1, b2⟩ := h5.list hr.b h6.2 hs.2
    exact .inr (.inr ⟨h1, h2, v1, v2, h3, a1, a2, b1, b2⟩)
end Go.Proofs.Ytohbdffmidbjhaa.Re
