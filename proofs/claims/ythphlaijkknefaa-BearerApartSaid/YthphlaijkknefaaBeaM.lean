/- Bearer pieces: what happens. -/
import Derived.Test.YthphlaijkknefaaBeaL
namespace Go.Proofs.Ythphlaijkknefaa.Bea
open Go.ChangeShapes Go.WideShapes Go.ChangeAt Go.RowKit Go.Proofs.Ythphlaijkknefaa.Cell
set_option linter.unusedVariables false
set_option linter.unusedSimpArgs false

/-- something that happens -/
structure Ac where
  kd : Int
  pi : Int
  co : Int
  wh : Int
  dy : Int
def doE (l : List Pc) (a : Ac) : Int := if a.kd = 0 then presE l a.pi a.co a.wh a.dy else if a.kd = 1 then repoE l a.pi a.dy else if a.kd = 2 then secuE l a.pi a.wh else findE l a.pi
def doN (l : List Pc) (a : Ac) : Int := if a.kd = 0 then unitsAt l a.pi else 0
def doF (a : Ac) (x : Pc) : Pc := if a.kd = 0 then { x with pd := x.pd.set a.co.toNat true } else if a.kd = 1 then { x with lo := a.dy } else if a.kd = 2 then { x with se := a.wh } else { x with lo := -1, se := -1 }
def doL (l : List Pc) (a : Ac) : List Pc := chg l a.pi (doF a)
/-- what do returns -/
def DoP (w : World) (n : Nat) (l : List Pc) (a : Ac) (e : Ending) (w' : World) : Prop :=
  (doE l a ≠ 0 ∧ e = .returned (.tuple #[.slice none 0 0, .int .i64 0, .int .i64 (doE l a)]) ∧ Below w.heap.size w w') ∨
  (doE l a = 0 ∧ ∃ v, e = .returned (.tuple #[v, .int .i64 (doN l a), .int .i64 0]) ∧ Out w w' n v (doL l a))
theorem Out.from {w w1 W : World} {n : Nat} {v : Value} {l : List Pc} (h : Out w1 W n v l) (hb : Below w.heap.size w w1) : Out w W n v l := ⟨h.v, h.n, Gen.over h.bl hb, h.up.mono hb.size⟩
variable {A : Option Addr} {n cap : Nat} {l : List Pc} {w : World}
set_option maxRecDepth 100000 in
set_option maxHeartbeats 4000000 in
theorem do_0 (a : Ac) (hn : l.length = n) (hc : Pcl w A l) (hsz : ∀ x ∈ l, x.pd.length ≤ 9223372036854775807) (hbig : n ≤ 9223372036854775807) (h0 : a.kd = 0) :
    Calls Try.prog 9 #[.slice A n cap, .agg #[.int .i64 a.kd, .int .i64 a.pi, .int .i64 a.co, .int .i64 a.wh, .int .i64 a.dy]] w (DoP w n l a) := by
  have h0b : (a.kd == 0) = true := by rw [h0]; rfl
  have hE : doE l a = presE l a.pi a.co a.wh a.dy := by unfold doE; rw [if_pos h0]
  have hN : doN l a = unitsAt l a.pi := by unfold doN; rw [if_pos h0]
  have hL : doL l a = chg l a.pi (fun x => { x with pd := x.pd.set a.co.toNat true }) := by unfold doL; congr 1; funext x; unfold doF; rw [if_pos h0]
  obtain ⟨E, hE2⟩ : ∃ E, doE l a = E := ⟨_, rfl⟩
  obtain ⟨N, hN2⟩ : ∃ N, doN l a = N := ⟨_, rfl⟩
  have HE := Lib.hid (hE.symm.trans hE2)
  have HE2 := Lib.hid hE2
  have HN2 := Lib.hid hN2
  have HL := Lib.hid hL
  have HNN := Lib.hid (hN.symm.trans hN2)
  clear hE hN hL hE2 hN2
  have hB : Below w.heap.size w (w.alloc (.cells #[.int .i64 a.kd, .int .i64 a.pi, .int .i64 a.co, .int .i64 a.wh, .int .i64 a.dy] 27)) := Gen.b_alloc (Below.refl _ _)
  obtain ⟨kd, pi, co, wh, dy⟩ := a
  dsimp only at *
  clear h0
  go_enter Try.func9, Try.ntmps9
  go_wp2_with (fail)
  go_must (refine (present_all pi co wh dy hn (hc.keep hB) hsz hbig).mono ?_)
  rintro e w1 (⟨h, rfl, hb⟩ | ⟨h, v, rfl, hO⟩)
  · rw [HE.out] at h ⊢
    have HX := Lib.hid (show DoP w n l ⟨kd, pi, co, wh, dy⟩ (.returned (.tuple #[.slice none 0 0, .int .i64 0, .int .i64 E])) w1 from .inl ⟨by rw [HE2.out]; exact h, by rw [HE2.out], Gen.over hb hB⟩)
    clear hn hc hsz hb h
    go_wp2
    exact bodyPost_ret (v := .tuple #[.slice none 0 0, .int .i64 0, .int .i64 E]) (by simp [results, Try.results9, go_sem]) rfl HX.out
  · obtain ⟨g, c, rfl, _⟩ := hO.v
    have HX := Lib.hid (show DoP w n l ⟨kd, pi, co, wh, dy⟩ (.returned (.tuple #[.slice (some ⟨g, 0, none⟩) n c, .int .i64 N, .int .i64 0])) w1 from .inr ⟨by rw [HE2.out, ← HE.out]; exact h, _, by rw [HN2.out], by rw [HL.out]; exact hO.from hB⟩)
    rw [HNN.out]
    clear hn hc hsz hO h
    go_wp2
    exact bodyPost_ret (v := .tuple #[.slice (some ⟨g, 0, none⟩) n c, .int .i64 N, .int .i64 0]) (by simp [results, Try.results9, go_sem]) rfl HX.out
set_option maxRecDepth 100000 in
set_option maxHeartbeats 4000000 in
theorem do_1 (a : Ac) (hn : l.length = n) (hc : Pcl w A l) (hsz : ∀ x ∈ l, x.pd.length ≤ 9223372036854775807) (hbig : n ≤ 9223372036854775807) (h0 : a.kd ≠ 0) (h1 : a.kd = 1) :
    Calls Try.prog 9 #[.slice A n cap, .agg #[.int .i64 a.kd, .int .i64 a.pi, .int .i64 a.co, .int .i64 a.wh, .int .i64 a.dy]] w (DoP w n l a) := by
  have h0b : (a.kd == 0) = false := by simpa using h0
  have h1b : (a.kd == 1) = true := by rw [h1]; rfl
  have hE : doE l a = repoE l a.pi a.dy := by unfold doE; rw [if_neg h0, if_pos h1]
  have hN : doN l a = 0 := by unfold doN; rw [if_neg h0]
  have hL : doL l a = chg l a.pi (fun x => { x with lo := a.dy }) := by unfold doL; congr 1; funext x; unfold doF; rw [if_neg h0, if_pos h1]
  obtain ⟨E, hE2⟩ : ∃ E, doE l a = E := ⟨_, rfl⟩
  obtain ⟨N, hN2⟩ : ∃ N, doN l a = N := ⟨_, rfl⟩
  have HE := Lib.hid (hE.symm.trans hE2)
  have HE2 := Lib.hid hE2
  have HN2 := Lib.hid hN2
  have HL := Lib.hid hL
  have HNN := Lib.hid (hN.symm.trans hN2)
  clear hE hN hL hE2 hN2
  have hB : Below w.heap.size w (w.alloc (.cells #[.int .i64 a.kd, .int .i64 a.pi, .int .i64 a.co, .int .i64 a.wh, .int .i64 a.dy] 27)) := Gen.b_alloc (Below.refl _ _)
  obtain ⟨kd, pi, co, wh, dy⟩ := a
  dsimp only at *
  clear h0 h1
  go_enter Try.func9, Try.ntmps9
  go_wp2_with (fail)
  go_must (refine (report_all pi dy hn (hc.keep hB) hsz hbig).mono ?_)
  rintro e w1 (⟨h, rfl, hb⟩ | ⟨h, v, rfl, hO⟩)
  · rw [HE.out] at h ⊢
    have HX := Lib.hid (show DoP w n l ⟨kd, pi, co, wh, dy⟩ (.returned (.tuple #[.slice none 0 0, .int .i64 0, .int .i64 E])) w1 from .inl ⟨by rw [HE2.out]; exact h, by rw [HE2.out], Gen.over hb hB⟩)
    clear hn hc hsz hb h
    go_wp2
    exact bodyPost_ret (v := .tuple #[.slice none 0 0, .int .i64 0, .int .i64 E]) (by simp [results, Try.results9, go_sem]) rfl HX.out
  · obtain ⟨g, c, rfl, _⟩ := hO.v
    have HX := Lib.hid (show DoP w n l ⟨kd, pi, co, wh, dy⟩ (.returned (.tuple #[.slice (some ⟨g, 0, none⟩) n c, .int .i64 0, .int .i64 0])) w1 from .inr ⟨by rw [HE2.out, ← HE.out]; exact h, _, by rw [HN2.out, ← HNN.out], by rw [HL.out]; exact hO.from hB⟩)
    clear hn hc hsz hO h
    go_wp2
    exact bodyPost_ret (v := .tuple #[.slice (some ⟨g, 0, none⟩) n c, .int .i64 0, .int .i64 0]) (by simp [results, Try.results9, go_sem]) rfl HX.out
set_option maxRecDepth 100000 in
set_option maxHeartbeats 4000000 in
theorem do_2 (a : Ac) (hn : l.length = n) (hc : Pcl w A l) (hsz : ∀ x ∈ l, x.pd.length ≤ 9223372036854775807) (hbig : n ≤ 9223372036854775807) (h0 : a.kd ≠ 0) (h1 : a.kd ≠ 1) (h2 : a.kd = 2) :
    Calls Try.prog 9 #[.slice A n cap, .agg #[.int .i64 a.kd, .int .i64 a.pi, .int .i64 a.co, .int .i64 a.wh, .int .i64 a.dy]] w (DoP w n l a) := by
  have h0b : (a.kd == 0) = false := by simpa using h0
  have h1b : (a.kd == 1) = false := by simpa using h1
  have h2b : (a.kd == 2) = true := by rw [h2]; rfl
  have hE : doE l a = secuE l a.pi a.wh := by unfold doE; rw [if_neg h0, if_neg h1, if_pos h2]
  have hN : doN l a = 0 := by unfold doN; rw [if_neg h0]
  have hL : doL l a = chg l a.pi (fun x => { x with se := a.wh }) := by unfold doL; congr 1; funext x; unfold doF; rw [if_neg h0, if_neg h1, if_pos h2]
  obtain ⟨E, hE2⟩ : ∃ E, doE l a = E := ⟨_, rfl⟩
  obtain ⟨N, hN2⟩ : ∃ N, doN l a = N := ⟨_, rfl⟩
  have HE := Lib.hid (hE.symm.trans hE2)
  have HE2 := Lib.hid hE2
  have HN2 := Lib.hid hN2
  have HL := Lib.hid hL
  have HNN := Lib.hid (hN.symm.trans hN2)
  clear hE hN hL hE2 hN2
  have hB : Below w.heap.size w (w.alloc (.cells #[.int .i64 a.kd, .int .i64 a.pi, .int .i64 a.co, .int .i64 a.wh, .int .i64 a.dy] 27)) := Gen.b_alloc (Below.refl _ _)
  obtain ⟨kd, pi, co, wh, dy⟩ := a
  dsimp only at *
  clear h0 h1 h2
  go_enter Try.func9, Try.ntmps9
  go_wp2_with (fail)
  go_must (refine (secure_all pi wh hn (hc.keep hB) hsz hbig).mono ?_)
  rintro e w1 (⟨h, rfl, hb⟩ | ⟨h, v, rfl, hO⟩)
  · rw [HE.out] at h ⊢
    have HX := Lib.hid (show DoP w n l ⟨kd, pi, co, wh, dy⟩ (.returned (.tuple #[.slice none 0 0, .int .i64 0, .int .i64 E])) w1 from .inl ⟨by rw [HE2.out]; exact h, by rw [HE2.out], Gen.over hb hB⟩)
    clear hn hc hsz hb h
    go_wp2
    exact bodyPost_ret (v := .tuple #[.slice none 0 0, .int .i64 0, .int .i64 E]) (by simp [results, Try.results9, go_sem]) rfl HX.out
  · obtain ⟨g, c, rfl, _⟩ := hO.v
    have HX := Lib.hid (show DoP w n l ⟨kd, pi, co, wh, dy⟩ (.returned (.tuple #[.slice (some ⟨g, 0, none⟩) n c, .int .i64 0, .int .i64 0])) w1 from .inr ⟨by rw [HE2.out, ← HE.out]; exact h, _, by rw [HN2.out, ← HNN.out], by rw [HL.out]; exact hO.from hB⟩)
    clear hn hc hsz hO h
    go_wp2
    exact bodyPost_ret (v := .tuple #[.slice (some ⟨g, 0, none⟩) n c, .int .i64 0, .int .i64 0]) (by simp [results, Try.results9, go_sem]) rfl HX.out
set_option maxRecDepth 100000 in
set_option maxHeartbeats 4000000 in
theorem do_3 (a : Ac) (hn : l.length = n) (hc : Pcl w A l) (hsz : ∀ x ∈ l, x.pd.length ≤ 9223372036854775807) (hbig : n ≤ 9223372036854775807) (h0 : a.kd ≠ 0) (h1 : a.kd ≠ 1) (h2 : a.kd ≠ 2) :
    Calls Try.prog 9 #[.slice A n cap, .agg #[.int .i64 a.kd, .int .i64 a.pi, .int .i64 a.co, .int .i64 a.wh, .int .i64 a.dy]] w (DoP w n l a) := by
  have h0b : (a.kd == 0) = false := by simpa using h0
  have h1b : (a.kd == 1) = false := by simpa using h1
  have h2b : (a.kd == 2) = false := by simpa using h2
  have hE : doE l a = findE l a.pi := by unfold doE; rw [if_neg h0, if_neg h1, if_neg h2]
  have hN : doN l a = 0 := by unfold doN; rw [if_neg h0]
  have hL : doL l a = chg l a.pi (fun x => { x with lo := -1, se := -1 }) := by unfold doL; congr 1; funext x; unfold doF; rw [if_neg h0, if_neg h1, if_neg h2]
  obtain ⟨E, hE2⟩ : ∃ E, doE l a = E := ⟨_, rfl⟩
  obtain ⟨N, hN2⟩ : ∃ N, doN l a = N := ⟨_, rfl⟩
  have HE := Lib.hid (hE.symm.trans hE2)
  have HE2 := Lib.hid hE2
  have HN2 := Lib.hid hN2
  have HL := Lib.hid hL
  have HNN := Lib.hid (hN.symm.trans hN2)
  clear hE hN hL hE2 hN2
  have hB : Below w.heap.size w (w.alloc (.cells #[.int .i64 a.kd, .int .i64 a.pi, .int .i64 a.co, .int .i64 a.wh, .int .i64 a.dy] 27)) := Gen.b_alloc (Below.refl _ _)
  obtain ⟨kd, pi, co, wh, dy⟩ := a
  dsimp only at *
  clear h0 h1 h2
  go_enter Try.func9, Try.ntmps9
  go_wp2_with (fail)
  go_must (refine (find_all pi hn (hc.keep hB) hsz hbig).mono ?_)
  rintro e w1 (⟨h, rfl, hb⟩ | ⟨h, v, rfl, hO⟩)
  · rw [HE.out] at h ⊢
    have HX := Lib.hid (show DoP w n l ⟨kd, pi, co, wh, dy⟩ (.returned (.tuple #[.slice none 0 0, .int .i64 0, .int .i64 E])) w1 from .inl ⟨by rw [HE2.out]; exact h, by rw [HE2.out], Gen.over hb hB⟩)
    clear hn hc hsz hb h
    go_wp2
    exact bodyPost_ret (v := .tuple #[.slice none 0 0, .int .i64 0, .int .i64 E]) (by simp [results, Try.results9, go_sem]) rfl HX.out
  · obtain ⟨g, c, rfl, _⟩ := hO.v
    have HX := Lib.hid (show DoP w n l ⟨kd, pi, co, wh, dy⟩ (.returned (.tuple #[.slice (some ⟨g, 0, none⟩) n c, .int .i64 0, .int .i64 0])) w1 from .inr ⟨by rw [HE2.out, ← HE.out]; exact h, _, by rw [HN2.out, ← HNN.out], by rw [HL.out]; exact hO.from hB⟩)
    clear hn hc hsz hO h
    go_wp2
    exact bodyPost_ret (v := .tuple #[.slice (some ⟨g, 0, none⟩) n c, .int .i64 0, .int .i64 0]) (by simp [results, Try.results9, go_sem]) rfl HX.out
theorem do_any (a : Ac) (hn : l.length = n) (hc : Pcl w A l) (hsz : ∀ x ∈ l, x.pd.length ≤ 9223372036854775807) (hbig : n ≤ 9223372036854775807) :
    Calls Try.prog 9 #[.slice A n cap, .agg #[.int .i64 a.kd, .int .i64 a.pi, .int .i64 a.co, .int .i64 a.wh, .int .i64 a.dy]] w (DoP w n l a) := by
  by_cases h0 : a.kd = 0
  · exact do_0 a hn hc hsz hbig h0
  · by_cases h1 : a.kd = 1
    · exact do_1 a hn hc hsz hbig h0 h1
    · by_cases h2 : a.kd = 2
      · exact do_2 a hn hc hsz hbig h0 h1 h2
      · exact do_3 a hn hc hsz hbig h0 h1 h2
end Go.Proofs.Ythphlaijkknefaa.Bea
