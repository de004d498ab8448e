/- Two rings side by side: the program's and the reference's. -/
import Derived.Test.YtblegaclcpoonaaSelN
import Derived.Test.YtblegaclcpoonaaSelL
namespace Go.Proofs.Ytblegaclcpoonaa.Seal
open Go.ChangeShapes Go.WideShapes Go.ChangeAt Go.RowKit Go.Joins Go.Maps Go.WideMaps Go.Proofs.Ytblegaclcpoonaa.Cell
set_option linter.unusedVariables false
set_option linter.unusedSimpArgs false

theorem SgnR.uniq {L L1 L2 : List En} {x : En} {m1 m2 : Sg} (hn : L.Nodup) (h1 : SgnR L x L1 m1) (h2 : SgnR L x L2 m2) : L1 = L2 ∧ m1 = m2 := by
  cases hk : isK x.1
  · obtain ⟨a, b⟩ := h1.bad hk
    obtain ⟨c, d⟩ := h2.bad hk
    exact ⟨a.trans c.symm, b.trans d.symm⟩
  · by_cases hx : x ∈ L
    · obtain ⟨a, p, hp, b⟩ := h1.old hk hx
      obtain ⟨c, q, hq, d⟩ := h2.old hk hx
      obtain rfl := at_inj hn hp hq
      exact ⟨a.trans c.symm, b.trans d.symm⟩
    · obtain ⟨a, b⟩ := h1.fresh hk hx
      obtain ⟨c, d⟩ := h2.fresh hk hx
      exact ⟨a.trans c.symm, b.trans d.symm⟩
theorem sgn_ex (L : List En) (x : En) : ∃ L' m, SgnR L x L' m := by
  cases hk : isK x.1
  · exact ⟨L, sg0, .inl ⟨hk, rfl, rfl⟩⟩
  · by_cases hx : x ∈ L
    · obtain ⟨p, hp⟩ := List.getElem?_of_mem hx
      exact ⟨L, _, .inr ⟨hk, p, hp, rfl, .inl ⟨hx, rfl⟩⟩⟩
    · exact ⟨L ++ [x], _, .inr ⟨hk, L.length, by simp, rfl, .inr ⟨hx, rfl, rfl⟩⟩⟩
theorem hol_ex (L : List En) (k : Int) (s : ByteArray) (mk : Int) : ∃ b, Hol L k s mk b := by
  by_cases h : ∃ p : Nat, L[p]? = some (k, s) ∧ mk = p
  · exact ⟨true, ⟨fun _ => h, fun _ => rfl⟩⟩
  · exact ⟨false, ⟨(fun c => by cases c), (fun c => absurd c h)⟩⟩
theorem Hol.no {L : List En} {k mk : Int} {s : ByteArray} {b : Bool} (h : Hol L k s mk b) (hn : ¬ ∃ p : Nat, L[p]? = some (k, s) ∧ mk = p) : b = false := by
  cases b
  · rfl
  · exact absurd (h.1 rfl) hn
theorem Hol.yes {L : List En} {k mk : Int} {s : ByteArray} {b : Bool} (h : Hol L k s mk b) (p : Nat) (hp : L[p]? = some (k, s)) (hm : mk = p) : b = true := h.2 ⟨p, hp, hm⟩
theorem Rg.valid {W : World} {g gm : Nat} {eb : Option Nat} {L : List En} (h : Rg W g gm eb L) {k mk : Int} {s : ByteArray} (hx : okE (k, s)) {b : Bool} (hb : Hol L k s mk b) :
    Calls Try.prog 47 #[.pointer (some ⟨g, 0, none⟩), .agg #[.int .i64 k, .string s, .int .i64 mk]] W fun e w' => e = .returned (.bool b) ∧ Below W.heap.size W w' := by
  by_cases hm : (k, s) ∈ L
  · obtain ⟨p, hp⟩ := List.getElem?_of_mem hm
    refine (valid_yes mk h hx hp).mono ?_
    rintro e w1 ⟨rfl, h1⟩
    refine ⟨ret_bool ?_, h1⟩
    by_cases e : (p : Int) = mk
    · rw [hb.yes p hp e.symm, e]; simp
    · rw [hb.no]
      · simpa using e
      · rintro ⟨q, hq, rfl⟩
        exact e (by rw [at_inj h.nd hp hq])
  · refine (valid_no mk h hx hm).mono ?_
    rintro e w1 ⟨rfl, h1⟩
    refine ⟨ret_bool (hb.no ?_).symm, h1⟩
    rintro ⟨q, hq, _⟩
    exact hm (List.mem_of_getElem? hq)
set_option maxRecDepth 100000 in
set_option maxHeartbeats 4000000 in
theorem rvalid_is {W : World} {g : Nat} {eb : Option Nat} {L : List En} (h : Rf W g eb L) (hL : L.length ≤ 1000) {k mk : Int} {s : ByteArray} {b : Bool} (hb : Hol L k s mk b) :
    Calls Try.prog 48 #[.pointer (some ⟨g, 0, none⟩), .agg #[.int .i64 k, .string s, .int .i64 mk]] W fun e w' => e = .returned (.bool b) ∧ Below W.heap.size W w' := by
  have hB : Below W.heap.size W (W.alloc (.cells #[.int .i64 k, .string s, .int .i64 mk] 62)) := Gen.b_alloc (Below.refl _ _)
  obtain ⟨A, c, hr, ho, _⟩ := (h.keep hB).x
  have c0 := hr.cell 0
  by_cases h0 : 0 ≤ mk
  · obtain ⟨p, rfl⟩ : ∃ p : Nat, mk = p := ⟨mk.toNat, by omega⟩
    by_cases h1 : p < L.length
    · have h1I : (p : Int) < (L.length : Int) := by omega
      obtain ⟨y, hy⟩ := at_ L p h1
      obtain ⟨b5, hA, p0, p1⟩ := own_two rfl ho hy
      subst hA
      obtain ⟨yk, ys⟩ := y
      dsimp only at p0 p1
      by_cases hk : yk = k
      · obtain rfl : k = yk := hk.symm
        by_cases hs : ys.toList = s.toList
        · obtain rfl : s = ys := (str_inj hs).symm
          obtain rfl : true = b := (hb.yes p hy rfl).symm
          clear hs hb hy
          go_enter Try.func48, Try.ntmps48
          go_wp2
          go_quiet (fail)
          go_wp2
          go_ret
          exact ⟨rfl, Gen.dN hB _⟩
        · obtain rfl : false = b := (hb.no (by
            rintro ⟨q, hq, e⟩
            obtain rfl : p = q := by omega
            rw [hy] at hq
            injection hq with hq
            injection hq with _ hq
            exact hs (by rw [hq]))).symm
          have hs2 : (ys.toList == s.toList) = false := by simpa using hs
          clear hb hy
          go_enter Try.func48, Try.ntmps48
          go_wp2
          go_quiet (fail)
          go_wp2
          go_ret
          exact ⟨rfl, Gen.dN hB _⟩
      · obtain rfl : false = b := (hb.no (by
          rintro ⟨q, hq, e⟩
          obtain rfl : p = q := by omega
          rw [hy] at hq
          injection hq with hq
          injection hq with hq _
          exact hk hq)).symm
        clear hb hy
        go_enter Try.func48, Try.ntmps48
        go_wp2
        go_quiet (fail)
        go_wp2
        go_ret
        exact ⟨rfl, Gen.dN hB _⟩
    · have h1D : decide (p < L.length) = false := decide_eq_false h1
      have h1L : L.length ≤ p := by omega
      obtain rfl : false = b := (hb.no (by
        rintro ⟨q, hq, e⟩
        have := lt_of_at hq
        omega)).symm
      clear hb
      go_enter Try.func48, Try.ntmps48
      go_wp2
      go_quiet (fail)
      go_wp2
      go_ret
      exact ⟨rfl, Gen.dN hB _⟩
  · obtain rfl : false = b := (hb.no (by
      rintro ⟨q, hq, e⟩
      omega)).symm
    have h0D : decide (0 ≤ mk) = false := decide_eq_false h0
    clear hb
    go_enter Try.func48, Try.ntmps48
    go_wp2
    go_quiet (fail)
    go_wp2
    go_ret
    exact ⟨rfl, Gen.dN hB _⟩
theorem Rf.same {W W' : World} {g : Nat} {eb : Option Nat} {L : List En} (h : Rf W g eb L) (hk : ∀ q, q = g ∨ eb = some q → W'.heap[q]? = W.heap[q]?) : Rf W' g eb L := by
  obtain ⟨A, c, h1, h2, h3⟩ := h.x
  exact ⟨⟨A, c, (hk g (.inl rfl)).trans h1, own_same h2 fun q hq => hk q (.inr (h3.symm.trans hq)), h3⟩⟩
theorem Rg.same {W W' : World} {g gm : Nat} {eb : Option Nat} {L : List En} (h : Rg W g gm eb L) (hk : ∀ q, q = g ∨ q = gm ∨ eb = some q → W'.heap[q]? = W.heap[q]?) : Rg W' g gm eb L := by
  obtain ⟨A, c, h1, h2, h3⟩ := h.x
  refine ⟨⟨A, c, (hk g (.inl rfl)).trans h1, own_same h2 fun q hq => hk q (.inr (.inr (h3.symm.trans hq))), h3⟩, ?_, h.nd, h.ok, h.lt⟩
  obtain ⟨es, clock, g1, g2, g3, g4⟩ := h.m
  exact ⟨es, clock, (hk gm (.inr (.inl rfl))).trans g1, g2, g3, g4⟩
theorem Rg.glt {W : World} {g gm : Nat} {eb : Option Nat} {L : List En} (h : Rg W g gm eb L) : g < W.heap.size := by
  obtain ⟨A, c, hr, _⟩ := h.x
  exact hr.lt
/-- both rings, apart -/
structure Tw (w0 : World) (g gm gq : Nat) (W : World) (eb eq : Option Nat) (L1 L2 : List En) : Prop where
  r : Rg W g gm eb L1
  f : Rf W gq eq L2
  bl : Below w0.heap.size w0 W
  w0g : w0.heap.size ≤ gm
  gl : g < gq
  e1 : eb ≠ some gq
  e3 : ∀ q, eb = some q → eq ≠ some q
theorem Tw.keep {w0 W W' : World} {g gm gq : Nat} {eb eq : Option Nat} {L1 L2 : List En} (h : Tw w0 g gm gq W eb eq L1 L2) (hb : Below W.heap.size W W') : Tw w0 g gm gq W' eb eq L1 L2 :=
  ⟨h.r.keep hb, h.f.keep hb, Gen.over hb h.bl, h.w0g, h.gl, h.e1, h.e3⟩
theorem Tw.sign_r {w0 W : World} {g gm gq : Nat} {eb eq : Option Nat} {L L2 L' : List En} {k : Int} {s : ByteArray} {m : Sg} (h : Tw w0 g gm gq W eb eq L L2) (hx : okE (k, s)) (hL : L.length ≤ 1000) (hs : SgnR L (k, s) L' m) :
    Calls Try.prog 45 #[.pointer (some ⟨g, 0, none⟩), .int .i64 k, .string s] W fun e w' => e = .returned (.agg #[.int .i64 m.k, .string m.s, .int .i64 m.m]) ∧ ∃ eb', Tw w0 g gm gq w' eb' eq L' L2 := by
  refine (sign_any h.r hx hL h.bl h.w0g).mono ?_
  rintro e w1 ⟨m1, L1, eb', rfl, h1, h2, h3, h4, h5, h6⟩
  obtain ⟨rfl, rfl⟩ := SgnR.uniq h.r.nd h1 hs
  have hgq := h.gl
  have hlt := h.r.lt
  have hql := h.f.lt
  obtain ⟨A, c, _, ho, he⟩ := h.f.x
  have hqb : ∀ q, eq = some q → gq + 1 ≤ q ∧ q < W.heap.size := fun q hq => ho.lt q (he.trans hq)
  refine ⟨rfl, eb', h2, h.f.same ?_, h4, h.w0g, h.gl, ?_, ?_⟩
  · rintro q (rfl | hq)
    · exact h6 _ hql (by omega) (by omega) h.e1
    · have := hqb q hq
      exact h6 q this.2 (by omega) (by omega) (fun c => h.e3 q c hq)
  · rcases h3 with e | ⟨b, e, hb⟩
    · rw [e]; exact h.e1
    · rw [e]; intro c; injection c with c; omega
  · intro q hq c
    have := hqb q c
    rcases h3 with e | ⟨b, e, hb⟩
    · exact h.e3 q (e.symm.trans hq) c
    · rw [e] at hq; injection hq with hq; omega
theorem rsign_any {W0 W : World} {g : Nat} {eb : Option Nat} {L L' : List En} {k : Int} {s : ByteArray} {m : Sg} (h : Rf W g eb L) (hn : L.Nodup) (hL : L.length ≤ 1000) (hB : Below W0.heap.size W0 W) (hg : W0.heap.size ≤ g) (hs : SgnR L (k, s) L' m) :
    Calls Try.prog 46 #[.pointer (some ⟨g, 0, none⟩), .int .i64 k, .string s] W fun e w' => e = .returned (.agg #[.int .i64 m.k, .string m.s, .int .i64 m.m]) ∧ ∃ eb', Rf w' g eb' L' ∧ (eb' = eb ∨ ∃ b, eb' = some b ∧ W.heap.size ≤ b) ∧ Below W0.heap.size W0 w' ∧ W.heap.size ≤ w'.heap.size ∧ ∀ q, q < W.heap.size → q ≠ g → eb ≠ some q → w'.heap[q]? = W.heap[q]? := by
  cases hk : isK k
  · obtain ⟨rfl, rfl⟩ := hs.bad hk
    refine (rsign_bad g hk).mono ?_
    rintro e w1 ⟨rfl, hb⟩
    exact ⟨rfl, eb, h.keep hb, .inl rfl, Gen.over hb hB, hb.size, fun q hq _ _ => hb.block q hq⟩
  · by_cases hx : (k, s) ∈ L
    · obtain ⟨rfl, p, hp, rfl⟩ := hs.old hk hx
      refine (rsign_old h hL hn hk hp).mono ?_
      rintro e w1 ⟨rfl, hb⟩
      exact ⟨rfl, eb, h.keep hb, .inl rfl, Gen.over hb hB, hb.size, fun q hq _ _ => hb.block q hq⟩
    · obtain ⟨rfl, rfl⟩ := hs.fresh hk hx
      exact rsign_new h hL hk hx hB hg
theorem Tw.sign_q {w0 W : World} {g gm gq : Nat} {eb eq : Option Nat} {L1 L L' : List En} {k : Int} {s : ByteArray} {m : Sg} (h : Tw w0 g gm gq W eb eq L1 L) (hn : L.Nodup) (hL : L.length ≤ 1000) (hs : SgnR L (k, s) L' m) :
    Calls Try.prog 46 #[.pointer (some ⟨gq, 0, none⟩), .int .i64 k, .string s] W fun e w' => e = .returned (.agg #[.int .i64 m.k, .string m.s, .int .i64 m.m]) ∧ ∃ eq', Tw w0 g gm gq w' eb eq' L1 L' := by
  have hgq := h.gl
  have hlt := h.r.lt
  have hgl := h.r.glt
  refine (rsign_any (W0 := w0) h.f hn hL h.bl (by have := h.w0g; omega) hs).mono ?_
  rintro e w1 ⟨rfl, eq', h2, h3, h4, h5, h6⟩
  obtain ⟨A, c, _, ho, he⟩ := h.f.x
  have hqb : ∀ q, eq = some q → gq + 1 ≤ q ∧ q < W.heap.size := fun q hq => ho.lt q (he.trans hq)
  obtain ⟨A', c', _, ho', he'⟩ := h.r.x
  have hbb : ∀ q, eb = some q → g + 1 ≤ q ∧ q < W.heap.size := fun q hq => ho'.lt q (he'.trans hq)
  refine ⟨rfl, eq', h.r.same ?_, h2, h4, h.w0g, h.gl, h.e1, ?_⟩
  · rintro q (rfl | rfl | hq)
    · exact h6 _ hgl (by omega) (fun c => by have := hqb _ c; omega)
    · exact h6 _ (by omega) (by omega) (fun c => by have := hqb _ c; omega)
    · exact h6 q (hbb q hq).2 (fun c => h.e1 (c ▸ hq)) (fun c => h.e3 q hq c)
  · intro q hq c
    have := hbb q hq
    rcases h3 with e | ⟨b, e, hb⟩
    · exact h.e3 q hq (e.symm.trans c)
    · rw [e] at c; injection c with c; omega
theorem Tw.valid_r {w0 W : World} {g gm gq : Nat} {eb eq : Option Nat} {L1 L2 : List En} {k mk : Int} {s : ByteArray} {b : Bool} (h : Tw w0 g gm gq W eb eq L1 L2) (hx : okE (k, s)) (hb : Hol L1 k s mk b) :
    Calls Try.prog 47 #[.pointer (some ⟨g, 0, none⟩), .agg #[.int .i64 k, .string s, .int .i64 mk]] W fun e w' => e = .returned (.bool b) ∧ Tw w0 g gm gq w' eb eq L1 L2 := by
  refine (h.r.valid hx hb).mono ?_
  rintro e w1 ⟨rfl, h1⟩
  exact ⟨rfl, h.keep h1⟩
theorem Tw.valid_q {w0 W : World} {g gm gq : Nat} {eb eq : Option Nat} {L1 L2 : List En} {k mk : Int} {s : ByteArray} {b : Bool} (h : Tw w0 g gm gq W eb eq L1 L2) (hL : L2.length ≤ 1000) (hb : Hol L2 k s mk b) :
    Calls Try.prog 48 #[.pointer (some ⟨gq, 0, none⟩), .agg #[.int .i64 k, .string s, .int .i64 mk]] W fun e w' => e = .returned (.bool b) ∧ Tw w0 g gm gq w' eb eq L1 L2 := by
  refine (rvalid_is h.f hL hb).mono ?_
  rintro e w1 ⟨rfl, h1⟩
  exact ⟨rfl, h.keep h1⟩
end Go.Proofs.Ytblegaclcpoonaa.Seal
