/- Two rings side by side: the program's and the reference's. -/
import Derived.Test.YtblegaclcpoonabSelN
import Derived.Test.YtblegaclcpoonabSelL
namespace Go.Proofs.Ytblegaclcpoonab.Seal
open Go.ChangeShapes Go.WideShapes Go.ChangeAt Go.RowKit Go.Joins Go.Maps Go.WideMaps Go.Proofs.Ytblegaclcpoonab.Cell
set_option linter.unusedVariables false
set_option linter.unusedSimpArgs false

theorem SgnR.uniq {L L1 L2 : List En} {x : En} {m1 m2 : Sg} (hn : L.Nodup) (h1 : SgnR L x L1 m1) (h2 : SgnR L x L2 m2) : L1 = L2 ∧ m1 = m2 := by
  cases hk : isK x.1
  · obtain ⟨a, b⟩ := h1.bad hk
    obtain ⟨c, d⟩ := h2.bad hk
    exact ⟨a.trans c.symm, b.trans d.symm⟩
  · by_cases hx : x ∈ L
    · obtain ⟨a, p, hp, b⟩ := h1.old hk hx
      obtain ⟨c, q, hq, d⟩ := h2.old hk hx
      obtain rfl := at_inj hn hp hq
      exact ⟨a.trans c.symm, b.trans d.symm⟩
    · obtain ⟨a, b⟩ := h1.fresh hk hx
      obtain ⟨c, d⟩ := h2.fresh hk hx
      exact ⟨a.trans c.symm, b.trans d.symm⟩
theorem sgn_ex (L : List En) (x : En) : ∃ L' m, SgnR L x L' m := by
  cases hk : isK x.1
  · exact ⟨L, sg0, .inl ⟨hk, rfl, rfl⟩⟩
  · by_cases hx : x ∈ L
    · obtain ⟨p, hp⟩ := List.getElem?_of_mem hx
      exact ⟨L, _, .inr ⟨hk, p, hp, rfl, .inl ⟨hx, rfl⟩⟩⟩
    · exact ⟨L ++ [x], _, .inr ⟨hk, L.length, by simp, rfl, .inr ⟨hx, rfl, rfl⟩⟩⟩
theorem hol_ex (L : List En) (k : Int) (s : ByteArray) (mk : Int) : ∃ b, Hol L k s mk b := by
  by_cases h : ∃ p : Nat, L[p]? = some (k, s) ∧ mk = p
  · exact ⟨true, ⟨fun _ => h, fun _ => rfl⟩⟩
  · exact ⟨false, ⟨(fun c => by cases c), (fun c => absurd c h)⟩⟩
theorem Hol.no {L : List En} {k mk : Int} {s : ByteArray} {b : Bool} (h : Hol L k s mk b) (hn : ¬ ∃ p : Nat, L[p]? = some (k, s) ∧ mk = p) : b = false := by
  cases b
  · rfl
  · exact absurd (h.1 rfl) hn
theorem Hol.yes {L : List En} {k mk : Int} {s : ByteArray} {b : Bool} (h : Hol L k s mk b) (p : Nat) (hp : L[p]? = some (k, s)) (hm : mk = p) : b = true := h.2 ⟨p, hp, hm⟩
theorem Rg.valid {W : World} {g gm : Nat} {eb : Option Nat} {L : List En} (h : Rg W g gm eb L) {k mk : Int} {s : ByteArray} (hx : okE (k, s)) {b : Bool} (hb : Hol L k s mk b) :
    Calls Try.prog 15 #[.pointer (some ⟨g, 0, none⟩), .agg #[.int .i64 k, .string s, .int .i64 mk]] W fun e w' => e = .returned (.bool b) ∧ Below W.heap.size W w' := by
  by_cases hm : (k, s) ∈ L
  · obtain ⟨p, hp⟩ := List.getElem?_of_mem hm
    refine (valid_yes mk h hx hp).mono ?_
    rintro e w1 ⟨rfl, h1⟩
    refine ⟨ret_bool ?_, h1⟩
    by_cases e : (p : Int) = mk
    · rw [hb.yes p hp e.symm, e]; simp
    · rw [hb.no]
      · simpa using e
      · rintro ⟨q, hq, rfl⟩
        exact e (by rw [at_inj h.nd hp hq])
  · refine (valid_no mk h hx hm).mono ?_
    rintro e w1 ⟨rfl, h1⟩
    refine ⟨ret_bool (hb.no ?_).symm, h1⟩
    rintro ⟨q, hq, _⟩
    exact hm (List.mem_of_getElem? hq)
theorem Rg.same {W W' : World} {g gm : Nat} {eb : Option Nat} {L : List En} (h : Rg W g gm eb L) (hk : ∀ q, q = g ∨ q = gm ∨ eb = some q → W'.heap[q]? = W.heap[q]?) : Rg W' g gm eb L := by
  obtain ⟨A, c, h1, h2, h3⟩ := h.x
  refine ⟨⟨A, c, (hk g (.inl rfl)).trans h1, own_same h2 fun q hq => hk q (.inr (.inr (h3.symm.trans hq))), h3⟩, ?_, h.nd, h.ok, h.lt⟩
  obtain ⟨es, clock, g1, g2, g3, g4⟩ := h.m
  exact ⟨es, clock, (hk gm (.inr (.inl rfl))).trans g1, g2, g3, g4⟩
theorem Rg.glt {W : World} {g gm : Nat} {eb : Option Nat} {L : List En} (h : Rg W g gm eb L) : g < W.heap.size := by
  obtain ⟨A, c, hr, _⟩ := h.x
  exact hr.lt
end Go.Proofs.Ytblegaclcpoonab.Seal
