/- Votes as cells; what Tally and Last return, over letters. -/
import Derived.Test.YtblegaclcpoonaaGen
import Derived.Test.YtblegaclcpoonaaVoteR
import Derived.Test.YtblegaclcpoonaaVoteP
import Derived.Test.YtblegaclcpoonaaVoteS
namespace Go.Proofs.Ytblegaclcpoonaa.Vote
open Go.ChangeShapes Go.WideShapes Go.ChangeAt Go.RowKit
set_option linter.unusedVariables false

def vcs (v : V) : List Value := [.int .i64 v.s, .int .i64 v.d, .bool v.y]
def vls (l : List V) : List Value := l.flatMap vcs
theorem vcs_length (v : V) : (vcs v).length = 3 := rfl
theorem vls_snoc (l : List V) (v : V) : vls (l ++ [v]) = vls l ++ [.int .i64 v.s, .int .i64 v.d, .bool v.y] := by simp [vls, vcs]
theorem vls_length (l : List V) : (vls l).length = l.length * 3 := Gen.flat_length vcs_length l
theorem votes_of_reads {w : World} {B n : Nat} {A : Option Addr} {l : List V} (hn : l.length = n) (h : App.Reads w B 3 A n (vls l)) : Votes w A l := fun h0 => by
  obtain ⟨b, off, e, hc⟩ := Gen.reads_at vcs_length (by omega) hn h h0
  refine ⟨b, off, e, fun j v hv => ?_⟩
  have hh := hc j v hv
  have a0 := hh 0 _ rfl
  have a1 := hh 1 _ rfl
  have a2 := hh 2 _ rfl
  simp only [← Nat.add_assoc, Nat.add_zero] at a0 a1 a2
  exact ⟨a0, a1, a2⟩
theorem info56 : (Try.prog.info? 56).map (fun i => (i.zero, i.size, i.bytes)) = some (some (.agg #[.int .i64 0, .int .i64 0, .bool false]), 3, 24) := by kernel_rfl
theorem tally_is {A : Option Addr} {n cap : Nat} {zs : List Int} {A' : Option Addr} {m cap' : Nat} {vs : List V} {u a b : Int} (w : World) (hn : zs.length = n) (hc : Ints w A zs) (hbig : n ≤ 40)
    (hm : vs.length = m) (hc' : Votes w A' vs) (hbig' : m ≤ 70) (hok : okT zs vs = true) (ha : yesR zs (lastV n u vs) = a) (hb : total zs = b) :
    Calls Try.prog 31 #[.slice A n cap, .slice A' m cap', .int .i64 u] w fun e w' => e = .returned (.tuple #[.int .i64 a, .int .i64 b, .int .i64 0]) ∧ Below w.heap.size w w' := by
  have h := tally_any A n cap zs A' m cap' vs u w hn hc (by omega) hm hc' (by omega)
  obtain ⟨h1, h2, h3⟩ := tally_yes hok u
  subst hn
  rw [h1, h2, h3, ha, hb] at h
  exact h
theorem last_is {A : Option Addr} {m cap : Nat} {vs : List V} {n : Nat} {u : Int} {l : List Bool} (w : World) (hm : vs.length = m) (hc : Votes w A vs) (hbig : m ≤ 70) (hn : n ≤ 40) (hl : lastV n u vs = l) :
    Calls Try.prog 38 #[.slice A m cap, .int .i64 n, .int .i64 u] w fun e w' => e = .returned (.slice (some ⟨w.heap.size, 0, none⟩) n n) ∧ Below w.heap.size w w' ∧ Row w' w.heap.size 4 (bcs l) := by
  have h := last_any A m cap vs n u w hm hc (by omega) (by omega) (by omega)
  rw [hl, Int.toNat_natCast] at h
  exact h
theorem okT_len {zs : List Int} {vs l : List V} (h : okT zs vs = true) (hl : rgt zs.length l = true) : okT zs l = true := by
  unfold okT at h ⊢
  rw [Bool.and_eq_true] at h ⊢
  exact ⟨h.1, hl⟩
theorem okT_rgt {zs : List Int} {vs : List V} (h : okT zs vs = true) : rgt zs.length vs = true := by
  unfold okT at h
  rw [Bool.and_eq_true] at h
  exact h.2
theorem okT_all {zs : List Int} {vs : List V} (h : okT zs vs = true) : zs.all goodU = true ∧ total zs ≤ 1000000000 := by
  unfold okT sumB allU at h
  simp only [Bool.and_eq_true] at h
  exact ⟨h.1.1.2, of_decide_eq_true h.1.2⟩
theorem Row.boos' {w : World} {g : Nat} {ys : List Bool} (h : Row w g 4 (bcs ys)) {j : Nat} {y : Bool} (hy : ys[j]? = some y) : w.cell? ⟨g, j, none⟩ = some (.bool y) := (h.cell j).trans (bcs_at hy)
end Go.Proofs.Ytblegaclcpoonaa.Vote
