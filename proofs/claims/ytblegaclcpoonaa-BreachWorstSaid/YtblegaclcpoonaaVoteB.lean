/- Package vote: the contract of 'right'. -/
import Derived.Test.YtblegaclcpoonaaVoteA
namespace Go.Proofs.Ytblegaclcpoonaa.Vote
open Go.ChangeShapes Go.WideShapes Go.ChangeAt Go.RowKit
set_option linter.unusedVariables false

theorem keep {W w1 : World} (hb : Below W.heap.size W w1) (b o : Nat) (v : Value) (h : W.cell? ⟨b, o, none⟩ = some v) : w1.cell? ⟨b, o, none⟩ = some v :=
  (hb.cell (p := ⟨b, o, none⟩) (World.block_lt_of_cell? W ⟨b, o, none⟩ h)).trans h
theorem over {a W w1 : World} (hb : Below W.heap.size W w1) (hW : Below a.heap.size a W) : Below a.heap.size a w1 := hW.trans (hb.mono hW.size)

/-- a vote -/
structure V where
  s : Int
  d : Int
  y : Bool

/-- the three cells of a vote -/
def At3 (w : World) (b o : Nat) (v : V) : Prop := w.cell? ⟨b, o, none⟩ = some (.int .i64 v.s) ∧ w.cell? ⟨b, o + 1, none⟩ = some (.int .i64 v.d) ∧ w.cell? ⟨b, o + 2, none⟩ = some (.bool v.y)
/-- the memory of a slice of votes -/
def Votes (w : World) (A : Option Addr) (vs : List V) : Prop := 0 < vs.length → ∃ b off, A = some ⟨b, off, none⟩ ∧ ∀ j v, vs[j]? = some v → At3 w b (off + j * 3) v

theorem At3.keep {w w1 : World} {b o : Nat} {v : V} (h : At3 w b o v) (hb : Below w.heap.size w w1) : At3 w1 b o v := ⟨Vote.keep hb _ _ _ h.1, Vote.keep hb _ _ _ h.2.1, Vote.keep hb _ _ _ h.2.2⟩
theorem At3.keepB {a w1 : World} {b o : Nat} {v : V} (h : At3 a b o v) (hb : Below a.heap.size a w1) : At3 w1 b o v := h.keep hb
theorem Votes.keep {w w1 : World} {A : Option Addr} {vs : List V} (h : Votes w A vs) (hb : Below w.heap.size w w1) : Votes w1 A vs := fun h0 => by
  obtain ⟨b, off, e, hc⟩ := h h0
  exact ⟨b, off, e, fun j v hv => (hc j v hv).keep hb⟩
theorem Ints.keep {w w1 : World} {A : Option Addr} {zs : List Int} (h : Ints w A zs) (hb : Below w.heap.size w w1) : Ints w1 A zs := fun h0 => by
  obtain ⟨b, off, e, hc⟩ := h h0
  exact ⟨b, off, e, fun j z hz => Vote.keep hb _ _ _ (hc j z hz)⟩

def okV (n b : Int) (v : V) : Bool := decide (0 ≤ v.s ∧ v.s < n ∧ b ≤ v.d ∧ v.d ≤ 200000)
def rV (n : Int) : Int → List V → Bool
  | _, [] => true
  | b, v :: vs => okV n b v && rV n v.d vs
def rgt (n : Int) (vs : List V) : Bool := decide (vs.length ≤ 2000) && rV n 0 vs

theorem drop_at {α : Type} {xs : List α} {k : Nat} {x : α} (h : xs[k]? = some x) : xs.drop k = x :: xs.drop (k + 1) := by
  obtain ⟨hk, rfl⟩ := List.getElem?_eq_some_iff.1 h
  exact List.drop_eq_getElem_cons hk

set_option maxHeartbeats 2000000 in
theorem right_any (A : Option Addr) (m cap : Nat) (vs : List V) (n : Int) (w : World) (hm : vs.length = m) (hc : Votes w A vs) (hbig : m ≤ 9223372036854775807) :
    Calls Try.prog 62 #[.slice A m cap, .int .i64 n] w fun e w' => e = .returned (.bool (rgt n vs)) ∧ Below w.heap.size w w' := by
  by_cases h0 : m ≤ 2000
  · have hr : rgt n vs = rV n 0 vs := by unfold rgt; rw [decide_eq_true (by omega)]; rfl
    have HR := Lib.hid hr
    have HM := Lib.hid hm
    clear hm hr
    go_enter Try.func62, Try.ntmps62
    go_wp2
    go_loopw [5, 13] (fun bf i wr => ∃ (k : Nat) (q : Int), k ≤ m ∧ i = .int .i64 k ∧ bf = .int .i64 q ∧ rV n 0 vs = rV n q (vs.drop k) ∧ Below w.heap.size w wr) (fun _ i _ => m - (intOf i).toNat)
    case atStart => exact ⟨0, 0, Nat.zero_le _, rfl, rfl, by simp, Below.refl _ _⟩
    case round =>
      obtain ⟨k, q, hk, rfl, rfl, he, hB⟩ := hrel
      have HE := Lib.hid he
      have hS : w.heap.size ≤ wr.heap.size := hB.size
      clear he
      by_cases hlt : k < m
      · obtain ⟨b, off, rfl, hcell⟩ := hc (by rw [HM.out]; omega)
        obtain ⟨v, hv⟩ := at_ vs k (by rw [HM.out]; exact hlt)
        obtain ⟨c0, c1, c2⟩ := (hcell k v hv).keepB hB
        have HD := Lib.hid (drop_at hv)
        clear hcell hc hv
        obtain ⟨s, d, y⟩ := v
        dsimp only at c0 c1 c2
        by_cases hok : 0 ≤ s ∧ s < n ∧ q ≤ d ∧ d ≤ 200000
        · have HG := Lib.hid (show rV n 0 vs = rV n d (vs.drop (k + 1)) from by
            have : okV n q ⟨s, d, y⟩ = true := decide_eq_true hok
            rw [HE.out, HD.out]; simp [rV, this])
          obtain ⟨a1, a2, a3, a4⟩ := hok
          go_wp2
          go_roundw
          case rel => exact ⟨k + 1, d, by omega, by go_num, rfl, HG.out, by go_grown⟩
          case measure => simp [intOf]; omega
        · have HG := Lib.hid (show rgt n vs = false from by
            have : okV n q ⟨s, d, y⟩ = false := decide_eq_false hok
            rw [HR.out, HE.out, HD.out]; simp [rV, this])
          have HO := Lib.hid hok
          clear hok
          go_wp2
          all_goals first
            | (go_ret; exact ⟨ret_bool HG.out.symm, by go_grown⟩)
            | (exfalso; have := HO.out; omega)
      · obtain rfl : k = m := by omega
        have HG := Lib.hid (show rgt n vs = true from by rw [HR.out, HE.out, ← HM.out, List.drop_length]; rfl)
        go_wp2
        go_ret
        exact ⟨ret_bool HG.out.symm, by go_grown⟩
  · have HG := Lib.hid (show rgt n vs = false from by unfold rgt; rw [decide_eq_false (by omega)]; rfl)
    have h1 : 2000 < m := by omega
    clear hm h0
    go_enter Try.func62, Try.ntmps62
    go_wp2
    go_ret
    exact ⟨ret_bool HG.out.symm, by go_grown⟩
end Go.Proofs.Ytblegaclcpoonaa.Vote
