/- Package vote: the contract of 'Last': a new slice of bools. -/
import Derived.Test.YtblegaclcpoonaaVoteB
import Derived.Laws.MakeOwn
import Derived.Laws.Rows
namespace Go.Proofs.Ytblegaclcpoonaa.Vote
open Go.ChangeShapes Go.WideShapes Go.ChangeAt Go.RowKit
set_option linter.unusedVariables false

/-- block g of the world is just these cells, none of them frozen -/
def Row (w : World) (g : Nat) (t : TypeId) (cs : Array Value) : Prop := w.heap[g]? = some (.cells cs t (0, 0))
theorem Row.lt {w : World} {g : Nat} {t : TypeId} {cs : Array Value} (h : Row w g t cs) : g < w.heap.size := by
  unfold Row at h
  obtain ⟨hl, _⟩ := Array.getElem?_eq_some_iff.1 h
  exact hl
theorem Row.cell {w : World} {g : Nat} {t : TypeId} {cs : Array Value} (h : Row w g t cs) (j : Nat) : w.cell? ⟨g, j, none⟩ = cs[j]? := cell_of_row w g j cs t (0, 0) h
theorem Row.frozen {w : World} {g : Nat} {t : TypeId} {cs : Array Value} (h : Row w g t cs) (j : Nat) : w.frozen? ⟨g, j, none⟩ = false := frozen_of_row w g j cs t h
theorem Row.new (w : World) (t : TypeId) (cs : Array Value) : Row (w.alloc (.cells cs t)) w.heap.size t cs := by
  exact heap_alloc_new w _
theorem Row.alloc {w : World} {g : Nat} {t : TypeId} {cs : Array Value} (h : Row w g t cs) (o : Obj) : Row (w.alloc o) g t cs := (Below.heap_alloc w o g h.lt).trans h
theorem Row.set {w : World} {g : Nat} {t : TypeId} {cs : Array Value} (h : Row w g t cs) (i : Nat) (u : Value) : Row (w.setCell ⟨g, i, none⟩ u) g t (cs.setIfInBounds i u) := by
  unfold Row at h ⊢
  simp [World.setCell, Array.getElem?_modify, h]
theorem Row.keep {w w1 : World} {g : Nat} {t : TypeId} {cs : Array Value} (h : Row w g t cs) (hb : Below w.heap.size w w1) : Row w1 g t cs := (hb.block g h.lt).trans h

/-- bools as cells -/
def bcs (bs : List Bool) : Array Value := (bs.map Value.bool).toArray
theorem bcs_at {bs : List Bool} {j : Nat} {b : Bool} (h : bs[j]? = some b) : (bcs bs)[j]? = some (.bool b) := by simp [bcs, h]
theorem bcs_set (bs : List Bool) (j : Nat) (b : Bool) : (bcs bs).setIfInBounds j (.bool b) = bcs (bs.set j b) := by simp [bcs, List.map_set]
theorem made_bools (N : Nat) : madeCells (Value.bool false).cells (N * 1) = bcs (List.replicate N false) := by
  apply Array.ext
  · simp [size_madeCells, bcs]
  · intro i h1 h2
    have hi : i < N := by simpa [size_madeCells] using h1
    simp [madeCells, bcs, Value.cells, Nat.mod_one]

/-- what one vote does to the last ones -/
def updV (n u : Int) (l : List Bool) (v : V) : List Bool := if 0 ≤ v.s ∧ v.s < n ∧ v.d ≤ u then l.set v.s.toNat v.y else l
def lastV (n u : Int) (vs : List V) : List Bool := vs.foldl (updV n u) (List.replicate n.toNat false)
theorem updV_length (n u : Int) (l : List Bool) (v : V) : (updV n u l v).length = l.length := by unfold updV; split <;> simp
theorem foldl_length (n u : Int) (vs : List V) (l : List Bool) : (vs.foldl (updV n u) l).length = l.length := by
  induction vs generalizing l with
  | nil => rfl
  | cons v vs ih => rw [List.foldl_cons, ih, updV_length]
theorem lastV_length (n u : Int) (vs : List V) : (lastV n u vs).length = n.toNat := by unfold lastV; rw [foldl_length]; simp
theorem lastV_snoc (n u : Int) (vs : List V) (v : V) : lastV n u (vs ++ [v]) = updV n u (lastV n u vs) v := by simp [lastV]

theorem info4 : (Try.prog.info? 4).map (fun i => (i.zero, i.size, i.bytes)) = some (some (.bool false), 1, 1) := by kernel_rfl

set_option maxHeartbeats 400000 in
theorem last_no (A : Option Addr) (m cap : Nat) (n u : Int) (w : World) (h : n < 0 ∨ 20000 < n) :
    Calls Try.prog 38 #[.slice A m cap, .int .i64 n, .int .i64 u] w fun e w' => e = .returned (.slice none 0 0) ∧ w = w' := by
  rcases h with h | h
  · go_enter Try.func38, Try.ntmps38
    go_wp2
    go_ret
    exact ⟨rfl, rfl⟩
  · have h' : 0 ≤ n := by omega
    go_enter Try.func38, Try.ntmps38
    go_wp2
    go_ret
    exact ⟨rfl, rfl⟩

set_option maxHeartbeats 4000000 in
theorem last_any (A : Option Addr) (m cap : Nat) (vs : List V) (n u : Int) (w : World) (hm : vs.length = m) (hc : Votes w A vs) (hbig : m ≤ 9223372036854775807) (n0 : 0 ≤ n) (n1 : n ≤ 20000) :
    Calls Try.prog 38 #[.slice A m cap, .int .i64 n, .int .i64 u] w fun e w' => e = .returned (.slice (some ⟨w.heap.size, 0, none⟩) n.toNat n.toNat) ∧ Below w.heap.size w w' ∧ Row w' w.heap.size 4 (bcs (lastV n u vs)) := by
  have HM := Lib.hid hm
  clear hm
  obtain ⟨i0, hi, hz0, hz1, hz2⟩ := info_parts info4
  have hmk : ∀ W : World, (Instr.makeSlice 51 (.int .i64 n) (.int .i64 n)).run Try.prog W = .ok (.slice (some ⟨W.heap.size, 0, none⟩) n.toNat n.toNat) (W.alloc (.cells (bcs (List.replicate n.toNat false)) 4)) := fun W => by
    have hr := run_make (P := Try.prog) W 51 4 i0 (.bool false) Try.underlying51 hi hz0 .i64 .i64 n n n0 (Int.le_refl _) (by rw [hz2]; omega) (by omega)
    rw [hz1, made_bools] at hr
    exact hr
  clear hi hz0 hz1 hz2
  go_enter Try.func38, Try.ntmps38
  go_wp2
  go_loopw [20] (fun i wr => ∃ k : Nat, k ≤ m ∧ i = .int .i64 k ∧ Row wr w.heap.size 4 (bcs (lastV n u (vs.take k))) ∧ Below w.heap.size w wr) (fun i _ => m - (intOf i).toNat)
  case atStart => exact ⟨0, Nat.zero_le _, rfl, Row.new _ _ _, by go_grown⟩
  case round =>
    obtain ⟨k, hk, rfl, hrow, hB⟩ := hrel
    have hS : w.heap.size < wr.heap.size := hrow.lt
    by_cases hlt : k < m
    · obtain ⟨b, off, rfl, hcell⟩ := hc (by rw [HM.out]; omega)
      obtain ⟨v, hv⟩ := at_ vs k (by rw [HM.out]; exact hlt)
      obtain ⟨c0, c1, c2⟩ := (hcell k v hv).keepB hB
      have HD := Lib.hid (take_snoc hv)
      clear hcell hc hv
      obtain ⟨s, d, y⟩ := v
      dsimp only at c0 c1 c2
      by_cases hok : 0 ≤ s ∧ s < n ∧ d ≤ u
      · have HU := Lib.hid (show updV n u (lastV n u (vs.take k)) ⟨s, d, y⟩ = (lastV n u (vs.take k)).set s.toNat y from if_pos hok)
        obtain ⟨a1, a2, a3⟩ := hok
        obtain ⟨x, hx⟩ := at_ (lastV n u (vs.take k)) s.toNat (by rw [lastV_length]; omega)
        have hl : wr.cell? ⟨w.heap.size, s.toNat, none⟩ = some (.bool x) := (hrow.cell _).trans (bcs_at hx)
        have hf := hrow.frozen s.toNat
        have HX := Lib.hid hx
        clear hx
        go_wp2
        go_roundw
        case rel => exact ⟨k + 1, by omega, by go_num, by rw [HD.out, lastV_snoc, HU.out, ← bcs_set]; exact (hrow.set _ _).alloc _, by go_grown⟩
        case measure => simp [intOf]; omega
      · have HU := Lib.hid (show updV n u (lastV n u (vs.take k)) ⟨s, d, y⟩ = lastV n u (vs.take k) from if_neg hok)
        have h3 : s < 0 ∨ (0 ≤ s ∧ n ≤ s) ∨ (0 ≤ s ∧ s < n ∧ u < d) := by omega
        clear hok
        rcases h3 with a1 | ⟨a1, a2⟩ | ⟨a1, a2, a3⟩
        all_goals
          go_wp2
          go_roundw
          case rel => exact ⟨k + 1, by omega, by go_num, by rw [HD.out, lastV_snoc, HU.out]; exact hrow.alloc _, by go_grown⟩
          case measure => simp [intOf]; omega
    · obtain rfl : k = m := by omega
      go_wp2
      go_ret
      exact ⟨rfl, by go_grown, by rw [← HM.out, List.take_length] at hrow; exact hrow⟩
end Go.Proofs.Ytblegaclcpoonaa.Vote
