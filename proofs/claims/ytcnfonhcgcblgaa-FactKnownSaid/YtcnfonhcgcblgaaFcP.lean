/- Facts, in plain words. -/
import Derived.Test.YtcnfonhcgcblgaaWdA
namespace Go.Proofs.Ytcnfonhcgcblgaa.Fc
open Go.Lib Go.Proofs.Ytcnfonhcgcblgaa.Cell Go.Proofs.Ytcnfonhcgcblgaa.Wd
set_option linter.unusedVariables false
/-- a reported fact -/
structure Fa where
  is : Int
  nm : List UInt8
  pe : Int
  va : Int
  dy : Int
/-- the reserved words -/
def resv : List (List UInt8) := [[97, 99, 116, 117, 97, 108], [97, 100, 106, 117, 115, 116], [97, 110, 100], [97, 116], [98, 101, 102, 111, 114, 101], [99, 97, 108, 108], [99, 97, 112], [99, 111, 105, 110, 115], [99, 111, 117, 110, 116], [99, 111, 117, 112, 111, 110],
  [99, 111, 118, 101, 110, 97, 110, 116], [99, 114, 111, 115, 115], [100, 97, 121, 115], [101, 108, 115, 101], [101, 118, 101, 114], [101, 118, 101, 114, 121], [102, 97, 99, 101], [102, 97, 99, 116], [102, 97, 108, 115, 101], [102, 97, 115, 116],
  [102, 97, 118, 111, 117, 114], [102, 105, 120, 101, 100], [102, 114, 111, 109], [103, 114, 97, 99, 101], [105, 102], [105, 115, 115, 117, 101], [108, 101, 116], [108, 111, 110, 103], [109, 97, 106, 111, 114, 105, 116, 121], [109, 97, 120],
  [109, 105, 108, 108, 101], [109, 105, 110], [109, 111, 100, 105, 102, 105, 101, 100], [109, 111, 110, 116, 104, 115], [109, 117, 115, 116], [110, 101, 120, 116], [110, 111, 110, 101], [110, 111, 116], [110, 111, 116, 105, 99, 101], [111, 102],
  [111, 114], [114, 97, 110, 107], [114, 97, 116, 101], [114, 101, 99, 111, 114, 100], [115, 105, 110, 107], [115, 111, 111, 110], [116, 104, 101, 110], [116, 104, 105, 114, 116, 121], [116, 111], [116, 114, 117, 101]]
def isName (l : List UInt8) : Bool := isWord l && !resv.contains l
def okF (x : Fa) : Bool := decide (0 ≤ x.is) && decide (x.is < 60) && decide (0 ≤ x.pe) && decide (x.pe ≤ x.dy) && decide (x.dy ≤ 200000) && decide (0 ≤ x.va) && decide (x.va ≤ 1000000000000000) && isName x.nm
/-- facts from a day on, by their days -/
def oksF : Int → List Fa → Bool
  | _, [] => true
  | b, x :: l => okF x && decide (b ≤ x.dy) && oksF x.dy l
def rgF (l : List Fa) : Bool := decide (l.length ≤ 10000) && oksF 0 l
/-- a fact counts of an issuer, for a period, on a day -/
def cnt (i p d : Int) (x : Fa) : Bool := decide (x.is = i) && decide (x.dy ≤ d) && decide (x.pe ≤ p)
/-- the fact that counts of an account, behind one more -/
def stF (i p d : Int) (n : List UInt8) (g : Option Fa) (x : Fa) : Option Fa :=
  if cnt i p d x = true ∧ x.nm = n then (match g with | none => some x | some b => if b.pe ≤ x.pe then some x else some b) else g
/-- the fact that counts of an account -/
def lat (l : List Fa) (i p d : Int) (n : List UInt8) : Option Fa := l.foldl (stF i p d n) none
theorem lat_snoc (l : List Fa) (x : Fa) (i p d : Int) (n : List UInt8) : lat (l ++ [x]) i p d n = stF i p d n (lat l i p d n) x := by
  unfold lat
  rw [List.foldl_append]
  rfl
/-- the fact that counts is one of the list, and counts -/
theorem lat_in {i p d : Int} {n : List UInt8} : ∀ {l : List Fa} {x : Fa}, lat l i p d n = some x → x ∈ l ∧ cnt i p d x = true ∧ x.nm = n := by
  intro l
  have key : ∀ (l : List Fa) (g : Option Fa) (x : Fa), l.foldl (stF i p d n) g = some x → (x ∈ l ∧ cnt i p d x = true ∧ x.nm = n) ∨ g = some x := by
    intro l
    induction l with
    | nil => intro g x h; exact .inr h
    | cons y l ih =>
      intro g x h
      rw [List.foldl_cons] at h
      rcases ih _ _ h with ⟨h1, h2⟩ | h1
      · exact .inl ⟨by simp [h1], h2⟩
      · unfold stF at h1
        split at h1
        · rename_i hc
          cases g with
          | none =>
            dsimp only at h1
            obtain rfl := Option.some.inj h1
            exact .inl ⟨by simp, hc.1, hc.2⟩
          | some b =>
            dsimp only at h1
            split at h1
            · obtain rfl := Option.some.inj h1
              exact .inl ⟨by simp, hc.1, hc.2⟩
            · exact .inr h1
        · exact .inr h1
  intro x h
  rcases key l none x h with h | h
  · exact h
  · cases h
/-- it is known exactly if some fact counts -/
theorem lat_some {i p d : Int} {n : List UInt8} {l : List Fa} : (lat l i p d n).isSome = l.any fun x => cnt i p d x && decide (x.nm = n) := by
  have key : ∀ (l : List Fa) (g : Option Fa), (l.foldl (stF i p d n) g).isSome = (g.isSome || l.any fun x => cnt i p d x && decide (x.nm = n)) := by
    intro l
    induction l with
    | nil => intro g; simp
    | cons y l ih =>
      intro g
      rw [List.foldl_cons, ih, List.any_cons, ← Bool.or_assoc]
      congr 1
      unfold stF
      by_cases h : cnt i p d y = true ∧ y.nm = n
      · rw [if_pos h, h.1, decide_eq_true h.2]
        cases g with
        | none => rfl
        | some b => dsimp only; split <;> simp
      · rw [if_neg h]
        have : (cnt i p d y && decide (y.nm = n)) = false := by
          rw [Bool.and_eq_false_iff]
          by_cases h1 : cnt i p d y = true
          · exact .inr (decide_eq_false (fun h2 => h ⟨h1, h2⟩))
          · exact .inl (by simpa using h1)
        rw [this, Bool.or_false]
  exact key l none
/-- facts that count alike give the same -/
theorem lat_same {i p d d' : Int} {n : List UInt8} : ∀ {l : List Fa}, (∀ x ∈ l, x.nm = n → cnt i p d x = cnt i p d' x) → lat l i p d n = lat l i p d' n := by
  intro l h
  have key : ∀ (l : List Fa) (g : Option Fa), (∀ x ∈ l, x.nm = n → cnt i p d x = cnt i p d' x) → l.foldl (stF i p d n) g = l.foldl (stF i p d' n) g := by
    intro l
    induction l with
    | nil => intro g _; rfl
    | cons y l ih =>
      intro g h
      rw [List.foldl_cons, List.foldl_cons]
      have e : stF i p d n g y = stF i p d' n g y := by
        unfold stF
        by_cases hn : y.nm = n
        · rw [h y (by simp) hn]
        · rw [if_neg (fun c => hn c.2), if_neg (fun c => hn c.2)]
      rw [e]
      exact ih _ (fun x hx => h x (by simp [hx]))
  exact key l none h
theorem oksF_snoc : ∀ {l : List Fa} {b : Int} {x : Fa}, oksF b (l ++ [x]) = (oksF b l && okF x && decide ((match l.getLast? with | none => b | some y => y.dy) ≤ x.dy))
  | [], b, x => by
    simp [oksF]
    try rfl
  | y :: l, b, x => by
    have ih := oksF_snoc (l := l) (b := y.dy) (x := x)
    rw [List.cons_append, oksF, ih, oksF]
    have : (match (y :: l).getLast? with | none => b | some z => z.dy) = (match l.getLast? with | none => y.dy | some z => z.dy) := by
      cases l with
      | nil => rfl
      | cons z l => rw [List.getLast?_cons_cons]; cases h : (z :: l).getLast? with | none => simp at h | some w => rfl
    rw [this]
    simp only [Bool.and_assoc]
theorem oksF_at : ∀ {l : List Fa} {b : Int} {x : Fa}, oksF b l = true → x ∈ l → okF x = true ∧ b ≤ x.dy
  | [], b, x, _, h => by simp at h
  | y :: l, b, x, h, hx => by
    unfold oksF at h
    simp only [Bool.and_eq_true, decide_eq_true_eq] at h
    rcases List.mem_cons.1 hx with rfl | hx
    · exact ⟨h.1.1, h.1.2⟩
    · have := oksF_at h.2 hx
      exact ⟨this.1, by omega⟩
/-- what is known of an account -/
def valF (l : List Fa) (i : Int) (n : List UInt8) (p d : Int) : Option Fa := if rgF l = true then lat l i p d n else none
def vI (o : Option Fa) : Int := match o with | none => 0 | some x => x.va
def rst (l : List Fa) (f : Fa) : Bool := l.any fun g => decide (g.is = f.is) && decide (g.nm = f.nm) && decide (g.pe = f.pe)
/-- what adding a fact comes to: an error, or the list -/
def addE (l : List Fa) (f : Fa) : Int := if rgF l = false ∨ okF f = false then 1 else if (match l.getLast? with | none => false | some y => decide (f.dy < y.dy)) = true then 20 else if l.length = 10000 then 6 else 0
end Go.Proofs.Ytcnfonhcgcblgaa.Fc
