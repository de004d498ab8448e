/-
  No cell of these rows narrows 'for every input' (looked for: loops, veiled, ifaces, maps, wideKeys, modest, calm, conditions, laid).
  DERIVED. THE GIVEN ROWS OF THIS SEAT. 12 by the template 'for every input the law returns true; each argument reads behind the call as it read before'; 0 by the template 'total and deterministic' (their statements: YtblegaclcpoonaaTotals.lean).
  GIVEN WITH THE SEED: the statements are not yours to turn. If you find one false, say at which input.
  Laid BY PROGRAM, IN A SANDBOX (cutbox-rows.mjs): the forced cells as the released guide's own fill.sh prints them over the translation d27cb4555ac9b4df… (all of the seat's roots in one cut). By AI agents, Wed Nov 11 2026. No macro, syntax, notation, axiom, sorry.
-/
import Derived.Test.YtblegaclcpoonaaChecked
import GoSem.Claim
import GoSem.ClaimJoined
import GoSem.ClaimMapViews
import Derived.JoinedTies
import Derived.KernelRfl
namespace Go.Proofs.Ytblegaclcpoonaa
/- THE CELL 'sum', in the pinned program and in every row, IS THE sha256 OF THE DUMP (.gsa) THAT YtblegaclcpoonaaProg.lean LOADS. Nothing in Lean hashes anything: it is a label: what it is worth is what the hold of that sum in a sandbox is worth. -/
noncomputable def Try.pinned : Pinned := { name := "ytblegaclcpoonaa", sum := "d27cb4555ac9b4dfe9dc35a9c9f3b8400b4b30bbf764295d51b010be2a97b591", checked := Try.checked }
namespace Rows
def none {H : Type} : Left H := { results := [], args := [] }

/-- 'consollaw27.BreachTells': WHATEVER THE INPUT: true; the input reads as it did. -/
def breachTellsSpec : ChangeSpec := { name := "breachTells", fn := fun _ => fun
  | [d1, d2, d3, d4, d5, d6] => { results := [.lit (.bool true)], args := [d1, d2, d3, d4, d5, d6] }
  | _ => none }
def breachTellsRow : OpenClaim := { program := "ytblegaclcpoonaa", sum := "d27cb4555ac9b4dfe9dc35a9c9f3b8400b4b30bbf764295d51b010be2a97b591", func := "consol/consollaw27.BreachTells", spec := "breachTells", unfollowed := true, recurses := true, plainKeys := false, apart := false }
def BreachTellsSaid : Prop := breachTellsRow.holds Try.pinned (OpenSpec.ofChange breachTellsSpec)

/-- ITS FALSE NEIGHBOUR: 'it returns false'. Refute it at one input. -/
def breachTellsWrong : ChangeSpec := { name := "breachTells", fn := fun _ => fun
  | [d1, d2, d3, d4, d5, d6] => { results := [.lit (.bool false)], args := [d1, d2, d3, d4, d5, d6] }
  | _ => none }
def BreachTellsWrongFalsely : Prop := breachTellsRow.holds Try.pinned (OpenSpec.ofChange breachTellsWrong)

/-- 'consollaw27.BreachStory': WHATEVER THE INPUT: true; the input reads as it did. -/
def breachStorySpec : ChangeSpec := { name := "breachStory", fn := fun _ => fun
  | [d1, d2, d3] => { results := [.lit (.bool true)], args := [d1, d2, d3] }
  | _ => none }
def breachStoryRow : OpenClaim := { program := "ytblegaclcpoonaa", sum := "d27cb4555ac9b4dfe9dc35a9c9f3b8400b4b30bbf764295d51b010be2a97b591", func := "consol/consollaw27.BreachStory", spec := "breachStory", unfollowed := true, recurses := true, plainKeys := false, apart := false }
def BreachStorySaid : Prop := breachStoryRow.holds Try.pinned (OpenSpec.ofChange breachStorySpec)

/-- ITS FALSE NEIGHBOUR: 'it returns false'. Refute it at one input. -/
def breachStoryWrong : ChangeSpec := { name := "breachStory", fn := fun _ => fun
  | [d1, d2, d3] => { results := [.lit (.bool false)], args := [d1, d2, d3] }
  | _ => none }
def BreachStoryWrongFalsely : Prop := breachStoryRow.holds Try.pinned (OpenSpec.ofChange breachStoryWrong)

/-- 'consollaw27.BreachLater': WHATEVER THE INPUT: true; the input reads as it did. -/
def breachLaterSpec : ChangeSpec := { name := "breachLater", fn := fun _ => fun
  | [d1, d2, d3, d4] => { results := [.lit (.bool true)], args := [d1, d2, d3, d4] }
  | _ => none }
def breachLaterRow : OpenClaim := { program := "ytblegaclcpoonaa", sum := "d27cb4555ac9b4dfe9dc35a9c9f3b8400b4b30bbf764295d51b010be2a97b591", func := "consol/consollaw27.BreachLater", spec := "breachLater", unfollowed := true, recurses := true, plainKeys := false, apart := false }
def BreachLaterSaid : Prop := breachLaterRow.holds Try.pinned (OpenSpec.ofChange breachLaterSpec)

/-- ITS FALSE NEIGHBOUR: 'it returns false'. Refute it at one input. -/
def breachLaterWrong : ChangeSpec := { name := "breachLater", fn := fun _ => fun
  | [d1, d2, d3, d4] => { results := [.lit (.bool false)], args := [d1, d2, d3, d4] }
  | _ => none }
def BreachLaterWrongFalsely : Prop := breachLaterRow.holds Try.pinned (OpenSpec.ofChange breachLaterWrong)

/-- 'consollaw27.BreachEnds': WHATEVER THE INPUT: true; the input reads as it did. -/
def breachEndsSpec : ChangeSpec := { name := "breachEnds", fn := fun _ => fun
  | [d1, d2, d3, d4, d5] => { results := [.lit (.bool true)], args := [d1, d2, d3, d4, d5] }
  | _ => none }
def breachEndsRow : OpenClaim := { program := "ytblegaclcpoonaa", sum := "d27cb4555ac9b4dfe9dc35a9c9f3b8400b4b30bbf764295d51b010be2a97b591", func := "consol/consollaw27.BreachEnds", spec := "breachEnds", unfollowed := true, recurses := true, plainKeys := false, apart := false }
def BreachEndsSaid : Prop := breachEndsRow.holds Try.pinned (OpenSpec.ofChange breachEndsSpec)

/-- ITS FALSE NEIGHBOUR: 'it returns false'. Refute it at one input. -/
def breachEndsWrong : ChangeSpec := { name := "breachEnds", fn := fun _ => fun
  | [d1, d2, d3, d4, d5] => { results := [.lit (.bool false)], args := [d1, d2, d3, d4, d5] }
  | _ => none }
def BreachEndsWrongFalsely : Prop := breachEndsRow.holds Try.pinned (OpenSpec.ofChange breachEndsWrong)

/-- 'consollaw27.BreachWorst': WHATEVER THE INPUT: true; the input reads as it did. -/
def breachWorstSpec : ChangeSpec := { name := "breachWorst", fn := fun _ => fun
  | [d1, d2] => { results := [.lit (.bool true)], args := [d1, d2] }
  | _ => none }
def breachWorstRow : OpenClaim := { program := "ytblegaclcpoonaa", sum := "d27cb4555ac9b4dfe9dc35a9c9f3b8400b4b30bbf764295d51b010be2a97b591", func := "consol/consollaw27.BreachWorst", spec := "breachWorst", unfollowed := true, recurses := true, plainKeys := false, apart := false }
def BreachWorstSaid : Prop := breachWorstRow.holds Try.pinned (OpenSpec.ofChange breachWorstSpec)

/-- ITS FALSE NEIGHBOUR: 'it returns false'. Refute it at one input. -/
def breachWorstWrong : ChangeSpec := { name := "breachWorst", fn := fun _ => fun
  | [d1, d2] => { results := [.lit (.bool false)], args := [d1, d2] }
  | _ => none }
def BreachWorstWrongFalsely : Prop := breachWorstRow.holds Try.pinned (OpenSpec.ofChange breachWorstWrong)

/-- 'consollaw35.VoteTells': WHATEVER THE INPUT: true; the input reads as it did. -/
def voteTellsSpec : ChangeSpec := { name := "voteTells", fn := fun _ => fun
  | [d1, d2, d3, d4, d5, d6, d7] => { results := [.lit (.bool true)], args := [d1, d2, d3, d4, d5, d6, d7] }
  | _ => none }
def voteTellsRow : OpenClaim := { program := "ytblegaclcpoonaa", sum := "d27cb4555ac9b4dfe9dc35a9c9f3b8400b4b30bbf764295d51b010be2a97b591", func := "consol/consollaw35.VoteTells", spec := "voteTells", plainKeys := false, apart := false }
def VoteTellsSaid : Prop := voteTellsRow.holds Try.pinned (OpenSpec.ofChange voteTellsSpec)

/-- ITS FALSE NEIGHBOUR: 'it returns false'. Refute it at one input. -/
def voteTellsWrong : ChangeSpec := { name := "voteTells", fn := fun _ => fun
  | [d1, d2, d3, d4, d5, d6, d7] => { results := [.lit (.bool false)], args := [d1, d2, d3, d4, d5, d6, d7] }
  | _ => none }
def VoteTellsWrongFalsely : Prop := voteTellsRow.holds Try.pinned (OpenSpec.ofChange voteTellsWrong)

/-- 'consollaw35.VoteLast': WHATEVER THE INPUT: true; the input reads as it did. -/
def voteLastSpec : ChangeSpec := { name := "voteLast", fn := fun _ => fun
  | [d1, d2, d3, d4] => { results := [.lit (.bool true)], args := [d1, d2, d3, d4] }
  | _ => none }
def voteLastRow : OpenClaim := { program := "ytblegaclcpoonaa", sum := "d27cb4555ac9b4dfe9dc35a9c9f3b8400b4b30bbf764295d51b010be2a97b591", func := "consol/consollaw35.VoteLast", spec := "voteLast", plainKeys := false, apart := false }
def VoteLastSaid : Prop := voteLastRow.holds Try.pinned (OpenSpec.ofChange voteLastSpec)

/-- ITS FALSE NEIGHBOUR: 'it returns false'. Refute it at one input. -/
def voteLastWrong : ChangeSpec := { name := "voteLast", fn := fun _ => fun
  | [d1, d2, d3, d4] => { results := [.lit (.bool false)], args := [d1, d2, d3, d4] }
  | _ => none }
def VoteLastWrongFalsely : Prop := voteLastRow.holds Try.pinned (OpenSpec.ofChange voteLastWrong)

/-- 'consollaw35.VoteUntil': WHATEVER THE INPUT: true; the input reads as it did. -/
def voteUntilSpec : ChangeSpec := { name := "voteUntil", fn := fun _ => fun
  | [d1, d2, d3, d4] => { results := [.lit (.bool true)], args := [d1, d2, d3, d4] }
  | _ => none }
def voteUntilRow : OpenClaim := { program := "ytblegaclcpoonaa", sum := "d27cb4555ac9b4dfe9dc35a9c9f3b8400b4b30bbf764295d51b010be2a97b591", func := "consol/consollaw35.VoteUntil", spec := "voteUntil", plainKeys := false, apart := false }
def VoteUntilSaid : Prop := voteUntilRow.holds Try.pinned (OpenSpec.ofChange voteUntilSpec)

/-- ITS FALSE NEIGHBOUR: 'it returns false'. Refute it at one input. -/
def voteUntilWrong : ChangeSpec := { name := "voteUntil", fn := fun _ => fun
  | [d1, d2, d3, d4] => { results := [.lit (.bool false)], args := [d1, d2, d3, d4] }
  | _ => none }
def VoteUntilWrongFalsely : Prop := voteUntilRow.holds Try.pinned (OpenSpec.ofChange voteUntilWrong)

/-- 'consollaw35.VoteMajority': WHATEVER THE INPUT: true; the input reads as it did. -/
def voteMajoritySpec : ChangeSpec := { name := "voteMajority", fn := fun _ => fun
  | [d1, d2, d3, d4] => { results := [.lit (.bool true)], args := [d1, d2, d3, d4] }
  | _ => none }
def voteMajorityRow : OpenClaim := { program := "ytblegaclcpoonaa", sum := "d27cb4555ac9b4dfe9dc35a9c9f3b8400b4b30bbf764295d51b010be2a97b591", func := "consol/consollaw35.VoteMajority", spec := "voteMajority", plainKeys := false, apart := false }
def VoteMajoritySaid : Prop := voteMajorityRow.holds Try.pinned (OpenSpec.ofChange voteMajoritySpec)

/-- ITS FALSE NEIGHBOUR: 'it returns false'. Refute it at one input. -/
def voteMajorityWrong : ChangeSpec := { name := "voteMajority", fn := fun _ => fun
  | [d1, d2, d3, d4] => { results := [.lit (.bool false)], args := [d1, d2, d3, d4] }
  | _ => none }
def VoteMajorityWrongFalsely : Prop := voteMajorityRow.holds Try.pinned (OpenSpec.ofChange voteMajorityWrong)

/-- 'consollaw44.SealTells': WHATEVER THE INPUT: true; the input reads as it did. -/
def sealTellsSpec : ChangeSpec := { name := "sealTells", fn := fun _ => fun
  | [d1, d2] => { results := [.lit (.bool true)], args := [d1, d2] }
  | _ => none }
def sealTellsRow : OpenClaim := { program := "ytblegaclcpoonaa", sum := "d27cb4555ac9b4dfe9dc35a9c9f3b8400b4b30bbf764295d51b010be2a97b591", func := "consol/consollaw44.SealTells", spec := "sealTells", unfollowed := true, recurses := true, plainKeys := false, apart := false }
def SealTellsSaid : Prop := sealTellsRow.holds Try.pinned (OpenSpec.ofChange sealTellsSpec)

/-- ITS FALSE NEIGHBOUR: 'it returns false'. Refute it at one input. -/
def sealTellsWrong : ChangeSpec := { name := "sealTells", fn := fun _ => fun
  | [d1, d2] => { results := [.lit (.bool false)], args := [d1, d2] }
  | _ => none }
def SealTellsWrongFalsely : Prop := sealTellsRow.holds Try.pinned (OpenSpec.ofChange sealTellsWrong)

/-- 'consollaw44.SealMakes': WHATEVER THE INPUT: true; the input reads as it did. -/
def sealMakesSpec : ChangeSpec := { name := "sealMakes", fn := fun _ => fun
  | [d1, d2] => { results := [.lit (.bool true)], args := [d1, d2] }
  | _ => none }
def sealMakesRow : OpenClaim := { program := "ytblegaclcpoonaa", sum := "d27cb4555ac9b4dfe9dc35a9c9f3b8400b4b30bbf764295d51b010be2a97b591", func := "consol/consollaw44.SealMakes", spec := "sealMakes", plainKeys := false, apart := false }
def SealMakesSaid : Prop := sealMakesRow.holds Try.pinned (OpenSpec.ofChange sealMakesSpec)

/-- ITS FALSE NEIGHBOUR: 'it returns false'. Refute it at one input. -/
def sealMakesWrong : ChangeSpec := { name := "sealMakes", fn := fun _ => fun
  | [d1, d2] => { results := [.lit (.bool false)], args := [d1, d2] }
  | _ => none }
def SealMakesWrongFalsely : Prop := sealMakesRow.holds Try.pinned (OpenSpec.ofChange sealMakesWrong)

/-- 'consollaw44.SealMarks': WHATEVER THE INPUT: true; the input reads as it did. -/
def sealMarksSpec : ChangeSpec := { name := "sealMarks", fn := fun _ => fun
  | [d] => { results := [.lit (.bool true)], args := [d] }
  | _ => none }
def sealMarksRow : OpenClaim := { program := "ytblegaclcpoonaa", sum := "d27cb4555ac9b4dfe9dc35a9c9f3b8400b4b30bbf764295d51b010be2a97b591", func := "consol/consollaw44.SealMarks", spec := "sealMarks", plainKeys := false, apart := false }
def SealMarksSaid : Prop := sealMarksRow.holds Try.pinned (OpenSpec.ofChange sealMarksSpec)

/-- ITS FALSE NEIGHBOUR: 'it returns false'. Refute it at one input. -/
def sealMarksWrong : ChangeSpec := { name := "sealMarks", fn := fun _ => fun
  | [d] => { results := [.lit (.bool false)], args := [d] }
  | _ => none }
def SealMarksWrongFalsely : Prop := sealMarksRow.holds Try.pinned (OpenSpec.ofChange sealMarksWrong)

/- THE SECOND FORM. 'bulk': how many values and letters a reading holds, each counted each time it is reached (what is shared counts as often as it is met; a slice's spare places count too). A statement '..UptoSaid' is the law's where the arguments, and the package variables that the reading takes, are together of bulk at most 1048576: NARROWER than '..Said'. Prove '..Said' where nothing that the law and all that it calls make is longer than what came in: it says more and counts as full. Else prove '..UptoSaid'. A law counts once. -/
mutual
def uptoBulk {H : Type} : DataW H → Nat
  | .lit (.string bytes) => bytes.length + 1
  | .lit _ => 1
  | .nil => 1
  | .ptr d => uptoBulk d + 1
  | .slice elems spare => uptoBulkAll elems + uptoBulkAll spare + 1
  | .agg parts => uptoBulkAll parts + 1
  | .iface _ d => uptoBulk d + 1
  | .map entries => uptoBulkEntries entries + 1
  | .held _ => 1
def uptoBulkAll {H : Type} : List (DataW H) → Nat
  | [] => 0
  | d :: r => uptoBulk d + uptoBulkAll r
def uptoBulkEntries {H : Type} : List (Lit × DataW H) → Nat
  | [] => 0
  | x :: r => uptoBulkEntry x + uptoBulkEntries r
def uptoBulkEntry {H : Type} : Lit × DataW H → Nat
  | (.string bytes, d) => bytes.length + uptoBulk d + 1
  | (_, d) => uptoBulk d + 1
 end
def uptoSmall : (H : Type) → List (DataW H) → Bool := fun _ ds => decide (uptoBulkAll ds ≤ 1048576)
def OpenSpec.upto (s : _root_.Go.ChangeSpec) : _root_.Go.OpenSpec := { _root_.Go.OpenSpec.ofChange s with cond := some uptoSmall }

/-- 'consollaw27.BreachTells', WHERE WHAT IT READS IS OF BULK AT MOST 1048576: true; the input reads as it did. -/
def breachTellsUptoRow : OpenClaim := { program := "ytblegaclcpoonaa", sum := "d27cb4555ac9b4dfe9dc35a9c9f3b8400b4b30bbf764295d51b010be2a97b591", func := "consol/consollaw27.BreachTells", spec := "breachTells", unfollowed := true, recurses := true, plainKeys := false, apart := false, narrowed := true }
def BreachTellsUptoSaid : Prop := breachTellsUptoRow.holds Try.pinned (OpenSpec.upto breachTellsSpec)

/-- 'consollaw27.BreachStory', WHERE WHAT IT READS IS OF BULK AT MOST 1048576: true; the input reads as it did. -/
def breachStoryUptoRow : OpenClaim := { program := "ytblegaclcpoonaa", sum := "d27cb4555ac9b4dfe9dc35a9c9f3b8400b4b30bbf764295d51b010be2a97b591", func := "consol/consollaw27.BreachStory", spec := "breachStory", unfollowed := true, recurses := true, plainKeys := false, apart := false, narrowed := true }
def BreachStoryUptoSaid : Prop := breachStoryUptoRow.holds Try.pinned (OpenSpec.upto breachStorySpec)

/-- 'consollaw27.BreachLater', WHERE WHAT IT READS IS OF BULK AT MOST 1048576: true; the input reads as it did. -/
def breachLaterUptoRow : OpenClaim := { program := "ytblegaclcpoonaa", sum := "d27cb4555ac9b4dfe9dc35a9c9f3b8400b4b30bbf764295d51b010be2a97b591", func := "consol/consollaw27.BreachLater", spec := "breachLater", unfollowed := true, recurses := true, plainKeys := false, apart := false, narrowed := true }
def BreachLaterUptoSaid : Prop := breachLaterUptoRow.holds Try.pinned (OpenSpec.upto breachLaterSpec)

/-- 'consollaw27.BreachEnds', WHERE WHAT IT READS IS OF BULK AT MOST 1048576: true; the input reads as it did. -/
def breachEndsUptoRow : OpenClaim := { program := "ytblegaclcpoonaa", sum := "d27cb4555ac9b4dfe9dc35a9c9f3b8400b4b30bbf764295d51b010be2a97b591", func := "consol/consollaw27.BreachEnds", spec := "breachEnds", unfollowed := true, recurses := true, plainKeys := false, apart := false, narrowed := true }
def BreachEndsUptoSaid : Prop := breachEndsUptoRow.holds Try.pinned (OpenSpec.upto breachEndsSpec)

/-- 'consollaw27.BreachWorst', WHERE WHAT IT READS IS OF BULK AT MOST 1048576: true; the input reads as it did. -/
def breachWorstUptoRow : OpenClaim := { program := "ytblegaclcpoonaa", sum := "d27cb4555ac9b4dfe9dc35a9c9f3b8400b4b30bbf764295d51b010be2a97b591", func := "consol/consollaw27.BreachWorst", spec := "breachWorst", unfollowed := true, recurses := true, plainKeys := false, apart := false, narrowed := true }
def BreachWorstUptoSaid : Prop := breachWorstUptoRow.holds Try.pinned (OpenSpec.upto breachWorstSpec)

/-- 'consollaw35.VoteTells', WHERE WHAT IT READS IS OF BULK AT MOST 1048576: true; the input reads as it did. -/
def voteTellsUptoRow : OpenClaim := { program := "ytblegaclcpoonaa", sum := "d27cb4555ac9b4dfe9dc35a9c9f3b8400b4b30bbf764295d51b010be2a97b591", func := "consol/consollaw35.VoteTells", spec := "voteTells", plainKeys := false, apart := false, narrowed := true }
def VoteTellsUptoSaid : Prop := voteTellsUptoRow.holds Try.pinned (OpenSpec.upto voteTellsSpec)

/-- 'consollaw35.VoteLast', WHERE WHAT IT READS IS OF BULK AT MOST 1048576: true; the input reads as it did. -/
def voteLastUptoRow : OpenClaim := { program := "ytblegaclcpoonaa", sum := "d27cb4555ac9b4dfe9dc35a9c9f3b8400b4b30bbf764295d51b010be2a97b591", func := "consol/consollaw35.VoteLast", spec := "voteLast", plainKeys := false, apart := false, narrowed := true }
def VoteLastUptoSaid : Prop := voteLastUptoRow.holds Try.pinned (OpenSpec.upto voteLastSpec)

/-- 'consollaw35.VoteUntil', WHERE WHAT IT READS IS OF BULK AT MOST 1048576: true; the input reads as it did. -/
def voteUntilUptoRow : OpenClaim := { program := "ytblegaclcpoonaa", sum := "d27cb4555ac9b4dfe9dc35a9c9f3b8400b4b30bbf764295d51b010be2a97b591", func := "consol/consollaw35.VoteUntil", spec := "voteUntil", plainKeys := false, apart := false, narrowed := true }
def VoteUntilUptoSaid : Prop := voteUntilUptoRow.holds Try.pinned (OpenSpec.upto voteUntilSpec)

/-- 'consollaw35.VoteMajority', WHERE WHAT IT READS IS OF BULK AT MOST 1048576: true; the input reads as it did. -/
def voteMajorityUptoRow : OpenClaim := { program := "ytblegaclcpoonaa", sum := "d27cb4555ac9b4dfe9dc35a9c9f3b8400b4b30bbf764295d51b010be2a97b591", func := "consol/consollaw35.VoteMajority", spec := "voteMajority", plainKeys := false, apart := false, narrowed := true }
def VoteMajorityUptoSaid : Prop := voteMajorityUptoRow.holds Try.pinned (OpenSpec.upto voteMajoritySpec)

/-- 'consollaw44.SealTells', WHERE WHAT IT READS IS OF BULK AT MOST 1048576: true; the input reads as it did. -/
def sealTellsUptoRow : OpenClaim := { program := "ytblegaclcpoonaa", sum := "d27cb4555ac9b4dfe9dc35a9c9f3b8400b4b30bbf764295d51b010be2a97b591", func := "consol/consollaw44.SealTells", spec := "sealTells", unfollowed := true, recurses := true, plainKeys := false, apart := false, narrowed := true }
def SealTellsUptoSaid : Prop := sealTellsUptoRow.holds Try.pinned (OpenSpec.upto sealTellsSpec)

/-- 'consollaw44.SealMakes', WHERE WHAT IT READS IS OF BULK AT MOST 1048576: true; the input reads as it did. -/
def sealMakesUptoRow : OpenClaim := { program := "ytblegaclcpoonaa", sum := "d27cb4555ac9b4dfe9dc35a9c9f3b8400b4b30bbf764295d51b010be2a97b591", func := "consol/consollaw44.SealMakes", spec := "sealMakes", plainKeys := false, apart := false, narrowed := true }
def SealMakesUptoSaid : Prop := sealMakesUptoRow.holds Try.pinned (OpenSpec.upto sealMakesSpec)

/-- 'consollaw44.SealMarks', WHERE WHAT IT READS IS OF BULK AT MOST 1048576: true; the input reads as it did. -/
def sealMarksUptoRow : OpenClaim := { program := "ytblegaclcpoonaa", sum := "d27cb4555ac9b4dfe9dc35a9c9f3b8400b4b30bbf764295d51b010be2a97b591", func := "consol/consollaw44.SealMarks", spec := "sealMarks", plainKeys := false, apart := false, narrowed := true }
def SealMarksUptoSaid : Prop := sealMarksUptoRow.holds Try.pinned (OpenSpec.upto sealMarksSpec)

end Rows
end Go.Proofs.Ytblegaclcpoonaa
