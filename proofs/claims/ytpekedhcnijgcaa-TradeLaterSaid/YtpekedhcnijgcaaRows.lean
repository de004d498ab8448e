/-
  No cell of these rows narrows 'for every input' (looked for: loops, veiled, ifaces, maps, wideKeys, modest, calm, conditions, laid).
  DERIVED. THE GIVEN ROWS OF THIS SEAT. 9 by the template 'for every input the law returns true; each argument reads behind the call as it read before'; 0 by the template 'total and deterministic' (their statements: YtpekedhcnijgcaaTotals.lean).
  GIVEN WITH THE SEED: the statements are not yours to turn. If you find one false, say at which input.
  Laid BY PROGRAM, IN A SANDBOX (cutbox-rows.mjs): the forced cells as the released guide's own fill.sh prints them over the translation ddb1776eeae4f4a2… (all of the seat's roots in one cut). By AI agents, Wed Nov 11 2026. No macro, syntax, notation, axiom, sorry.
-/
import Derived.Test.YtpekedhcnijgcaaChecked
import GoSem.Claim
import GoSem.ClaimJoined
import GoSem.ClaimMapViews
import Derived.JoinedTies
import Derived.KernelRfl
namespace Go.Proofs.Ytpekedhcnijgcaa
/- THE CELL 'sum', in the pinned program and in every row, IS THE sha256 OF THE DUMP (.gsa) THAT YtpekedhcnijgcaaProg.lean LOADS. Nothing in Lean hashes anything: it is a label: what it is worth is what the hold of that sum in a sandbox is worth. -/
noncomputable def Try.pinned : Pinned := { name := "ytpekedhcnijgcaa", sum := "ddb1776eeae4f4a2af7c0e2b7f07ee070a751fc452bfd502d71c8770da3a33fd", checked := Try.checked }
namespace Rows
def none {H : Type} : Left H := { results := [], args := [] }

/-- 'consollaw32.TradeTells': WHATEVER THE INPUT: true; the input reads as it did. -/
def tradeTellsSpec : ChangeSpec := { name := "tradeTells", fn := fun _ => fun
  | [d1, d2, d3, d4, d5] => { results := [.lit (.bool true)], args := [d1, d2, d3, d4, d5] }
  | _ => none }
def tradeTellsRow : OpenClaim := { program := "ytpekedhcnijgcaa", sum := "ddb1776eeae4f4a2af7c0e2b7f07ee070a751fc452bfd502d71c8770da3a33fd", func := "consol/consollaw32.TradeTells", spec := "tradeTells", unfollowed := true, recurses := true, apart := false }
def TradeTellsSaid : Prop := tradeTellsRow.holds Try.pinned (OpenSpec.ofChange tradeTellsSpec)

/-- ITS FALSE NEIGHBOUR: 'it returns false'. Refute it at one input. -/
def tradeTellsWrong : ChangeSpec := { name := "tradeTells", fn := fun _ => fun
  | [d1, d2, d3, d4, d5] => { results := [.lit (.bool false)], args := [d1, d2, d3, d4, d5] }
  | _ => none }
def TradeTellsWrongFalsely : Prop := tradeTellsRow.holds Try.pinned (OpenSpec.ofChange tradeTellsWrong)

/-- 'consollaw32.TradeMoves': WHATEVER THE INPUT: true; the input reads as it did. -/
def tradeMovesSpec : ChangeSpec := { name := "tradeMoves", fn := fun _ => fun
  | [d1, d2, d3, d4] => { results := [.lit (.bool true)], args := [d1, d2, d3, d4] }
  | _ => none }
def tradeMovesRow : OpenClaim := { program := "ytpekedhcnijgcaa", sum := "ddb1776eeae4f4a2af7c0e2b7f07ee070a751fc452bfd502d71c8770da3a33fd", func := "consol/consollaw32.TradeMoves", spec := "tradeMoves", unfollowed := true, recurses := true, apart := false }
def TradeMovesSaid : Prop := tradeMovesRow.holds Try.pinned (OpenSpec.ofChange tradeMovesSpec)

/-- ITS FALSE NEIGHBOUR: 'it returns false'. Refute it at one input. -/
def tradeMovesWrong : ChangeSpec := { name := "tradeMoves", fn := fun _ => fun
  | [d1, d2, d3, d4] => { results := [.lit (.bool false)], args := [d1, d2, d3, d4] }
  | _ => none }
def TradeMovesWrongFalsely : Prop := tradeMovesRow.holds Try.pinned (OpenSpec.ofChange tradeMovesWrong)

/-- 'consollaw32.TradeLoans': WHATEVER THE INPUT: true; the input reads as it did. -/
def tradeLoansSpec : ChangeSpec := { name := "tradeLoans", fn := fun _ => fun
  | [d1, d2, d3] => { results := [.lit (.bool true)], args := [d1, d2, d3] }
  | _ => none }
def tradeLoansRow : OpenClaim := { program := "ytpekedhcnijgcaa", sum := "ddb1776eeae4f4a2af7c0e2b7f07ee070a751fc452bfd502d71c8770da3a33fd", func := "consol/consollaw32.TradeLoans", spec := "tradeLoans", unfollowed := true, recurses := true, apart := false }
def TradeLoansSaid : Prop := tradeLoansRow.holds Try.pinned (OpenSpec.ofChange tradeLoansSpec)

/-- ITS FALSE NEIGHBOUR: 'it returns false'. Refute it at one input. -/
def tradeLoansWrong : ChangeSpec := { name := "tradeLoans", fn := fun _ => fun
  | [d1, d2, d3] => { results := [.lit (.bool false)], args := [d1, d2, d3] }
  | _ => none }
def TradeLoansWrongFalsely : Prop := tradeLoansRow.holds Try.pinned (OpenSpec.ofChange tradeLoansWrong)

/-- 'consollaw32.TradeLater': WHATEVER THE INPUT: true; the input reads as it did. -/
def tradeLaterSpec : ChangeSpec := { name := "tradeLater", fn := fun _ => fun
  | [d1, d2, d3, d4, d5, d6] => { results := [.lit (.bool true)], args := [d1, d2, d3, d4, d5, d6] }
  | _ => none }
def tradeLaterRow : OpenClaim := { program := "ytpekedhcnijgcaa", sum := "ddb1776eeae4f4a2af7c0e2b7f07ee070a751fc452bfd502d71c8770da3a33fd", func := "consol/consollaw32.TradeLater", spec := "tradeLater", unfollowed := true, recurses := true, apart := false }
def TradeLaterSaid : Prop := tradeLaterRow.holds Try.pinned (OpenSpec.ofChange tradeLaterSpec)

/-- ITS FALSE NEIGHBOUR: 'it returns false'. Refute it at one input. -/
def tradeLaterWrong : ChangeSpec := { name := "tradeLater", fn := fun _ => fun
  | [d1, d2, d3, d4, d5, d6] => { results := [.lit (.bool false)], args := [d1, d2, d3, d4, d5, d6] }
  | _ => none }
def TradeLaterWrongFalsely : Prop := tradeLaterRow.holds Try.pinned (OpenSpec.ofChange tradeLaterWrong)

/-- 'consollaw33.EntitleTells': WHATEVER THE INPUT: true; the input reads as it did. -/
def entitleTellsSpec : ChangeSpec := { name := "entitleTells", fn := fun _ => fun
  | [d1, d2, d3, d4, d5, d6, d7] => { results := [.lit (.bool true)], args := [d1, d2, d3, d4, d5, d6, d7] }
  | _ => none }
def entitleTellsRow : OpenClaim := { program := "ytpekedhcnijgcaa", sum := "ddb1776eeae4f4a2af7c0e2b7f07ee070a751fc452bfd502d71c8770da3a33fd", func := "consol/consollaw33.EntitleTells", spec := "entitleTells", unfollowed := true, recurses := true, apart := false }
def EntitleTellsSaid : Prop := entitleTellsRow.holds Try.pinned (OpenSpec.ofChange entitleTellsSpec)

/-- ITS FALSE NEIGHBOUR: 'it returns false'. Refute it at one input. -/
def entitleTellsWrong : ChangeSpec := { name := "entitleTells", fn := fun _ => fun
  | [d1, d2, d3, d4, d5, d6, d7] => { results := [.lit (.bool false)], args := [d1, d2, d3, d4, d5, d6, d7] }
  | _ => none }
def EntitleTellsWrongFalsely : Prop := entitleTellsRow.holds Try.pinned (OpenSpec.ofChange entitleTellsWrong)

/-- 'consollaw33.EntitleOnce': WHATEVER THE INPUT: true; the input reads as it did. -/
def entitleOnceSpec : ChangeSpec := { name := "entitleOnce", fn := fun _ => fun
  | [d1, d2, d3, d4] => { results := [.lit (.bool true)], args := [d1, d2, d3, d4] }
  | _ => none }
def entitleOnceRow : OpenClaim := { program := "ytpekedhcnijgcaa", sum := "ddb1776eeae4f4a2af7c0e2b7f07ee070a751fc452bfd502d71c8770da3a33fd", func := "consol/consollaw33.EntitleOnce", spec := "entitleOnce", unfollowed := true, recurses := true, apart := false }
def EntitleOnceSaid : Prop := entitleOnceRow.holds Try.pinned (OpenSpec.ofChange entitleOnceSpec)

/-- ITS FALSE NEIGHBOUR: 'it returns false'. Refute it at one input. -/
def entitleOnceWrong : ChangeSpec := { name := "entitleOnce", fn := fun _ => fun
  | [d1, d2, d3, d4] => { results := [.lit (.bool false)], args := [d1, d2, d3, d4] }
  | _ => none }
def EntitleOnceWrongFalsely : Prop := entitleOnceRow.holds Try.pinned (OpenSpec.ofChange entitleOnceWrong)

/-- 'consollaw33.EntitleSettles': WHATEVER THE INPUT: true; the input reads as it did. -/
def entitleSettlesSpec : ChangeSpec := { name := "entitleSettles", fn := fun _ => fun
  | [d1, d2, d3, d4] => { results := [.lit (.bool true)], args := [d1, d2, d3, d4] }
  | _ => none }
def entitleSettlesRow : OpenClaim := { program := "ytpekedhcnijgcaa", sum := "ddb1776eeae4f4a2af7c0e2b7f07ee070a751fc452bfd502d71c8770da3a33fd", func := "consol/consollaw33.EntitleSettles", spec := "entitleSettles", unfollowed := true, recurses := true, apart := false }
def EntitleSettlesSaid : Prop := entitleSettlesRow.holds Try.pinned (OpenSpec.ofChange entitleSettlesSpec)

/-- ITS FALSE NEIGHBOUR: 'it returns false'. Refute it at one input. -/
def entitleSettlesWrong : ChangeSpec := { name := "entitleSettles", fn := fun _ => fun
  | [d1, d2, d3, d4] => { results := [.lit (.bool false)], args := [d1, d2, d3, d4] }
  | _ => none }
def EntitleSettlesWrongFalsely : Prop := entitleSettlesRow.holds Try.pinned (OpenSpec.ofChange entitleSettlesWrong)

/-- 'consollaw33.EntitleAdds': WHATEVER THE INPUT: true; the input reads as it did. -/
def entitleAddsSpec : ChangeSpec := { name := "entitleAdds", fn := fun _ => fun
  | [d1, d2, d3, d4, d5] => { results := [.lit (.bool true)], args := [d1, d2, d3, d4, d5] }
  | _ => none }
def entitleAddsRow : OpenClaim := { program := "ytpekedhcnijgcaa", sum := "ddb1776eeae4f4a2af7c0e2b7f07ee070a751fc452bfd502d71c8770da3a33fd", func := "consol/consollaw33.EntitleAdds", spec := "entitleAdds", unfollowed := true, recurses := true, apart := false }
def EntitleAddsSaid : Prop := entitleAddsRow.holds Try.pinned (OpenSpec.ofChange entitleAddsSpec)

/-- ITS FALSE NEIGHBOUR: 'it returns false'. Refute it at one input. -/
def entitleAddsWrong : ChangeSpec := { name := "entitleAdds", fn := fun _ => fun
  | [d1, d2, d3, d4, d5] => { results := [.lit (.bool false)], args := [d1, d2, d3, d4, d5] }
  | _ => none }
def EntitleAddsWrongFalsely : Prop := entitleAddsRow.holds Try.pinned (OpenSpec.ofChange entitleAddsWrong)

/-- 'consollaw33.EntitleVotes': WHATEVER THE INPUT: true; the input reads as it did. -/
def entitleVotesSpec : ChangeSpec := { name := "entitleVotes", fn := fun _ => fun
  | [d1, d2, d3] => { results := [.lit (.bool true)], args := [d1, d2, d3] }
  | _ => none }
def entitleVotesRow : OpenClaim := { program := "ytpekedhcnijgcaa", sum := "ddb1776eeae4f4a2af7c0e2b7f07ee070a751fc452bfd502d71c8770da3a33fd", func := "consol/consollaw33.EntitleVotes", spec := "entitleVotes", unfollowed := true, recurses := true, apart := false }
def EntitleVotesSaid : Prop := entitleVotesRow.holds Try.pinned (OpenSpec.ofChange entitleVotesSpec)

/-- ITS FALSE NEIGHBOUR: 'it returns false'. Refute it at one input. -/
def entitleVotesWrong : ChangeSpec := { name := "entitleVotes", fn := fun _ => fun
  | [d1, d2, d3] => { results := [.lit (.bool false)], args := [d1, d2, d3] }
  | _ => none }
def EntitleVotesWrongFalsely : Prop := entitleVotesRow.holds Try.pinned (OpenSpec.ofChange entitleVotesWrong)

/- THE SECOND FORM. 'bulk': how many values and letters a reading holds, each counted each time it is reached (what is shared counts as often as it is met; a slice's spare places count too). A statement '..UptoSaid' is the law's where the arguments, and the package variables that the reading takes, are together of bulk at most 1048576: NARROWER than '..Said'. Prove '..Said' where nothing that the law and all that it calls make is longer than what came in: it says more and counts as full. Else prove '..UptoSaid'. A law counts once. -/
mutual
def uptoBulk {H : Type} : DataW H → Nat
  | .lit (.string bytes) => bytes.length + 1
  | .lit _ => 1
  | .nil => 1
  | .ptr d => uptoBulk d + 1
  | .slice elems spare => uptoBulkAll elems + uptoBulkAll spare + 1
  | .agg parts => uptoBulkAll parts + 1
  | .iface _ d => uptoBulk d + 1
  | .map entries => uptoBulkEntries entries + 1
  | .held _ => 1
def uptoBulkAll {H : Type} : List (DataW H) → Nat
  | [] => 0
  | d :: r => uptoBulk d + uptoBulkAll r
def uptoBulkEntries {H : Type} : List (Lit × DataW H) → Nat
  | [] => 0
  | x :: r => uptoBulkEntry x + uptoBulkEntries r
def uptoBulkEntry {H : Type} : Lit × DataW H → Nat
  | (.string bytes, d) => bytes.length + uptoBulk d + 1
  | (_, d) => uptoBulk d + 1
 end
def uptoSmall : (H : Type) → List (DataW H) → Bool := fun _ ds => decide (uptoBulkAll ds ≤ 1048576)
def OpenSpec.upto (s : _root_.Go.ChangeSpec) : _root_.Go.OpenSpec := { _root_.Go.OpenSpec.ofChange s with cond := some uptoSmall }

/-- 'consollaw32.TradeTells', WHERE WHAT IT READS IS OF BULK AT MOST 1048576: true; the input reads as it did. -/
def tradeTellsUptoRow : OpenClaim := { program := "ytpekedhcnijgcaa", sum := "ddb1776eeae4f4a2af7c0e2b7f07ee070a751fc452bfd502d71c8770da3a33fd", func := "consol/consollaw32.TradeTells", spec := "tradeTells", unfollowed := true, recurses := true, apart := false, narrowed := true }
def TradeTellsUptoSaid : Prop := tradeTellsUptoRow.holds Try.pinned (OpenSpec.upto tradeTellsSpec)

/-- 'consollaw32.TradeMoves', WHERE WHAT IT READS IS OF BULK AT MOST 1048576: true; the input reads as it did. -/
def tradeMovesUptoRow : OpenClaim := { program := "ytpekedhcnijgcaa", sum := "ddb1776eeae4f4a2af7c0e2b7f07ee070a751fc452bfd502d71c8770da3a33fd", func := "consol/consollaw32.TradeMoves", spec := "tradeMoves", unfollowed := true, recurses := true, apart := false, narrowed := true }
def TradeMovesUptoSaid : Prop := tradeMovesUptoRow.holds Try.pinned (OpenSpec.upto tradeMovesSpec)

/-- 'consollaw32.TradeLoans', WHERE WHAT IT READS IS OF BULK AT MOST 1048576: true; the input reads as it did. -/
def tradeLoansUptoRow : OpenClaim := { program := "ytpekedhcnijgcaa", sum := "ddb1776eeae4f4a2af7c0e2b7f07ee070a751fc452bfd502d71c8770da3a33fd", func := "consol/consollaw32.TradeLoans", spec := "tradeLoans", unfollowed := true, recurses := true, apart := false, narrowed := true }
def TradeLoansUptoSaid : Prop := tradeLoansUptoRow.holds Try.pinned (OpenSpec.upto tradeLoansSpec)

/-- 'consollaw32.TradeLater', WHERE WHAT IT READS IS OF BULK AT MOST 1048576: true; the input reads as it did. -/
def tradeLaterUptoRow : OpenClaim := { program := "ytpekedhcnijgcaa", sum := "ddb1776eeae4f4a2af7c0e2b7f07ee070a751fc452bfd502d71c8770da3a33fd", func := "consol/consollaw32.TradeLater", spec := "tradeLater", unfollowed := true, recurses := true, apart := false, narrowed := true }
def TradeLaterUptoSaid : Prop := tradeLaterUptoRow.holds Try.pinned (OpenSpec.upto tradeLaterSpec)

/-- 'consollaw33.EntitleTells', WHERE WHAT IT READS IS OF BULK AT MOST 1048576: true; the input reads as it did. -/
def entitleTellsUptoRow : OpenClaim := { program := "ytpekedhcnijgcaa", sum := "ddb1776eeae4f4a2af7c0e2b7f07ee070a751fc452bfd502d71c8770da3a33fd", func := "consol/consollaw33.EntitleTells", spec := "entitleTells", unfollowed := true, recurses := true, apart := false, narrowed := true }
def EntitleTellsUptoSaid : Prop := entitleTellsUptoRow.holds Try.pinned (OpenSpec.upto entitleTellsSpec)

/-- 'consollaw33.EntitleOnce', WHERE WHAT IT READS IS OF BULK AT MOST 1048576: true; the input reads as it did. -/
def entitleOnceUptoRow : OpenClaim := { program := "ytpekedhcnijgcaa", sum := "ddb1776eeae4f4a2af7c0e2b7f07ee070a751fc452bfd502d71c8770da3a33fd", func := "consol/consollaw33.EntitleOnce", spec := "entitleOnce", unfollowed := true, recurses := true, apart := false, narrowed := true }
def EntitleOnceUptoSaid : Prop := entitleOnceUptoRow.holds Try.pinned (OpenSpec.upto entitleOnceSpec)

/-- 'consollaw33.EntitleSettles', WHERE WHAT IT READS IS OF BULK AT MOST 1048576: true; the input reads as it did. -/
def entitleSettlesUptoRow : OpenClaim := { program := "ytpekedhcnijgcaa", sum := "ddb1776eeae4f4a2af7c0e2b7f07ee070a751fc452bfd502d71c8770da3a33fd", func := "consol/consollaw33.EntitleSettles", spec := "entitleSettles", unfollowed := true, recurses := true, apart := false, narrowed := true }
def EntitleSettlesUptoSaid : Prop := entitleSettlesUptoRow.holds Try.pinned (OpenSpec.upto entitleSettlesSpec)

/-- 'consollaw33.EntitleAdds', WHERE WHAT IT READS IS OF BULK AT MOST 1048576: true; the input reads as it did. -/
def entitleAddsUptoRow : OpenClaim := { program := "ytpekedhcnijgcaa", sum := "ddb1776eeae4f4a2af7c0e2b7f07ee070a751fc452bfd502d71c8770da3a33fd", func := "consol/consollaw33.EntitleAdds", spec := "entitleAdds", unfollowed := true, recurses := true, apart := false, narrowed := true }
def EntitleAddsUptoSaid : Prop := entitleAddsUptoRow.holds Try.pinned (OpenSpec.upto entitleAddsSpec)

/-- 'consollaw33.EntitleVotes', WHERE WHAT IT READS IS OF BULK AT MOST 1048576: true; the input reads as it did. -/
def entitleVotesUptoRow : OpenClaim := { program := "ytpekedhcnijgcaa", sum := "ddb1776eeae4f4a2af7c0e2b7f07ee070a751fc452bfd502d71c8770da3a33fd", func := "consol/consollaw33.EntitleVotes", spec := "entitleVotes", unfollowed := true, recurses := true, apart := false, narrowed := true }
def EntitleVotesUptoSaid : Prop := entitleVotesUptoRow.holds Try.pinned (OpenSpec.upto entitleVotesSpec)

end Rows
end Go.Proofs.Ytpekedhcnijgcaa
