/-
  No cell of these rows narrows 'for every input' (looked for: loops, veiled, ifaces, maps, wideKeys, modest, calm, conditions, laid).
  DERIVED. THE GIVEN ROWS OF THIS SEAT. 5 by the template 'for every input the law returns true; each argument reads behind the call as it read before'; 0 by the template 'total and deterministic' (their statements: YtfkjbpgobgmmfaaTotals.lean).
  GIVEN WITH THE SEED: the statements are not yours to turn. If you find one false, say at which input.
  Laid BY PROGRAM, IN A SANDBOX (cutbox-rows.mjs): the forced cells as the released guide's own fill.sh prints them over the translation f554710be7ae43f6… (all of the seat's roots in one cut). By AI agents, Wed Nov 11 2026. No macro, syntax, notation, axiom, sorry.
-/
import Derived.Test.YtfkjbpgobgmmfaaChecked
import GoSem.Claim
import GoSem.ClaimJoined
import GoSem.ClaimMapViews
import Derived.JoinedTies
import Derived.KernelRfl
namespace Go.Proofs.Ytfkjbpgobgmmfaa
/- THE CELL 'sum', in the pinned program and in every row, IS THE sha256 OF THE DUMP (.gsa) THAT YtfkjbpgobgmmfaaProg.lean LOADS. Nothing in Lean hashes anything: it is a label: what it is worth is what the hold of that sum in a sandbox is worth. -/
noncomputable def Try.pinned : Pinned := { name := "ytfkjbpgobgmmfaa", sum := "f554710be7ae43f686c7b98dce8b9072a0600da64e5e544dea43e07b47775676", checked := Try.checked }
namespace Rows
def none {H : Type} : Left H := { results := [], args := [] }

/-- 'wirelesslaw25.LatencySets': WHATEVER THE INPUT: true; the input reads as it did. -/
def latencySetsSpec : ChangeSpec := { name := "latencySets", fn := fun _ => fun
  | [d1, d2] => { results := [.lit (.bool true)], args := [d1, d2] }
  | _ => none }
def latencySetsRow : OpenClaim := { program := "ytfkjbpgobgmmfaa", sum := "f554710be7ae43f686c7b98dce8b9072a0600da64e5e544dea43e07b47775676", func := "wireless/wirelesslaw25.LatencySets", spec := "latencySets", apart := false }
def LatencySetsSaid : Prop := latencySetsRow.holds Try.pinned (OpenSpec.ofChange latencySetsSpec)

/-- ITS FALSE NEIGHBOUR: 'it returns false'. Refute it at one input. -/
def latencySetsWrong : ChangeSpec := { name := "latencySets", fn := fun _ => fun
  | [d1, d2] => { results := [.lit (.bool false)], args := [d1, d2] }
  | _ => none }
def LatencySetsWrongFalsely : Prop := latencySetsRow.holds Try.pinned (OpenSpec.ofChange latencySetsWrong)

/-- 'wirelesslaw25.LatencyMust': WHATEVER THE INPUT: true; the input reads as it did. -/
def latencyMustSpec : ChangeSpec := { name := "latencyMust", fn := fun _ => fun
  | [d1, d2] => { results := [.lit (.bool true)], args := [d1, d2] }
  | _ => none }
def latencyMustRow : OpenClaim := { program := "ytfkjbpgobgmmfaa", sum := "f554710be7ae43f686c7b98dce8b9072a0600da64e5e544dea43e07b47775676", func := "wireless/wirelesslaw25.LatencyMust", spec := "latencyMust", apart := false }
def LatencyMustSaid : Prop := latencyMustRow.holds Try.pinned (OpenSpec.ofChange latencyMustSpec)

/-- ITS FALSE NEIGHBOUR: 'it returns false'. Refute it at one input. -/
def latencyMustWrong : ChangeSpec := { name := "latencyMust", fn := fun _ => fun
  | [d1, d2] => { results := [.lit (.bool false)], args := [d1, d2] }
  | _ => none }
def LatencyMustWrongFalsely : Prop := latencyMustRow.holds Try.pinned (OpenSpec.ofChange latencyMustWrong)

/-- 'wirelesslaw25.LatencyMoves': WHATEVER THE INPUT: true; the input reads as it did. -/
def latencyMovesSpec : ChangeSpec := { name := "latencyMoves", fn := fun _ => fun
  | [d1, d2] => { results := [.lit (.bool true)], args := [d1, d2] }
  | _ => none }
def latencyMovesRow : OpenClaim := { program := "ytfkjbpgobgmmfaa", sum := "f554710be7ae43f686c7b98dce8b9072a0600da64e5e544dea43e07b47775676", func := "wireless/wirelesslaw25.LatencyMoves", spec := "latencyMoves", apart := false }
def LatencyMovesSaid : Prop := latencyMovesRow.holds Try.pinned (OpenSpec.ofChange latencyMovesSpec)

/-- ITS FALSE NEIGHBOUR: 'it returns false'. Refute it at one input. -/
def latencyMovesWrong : ChangeSpec := { name := "latencyMoves", fn := fun _ => fun
  | [d1, d2] => { results := [.lit (.bool false)], args := [d1, d2] }
  | _ => none }
def LatencyMovesWrongFalsely : Prop := latencyMovesRow.holds Try.pinned (OpenSpec.ofChange latencyMovesWrong)

/-- 'wirelesslaw25.LatencyBound': WHATEVER THE INPUT: true; the input reads as it did. -/
def latencyBoundSpec : ChangeSpec := { name := "latencyBound", fn := fun _ => fun
  | [d1, d2] => { results := [.lit (.bool true)], args := [d1, d2] }
  | _ => none }
def latencyBoundRow : OpenClaim := { program := "ytfkjbpgobgmmfaa", sum := "f554710be7ae43f686c7b98dce8b9072a0600da64e5e544dea43e07b47775676", func := "wireless/wirelesslaw25.LatencyBound", spec := "latencyBound", apart := false }
def LatencyBoundSaid : Prop := latencyBoundRow.holds Try.pinned (OpenSpec.ofChange latencyBoundSpec)

/-- ITS FALSE NEIGHBOUR: 'it returns false'. Refute it at one input. -/
def latencyBoundWrong : ChangeSpec := { name := "latencyBound", fn := fun _ => fun
  | [d1, d2] => { results := [.lit (.bool false)], args := [d1, d2] }
  | _ => none }
def LatencyBoundWrongFalsely : Prop := latencyBoundRow.holds Try.pinned (OpenSpec.ofChange latencyBoundWrong)

/-- 'wirelesslaw25.LatencyUse': WHATEVER THE INPUT: true; the input reads as it did. -/
def latencyUseSpec : ChangeSpec := { name := "latencyUse", fn := fun _ => fun
  | [d1, d2] => { results := [.lit (.bool true)], args := [d1, d2] }
  | _ => none }
def latencyUseRow : OpenClaim := { program := "ytfkjbpgobgmmfaa", sum := "f554710be7ae43f686c7b98dce8b9072a0600da64e5e544dea43e07b47775676", func := "wireless/wirelesslaw25.LatencyUse", spec := "latencyUse", apart := false }
def LatencyUseSaid : Prop := latencyUseRow.holds Try.pinned (OpenSpec.ofChange latencyUseSpec)

/-- ITS FALSE NEIGHBOUR: 'it returns false'. Refute it at one input. -/
def latencyUseWrong : ChangeSpec := { name := "latencyUse", fn := fun _ => fun
  | [d1, d2] => { results := [.lit (.bool false)], args := [d1, d2] }
  | _ => none }
def LatencyUseWrongFalsely : Prop := latencyUseRow.holds Try.pinned (OpenSpec.ofChange latencyUseWrong)

/- THE SECOND FORM. 'bulk': how many values and letters a reading holds, each counted each time it is reached (what is shared counts as often as it is met; a slice's spare places count too). A statement '..UptoSaid' is the law's where the arguments, and the package variables that the reading takes, are together of bulk at most 1048576: NARROWER than '..Said'. Prove '..Said' where nothing that the law and all that it calls make is longer than what came in: it says more and counts as full. Else prove '..UptoSaid'. A law counts once. -/
mutual
def uptoBulk {H : Type} : DataW H → Nat
  | .lit (.string bytes) => bytes.length + 1
  | .lit _ => 1
  | .nil => 1
  | .ptr d => uptoBulk d + 1
  | .slice elems spare => uptoBulkAll elems + uptoBulkAll spare + 1
  | .agg parts => uptoBulkAll parts + 1
  | .iface _ d => uptoBulk d + 1
  | .map entries => uptoBulkEntries entries + 1
  | .held _ => 1
def uptoBulkAll {H : Type} : List (DataW H) → Nat
  | [] => 0
  | d :: r => uptoBulk d + uptoBulkAll r
def uptoBulkEntries {H : Type} : List (Lit × DataW H) → Nat
  | [] => 0
  | x :: r => uptoBulkEntry x + uptoBulkEntries r
def uptoBulkEntry {H : Type} : Lit × DataW H → Nat
  | (.string bytes, d) => bytes.length + uptoBulk d + 1
  | (_, d) => uptoBulk d + 1
 end
def uptoSmall : (H : Type) → List (DataW H) → Bool := fun _ ds => decide (uptoBulkAll ds ≤ 1048576)
def OpenSpec.upto (s : _root_.Go.ChangeSpec) : _root_.Go.OpenSpec := { _root_.Go.OpenSpec.ofChange s with cond := some uptoSmall }

/-- 'wirelesslaw25.LatencySets', WHERE WHAT IT READS IS OF BULK AT MOST 1048576: true; the input reads as it did. -/
def latencySetsUptoRow : OpenClaim := { program := "ytfkjbpgobgmmfaa", sum := "f554710be7ae43f686c7b98dce8b9072a0600da64e5e544dea43e07b47775676", func := "wireless/wirelesslaw25.LatencySets", spec := "latencySets", apart := false, narrowed := true }
def LatencySetsUptoSaid : Prop := latencySetsUptoRow.holds Try.pinned (OpenSpec.upto latencySetsSpec)

/-- 'wirelesslaw25.LatencyMust', WHERE WHAT IT READS IS OF BULK AT MOST 1048576: true; the input reads as it did. -/
def latencyMustUptoRow : OpenClaim := { program := "ytfkjbpgobgmmfaa", sum := "f554710be7ae43f686c7b98dce8b9072a0600da64e5e544dea43e07b47775676", func := "wireless/wirelesslaw25.LatencyMust", spec := "latencyMust", apart := false, narrowed := true }
def LatencyMustUptoSaid : Prop := latencyMustUptoRow.holds Try.pinned (OpenSpec.upto latencyMustSpec)

/-- 'wirelesslaw25.LatencyMoves', WHERE WHAT IT READS IS OF BULK AT MOST 1048576: true; the input reads as it did. -/
def latencyMovesUptoRow : OpenClaim := { program := "ytfkjbpgobgmmfaa", sum := "f554710be7ae43f686c7b98dce8b9072a0600da64e5e544dea43e07b47775676", func := "wireless/wirelesslaw25.LatencyMoves", spec := "latencyMoves", apart := false, narrowed := true }
def LatencyMovesUptoSaid : Prop := latencyMovesUptoRow.holds Try.pinned (OpenSpec.upto latencyMovesSpec)

/-- 'wirelesslaw25.LatencyBound', WHERE WHAT IT READS IS OF BULK AT MOST 1048576: true; the input reads as it did. -/
def latencyBoundUptoRow : OpenClaim := { program := "ytfkjbpgobgmmfaa", sum := "f554710be7ae43f686c7b98dce8b9072a0600da64e5e544dea43e07b47775676", func := "wireless/wirelesslaw25.LatencyBound", spec := "latencyBound", apart := false, narrowed := true }
def LatencyBoundUptoSaid : Prop := latencyBoundUptoRow.holds Try.pinned (OpenSpec.upto latencyBoundSpec)

/-- 'wirelesslaw25.LatencyUse', WHERE WHAT IT READS IS OF BULK AT MOST 1048576: true; the input reads as it did. -/
def latencyUseUptoRow : OpenClaim := { program := "ytfkjbpgobgmmfaa", sum := "f554710be7ae43f686c7b98dce8b9072a0600da64e5e544dea43e07b47775676", func := "wireless/wirelesslaw25.LatencyUse", spec := "latencyUse", apart := false, narrowed := true }
def LatencyUseUptoSaid : Prop := latencyUseUptoRow.holds Try.pinned (OpenSpec.upto latencyUseSpec)

end Rows
end Go.Proofs.Ytfkjbpgobgmmfaa
