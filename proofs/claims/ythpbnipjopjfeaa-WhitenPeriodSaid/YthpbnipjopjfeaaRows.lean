/-
  No cell of these rows narrows 'for every input' (looked for: loops, veiled, ifaces, maps, wideKeys, modest, calm, conditions, laid).
  DERIVED. THE GIVEN ROWS OF THIS SEAT. 5 by the template 'for every input the law returns true; each argument reads behind the call as it read before'; 0 by the template 'total and deterministic' (their statements: YthpbnipjopjfeaaTotals.lean).
  GIVEN WITH THE SEED: the statements are not yours to turn. If you find one false, say at which input.
  Laid BY PROGRAM, IN A SANDBOX (cutbox-rows.mjs): the forced cells as the released guide's own fill.sh prints them over the translation 2ed424fb6f28da8f… (all of the seat's roots in one cut). By AI agents, Wed Nov 11 2026. No macro, syntax, notation, axiom, sorry.
-/
import Derived.Test.YthpbnipjopjfeaaChecked
import GoSem.Claim
import GoSem.ClaimJoined
import GoSem.ClaimMapViews
import Derived.JoinedTies
import Derived.KernelRfl
namespace Go.Proofs.Ythpbnipjopjfeaa
/- THE CELL 'sum', in the pinned program and in every row, IS THE sha256 OF THE DUMP (.gsa) THAT YthpbnipjopjfeaaProg.lean LOADS. Nothing in Lean hashes anything: it is a label: what it is worth is what the hold of that sum in a sandbox is worth. -/
noncomputable def Try.pinned : Pinned := { name := "ythpbnipjopjfeaa", sum := "2ed424fb6f28da8f37018b37286ea1086644237cac65b78bf870bb9ac1a78c5b", checked := Try.checked }
namespace Rows
def none {H : Type} : Left H := { results := [], args := [] }

/-- 'wirelesslaw04.WhitenStates': WHATEVER THE INPUT: true; the input reads as it did. -/
def whitenStatesSpec : ChangeSpec := { name := "whitenStates", fn := fun _ => fun
  | [d1, d2] => { results := [.lit (.bool true)], args := [d1, d2] }
  | _ => none }
def whitenStatesRow : OpenClaim := { program := "ythpbnipjopjfeaa", sum := "2ed424fb6f28da8f37018b37286ea1086644237cac65b78bf870bb9ac1a78c5b", func := "wireless/wirelesslaw04.WhitenStates", spec := "whitenStates", apart := false }
def WhitenStatesSaid : Prop := whitenStatesRow.holds Try.pinned (OpenSpec.ofChange whitenStatesSpec)

/-- ITS FALSE NEIGHBOUR: 'it returns false'. Refute it at one input. -/
def whitenStatesWrong : ChangeSpec := { name := "whitenStates", fn := fun _ => fun
  | [d1, d2] => { results := [.lit (.bool false)], args := [d1, d2] }
  | _ => none }
def WhitenStatesWrongFalsely : Prop := whitenStatesRow.holds Try.pinned (OpenSpec.ofChange whitenStatesWrong)

/-- 'wirelesslaw04.WhitenStreams': WHATEVER THE INPUT: true; the input reads as it did. -/
def whitenStreamsSpec : ChangeSpec := { name := "whitenStreams", fn := fun _ => fun
  | [d1, d2] => { results := [.lit (.bool true)], args := [d1, d2] }
  | _ => none }
def whitenStreamsRow : OpenClaim := { program := "ythpbnipjopjfeaa", sum := "2ed424fb6f28da8f37018b37286ea1086644237cac65b78bf870bb9ac1a78c5b", func := "wireless/wirelesslaw04.WhitenStreams", spec := "whitenStreams", apart := false }
def WhitenStreamsSaid : Prop := whitenStreamsRow.holds Try.pinned (OpenSpec.ofChange whitenStreamsSpec)

/-- ITS FALSE NEIGHBOUR: 'it returns false'. Refute it at one input. -/
def whitenStreamsWrong : ChangeSpec := { name := "whitenStreams", fn := fun _ => fun
  | [d1, d2] => { results := [.lit (.bool false)], args := [d1, d2] }
  | _ => none }
def WhitenStreamsWrongFalsely : Prop := whitenStreamsRow.holds Try.pinned (OpenSpec.ofChange whitenStreamsWrong)

/-- 'wirelesslaw04.WhitenApplies': WHATEVER THE INPUT: true; the input reads as it did. -/
def whitenAppliesSpec : ChangeSpec := { name := "whitenApplies", fn := fun _ => fun
  | [d1, d2] => { results := [.lit (.bool true)], args := [d1, d2] }
  | _ => none }
def whitenAppliesRow : OpenClaim := { program := "ythpbnipjopjfeaa", sum := "2ed424fb6f28da8f37018b37286ea1086644237cac65b78bf870bb9ac1a78c5b", func := "wireless/wirelesslaw04.WhitenApplies", spec := "whitenApplies", apart := false }
def WhitenAppliesSaid : Prop := whitenAppliesRow.holds Try.pinned (OpenSpec.ofChange whitenAppliesSpec)

/-- ITS FALSE NEIGHBOUR: 'it returns false'. Refute it at one input. -/
def whitenAppliesWrong : ChangeSpec := { name := "whitenApplies", fn := fun _ => fun
  | [d1, d2] => { results := [.lit (.bool false)], args := [d1, d2] }
  | _ => none }
def WhitenAppliesWrongFalsely : Prop := whitenAppliesRow.holds Try.pinned (OpenSpec.ofChange whitenAppliesWrong)

/-- 'wirelesslaw04.WhitenInverse': WHATEVER THE INPUT: true; the input reads as it did. -/
def whitenInverseSpec : ChangeSpec := { name := "whitenInverse", fn := fun _ => fun
  | [d1, d2, d3] => { results := [.lit (.bool true)], args := [d1, d2, d3] }
  | _ => none }
def whitenInverseRow : OpenClaim := { program := "ythpbnipjopjfeaa", sum := "2ed424fb6f28da8f37018b37286ea1086644237cac65b78bf870bb9ac1a78c5b", func := "wireless/wirelesslaw04.WhitenInverse", spec := "whitenInverse", apart := false }
def WhitenInverseSaid : Prop := whitenInverseRow.holds Try.pinned (OpenSpec.ofChange whitenInverseSpec)

/-- ITS FALSE NEIGHBOUR: 'it returns false'. Refute it at one input. -/
def whitenInverseWrong : ChangeSpec := { name := "whitenInverse", fn := fun _ => fun
  | [d1, d2, d3] => { results := [.lit (.bool false)], args := [d1, d2, d3] }
  | _ => none }
def WhitenInverseWrongFalsely : Prop := whitenInverseRow.holds Try.pinned (OpenSpec.ofChange whitenInverseWrong)

/-- 'wirelesslaw04.WhitenPeriod': WHATEVER THE INPUT: true; the input reads as it did. -/
def whitenPeriodSpec : ChangeSpec := { name := "whitenPeriod", fn := fun _ => fun
  | [d1, d2, d3] => { results := [.lit (.bool true)], args := [d1, d2, d3] }
  | _ => none }
def whitenPeriodRow : OpenClaim := { program := "ythpbnipjopjfeaa", sum := "2ed424fb6f28da8f37018b37286ea1086644237cac65b78bf870bb9ac1a78c5b", func := "wireless/wirelesslaw04.WhitenPeriod", spec := "whitenPeriod", apart := false }
def WhitenPeriodSaid : Prop := whitenPeriodRow.holds Try.pinned (OpenSpec.ofChange whitenPeriodSpec)

/-- ITS FALSE NEIGHBOUR: 'it returns false'. Refute it at one input. -/
def whitenPeriodWrong : ChangeSpec := { name := "whitenPeriod", fn := fun _ => fun
  | [d1, d2, d3] => { results := [.lit (.bool false)], args := [d1, d2, d3] }
  | _ => none }
def WhitenPeriodWrongFalsely : Prop := whitenPeriodRow.holds Try.pinned (OpenSpec.ofChange whitenPeriodWrong)

/- THE SECOND FORM. 'bulk': how many values and letters a reading holds, each counted each time it is reached (what is shared counts as often as it is met; a slice's spare places count too). A statement '..UptoSaid' is the law's where the arguments, and the package variables that the reading takes, are together of bulk at most 1048576: NARROWER than '..Said'. Prove '..Said' where nothing that the law and all that it calls make is longer than what came in: it says more and counts as full. Else prove '..UptoSaid'. A law counts once. -/
mutual
def uptoBulk {H : Type} : DataW H → Nat
  | .lit (.string bytes) => bytes.length + 1
  | .lit _ => 1
  | .nil => 1
  | .ptr d => uptoBulk d + 1
  | .slice elems spare => uptoBulkAll elems + uptoBulkAll spare + 1
  | .agg parts => uptoBulkAll parts + 1
  | .iface _ d => uptoBulk d + 1
  | .map entries => uptoBulkEntries entries + 1
  | .held _ => 1
def uptoBulkAll {H : Type} : List (DataW H) → Nat
  | [] => 0
  | d :: r => uptoBulk d + uptoBulkAll r
def uptoBulkEntries {H : Type} : List (Lit × DataW H) → Nat
  | [] => 0
  | x :: r => uptoBulkEntry x + uptoBulkEntries r
def uptoBulkEntry {H : Type} : Lit × DataW H → Nat
  | (.string bytes, d) => bytes.length + uptoBulk d + 1
  | (_, d) => uptoBulk d + 1
 end
def uptoSmall : (H : Type) → List (DataW H) → Bool := fun _ ds => decide (uptoBulkAll ds ≤ 1048576)
def OpenSpec.upto (s : _root_.Go.ChangeSpec) : _root_.Go.OpenSpec := { _root_.Go.OpenSpec.ofChange s with cond := some uptoSmall }

/-- 'wirelesslaw04.WhitenStates', WHERE WHAT IT READS IS OF BULK AT MOST 1048576: true; the input reads as it did. -/
def whitenStatesUptoRow : OpenClaim := { program := "ythpbnipjopjfeaa", sum := "2ed424fb6f28da8f37018b37286ea1086644237cac65b78bf870bb9ac1a78c5b", func := "wireless/wirelesslaw04.WhitenStates", spec := "whitenStates", apart := false, narrowed := true }
def WhitenStatesUptoSaid : Prop := whitenStatesUptoRow.holds Try.pinned (OpenSpec.upto whitenStatesSpec)

/-- 'wirelesslaw04.WhitenStreams', WHERE WHAT IT READS IS OF BULK AT MOST 1048576: true; the input reads as it did. -/
def whitenStreamsUptoRow : OpenClaim := { program := "ythpbnipjopjfeaa", sum := "2ed424fb6f28da8f37018b37286ea1086644237cac65b78bf870bb9ac1a78c5b", func := "wireless/wirelesslaw04.WhitenStreams", spec := "whitenStreams", apart := false, narrowed := true }
def WhitenStreamsUptoSaid : Prop := whitenStreamsUptoRow.holds Try.pinned (OpenSpec.upto whitenStreamsSpec)

/-- 'wirelesslaw04.WhitenApplies', WHERE WHAT IT READS IS OF BULK AT MOST 1048576: true; the input reads as it did. -/
def whitenAppliesUptoRow : OpenClaim := { program := "ythpbnipjopjfeaa", sum := "2ed424fb6f28da8f37018b37286ea1086644237cac65b78bf870bb9ac1a78c5b", func := "wireless/wirelesslaw04.WhitenApplies", spec := "whitenApplies", apart := false, narrowed := true }
def WhitenAppliesUptoSaid : Prop := whitenAppliesUptoRow.holds Try.pinned (OpenSpec.upto whitenAppliesSpec)

/-- 'wirelesslaw04.WhitenInverse', WHERE WHAT IT READS IS OF BULK AT MOST 1048576: true; the input reads as it did. -/
def whitenInverseUptoRow : OpenClaim := { program := "ythpbnipjopjfeaa", sum := "2ed424fb6f28da8f37018b37286ea1086644237cac65b78bf870bb9ac1a78c5b", func := "wireless/wirelesslaw04.WhitenInverse", spec := "whitenInverse", apart := false, narrowed := true }
def WhitenInverseUptoSaid : Prop := whitenInverseUptoRow.holds Try.pinned (OpenSpec.upto whitenInverseSpec)

/-- 'wirelesslaw04.WhitenPeriod', WHERE WHAT IT READS IS OF BULK AT MOST 1048576: true; the input reads as it did. -/
def whitenPeriodUptoRow : OpenClaim := { program := "ythpbnipjopjfeaa", sum := "2ed424fb6f28da8f37018b37286ea1086644237cac65b78bf870bb9ac1a78c5b", func := "wireless/wirelesslaw04.WhitenPeriod", spec := "whitenPeriod", apart := false, narrowed := true }
def WhitenPeriodUptoSaid : Prop := whitenPeriodUptoRow.holds Try.pinned (OpenSpec.upto whitenPeriodSpec)

end Rows
end Go.Proofs.Ythpbnipjopjfeaa
