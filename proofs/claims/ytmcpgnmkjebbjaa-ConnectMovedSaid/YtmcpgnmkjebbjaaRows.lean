/-
  No cell of these rows narrows 'for every input' (looked for: loops, veiled, ifaces, maps, wideKeys, modest, calm, conditions, laid).
  DERIVED. THE GIVEN ROWS OF THIS SEAT. 8 by the template 'for every input the law returns true; each argument reads behind the call as it read before'; 0 by the template 'total and deterministic' (their statements: YtmcpgnmkjebbjaaTotals.lean).
  GIVEN WITH THE SEED: the statements are not yours to turn. If you find one false, say at which input.
  Laid BY PROGRAM, IN A SANDBOX (cutbox-rows.mjs): the forced cells as the released guide's own fill.sh prints them over the translation f75136dcddf9e972… (all of the seat's roots in one cut). By AI agents, Wed Nov 11 2026. No macro, syntax, notation, axiom, sorry.
-/
import Derived.Test.YtmcpgnmkjebbjaaChecked
import GoSem.Claim
import GoSem.ClaimJoined
import GoSem.ClaimMapViews
import Derived.JoinedTies
import Derived.KernelRfl
namespace Go.Proofs.Ytmcpgnmkjebbjaa
/- THE CELL 'sum', in the pinned program and in every row, IS THE sha256 OF THE DUMP (.gsa) THAT YtmcpgnmkjebbjaaProg.lean LOADS. Nothing in Lean hashes anything: it is a label: what it is worth is what the hold of that sum in a sandbox is worth. -/
noncomputable def Try.pinned : Pinned := { name := "ytmcpgnmkjebbjaa", sum := "f75136dcddf9e9720b99ae9606f48d08b286c03e84c8780769f0987fe5d79c2b", checked := Try.checked }
namespace Rows
def none {H : Type} : Left H := { results := [], args := [] }

/-- 'wirelesslaw17.ConnectChecks': WHATEVER THE INPUT: true; the input reads as it did. -/
def connectChecksSpec : ChangeSpec := { name := "connectChecks", fn := fun _ => fun
  | [d1, d2] => { results := [.lit (.bool true)], args := [d1, d2] }
  | _ => none }
def connectChecksRow : OpenClaim := { program := "ytmcpgnmkjebbjaa", sum := "f75136dcddf9e9720b99ae9606f48d08b286c03e84c8780769f0987fe5d79c2b", func := "wireless/wirelesslaw17.ConnectChecks", spec := "connectChecks", apart := false }
def ConnectChecksSaid : Prop := connectChecksRow.holds Try.pinned (OpenSpec.ofChange connectChecksSpec)

/-- ITS FALSE NEIGHBOUR: 'it returns false'. Refute it at one input. -/
def connectChecksWrong : ChangeSpec := { name := "connectChecks", fn := fun _ => fun
  | [d1, d2] => { results := [.lit (.bool false)], args := [d1, d2] }
  | _ => none }
def ConnectChecksWrongFalsely : Prop := connectChecksRow.holds Try.pinned (OpenSpec.ofChange connectChecksWrong)

/-- 'wirelesslaw17.ConnectBytes': WHATEVER THE INPUT: true; the input reads as it did. -/
def connectBytesSpec : ChangeSpec := { name := "connectBytes", fn := fun _ => fun
  | [d1, d2] => { results := [.lit (.bool true)], args := [d1, d2] }
  | _ => none }
def connectBytesRow : OpenClaim := { program := "ytmcpgnmkjebbjaa", sum := "f75136dcddf9e9720b99ae9606f48d08b286c03e84c8780769f0987fe5d79c2b", func := "wireless/wirelesslaw17.ConnectBytes", spec := "connectBytes", apart := false }
def ConnectBytesSaid : Prop := connectBytesRow.holds Try.pinned (OpenSpec.ofChange connectBytesSpec)

/-- ITS FALSE NEIGHBOUR: 'it returns false'. Refute it at one input. -/
def connectBytesWrong : ChangeSpec := { name := "connectBytes", fn := fun _ => fun
  | [d1, d2] => { results := [.lit (.bool false)], args := [d1, d2] }
  | _ => none }
def ConnectBytesWrongFalsely : Prop := connectBytesRow.holds Try.pinned (OpenSpec.ofChange connectBytesWrong)

/-- 'wirelesslaw17.ConnectTimes': WHATEVER THE INPUT: true; the input reads as it did. -/
def connectTimesSpec : ChangeSpec := { name := "connectTimes", fn := fun _ => fun
  | [d1, d2, d3] => { results := [.lit (.bool true)], args := [d1, d2, d3] }
  | _ => none }
def connectTimesRow : OpenClaim := { program := "ytmcpgnmkjebbjaa", sum := "f75136dcddf9e9720b99ae9606f48d08b286c03e84c8780769f0987fe5d79c2b", func := "wireless/wirelesslaw17.ConnectTimes", spec := "connectTimes", apart := false }
def ConnectTimesSaid : Prop := connectTimesRow.holds Try.pinned (OpenSpec.ofChange connectTimesSpec)

/-- ITS FALSE NEIGHBOUR: 'it returns false'. Refute it at one input. -/
def connectTimesWrong : ChangeSpec := { name := "connectTimes", fn := fun _ => fun
  | [d1, d2, d3] => { results := [.lit (.bool false)], args := [d1, d2, d3] }
  | _ => none }
def ConnectTimesWrongFalsely : Prop := connectTimesRow.holds Try.pinned (OpenSpec.ofChange connectTimesWrong)

/-- 'wirelesslaw17.ConnectExpects': WHATEVER THE INPUT: true; the input reads as it did. -/
def connectExpectsSpec : ChangeSpec := { name := "connectExpects", fn := fun _ => fun
  | [d1, d2] => { results := [.lit (.bool true)], args := [d1, d2] }
  | _ => none }
def connectExpectsRow : OpenClaim := { program := "ytmcpgnmkjebbjaa", sum := "f75136dcddf9e9720b99ae9606f48d08b286c03e84c8780769f0987fe5d79c2b", func := "wireless/wirelesslaw17.ConnectExpects", spec := "connectExpects", apart := false }
def ConnectExpectsSaid : Prop := connectExpectsRow.holds Try.pinned (OpenSpec.ofChange connectExpectsSpec)

/-- ITS FALSE NEIGHBOUR: 'it returns false'. Refute it at one input. -/
def connectExpectsWrong : ChangeSpec := { name := "connectExpects", fn := fun _ => fun
  | [d1, d2] => { results := [.lit (.bool false)], args := [d1, d2] }
  | _ => none }
def ConnectExpectsWrongFalsely : Prop := connectExpectsRow.holds Try.pinned (OpenSpec.ofChange connectExpectsWrong)

/-- 'wirelesslaw17.ConnectMoves': WHATEVER THE INPUT: true; the input reads as it did. -/
def connectMovesSpec : ChangeSpec := { name := "connectMoves", fn := fun _ => fun
  | [d1, d2, d3] => { results := [.lit (.bool true)], args := [d1, d2, d3] }
  | _ => none }
def connectMovesRow : OpenClaim := { program := "ytmcpgnmkjebbjaa", sum := "f75136dcddf9e9720b99ae9606f48d08b286c03e84c8780769f0987fe5d79c2b", func := "wireless/wirelesslaw17.ConnectMoves", spec := "connectMoves", apart := false }
def ConnectMovesSaid : Prop := connectMovesRow.holds Try.pinned (OpenSpec.ofChange connectMovesSpec)

/-- ITS FALSE NEIGHBOUR: 'it returns false'. Refute it at one input. -/
def connectMovesWrong : ChangeSpec := { name := "connectMoves", fn := fun _ => fun
  | [d1, d2, d3] => { results := [.lit (.bool false)], args := [d1, d2, d3] }
  | _ => none }
def ConnectMovesWrongFalsely : Prop := connectMovesRow.holds Try.pinned (OpenSpec.ofChange connectMovesWrong)

/-- 'wirelesslaw17.ConnectBack': WHATEVER THE INPUT: true; the input reads as it did. -/
def connectBackSpec : ChangeSpec := { name := "connectBack", fn := fun _ => fun
  | [d1, d2] => { results := [.lit (.bool true)], args := [d1, d2] }
  | _ => none }
def connectBackRow : OpenClaim := { program := "ytmcpgnmkjebbjaa", sum := "f75136dcddf9e9720b99ae9606f48d08b286c03e84c8780769f0987fe5d79c2b", func := "wireless/wirelesslaw17.ConnectBack", spec := "connectBack", apart := false }
def ConnectBackSaid : Prop := connectBackRow.holds Try.pinned (OpenSpec.ofChange connectBackSpec)

/-- ITS FALSE NEIGHBOUR: 'it returns false'. Refute it at one input. -/
def connectBackWrong : ChangeSpec := { name := "connectBack", fn := fun _ => fun
  | [d1, d2] => { results := [.lit (.bool false)], args := [d1, d2] }
  | _ => none }
def ConnectBackWrongFalsely : Prop := connectBackRow.holds Try.pinned (OpenSpec.ofChange connectBackWrong)

/-- 'wirelesslaw17.ConnectWindow': WHATEVER THE INPUT: true; the input reads as it did. -/
def connectWindowSpec : ChangeSpec := { name := "connectWindow", fn := fun _ => fun
  | [d1, d2, d3] => { results := [.lit (.bool true)], args := [d1, d2, d3] }
  | _ => none }
def connectWindowRow : OpenClaim := { program := "ytmcpgnmkjebbjaa", sum := "f75136dcddf9e9720b99ae9606f48d08b286c03e84c8780769f0987fe5d79c2b", func := "wireless/wirelesslaw17.ConnectWindow", spec := "connectWindow", unfollowed := true, recurses := true, apart := false }
def ConnectWindowSaid : Prop := connectWindowRow.holds Try.pinned (OpenSpec.ofChange connectWindowSpec)

/-- ITS FALSE NEIGHBOUR: 'it returns false'. Refute it at one input. -/
def connectWindowWrong : ChangeSpec := { name := "connectWindow", fn := fun _ => fun
  | [d1, d2, d3] => { results := [.lit (.bool false)], args := [d1, d2, d3] }
  | _ => none }
def ConnectWindowWrongFalsely : Prop := connectWindowRow.holds Try.pinned (OpenSpec.ofChange connectWindowWrong)

/-- 'wirelesslaw17.ConnectMoved': WHATEVER THE INPUT: true; the input reads as it did. -/
def connectMovedSpec : ChangeSpec := { name := "connectMoved", fn := fun _ => fun
  | [d1, d2, d3] => { results := [.lit (.bool true)], args := [d1, d2, d3] }
  | _ => none }
def connectMovedRow : OpenClaim := { program := "ytmcpgnmkjebbjaa", sum := "f75136dcddf9e9720b99ae9606f48d08b286c03e84c8780769f0987fe5d79c2b", func := "wireless/wirelesslaw17.ConnectMoved", spec := "connectMoved", unfollowed := true, recurses := true, apart := false }
def ConnectMovedSaid : Prop := connectMovedRow.holds Try.pinned (OpenSpec.ofChange connectMovedSpec)

/-- ITS FALSE NEIGHBOUR: 'it returns false'. Refute it at one input. -/
def connectMovedWrong : ChangeSpec := { name := "connectMoved", fn := fun _ => fun
  | [d1, d2, d3] => { results := [.lit (.bool false)], args := [d1, d2, d3] }
  | _ => none }
def ConnectMovedWrongFalsely : Prop := connectMovedRow.holds Try.pinned (OpenSpec.ofChange connectMovedWrong)

/- THE SECOND FORM. 'bulk': how many values and letters a reading holds, each counted each time it is reached (what is shared counts as often as it is met; a slice's spare places count too). A statement '..UptoSaid' is the law's where the arguments, and the package variables that the reading takes, are together of bulk at most 1048576: NARROWER than '..Said'. Prove '..Said' where nothing that the law and all that it calls make is longer than what came in: it says more and counts as full. Else prove '..UptoSaid'. A law counts once. -/
mutual
def uptoBulk {H : Type} : DataW H → Nat
  | .lit (.string bytes) => bytes.length + 1
  | .lit _ => 1
  | .nil => 1
  | .ptr d => uptoBulk d + 1
  | .slice elems spare => uptoBulkAll elems + uptoBulkAll spare + 1
  | .agg parts => uptoBulkAll parts + 1
  | .iface _ d => uptoBulk d + 1
  | .map entries => uptoBulkEntries entries + 1
  | .held _ => 1
def uptoBulkAll {H : Type} : List (DataW H) → Nat
  | [] => 0
  | d :: r => uptoBulk d + uptoBulkAll r
def uptoBulkEntries {H : Type} : List (Lit × DataW H) → Nat
  | [] => 0
  | x :: r => uptoBulkEntry x + uptoBulkEntries r
def uptoBulkEntry {H : Type} : Lit × DataW H → Nat
  | (.string bytes, d) => bytes.length + uptoBulk d + 1
  | (_, d) => uptoBulk d + 1
 end
def uptoSmall : (H : Type) → List (DataW H) → Bool := fun _ ds => decide (uptoBulkAll ds ≤ 1048576)
def OpenSpec.upto (s : _root_.Go.ChangeSpec) : _root_.Go.OpenSpec := { _root_.Go.OpenSpec.ofChange s with cond := some uptoSmall }

/-- 'wirelesslaw17.ConnectChecks', WHERE WHAT IT READS IS OF BULK AT MOST 1048576: true; the input reads as it did. -/
def connectChecksUptoRow : OpenClaim := { program := "ytmcpgnmkjebbjaa", sum := "f75136dcddf9e9720b99ae9606f48d08b286c03e84c8780769f0987fe5d79c2b", func := "wireless/wirelesslaw17.ConnectChecks", spec := "connectChecks", apart := false, narrowed := true }
def ConnectChecksUptoSaid : Prop := connectChecksUptoRow.holds Try.pinned (OpenSpec.upto connectChecksSpec)

/-- 'wirelesslaw17.ConnectBytes', WHERE WHAT IT READS IS OF BULK AT MOST 1048576: true; the input reads as it did. -/
def connectBytesUptoRow : OpenClaim := { program := "ytmcpgnmkjebbjaa", sum := "f75136dcddf9e9720b99ae9606f48d08b286c03e84c8780769f0987fe5d79c2b", func := "wireless/wirelesslaw17.ConnectBytes", spec := "connectBytes", apart := false, narrowed := true }
def ConnectBytesUptoSaid : Prop := connectBytesUptoRow.holds Try.pinned (OpenSpec.upto connectBytesSpec)

/-- 'wirelesslaw17.ConnectTimes', WHERE WHAT IT READS IS OF BULK AT MOST 1048576: true; the input reads as it did. -/
def connectTimesUptoRow : OpenClaim := { program := "ytmcpgnmkjebbjaa", sum := "f75136dcddf9e9720b99ae9606f48d08b286c03e84c8780769f0987fe5d79c2b", func := "wireless/wirelesslaw17.ConnectTimes", spec := "connectTimes", apart := false, narrowed := true }
def ConnectTimesUptoSaid : Prop := connectTimesUptoRow.holds Try.pinned (OpenSpec.upto connectTimesSpec)

/-- 'wirelesslaw17.ConnectExpects', WHERE WHAT IT READS IS OF BULK AT MOST 1048576: true; the input reads as it did. -/
def connectExpectsUptoRow : OpenClaim := { program := "ytmcpgnmkjebbjaa", sum := "f75136dcddf9e9720b99ae9606f48d08b286c03e84c8780769f0987fe5d79c2b", func := "wireless/wirelesslaw17.ConnectExpects", spec := "connectExpects", apart := false, narrowed := true }
def ConnectExpectsUptoSaid : Prop := connectExpectsUptoRow.holds Try.pinned (OpenSpec.upto connectExpectsSpec)

/-- 'wirelesslaw17.ConnectMoves', WHERE WHAT IT READS IS OF BULK AT MOST 1048576: true; the input reads as it did. -/
def connectMovesUptoRow : OpenClaim := { program := "ytmcpgnmkjebbjaa", sum := "f75136dcddf9e9720b99ae9606f48d08b286c03e84c8780769f0987fe5d79c2b", func := "wireless/wirelesslaw17.ConnectMoves", spec := "connectMoves", apart := false, narrowed := true }
def ConnectMovesUptoSaid : Prop := connectMovesUptoRow.holds Try.pinned (OpenSpec.upto connectMovesSpec)

/-- 'wirelesslaw17.ConnectBack', WHERE WHAT IT READS IS OF BULK AT MOST 1048576: true; the input reads as it did. -/
def connectBackUptoRow : OpenClaim := { program := "ytmcpgnmkjebbjaa", sum := "f75136dcddf9e9720b99ae9606f48d08b286c03e84c8780769f0987fe5d79c2b", func := "wireless/wirelesslaw17.ConnectBack", spec := "connectBack", apart := false, narrowed := true }
def ConnectBackUptoSaid : Prop := connectBackUptoRow.holds Try.pinned (OpenSpec.upto connectBackSpec)

/-- 'wirelesslaw17.ConnectWindow', WHERE WHAT IT READS IS OF BULK AT MOST 1048576: true; the input reads as it did. -/
def connectWindowUptoRow : OpenClaim := { program := "ytmcpgnmkjebbjaa", sum := "f75136dcddf9e9720b99ae9606f48d08b286c03e84c8780769f0987fe5d79c2b", func := "wireless/wirelesslaw17.ConnectWindow", spec := "connectWindow", unfollowed := true, recurses := true, apart := false, narrowed := true }
def ConnectWindowUptoSaid : Prop := connectWindowUptoRow.holds Try.pinned (OpenSpec.upto connectWindowSpec)

/-- 'wirelesslaw17.ConnectMoved', WHERE WHAT IT READS IS OF BULK AT MOST 1048576: true; the input reads as it did. -/
def connectMovedUptoRow : OpenClaim := { program := "ytmcpgnmkjebbjaa", sum := "f75136dcddf9e9720b99ae9606f48d08b286c03e84c8780769f0987fe5d79c2b", func := "wireless/wirelesslaw17.ConnectMoved", spec := "connectMoved", unfollowed := true, recurses := true, apart := false, narrowed := true }
def ConnectMovedUptoSaid : Prop := connectMovedUptoRow.holds Try.pinned (OpenSpec.upto connectMovedSpec)

end Rows
end Go.Proofs.Ytmcpgnmkjebbjaa
