/-
  No cell of these rows narrows 'for every input' (looked for: loops, veiled, ifaces, maps, wideKeys, modest, calm, conditions, laid).
  DERIVED. THE GIVEN ROWS OF THIS SEAT. 5 by the template 'for every input the law returns true; each argument reads behind the call as it read before'; 0 by the template 'total and deterministic' (their statements: YtpoagepchlfemaaTotals.lean).
  GIVEN WITH THE SEED: the statements are not yours to turn. If you find one false, say at which input.
  Laid BY PROGRAM, IN A SANDBOX (cutbox-rows.mjs): the forced cells as the released guide's own fill.sh prints them over the translation 2a1524726f83840c… (all of the seat's roots in one cut). By AI agents, Wed Nov 11 2026. No macro, syntax, notation, axiom, sorry.
-/
import Derived.Test.YtpoagepchlfemaaChecked
import GoSem.Claim
import GoSem.ClaimJoined
import GoSem.ClaimMapViews
import Derived.JoinedTies
import Derived.KernelRfl
namespace Go.Proofs.Ytpoagepchlfemaa
/- THE CELL 'sum', in the pinned program and in every row, IS THE sha256 OF THE DUMP (.gsa) THAT YtpoagepchlfemaaProg.lean LOADS. Nothing in Lean hashes anything: it is a label: what it is worth is what the hold of that sum in a sandbox is worth. -/
noncomputable def Try.pinned : Pinned := { name := "ytpoagepchlfemaa", sum := "2a1524726f83840c33777dd3e728575d04f058ceadba055c13cb313879bebd2e", checked := Try.checked }
namespace Rows
def none {H : Type} : Left H := { results := [], args := [] }

/-- 'wirelesslaw28.ProcedureNews': WHATEVER THE INPUT: true; the input reads as it did. -/
def procedureNewsSpec : ChangeSpec := { name := "procedureNews", fn := fun _ => fun
  | [d1, d2, d3] => { results := [.lit (.bool true)], args := [d1, d2, d3] }
  | _ => none }
def procedureNewsRow : OpenClaim := { program := "ytpoagepchlfemaa", sum := "2a1524726f83840c33777dd3e728575d04f058ceadba055c13cb313879bebd2e", func := "wireless/wirelesslaw28.ProcedureNews", spec := "procedureNews", unfollowed := true, recurses := true, apart := false }
def ProcedureNewsSaid : Prop := procedureNewsRow.holds Try.pinned (OpenSpec.ofChange procedureNewsSpec)

/-- ITS FALSE NEIGHBOUR: 'it returns false'. Refute it at one input. -/
def procedureNewsWrong : ChangeSpec := { name := "procedureNews", fn := fun _ => fun
  | [d1, d2, d3] => { results := [.lit (.bool false)], args := [d1, d2, d3] }
  | _ => none }
def ProcedureNewsWrongFalsely : Prop := procedureNewsRow.holds Try.pinned (OpenSpec.ofChange procedureNewsWrong)

/-- 'wirelesslaw28.ProcedureTogether': WHATEVER THE INPUT: true; the input reads as it did. -/
def procedureTogetherSpec : ChangeSpec := { name := "procedureTogether", fn := fun _ => fun
  | [d] => { results := [.lit (.bool true)], args := [d] }
  | _ => none }
def procedureTogetherRow : OpenClaim := { program := "ytpoagepchlfemaa", sum := "2a1524726f83840c33777dd3e728575d04f058ceadba055c13cb313879bebd2e", func := "wireless/wirelesslaw28.ProcedureTogether", spec := "procedureTogether", unfollowed := true, recurses := true, apart := false }
def ProcedureTogetherSaid : Prop := procedureTogetherRow.holds Try.pinned (OpenSpec.ofChange procedureTogetherSpec)

/-- ITS FALSE NEIGHBOUR: 'it returns false'. Refute it at one input. -/
def procedureTogetherWrong : ChangeSpec := { name := "procedureTogether", fn := fun _ => fun
  | [d] => { results := [.lit (.bool false)], args := [d] }
  | _ => none }
def ProcedureTogetherWrongFalsely : Prop := procedureTogetherRow.holds Try.pinned (OpenSpec.ofChange procedureTogetherWrong)

/-- 'wirelesslaw28.ProcedureVersions': WHATEVER THE INPUT: true; the input reads as it did. -/
def procedureVersionsSpec : ChangeSpec := { name := "procedureVersions", fn := fun _ => fun
  | [d] => { results := [.lit (.bool true)], args := [d] }
  | _ => none }
def procedureVersionsRow : OpenClaim := { program := "ytpoagepchlfemaa", sum := "2a1524726f83840c33777dd3e728575d04f058ceadba055c13cb313879bebd2e", func := "wireless/wirelesslaw28.ProcedureVersions", spec := "procedureVersions", unfollowed := true, recurses := true, apart := false }
def ProcedureVersionsSaid : Prop := procedureVersionsRow.holds Try.pinned (OpenSpec.ofChange procedureVersionsSpec)

/-- ITS FALSE NEIGHBOUR: 'it returns false'. Refute it at one input. -/
def procedureVersionsWrong : ChangeSpec := { name := "procedureVersions", fn := fun _ => fun
  | [d] => { results := [.lit (.bool false)], args := [d] }
  | _ => none }
def ProcedureVersionsWrongFalsely : Prop := procedureVersionsRow.holds Try.pinned (OpenSpec.ofChange procedureVersionsWrong)

/-- 'wirelesslaw28.ProcedureLengths': WHATEVER THE INPUT: true; the input reads as it did. -/
def procedureLengthsSpec : ChangeSpec := { name := "procedureLengths", fn := fun _ => fun
  | [d] => { results := [.lit (.bool true)], args := [d] }
  | _ => none }
def procedureLengthsRow : OpenClaim := { program := "ytpoagepchlfemaa", sum := "2a1524726f83840c33777dd3e728575d04f058ceadba055c13cb313879bebd2e", func := "wireless/wirelesslaw28.ProcedureLengths", spec := "procedureLengths", unfollowed := true, recurses := true, apart := false }
def ProcedureLengthsSaid : Prop := procedureLengthsRow.holds Try.pinned (OpenSpec.ofChange procedureLengthsSpec)

/-- ITS FALSE NEIGHBOUR: 'it returns false'. Refute it at one input. -/
def procedureLengthsWrong : ChangeSpec := { name := "procedureLengths", fn := fun _ => fun
  | [d] => { results := [.lit (.bool false)], args := [d] }
  | _ => none }
def ProcedureLengthsWrongFalsely : Prop := procedureLengthsRow.holds Try.pinned (OpenSpec.ofChange procedureLengthsWrong)

/-- 'wirelesslaw28.ProcedureEncrypts': WHATEVER THE INPUT: true; the input reads as it did. -/
def procedureEncryptsSpec : ChangeSpec := { name := "procedureEncrypts", fn := fun _ => fun
  | [d1, d2, d3] => { results := [.lit (.bool true)], args := [d1, d2, d3] }
  | _ => none }
def procedureEncryptsRow : OpenClaim := { program := "ytpoagepchlfemaa", sum := "2a1524726f83840c33777dd3e728575d04f058ceadba055c13cb313879bebd2e", func := "wireless/wirelesslaw28.ProcedureEncrypts", spec := "procedureEncrypts", unfollowed := true, recurses := true, apart := false }
def ProcedureEncryptsSaid : Prop := procedureEncryptsRow.holds Try.pinned (OpenSpec.ofChange procedureEncryptsSpec)

/-- ITS FALSE NEIGHBOUR: 'it returns false'. Refute it at one input. -/
def procedureEncryptsWrong : ChangeSpec := { name := "procedureEncrypts", fn := fun _ => fun
  | [d1, d2, d3] => { results := [.lit (.bool false)], args := [d1, d2, d3] }
  | _ => none }
def ProcedureEncryptsWrongFalsely : Prop := procedureEncryptsRow.holds Try.pinned (OpenSpec.ofChange procedureEncryptsWrong)

/- THE SECOND FORM. 'bulk': how many values and letters a reading holds, each counted each time it is reached (what is shared counts as often as it is met; a slice's spare places count too). A statement '..UptoSaid' is the law's where the arguments, and the package variables that the reading takes, are together of bulk at most 1048576: NARROWER than '..Said'. Prove '..Said' where nothing that the law and all that it calls make is longer than what came in: it says more and counts as full. Else prove '..UptoSaid'. A law counts once. -/
mutual
def uptoBulk {H : Type} : DataW H → Nat
  | .lit (.string bytes) => bytes.length + 1
  | .lit _ => 1
  | .nil => 1
  | .ptr d => uptoBulk d + 1
  | .slice elems spare => uptoBulkAll elems + uptoBulkAll spare + 1
  | .agg parts => uptoBulkAll parts + 1
  | .iface _ d => uptoBulk d + 1
  | .map entries => uptoBulkEntries entries + 1
  | .held _ => 1
def uptoBulkAll {H : Type} : List (DataW H) → Nat
  | [] => 0
  | d :: r => uptoBulk d + uptoBulkAll r
def uptoBulkEntries {H : Type} : List (Lit × DataW H) → Nat
  | [] => 0
  | x :: r => uptoBulkEntry x + uptoBulkEntries r
def uptoBulkEntry {H : Type} : Lit × DataW H → Nat
  | (.string bytes, d) => bytes.length + uptoBulk d + 1
  | (_, d) => uptoBulk d + 1
 end
def uptoSmall : (H : Type) → List (DataW H) → Bool := fun _ ds => decide (uptoBulkAll ds ≤ 1048576)
def OpenSpec.upto (s : _root_.Go.ChangeSpec) : _root_.Go.OpenSpec := { _root_.Go.OpenSpec.ofChange s with cond := some uptoSmall }

/-- 'wirelesslaw28.ProcedureNews', WHERE WHAT IT READS IS OF BULK AT MOST 1048576: true; the input reads as it did. -/
def procedureNewsUptoRow : OpenClaim := { program := "ytpoagepchlfemaa", sum := "2a1524726f83840c33777dd3e728575d04f058ceadba055c13cb313879bebd2e", func := "wireless/wirelesslaw28.ProcedureNews", spec := "procedureNews", unfollowed := true, recurses := true, apart := false, narrowed := true }
def ProcedureNewsUptoSaid : Prop := procedureNewsUptoRow.holds Try.pinned (OpenSpec.upto procedureNewsSpec)

/-- 'wirelesslaw28.ProcedureTogether', WHERE WHAT IT READS IS OF BULK AT MOST 1048576: true; the input reads as it did. -/
def procedureTogetherUptoRow : OpenClaim := { program := "ytpoagepchlfemaa", sum := "2a1524726f83840c33777dd3e728575d04f058ceadba055c13cb313879bebd2e", func := "wireless/wirelesslaw28.ProcedureTogether", spec := "procedureTogether", unfollowed := true, recurses := true, apart := false, narrowed := true }
def ProcedureTogetherUptoSaid : Prop := procedureTogetherUptoRow.holds Try.pinned (OpenSpec.upto procedureTogetherSpec)

/-- 'wirelesslaw28.ProcedureVersions', WHERE WHAT IT READS IS OF BULK AT MOST 1048576: true; the input reads as it did. -/
def procedureVersionsUptoRow : OpenClaim := { program := "ytpoagepchlfemaa", sum := "2a1524726f83840c33777dd3e728575d04f058ceadba055c13cb313879bebd2e", func := "wireless/wirelesslaw28.ProcedureVersions", spec := "procedureVersions", unfollowed := true, recurses := true, apart := false, narrowed := true }
def ProcedureVersionsUptoSaid : Prop := procedureVersionsUptoRow.holds Try.pinned (OpenSpec.upto procedureVersionsSpec)

/-- 'wirelesslaw28.ProcedureLengths', WHERE WHAT IT READS IS OF BULK AT MOST 1048576: true; the input reads as it did. -/
def procedureLengthsUptoRow : OpenClaim := { program := "ytpoagepchlfemaa", sum := "2a1524726f83840c33777dd3e728575d04f058ceadba055c13cb313879bebd2e", func := "wireless/wirelesslaw28.ProcedureLengths", spec := "procedureLengths", unfollowed := true, recurses := true, apart := false, narrowed := true }
def ProcedureLengthsUptoSaid : Prop := procedureLengthsUptoRow.holds Try.pinned (OpenSpec.upto procedureLengthsSpec)

/-- 'wirelesslaw28.ProcedureEncrypts', WHERE WHAT IT READS IS OF BULK AT MOST 1048576: true; the input reads as it did. -/
def procedureEncryptsUptoRow : OpenClaim := { program := "ytpoagepchlfemaa", sum := "2a1524726f83840c33777dd3e728575d04f058ceadba055c13cb313879bebd2e", func := "wireless/wirelesslaw28.ProcedureEncrypts", spec := "procedureEncrypts", unfollowed := true, recurses := true, apart := false, narrowed := true }
def ProcedureEncryptsUptoSaid : Prop := procedureEncryptsUptoRow.holds Try.pinned (OpenSpec.upto procedureEncryptsSpec)

end Rows
end Go.Proofs.Ytpoagepchlfemaa
