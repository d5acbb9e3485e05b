/-
  No cell of these rows narrows 'for every input' (looked for: loops, veiled, ifaces, maps, wideKeys, modest, calm, conditions, laid).
  DERIVED. THE GIVEN ROWS OF THIS SEAT. 6 by the template 'for every input the law returns true; each argument reads behind the call as it read before'; 0 by the template 'total and deterministic' (their statements: YtpbfnkicbejdbaaTotals.lean).
  GIVEN WITH THE SEED: the statements are not yours to turn. If you find one false, say at which input.
  Laid BY PROGRAM, IN A SANDBOX (cutbox-rows.mjs): the forced cells as the released guide's own fill.sh prints them over the translation e88be871d06b6b4d… (all of the seat's roots in one cut). By AI agents, Wed Nov 11 2026. No macro, syntax, notation, axiom, sorry.
-/
import Derived.Test.YtpbfnkicbejdbaaChecked
import GoSem.Claim
import GoSem.ClaimJoined
import GoSem.ClaimMapViews
import Derived.JoinedTies
import Derived.KernelRfl
namespace Go.Proofs.Ytpbfnkicbejdbaa
/- THE CELL 'sum', in the pinned program and in every row, IS THE sha256 OF THE DUMP (.gsa) THAT YtpbfnkicbejdbaaProg.lean LOADS. Nothing in Lean hashes anything: it is a label: what it is worth is what the hold of that sum in a sandbox is worth. -/
noncomputable def Try.pinned : Pinned := { name := "ytpbfnkicbejdbaa", sum := "e88be871d06b6b4ddd008770209746d4b95453fd902d1ff1b0d573ac9e4c348a", checked := Try.checked }
namespace Rows
def none {H : Type} : Left H := { results := [], args := [] }

/-- 'wirelesslaw18.AdataEncodes': WHATEVER THE INPUT: true; the input reads as it did. -/
def adataEncodesSpec : ChangeSpec := { name := "adataEncodes", fn := fun _ => fun
  | [d] => { results := [.lit (.bool true)], args := [d] }
  | _ => none }
def adataEncodesRow : OpenClaim := { program := "ytpbfnkicbejdbaa", sum := "e88be871d06b6b4ddd008770209746d4b95453fd902d1ff1b0d573ac9e4c348a", func := "wireless/wirelesslaw18.AdataEncodes", spec := "adataEncodes", unfollowed := true, recurses := true, apart := false }
def AdataEncodesSaid : Prop := adataEncodesRow.holds Try.pinned (OpenSpec.ofChange adataEncodesSpec)

/-- ITS FALSE NEIGHBOUR: 'it returns false'. Refute it at one input. -/
def adataEncodesWrong : ChangeSpec := { name := "adataEncodes", fn := fun _ => fun
  | [d] => { results := [.lit (.bool false)], args := [d] }
  | _ => none }
def AdataEncodesWrongFalsely : Prop := adataEncodesRow.holds Try.pinned (OpenSpec.ofChange adataEncodesWrong)

/-- 'wirelesslaw18.AdataDecodes': WHATEVER THE INPUT: true; the input reads as it did. -/
def adataDecodesSpec : ChangeSpec := { name := "adataDecodes", fn := fun _ => fun
  | [d] => { results := [.lit (.bool true)], args := [d] }
  | _ => none }
def adataDecodesRow : OpenClaim := { program := "ytpbfnkicbejdbaa", sum := "e88be871d06b6b4ddd008770209746d4b95453fd902d1ff1b0d573ac9e4c348a", func := "wireless/wirelesslaw18.AdataDecodes", spec := "adataDecodes", unfollowed := true, recurses := true, apart := false }
def AdataDecodesSaid : Prop := adataDecodesRow.holds Try.pinned (OpenSpec.ofChange adataDecodesSpec)

/-- ITS FALSE NEIGHBOUR: 'it returns false'. Refute it at one input. -/
def adataDecodesWrong : ChangeSpec := { name := "adataDecodes", fn := fun _ => fun
  | [d] => { results := [.lit (.bool false)], args := [d] }
  | _ => none }
def AdataDecodesWrongFalsely : Prop := adataDecodesRow.holds Try.pinned (OpenSpec.ofChange adataDecodesWrong)

/-- 'wirelesslaw18.AdataFinds': WHATEVER THE INPUT: true; the input reads as it did. -/
def adataFindsSpec : ChangeSpec := { name := "adataFinds", fn := fun _ => fun
  | [d1, d2] => { results := [.lit (.bool true)], args := [d1, d2] }
  | _ => none }
def adataFindsRow : OpenClaim := { program := "ytpbfnkicbejdbaa", sum := "e88be871d06b6b4ddd008770209746d4b95453fd902d1ff1b0d573ac9e4c348a", func := "wireless/wirelesslaw18.AdataFinds", spec := "adataFinds", unfollowed := true, recurses := true, apart := false }
def AdataFindsSaid : Prop := adataFindsRow.holds Try.pinned (OpenSpec.ofChange adataFindsSpec)

/-- ITS FALSE NEIGHBOUR: 'it returns false'. Refute it at one input. -/
def adataFindsWrong : ChangeSpec := { name := "adataFinds", fn := fun _ => fun
  | [d1, d2] => { results := [.lit (.bool false)], args := [d1, d2] }
  | _ => none }
def AdataFindsWrongFalsely : Prop := adataFindsRow.holds Try.pinned (OpenSpec.ofChange adataFindsWrong)

/-- 'wirelesslaw18.AdataBuilds': WHATEVER THE INPUT: true; the input reads as it did. -/
def adataBuildsSpec : ChangeSpec := { name := "adataBuilds", fn := fun _ => fun
  | [d1, d2, d3] => { results := [.lit (.bool true)], args := [d1, d2, d3] }
  | _ => none }
def adataBuildsRow : OpenClaim := { program := "ytpbfnkicbejdbaa", sum := "e88be871d06b6b4ddd008770209746d4b95453fd902d1ff1b0d573ac9e4c348a", func := "wireless/wirelesslaw18.AdataBuilds", spec := "adataBuilds", unfollowed := true, recurses := true, apart := false }
def AdataBuildsSaid : Prop := adataBuildsRow.holds Try.pinned (OpenSpec.ofChange adataBuildsSpec)

/-- ITS FALSE NEIGHBOUR: 'it returns false'. Refute it at one input. -/
def adataBuildsWrong : ChangeSpec := { name := "adataBuilds", fn := fun _ => fun
  | [d1, d2, d3] => { results := [.lit (.bool false)], args := [d1, d2, d3] }
  | _ => none }
def AdataBuildsWrongFalsely : Prop := adataBuildsRow.holds Try.pinned (OpenSpec.ofChange adataBuildsWrong)

/-- 'wirelesslaw18.AdataBack': WHATEVER THE INPUT: true; the input reads as it did. -/
def adataBackSpec : ChangeSpec := { name := "adataBack", fn := fun _ => fun
  | [d1, d2] => { results := [.lit (.bool true)], args := [d1, d2] }
  | _ => none }
def adataBackRow : OpenClaim := { program := "ytpbfnkicbejdbaa", sum := "e88be871d06b6b4ddd008770209746d4b95453fd902d1ff1b0d573ac9e4c348a", func := "wireless/wirelesslaw18.AdataBack", spec := "adataBack", unfollowed := true, recurses := true, apart := false }
def AdataBackSaid : Prop := adataBackRow.holds Try.pinned (OpenSpec.ofChange adataBackSpec)

/-- ITS FALSE NEIGHBOUR: 'it returns false'. Refute it at one input. -/
def adataBackWrong : ChangeSpec := { name := "adataBack", fn := fun _ => fun
  | [d1, d2] => { results := [.lit (.bool false)], args := [d1, d2] }
  | _ => none }
def AdataBackWrongFalsely : Prop := adataBackRow.holds Try.pinned (OpenSpec.ofChange adataBackWrong)

/-- 'wirelesslaw18.AdataContents': WHATEVER THE INPUT: true; the input reads as it did. -/
def adataContentsSpec : ChangeSpec := { name := "adataContents", fn := fun _ => fun
  | [d1, d2, d3] => { results := [.lit (.bool true)], args := [d1, d2, d3] }
  | _ => none }
def adataContentsRow : OpenClaim := { program := "ytpbfnkicbejdbaa", sum := "e88be871d06b6b4ddd008770209746d4b95453fd902d1ff1b0d573ac9e4c348a", func := "wireless/wirelesslaw18.AdataContents", spec := "adataContents", unfollowed := true, recurses := true, apart := false }
def AdataContentsSaid : Prop := adataContentsRow.holds Try.pinned (OpenSpec.ofChange adataContentsSpec)

/-- ITS FALSE NEIGHBOUR: 'it returns false'. Refute it at one input. -/
def adataContentsWrong : ChangeSpec := { name := "adataContents", fn := fun _ => fun
  | [d1, d2, d3] => { results := [.lit (.bool false)], args := [d1, d2, d3] }
  | _ => none }
def AdataContentsWrongFalsely : Prop := adataContentsRow.holds Try.pinned (OpenSpec.ofChange adataContentsWrong)

/- THE SECOND FORM. 'bulk': how many values and letters a reading holds, each counted each time it is reached (what is shared counts as often as it is met; a slice's spare places count too). A statement '..UptoSaid' is the law's where the arguments, and the package variables that the reading takes, are together of bulk at most 1048576: NARROWER than '..Said'. Prove '..Said' where nothing that the law and all that it calls make is longer than what came in: it says more and counts as full. Else prove '..UptoSaid'. A law counts once. -/
mutual
def uptoBulk {H : Type} : DataW H → Nat
  | .lit (.string bytes) => bytes.length + 1
  | .lit _ => 1
  | .nil => 1
  | .ptr d => uptoBulk d + 1
  | .slice elems spare => uptoBulkAll elems + uptoBulkAll spare + 1
  | .agg parts => uptoBulkAll parts + 1
  | .iface _ d => uptoBulk d + 1
  | .map entries => uptoBulkEntries entries + 1
  | .held _ => 1
def uptoBulkAll {H : Type} : List (DataW H) → Nat
  | [] => 0
  | d :: r => uptoBulk d + uptoBulkAll r
def uptoBulkEntries {H : Type} : List (Lit × DataW H) → Nat
  | [] => 0
  | x :: r => uptoBulkEntry x + uptoBulkEntries r
def uptoBulkEntry {H : Type} : Lit × DataW H → Nat
  | (.string bytes, d) => bytes.length + uptoBulk d + 1
  | (_, d) => uptoBulk d + 1
 end
def uptoSmall : (H : Type) → List (DataW H) → Bool := fun _ ds => decide (uptoBulkAll ds ≤ 1048576)
def OpenSpec.upto (s : _root_.Go.ChangeSpec) : _root_.Go.OpenSpec := { _root_.Go.OpenSpec.ofChange s with cond := some uptoSmall }

/-- 'wirelesslaw18.AdataEncodes', WHERE WHAT IT READS IS OF BULK AT MOST 1048576: true; the input reads as it did. -/
def adataEncodesUptoRow : OpenClaim := { program := "ytpbfnkicbejdbaa", sum := "e88be871d06b6b4ddd008770209746d4b95453fd902d1ff1b0d573ac9e4c348a", func := "wireless/wirelesslaw18.AdataEncodes", spec := "adataEncodes", unfollowed := true, recurses := true, apart := false, narrowed := true }
def AdataEncodesUptoSaid : Prop := adataEncodesUptoRow.holds Try.pinned (OpenSpec.upto adataEncodesSpec)

/-- 'wirelesslaw18.AdataDecodes', WHERE WHAT IT READS IS OF BULK AT MOST 1048576: true; the input reads as it did. -/
def adataDecodesUptoRow : OpenClaim := { program := "ytpbfnkicbejdbaa", sum := "e88be871d06b6b4ddd008770209746d4b95453fd902d1ff1b0d573ac9e4c348a", func := "wireless/wirelesslaw18.AdataDecodes", spec := "adataDecodes", unfollowed := true, recurses := true, apart := false, narrowed := true }
def AdataDecodesUptoSaid : Prop := adataDecodesUptoRow.holds Try.pinned (OpenSpec.upto adataDecodesSpec)

/-- 'wirelesslaw18.AdataFinds', WHERE WHAT IT READS IS OF BULK AT MOST 1048576: true; the input reads as it did. -/
def adataFindsUptoRow : OpenClaim := { program := "ytpbfnkicbejdbaa", sum := "e88be871d06b6b4ddd008770209746d4b95453fd902d1ff1b0d573ac9e4c348a", func := "wireless/wirelesslaw18.AdataFinds", spec := "adataFinds", unfollowed := true, recurses := true, apart := false, narrowed := true }
def AdataFindsUptoSaid : Prop := adataFindsUptoRow.holds Try.pinned (OpenSpec.upto adataFindsSpec)

/-- 'wirelesslaw18.AdataBuilds', WHERE WHAT IT READS IS OF BULK AT MOST 1048576: true; the input reads as it did. -/
def adataBuildsUptoRow : OpenClaim := { program := "ytpbfnkicbejdbaa", sum := "e88be871d06b6b4ddd008770209746d4b95453fd902d1ff1b0d573ac9e4c348a", func := "wireless/wirelesslaw18.AdataBuilds", spec := "adataBuilds", unfollowed := true, recurses := true, apart := false, narrowed := true }
def AdataBuildsUptoSaid : Prop := adataBuildsUptoRow.holds Try.pinned (OpenSpec.upto adataBuildsSpec)

/-- 'wirelesslaw18.AdataBack', WHERE WHAT IT READS IS OF BULK AT MOST 1048576: true; the input reads as it did. -/
def adataBackUptoRow : OpenClaim := { program := "ytpbfnkicbejdbaa", sum := "e88be871d06b6b4ddd008770209746d4b95453fd902d1ff1b0d573ac9e4c348a", func := "wireless/wirelesslaw18.AdataBack", spec := "adataBack", unfollowed := true, recurses := true, apart := false, narrowed := true }
def AdataBackUptoSaid : Prop := adataBackUptoRow.holds Try.pinned (OpenSpec.upto adataBackSpec)

/-- 'wirelesslaw18.AdataContents', WHERE WHAT IT READS IS OF BULK AT MOST 1048576: true; the input reads as it did. -/
def adataContentsUptoRow : OpenClaim := { program := "ytpbfnkicbejdbaa", sum := "e88be871d06b6b4ddd008770209746d4b95453fd902d1ff1b0d573ac9e4c348a", func := "wireless/wirelesslaw18.AdataContents", spec := "adataContents", unfollowed := true, recurses := true, apart := false, narrowed := true }
def AdataContentsUptoSaid : Prop := adataContentsUptoRow.holds Try.pinned (OpenSpec.upto adataContentsSpec)

end Rows
end Go.Proofs.Ytpbfnkicbejdbaa
