/-
  No cell of these rows narrows 'for every input' (looked for: loops, veiled, ifaces, maps, wideKeys, modest, calm, conditions, laid).
  DERIVED. THE GIVEN ROWS OF THIS SEAT. 10 by the template 'for every input the law returns true; each argument reads behind the call as it read before'; 0 by the template 'total and deterministic' (their statements: YtbnfjielnamepaaTotals.lean).
  GIVEN WITH THE SEED: the statements are not yours to turn. If you find one false, say at which input.
  Laid BY PROGRAM, IN A SANDBOX (cutbox-rows.mjs): the forced cells as the released guide's own fill.sh prints them over the translation d97c9b8b5d2af306… (all of the seat's roots in one cut). By AI agents, Wed Nov 11 2026. No macro, syntax, notation, axiom, sorry.
-/
import Derived.Test.YtbnfjielnamepaaChecked
import GoSem.Claim
import GoSem.ClaimJoined
import GoSem.ClaimMapViews
import Derived.JoinedTies
import Derived.KernelRfl
namespace Go.Proofs.Ytbnfjielnamepaa
/- THE CELL 'sum', in the pinned program and in every row, IS THE sha256 OF THE DUMP (.gsa) THAT YtbnfjielnamepaaProg.lean LOADS. Nothing in Lean hashes anything: it is a label: what it is worth is what the hold of that sum in a sandbox is worth. -/
noncomputable def Try.pinned : Pinned := { name := "ytbnfjielnamepaa", sum := "d97c9b8b5d2af306a23631d6f246c1de19ed299d164f56d359df420a12279897", checked := Try.checked }
namespace Rows
def none {H : Type} : Left H := { results := [], args := [] }

/-- 'wirelesslaw23.DatapduChecks': WHATEVER THE INPUT: true; the input reads as it did. -/
def datapduChecksSpec : ChangeSpec := { name := "datapduChecks", fn := fun _ => fun
  | [d] => { results := [.lit (.bool true)], args := [d] }
  | _ => none }
def datapduChecksRow : OpenClaim := { program := "ytbnfjielnamepaa", sum := "d97c9b8b5d2af306a23631d6f246c1de19ed299d164f56d359df420a12279897", func := "wireless/wirelesslaw23.DatapduChecks", spec := "datapduChecks", unfollowed := true, recurses := true, apart := false }
def DatapduChecksSaid : Prop := datapduChecksRow.holds Try.pinned (OpenSpec.ofChange datapduChecksSpec)

/-- ITS FALSE NEIGHBOUR: 'it returns false'. Refute it at one input. -/
def datapduChecksWrong : ChangeSpec := { name := "datapduChecks", fn := fun _ => fun
  | [d] => { results := [.lit (.bool false)], args := [d] }
  | _ => none }
def DatapduChecksWrongFalsely : Prop := datapduChecksRow.holds Try.pinned (OpenSpec.ofChange datapduChecksWrong)

/-- 'wirelesslaw23.DatapduEncodes': WHATEVER THE INPUT: true; the input reads as it did. -/
def datapduEncodesSpec : ChangeSpec := { name := "datapduEncodes", fn := fun _ => fun
  | [d] => { results := [.lit (.bool true)], args := [d] }
  | _ => none }
def datapduEncodesRow : OpenClaim := { program := "ytbnfjielnamepaa", sum := "d97c9b8b5d2af306a23631d6f246c1de19ed299d164f56d359df420a12279897", func := "wireless/wirelesslaw23.DatapduEncodes", spec := "datapduEncodes", unfollowed := true, recurses := true, apart := false }
def DatapduEncodesSaid : Prop := datapduEncodesRow.holds Try.pinned (OpenSpec.ofChange datapduEncodesSpec)

/-- ITS FALSE NEIGHBOUR: 'it returns false'. Refute it at one input. -/
def datapduEncodesWrong : ChangeSpec := { name := "datapduEncodes", fn := fun _ => fun
  | [d] => { results := [.lit (.bool false)], args := [d] }
  | _ => none }
def DatapduEncodesWrongFalsely : Prop := datapduEncodesRow.holds Try.pinned (OpenSpec.ofChange datapduEncodesWrong)

/-- 'wirelesslaw23.DatapduDecodes': WHATEVER THE INPUT: true; the input reads as it did. -/
def datapduDecodesSpec : ChangeSpec := { name := "datapduDecodes", fn := fun _ => fun
  | [d] => { results := [.lit (.bool true)], args := [d] }
  | _ => none }
def datapduDecodesRow : OpenClaim := { program := "ytbnfjielnamepaa", sum := "d97c9b8b5d2af306a23631d6f246c1de19ed299d164f56d359df420a12279897", func := "wireless/wirelesslaw23.DatapduDecodes", spec := "datapduDecodes", unfollowed := true, recurses := true, apart := false }
def DatapduDecodesSaid : Prop := datapduDecodesRow.holds Try.pinned (OpenSpec.ofChange datapduDecodesSpec)

/-- ITS FALSE NEIGHBOUR: 'it returns false'. Refute it at one input. -/
def datapduDecodesWrong : ChangeSpec := { name := "datapduDecodes", fn := fun _ => fun
  | [d] => { results := [.lit (.bool false)], args := [d] }
  | _ => none }
def DatapduDecodesWrongFalsely : Prop := datapduDecodesRow.holds Try.pinned (OpenSpec.ofChange datapduDecodesWrong)

/-- 'wirelesslaw23.DatapduBack': WHATEVER THE INPUT: true; the input reads as it did. -/
def datapduBackSpec : ChangeSpec := { name := "datapduBack", fn := fun _ => fun
  | [d] => { results := [.lit (.bool true)], args := [d] }
  | _ => none }
def datapduBackRow : OpenClaim := { program := "ytbnfjielnamepaa", sum := "d97c9b8b5d2af306a23631d6f246c1de19ed299d164f56d359df420a12279897", func := "wireless/wirelesslaw23.DatapduBack", spec := "datapduBack", unfollowed := true, recurses := true, apart := false }
def DatapduBackSaid : Prop := datapduBackRow.holds Try.pinned (OpenSpec.ofChange datapduBackSpec)

/-- ITS FALSE NEIGHBOUR: 'it returns false'. Refute it at one input. -/
def datapduBackWrong : ChangeSpec := { name := "datapduBack", fn := fun _ => fun
  | [d] => { results := [.lit (.bool false)], args := [d] }
  | _ => none }
def DatapduBackWrongFalsely : Prop := datapduBackRow.holds Try.pinned (OpenSpec.ofChange datapduBackWrong)

/-- 'wirelesslaw23.DatapduUnique': WHATEVER THE INPUT: true; the input reads as it did. -/
def datapduUniqueSpec : ChangeSpec := { name := "datapduUnique", fn := fun _ => fun
  | [d] => { results := [.lit (.bool true)], args := [d] }
  | _ => none }
def datapduUniqueRow : OpenClaim := { program := "ytbnfjielnamepaa", sum := "d97c9b8b5d2af306a23631d6f246c1de19ed299d164f56d359df420a12279897", func := "wireless/wirelesslaw23.DatapduUnique", spec := "datapduUnique", unfollowed := true, recurses := true, apart := false }
def DatapduUniqueSaid : Prop := datapduUniqueRow.holds Try.pinned (OpenSpec.ofChange datapduUniqueSpec)

/-- ITS FALSE NEIGHBOUR: 'it returns false'. Refute it at one input. -/
def datapduUniqueWrong : ChangeSpec := { name := "datapduUnique", fn := fun _ => fun
  | [d] => { results := [.lit (.bool false)], args := [d] }
  | _ => none }
def DatapduUniqueWrongFalsely : Prop := datapduUniqueRow.holds Try.pinned (OpenSpec.ofChange datapduUniqueWrong)

/-- 'wirelesslaw23.DatapduEnds': WHATEVER THE INPUT: true; the input reads as it did. -/
def datapduEndsSpec : ChangeSpec := { name := "datapduEnds", fn := fun _ => fun
  | [d1, d2, d3] => { results := [.lit (.bool true)], args := [d1, d2, d3] }
  | _ => none }
def datapduEndsRow : OpenClaim := { program := "ytbnfjielnamepaa", sum := "d97c9b8b5d2af306a23631d6f246c1de19ed299d164f56d359df420a12279897", func := "wireless/wirelesslaw23.DatapduEnds", spec := "datapduEnds", unfollowed := true, recurses := true, apart := false }
def DatapduEndsSaid : Prop := datapduEndsRow.holds Try.pinned (OpenSpec.ofChange datapduEndsSpec)

/-- ITS FALSE NEIGHBOUR: 'it returns false'. Refute it at one input. -/
def datapduEndsWrong : ChangeSpec := { name := "datapduEnds", fn := fun _ => fun
  | [d1, d2, d3] => { results := [.lit (.bool false)], args := [d1, d2, d3] }
  | _ => none }
def DatapduEndsWrongFalsely : Prop := datapduEndsRow.holds Try.pinned (OpenSpec.ofChange datapduEndsWrong)

/-- 'wirelesslaw24.ArqPlays': WHATEVER THE INPUT: true; the input reads as it did. -/
def arqPlaysSpec : ChangeSpec := { name := "arqPlays", fn := fun _ => fun
  | [d] => { results := [.lit (.bool true)], args := [d] }
  | _ => none }
def arqPlaysRow : OpenClaim := { program := "ytbnfjielnamepaa", sum := "d97c9b8b5d2af306a23631d6f246c1de19ed299d164f56d359df420a12279897", func := "wireless/wirelesslaw24.ArqPlays", spec := "arqPlays", apart := false }
def ArqPlaysSaid : Prop := arqPlaysRow.holds Try.pinned (OpenSpec.ofChange arqPlaysSpec)

/-- ITS FALSE NEIGHBOUR: 'it returns false'. Refute it at one input. -/
def arqPlaysWrong : ChangeSpec := { name := "arqPlays", fn := fun _ => fun
  | [d] => { results := [.lit (.bool false)], args := [d] }
  | _ => none }
def ArqPlaysWrongFalsely : Prop := arqPlaysRow.holds Try.pinned (OpenSpec.ofChange arqPlaysWrong)

/-- 'wirelesslaw24.ArqOnce': WHATEVER THE INPUT: true; the input reads as it did. -/
def arqOnceSpec : ChangeSpec := { name := "arqOnce", fn := fun _ => fun
  | [d] => { results := [.lit (.bool true)], args := [d] }
  | _ => none }
def arqOnceRow : OpenClaim := { program := "ytbnfjielnamepaa", sum := "d97c9b8b5d2af306a23631d6f246c1de19ed299d164f56d359df420a12279897", func := "wireless/wirelesslaw24.ArqOnce", spec := "arqOnce", apart := false }
def ArqOnceSaid : Prop := arqOnceRow.holds Try.pinned (OpenSpec.ofChange arqOnceSpec)

/-- ITS FALSE NEIGHBOUR: 'it returns false'. Refute it at one input. -/
def arqOnceWrong : ChangeSpec := { name := "arqOnce", fn := fun _ => fun
  | [d] => { results := [.lit (.bool false)], args := [d] }
  | _ => none }
def ArqOnceWrongFalsely : Prop := arqOnceRow.holds Try.pinned (OpenSpec.ofChange arqOnceWrong)

/-- 'wirelesslaw24.ArqRepeats': WHATEVER THE INPUT: true; the input reads as it did. -/
def arqRepeatsSpec : ChangeSpec := { name := "arqRepeats", fn := fun _ => fun
  | [d1, d2] => { results := [.lit (.bool true)], args := [d1, d2] }
  | _ => none }
def arqRepeatsRow : OpenClaim := { program := "ytbnfjielnamepaa", sum := "d97c9b8b5d2af306a23631d6f246c1de19ed299d164f56d359df420a12279897", func := "wireless/wirelesslaw24.ArqRepeats", spec := "arqRepeats", apart := false }
def ArqRepeatsSaid : Prop := arqRepeatsRow.holds Try.pinned (OpenSpec.ofChange arqRepeatsSpec)

/-- ITS FALSE NEIGHBOUR: 'it returns false'. Refute it at one input. -/
def arqRepeatsWrong : ChangeSpec := { name := "arqRepeats", fn := fun _ => fun
  | [d1, d2] => { results := [.lit (.bool false)], args := [d1, d2] }
  | _ => none }
def ArqRepeatsWrongFalsely : Prop := arqRepeatsRow.holds Try.pinned (OpenSpec.ofChange arqRepeatsWrong)

/-- 'wirelesslaw24.ArqProgress': WHATEVER THE INPUT: true; the input reads as it did. -/
def arqProgressSpec : ChangeSpec := { name := "arqProgress", fn := fun _ => fun
  | [d] => { results := [.lit (.bool true)], args := [d] }
  | _ => none }
def arqProgressRow : OpenClaim := { program := "ytbnfjielnamepaa", sum := "d97c9b8b5d2af306a23631d6f246c1de19ed299d164f56d359df420a12279897", func := "wireless/wirelesslaw24.ArqProgress", spec := "arqProgress", apart := false }
def ArqProgressSaid : Prop := arqProgressRow.holds Try.pinned (OpenSpec.ofChange arqProgressSpec)

/-- ITS FALSE NEIGHBOUR: 'it returns false'. Refute it at one input. -/
def arqProgressWrong : ChangeSpec := { name := "arqProgress", fn := fun _ => fun
  | [d] => { results := [.lit (.bool false)], args := [d] }
  | _ => none }
def ArqProgressWrongFalsely : Prop := arqProgressRow.holds Try.pinned (OpenSpec.ofChange arqProgressWrong)

/- THE SECOND FORM. 'bulk': how many values and letters a reading holds, each counted each time it is reached (what is shared counts as often as it is met; a slice's spare places count too). A statement '..UptoSaid' is the law's where the arguments, and the package variables that the reading takes, are together of bulk at most 1048576: NARROWER than '..Said'. Prove '..Said' where nothing that the law and all that it calls make is longer than what came in: it says more and counts as full. Else prove '..UptoSaid'. A law counts once. -/
mutual
def uptoBulk {H : Type} : DataW H → Nat
  | .lit (.string bytes) => bytes.length + 1
  | .lit _ => 1
  | .nil => 1
  | .ptr d => uptoBulk d + 1
  | .slice elems spare => uptoBulkAll elems + uptoBulkAll spare + 1
  | .agg parts => uptoBulkAll parts + 1
  | .iface _ d => uptoBulk d + 1
  | .map entries => uptoBulkEntries entries + 1
  | .held _ => 1
def uptoBulkAll {H : Type} : List (DataW H) → Nat
  | [] => 0
  | d :: r => uptoBulk d + uptoBulkAll r
def uptoBulkEntries {H : Type} : List (Lit × DataW H) → Nat
  | [] => 0
  | x :: r => uptoBulkEntry x + uptoBulkEntries r
def uptoBulkEntry {H : Type} : Lit × DataW H → Nat
  | (.string bytes, d) => bytes.length + uptoBulk d + 1
  | (_, d) => uptoBulk d + 1
 end
def uptoSmall : (H : Type) → List (DataW H) → Bool := fun _ ds => decide (uptoBulkAll ds ≤ 1048576)
def OpenSpec.upto (s : _root_.Go.ChangeSpec) : _root_.Go.OpenSpec := { _root_.Go.OpenSpec.ofChange s with cond := some uptoSmall }

/-- 'wirelesslaw23.DatapduChecks', WHERE WHAT IT READS IS OF BULK AT MOST 1048576: true; the input reads as it did. -/
def datapduChecksUptoRow : OpenClaim := { program := "ytbnfjielnamepaa", sum := "d97c9b8b5d2af306a23631d6f246c1de19ed299d164f56d359df420a12279897", func := "wireless/wirelesslaw23.DatapduChecks", spec := "datapduChecks", unfollowed := true, recurses := true, apart := false, narrowed := true }
def DatapduChecksUptoSaid : Prop := datapduChecksUptoRow.holds Try.pinned (OpenSpec.upto datapduChecksSpec)

/-- 'wirelesslaw23.DatapduEncodes', WHERE WHAT IT READS IS OF BULK AT MOST 1048576: true; the input reads as it did. -/
def datapduEncodesUptoRow : OpenClaim := { program := "ytbnfjielnamepaa", sum := "d97c9b8b5d2af306a23631d6f246c1de19ed299d164f56d359df420a12279897", func := "wireless/wirelesslaw23.DatapduEncodes", spec := "datapduEncodes", unfollowed := true, recurses := true, apart := false, narrowed := true }
def DatapduEncodesUptoSaid : Prop := datapduEncodesUptoRow.holds Try.pinned (OpenSpec.upto datapduEncodesSpec)

/-- 'wirelesslaw23.DatapduDecodes', WHERE WHAT IT READS IS OF BULK AT MOST 1048576: true; the input reads as it did. -/
def datapduDecodesUptoRow : OpenClaim := { program := "ytbnfjielnamepaa", sum := "d97c9b8b5d2af306a23631d6f246c1de19ed299d164f56d359df420a12279897", func := "wireless/wirelesslaw23.DatapduDecodes", spec := "datapduDecodes", unfollowed := true, recurses := true, apart := false, narrowed := true }
def DatapduDecodesUptoSaid : Prop := datapduDecodesUptoRow.holds Try.pinned (OpenSpec.upto datapduDecodesSpec)

/-- 'wirelesslaw23.DatapduBack', WHERE WHAT IT READS IS OF BULK AT MOST 1048576: true; the input reads as it did. -/
def datapduBackUptoRow : OpenClaim := { program := "ytbnfjielnamepaa", sum := "d97c9b8b5d2af306a23631d6f246c1de19ed299d164f56d359df420a12279897", func := "wireless/wirelesslaw23.DatapduBack", spec := "datapduBack", unfollowed := true, recurses := true, apart := false, narrowed := true }
def DatapduBackUptoSaid : Prop := datapduBackUptoRow.holds Try.pinned (OpenSpec.upto datapduBackSpec)

/-- 'wirelesslaw23.DatapduUnique', WHERE WHAT IT READS IS OF BULK AT MOST 1048576: true; the input reads as it did. -/
def datapduUniqueUptoRow : OpenClaim := { program := "ytbnfjielnamepaa", sum := "d97c9b8b5d2af306a23631d6f246c1de19ed299d164f56d359df420a12279897", func := "wireless/wirelesslaw23.DatapduUnique", spec := "datapduUnique", unfollowed := true, recurses := true, apart := false, narrowed := true }
def DatapduUniqueUptoSaid : Prop := datapduUniqueUptoRow.holds Try.pinned (OpenSpec.upto datapduUniqueSpec)

/-- 'wirelesslaw23.DatapduEnds', WHERE WHAT IT READS IS OF BULK AT MOST 1048576: true; the input reads as it did. -/
def datapduEndsUptoRow : OpenClaim := { program := "ytbnfjielnamepaa", sum := "d97c9b8b5d2af306a23631d6f246c1de19ed299d164f56d359df420a12279897", func := "wireless/wirelesslaw23.DatapduEnds", spec := "datapduEnds", unfollowed := true, recurses := true, apart := false, narrowed := true }
def DatapduEndsUptoSaid : Prop := datapduEndsUptoRow.holds Try.pinned (OpenSpec.upto datapduEndsSpec)

/-- 'wirelesslaw24.ArqPlays', WHERE WHAT IT READS IS OF BULK AT MOST 1048576: true; the input reads as it did. -/
def arqPlaysUptoRow : OpenClaim := { program := "ytbnfjielnamepaa", sum := "d97c9b8b5d2af306a23631d6f246c1de19ed299d164f56d359df420a12279897", func := "wireless/wirelesslaw24.ArqPlays", spec := "arqPlays", apart := false, narrowed := true }
def ArqPlaysUptoSaid : Prop := arqPlaysUptoRow.holds Try.pinned (OpenSpec.upto arqPlaysSpec)

/-- 'wirelesslaw24.ArqOnce', WHERE WHAT IT READS IS OF BULK AT MOST 1048576: true; the input reads as it did. -/
def arqOnceUptoRow : OpenClaim := { program := "ytbnfjielnamepaa", sum := "d97c9b8b5d2af306a23631d6f246c1de19ed299d164f56d359df420a12279897", func := "wireless/wirelesslaw24.ArqOnce", spec := "arqOnce", apart := false, narrowed := true }
def ArqOnceUptoSaid : Prop := arqOnceUptoRow.holds Try.pinned (OpenSpec.upto arqOnceSpec)

/-- 'wirelesslaw24.ArqRepeats', WHERE WHAT IT READS IS OF BULK AT MOST 1048576: true; the input reads as it did. -/
def arqRepeatsUptoRow : OpenClaim := { program := "ytbnfjielnamepaa", sum := "d97c9b8b5d2af306a23631d6f246c1de19ed299d164f56d359df420a12279897", func := "wireless/wirelesslaw24.ArqRepeats", spec := "arqRepeats", apart := false, narrowed := true }
def ArqRepeatsUptoSaid : Prop := arqRepeatsUptoRow.holds Try.pinned (OpenSpec.upto arqRepeatsSpec)

/-- 'wirelesslaw24.ArqProgress', WHERE WHAT IT READS IS OF BULK AT MOST 1048576: true; the input reads as it did. -/
def arqProgressUptoRow : OpenClaim := { program := "ytbnfjielnamepaa", sum := "d97c9b8b5d2af306a23631d6f246c1de19ed299d164f56d359df420a12279897", func := "wireless/wirelesslaw24.ArqProgress", spec := "arqProgress", apart := false, narrowed := true }
def ArqProgressUptoSaid : Prop := arqProgressUptoRow.holds Try.pinned (OpenSpec.upto arqProgressSpec)

end Rows
end Go.Proofs.Ytbnfjielnamepaa
