/-
  NARROWER THAN 'FOR EVERY INPUT', by the rows' own cells (each row's printed sentence says how): AdvpduChecks: laid · AdvpduEncodes: laid · AdvpduDecodes: laid · AdvpduKinds: laid · AdvpduBack: laid · AdvpduLengths: laid.
  DERIVED. THE GIVEN ROWS OF THIS SEAT. 6 by the template 'for every input the law returns true; each argument reads behind the call as it read before'; 0 by the template 'total and deterministic' (their statements: YtcjlliilfecmnaaDoorTotals.lean).
  GIVEN WITH THE SEED: the statements are not yours to turn. If you find one false, say at which input.
  Laid BY PROGRAM, IN A SANDBOX (cutbox-rows.mjs): the forced cells as the released guide's own fill.sh prints them over the translation 6507cb4feaee11e2… (all of the seat's roots in one cut). By AI agents, Wed Nov 11 2026. No macro, syntax, notation, axiom, sorry.
-/
import Derived.Test.YtcjlliilfecmnaaDoorChecked
import GoSem.Claim
import GoSem.ClaimJoined
import GoSem.ClaimMapViews
import Derived.JoinedTies
import Derived.KernelRfl
namespace Go.Proofs.YtcjlliilfecmnaaDoor
/- THE CELL 'sum', in the pinned program and in every row, IS THE sha256 OF THE DUMP (.gsa) THAT YtcjlliilfecmnaaDoorProg.lean LOADS. Nothing in Lean hashes anything: it is a label: what it is worth is what the hold of that sum in a sandbox is worth. -/
noncomputable def Tryd.pinned : Pinned := { name := "ytcjlliilfecmnaadoor", sum := "6507cb4feaee11e2007aa274983e100e8a2968635af01146255ee21ac460f667", checked := Tryd.checked }
namespace Rows
def none {H : Type} : Left H := { results := [], args := [] }

/- WHAT THE LISTED PACKAGE-LEVEL VARIABLES READ AS WHEN THE CALL BEGINS. Each datum BY PROGRAM (the guide's laid-datum.mjs) off the statement by which the dump's own 'gosem.cut.vars' lays the variable. In a bare row this is a premise. The card (YtcjlliilfecmnaaDoorCards.lean) ties it to the program's text. -/
def laid_wireless_address_prefixes {H : Type} : DataW H := .agg [.lit (.int .u64 0), .lit (.int .u64 0), .lit (.int .u64 3), .lit (.int .u64 1), .lit (.int .u64 0)]
def laid_wireless_address_randomAt {H : Type} : DataW H := .agg [.lit (.int .i64 0), .lit (.int .i64 0), .lit (.int .i64 0), .lit (.int .i64 24), .lit (.int .i64 0)]

/-- 'wirelesslaw19.AdvpduChecks': WHATEVER THE INPUT: true; the input reads as it did. -/
def advpduChecksSpec : ChangeSpec := { name := "advpduChecks", fn := fun _ => fun
  | [d] => { results := [.lit (.bool true)], args := [d] }
  | _ => none }
def advpduChecksRow : OpenClaim := { program := "ytcjlliilfecmnaadoor", sum := "6507cb4feaee11e2007aa274983e100e8a2968635af01146255ee21ac460f667", func := "wireless/wirelesslaw19.AdvpduChecks", spec := "advpduChecks", named := ["wireless/address.randomAt", "wireless/address.prefixes"], apart := false, laid := [("wireless/address.prefixes", laid_wireless_address_prefixes), ("wireless/address.randomAt", laid_wireless_address_randomAt)] }
def AdvpduChecksSaid : Prop := advpduChecksRow.holds Tryd.pinned (OpenSpec.ofChange advpduChecksSpec)

/-- ITS FALSE NEIGHBOUR: 'it returns false'. Refute it at one input. -/
def advpduChecksWrong : ChangeSpec := { name := "advpduChecks", fn := fun _ => fun
  | [d] => { results := [.lit (.bool false)], args := [d] }
  | _ => none }
def AdvpduChecksWrongFalsely : Prop := advpduChecksRow.holds Tryd.pinned (OpenSpec.ofChange advpduChecksWrong)

/-- 'wirelesslaw19.AdvpduEncodes': WHATEVER THE INPUT: true; the input reads as it did. -/
def advpduEncodesSpec : ChangeSpec := { name := "advpduEncodes", fn := fun _ => fun
  | [d] => { results := [.lit (.bool true)], args := [d] }
  | _ => none }
def advpduEncodesRow : OpenClaim := { program := "ytcjlliilfecmnaadoor", sum := "6507cb4feaee11e2007aa274983e100e8a2968635af01146255ee21ac460f667", func := "wireless/wirelesslaw19.AdvpduEncodes", spec := "advpduEncodes", named := ["wireless/address.randomAt", "wireless/address.prefixes"], apart := false, laid := [("wireless/address.prefixes", laid_wireless_address_prefixes), ("wireless/address.randomAt", laid_wireless_address_randomAt)] }
def AdvpduEncodesSaid : Prop := advpduEncodesRow.holds Tryd.pinned (OpenSpec.ofChange advpduEncodesSpec)

/-- ITS FALSE NEIGHBOUR: 'it returns false'. Refute it at one input. -/
def advpduEncodesWrong : ChangeSpec := { name := "advpduEncodes", fn := fun _ => fun
  | [d] => { results := [.lit (.bool false)], args := [d] }
  | _ => none }
def AdvpduEncodesWrongFalsely : Prop := advpduEncodesRow.holds Tryd.pinned (OpenSpec.ofChange advpduEncodesWrong)

/-- 'wirelesslaw19.AdvpduDecodes': WHATEVER THE INPUT: true; the input reads as it did. -/
def advpduDecodesSpec : ChangeSpec := { name := "advpduDecodes", fn := fun _ => fun
  | [d] => { results := [.lit (.bool true)], args := [d] }
  | _ => none }
def advpduDecodesRow : OpenClaim := { program := "ytcjlliilfecmnaadoor", sum := "6507cb4feaee11e2007aa274983e100e8a2968635af01146255ee21ac460f667", func := "wireless/wirelesslaw19.AdvpduDecodes", spec := "advpduDecodes", named := ["wireless/address.randomAt", "wireless/address.prefixes"], apart := false, laid := [("wireless/address.prefixes", laid_wireless_address_prefixes), ("wireless/address.randomAt", laid_wireless_address_randomAt)] }
def AdvpduDecodesSaid : Prop := advpduDecodesRow.holds Tryd.pinned (OpenSpec.ofChange advpduDecodesSpec)

/-- ITS FALSE NEIGHBOUR: 'it returns false'. Refute it at one input. -/
def advpduDecodesWrong : ChangeSpec := { name := "advpduDecodes", fn := fun _ => fun
  | [d] => { results := [.lit (.bool false)], args := [d] }
  | _ => none }
def AdvpduDecodesWrongFalsely : Prop := advpduDecodesRow.holds Tryd.pinned (OpenSpec.ofChange advpduDecodesWrong)

/-- 'wirelesslaw19.AdvpduKinds': WHATEVER THE INPUT: true; the input reads as it did. -/
def advpduKindsSpec : ChangeSpec := { name := "advpduKinds", fn := fun _ => fun
  | [d] => { results := [.lit (.bool true)], args := [d] }
  | _ => none }
def advpduKindsRow : OpenClaim := { program := "ytcjlliilfecmnaadoor", sum := "6507cb4feaee11e2007aa274983e100e8a2968635af01146255ee21ac460f667", func := "wireless/wirelesslaw19.AdvpduKinds", spec := "advpduKinds", named := ["wireless/address.randomAt", "wireless/address.prefixes"], apart := false, laid := [("wireless/address.prefixes", laid_wireless_address_prefixes), ("wireless/address.randomAt", laid_wireless_address_randomAt)] }
def AdvpduKindsSaid : Prop := advpduKindsRow.holds Tryd.pinned (OpenSpec.ofChange advpduKindsSpec)

/-- ITS FALSE NEIGHBOUR: 'it returns false'. Refute it at one input. -/
def advpduKindsWrong : ChangeSpec := { name := "advpduKinds", fn := fun _ => fun
  | [d] => { results := [.lit (.bool false)], args := [d] }
  | _ => none }
def AdvpduKindsWrongFalsely : Prop := advpduKindsRow.holds Tryd.pinned (OpenSpec.ofChange advpduKindsWrong)

/-- 'wirelesslaw19.AdvpduBack': WHATEVER THE INPUT: true; the input reads as it did. -/
def advpduBackSpec : ChangeSpec := { name := "advpduBack", fn := fun _ => fun
  | [d1, d2] => { results := [.lit (.bool true)], args := [d1, d2] }
  | _ => none }
def advpduBackRow : OpenClaim := { program := "ytcjlliilfecmnaadoor", sum := "6507cb4feaee11e2007aa274983e100e8a2968635af01146255ee21ac460f667", func := "wireless/wirelesslaw19.AdvpduBack", spec := "advpduBack", named := ["wireless/address.randomAt", "wireless/address.prefixes"], apart := false, laid := [("wireless/address.prefixes", laid_wireless_address_prefixes), ("wireless/address.randomAt", laid_wireless_address_randomAt)] }
def AdvpduBackSaid : Prop := advpduBackRow.holds Tryd.pinned (OpenSpec.ofChange advpduBackSpec)

/-- ITS FALSE NEIGHBOUR: 'it returns false'. Refute it at one input. -/
def advpduBackWrong : ChangeSpec := { name := "advpduBack", fn := fun _ => fun
  | [d1, d2] => { results := [.lit (.bool false)], args := [d1, d2] }
  | _ => none }
def AdvpduBackWrongFalsely : Prop := advpduBackRow.holds Tryd.pinned (OpenSpec.ofChange advpduBackWrong)

/-- 'wirelesslaw19.AdvpduLengths': WHATEVER THE INPUT: true; the input reads as it did. -/
def advpduLengthsSpec : ChangeSpec := { name := "advpduLengths", fn := fun _ => fun
  | [d] => { results := [.lit (.bool true)], args := [d] }
  | _ => none }
def advpduLengthsRow : OpenClaim := { program := "ytcjlliilfecmnaadoor", sum := "6507cb4feaee11e2007aa274983e100e8a2968635af01146255ee21ac460f667", func := "wireless/wirelesslaw19.AdvpduLengths", spec := "advpduLengths", named := ["wireless/address.randomAt", "wireless/address.prefixes"], apart := false, laid := [("wireless/address.prefixes", laid_wireless_address_prefixes), ("wireless/address.randomAt", laid_wireless_address_randomAt)] }
def AdvpduLengthsSaid : Prop := advpduLengthsRow.holds Tryd.pinned (OpenSpec.ofChange advpduLengthsSpec)

/-- ITS FALSE NEIGHBOUR: 'it returns false'. Refute it at one input. -/
def advpduLengthsWrong : ChangeSpec := { name := "advpduLengths", fn := fun _ => fun
  | [d] => { results := [.lit (.bool false)], args := [d] }
  | _ => none }
def AdvpduLengthsWrongFalsely : Prop := advpduLengthsRow.holds Tryd.pinned (OpenSpec.ofChange advpduLengthsWrong)

/- THE SECOND FORM. 'bulk': how many values and letters a reading holds, each counted each time it is reached (what is shared counts as often as it is met; a slice's spare places count too). A statement '..UptoSaid' is the law's where the arguments, and the package variables that the reading takes, are together of bulk at most 1048576: NARROWER than '..Said'. Prove '..Said' where nothing that the law and all that it calls make is longer than what came in: it says more and counts as full. Else prove '..UptoSaid'. A law counts once. -/
mutual
def uptoBulk {H : Type} : DataW H → Nat
  | .lit (.string bytes) => bytes.length + 1
  | .lit _ => 1
  | .nil => 1
  | .ptr d => uptoBulk d + 1
  | .slice elems spare => uptoBulkAll elems + uptoBulkAll spare + 1
  | .agg parts => uptoBulkAll parts + 1
  | .iface _ d => uptoBulk d + 1
  | .map entries => uptoBulkEntries entries + 1
  | .held _ => 1
def uptoBulkAll {H : Type} : List (DataW H) → Nat
  | [] => 0
  | d :: r => uptoBulk d + uptoBulkAll r
def uptoBulkEntries {H : Type} : List (Lit × DataW H) → Nat
  | [] => 0
  | x :: r => uptoBulkEntry x + uptoBulkEntries r
def uptoBulkEntry {H : Type} : Lit × DataW H → Nat
  | (.string bytes, d) => bytes.length + uptoBulk d + 1
  | (_, d) => uptoBulk d + 1
 end
def uptoSmall : (H : Type) → List (DataW H) → Bool := fun _ ds => decide (uptoBulkAll ds ≤ 1048576)
def OpenSpec.upto (s : _root_.Go.ChangeSpec) : _root_.Go.OpenSpec := { _root_.Go.OpenSpec.ofChange s with cond := some uptoSmall }

/-- 'wirelesslaw19.AdvpduChecks', WHERE WHAT IT READS IS OF BULK AT MOST 1048576: true; the input reads as it did. -/
def advpduChecksUptoRow : OpenClaim := { program := "ytcjlliilfecmnaadoor", sum := "6507cb4feaee11e2007aa274983e100e8a2968635af01146255ee21ac460f667", func := "wireless/wirelesslaw19.AdvpduChecks", spec := "advpduChecks", named := ["wireless/address.randomAt", "wireless/address.prefixes"], apart := false, laid := [("wireless/address.prefixes", laid_wireless_address_prefixes), ("wireless/address.randomAt", laid_wireless_address_randomAt)], narrowed := true }
def AdvpduChecksUptoSaid : Prop := advpduChecksUptoRow.holds Tryd.pinned (OpenSpec.upto advpduChecksSpec)

/-- 'wirelesslaw19.AdvpduEncodes', WHERE WHAT IT READS IS OF BULK AT MOST 1048576: true; the input reads as it did. -/
def advpduEncodesUptoRow : OpenClaim := { program := "ytcjlliilfecmnaadoor", sum := "6507cb4feaee11e2007aa274983e100e8a2968635af01146255ee21ac460f667", func := "wireless/wirelesslaw19.AdvpduEncodes", spec := "advpduEncodes", named := ["wireless/address.randomAt", "wireless/address.prefixes"], apart := false, laid := [("wireless/address.prefixes", laid_wireless_address_prefixes), ("wireless/address.randomAt", laid_wireless_address_randomAt)], narrowed := true }
def AdvpduEncodesUptoSaid : Prop := advpduEncodesUptoRow.holds Tryd.pinned (OpenSpec.upto advpduEncodesSpec)

/-- 'wirelesslaw19.AdvpduDecodes', WHERE WHAT IT READS IS OF BULK AT MOST 1048576: true; the input reads as it did. -/
def advpduDecodesUptoRow : OpenClaim := { program := "ytcjlliilfecmnaadoor", sum := "6507cb4feaee11e2007aa274983e100e8a2968635af01146255ee21ac460f667", func := "wireless/wirelesslaw19.AdvpduDecodes", spec := "advpduDecodes", named := ["wireless/address.randomAt", "wireless/address.prefixes"], apart := false, laid := [("wireless/address.prefixes", laid_wireless_address_prefixes), ("wireless/address.randomAt", laid_wireless_address_randomAt)], narrowed := true }
def AdvpduDecodesUptoSaid : Prop := advpduDecodesUptoRow.holds Tryd.pinned (OpenSpec.upto advpduDecodesSpec)

/-- 'wirelesslaw19.AdvpduKinds', WHERE WHAT IT READS IS OF BULK AT MOST 1048576: true; the input reads as it did. -/
def advpduKindsUptoRow : OpenClaim := { program := "ytcjlliilfecmnaadoor", sum := "6507cb4feaee11e2007aa274983e100e8a2968635af01146255ee21ac460f667", func := "wireless/wirelesslaw19.AdvpduKinds", spec := "advpduKinds", named := ["wireless/address.randomAt", "wireless/address.prefixes"], apart := false, laid := [("wireless/address.prefixes", laid_wireless_address_prefixes), ("wireless/address.randomAt", laid_wireless_address_randomAt)], narrowed := true }
def AdvpduKindsUptoSaid : Prop := advpduKindsUptoRow.holds Tryd.pinned (OpenSpec.upto advpduKindsSpec)

/-- 'wirelesslaw19.AdvpduBack', WHERE WHAT IT READS IS OF BULK AT MOST 1048576: true; the input reads as it did. -/
def advpduBackUptoRow : OpenClaim := { program := "ytcjlliilfecmnaadoor", sum := "6507cb4feaee11e2007aa274983e100e8a2968635af01146255ee21ac460f667", func := "wireless/wirelesslaw19.AdvpduBack", spec := "advpduBack", named := ["wireless/address.randomAt", "wireless/address.prefixes"], apart := false, laid := [("wireless/address.prefixes", laid_wireless_address_prefixes), ("wireless/address.randomAt", laid_wireless_address_randomAt)], narrowed := true }
def AdvpduBackUptoSaid : Prop := advpduBackUptoRow.holds Tryd.pinned (OpenSpec.upto advpduBackSpec)

/-- 'wirelesslaw19.AdvpduLengths', WHERE WHAT IT READS IS OF BULK AT MOST 1048576: true; the input reads as it did. -/
def advpduLengthsUptoRow : OpenClaim := { program := "ytcjlliilfecmnaadoor", sum := "6507cb4feaee11e2007aa274983e100e8a2968635af01146255ee21ac460f667", func := "wireless/wirelesslaw19.AdvpduLengths", spec := "advpduLengths", named := ["wireless/address.randomAt", "wireless/address.prefixes"], apart := false, laid := [("wireless/address.prefixes", laid_wireless_address_prefixes), ("wireless/address.randomAt", laid_wireless_address_randomAt)], narrowed := true }
def AdvpduLengthsUptoSaid : Prop := advpduLengthsUptoRow.holds Tryd.pinned (OpenSpec.upto advpduLengthsSpec)

end Rows
end Go.Proofs.YtcjlliilfecmnaaDoor
