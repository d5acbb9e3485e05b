/-
  No cell of these rows narrows 'for every input' (looked for: loops, veiled, ifaces, maps, wideKeys, modest, calm, conditions, laid).
  DERIVED. THE GIVEN ROWS OF THIS SEAT. 6 by the template 'for every input the law returns true; each argument reads behind the call as it read before'; 0 by the template 'total and deterministic' (their statements: YtiopeghbpnjcgaaTotals.lean).
  GIVEN WITH THE SEED: the statements are not yours to turn. If you find one false, say at which input.
  Laid BY PROGRAM, IN A SANDBOX (cutbox-rows.mjs): the forced cells as the released guide's own fill.sh prints them over the translation b721ae510d22eccb… (all of the seat's roots in one cut). By AI agents, Wed Nov 11 2026. No macro, syntax, notation, axiom, sorry.
-/
import Derived.Test.YtiopeghbpnjcgaaChecked
import GoSem.Claim
import GoSem.ClaimJoined
import GoSem.ClaimMapViews
import Derived.JoinedTies
import Derived.KernelRfl
namespace Go.Proofs.Ytiopeghbpnjcgaa
/- THE CELL 'sum', in the pinned program and in every row, IS THE sha256 OF THE DUMP (.gsa) THAT YtiopeghbpnjcgaaProg.lean LOADS. Nothing in Lean hashes anything: it is a label: what it is worth is what the hold of that sum in a sandbox is worth. -/
noncomputable def Try.pinned : Pinned := { name := "ytiopeghbpnjcgaa", sum := "b721ae510d22eccb1dda79fd28bf18ddecd473d560fa20218a504ae20e0736ab", checked := Try.checked }
namespace Rows
def none {H : Type} : Left H := { results := [], args := [] }

/-- 'wirelesslaw26.CtrlpduChecks': WHATEVER THE INPUT: true; the input reads as it did. -/
def ctrlpduChecksSpec : ChangeSpec := { name := "ctrlpduChecks", fn := fun _ => fun
  | [d] => { results := [.lit (.bool true)], args := [d] }
  | _ => none }
def ctrlpduChecksRow : OpenClaim := { program := "ytiopeghbpnjcgaa", sum := "b721ae510d22eccb1dda79fd28bf18ddecd473d560fa20218a504ae20e0736ab", func := "wireless/wirelesslaw26.CtrlpduChecks", spec := "ctrlpduChecks", unfollowed := true, recurses := true, apart := false }
def CtrlpduChecksSaid : Prop := ctrlpduChecksRow.holds Try.pinned (OpenSpec.ofChange ctrlpduChecksSpec)

/-- ITS FALSE NEIGHBOUR: 'it returns false'. Refute it at one input. -/
def ctrlpduChecksWrong : ChangeSpec := { name := "ctrlpduChecks", fn := fun _ => fun
  | [d] => { results := [.lit (.bool false)], args := [d] }
  | _ => none }
def CtrlpduChecksWrongFalsely : Prop := ctrlpduChecksRow.holds Try.pinned (OpenSpec.ofChange ctrlpduChecksWrong)

/-- 'wirelesslaw26.CtrlpduEncodes': WHATEVER THE INPUT: true; the input reads as it did. -/
def ctrlpduEncodesSpec : ChangeSpec := { name := "ctrlpduEncodes", fn := fun _ => fun
  | [d] => { results := [.lit (.bool true)], args := [d] }
  | _ => none }
def ctrlpduEncodesRow : OpenClaim := { program := "ytiopeghbpnjcgaa", sum := "b721ae510d22eccb1dda79fd28bf18ddecd473d560fa20218a504ae20e0736ab", func := "wireless/wirelesslaw26.CtrlpduEncodes", spec := "ctrlpduEncodes", unfollowed := true, recurses := true, apart := false }
def CtrlpduEncodesSaid : Prop := ctrlpduEncodesRow.holds Try.pinned (OpenSpec.ofChange ctrlpduEncodesSpec)

/-- ITS FALSE NEIGHBOUR: 'it returns false'. Refute it at one input. -/
def ctrlpduEncodesWrong : ChangeSpec := { name := "ctrlpduEncodes", fn := fun _ => fun
  | [d] => { results := [.lit (.bool false)], args := [d] }
  | _ => none }
def CtrlpduEncodesWrongFalsely : Prop := ctrlpduEncodesRow.holds Try.pinned (OpenSpec.ofChange ctrlpduEncodesWrong)

/-- 'wirelesslaw26.CtrlpduDecodes': WHATEVER THE INPUT: true; the input reads as it did. -/
def ctrlpduDecodesSpec : ChangeSpec := { name := "ctrlpduDecodes", fn := fun _ => fun
  | [d] => { results := [.lit (.bool true)], args := [d] }
  | _ => none }
def ctrlpduDecodesRow : OpenClaim := { program := "ytiopeghbpnjcgaa", sum := "b721ae510d22eccb1dda79fd28bf18ddecd473d560fa20218a504ae20e0736ab", func := "wireless/wirelesslaw26.CtrlpduDecodes", spec := "ctrlpduDecodes", unfollowed := true, recurses := true, apart := false }
def CtrlpduDecodesSaid : Prop := ctrlpduDecodesRow.holds Try.pinned (OpenSpec.ofChange ctrlpduDecodesSpec)

/-- ITS FALSE NEIGHBOUR: 'it returns false'. Refute it at one input. -/
def ctrlpduDecodesWrong : ChangeSpec := { name := "ctrlpduDecodes", fn := fun _ => fun
  | [d] => { results := [.lit (.bool false)], args := [d] }
  | _ => none }
def CtrlpduDecodesWrongFalsely : Prop := ctrlpduDecodesRow.holds Try.pinned (OpenSpec.ofChange ctrlpduDecodesWrong)

/-- 'wirelesslaw26.CtrlpduProcedures': WHATEVER THE INPUT: true; the input reads as it did. -/
def ctrlpduProceduresSpec : ChangeSpec := { name := "ctrlpduProcedures", fn := fun _ => fun
  | [d] => { results := [.lit (.bool true)], args := [d] }
  | _ => none }
def ctrlpduProceduresRow : OpenClaim := { program := "ytiopeghbpnjcgaa", sum := "b721ae510d22eccb1dda79fd28bf18ddecd473d560fa20218a504ae20e0736ab", func := "wireless/wirelesslaw26.CtrlpduProcedures", spec := "ctrlpduProcedures", unfollowed := true, recurses := true, apart := false }
def CtrlpduProceduresSaid : Prop := ctrlpduProceduresRow.holds Try.pinned (OpenSpec.ofChange ctrlpduProceduresSpec)

/-- ITS FALSE NEIGHBOUR: 'it returns false'. Refute it at one input. -/
def ctrlpduProceduresWrong : ChangeSpec := { name := "ctrlpduProcedures", fn := fun _ => fun
  | [d] => { results := [.lit (.bool false)], args := [d] }
  | _ => none }
def CtrlpduProceduresWrongFalsely : Prop := ctrlpduProceduresRow.holds Try.pinned (OpenSpec.ofChange ctrlpduProceduresWrong)

/-- 'wirelesslaw26.CtrlpduBack': WHATEVER THE INPUT: true; the input reads as it did. -/
def ctrlpduBackSpec : ChangeSpec := { name := "ctrlpduBack", fn := fun _ => fun
  | [d] => { results := [.lit (.bool true)], args := [d] }
  | _ => none }
def ctrlpduBackRow : OpenClaim := { program := "ytiopeghbpnjcgaa", sum := "b721ae510d22eccb1dda79fd28bf18ddecd473d560fa20218a504ae20e0736ab", func := "wireless/wirelesslaw26.CtrlpduBack", spec := "ctrlpduBack", unfollowed := true, recurses := true, apart := false }
def CtrlpduBackSaid : Prop := ctrlpduBackRow.holds Try.pinned (OpenSpec.ofChange ctrlpduBackSpec)

/-- ITS FALSE NEIGHBOUR: 'it returns false'. Refute it at one input. -/
def ctrlpduBackWrong : ChangeSpec := { name := "ctrlpduBack", fn := fun _ => fun
  | [d] => { results := [.lit (.bool false)], args := [d] }
  | _ => none }
def CtrlpduBackWrongFalsely : Prop := ctrlpduBackRow.holds Try.pinned (OpenSpec.ofChange ctrlpduBackWrong)

/-- 'wirelesslaw26.CtrlpduUnique': WHATEVER THE INPUT: true; the input reads as it did. -/
def ctrlpduUniqueSpec : ChangeSpec := { name := "ctrlpduUnique", fn := fun _ => fun
  | [d] => { results := [.lit (.bool true)], args := [d] }
  | _ => none }
def ctrlpduUniqueRow : OpenClaim := { program := "ytiopeghbpnjcgaa", sum := "b721ae510d22eccb1dda79fd28bf18ddecd473d560fa20218a504ae20e0736ab", func := "wireless/wirelesslaw26.CtrlpduUnique", spec := "ctrlpduUnique", unfollowed := true, recurses := true, apart := false }
def CtrlpduUniqueSaid : Prop := ctrlpduUniqueRow.holds Try.pinned (OpenSpec.ofChange ctrlpduUniqueSpec)

/-- ITS FALSE NEIGHBOUR: 'it returns false'. Refute it at one input. -/
def ctrlpduUniqueWrong : ChangeSpec := { name := "ctrlpduUnique", fn := fun _ => fun
  | [d] => { results := [.lit (.bool false)], args := [d] }
  | _ => none }
def CtrlpduUniqueWrongFalsely : Prop := ctrlpduUniqueRow.holds Try.pinned (OpenSpec.ofChange ctrlpduUniqueWrong)

/- THE SECOND FORM. 'bulk': how many values and letters a reading holds, each counted each time it is reached (what is shared counts as often as it is met; a slice's spare places count too). A statement '..UptoSaid' is the law's where the arguments, and the package variables that the reading takes, are together of bulk at most 1048576: NARROWER than '..Said'. Prove '..Said' where nothing that the law and all that it calls make is longer than what came in: it says more and counts as full. Else prove '..UptoSaid'. A law counts once. -/
mutual
def uptoBulk {H : Type} : DataW H → Nat
  | .lit (.string bytes) => bytes.length + 1
  | .lit _ => 1
  | .nil => 1
  | .ptr d => uptoBulk d + 1
  | .slice elems spare => uptoBulkAll elems + uptoBulkAll spare + 1
  | .agg parts => uptoBulkAll parts + 1
  | .iface _ d => uptoBulk d + 1
  | .map entries => uptoBulkEntries entries + 1
  | .held _ => 1
def uptoBulkAll {H : Type} : List (DataW H) → Nat
  | [] => 0
  | d :: r => uptoBulk d + uptoBulkAll r
def uptoBulkEntries {H : Type} : List (Lit × DataW H) → Nat
  | [] => 0
  | x :: r => uptoBulkEntry x + uptoBulkEntries r
def uptoBulkEntry {H : Type} : Lit × DataW H → Nat
  | (.string bytes, d) => bytes.length + uptoBulk d + 1
  | (_, d) => uptoBulk d + 1
 end
def uptoSmall : (H : Type) → List (DataW H) → Bool := fun _ ds => decide (uptoBulkAll ds ≤ 1048576)
def OpenSpec.upto (s : _root_.Go.ChangeSpec) : _root_.Go.OpenSpec := { _root_.Go.OpenSpec.ofChange s with cond := some uptoSmall }

/-- 'wirelesslaw26.CtrlpduChecks', WHERE WHAT IT READS IS OF BULK AT MOST 1048576: true; the input reads as it did. -/
def ctrlpduChecksUptoRow : OpenClaim := { program := "ytiopeghbpnjcgaa", sum := "b721ae510d22eccb1dda79fd28bf18ddecd473d560fa20218a504ae20e0736ab", func := "wireless/wirelesslaw26.CtrlpduChecks", spec := "ctrlpduChecks", unfollowed := true, recurses := true, apart := false, narrowed := true }
def CtrlpduChecksUptoSaid : Prop := ctrlpduChecksUptoRow.holds Try.pinned (OpenSpec.upto ctrlpduChecksSpec)

/-- 'wirelesslaw26.CtrlpduEncodes', WHERE WHAT IT READS IS OF BULK AT MOST 1048576: true; the input reads as it did. -/
def ctrlpduEncodesUptoRow : OpenClaim := { program := "ytiopeghbpnjcgaa", sum := "b721ae510d22eccb1dda79fd28bf18ddecd473d560fa20218a504ae20e0736ab", func := "wireless/wirelesslaw26.CtrlpduEncodes", spec := "ctrlpduEncodes", unfollowed := true, recurses := true, apart := false, narrowed := true }
def CtrlpduEncodesUptoSaid : Prop := ctrlpduEncodesUptoRow.holds Try.pinned (OpenSpec.upto ctrlpduEncodesSpec)

/-- 'wirelesslaw26.CtrlpduDecodes', WHERE WHAT IT READS IS OF BULK AT MOST 1048576: true; the input reads as it did. -/
def ctrlpduDecodesUptoRow : OpenClaim := { program := "ytiopeghbpnjcgaa", sum := "b721ae510d22eccb1dda79fd28bf18ddecd473d560fa20218a504ae20e0736ab", func := "wireless/wirelesslaw26.CtrlpduDecodes", spec := "ctrlpduDecodes", unfollowed := true, recurses := true, apart := false, narrowed := true }
def CtrlpduDecodesUptoSaid : Prop := ctrlpduDecodesUptoRow.holds Try.pinned (OpenSpec.upto ctrlpduDecodesSpec)

/-- 'wirelesslaw26.CtrlpduProcedures', WHERE WHAT IT READS IS OF BULK AT MOST 1048576: true; the input reads as it did. -/
def ctrlpduProceduresUptoRow : OpenClaim := { program := "ytiopeghbpnjcgaa", sum := "b721ae510d22eccb1dda79fd28bf18ddecd473d560fa20218a504ae20e0736ab", func := "wireless/wirelesslaw26.CtrlpduProcedures", spec := "ctrlpduProcedures", unfollowed := true, recurses := true, apart := false, narrowed := true }
def CtrlpduProceduresUptoSaid : Prop := ctrlpduProceduresUptoRow.holds Try.pinned (OpenSpec.upto ctrlpduProceduresSpec)

/-- 'wirelesslaw26.CtrlpduBack', WHERE WHAT IT READS IS OF BULK AT MOST 1048576: true; the input reads as it did. -/
def ctrlpduBackUptoRow : OpenClaim := { program := "ytiopeghbpnjcgaa", sum := "b721ae510d22eccb1dda79fd28bf18ddecd473d560fa20218a504ae20e0736ab", func := "wireless/wirelesslaw26.CtrlpduBack", spec := "ctrlpduBack", unfollowed := true, recurses := true, apart := false, narrowed := true }
def CtrlpduBackUptoSaid : Prop := ctrlpduBackUptoRow.holds Try.pinned (OpenSpec.upto ctrlpduBackSpec)

/-- 'wirelesslaw26.CtrlpduUnique', WHERE WHAT IT READS IS OF BULK AT MOST 1048576: true; the input reads as it did. -/
def ctrlpduUniqueUptoRow : OpenClaim := { program := "ytiopeghbpnjcgaa", sum := "b721ae510d22eccb1dda79fd28bf18ddecd473d560fa20218a504ae20e0736ab", func := "wireless/wirelesslaw26.CtrlpduUnique", spec := "ctrlpduUnique", unfollowed := true, recurses := true, apart := false, narrowed := true }
def CtrlpduUniqueUptoSaid : Prop := ctrlpduUniqueUptoRow.holds Try.pinned (OpenSpec.upto ctrlpduUniqueSpec)

end Rows
end Go.Proofs.Ytiopeghbpnjcgaa
