/-
  No cell of these rows narrows 'for every input' (looked for: loops, veiled, ifaces, maps, wideKeys, modest, calm, conditions, laid).
  DERIVED. THE GIVEN ROWS OF THIS SEAT. 5 by the template 'for every input the law returns true; each argument reads behind the call as it read before'; 0 by the template 'total and deterministic' (their statements: YtmfljplibcodpaaTotals.lean).
  GIVEN WITH THE SEED: the statements are not yours to turn. If you find one false, say at which input.
  Laid BY PROGRAM, IN A SANDBOX (cutbox-rows.mjs): the forced cells as the released guide's own fill.sh prints them over the translation 2f68da4fd437c026… (all of the seat's roots in one cut). By AI agents, Wed Nov 11 2026. No macro, syntax, notation, axiom, sorry.
-/
import Derived.Test.YtmfljplibcodpaaChecked
import GoSem.Claim
import GoSem.ClaimJoined
import GoSem.ClaimMapViews
import Derived.JoinedTies
import Derived.KernelRfl
namespace Go.Proofs.Ytmfljplibcodpaa
/- THE CELL 'sum', in the pinned program and in every row, IS THE sha256 OF THE DUMP (.gsa) THAT YtmfljplibcodpaaProg.lean LOADS. Nothing in Lean hashes anything: it is a label: what it is worth is what the hold of that sum in a sandbox is worth. -/
noncomputable def Try.pinned : Pinned := { name := "ytmfljplibcodpaa", sum := "2f68da4fd437c026dcbdd5beaa8ae7e187e8169ec411b8a1b6167bf2cc2dc441", checked := Try.checked }
namespace Rows
def none {H : Type} : Left H := { results := [], args := [] }

/-- 'wirelesslaw13.HopSteps': WHATEVER THE INPUT: true; the input reads as it did. -/
def hopStepsSpec : ChangeSpec := { name := "hopSteps", fn := fun _ => fun
  | [d1, d2] => { results := [.lit (.bool true)], args := [d1, d2] }
  | _ => none }
def hopStepsRow : OpenClaim := { program := "ytmfljplibcodpaa", sum := "2f68da4fd437c026dcbdd5beaa8ae7e187e8169ec411b8a1b6167bf2cc2dc441", func := "wireless/wirelesslaw13.HopSteps", spec := "hopSteps", unfollowed := true, recurses := true, apart := false }
def HopStepsSaid : Prop := hopStepsRow.holds Try.pinned (OpenSpec.ofChange hopStepsSpec)

/-- ITS FALSE NEIGHBOUR: 'it returns false'. Refute it at one input. -/
def hopStepsWrong : ChangeSpec := { name := "hopSteps", fn := fun _ => fun
  | [d1, d2] => { results := [.lit (.bool false)], args := [d1, d2] }
  | _ => none }
def HopStepsWrongFalsely : Prop := hopStepsRow.holds Try.pinned (OpenSpec.ofChange hopStepsWrong)

/-- 'wirelesslaw13.HopRandoms': WHATEVER THE INPUT: true; the input reads as it did. -/
def hopRandomsSpec : ChangeSpec := { name := "hopRandoms", fn := fun _ => fun
  | [d1, d2, d3] => { results := [.lit (.bool true)], args := [d1, d2, d3] }
  | _ => none }
def hopRandomsRow : OpenClaim := { program := "ytmfljplibcodpaa", sum := "2f68da4fd437c026dcbdd5beaa8ae7e187e8169ec411b8a1b6167bf2cc2dc441", func := "wireless/wirelesslaw13.HopRandoms", spec := "hopRandoms", unfollowed := true, recurses := true, apart := false }
def HopRandomsSaid : Prop := hopRandomsRow.holds Try.pinned (OpenSpec.ofChange hopRandomsSpec)

/-- ITS FALSE NEIGHBOUR: 'it returns false'. Refute it at one input. -/
def hopRandomsWrong : ChangeSpec := { name := "hopRandoms", fn := fun _ => fun
  | [d1, d2, d3] => { results := [.lit (.bool false)], args := [d1, d2, d3] }
  | _ => none }
def HopRandomsWrongFalsely : Prop := hopRandomsRow.holds Try.pinned (OpenSpec.ofChange hopRandomsWrong)

/-- 'wirelesslaw13.HopMixes': WHATEVER THE INPUT: true; the input reads as it did. -/
def hopMixesSpec : ChangeSpec := { name := "hopMixes", fn := fun _ => fun
  | [d1, d2, d3] => { results := [.lit (.bool true)], args := [d1, d2, d3] }
  | _ => none }
def hopMixesRow : OpenClaim := { program := "ytmfljplibcodpaa", sum := "2f68da4fd437c026dcbdd5beaa8ae7e187e8169ec411b8a1b6167bf2cc2dc441", func := "wireless/wirelesslaw13.HopMixes", spec := "hopMixes", unfollowed := true, recurses := true, apart := false }
def HopMixesSaid : Prop := hopMixesRow.holds Try.pinned (OpenSpec.ofChange hopMixesSpec)

/-- ITS FALSE NEIGHBOUR: 'it returns false'. Refute it at one input. -/
def hopMixesWrong : ChangeSpec := { name := "hopMixes", fn := fun _ => fun
  | [d1, d2, d3] => { results := [.lit (.bool false)], args := [d1, d2, d3] }
  | _ => none }
def HopMixesWrongFalsely : Prop := hopMixesRow.holds Try.pinned (OpenSpec.ofChange hopMixesWrong)

/-- 'wirelesslaw13.HopNexts': WHATEVER THE INPUT: true; the input reads as it did. -/
def hopNextsSpec : ChangeSpec := { name := "hopNexts", fn := fun _ => fun
  | [d1, d2, d3] => { results := [.lit (.bool true)], args := [d1, d2, d3] }
  | _ => none }
def hopNextsRow : OpenClaim := { program := "ytmfljplibcodpaa", sum := "2f68da4fd437c026dcbdd5beaa8ae7e187e8169ec411b8a1b6167bf2cc2dc441", func := "wireless/wirelesslaw13.HopNexts", spec := "hopNexts", unfollowed := true, recurses := true, apart := false }
def HopNextsSaid : Prop := hopNextsRow.holds Try.pinned (OpenSpec.ofChange hopNextsSpec)

/-- ITS FALSE NEIGHBOUR: 'it returns false'. Refute it at one input. -/
def hopNextsWrong : ChangeSpec := { name := "hopNexts", fn := fun _ => fun
  | [d1, d2, d3] => { results := [.lit (.bool false)], args := [d1, d2, d3] }
  | _ => none }
def HopNextsWrongFalsely : Prop := hopNextsRow.holds Try.pinned (OpenSpec.ofChange hopNextsWrong)

/-- 'wirelesslaw13.HopStays': WHATEVER THE INPUT: true; the input reads as it did. -/
def hopStaysSpec : ChangeSpec := { name := "hopStays", fn := fun _ => fun
  | [d1, d2, d3] => { results := [.lit (.bool true)], args := [d1, d2, d3] }
  | _ => none }
def hopStaysRow : OpenClaim := { program := "ytmfljplibcodpaa", sum := "2f68da4fd437c026dcbdd5beaa8ae7e187e8169ec411b8a1b6167bf2cc2dc441", func := "wireless/wirelesslaw13.HopStays", spec := "hopStays", unfollowed := true, recurses := true, apart := false }
def HopStaysSaid : Prop := hopStaysRow.holds Try.pinned (OpenSpec.ofChange hopStaysSpec)

/-- ITS FALSE NEIGHBOUR: 'it returns false'. Refute it at one input. -/
def hopStaysWrong : ChangeSpec := { name := "hopStays", fn := fun _ => fun
  | [d1, d2, d3] => { results := [.lit (.bool false)], args := [d1, d2, d3] }
  | _ => none }
def HopStaysWrongFalsely : Prop := hopStaysRow.holds Try.pinned (OpenSpec.ofChange hopStaysWrong)

/- THE SECOND FORM. 'bulk': how many values and letters a reading holds, each counted each time it is reached (what is shared counts as often as it is met; a slice's spare places count too). A statement '..UptoSaid' is the law's where the arguments, and the package variables that the reading takes, are together of bulk at most 1048576: NARROWER than '..Said'. Prove '..Said' where nothing that the law and all that it calls make is longer than what came in: it says more and counts as full. Else prove '..UptoSaid'. A law counts once. -/
mutual
def uptoBulk {H : Type} : DataW H → Nat
  | .lit (.string bytes) => bytes.length + 1
  | .lit _ => 1
  | .nil => 1
  | .ptr d => uptoBulk d + 1
  | .slice elems spare => uptoBulkAll elems + uptoBulkAll spare + 1
  | .agg parts => uptoBulkAll parts + 1
  | .iface _ d => uptoBulk d + 1
  | .map entries => uptoBulkEntries entries + 1
  | .held _ => 1
def uptoBulkAll {H : Type} : List (DataW H) → Nat
  | [] => 0
  | d :: r => uptoBulk d + uptoBulkAll r
def uptoBulkEntries {H : Type} : List (Lit × DataW H) → Nat
  | [] => 0
  | x :: r => uptoBulkEntry x + uptoBulkEntries r
def uptoBulkEntry {H : Type} : Lit × DataW H → Nat
  | (.string bytes, d) => bytes.length + uptoBulk d + 1
  | (_, d) => uptoBulk d + 1
 end
def uptoSmall : (H : Type) → List (DataW H) → Bool := fun _ ds => decide (uptoBulkAll ds ≤ 1048576)
def OpenSpec.upto (s : _root_.Go.ChangeSpec) : _root_.Go.OpenSpec := { _root_.Go.OpenSpec.ofChange s with cond := some uptoSmall }

/-- 'wirelesslaw13.HopSteps', WHERE WHAT IT READS IS OF BULK AT MOST 1048576: true; the input reads as it did. -/
def hopStepsUptoRow : OpenClaim := { program := "ytmfljplibcodpaa", sum := "2f68da4fd437c026dcbdd5beaa8ae7e187e8169ec411b8a1b6167bf2cc2dc441", func := "wireless/wirelesslaw13.HopSteps", spec := "hopSteps", unfollowed := true, recurses := true, apart := false, narrowed := true }
def HopStepsUptoSaid : Prop := hopStepsUptoRow.holds Try.pinned (OpenSpec.upto hopStepsSpec)

/-- 'wirelesslaw13.HopRandoms', WHERE WHAT IT READS IS OF BULK AT MOST 1048576: true; the input reads as it did. -/
def hopRandomsUptoRow : OpenClaim := { program := "ytmfljplibcodpaa", sum := "2f68da4fd437c026dcbdd5beaa8ae7e187e8169ec411b8a1b6167bf2cc2dc441", func := "wireless/wirelesslaw13.HopRandoms", spec := "hopRandoms", unfollowed := true, recurses := true, apart := false, narrowed := true }
def HopRandomsUptoSaid : Prop := hopRandomsUptoRow.holds Try.pinned (OpenSpec.upto hopRandomsSpec)

/-- 'wirelesslaw13.HopMixes', WHERE WHAT IT READS IS OF BULK AT MOST 1048576: true; the input reads as it did. -/
def hopMixesUptoRow : OpenClaim := { program := "ytmfljplibcodpaa", sum := "2f68da4fd437c026dcbdd5beaa8ae7e187e8169ec411b8a1b6167bf2cc2dc441", func := "wireless/wirelesslaw13.HopMixes", spec := "hopMixes", unfollowed := true, recurses := true, apart := false, narrowed := true }
def HopMixesUptoSaid : Prop := hopMixesUptoRow.holds Try.pinned (OpenSpec.upto hopMixesSpec)

/-- 'wirelesslaw13.HopNexts', WHERE WHAT IT READS IS OF BULK AT MOST 1048576: true; the input reads as it did. -/
def hopNextsUptoRow : OpenClaim := { program := "ytmfljplibcodpaa", sum := "2f68da4fd437c026dcbdd5beaa8ae7e187e8169ec411b8a1b6167bf2cc2dc441", func := "wireless/wirelesslaw13.HopNexts", spec := "hopNexts", unfollowed := true, recurses := true, apart := false, narrowed := true }
def HopNextsUptoSaid : Prop := hopNextsUptoRow.holds Try.pinned (OpenSpec.upto hopNextsSpec)

/-- 'wirelesslaw13.HopStays', WHERE WHAT IT READS IS OF BULK AT MOST 1048576: true; the input reads as it did. -/
def hopStaysUptoRow : OpenClaim := { program := "ytmfljplibcodpaa", sum := "2f68da4fd437c026dcbdd5beaa8ae7e187e8169ec411b8a1b6167bf2cc2dc441", func := "wireless/wirelesslaw13.HopStays", spec := "hopStays", unfollowed := true, recurses := true, apart := false, narrowed := true }
def HopStaysUptoSaid : Prop := hopStaysUptoRow.holds Try.pinned (OpenSpec.upto hopStaysSpec)

end Rows
end Go.Proofs.Ytmfljplibcodpaa
