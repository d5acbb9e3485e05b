/-
  No cell of these rows narrows 'for every input' (looked for: loops, veiled, ifaces, maps, wideKeys, modest, calm, conditions, laid).
  DERIVED. THE GIVEN ROWS OF THIS SEAT. 6 by the template 'for every input the law returns true; each argument reads behind the call as it read before'; 0 by the template 'total and deterministic' (their statements: YtngkpnkjapdnaaaTotals.lean).
  GIVEN WITH THE SEED: the statements are not yours to turn. If you find one false, say at which input.
  Laid BY PROGRAM, IN A SANDBOX (cutbox-rows.mjs): the forced cells as the released guide's own fill.sh prints them over the translation 1899db12d946b642… (all of the seat's roots in one cut). By AI agents, Wed Nov 11 2026. No macro, syntax, notation, axiom, sorry.
-/
import Derived.Test.YtngkpnkjapdnaaaChecked
import GoSem.Claim
import GoSem.ClaimJoined
import GoSem.ClaimMapViews
import Derived.JoinedTies
import Derived.KernelRfl
namespace Go.Proofs.Ytngkpnkjapdnaaa
/- THE CELL 'sum', in the pinned program and in every row, IS THE sha256 OF THE DUMP (.gsa) THAT YtngkpnkjapdnaaaProg.lean LOADS. Nothing in Lean hashes anything: it is a label: what it is worth is what the hold of that sum in a sandbox is worth. -/
noncomputable def Try.pinned : Pinned := { name := "ytngkpnkjapdnaaa", sum := "1899db12d946b642d9b96cf29dbbda247ee4a5a1a348d31dc2df45e7f67a96b3", checked := Try.checked }
namespace Rows
def none {H : Type} : Left H := { results := [], args := [] }

/-- 'wirelesslaw14.AssessRecords': WHATEVER THE INPUT: true; the input reads as it did. -/
def assessRecordsSpec : ChangeSpec := { name := "assessRecords", fn := fun _ => fun
  | [d1, d2, d3] => { results := [.lit (.bool true)], args := [d1, d2, d3] }
  | _ => none }
def assessRecordsRow : OpenClaim := { program := "ytngkpnkjapdnaaa", sum := "1899db12d946b642d9b96cf29dbbda247ee4a5a1a348d31dc2df45e7f67a96b3", func := "wireless/wirelesslaw14.AssessRecords", spec := "assessRecords", unfollowed := true, recurses := true, apart := false }
def AssessRecordsSaid : Prop := assessRecordsRow.holds Try.pinned (OpenSpec.ofChange assessRecordsSpec)

/-- ITS FALSE NEIGHBOUR: 'it returns false'. Refute it at one input. -/
def assessRecordsWrong : ChangeSpec := { name := "assessRecords", fn := fun _ => fun
  | [d1, d2, d3] => { results := [.lit (.bool false)], args := [d1, d2, d3] }
  | _ => none }
def AssessRecordsWrongFalsely : Prop := assessRecordsRow.holds Try.pinned (OpenSpec.ofChange assessRecordsWrong)

/-- 'wirelesslaw14.AssessRates': WHATEVER THE INPUT: true; the input reads as it did. -/
def assessRatesSpec : ChangeSpec := { name := "assessRates", fn := fun _ => fun
  | [d] => { results := [.lit (.bool true)], args := [d] }
  | _ => none }
def assessRatesRow : OpenClaim := { program := "ytngkpnkjapdnaaa", sum := "1899db12d946b642d9b96cf29dbbda247ee4a5a1a348d31dc2df45e7f67a96b3", func := "wireless/wirelesslaw14.AssessRates", spec := "assessRates", unfollowed := true, recurses := true, apart := false }
def AssessRatesSaid : Prop := assessRatesRow.holds Try.pinned (OpenSpec.ofChange assessRatesSpec)

/-- ITS FALSE NEIGHBOUR: 'it returns false'. Refute it at one input. -/
def assessRatesWrong : ChangeSpec := { name := "assessRates", fn := fun _ => fun
  | [d] => { results := [.lit (.bool false)], args := [d] }
  | _ => none }
def AssessRatesWrongFalsely : Prop := assessRatesRow.holds Try.pinned (OpenSpec.ofChange assessRatesWrong)

/-- 'wirelesslaw14.AssessDecays': WHATEVER THE INPUT: true; the input reads as it did. -/
def assessDecaysSpec : ChangeSpec := { name := "assessDecays", fn := fun _ => fun
  | [d] => { results := [.lit (.bool true)], args := [d] }
  | _ => none }
def assessDecaysRow : OpenClaim := { program := "ytngkpnkjapdnaaa", sum := "1899db12d946b642d9b96cf29dbbda247ee4a5a1a348d31dc2df45e7f67a96b3", func := "wireless/wirelesslaw14.AssessDecays", spec := "assessDecays", unfollowed := true, recurses := true, apart := false }
def AssessDecaysSaid : Prop := assessDecaysRow.holds Try.pinned (OpenSpec.ofChange assessDecaysSpec)

/-- ITS FALSE NEIGHBOUR: 'it returns false'. Refute it at one input. -/
def assessDecaysWrong : ChangeSpec := { name := "assessDecays", fn := fun _ => fun
  | [d] => { results := [.lit (.bool false)], args := [d] }
  | _ => none }
def AssessDecaysWrongFalsely : Prop := assessDecaysRow.holds Try.pinned (OpenSpec.ofChange assessDecaysWrong)

/-- 'wirelesslaw14.AssessProposes': WHATEVER THE INPUT: true; the input reads as it did. -/
def assessProposesSpec : ChangeSpec := { name := "assessProposes", fn := fun _ => fun
  | [d1, d2, d3] => { results := [.lit (.bool true)], args := [d1, d2, d3] }
  | _ => none }
def assessProposesRow : OpenClaim := { program := "ytngkpnkjapdnaaa", sum := "1899db12d946b642d9b96cf29dbbda247ee4a5a1a348d31dc2df45e7f67a96b3", func := "wireless/wirelesslaw14.AssessProposes", spec := "assessProposes", unfollowed := true, recurses := true, apart := false }
def AssessProposesSaid : Prop := assessProposesRow.holds Try.pinned (OpenSpec.ofChange assessProposesSpec)

/-- ITS FALSE NEIGHBOUR: 'it returns false'. Refute it at one input. -/
def assessProposesWrong : ChangeSpec := { name := "assessProposes", fn := fun _ => fun
  | [d1, d2, d3] => { results := [.lit (.bool false)], args := [d1, d2, d3] }
  | _ => none }
def AssessProposesWrongFalsely : Prop := assessProposesRow.holds Try.pinned (OpenSpec.ofChange assessProposesWrong)

/-- 'wirelesslaw14.AssessKeeps': WHATEVER THE INPUT: true; the input reads as it did. -/
def assessKeepsSpec : ChangeSpec := { name := "assessKeeps", fn := fun _ => fun
  | [d1, d2, d3] => { results := [.lit (.bool true)], args := [d1, d2, d3] }
  | _ => none }
def assessKeepsRow : OpenClaim := { program := "ytngkpnkjapdnaaa", sum := "1899db12d946b642d9b96cf29dbbda247ee4a5a1a348d31dc2df45e7f67a96b3", func := "wireless/wirelesslaw14.AssessKeeps", spec := "assessKeeps", unfollowed := true, recurses := true, apart := false }
def AssessKeepsSaid : Prop := assessKeepsRow.holds Try.pinned (OpenSpec.ofChange assessKeepsSpec)

/-- ITS FALSE NEIGHBOUR: 'it returns false'. Refute it at one input. -/
def assessKeepsWrong : ChangeSpec := { name := "assessKeeps", fn := fun _ => fun
  | [d1, d2, d3] => { results := [.lit (.bool false)], args := [d1, d2, d3] }
  | _ => none }
def AssessKeepsWrongFalsely : Prop := assessKeepsRow.holds Try.pinned (OpenSpec.ofChange assessKeepsWrong)

/-- 'wirelesslaw14.AssessCounts': WHATEVER THE INPUT: true; the input reads as it did. -/
def assessCountsSpec : ChangeSpec := { name := "assessCounts", fn := fun _ => fun
  | [d] => { results := [.lit (.bool true)], args := [d] }
  | _ => none }
def assessCountsRow : OpenClaim := { program := "ytngkpnkjapdnaaa", sum := "1899db12d946b642d9b96cf29dbbda247ee4a5a1a348d31dc2df45e7f67a96b3", func := "wireless/wirelesslaw14.AssessCounts", spec := "assessCounts", unfollowed := true, recurses := true, apart := false }
def AssessCountsSaid : Prop := assessCountsRow.holds Try.pinned (OpenSpec.ofChange assessCountsSpec)

/-- ITS FALSE NEIGHBOUR: 'it returns false'. Refute it at one input. -/
def assessCountsWrong : ChangeSpec := { name := "assessCounts", fn := fun _ => fun
  | [d] => { results := [.lit (.bool false)], args := [d] }
  | _ => none }
def AssessCountsWrongFalsely : Prop := assessCountsRow.holds Try.pinned (OpenSpec.ofChange assessCountsWrong)

/- THE SECOND FORM. 'bulk': how many values and letters a reading holds, each counted each time it is reached (what is shared counts as often as it is met; a slice's spare places count too). A statement '..UptoSaid' is the law's where the arguments, and the package variables that the reading takes, are together of bulk at most 1048576: NARROWER than '..Said'. Prove '..Said' where nothing that the law and all that it calls make is longer than what came in: it says more and counts as full. Else prove '..UptoSaid'. A law counts once. -/
mutual
def uptoBulk {H : Type} : DataW H → Nat
  | .lit (.string bytes) => bytes.length + 1
  | .lit _ => 1
  | .nil => 1
  | .ptr d => uptoBulk d + 1
  | .slice elems spare => uptoBulkAll elems + uptoBulkAll spare + 1
  | .agg parts => uptoBulkAll parts + 1
  | .iface _ d => uptoBulk d + 1
  | .map entries => uptoBulkEntries entries + 1
  | .held _ => 1
def uptoBulkAll {H : Type} : List (DataW H) → Nat
  | [] => 0
  | d :: r => uptoBulk d + uptoBulkAll r
def uptoBulkEntries {H : Type} : List (Lit × DataW H) → Nat
  | [] => 0
  | x :: r => uptoBulkEntry x + uptoBulkEntries r
def uptoBulkEntry {H : Type} : Lit × DataW H → Nat
  | (.string bytes, d) => bytes.length + uptoBulk d + 1
  | (_, d) => uptoBulk d + 1
 end
def uptoSmall : (H : Type) → List (DataW H) → Bool := fun _ ds => decide (uptoBulkAll ds ≤ 1048576)
def OpenSpec.upto (s : _root_.Go.ChangeSpec) : _root_.Go.OpenSpec := { _root_.Go.OpenSpec.ofChange s with cond := some uptoSmall }

/-- 'wirelesslaw14.AssessRecords', WHERE WHAT IT READS IS OF BULK AT MOST 1048576: true; the input reads as it did. -/
def assessRecordsUptoRow : OpenClaim := { program := "ytngkpnkjapdnaaa", sum := "1899db12d946b642d9b96cf29dbbda247ee4a5a1a348d31dc2df45e7f67a96b3", func := "wireless/wirelesslaw14.AssessRecords", spec := "assessRecords", unfollowed := true, recurses := true, apart := false, narrowed := true }
def AssessRecordsUptoSaid : Prop := assessRecordsUptoRow.holds Try.pinned (OpenSpec.upto assessRecordsSpec)

/-- 'wirelesslaw14.AssessRates', WHERE WHAT IT READS IS OF BULK AT MOST 1048576: true; the input reads as it did. -/
def assessRatesUptoRow : OpenClaim := { program := "ytngkpnkjapdnaaa", sum := "1899db12d946b642d9b96cf29dbbda247ee4a5a1a348d31dc2df45e7f67a96b3", func := "wireless/wirelesslaw14.AssessRates", spec := "assessRates", unfollowed := true, recurses := true, apart := false, narrowed := true }
def AssessRatesUptoSaid : Prop := assessRatesUptoRow.holds Try.pinned (OpenSpec.upto assessRatesSpec)

/-- 'wirelesslaw14.AssessDecays', WHERE WHAT IT READS IS OF BULK AT MOST 1048576: true; the input reads as it did. -/
def assessDecaysUptoRow : OpenClaim := { program := "ytngkpnkjapdnaaa", sum := "1899db12d946b642d9b96cf29dbbda247ee4a5a1a348d31dc2df45e7f67a96b3", func := "wireless/wirelesslaw14.AssessDecays", spec := "assessDecays", unfollowed := true, recurses := true, apart := false, narrowed := true }
def AssessDecaysUptoSaid : Prop := assessDecaysUptoRow.holds Try.pinned (OpenSpec.upto assessDecaysSpec)

/-- 'wirelesslaw14.AssessProposes', WHERE WHAT IT READS IS OF BULK AT MOST 1048576: true; the input reads as it did. -/
def assessProposesUptoRow : OpenClaim := { program := "ytngkpnkjapdnaaa", sum := "1899db12d946b642d9b96cf29dbbda247ee4a5a1a348d31dc2df45e7f67a96b3", func := "wireless/wirelesslaw14.AssessProposes", spec := "assessProposes", unfollowed := true, recurses := true, apart := false, narrowed := true }
def AssessProposesUptoSaid : Prop := assessProposesUptoRow.holds Try.pinned (OpenSpec.upto assessProposesSpec)

/-- 'wirelesslaw14.AssessKeeps', WHERE WHAT IT READS IS OF BULK AT MOST 1048576: true; the input reads as it did. -/
def assessKeepsUptoRow : OpenClaim := { program := "ytngkpnkjapdnaaa", sum := "1899db12d946b642d9b96cf29dbbda247ee4a5a1a348d31dc2df45e7f67a96b3", func := "wireless/wirelesslaw14.AssessKeeps", spec := "assessKeeps", unfollowed := true, recurses := true, apart := false, narrowed := true }
def AssessKeepsUptoSaid : Prop := assessKeepsUptoRow.holds Try.pinned (OpenSpec.upto assessKeepsSpec)

/-- 'wirelesslaw14.AssessCounts', WHERE WHAT IT READS IS OF BULK AT MOST 1048576: true; the input reads as it did. -/
def assessCountsUptoRow : OpenClaim := { program := "ytngkpnkjapdnaaa", sum := "1899db12d946b642d9b96cf29dbbda247ee4a5a1a348d31dc2df45e7f67a96b3", func := "wireless/wirelesslaw14.AssessCounts", spec := "assessCounts", unfollowed := true, recurses := true, apart := false, narrowed := true }
def AssessCountsUptoSaid : Prop := assessCountsUptoRow.holds Try.pinned (OpenSpec.upto assessCountsSpec)

end Rows
end Go.Proofs.Ytngkpnkjapdnaaa
