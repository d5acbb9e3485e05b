/-
  No cell of these rows narrows 'for every input' (looked for: loops, veiled, ifaces, maps, wideKeys, modest, calm, conditions, laid).
  DERIVED. THE GIVEN ROWS OF THIS SEAT. 7 by the template 'for every input the law returns true; each argument reads behind the call as it read before'; 0 by the template 'total and deterministic' (their statements: YtjbidpclpkjddaaTotals.lean).
  GIVEN WITH THE SEED: the statements are not yours to turn. If you find one false, say at which input.
  Laid BY PROGRAM, IN A SANDBOX (cutbox-rows.mjs): the forced cells as the released guide's own fill.sh prints them over the translation 19c8b473580a5d36… (all of the seat's roots in one cut). By AI agents, Wed Nov 11 2026. No macro, syntax, notation, axiom, sorry.
-/
import Derived.Test.YtjbidpclpkjddaaChecked
import GoSem.Claim
import GoSem.ClaimJoined
import GoSem.ClaimMapViews
import Derived.JoinedTies
import Derived.KernelRfl
namespace Go.Proofs.Ytjbidpclpkjddaa
/- THE CELL 'sum', in the pinned program and in every row, IS THE sha256 OF THE DUMP (.gsa) THAT YtjbidpclpkjddaaProg.lean LOADS. Nothing in Lean hashes anything: it is a label: what it is worth is what the hold of that sum in a sandbox is worth. -/
noncomputable def Try.pinned : Pinned := { name := "ytjbidpclpkjddaa", sum := "19c8b473580a5d3648b40fd63983e32dddc2b9ea293af18d842624062c910971", checked := Try.checked }
namespace Rows
def none {H : Type} : Left H := { results := [], args := [] }

/-- 'wirelesslaw11.ClockChecks': WHATEVER THE INPUT: true; the input reads as it did. -/
def clockChecksSpec : ChangeSpec := { name := "clockChecks", fn := fun _ => fun
  | [d] => { results := [.lit (.bool true)], args := [d] }
  | _ => none }
def clockChecksRow : OpenClaim := { program := "ytjbidpclpkjddaa", sum := "19c8b473580a5d3648b40fd63983e32dddc2b9ea293af18d842624062c910971", func := "wireless/wirelesslaw11.ClockChecks", spec := "clockChecks", unfollowed := true, recurses := true, apart := false }
def ClockChecksSaid : Prop := clockChecksRow.holds Try.pinned (OpenSpec.ofChange clockChecksSpec)

/-- ITS FALSE NEIGHBOUR: 'it returns false'. Refute it at one input. -/
def clockChecksWrong : ChangeSpec := { name := "clockChecks", fn := fun _ => fun
  | [d] => { results := [.lit (.bool false)], args := [d] }
  | _ => none }
def ClockChecksWrongFalsely : Prop := clockChecksRow.holds Try.pinned (OpenSpec.ofChange clockChecksWrong)

/-- 'wirelesslaw11.ClockLocals': WHATEVER THE INPUT: true; the input reads as it did. -/
def clockLocalsSpec : ChangeSpec := { name := "clockLocals", fn := fun _ => fun
  | [d1, d2] => { results := [.lit (.bool true)], args := [d1, d2] }
  | _ => none }
def clockLocalsRow : OpenClaim := { program := "ytjbidpclpkjddaa", sum := "19c8b473580a5d3648b40fd63983e32dddc2b9ea293af18d842624062c910971", func := "wireless/wirelesslaw11.ClockLocals", spec := "clockLocals", unfollowed := true, recurses := true, apart := false }
def ClockLocalsSaid : Prop := clockLocalsRow.holds Try.pinned (OpenSpec.ofChange clockLocalsSpec)

/-- ITS FALSE NEIGHBOUR: 'it returns false'. Refute it at one input. -/
def clockLocalsWrong : ChangeSpec := { name := "clockLocals", fn := fun _ => fun
  | [d1, d2] => { results := [.lit (.bool false)], args := [d1, d2] }
  | _ => none }
def ClockLocalsWrongFalsely : Prop := clockLocalsRow.holds Try.pinned (OpenSpec.ofChange clockLocalsWrong)

/-- 'wirelesslaw11.ClockReals': WHATEVER THE INPUT: true; the input reads as it did. -/
def clockRealsSpec : ChangeSpec := { name := "clockReals", fn := fun _ => fun
  | [d1, d2] => { results := [.lit (.bool true)], args := [d1, d2] }
  | _ => none }
def clockRealsRow : OpenClaim := { program := "ytjbidpclpkjddaa", sum := "19c8b473580a5d3648b40fd63983e32dddc2b9ea293af18d842624062c910971", func := "wireless/wirelesslaw11.ClockReals", spec := "clockReals", unfollowed := true, recurses := true, apart := false }
def ClockRealsSaid : Prop := clockRealsRow.holds Try.pinned (OpenSpec.ofChange clockRealsSpec)

/-- ITS FALSE NEIGHBOUR: 'it returns false'. Refute it at one input. -/
def clockRealsWrong : ChangeSpec := { name := "clockReals", fn := fun _ => fun
  | [d1, d2] => { results := [.lit (.bool false)], args := [d1, d2] }
  | _ => none }
def ClockRealsWrongFalsely : Prop := clockRealsRow.holds Try.pinned (OpenSpec.ofChange clockRealsWrong)

/-- 'wirelesslaw11.ClockWidenings': WHATEVER THE INPUT: true; the input reads as it did. -/
def clockWideningsSpec : ChangeSpec := { name := "clockWidenings", fn := fun _ => fun
  | [d1, d2] => { results := [.lit (.bool true)], args := [d1, d2] }
  | _ => none }
def clockWideningsRow : OpenClaim := { program := "ytjbidpclpkjddaa", sum := "19c8b473580a5d3648b40fd63983e32dddc2b9ea293af18d842624062c910971", func := "wireless/wirelesslaw11.ClockWidenings", spec := "clockWidenings", unfollowed := true, recurses := true, apart := false }
def ClockWideningsSaid : Prop := clockWideningsRow.holds Try.pinned (OpenSpec.ofChange clockWideningsSpec)

/-- ITS FALSE NEIGHBOUR: 'it returns false'. Refute it at one input. -/
def clockWideningsWrong : ChangeSpec := { name := "clockWidenings", fn := fun _ => fun
  | [d1, d2] => { results := [.lit (.bool false)], args := [d1, d2] }
  | _ => none }
def ClockWideningsWrongFalsely : Prop := clockWideningsRow.holds Try.pinned (OpenSpec.ofChange clockWideningsWrong)

/-- 'wirelesslaw11.ClockOrder': WHATEVER THE INPUT: true; the input reads as it did. -/
def clockOrderSpec : ChangeSpec := { name := "clockOrder", fn := fun _ => fun
  | [d1, d2, d3] => { results := [.lit (.bool true)], args := [d1, d2, d3] }
  | _ => none }
def clockOrderRow : OpenClaim := { program := "ytjbidpclpkjddaa", sum := "19c8b473580a5d3648b40fd63983e32dddc2b9ea293af18d842624062c910971", func := "wireless/wirelesslaw11.ClockOrder", spec := "clockOrder", unfollowed := true, recurses := true, apart := false }
def ClockOrderSaid : Prop := clockOrderRow.holds Try.pinned (OpenSpec.ofChange clockOrderSpec)

/-- ITS FALSE NEIGHBOUR: 'it returns false'. Refute it at one input. -/
def clockOrderWrong : ChangeSpec := { name := "clockOrder", fn := fun _ => fun
  | [d1, d2, d3] => { results := [.lit (.bool false)], args := [d1, d2, d3] }
  | _ => none }
def ClockOrderWrongFalsely : Prop := clockOrderRow.holds Try.pinned (OpenSpec.ofChange clockOrderWrong)

/-- 'wirelesslaw11.ClockFirst': WHATEVER THE INPUT: true; the input reads as it did. -/
def clockFirstSpec : ChangeSpec := { name := "clockFirst", fn := fun _ => fun
  | [d1, d2] => { results := [.lit (.bool true)], args := [d1, d2] }
  | _ => none }
def clockFirstRow : OpenClaim := { program := "ytjbidpclpkjddaa", sum := "19c8b473580a5d3648b40fd63983e32dddc2b9ea293af18d842624062c910971", func := "wireless/wirelesslaw11.ClockFirst", spec := "clockFirst", unfollowed := true, recurses := true, apart := false }
def ClockFirstSaid : Prop := clockFirstRow.holds Try.pinned (OpenSpec.ofChange clockFirstSpec)

/-- ITS FALSE NEIGHBOUR: 'it returns false'. Refute it at one input. -/
def clockFirstWrong : ChangeSpec := { name := "clockFirst", fn := fun _ => fun
  | [d1, d2] => { results := [.lit (.bool false)], args := [d1, d2] }
  | _ => none }
def ClockFirstWrongFalsely : Prop := clockFirstRow.holds Try.pinned (OpenSpec.ofChange clockFirstWrong)

/-- 'wirelesslaw11.ClockWidens': WHATEVER THE INPUT: true; the input reads as it did. -/
def clockWidensSpec : ChangeSpec := { name := "clockWidens", fn := fun _ => fun
  | [d1, d2, d3] => { results := [.lit (.bool true)], args := [d1, d2, d3] }
  | _ => none }
def clockWidensRow : OpenClaim := { program := "ytjbidpclpkjddaa", sum := "19c8b473580a5d3648b40fd63983e32dddc2b9ea293af18d842624062c910971", func := "wireless/wirelesslaw11.ClockWidens", spec := "clockWidens", unfollowed := true, recurses := true, apart := false }
def ClockWidensSaid : Prop := clockWidensRow.holds Try.pinned (OpenSpec.ofChange clockWidensSpec)

/-- ITS FALSE NEIGHBOUR: 'it returns false'. Refute it at one input. -/
def clockWidensWrong : ChangeSpec := { name := "clockWidens", fn := fun _ => fun
  | [d1, d2, d3] => { results := [.lit (.bool false)], args := [d1, d2, d3] }
  | _ => none }
def ClockWidensWrongFalsely : Prop := clockWidensRow.holds Try.pinned (OpenSpec.ofChange clockWidensWrong)

/- THE SECOND FORM. 'bulk': how many values and letters a reading holds, each counted each time it is reached (what is shared counts as often as it is met; a slice's spare places count too). A statement '..UptoSaid' is the law's where the arguments, and the package variables that the reading takes, are together of bulk at most 1048576: NARROWER than '..Said'. Prove '..Said' where nothing that the law and all that it calls make is longer than what came in: it says more and counts as full. Else prove '..UptoSaid'. A law counts once. -/
mutual
def uptoBulk {H : Type} : DataW H → Nat
  | .lit (.string bytes) => bytes.length + 1
  | .lit _ => 1
  | .nil => 1
  | .ptr d => uptoBulk d + 1
  | .slice elems spare => uptoBulkAll elems + uptoBulkAll spare + 1
  | .agg parts => uptoBulkAll parts + 1
  | .iface _ d => uptoBulk d + 1
  | .map entries => uptoBulkEntries entries + 1
  | .held _ => 1
def uptoBulkAll {H : Type} : List (DataW H) → Nat
  | [] => 0
  | d :: r => uptoBulk d + uptoBulkAll r
def uptoBulkEntries {H : Type} : List (Lit × DataW H) → Nat
  | [] => 0
  | x :: r => uptoBulkEntry x + uptoBulkEntries r
def uptoBulkEntry {H : Type} : Lit × DataW H → Nat
  | (.string bytes, d) => bytes.length + uptoBulk d + 1
  | (_, d) => uptoBulk d + 1
 end
def uptoSmall : (H : Type) → List (DataW H) → Bool := fun _ ds => decide (uptoBulkAll ds ≤ 1048576)
def OpenSpec.upto (s : _root_.Go.ChangeSpec) : _root_.Go.OpenSpec := { _root_.Go.OpenSpec.ofChange s with cond := some uptoSmall }

/-- 'wirelesslaw11.ClockChecks', WHERE WHAT IT READS IS OF BULK AT MOST 1048576: true; the input reads as it did. -/
def clockChecksUptoRow : OpenClaim := { program := "ytjbidpclpkjddaa", sum := "19c8b473580a5d3648b40fd63983e32dddc2b9ea293af18d842624062c910971", func := "wireless/wirelesslaw11.ClockChecks", spec := "clockChecks", unfollowed := true, recurses := true, apart := false, narrowed := true }
def ClockChecksUptoSaid : Prop := clockChecksUptoRow.holds Try.pinned (OpenSpec.upto clockChecksSpec)

/-- 'wirelesslaw11.ClockLocals', WHERE WHAT IT READS IS OF BULK AT MOST 1048576: true; the input reads as it did. -/
def clockLocalsUptoRow : OpenClaim := { program := "ytjbidpclpkjddaa", sum := "19c8b473580a5d3648b40fd63983e32dddc2b9ea293af18d842624062c910971", func := "wireless/wirelesslaw11.ClockLocals", spec := "clockLocals", unfollowed := true, recurses := true, apart := false, narrowed := true }
def ClockLocalsUptoSaid : Prop := clockLocalsUptoRow.holds Try.pinned (OpenSpec.upto clockLocalsSpec)

/-- 'wirelesslaw11.ClockReals', WHERE WHAT IT READS IS OF BULK AT MOST 1048576: true; the input reads as it did. -/
def clockRealsUptoRow : OpenClaim := { program := "ytjbidpclpkjddaa", sum := "19c8b473580a5d3648b40fd63983e32dddc2b9ea293af18d842624062c910971", func := "wireless/wirelesslaw11.ClockReals", spec := "clockReals", unfollowed := true, recurses := true, apart := false, narrowed := true }
def ClockRealsUptoSaid : Prop := clockRealsUptoRow.holds Try.pinned (OpenSpec.upto clockRealsSpec)

/-- 'wirelesslaw11.ClockWidenings', WHERE WHAT IT READS IS OF BULK AT MOST 1048576: true; the input reads as it did. -/
def clockWideningsUptoRow : OpenClaim := { program := "ytjbidpclpkjddaa", sum := "19c8b473580a5d3648b40fd63983e32dddc2b9ea293af18d842624062c910971", func := "wireless/wirelesslaw11.ClockWidenings", spec := "clockWidenings", unfollowed := true, recurses := true, apart := false, narrowed := true }
def ClockWideningsUptoSaid : Prop := clockWideningsUptoRow.holds Try.pinned (OpenSpec.upto clockWideningsSpec)

/-- 'wirelesslaw11.ClockOrder', WHERE WHAT IT READS IS OF BULK AT MOST 1048576: true; the input reads as it did. -/
def clockOrderUptoRow : OpenClaim := { program := "ytjbidpclpkjddaa", sum := "19c8b473580a5d3648b40fd63983e32dddc2b9ea293af18d842624062c910971", func := "wireless/wirelesslaw11.ClockOrder", spec := "clockOrder", unfollowed := true, recurses := true, apart := false, narrowed := true }
def ClockOrderUptoSaid : Prop := clockOrderUptoRow.holds Try.pinned (OpenSpec.upto clockOrderSpec)

/-- 'wirelesslaw11.ClockFirst', WHERE WHAT IT READS IS OF BULK AT MOST 1048576: true; the input reads as it did. -/
def clockFirstUptoRow : OpenClaim := { program := "ytjbidpclpkjddaa", sum := "19c8b473580a5d3648b40fd63983e32dddc2b9ea293af18d842624062c910971", func := "wireless/wirelesslaw11.ClockFirst", spec := "clockFirst", unfollowed := true, recurses := true, apart := false, narrowed := true }
def ClockFirstUptoSaid : Prop := clockFirstUptoRow.holds Try.pinned (OpenSpec.upto clockFirstSpec)

/-- 'wirelesslaw11.ClockWidens', WHERE WHAT IT READS IS OF BULK AT MOST 1048576: true; the input reads as it did. -/
def clockWidensUptoRow : OpenClaim := { program := "ytjbidpclpkjddaa", sum := "19c8b473580a5d3648b40fd63983e32dddc2b9ea293af18d842624062c910971", func := "wireless/wirelesslaw11.ClockWidens", spec := "clockWidens", unfollowed := true, recurses := true, apart := false, narrowed := true }
def ClockWidensUptoSaid : Prop := clockWidensUptoRow.holds Try.pinned (OpenSpec.upto clockWidensSpec)

end Rows
end Go.Proofs.Ytjbidpclpkjddaa
