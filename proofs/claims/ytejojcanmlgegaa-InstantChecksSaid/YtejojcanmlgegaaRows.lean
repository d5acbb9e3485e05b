/-
  No cell of these rows narrows 'for every input' (looked for: loops, veiled, ifaces, maps, wideKeys, modest, calm, conditions, laid).
  DERIVED. THE GIVEN ROWS OF THIS SEAT. 6 by the template 'for every input the law returns true; each argument reads behind the call as it read before'; 0 by the template 'total and deterministic' (their statements: YtejojcanmlgegaaTotals.lean).
  GIVEN WITH THE SEED: the statements are not yours to turn. If you find one false, say at which input.
  Laid BY PROGRAM, IN A SANDBOX (cutbox-rows.mjs): the forced cells as the released guide's own fill.sh prints them over the translation 8dc402a4a1279c16… (all of the seat's roots in one cut). By AI agents, Wed Nov 11 2026. No macro, syntax, notation, axiom, sorry.
-/
import Derived.Test.YtejojcanmlgegaaChecked
import GoSem.Claim
import GoSem.ClaimJoined
import GoSem.ClaimMapViews
import Derived.JoinedTies
import Derived.KernelRfl
namespace Go.Proofs.Ytejojcanmlgegaa
/- THE CELL 'sum', in the pinned program and in every row, IS THE sha256 OF THE DUMP (.gsa) THAT YtejojcanmlgegaaProg.lean LOADS. Nothing in Lean hashes anything: it is a label: what it is worth is what the hold of that sum in a sandbox is worth. -/
noncomputable def Try.pinned : Pinned := { name := "ytejojcanmlgegaa", sum := "8dc402a4a1279c16050b2b6652885ad1154f54985fdc17bc25ac2351ae1af8f6", checked := Try.checked }
namespace Rows
def none {H : Type} : Left H := { results := [], args := [] }

/-- 'wirelesslaw27.InstantPlans': WHATEVER THE INPUT: true; the input reads as it did. -/
def instantPlansSpec : ChangeSpec := { name := "instantPlans", fn := fun _ => fun
  | [d1, d2] => { results := [.lit (.bool true)], args := [d1, d2] }
  | _ => none }
def instantPlansRow : OpenClaim := { program := "ytejojcanmlgegaa", sum := "8dc402a4a1279c16050b2b6652885ad1154f54985fdc17bc25ac2351ae1af8f6", func := "wireless/wirelesslaw27.InstantPlans", spec := "instantPlans", apart := false }
def InstantPlansSaid : Prop := instantPlansRow.holds Try.pinned (OpenSpec.ofChange instantPlansSpec)

/-- ITS FALSE NEIGHBOUR: 'it returns false'. Refute it at one input. -/
def instantPlansWrong : ChangeSpec := { name := "instantPlans", fn := fun _ => fun
  | [d1, d2] => { results := [.lit (.bool false)], args := [d1, d2] }
  | _ => none }
def InstantPlansWrongFalsely : Prop := instantPlansRow.holds Try.pinned (OpenSpec.ofChange instantPlansWrong)

/-- 'wirelesslaw27.InstantChecks': WHATEVER THE INPUT: true; the input reads as it did. -/
def instantChecksSpec : ChangeSpec := { name := "instantChecks", fn := fun _ => fun
  | [d1, d2] => { results := [.lit (.bool true)], args := [d1, d2] }
  | _ => none }
def instantChecksRow : OpenClaim := { program := "ytejojcanmlgegaa", sum := "8dc402a4a1279c16050b2b6652885ad1154f54985fdc17bc25ac2351ae1af8f6", func := "wireless/wirelesslaw27.InstantChecks", spec := "instantChecks", apart := false }
def InstantChecksSaid : Prop := instantChecksRow.holds Try.pinned (OpenSpec.ofChange instantChecksSpec)

/-- ITS FALSE NEIGHBOUR: 'it returns false'. Refute it at one input. -/
def instantChecksWrong : ChangeSpec := { name := "instantChecks", fn := fun _ => fun
  | [d1, d2] => { results := [.lit (.bool false)], args := [d1, d2] }
  | _ => none }
def InstantChecksWrongFalsely : Prop := instantChecksRow.holds Try.pinned (OpenSpec.ofChange instantChecksWrong)

/-- 'wirelesslaw27.InstantAdds': WHATEVER THE INPUT: true; the input reads as it did. -/
def instantAddsSpec : ChangeSpec := { name := "instantAdds", fn := fun _ => fun
  | [d1, d2, d3] => { results := [.lit (.bool true)], args := [d1, d2, d3] }
  | _ => none }
def instantAddsRow : OpenClaim := { program := "ytejojcanmlgegaa", sum := "8dc402a4a1279c16050b2b6652885ad1154f54985fdc17bc25ac2351ae1af8f6", func := "wireless/wirelesslaw27.InstantAdds", spec := "instantAdds", apart := false }
def InstantAddsSaid : Prop := instantAddsRow.holds Try.pinned (OpenSpec.ofChange instantAddsSpec)

/-- ITS FALSE NEIGHBOUR: 'it returns false'. Refute it at one input. -/
def instantAddsWrong : ChangeSpec := { name := "instantAdds", fn := fun _ => fun
  | [d1, d2, d3] => { results := [.lit (.bool false)], args := [d1, d2, d3] }
  | _ => none }
def InstantAddsWrongFalsely : Prop := instantAddsRow.holds Try.pinned (OpenSpec.ofChange instantAddsWrong)

/-- 'wirelesslaw27.InstantDues': WHATEVER THE INPUT: true; the input reads as it did. -/
def instantDuesSpec : ChangeSpec := { name := "instantDues", fn := fun _ => fun
  | [d1, d2] => { results := [.lit (.bool true)], args := [d1, d2] }
  | _ => none }
def instantDuesRow : OpenClaim := { program := "ytejojcanmlgegaa", sum := "8dc402a4a1279c16050b2b6652885ad1154f54985fdc17bc25ac2351ae1af8f6", func := "wireless/wirelesslaw27.InstantDues", spec := "instantDues", apart := false }
def InstantDuesSaid : Prop := instantDuesRow.holds Try.pinned (OpenSpec.ofChange instantDuesSpec)

/-- ITS FALSE NEIGHBOUR: 'it returns false'. Refute it at one input. -/
def instantDuesWrong : ChangeSpec := { name := "instantDues", fn := fun _ => fun
  | [d1, d2] => { results := [.lit (.bool false)], args := [d1, d2] }
  | _ => none }
def InstantDuesWrongFalsely : Prop := instantDuesRow.holds Try.pinned (OpenSpec.ofChange instantDuesWrong)

/-- 'wirelesslaw27.InstantPlanned': WHATEVER THE INPUT: true; the input reads as it did. -/
def instantPlannedSpec : ChangeSpec := { name := "instantPlanned", fn := fun _ => fun
  | [d1, d2, d3] => { results := [.lit (.bool true)], args := [d1, d2, d3] }
  | _ => none }
def instantPlannedRow : OpenClaim := { program := "ytejojcanmlgegaa", sum := "8dc402a4a1279c16050b2b6652885ad1154f54985fdc17bc25ac2351ae1af8f6", func := "wireless/wirelesslaw27.InstantPlanned", spec := "instantPlanned", apart := false }
def InstantPlannedSaid : Prop := instantPlannedRow.holds Try.pinned (OpenSpec.ofChange instantPlannedSpec)

/-- ITS FALSE NEIGHBOUR: 'it returns false'. Refute it at one input. -/
def instantPlannedWrong : ChangeSpec := { name := "instantPlanned", fn := fun _ => fun
  | [d1, d2, d3] => { results := [.lit (.bool false)], args := [d1, d2, d3] }
  | _ => none }
def InstantPlannedWrongFalsely : Prop := instantPlannedRow.holds Try.pinned (OpenSpec.ofChange instantPlannedWrong)

/-- 'wirelesslaw27.InstantOnce': WHATEVER THE INPUT: true; the input reads as it did. -/
def instantOnceSpec : ChangeSpec := { name := "instantOnce", fn := fun _ => fun
  | [d1, d2] => { results := [.lit (.bool true)], args := [d1, d2] }
  | _ => none }
def instantOnceRow : OpenClaim := { program := "ytejojcanmlgegaa", sum := "8dc402a4a1279c16050b2b6652885ad1154f54985fdc17bc25ac2351ae1af8f6", func := "wireless/wirelesslaw27.InstantOnce", spec := "instantOnce", apart := false }
def InstantOnceSaid : Prop := instantOnceRow.holds Try.pinned (OpenSpec.ofChange instantOnceSpec)

/-- ITS FALSE NEIGHBOUR: 'it returns false'. Refute it at one input. -/
def instantOnceWrong : ChangeSpec := { name := "instantOnce", fn := fun _ => fun
  | [d1, d2] => { results := [.lit (.bool false)], args := [d1, d2] }
  | _ => none }
def InstantOnceWrongFalsely : Prop := instantOnceRow.holds Try.pinned (OpenSpec.ofChange instantOnceWrong)

/- THE SECOND FORM. 'bulk': how many values and letters a reading holds, each counted each time it is reached (what is shared counts as often as it is met; a slice's spare places count too). A statement '..UptoSaid' is the law's where the arguments, and the package variables that the reading takes, are together of bulk at most 1048576: NARROWER than '..Said'. Prove '..Said' where nothing that the law and all that it calls make is longer than what came in: it says more and counts as full. Else prove '..UptoSaid'. A law counts once. -/
mutual
def uptoBulk {H : Type} : DataW H → Nat
  | .lit (.string bytes) => bytes.length + 1
  | .lit _ => 1
  | .nil => 1
  | .ptr d => uptoBulk d + 1
  | .slice elems spare => uptoBulkAll elems + uptoBulkAll spare + 1
  | .agg parts => uptoBulkAll parts + 1
  | .iface _ d => uptoBulk d + 1
  | .map entries => uptoBulkEntries entries + 1
  | .held _ => 1
def uptoBulkAll {H : Type} : List (DataW H) → Nat
  | [] => 0
  | d :: r => uptoBulk d + uptoBulkAll r
def uptoBulkEntries {H : Type} : List (Lit × DataW H) → Nat
  | [] => 0
  | x :: r => uptoBulkEntry x + uptoBulkEntries r
def uptoBulkEntry {H : Type} : Lit × DataW H → Nat
  | (.string bytes, d) => bytes.length + uptoBulk d + 1
  | (_, d) => uptoBulk d + 1
 end
def uptoSmall : (H : Type) → List (DataW H) → Bool := fun _ ds => decide (uptoBulkAll ds ≤ 1048576)
def OpenSpec.upto (s : _root_.Go.ChangeSpec) : _root_.Go.OpenSpec := { _root_.Go.OpenSpec.ofChange s with cond := some uptoSmall }

/-- 'wirelesslaw27.InstantPlans', WHERE WHAT IT READS IS OF BULK AT MOST 1048576: true; the input reads as it did. -/
def instantPlansUptoRow : OpenClaim := { program := "ytejojcanmlgegaa", sum := "8dc402a4a1279c16050b2b6652885ad1154f54985fdc17bc25ac2351ae1af8f6", func := "wireless/wirelesslaw27.InstantPlans", spec := "instantPlans", apart := false, narrowed := true }
def InstantPlansUptoSaid : Prop := instantPlansUptoRow.holds Try.pinned (OpenSpec.upto instantPlansSpec)

/-- 'wirelesslaw27.InstantChecks', WHERE WHAT IT READS IS OF BULK AT MOST 1048576: true; the input reads as it did. -/
def instantChecksUptoRow : OpenClaim := { program := "ytejojcanmlgegaa", sum := "8dc402a4a1279c16050b2b6652885ad1154f54985fdc17bc25ac2351ae1af8f6", func := "wireless/wirelesslaw27.InstantChecks", spec := "instantChecks", apart := false, narrowed := true }
def InstantChecksUptoSaid : Prop := instantChecksUptoRow.holds Try.pinned (OpenSpec.upto instantChecksSpec)

/-- 'wirelesslaw27.InstantAdds', WHERE WHAT IT READS IS OF BULK AT MOST 1048576: true; the input reads as it did. -/
def instantAddsUptoRow : OpenClaim := { program := "ytejojcanmlgegaa", sum := "8dc402a4a1279c16050b2b6652885ad1154f54985fdc17bc25ac2351ae1af8f6", func := "wireless/wirelesslaw27.InstantAdds", spec := "instantAdds", apart := false, narrowed := true }
def InstantAddsUptoSaid : Prop := instantAddsUptoRow.holds Try.pinned (OpenSpec.upto instantAddsSpec)

/-- 'wirelesslaw27.InstantDues', WHERE WHAT IT READS IS OF BULK AT MOST 1048576: true; the input reads as it did. -/
def instantDuesUptoRow : OpenClaim := { program := "ytejojcanmlgegaa", sum := "8dc402a4a1279c16050b2b6652885ad1154f54985fdc17bc25ac2351ae1af8f6", func := "wireless/wirelesslaw27.InstantDues", spec := "instantDues", apart := false, narrowed := true }
def InstantDuesUptoSaid : Prop := instantDuesUptoRow.holds Try.pinned (OpenSpec.upto instantDuesSpec)

/-- 'wirelesslaw27.InstantPlanned', WHERE WHAT IT READS IS OF BULK AT MOST 1048576: true; the input reads as it did. -/
def instantPlannedUptoRow : OpenClaim := { program := "ytejojcanmlgegaa", sum := "8dc402a4a1279c16050b2b6652885ad1154f54985fdc17bc25ac2351ae1af8f6", func := "wireless/wirelesslaw27.InstantPlanned", spec := "instantPlanned", apart := false, narrowed := true }
def InstantPlannedUptoSaid : Prop := instantPlannedUptoRow.holds Try.pinned (OpenSpec.upto instantPlannedSpec)

/-- 'wirelesslaw27.InstantOnce', WHERE WHAT IT READS IS OF BULK AT MOST 1048576: true; the input reads as it did. -/
def instantOnceUptoRow : OpenClaim := { program := "ytejojcanmlgegaa", sum := "8dc402a4a1279c16050b2b6652885ad1154f54985fdc17bc25ac2351ae1af8f6", func := "wireless/wirelesslaw27.InstantOnce", spec := "instantOnce", apart := false, narrowed := true }
def InstantOnceUptoSaid : Prop := instantOnceUptoRow.holds Try.pinned (OpenSpec.upto instantOnceSpec)

end Rows
end Go.Proofs.Ytejojcanmlgegaa
