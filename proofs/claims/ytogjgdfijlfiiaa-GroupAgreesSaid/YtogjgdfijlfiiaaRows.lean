/-
  No cell of these rows narrows 'for every input' (looked for: loops, veiled, ifaces, maps, wideKeys, modest, calm, conditions, laid).
  DERIVED. THE GIVEN ROWS OF THIS SEAT. 7 by the template 'for every input the law returns true; each argument reads behind the call as it read before'; 0 by the template 'total and deterministic' (their statements: YtogjgdfijlfiiaaTotals.lean).
  GIVEN WITH THE SEED: the statements are not yours to turn. If you find one false, say at which input.
  Laid BY PROGRAM, IN A SANDBOX (cutbox-rows.mjs): the forced cells as the released guide's own fill.sh prints them over the translation 3602c4d0720bec77… (all of the seat's roots in one cut). By AI agents, Wed Nov 11 2026. No macro, syntax, notation, axiom, sorry.
-/
import Derived.Test.YtogjgdfijlfiiaaChecked
import GoSem.Claim
import GoSem.ClaimJoined
import GoSem.ClaimMapViews
import Derived.JoinedTies
import Derived.KernelRfl
namespace Go.Proofs.Ytogjgdfijlfiiaa
/- THE CELL 'sum', in the pinned program and in every row, IS THE sha256 OF THE DUMP (.gsa) THAT YtogjgdfijlfiiaaProg.lean LOADS. Nothing in Lean hashes anything: it is a label: what it is worth is what the hold of that sum in a sandbox is worth. -/
noncomputable def Try.pinned : Pinned := { name := "ytogjgdfijlfiiaa", sum := "3602c4d0720bec773218af1fa2b3365d9928bdfee4efc8b28f8d7faff69e04a8", checked := Try.checked }
namespace Rows
def none {H : Type} : Left H := { results := [], args := [] }

/-- 'wirelesslaw07.GroupPowers': WHATEVER THE INPUT: true; the input reads as it did. -/
def groupPowersSpec : ChangeSpec := { name := "groupPowers", fn := fun _ => fun
  | [d1, d2] => { results := [.lit (.bool true)], args := [d1, d2] }
  | _ => none }
def groupPowersRow : OpenClaim := { program := "ytogjgdfijlfiiaa", sum := "3602c4d0720bec773218af1fa2b3365d9928bdfee4efc8b28f8d7faff69e04a8", func := "wireless/wirelesslaw07.GroupPowers", spec := "groupPowers", apart := false }
def GroupPowersSaid : Prop := groupPowersRow.holds Try.pinned (OpenSpec.ofChange groupPowersSpec)

/-- ITS FALSE NEIGHBOUR: 'it returns false'. Refute it at one input. -/
def groupPowersWrong : ChangeSpec := { name := "groupPowers", fn := fun _ => fun
  | [d1, d2] => { results := [.lit (.bool false)], args := [d1, d2] }
  | _ => none }
def GroupPowersWrongFalsely : Prop := groupPowersRow.holds Try.pinned (OpenSpec.ofChange groupPowersWrong)

/-- 'wirelesslaw07.GroupKeys': WHATEVER THE INPUT: true; the input reads as it did. -/
def groupKeysSpec : ChangeSpec := { name := "groupKeys", fn := fun _ => fun
  | [d] => { results := [.lit (.bool true)], args := [d] }
  | _ => none }
def groupKeysRow : OpenClaim := { program := "ytogjgdfijlfiiaa", sum := "3602c4d0720bec773218af1fa2b3365d9928bdfee4efc8b28f8d7faff69e04a8", func := "wireless/wirelesslaw07.GroupKeys", spec := "groupKeys", apart := false }
def GroupKeysSaid : Prop := groupKeysRow.holds Try.pinned (OpenSpec.ofChange groupKeysSpec)

/-- ITS FALSE NEIGHBOUR: 'it returns false'. Refute it at one input. -/
def groupKeysWrong : ChangeSpec := { name := "groupKeys", fn := fun _ => fun
  | [d] => { results := [.lit (.bool false)], args := [d] }
  | _ => none }
def GroupKeysWrongFalsely : Prop := groupKeysRow.holds Try.pinned (OpenSpec.ofChange groupKeysWrong)

/-- 'wirelesslaw07.GroupShares': WHATEVER THE INPUT: true; the input reads as it did. -/
def groupSharesSpec : ChangeSpec := { name := "groupShares", fn := fun _ => fun
  | [d1, d2] => { results := [.lit (.bool true)], args := [d1, d2] }
  | _ => none }
def groupSharesRow : OpenClaim := { program := "ytogjgdfijlfiiaa", sum := "3602c4d0720bec773218af1fa2b3365d9928bdfee4efc8b28f8d7faff69e04a8", func := "wireless/wirelesslaw07.GroupShares", spec := "groupShares", apart := false }
def GroupSharesSaid : Prop := groupSharesRow.holds Try.pinned (OpenSpec.ofChange groupSharesSpec)

/-- ITS FALSE NEIGHBOUR: 'it returns false'. Refute it at one input. -/
def groupSharesWrong : ChangeSpec := { name := "groupShares", fn := fun _ => fun
  | [d1, d2] => { results := [.lit (.bool false)], args := [d1, d2] }
  | _ => none }
def GroupSharesWrongFalsely : Prop := groupSharesRow.holds Try.pinned (OpenSpec.ofChange groupSharesWrong)

/-- 'wirelesslaw07.GroupMultiplies': WHATEVER THE INPUT: true; the input reads as it did. -/
def groupMultipliesSpec : ChangeSpec := { name := "groupMultiplies", fn := fun _ => fun
  | [d1, d2, d3] => { results := [.lit (.bool true)], args := [d1, d2, d3] }
  | _ => none }
def groupMultipliesRow : OpenClaim := { program := "ytogjgdfijlfiiaa", sum := "3602c4d0720bec773218af1fa2b3365d9928bdfee4efc8b28f8d7faff69e04a8", func := "wireless/wirelesslaw07.GroupMultiplies", spec := "groupMultiplies", apart := false }
def GroupMultipliesSaid : Prop := groupMultipliesRow.holds Try.pinned (OpenSpec.ofChange groupMultipliesSpec)

/-- ITS FALSE NEIGHBOUR: 'it returns false'. Refute it at one input. -/
def groupMultipliesWrong : ChangeSpec := { name := "groupMultiplies", fn := fun _ => fun
  | [d1, d2, d3] => { results := [.lit (.bool false)], args := [d1, d2, d3] }
  | _ => none }
def GroupMultipliesWrongFalsely : Prop := groupMultipliesRow.holds Try.pinned (OpenSpec.ofChange groupMultipliesWrong)

/-- 'wirelesslaw07.GroupReduces': WHATEVER THE INPUT: true; the input reads as it did. -/
def groupReducesSpec : ChangeSpec := { name := "groupReduces", fn := fun _ => fun
  | [d1, d2] => { results := [.lit (.bool true)], args := [d1, d2] }
  | _ => none }
def groupReducesRow : OpenClaim := { program := "ytogjgdfijlfiiaa", sum := "3602c4d0720bec773218af1fa2b3365d9928bdfee4efc8b28f8d7faff69e04a8", func := "wireless/wirelesslaw07.GroupReduces", spec := "groupReduces", apart := false }
def GroupReducesSaid : Prop := groupReducesRow.holds Try.pinned (OpenSpec.ofChange groupReducesSpec)

/-- ITS FALSE NEIGHBOUR: 'it returns false'. Refute it at one input. -/
def groupReducesWrong : ChangeSpec := { name := "groupReduces", fn := fun _ => fun
  | [d1, d2] => { results := [.lit (.bool false)], args := [d1, d2] }
  | _ => none }
def GroupReducesWrongFalsely : Prop := groupReducesRow.holds Try.pinned (OpenSpec.ofChange groupReducesWrong)

/-- 'wirelesslaw07.GroupAgrees': WHATEVER THE INPUT: true; the input reads as it did. -/
def groupAgreesSpec : ChangeSpec := { name := "groupAgrees", fn := fun _ => fun
  | [d1, d2] => { results := [.lit (.bool true)], args := [d1, d2] }
  | _ => none }
def groupAgreesRow : OpenClaim := { program := "ytogjgdfijlfiiaa", sum := "3602c4d0720bec773218af1fa2b3365d9928bdfee4efc8b28f8d7faff69e04a8", func := "wireless/wirelesslaw07.GroupAgrees", spec := "groupAgrees", apart := false }
def GroupAgreesSaid : Prop := groupAgreesRow.holds Try.pinned (OpenSpec.ofChange groupAgreesSpec)

/-- ITS FALSE NEIGHBOUR: 'it returns false'. Refute it at one input. -/
def groupAgreesWrong : ChangeSpec := { name := "groupAgrees", fn := fun _ => fun
  | [d1, d2] => { results := [.lit (.bool false)], args := [d1, d2] }
  | _ => none }
def GroupAgreesWrongFalsely : Prop := groupAgreesRow.holds Try.pinned (OpenSpec.ofChange groupAgreesWrong)

/-- 'wirelesslaw07.GroupAgreesSecrets': WHATEVER THE INPUT: true; the input reads as it did. -/
def groupAgreesSecretsSpec : ChangeSpec := { name := "groupAgreesSecrets", fn := fun _ => fun
  | [d1, d2] => { results := [.lit (.bool true)], args := [d1, d2] }
  | _ => none }
def groupAgreesSecretsRow : OpenClaim := { program := "ytogjgdfijlfiiaa", sum := "3602c4d0720bec773218af1fa2b3365d9928bdfee4efc8b28f8d7faff69e04a8", func := "wireless/wirelesslaw07.GroupAgreesSecrets", spec := "groupAgreesSecrets", apart := false }
def GroupAgreesSecretsSaid : Prop := groupAgreesSecretsRow.holds Try.pinned (OpenSpec.ofChange groupAgreesSecretsSpec)

/-- ITS FALSE NEIGHBOUR: 'it returns false'. Refute it at one input. -/
def groupAgreesSecretsWrong : ChangeSpec := { name := "groupAgreesSecrets", fn := fun _ => fun
  | [d1, d2] => { results := [.lit (.bool false)], args := [d1, d2] }
  | _ => none }
def GroupAgreesSecretsWrongFalsely : Prop := groupAgreesSecretsRow.holds Try.pinned (OpenSpec.ofChange groupAgreesSecretsWrong)

/- THE SECOND FORM. 'bulk': how many values and letters a reading holds, each counted each time it is reached (what is shared counts as often as it is met; a slice's spare places count too). A statement '..UptoSaid' is the law's where the arguments, and the package variables that the reading takes, are together of bulk at most 1048576: NARROWER than '..Said'. Prove '..Said' where nothing that the law and all that it calls make is longer than what came in: it says more and counts as full. Else prove '..UptoSaid'. A law counts once. -/
mutual
def uptoBulk {H : Type} : DataW H → Nat
  | .lit (.string bytes) => bytes.length + 1
  | .lit _ => 1
  | .nil => 1
  | .ptr d => uptoBulk d + 1
  | .slice elems spare => uptoBulkAll elems + uptoBulkAll spare + 1
  | .agg parts => uptoBulkAll parts + 1
  | .iface _ d => uptoBulk d + 1
  | .map entries => uptoBulkEntries entries + 1
  | .held _ => 1
def uptoBulkAll {H : Type} : List (DataW H) → Nat
  | [] => 0
  | d :: r => uptoBulk d + uptoBulkAll r
def uptoBulkEntries {H : Type} : List (Lit × DataW H) → Nat
  | [] => 0
  | x :: r => uptoBulkEntry x + uptoBulkEntries r
def uptoBulkEntry {H : Type} : Lit × DataW H → Nat
  | (.string bytes, d) => bytes.length + uptoBulk d + 1
  | (_, d) => uptoBulk d + 1
 end
def uptoSmall : (H : Type) → List (DataW H) → Bool := fun _ ds => decide (uptoBulkAll ds ≤ 1048576)
def OpenSpec.upto (s : _root_.Go.ChangeSpec) : _root_.Go.OpenSpec := { _root_.Go.OpenSpec.ofChange s with cond := some uptoSmall }

/-- 'wirelesslaw07.GroupPowers', WHERE WHAT IT READS IS OF BULK AT MOST 1048576: true; the input reads as it did. -/
def groupPowersUptoRow : OpenClaim := { program := "ytogjgdfijlfiiaa", sum := "3602c4d0720bec773218af1fa2b3365d9928bdfee4efc8b28f8d7faff69e04a8", func := "wireless/wirelesslaw07.GroupPowers", spec := "groupPowers", apart := false, narrowed := true }
def GroupPowersUptoSaid : Prop := groupPowersUptoRow.holds Try.pinned (OpenSpec.upto groupPowersSpec)

/-- 'wirelesslaw07.GroupKeys', WHERE WHAT IT READS IS OF BULK AT MOST 1048576: true; the input reads as it did. -/
def groupKeysUptoRow : OpenClaim := { program := "ytogjgdfijlfiiaa", sum := "3602c4d0720bec773218af1fa2b3365d9928bdfee4efc8b28f8d7faff69e04a8", func := "wireless/wirelesslaw07.GroupKeys", spec := "groupKeys", apart := false, narrowed := true }
def GroupKeysUptoSaid : Prop := groupKeysUptoRow.holds Try.pinned (OpenSpec.upto groupKeysSpec)

/-- 'wirelesslaw07.GroupShares', WHERE WHAT IT READS IS OF BULK AT MOST 1048576: true; the input reads as it did. -/
def groupSharesUptoRow : OpenClaim := { program := "ytogjgdfijlfiiaa", sum := "3602c4d0720bec773218af1fa2b3365d9928bdfee4efc8b28f8d7faff69e04a8", func := "wireless/wirelesslaw07.GroupShares", spec := "groupShares", apart := false, narrowed := true }
def GroupSharesUptoSaid : Prop := groupSharesUptoRow.holds Try.pinned (OpenSpec.upto groupSharesSpec)

/-- 'wirelesslaw07.GroupMultiplies', WHERE WHAT IT READS IS OF BULK AT MOST 1048576: true; the input reads as it did. -/
def groupMultipliesUptoRow : OpenClaim := { program := "ytogjgdfijlfiiaa", sum := "3602c4d0720bec773218af1fa2b3365d9928bdfee4efc8b28f8d7faff69e04a8", func := "wireless/wirelesslaw07.GroupMultiplies", spec := "groupMultiplies", apart := false, narrowed := true }
def GroupMultipliesUptoSaid : Prop := groupMultipliesUptoRow.holds Try.pinned (OpenSpec.upto groupMultipliesSpec)

/-- 'wirelesslaw07.GroupReduces', WHERE WHAT IT READS IS OF BULK AT MOST 1048576: true; the input reads as it did. -/
def groupReducesUptoRow : OpenClaim := { program := "ytogjgdfijlfiiaa", sum := "3602c4d0720bec773218af1fa2b3365d9928bdfee4efc8b28f8d7faff69e04a8", func := "wireless/wirelesslaw07.GroupReduces", spec := "groupReduces", apart := false, narrowed := true }
def GroupReducesUptoSaid : Prop := groupReducesUptoRow.holds Try.pinned (OpenSpec.upto groupReducesSpec)

/-- 'wirelesslaw07.GroupAgrees', WHERE WHAT IT READS IS OF BULK AT MOST 1048576: true; the input reads as it did. -/
def groupAgreesUptoRow : OpenClaim := { program := "ytogjgdfijlfiiaa", sum := "3602c4d0720bec773218af1fa2b3365d9928bdfee4efc8b28f8d7faff69e04a8", func := "wireless/wirelesslaw07.GroupAgrees", spec := "groupAgrees", apart := false, narrowed := true }
def GroupAgreesUptoSaid : Prop := groupAgreesUptoRow.holds Try.pinned (OpenSpec.upto groupAgreesSpec)

/-- 'wirelesslaw07.GroupAgreesSecrets', WHERE WHAT IT READS IS OF BULK AT MOST 1048576: true; the input reads as it did. -/
def groupAgreesSecretsUptoRow : OpenClaim := { program := "ytogjgdfijlfiiaa", sum := "3602c4d0720bec773218af1fa2b3365d9928bdfee4efc8b28f8d7faff69e04a8", func := "wireless/wirelesslaw07.GroupAgreesSecrets", spec := "groupAgreesSecrets", apart := false, narrowed := true }
def GroupAgreesSecretsUptoSaid : Prop := groupAgreesSecretsUptoRow.holds Try.pinned (OpenSpec.upto groupAgreesSecretsSpec)

end Rows
end Go.Proofs.Ytogjgdfijlfiiaa
