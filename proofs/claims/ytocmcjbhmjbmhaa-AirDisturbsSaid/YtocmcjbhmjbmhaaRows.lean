/-
  No cell of these rows narrows 'for every input' (looked for: loops, veiled, ifaces, maps, wideKeys, modest, calm, conditions, laid).
  DERIVED. THE GIVEN ROWS OF THIS SEAT. 7 by the template 'for every input the law returns true; each argument reads behind the call as it read before'; 0 by the template 'total and deterministic' (their statements: YtocmcjbhmjbmhaaTotals.lean).
  GIVEN WITH THE SEED: the statements are not yours to turn. If you find one false, say at which input.
  Laid BY PROGRAM, IN A SANDBOX (cutbox-rows.mjs): the forced cells as the released guide's own fill.sh prints them over the translation 15cf3ead53a668a2… (all of the seat's roots in one cut). By AI agents, Wed Nov 11 2026. No macro, syntax, notation, axiom, sorry.
-/
import Derived.Test.YtocmcjbhmjbmhaaChecked
import GoSem.Claim
import GoSem.ClaimJoined
import GoSem.ClaimMapViews
import Derived.JoinedTies
import Derived.KernelRfl
namespace Go.Proofs.Ytocmcjbhmjbmhaa
/- THE CELL 'sum', in the pinned program and in every row, IS THE sha256 OF THE DUMP (.gsa) THAT YtocmcjbhmjbmhaaProg.lean LOADS. Nothing in Lean hashes anything: it is a label: what it is worth is what the hold of that sum in a sandbox is worth. -/
noncomputable def Try.pinned : Pinned := { name := "ytocmcjbhmjbmhaa", sum := "15cf3ead53a668a2984cc97c3c3daa90676b4665bbe80ad203bc1f821786c043", checked := Try.checked }
namespace Rows
def none {H : Type} : Left H := { results := [], args := [] }

/-- 'wirelesslaw15.AirTimes': WHATEVER THE INPUT: true; the input reads as it did. -/
def airTimesSpec : ChangeSpec := { name := "airTimes", fn := fun _ => fun
  | [d1, d2, d3] => { results := [.lit (.bool true)], args := [d1, d2, d3] }
  | _ => none }
def airTimesRow : OpenClaim := { program := "ytocmcjbhmjbmhaa", sum := "15cf3ead53a668a2984cc97c3c3daa90676b4665bbe80ad203bc1f821786c043", func := "wireless/wirelesslaw15.AirTimes", spec := "airTimes", unfollowed := true, recurses := true, apart := false }
def AirTimesSaid : Prop := airTimesRow.holds Try.pinned (OpenSpec.ofChange airTimesSpec)

/-- ITS FALSE NEIGHBOUR: 'it returns false'. Refute it at one input. -/
def airTimesWrong : ChangeSpec := { name := "airTimes", fn := fun _ => fun
  | [d1, d2, d3] => { results := [.lit (.bool false)], args := [d1, d2, d3] }
  | _ => none }
def AirTimesWrongFalsely : Prop := airTimesRow.holds Try.pinned (OpenSpec.ofChange airTimesWrong)

/-- 'wirelesslaw15.AirChecks': WHATEVER THE INPUT: true; the input reads as it did. -/
def airChecksSpec : ChangeSpec := { name := "airChecks", fn := fun _ => fun
  | [d1, d2, d3, d4] => { results := [.lit (.bool true)], args := [d1, d2, d3, d4] }
  | _ => none }
def airChecksRow : OpenClaim := { program := "ytocmcjbhmjbmhaa", sum := "15cf3ead53a668a2984cc97c3c3daa90676b4665bbe80ad203bc1f821786c043", func := "wireless/wirelesslaw15.AirChecks", spec := "airChecks", unfollowed := true, recurses := true, apart := false }
def AirChecksSaid : Prop := airChecksRow.holds Try.pinned (OpenSpec.ofChange airChecksSpec)

/-- ITS FALSE NEIGHBOUR: 'it returns false'. Refute it at one input. -/
def airChecksWrong : ChangeSpec := { name := "airChecks", fn := fun _ => fun
  | [d1, d2, d3, d4] => { results := [.lit (.bool false)], args := [d1, d2, d3, d4] }
  | _ => none }
def AirChecksWrongFalsely : Prop := airChecksRow.holds Try.pinned (OpenSpec.ofChange airChecksWrong)

/-- 'wirelesslaw15.AirDisturbs': WHATEVER THE INPUT: true; the input reads as it did. -/
def airDisturbsSpec : ChangeSpec := { name := "airDisturbs", fn := fun _ => fun
  | [d1, d2] => { results := [.lit (.bool true)], args := [d1, d2] }
  | _ => none }
def airDisturbsRow : OpenClaim := { program := "ytocmcjbhmjbmhaa", sum := "15cf3ead53a668a2984cc97c3c3daa90676b4665bbe80ad203bc1f821786c043", func := "wireless/wirelesslaw15.AirDisturbs", spec := "airDisturbs", unfollowed := true, recurses := true, apart := false }
def AirDisturbsSaid : Prop := airDisturbsRow.holds Try.pinned (OpenSpec.ofChange airDisturbsSpec)

/-- ITS FALSE NEIGHBOUR: 'it returns false'. Refute it at one input. -/
def airDisturbsWrong : ChangeSpec := { name := "airDisturbs", fn := fun _ => fun
  | [d1, d2] => { results := [.lit (.bool false)], args := [d1, d2] }
  | _ => none }
def AirDisturbsWrongFalsely : Prop := airDisturbsRow.holds Try.pinned (OpenSpec.ofChange airDisturbsWrong)

/-- 'wirelesslaw15.AirHears': WHATEVER THE INPUT: true; the input reads as it did. -/
def airHearsSpec : ChangeSpec := { name := "airHears", fn := fun _ => fun
  | [d1, d2, d3] => { results := [.lit (.bool true)], args := [d1, d2, d3] }
  | _ => none }
def airHearsRow : OpenClaim := { program := "ytocmcjbhmjbmhaa", sum := "15cf3ead53a668a2984cc97c3c3daa90676b4665bbe80ad203bc1f821786c043", func := "wireless/wirelesslaw15.AirHears", spec := "airHears", unfollowed := true, recurses := true, apart := false }
def AirHearsSaid : Prop := airHearsRow.holds Try.pinned (OpenSpec.ofChange airHearsSpec)

/-- ITS FALSE NEIGHBOUR: 'it returns false'. Refute it at one input. -/
def airHearsWrong : ChangeSpec := { name := "airHears", fn := fun _ => fun
  | [d1, d2, d3] => { results := [.lit (.bool false)], args := [d1, d2, d3] }
  | _ => none }
def AirHearsWrongFalsely : Prop := airHearsRow.holds Try.pinned (OpenSpec.ofChange airHearsWrong)

/-- 'wirelesslaw15.AirUndisturbed': WHATEVER THE INPUT: true; the input reads as it did. -/
def airUndisturbedSpec : ChangeSpec := { name := "airUndisturbed", fn := fun _ => fun
  | [d1, d2, d3] => { results := [.lit (.bool true)], args := [d1, d2, d3] }
  | _ => none }
def airUndisturbedRow : OpenClaim := { program := "ytocmcjbhmjbmhaa", sum := "15cf3ead53a668a2984cc97c3c3daa90676b4665bbe80ad203bc1f821786c043", func := "wireless/wirelesslaw15.AirUndisturbed", spec := "airUndisturbed", unfollowed := true, recurses := true, apart := false }
def AirUndisturbedSaid : Prop := airUndisturbedRow.holds Try.pinned (OpenSpec.ofChange airUndisturbedSpec)

/-- ITS FALSE NEIGHBOUR: 'it returns false'. Refute it at one input. -/
def airUndisturbedWrong : ChangeSpec := { name := "airUndisturbed", fn := fun _ => fun
  | [d1, d2, d3] => { results := [.lit (.bool false)], args := [d1, d2, d3] }
  | _ => none }
def AirUndisturbedWrongFalsely : Prop := airUndisturbedRow.holds Try.pinned (OpenSpec.ofChange airUndisturbedWrong)

/-- 'wirelesslaw15.AirCollides': WHATEVER THE INPUT: true; the input reads as it did. -/
def airCollidesSpec : ChangeSpec := { name := "airCollides", fn := fun _ => fun
  | [d1, d2] => { results := [.lit (.bool true)], args := [d1, d2] }
  | _ => none }
def airCollidesRow : OpenClaim := { program := "ytocmcjbhmjbmhaa", sum := "15cf3ead53a668a2984cc97c3c3daa90676b4665bbe80ad203bc1f821786c043", func := "wireless/wirelesslaw15.AirCollides", spec := "airCollides", unfollowed := true, recurses := true, apart := false }
def AirCollidesSaid : Prop := airCollidesRow.holds Try.pinned (OpenSpec.ofChange airCollidesSpec)

/-- ITS FALSE NEIGHBOUR: 'it returns false'. Refute it at one input. -/
def airCollidesWrong : ChangeSpec := { name := "airCollides", fn := fun _ => fun
  | [d1, d2] => { results := [.lit (.bool false)], args := [d1, d2] }
  | _ => none }
def AirCollidesWrongFalsely : Prop := airCollidesRow.holds Try.pinned (OpenSpec.ofChange airCollidesWrong)

/-- 'wirelesslaw15.AirApart': WHATEVER THE INPUT: true; the input reads as it did. -/
def airApartSpec : ChangeSpec := { name := "airApart", fn := fun _ => fun
  | [d1, d2, d3, d4] => { results := [.lit (.bool true)], args := [d1, d2, d3, d4] }
  | _ => none }
def airApartRow : OpenClaim := { program := "ytocmcjbhmjbmhaa", sum := "15cf3ead53a668a2984cc97c3c3daa90676b4665bbe80ad203bc1f821786c043", func := "wireless/wirelesslaw15.AirApart", spec := "airApart", unfollowed := true, recurses := true, apart := false }
def AirApartSaid : Prop := airApartRow.holds Try.pinned (OpenSpec.ofChange airApartSpec)

/-- ITS FALSE NEIGHBOUR: 'it returns false'. Refute it at one input. -/
def airApartWrong : ChangeSpec := { name := "airApart", fn := fun _ => fun
  | [d1, d2, d3, d4] => { results := [.lit (.bool false)], args := [d1, d2, d3, d4] }
  | _ => none }
def AirApartWrongFalsely : Prop := airApartRow.holds Try.pinned (OpenSpec.ofChange airApartWrong)

/- THE SECOND FORM. 'bulk': how many values and letters a reading holds, each counted each time it is reached (what is shared counts as often as it is met; a slice's spare places count too). A statement '..UptoSaid' is the law's where the arguments, and the package variables that the reading takes, are together of bulk at most 1048576: NARROWER than '..Said'. Prove '..Said' where nothing that the law and all that it calls make is longer than what came in: it says more and counts as full. Else prove '..UptoSaid'. A law counts once. -/
mutual
def uptoBulk {H : Type} : DataW H → Nat
  | .lit (.string bytes) => bytes.length + 1
  | .lit _ => 1
  | .nil => 1
  | .ptr d => uptoBulk d + 1
  | .slice elems spare => uptoBulkAll elems + uptoBulkAll spare + 1
  | .agg parts => uptoBulkAll parts + 1
  | .iface _ d => uptoBulk d + 1
  | .map entries => uptoBulkEntries entries + 1
  | .held _ => 1
def uptoBulkAll {H : Type} : List (DataW H) → Nat
  | [] => 0
  | d :: r => uptoBulk d + uptoBulkAll r
def uptoBulkEntries {H : Type} : List (Lit × DataW H) → Nat
  | [] => 0
  | x :: r => uptoBulkEntry x + uptoBulkEntries r
def uptoBulkEntry {H : Type} : Lit × DataW H → Nat
  | (.string bytes, d) => bytes.length + uptoBulk d + 1
  | (_, d) => uptoBulk d + 1
 end
def uptoSmall : (H : Type) → List (DataW H) → Bool := fun _ ds => decide (uptoBulkAll ds ≤ 1048576)
def OpenSpec.upto (s : _root_.Go.ChangeSpec) : _root_.Go.OpenSpec := { _root_.Go.OpenSpec.ofChange s with cond := some uptoSmall }

/-- 'wirelesslaw15.AirTimes', WHERE WHAT IT READS IS OF BULK AT MOST 1048576: true; the input reads as it did. -/
def airTimesUptoRow : OpenClaim := { program := "ytocmcjbhmjbmhaa", sum := "15cf3ead53a668a2984cc97c3c3daa90676b4665bbe80ad203bc1f821786c043", func := "wireless/wirelesslaw15.AirTimes", spec := "airTimes", unfollowed := true, recurses := true, apart := false, narrowed := true }
def AirTimesUptoSaid : Prop := airTimesUptoRow.holds Try.pinned (OpenSpec.upto airTimesSpec)

/-- 'wirelesslaw15.AirChecks', WHERE WHAT IT READS IS OF BULK AT MOST 1048576: true; the input reads as it did. -/
def airChecksUptoRow : OpenClaim := { program := "ytocmcjbhmjbmhaa", sum := "15cf3ead53a668a2984cc97c3c3daa90676b4665bbe80ad203bc1f821786c043", func := "wireless/wirelesslaw15.AirChecks", spec := "airChecks", unfollowed := true, recurses := true, apart := false, narrowed := true }
def AirChecksUptoSaid : Prop := airChecksUptoRow.holds Try.pinned (OpenSpec.upto airChecksSpec)

/-- 'wirelesslaw15.AirDisturbs', WHERE WHAT IT READS IS OF BULK AT MOST 1048576: true; the input reads as it did. -/
def airDisturbsUptoRow : OpenClaim := { program := "ytocmcjbhmjbmhaa", sum := "15cf3ead53a668a2984cc97c3c3daa90676b4665bbe80ad203bc1f821786c043", func := "wireless/wirelesslaw15.AirDisturbs", spec := "airDisturbs", unfollowed := true, recurses := true, apart := false, narrowed := true }
def AirDisturbsUptoSaid : Prop := airDisturbsUptoRow.holds Try.pinned (OpenSpec.upto airDisturbsSpec)

/-- 'wirelesslaw15.AirHears', WHERE WHAT IT READS IS OF BULK AT MOST 1048576: true; the input reads as it did. -/
def airHearsUptoRow : OpenClaim := { program := "ytocmcjbhmjbmhaa", sum := "15cf3ead53a668a2984cc97c3c3daa90676b4665bbe80ad203bc1f821786c043", func := "wireless/wirelesslaw15.AirHears", spec := "airHears", unfollowed := true, recurses := true, apart := false, narrowed := true }
def AirHearsUptoSaid : Prop := airHearsUptoRow.holds Try.pinned (OpenSpec.upto airHearsSpec)

/-- 'wirelesslaw15.AirUndisturbed', WHERE WHAT IT READS IS OF BULK AT MOST 1048576: true; the input reads as it did. -/
def airUndisturbedUptoRow : OpenClaim := { program := "ytocmcjbhmjbmhaa", sum := "15cf3ead53a668a2984cc97c3c3daa90676b4665bbe80ad203bc1f821786c043", func := "wireless/wirelesslaw15.AirUndisturbed", spec := "airUndisturbed", unfollowed := true, recurses := true, apart := false, narrowed := true }
def AirUndisturbedUptoSaid : Prop := airUndisturbedUptoRow.holds Try.pinned (OpenSpec.upto airUndisturbedSpec)

/-- 'wirelesslaw15.AirCollides', WHERE WHAT IT READS IS OF BULK AT MOST 1048576: true; the input reads as it did. -/
def airCollidesUptoRow : OpenClaim := { program := "ytocmcjbhmjbmhaa", sum := "15cf3ead53a668a2984cc97c3c3daa90676b4665bbe80ad203bc1f821786c043", func := "wireless/wirelesslaw15.AirCollides", spec := "airCollides", unfollowed := true, recurses := true, apart := false, narrowed := true }
def AirCollidesUptoSaid : Prop := airCollidesUptoRow.holds Try.pinned (OpenSpec.upto airCollidesSpec)

/-- 'wirelesslaw15.AirApart', WHERE WHAT IT READS IS OF BULK AT MOST 1048576: true; the input reads as it did. -/
def airApartUptoRow : OpenClaim := { program := "ytocmcjbhmjbmhaa", sum := "15cf3ead53a668a2984cc97c3c3daa90676b4665bbe80ad203bc1f821786c043", func := "wireless/wirelesslaw15.AirApart", spec := "airApart", unfollowed := true, recurses := true, apart := false, narrowed := true }
def AirApartUptoSaid : Prop := airApartUptoRow.holds Try.pinned (OpenSpec.upto airApartSpec)

end Rows
end Go.Proofs.Ytocmcjbhmjbmhaa
