/-
  NARROWER THAN 'FOR EVERY INPUT', by the rows' own cells (each row's printed sentence says how): AcceptAdds: laid · AcceptRemoves: laid · AcceptHas: laid · AcceptAllows: laid · AcceptLists: laid · AcceptPolicies: laid.
  DERIVED. THE GIVEN ROWS OF THIS SEAT. 6 by the template 'for every input the law returns true; each argument reads behind the call as it read before'; 0 by the template 'total and deterministic' (their statements: YtegmknmbgifmjaaDoorTotals.lean).
  GIVEN WITH THE SEED: the statements are not yours to turn. If you find one false, say at which input.
  Laid BY PROGRAM, IN A SANDBOX (cutbox-rows.mjs): the forced cells as the released guide's own fill.sh prints them over the translation 5349680cf8a77749… (all of the seat's roots in one cut). By AI agents, Wed Nov 11 2026. No macro, syntax, notation, axiom, sorry.
-/
import Derived.Test.YtegmknmbgifmjaaDoorChecked
import GoSem.Claim
import GoSem.ClaimJoined
import GoSem.ClaimMapViews
import Derived.JoinedTies
import Derived.KernelRfl
namespace Go.Proofs.YtegmknmbgifmjaaDoor
/- THE CELL 'sum', in the pinned program and in every row, IS THE sha256 OF THE DUMP (.gsa) THAT YtegmknmbgifmjaaDoorProg.lean LOADS. Nothing in Lean hashes anything: it is a label: what it is worth is what the hold of that sum in a sandbox is worth. -/
noncomputable def Tryd.pinned : Pinned := { name := "ytegmknmbgifmjaadoor", sum := "5349680cf8a7774947c04bcb0d602826635900aa3197a40d5355c722acd4656b", checked := Tryd.checked }
namespace Rows
def none {H : Type} : Left H := { results := [], args := [] }

/- WHAT THE LISTED PACKAGE-LEVEL VARIABLES READ AS WHEN THE CALL BEGINS. Each datum BY PROGRAM (the guide's laid-datum.mjs) off the statement by which the dump's own 'gosem.cut.vars' lays the variable. In a bare row this is a premise. The card (YtegmknmbgifmjaaDoorCards.lean) ties it to the program's text. -/
def laid_wireless_address_prefixes {H : Type} : DataW H := .agg [.lit (.int .u64 0), .lit (.int .u64 0), .lit (.int .u64 3), .lit (.int .u64 1), .lit (.int .u64 0)]
def laid_wireless_address_randomAt {H : Type} : DataW H := .agg [.lit (.int .i64 0), .lit (.int .i64 0), .lit (.int .i64 0), .lit (.int .i64 24), .lit (.int .i64 0)]

/-- 'wirelesslaw20.AcceptAdds': WHATEVER THE INPUT: true; the input reads as it did. -/
def acceptAddsSpec : ChangeSpec := { name := "acceptAdds", fn := fun _ => fun
  | [d1, d2] => { results := [.lit (.bool true)], args := [d1, d2] }
  | _ => none }
def acceptAddsRow : OpenClaim := { program := "ytegmknmbgifmjaadoor", sum := "5349680cf8a7774947c04bcb0d602826635900aa3197a40d5355c722acd4656b", func := "wireless/wirelesslaw20.AcceptAdds", spec := "acceptAdds", unfollowed := true, recurses := true, named := ["wireless/address.randomAt", "wireless/address.prefixes"], apart := false, laid := [("wireless/address.prefixes", laid_wireless_address_prefixes), ("wireless/address.randomAt", laid_wireless_address_randomAt)] }
def AcceptAddsSaid : Prop := acceptAddsRow.holds Tryd.pinned (OpenSpec.ofChange acceptAddsSpec)

/-- ITS FALSE NEIGHBOUR: 'it returns false'. Refute it at one input. -/
def acceptAddsWrong : ChangeSpec := { name := "acceptAdds", fn := fun _ => fun
  | [d1, d2] => { results := [.lit (.bool false)], args := [d1, d2] }
  | _ => none }
def AcceptAddsWrongFalsely : Prop := acceptAddsRow.holds Tryd.pinned (OpenSpec.ofChange acceptAddsWrong)

/-- 'wirelesslaw20.AcceptRemoves': WHATEVER THE INPUT: true; the input reads as it did. -/
def acceptRemovesSpec : ChangeSpec := { name := "acceptRemoves", fn := fun _ => fun
  | [d1, d2] => { results := [.lit (.bool true)], args := [d1, d2] }
  | _ => none }
def acceptRemovesRow : OpenClaim := { program := "ytegmknmbgifmjaadoor", sum := "5349680cf8a7774947c04bcb0d602826635900aa3197a40d5355c722acd4656b", func := "wireless/wirelesslaw20.AcceptRemoves", spec := "acceptRemoves", unfollowed := true, recurses := true, named := ["wireless/address.randomAt", "wireless/address.prefixes"], apart := false, laid := [("wireless/address.prefixes", laid_wireless_address_prefixes), ("wireless/address.randomAt", laid_wireless_address_randomAt)] }
def AcceptRemovesSaid : Prop := acceptRemovesRow.holds Tryd.pinned (OpenSpec.ofChange acceptRemovesSpec)

/-- ITS FALSE NEIGHBOUR: 'it returns false'. Refute it at one input. -/
def acceptRemovesWrong : ChangeSpec := { name := "acceptRemoves", fn := fun _ => fun
  | [d1, d2] => { results := [.lit (.bool false)], args := [d1, d2] }
  | _ => none }
def AcceptRemovesWrongFalsely : Prop := acceptRemovesRow.holds Tryd.pinned (OpenSpec.ofChange acceptRemovesWrong)

/-- 'wirelesslaw20.AcceptHas': WHATEVER THE INPUT: true; the input reads as it did. -/
def acceptHasSpec : ChangeSpec := { name := "acceptHas", fn := fun _ => fun
  | [d1, d2, d3] => { results := [.lit (.bool true)], args := [d1, d2, d3] }
  | _ => none }
def acceptHasRow : OpenClaim := { program := "ytegmknmbgifmjaadoor", sum := "5349680cf8a7774947c04bcb0d602826635900aa3197a40d5355c722acd4656b", func := "wireless/wirelesslaw20.AcceptHas", spec := "acceptHas", unfollowed := true, recurses := true, named := ["wireless/address.randomAt", "wireless/address.prefixes"], apart := false, laid := [("wireless/address.prefixes", laid_wireless_address_prefixes), ("wireless/address.randomAt", laid_wireless_address_randomAt)] }
def AcceptHasSaid : Prop := acceptHasRow.holds Tryd.pinned (OpenSpec.ofChange acceptHasSpec)

/-- ITS FALSE NEIGHBOUR: 'it returns false'. Refute it at one input. -/
def acceptHasWrong : ChangeSpec := { name := "acceptHas", fn := fun _ => fun
  | [d1, d2, d3] => { results := [.lit (.bool false)], args := [d1, d2, d3] }
  | _ => none }
def AcceptHasWrongFalsely : Prop := acceptHasRow.holds Tryd.pinned (OpenSpec.ofChange acceptHasWrong)

/-- 'wirelesslaw20.AcceptAllows': WHATEVER THE INPUT: true; the input reads as it did. -/
def acceptAllowsSpec : ChangeSpec := { name := "acceptAllows", fn := fun _ => fun
  | [d1, d2, d3] => { results := [.lit (.bool true)], args := [d1, d2, d3] }
  | _ => none }
def acceptAllowsRow : OpenClaim := { program := "ytegmknmbgifmjaadoor", sum := "5349680cf8a7774947c04bcb0d602826635900aa3197a40d5355c722acd4656b", func := "wireless/wirelesslaw20.AcceptAllows", spec := "acceptAllows", unfollowed := true, recurses := true, named := ["wireless/address.randomAt", "wireless/address.prefixes"], apart := false, laid := [("wireless/address.prefixes", laid_wireless_address_prefixes), ("wireless/address.randomAt", laid_wireless_address_randomAt)] }
def AcceptAllowsSaid : Prop := acceptAllowsRow.holds Tryd.pinned (OpenSpec.ofChange acceptAllowsSpec)

/-- ITS FALSE NEIGHBOUR: 'it returns false'. Refute it at one input. -/
def acceptAllowsWrong : ChangeSpec := { name := "acceptAllows", fn := fun _ => fun
  | [d1, d2, d3] => { results := [.lit (.bool false)], args := [d1, d2, d3] }
  | _ => none }
def AcceptAllowsWrongFalsely : Prop := acceptAllowsRow.holds Tryd.pinned (OpenSpec.ofChange acceptAllowsWrong)

/-- 'wirelesslaw20.AcceptLists': WHATEVER THE INPUT: true; the input reads as it did. -/
def acceptListsSpec : ChangeSpec := { name := "acceptLists", fn := fun _ => fun
  | [d] => { results := [.lit (.bool true)], args := [d] }
  | _ => none }
def acceptListsRow : OpenClaim := { program := "ytegmknmbgifmjaadoor", sum := "5349680cf8a7774947c04bcb0d602826635900aa3197a40d5355c722acd4656b", func := "wireless/wirelesslaw20.AcceptLists", spec := "acceptLists", unfollowed := true, recurses := true, named := ["wireless/address.randomAt", "wireless/address.prefixes"], apart := false, laid := [("wireless/address.prefixes", laid_wireless_address_prefixes), ("wireless/address.randomAt", laid_wireless_address_randomAt)] }
def AcceptListsSaid : Prop := acceptListsRow.holds Tryd.pinned (OpenSpec.ofChange acceptListsSpec)

/-- ITS FALSE NEIGHBOUR: 'it returns false'. Refute it at one input. -/
def acceptListsWrong : ChangeSpec := { name := "acceptLists", fn := fun _ => fun
  | [d] => { results := [.lit (.bool false)], args := [d] }
  | _ => none }
def AcceptListsWrongFalsely : Prop := acceptListsRow.holds Tryd.pinned (OpenSpec.ofChange acceptListsWrong)

/-- 'wirelesslaw20.AcceptPolicies': WHATEVER THE INPUT: true; the input reads as it did. -/
def acceptPoliciesSpec : ChangeSpec := { name := "acceptPolicies", fn := fun _ => fun
  | [d1, d2, d3] => { results := [.lit (.bool true)], args := [d1, d2, d3] }
  | _ => none }
def acceptPoliciesRow : OpenClaim := { program := "ytegmknmbgifmjaadoor", sum := "5349680cf8a7774947c04bcb0d602826635900aa3197a40d5355c722acd4656b", func := "wireless/wirelesslaw20.AcceptPolicies", spec := "acceptPolicies", unfollowed := true, recurses := true, named := ["wireless/address.randomAt", "wireless/address.prefixes"], apart := false, laid := [("wireless/address.prefixes", laid_wireless_address_prefixes), ("wireless/address.randomAt", laid_wireless_address_randomAt)] }
def AcceptPoliciesSaid : Prop := acceptPoliciesRow.holds Tryd.pinned (OpenSpec.ofChange acceptPoliciesSpec)

/-- ITS FALSE NEIGHBOUR: 'it returns false'. Refute it at one input. -/
def acceptPoliciesWrong : ChangeSpec := { name := "acceptPolicies", fn := fun _ => fun
  | [d1, d2, d3] => { results := [.lit (.bool false)], args := [d1, d2, d3] }
  | _ => none }
def AcceptPoliciesWrongFalsely : Prop := acceptPoliciesRow.holds Tryd.pinned (OpenSpec.ofChange acceptPoliciesWrong)

/- THE SECOND FORM. 'bulk': how many values and letters a reading holds, each counted each time it is reached (what is shared counts as often as it is met; a slice's spare places count too). A statement '..UptoSaid' is the law's where the arguments, and the package variables that the reading takes, are together of bulk at most 1048576: NARROWER than '..Said'. Prove '..Said' where nothing that the law and all that it calls make is longer than what came in: it says more and counts as full. Else prove '..UptoSaid'. A law counts once. -/
mutual
def uptoBulk {H : Type} : DataW H → Nat
  | .lit (.string bytes) => bytes.length + 1
  | .lit _ => 1
  | .nil => 1
  | .ptr d => uptoBulk d + 1
  | .slice elems spare => uptoBulkAll elems + uptoBulkAll spare + 1
  | .agg parts => uptoBulkAll parts + 1
  | .iface _ d => uptoBulk d + 1
  | .map entries => uptoBulkEntries entries + 1
  | .held _ => 1
def uptoBulkAll {H : Type} : List (DataW H) → Nat
  | [] => 0
  | d :: r => uptoBulk d + uptoBulkAll r
def uptoBulkEntries {H : Type} : List (Lit × DataW H) → Nat
  | [] => 0
  | x :: r => uptoBulkEntry x + uptoBulkEntries r
def uptoBulkEntry {H : Type} : Lit × DataW H → Nat
  | (.string bytes, d) => bytes.length + uptoBulk d + 1
  | (_, d) => uptoBulk d + 1
 end
def uptoSmall : (H : Type) → List (DataW H) → Bool := fun _ ds => decide (uptoBulkAll ds ≤ 1048576)
def OpenSpec.upto (s : _root_.Go.ChangeSpec) : _root_.Go.OpenSpec := { _root_.Go.OpenSpec.ofChange s with cond := some uptoSmall }

/-- 'wirelesslaw20.AcceptAdds', WHERE WHAT IT READS IS OF BULK AT MOST 1048576: true; the input reads as it did. -/
def acceptAddsUptoRow : OpenClaim := { program := "ytegmknmbgifmjaadoor", sum := "5349680cf8a7774947c04bcb0d602826635900aa3197a40d5355c722acd4656b", func := "wireless/wirelesslaw20.AcceptAdds", spec := "acceptAdds", unfollowed := true, recurses := true, named := ["wireless/address.randomAt", "wireless/address.prefixes"], apart := false, laid := [("wireless/address.prefixes", laid_wireless_address_prefixes), ("wireless/address.randomAt", laid_wireless_address_randomAt)], narrowed := true }
def AcceptAddsUptoSaid : Prop := acceptAddsUptoRow.holds Tryd.pinned (OpenSpec.upto acceptAddsSpec)

/-- 'wirelesslaw20.AcceptRemoves', WHERE WHAT IT READS IS OF BULK AT MOST 1048576: true; the input reads as it did. -/
def acceptRemovesUptoRow : OpenClaim := { program := "ytegmknmbgifmjaadoor", sum := "5349680cf8a7774947c04bcb0d602826635900aa3197a40d5355c722acd4656b", func := "wireless/wirelesslaw20.AcceptRemoves", spec := "acceptRemoves", unfollowed := true, recurses := true, named := ["wireless/address.randomAt", "wireless/address.prefixes"], apart := false, laid := [("wireless/address.prefixes", laid_wireless_address_prefixes), ("wireless/address.randomAt", laid_wireless_address_randomAt)], narrowed := true }
def AcceptRemovesUptoSaid : Prop := acceptRemovesUptoRow.holds Tryd.pinned (OpenSpec.upto acceptRemovesSpec)

/-- 'wirelesslaw20.AcceptHas', WHERE WHAT IT READS IS OF BULK AT MOST 1048576: true; the input reads as it did. -/
def acceptHasUptoRow : OpenClaim := { program := "ytegmknmbgifmjaadoor", sum := "5349680cf8a7774947c04bcb0d602826635900aa3197a40d5355c722acd4656b", func := "wireless/wirelesslaw20.AcceptHas", spec := "acceptHas", unfollowed := true, recurses := true, named := ["wireless/address.randomAt", "wireless/address.prefixes"], apart := false, laid := [("wireless/address.prefixes", laid_wireless_address_prefixes), ("wireless/address.randomAt", laid_wireless_address_randomAt)], narrowed := true }
def AcceptHasUptoSaid : Prop := acceptHasUptoRow.holds Tryd.pinned (OpenSpec.upto acceptHasSpec)

/-- 'wirelesslaw20.AcceptAllows', WHERE WHAT IT READS IS OF BULK AT MOST 1048576: true; the input reads as it did. -/
def acceptAllowsUptoRow : OpenClaim := { program := "ytegmknmbgifmjaadoor", sum := "5349680cf8a7774947c04bcb0d602826635900aa3197a40d5355c722acd4656b", func := "wireless/wirelesslaw20.AcceptAllows", spec := "acceptAllows", unfollowed := true, recurses := true, named := ["wireless/address.randomAt", "wireless/address.prefixes"], apart := false, laid := [("wireless/address.prefixes", laid_wireless_address_prefixes), ("wireless/address.randomAt", laid_wireless_address_randomAt)], narrowed := true }
def AcceptAllowsUptoSaid : Prop := acceptAllowsUptoRow.holds Tryd.pinned (OpenSpec.upto acceptAllowsSpec)

/-- 'wirelesslaw20.AcceptLists', WHERE WHAT IT READS IS OF BULK AT MOST 1048576: true; the input reads as it did. -/
def acceptListsUptoRow : OpenClaim := { program := "ytegmknmbgifmjaadoor", sum := "5349680cf8a7774947c04bcb0d602826635900aa3197a40d5355c722acd4656b", func := "wireless/wirelesslaw20.AcceptLists", spec := "acceptLists", unfollowed := true, recurses := true, named := ["wireless/address.randomAt", "wireless/address.prefixes"], apart := false, laid := [("wireless/address.prefixes", laid_wireless_address_prefixes), ("wireless/address.randomAt", laid_wireless_address_randomAt)], narrowed := true }
def AcceptListsUptoSaid : Prop := acceptListsUptoRow.holds Tryd.pinned (OpenSpec.upto acceptListsSpec)

/-- 'wirelesslaw20.AcceptPolicies', WHERE WHAT IT READS IS OF BULK AT MOST 1048576: true; the input reads as it did. -/
def acceptPoliciesUptoRow : OpenClaim := { program := "ytegmknmbgifmjaadoor", sum := "5349680cf8a7774947c04bcb0d602826635900aa3197a40d5355c722acd4656b", func := "wireless/wirelesslaw20.AcceptPolicies", spec := "acceptPolicies", unfollowed := true, recurses := true, named := ["wireless/address.randomAt", "wireless/address.prefixes"], apart := false, laid := [("wireless/address.prefixes", laid_wireless_address_prefixes), ("wireless/address.randomAt", laid_wireless_address_randomAt)], narrowed := true }
def AcceptPoliciesUptoSaid : Prop := acceptPoliciesUptoRow.holds Tryd.pinned (OpenSpec.upto acceptPoliciesSpec)

end Rows
end Go.Proofs.YtegmknmbgifmjaaDoor
