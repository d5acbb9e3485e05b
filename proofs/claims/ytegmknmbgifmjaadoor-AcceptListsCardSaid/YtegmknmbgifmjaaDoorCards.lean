/-
  DERIVED. GIVEN WITH THE SEED: THE CARDS: each row of YtegmknmbgifmjaaDoorRows.lean that lists a variable, with what it lists TIED to the program's text (the seventh form; the later family's looks); each row that meets fmt, with fmt's text TOLD by the authors' own Lean function (tested against real Go, not proved from fmt's source: count such statements apart). THE CARD IS WHAT COUNTS. Prove the row's statement (the work); the ties are given (YtegmknmbgifmjaaDoorTie.lean); close each card by the builder's one call (the guide's Derived/Test/ToyasCard.lean, 'card_holds'). Laid BY PROGRAM, IN A SANDBOX (cutbox-door.mjs). By AI agents, Wed Nov 11 2026. No macro, syntax, notation, axiom, sorry.
-/
import Derived.Test.YtegmknmbgifmjaaDoorRows
import GoSem.ClaimSeven
namespace Go.Proofs.YtegmknmbgifmjaaDoor
namespace Rows

/-- THE TIED CARD OF 'wirelesslaw20.AcceptAdds'. -/
def acceptAddsCard : Claim7 := { stood := { row := acceptAddsRow, standIns := [], harness := (true, "f326d3c18354c89c523e0f95866762e1316eca27305d8127b37c98950f651ab1"), looks := false }, kinds := [], alts := [], laidByText := true, laidKinds := [.data, .data], laidTests := true, laidLooks := .later }
def AcceptAddsCardSaid : Prop := Claim7.holds Tryd.pinned (.plain (OpenSpec.ofChange acceptAddsSpec)) acceptAddsCard

/-- THE TIED CARD OF 'wirelesslaw20.AcceptRemoves'. -/
def acceptRemovesCard : Claim7 := { stood := { row := acceptRemovesRow, standIns := [], harness := (true, "f326d3c18354c89c523e0f95866762e1316eca27305d8127b37c98950f651ab1"), looks := false }, kinds := [], alts := [], laidByText := true, laidKinds := [.data, .data], laidTests := true, laidLooks := .later }
def AcceptRemovesCardSaid : Prop := Claim7.holds Tryd.pinned (.plain (OpenSpec.ofChange acceptRemovesSpec)) acceptRemovesCard

/-- THE TIED CARD OF 'wirelesslaw20.AcceptHas'. -/
def acceptHasCard : Claim7 := { stood := { row := acceptHasRow, standIns := [], harness := (true, "f326d3c18354c89c523e0f95866762e1316eca27305d8127b37c98950f651ab1"), looks := false }, kinds := [], alts := [], laidByText := true, laidKinds := [.data, .data], laidTests := true, laidLooks := .later }
def AcceptHasCardSaid : Prop := Claim7.holds Tryd.pinned (.plain (OpenSpec.ofChange acceptHasSpec)) acceptHasCard

/-- THE TIED CARD OF 'wirelesslaw20.AcceptAllows'. -/
def acceptAllowsCard : Claim7 := { stood := { row := acceptAllowsRow, standIns := [], harness := (true, "f326d3c18354c89c523e0f95866762e1316eca27305d8127b37c98950f651ab1"), looks := false }, kinds := [], alts := [], laidByText := true, laidKinds := [.data, .data], laidTests := true, laidLooks := .later }
def AcceptAllowsCardSaid : Prop := Claim7.holds Tryd.pinned (.plain (OpenSpec.ofChange acceptAllowsSpec)) acceptAllowsCard

/-- THE TIED CARD OF 'wirelesslaw20.AcceptLists'. -/
def acceptListsCard : Claim7 := { stood := { row := acceptListsRow, standIns := [], harness := (true, "f326d3c18354c89c523e0f95866762e1316eca27305d8127b37c98950f651ab1"), looks := false }, kinds := [], alts := [], laidByText := true, laidKinds := [.data, .data], laidTests := true, laidLooks := .later }
def AcceptListsCardSaid : Prop := Claim7.holds Tryd.pinned (.plain (OpenSpec.ofChange acceptListsSpec)) acceptListsCard

/-- THE TIED CARD OF 'wirelesslaw20.AcceptPolicies'. -/
def acceptPoliciesCard : Claim7 := { stood := { row := acceptPoliciesRow, standIns := [], harness := (true, "f326d3c18354c89c523e0f95866762e1316eca27305d8127b37c98950f651ab1"), looks := false }, kinds := [], alts := [], laidByText := true, laidKinds := [.data, .data], laidTests := true, laidLooks := .later }
def AcceptPoliciesCardSaid : Prop := Claim7.holds Tryd.pinned (.plain (OpenSpec.ofChange acceptPoliciesSpec)) acceptPoliciesCard

/-- THE SECOND FORM's CARD OF 'wirelesslaw20.AcceptAdds'. -/
def acceptAddsUptoCard : Claim7 := { stood := { row := acceptAddsUptoRow, standIns := [], harness := (true, "f326d3c18354c89c523e0f95866762e1316eca27305d8127b37c98950f651ab1"), looks := false }, kinds := [], alts := [], laidByText := true, laidKinds := [.data, .data], laidTests := true, laidLooks := .later }
def AcceptAddsUptoCardSaid : Prop := Claim7.holds Tryd.pinned (.plain (OpenSpec.upto acceptAddsSpec)) acceptAddsUptoCard

/-- THE SECOND FORM's CARD OF 'wirelesslaw20.AcceptRemoves'. -/
def acceptRemovesUptoCard : Claim7 := { stood := { row := acceptRemovesUptoRow, standIns := [], harness := (true, "f326d3c18354c89c523e0f95866762e1316eca27305d8127b37c98950f651ab1"), looks := false }, kinds := [], alts := [], laidByText := true, laidKinds := [.data, .data], laidTests := true, laidLooks := .later }
def AcceptRemovesUptoCardSaid : Prop := Claim7.holds Tryd.pinned (.plain (OpenSpec.upto acceptRemovesSpec)) acceptRemovesUptoCard

/-- THE SECOND FORM's CARD OF 'wirelesslaw20.AcceptHas'. -/
def acceptHasUptoCard : Claim7 := { stood := { row := acceptHasUptoRow, standIns := [], harness := (true, "f326d3c18354c89c523e0f95866762e1316eca27305d8127b37c98950f651ab1"), looks := false }, kinds := [], alts := [], laidByText := true, laidKinds := [.data, .data], laidTests := true, laidLooks := .later }
def AcceptHasUptoCardSaid : Prop := Claim7.holds Tryd.pinned (.plain (OpenSpec.upto acceptHasSpec)) acceptHasUptoCard

/-- THE SECOND FORM's CARD OF 'wirelesslaw20.AcceptAllows'. -/
def acceptAllowsUptoCard : Claim7 := { stood := { row := acceptAllowsUptoRow, standIns := [], harness := (true, "f326d3c18354c89c523e0f95866762e1316eca27305d8127b37c98950f651ab1"), looks := false }, kinds := [], alts := [], laidByText := true, laidKinds := [.data, .data], laidTests := true, laidLooks := .later }
def AcceptAllowsUptoCardSaid : Prop := Claim7.holds Tryd.pinned (.plain (OpenSpec.upto acceptAllowsSpec)) acceptAllowsUptoCard

/-- THE SECOND FORM's CARD OF 'wirelesslaw20.AcceptLists'. -/
def acceptListsUptoCard : Claim7 := { stood := { row := acceptListsUptoRow, standIns := [], harness := (true, "f326d3c18354c89c523e0f95866762e1316eca27305d8127b37c98950f651ab1"), looks := false }, kinds := [], alts := [], laidByText := true, laidKinds := [.data, .data], laidTests := true, laidLooks := .later }
def AcceptListsUptoCardSaid : Prop := Claim7.holds Tryd.pinned (.plain (OpenSpec.upto acceptListsSpec)) acceptListsUptoCard

/-- THE SECOND FORM's CARD OF 'wirelesslaw20.AcceptPolicies'. -/
def acceptPoliciesUptoCard : Claim7 := { stood := { row := acceptPoliciesUptoRow, standIns := [], harness := (true, "f326d3c18354c89c523e0f95866762e1316eca27305d8127b37c98950f651ab1"), looks := false }, kinds := [], alts := [], laidByText := true, laidKinds := [.data, .data], laidTests := true, laidLooks := .later }
def AcceptPoliciesUptoCardSaid : Prop := Claim7.holds Tryd.pinned (.plain (OpenSpec.upto acceptPoliciesSpec)) acceptPoliciesUptoCard
end Rows
end Go.Proofs.YtegmknmbgifmjaaDoor
