/-
  DERIVED. GIVEN WITH THE SEED: THE CARDS: each row of YtchjopgcbpopcaaDoorRows.lean that lists a variable, with what it lists TIED to the program's text (the seventh form; the later family's looks); each row that meets fmt, with fmt's text TOLD by the authors' own Lean function (tested against real Go, not proved from fmt's source: count such statements apart). THE CARD IS WHAT COUNTS. Prove the row's statement (the work); the ties are given (YtchjopgcbpopcaaDoorTie.lean); close each card by the builder's one call (the guide's Derived/Test/ToyasCard.lean, 'card_holds'). Laid BY PROGRAM, IN A SANDBOX (cutbox-door.mjs). By AI agents, Wed Nov 11 2026. No macro, syntax, notation, axiom, sorry.
-/
import Derived.Test.YtchjopgcbpopcaaDoorRows
import GoSem.ClaimSeven
namespace Go.Proofs.YtchjopgcbpopcaaDoor
namespace Rows

/-- THE TIED CARD OF 'wirelesslaw08.AddressChecks'. -/
def addressChecksCard : Claim7 := { stood := { row := addressChecksRow, standIns := [], harness := (true, "ebc66e4ebf2ddd39aedf83063e27c4c3211fbca1a339bd6c99d14546cb4a9ae2"), looks := false }, kinds := [], alts := [], laidByText := true, laidKinds := [.data, .data, .data], laidTests := true, laidLooks := .later }
def AddressChecksCardSaid : Prop := Claim7.holds Tryd.pinned (.plain (OpenSpec.ofChange addressChecksSpec)) addressChecksCard

/-- THE TIED CARD OF 'wirelesslaw08.AddressMakes'. -/
def addressMakesCard : Claim7 := { stood := { row := addressMakesRow, standIns := [], harness := (true, "ebc66e4ebf2ddd39aedf83063e27c4c3211fbca1a339bd6c99d14546cb4a9ae2"), looks := false }, kinds := [], alts := [], laidByText := true, laidKinds := [.data, .data, .data], laidTests := true, laidLooks := .later }
def AddressMakesCardSaid : Prop := Claim7.holds Tryd.pinned (.plain (OpenSpec.ofChange addressMakesSpec)) addressMakesCard

/-- THE TIED CARD OF 'wirelesslaw08.AddressEncodes'. -/
def addressEncodesCard : Claim7 := { stood := { row := addressEncodesRow, standIns := [], harness := (true, "ebc66e4ebf2ddd39aedf83063e27c4c3211fbca1a339bd6c99d14546cb4a9ae2"), looks := false }, kinds := [], alts := [], laidByText := true, laidKinds := [.data, .data, .data], laidTests := true, laidLooks := .later }
def AddressEncodesCardSaid : Prop := Claim7.holds Tryd.pinned (.plain (OpenSpec.ofChange addressEncodesSpec)) addressEncodesCard

/-- THE TIED CARD OF 'wirelesslaw08.AddressDecodes'. -/
def addressDecodesCard : Claim7 := { stood := { row := addressDecodesRow, standIns := [], harness := (true, "ebc66e4ebf2ddd39aedf83063e27c4c3211fbca1a339bd6c99d14546cb4a9ae2"), looks := false }, kinds := [], alts := [], laidByText := true, laidKinds := [.data, .data, .data], laidTests := true, laidLooks := .later }
def AddressDecodesCardSaid : Prop := Claim7.holds Tryd.pinned (.plain (OpenSpec.ofChange addressDecodesSpec)) addressDecodesCard

/-- THE TIED CARD OF 'wirelesslaw08.AddressTexts'. -/
def addressTextsCard : Claim7 := { stood := { row := addressTextsRow, standIns := [], harness := (true, "ebc66e4ebf2ddd39aedf83063e27c4c3211fbca1a339bd6c99d14546cb4a9ae2"), looks := false }, kinds := [], alts := [], laidByText := true, laidKinds := [.data, .data, .data], laidTests := true, laidLooks := .later }
def AddressTextsCardSaid : Prop := Claim7.holds Tryd.pinned (.plain (OpenSpec.ofChange addressTextsSpec)) addressTextsCard

/-- THE TIED CARD OF 'wirelesslaw08.AddressParses'. -/
def addressParsesCard : Claim7 := { stood := { row := addressParsesRow, standIns := [], harness := (true, "ebc66e4ebf2ddd39aedf83063e27c4c3211fbca1a339bd6c99d14546cb4a9ae2"), looks := false }, kinds := [], alts := [], laidByText := true, laidKinds := [.data, .data, .data], laidTests := true, laidLooks := .later }
def AddressParsesCardSaid : Prop := Claim7.holds Tryd.pinned (.plain (OpenSpec.ofChange addressParsesSpec)) addressParsesCard

/-- THE TIED CARD OF 'wirelesslaw08.AddressBack'. -/
def addressBackCard : Claim7 := { stood := { row := addressBackRow, standIns := [], harness := (true, "ebc66e4ebf2ddd39aedf83063e27c4c3211fbca1a339bd6c99d14546cb4a9ae2"), looks := false }, kinds := [], alts := [], laidByText := true, laidKinds := [.data, .data, .data], laidTests := true, laidLooks := .later }
def AddressBackCardSaid : Prop := Claim7.holds Tryd.pinned (.plain (OpenSpec.ofChange addressBackSpec)) addressBackCard

/-- THE TIED CARD OF 'wirelesslaw08.AddressOrder'. -/
def addressOrderCard : Claim7 := { stood := { row := addressOrderRow, standIns := [], harness := (true, "ebc66e4ebf2ddd39aedf83063e27c4c3211fbca1a339bd6c99d14546cb4a9ae2"), looks := false }, kinds := [], alts := [], laidByText := true, laidKinds := [.data, .data, .data], laidTests := true, laidLooks := .later }
def AddressOrderCardSaid : Prop := Claim7.holds Tryd.pinned (.plain (OpenSpec.ofChange addressOrderSpec)) addressOrderCard

/-- THE SECOND FORM's CARD OF 'wirelesslaw08.AddressChecks'. -/
def addressChecksUptoCard : Claim7 := { stood := { row := addressChecksUptoRow, standIns := [], harness := (true, "ebc66e4ebf2ddd39aedf83063e27c4c3211fbca1a339bd6c99d14546cb4a9ae2"), looks := false }, kinds := [], alts := [], laidByText := true, laidKinds := [.data, .data, .data], laidTests := true, laidLooks := .later }
def AddressChecksUptoCardSaid : Prop := Claim7.holds Tryd.pinned (.plain (OpenSpec.upto addressChecksSpec)) addressChecksUptoCard

/-- THE SECOND FORM's CARD OF 'wirelesslaw08.AddressMakes'. -/
def addressMakesUptoCard : Claim7 := { stood := { row := addressMakesUptoRow, standIns := [], harness := (true, "ebc66e4ebf2ddd39aedf83063e27c4c3211fbca1a339bd6c99d14546cb4a9ae2"), looks := false }, kinds := [], alts := [], laidByText := true, laidKinds := [.data, .data, .data], laidTests := true, laidLooks := .later }
def AddressMakesUptoCardSaid : Prop := Claim7.holds Tryd.pinned (.plain (OpenSpec.upto addressMakesSpec)) addressMakesUptoCard

/-- THE SECOND FORM's CARD OF 'wirelesslaw08.AddressEncodes'. -/
def addressEncodesUptoCard : Claim7 := { stood := { row := addressEncodesUptoRow, standIns := [], harness := (true, "ebc66e4ebf2ddd39aedf83063e27c4c3211fbca1a339bd6c99d14546cb4a9ae2"), looks := false }, kinds := [], alts := [], laidByText := true, laidKinds := [.data, .data, .data], laidTests := true, laidLooks := .later }
def AddressEncodesUptoCardSaid : Prop := Claim7.holds Tryd.pinned (.plain (OpenSpec.upto addressEncodesSpec)) addressEncodesUptoCard

/-- THE SECOND FORM's CARD OF 'wirelesslaw08.AddressDecodes'. -/
def addressDecodesUptoCard : Claim7 := { stood := { row := addressDecodesUptoRow, standIns := [], harness := (true, "ebc66e4ebf2ddd39aedf83063e27c4c3211fbca1a339bd6c99d14546cb4a9ae2"), looks := false }, kinds := [], alts := [], laidByText := true, laidKinds := [.data, .data, .data], laidTests := true, laidLooks := .later }
def AddressDecodesUptoCardSaid : Prop := Claim7.holds Tryd.pinned (.plain (OpenSpec.upto addressDecodesSpec)) addressDecodesUptoCard

/-- THE SECOND FORM's CARD OF 'wirelesslaw08.AddressTexts'. -/
def addressTextsUptoCard : Claim7 := { stood := { row := addressTextsUptoRow, standIns := [], harness := (true, "ebc66e4ebf2ddd39aedf83063e27c4c3211fbca1a339bd6c99d14546cb4a9ae2"), looks := false }, kinds := [], alts := [], laidByText := true, laidKinds := [.data, .data, .data], laidTests := true, laidLooks := .later }
def AddressTextsUptoCardSaid : Prop := Claim7.holds Tryd.pinned (.plain (OpenSpec.upto addressTextsSpec)) addressTextsUptoCard

/-- THE SECOND FORM's CARD OF 'wirelesslaw08.AddressParses'. -/
def addressParsesUptoCard : Claim7 := { stood := { row := addressParsesUptoRow, standIns := [], harness := (true, "ebc66e4ebf2ddd39aedf83063e27c4c3211fbca1a339bd6c99d14546cb4a9ae2"), looks := false }, kinds := [], alts := [], laidByText := true, laidKinds := [.data, .data, .data], laidTests := true, laidLooks := .later }
def AddressParsesUptoCardSaid : Prop := Claim7.holds Tryd.pinned (.plain (OpenSpec.upto addressParsesSpec)) addressParsesUptoCard

/-- THE SECOND FORM's CARD OF 'wirelesslaw08.AddressBack'. -/
def addressBackUptoCard : Claim7 := { stood := { row := addressBackUptoRow, standIns := [], harness := (true, "ebc66e4ebf2ddd39aedf83063e27c4c3211fbca1a339bd6c99d14546cb4a9ae2"), looks := false }, kinds := [], alts := [], laidByText := true, laidKinds := [.data, .data, .data], laidTests := true, laidLooks := .later }
def AddressBackUptoCardSaid : Prop := Claim7.holds Tryd.pinned (.plain (OpenSpec.upto addressBackSpec)) addressBackUptoCard

/-- THE SECOND FORM's CARD OF 'wirelesslaw08.AddressOrder'. -/
def addressOrderUptoCard : Claim7 := { stood := { row := addressOrderUptoRow, standIns := [], harness := (true, "ebc66e4ebf2ddd39aedf83063e27c4c3211fbca1a339bd6c99d14546cb4a9ae2"), looks := false }, kinds := [], alts := [], laidByText := true, laidKinds := [.data, .data, .data], laidTests := true, laidLooks := .later }
def AddressOrderUptoCardSaid : Prop := Claim7.holds Tryd.pinned (.plain (OpenSpec.upto addressOrderSpec)) addressOrderUptoCard
end Rows
end Go.Proofs.YtchjopgcbpopcaaDoor
