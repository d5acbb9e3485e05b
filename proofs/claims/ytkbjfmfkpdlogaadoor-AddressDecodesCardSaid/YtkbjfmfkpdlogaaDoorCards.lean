/-
  DERIVED. GIVEN WITH THE SEED: THE CARDS: each row of YtkbjfmfkpdlogaaDoorRows.lean that lists a variable, with what it lists TIED to the program's text (the seventh form; the later family's looks); each row that meets fmt, with fmt's text TOLD by the authors' own Lean function (tested against real Go, not proved from fmt's source: count such statements apart). THE CARD IS WHAT COUNTS. Prove the row's statement (the work); the ties are given (YtkbjfmfkpdlogaaDoorTie.lean); close each card by the builder's one call (the guide's Derived/Test/ToyasCard.lean, 'card_holds'). Laid BY PROGRAM, IN A SANDBOX (cutbox-door.mjs). By AI agents, Wed Nov 11 2026. No macro, syntax, notation, axiom, sorry.
-/
import Derived.Test.YtkbjfmfkpdlogaaDoorRows
import GoSem.ClaimSeven
namespace Go.Proofs.YtkbjfmfkpdlogaaDoor
namespace Rows

/-- THE TIED CARD OF 'wirelesslaw08.AddressDecodes'. -/
def addressDecodesCard : Claim7 := { stood := { row := addressDecodesRow, standIns := [], harness := (true, "f893ad697b1e4839e3769bd5a7bba80a8d07dbeb54ccdd1b5b4532c6f53d7f46"), looks := false }, kinds := [], alts := [], laidByText := true, laidKinds := [.data, .data, .data], laidTests := true, laidLooks := .later }
def AddressDecodesCardSaid : Prop := Claim7.holds Tryd.pinned (.plain (OpenSpec.ofChange addressDecodesSpec)) addressDecodesCard

/-- THE TIED CARD OF 'wirelesslaw08.AddressBack'. -/
def addressBackCard : Claim7 := { stood := { row := addressBackRow, standIns := [], harness := (true, "f893ad697b1e4839e3769bd5a7bba80a8d07dbeb54ccdd1b5b4532c6f53d7f46"), looks := false }, kinds := [], alts := [], laidByText := true, laidKinds := [.data, .data, .data], laidTests := true, laidLooks := .later }
def AddressBackCardSaid : Prop := Claim7.holds Tryd.pinned (.plain (OpenSpec.ofChange addressBackSpec)) addressBackCard

/-- THE TIED CARD OF 'wirelesslaw09.PrivacyMakes'. -/
def privacyMakesCard : Claim7 := { stood := { row := privacyMakesRow, standIns := [], harness := (true, "f893ad697b1e4839e3769bd5a7bba80a8d07dbeb54ccdd1b5b4532c6f53d7f46"), looks := false }, kinds := [], alts := [], laidByText := true, laidKinds := [.data, .data], laidTests := true, laidLooks := .later }
def PrivacyMakesCardSaid : Prop := Claim7.holds Tryd.pinned (.plain (OpenSpec.ofChange privacyMakesSpec)) privacyMakesCard

/-- THE TIED CARD OF 'wirelesslaw09.PrivacyResolves'. -/
def privacyResolvesCard : Claim7 := { stood := { row := privacyResolvesRow, standIns := [], harness := (true, "f893ad697b1e4839e3769bd5a7bba80a8d07dbeb54ccdd1b5b4532c6f53d7f46"), looks := false }, kinds := [], alts := [], laidByText := true, laidKinds := [.data, .data], laidTests := true, laidLooks := .later }
def PrivacyResolvesCardSaid : Prop := Claim7.holds Tryd.pinned (.plain (OpenSpec.ofChange privacyResolvesSpec)) privacyResolvesCard

/-- THE TIED CARD OF 'wirelesslaw09.PrivacyOwn'. -/
def privacyOwnCard : Claim7 := { stood := { row := privacyOwnRow, standIns := [], harness := (true, "f893ad697b1e4839e3769bd5a7bba80a8d07dbeb54ccdd1b5b4532c6f53d7f46"), looks := false }, kinds := [], alts := [], laidByText := true, laidKinds := [.data, .data], laidTests := true, laidLooks := .later }
def PrivacyOwnCardSaid : Prop := Claim7.holds Tryd.pinned (.plain (OpenSpec.ofChange privacyOwnSpec)) privacyOwnCard

/-- THE TIED CARD OF 'wirelesslaw09.PrivacySearches'. -/
def privacySearchesCard : Claim7 := { stood := { row := privacySearchesRow, standIns := [], harness := (true, "f893ad697b1e4839e3769bd5a7bba80a8d07dbeb54ccdd1b5b4532c6f53d7f46"), looks := false }, kinds := [], alts := [], laidByText := true, laidKinds := [.data, .data], laidTests := true, laidLooks := .later }
def PrivacySearchesCardSaid : Prop := Claim7.holds Tryd.pinned (.plain (OpenSpec.ofChange privacySearchesSpec)) privacySearchesCard

/-- THE TIED CARD OF 'wirelesslaw09.PrivacyPeriods'. -/
def privacyPeriodsCard : Claim7 := { stood := { row := privacyPeriodsRow, standIns := [], harness := (true, "f893ad697b1e4839e3769bd5a7bba80a8d07dbeb54ccdd1b5b4532c6f53d7f46"), looks := false }, kinds := [], alts := [], laidByText := true, laidKinds := [.data, .data], laidTests := true, laidLooks := .later }
def PrivacyPeriodsCardSaid : Prop := Claim7.holds Tryd.pinned (.plain (OpenSpec.ofChange privacyPeriodsSpec)) privacyPeriodsCard

/-- THE TIED CARD OF 'wirelesslaw09.PrivacyFinds'. -/
def privacyFindsCard : Claim7 := { stood := { row := privacyFindsRow, standIns := [], harness := (true, "f893ad697b1e4839e3769bd5a7bba80a8d07dbeb54ccdd1b5b4532c6f53d7f46"), looks := false }, kinds := [], alts := [], laidByText := true, laidKinds := [.data, .data], laidTests := true, laidLooks := .later }
def PrivacyFindsCardSaid : Prop := Claim7.holds Tryd.pinned (.plain (OpenSpec.ofChange privacyFindsSpec)) privacyFindsCard

/-- THE TIED CARD OF 'wirelesslaw09.PrivacyConstant'. -/
def privacyConstantCard : Claim7 := { stood := { row := privacyConstantRow, standIns := [], harness := (true, "f893ad697b1e4839e3769bd5a7bba80a8d07dbeb54ccdd1b5b4532c6f53d7f46"), looks := false }, kinds := [], alts := [], laidByText := true, laidKinds := [.data, .data], laidTests := true, laidLooks := .later }
def PrivacyConstantCardSaid : Prop := Claim7.holds Tryd.pinned (.plain (OpenSpec.ofChange privacyConstantSpec)) privacyConstantCard

/-- THE SECOND FORM's CARD OF 'wirelesslaw08.AddressDecodes'. -/
def addressDecodesUptoCard : Claim7 := { stood := { row := addressDecodesUptoRow, standIns := [], harness := (true, "f893ad697b1e4839e3769bd5a7bba80a8d07dbeb54ccdd1b5b4532c6f53d7f46"), looks := false }, kinds := [], alts := [], laidByText := true, laidKinds := [.data, .data, .data], laidTests := true, laidLooks := .later }
def AddressDecodesUptoCardSaid : Prop := Claim7.holds Tryd.pinned (.plain (OpenSpec.upto addressDecodesSpec)) addressDecodesUptoCard

/-- THE SECOND FORM's CARD OF 'wirelesslaw08.AddressBack'. -/
def addressBackUptoCard : Claim7 := { stood := { row := addressBackUptoRow, standIns := [], harness := (true, "f893ad697b1e4839e3769bd5a7bba80a8d07dbeb54ccdd1b5b4532c6f53d7f46"), looks := false }, kinds := [], alts := [], laidByText := true, laidKinds := [.data, .data, .data], laidTests := true, laidLooks := .later }
def AddressBackUptoCardSaid : Prop := Claim7.holds Tryd.pinned (.plain (OpenSpec.upto addressBackSpec)) addressBackUptoCard

/-- THE SECOND FORM's CARD OF 'wirelesslaw09.PrivacyMakes'. -/
def privacyMakesUptoCard : Claim7 := { stood := { row := privacyMakesUptoRow, standIns := [], harness := (true, "f893ad697b1e4839e3769bd5a7bba80a8d07dbeb54ccdd1b5b4532c6f53d7f46"), looks := false }, kinds := [], alts := [], laidByText := true, laidKinds := [.data, .data], laidTests := true, laidLooks := .later }
def PrivacyMakesUptoCardSaid : Prop := Claim7.holds Tryd.pinned (.plain (OpenSpec.upto privacyMakesSpec)) privacyMakesUptoCard

/-- THE SECOND FORM's CARD OF 'wirelesslaw09.PrivacyResolves'. -/
def privacyResolvesUptoCard : Claim7 := { stood := { row := privacyResolvesUptoRow, standIns := [], harness := (true, "f893ad697b1e4839e3769bd5a7bba80a8d07dbeb54ccdd1b5b4532c6f53d7f46"), looks := false }, kinds := [], alts := [], laidByText := true, laidKinds := [.data, .data], laidTests := true, laidLooks := .later }
def PrivacyResolvesUptoCardSaid : Prop := Claim7.holds Tryd.pinned (.plain (OpenSpec.upto privacyResolvesSpec)) privacyResolvesUptoCard

/-- THE SECOND FORM's CARD OF 'wirelesslaw09.PrivacyOwn'. -/
def privacyOwnUptoCard : Claim7 := { stood := { row := privacyOwnUptoRow, standIns := [], harness := (true, "f893ad697b1e4839e3769bd5a7bba80a8d07dbeb54ccdd1b5b4532c6f53d7f46"), looks := false }, kinds := [], alts := [], laidByText := true, laidKinds := [.data, .data], laidTests := true, laidLooks := .later }
def PrivacyOwnUptoCardSaid : Prop := Claim7.holds Tryd.pinned (.plain (OpenSpec.upto privacyOwnSpec)) privacyOwnUptoCard

/-- THE SECOND FORM's CARD OF 'wirelesslaw09.PrivacySearches'. -/
def privacySearchesUptoCard : Claim7 := { stood := { row := privacySearchesUptoRow, standIns := [], harness := (true, "f893ad697b1e4839e3769bd5a7bba80a8d07dbeb54ccdd1b5b4532c6f53d7f46"), looks := false }, kinds := [], alts := [], laidByText := true, laidKinds := [.data, .data], laidTests := true, laidLooks := .later }
def PrivacySearchesUptoCardSaid : Prop := Claim7.holds Tryd.pinned (.plain (OpenSpec.upto privacySearchesSpec)) privacySearchesUptoCard

/-- THE SECOND FORM's CARD OF 'wirelesslaw09.PrivacyPeriods'. -/
def privacyPeriodsUptoCard : Claim7 := { stood := { row := privacyPeriodsUptoRow, standIns := [], harness := (true, "f893ad697b1e4839e3769bd5a7bba80a8d07dbeb54ccdd1b5b4532c6f53d7f46"), looks := false }, kinds := [], alts := [], laidByText := true, laidKinds := [.data, .data], laidTests := true, laidLooks := .later }
def PrivacyPeriodsUptoCardSaid : Prop := Claim7.holds Tryd.pinned (.plain (OpenSpec.upto privacyPeriodsSpec)) privacyPeriodsUptoCard

/-- THE SECOND FORM's CARD OF 'wirelesslaw09.PrivacyFinds'. -/
def privacyFindsUptoCard : Claim7 := { stood := { row := privacyFindsUptoRow, standIns := [], harness := (true, "f893ad697b1e4839e3769bd5a7bba80a8d07dbeb54ccdd1b5b4532c6f53d7f46"), looks := false }, kinds := [], alts := [], laidByText := true, laidKinds := [.data, .data], laidTests := true, laidLooks := .later }
def PrivacyFindsUptoCardSaid : Prop := Claim7.holds Tryd.pinned (.plain (OpenSpec.upto privacyFindsSpec)) privacyFindsUptoCard

/-- THE SECOND FORM's CARD OF 'wirelesslaw09.PrivacyConstant'. -/
def privacyConstantUptoCard : Claim7 := { stood := { row := privacyConstantUptoRow, standIns := [], harness := (true, "f893ad697b1e4839e3769bd5a7bba80a8d07dbeb54ccdd1b5b4532c6f53d7f46"), looks := false }, kinds := [], alts := [], laidByText := true, laidKinds := [.data, .data], laidTests := true, laidLooks := .later }
def PrivacyConstantUptoCardSaid : Prop := Claim7.holds Tryd.pinned (.plain (OpenSpec.upto privacyConstantSpec)) privacyConstantUptoCard
end Rows
end Go.Proofs.YtkbjfmfkpdlogaaDoor
