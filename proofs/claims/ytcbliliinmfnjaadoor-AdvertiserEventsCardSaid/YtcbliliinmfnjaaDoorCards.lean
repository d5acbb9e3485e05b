/-
  DERIVED. GIVEN WITH THE SEED: THE CARDS: each row of YtcbliliinmfnjaaDoorRows.lean that lists a variable, with what it lists TIED to the program's text (the seventh form; the later family's looks); each row that meets fmt, with fmt's text TOLD by the authors' own Lean function (tested against real Go, not proved from fmt's source: count such statements apart). THE CARD IS WHAT COUNTS. Prove the row's statement (the work); the ties are given (YtcbliliinmfnjaaDoorTie.lean); close each card by the builder's one call (the guide's Derived/Test/ToyasCard.lean, 'card_holds'). Laid BY PROGRAM, IN A SANDBOX (cutbox-door.mjs). By AI agents, Wed Nov 11 2026. No macro, syntax, notation, axiom, sorry.
-/
import Derived.Test.YtcbliliinmfnjaaDoorRows
import GoSem.ClaimSeven
namespace Go.Proofs.YtcbliliinmfnjaaDoor
namespace Rows

/-- THE TIED CARD OF 'wirelesslaw21.AdvertiserStarts'. -/
def advertiserStartsCard : Claim7 := { stood := { row := advertiserStartsRow, standIns := [], harness := (true, "1ff62c5746e467f31846ed5dc41b4f45647a1b045809cf5b41da4064009477f9"), looks := false }, kinds := [], alts := [], laidByText := true, laidKinds := [.data, .data], laidTests := true, laidLooks := .later }
def AdvertiserStartsCardSaid : Prop := Claim7.holds Tryd.pinned (.plain (OpenSpec.ofChange advertiserStartsSpec)) advertiserStartsCard

/-- THE TIED CARD OF 'wirelesslaw21.AdvertiserDelays'. -/
def advertiserDelaysCard : Claim7 := { stood := { row := advertiserDelaysRow, standIns := [], harness := (true, "1ff62c5746e467f31846ed5dc41b4f45647a1b045809cf5b41da4064009477f9"), looks := false }, kinds := [], alts := [], laidByText := true, laidKinds := [.data, .data], laidTests := true, laidLooks := .later }
def AdvertiserDelaysCardSaid : Prop := Claim7.holds Tryd.pinned (.plain (OpenSpec.ofChange advertiserDelaysSpec)) advertiserDelaysCard

/-- THE TIED CARD OF 'wirelesslaw21.AdvertiserEvents'. -/
def advertiserEventsCard : Claim7 := { stood := { row := advertiserEventsRow, standIns := [], harness := (true, "1ff62c5746e467f31846ed5dc41b4f45647a1b045809cf5b41da4064009477f9"), looks := false }, kinds := [], alts := [], laidByText := true, laidKinds := [.data, .data], laidTests := true, laidLooks := .later }
def AdvertiserEventsCardSaid : Prop := Claim7.holds Tryd.pinned (.plain (OpenSpec.ofChange advertiserEventsSpec)) advertiserEventsCard

/-- THE TIED CARD OF 'wirelesslaw21.AdvertiserAnswers'. -/
def advertiserAnswersCard : Claim7 := { stood := { row := advertiserAnswersRow, standIns := [], harness := (true, "1ff62c5746e467f31846ed5dc41b4f45647a1b045809cf5b41da4064009477f9"), looks := false }, kinds := [], alts := [], laidByText := true, laidKinds := [.data, .data], laidTests := true, laidLooks := .later }
def AdvertiserAnswersCardSaid : Prop := Claim7.holds Tryd.pinned (.plain (OpenSpec.ofChange advertiserAnswersSpec)) advertiserAnswersCard

/-- THE TIED CARD OF 'wirelesslaw22.ScannerStarts'. -/
def scannerStartsCard : Claim7 := { stood := { row := scannerStartsRow, standIns := [], harness := (true, "1ff62c5746e467f31846ed5dc41b4f45647a1b045809cf5b41da4064009477f9"), looks := false }, kinds := [], alts := [], laidByText := true, laidKinds := [.data, .data], laidTests := true, laidLooks := .later }
def ScannerStartsCardSaid : Prop := Claim7.holds Tryd.pinned (.plain (OpenSpec.ofChange scannerStartsSpec)) scannerStartsCard

/-- THE TIED CARD OF 'wirelesslaw22.ScannerFinds'. -/
def scannerFindsCard : Claim7 := { stood := { row := scannerFindsRow, standIns := [], harness := (true, "1ff62c5746e467f31846ed5dc41b4f45647a1b045809cf5b41da4064009477f9"), looks := false }, kinds := [], alts := [], laidByText := true, laidKinds := [.data, .data], laidTests := true, laidLooks := .later }
def ScannerFindsCardSaid : Prop := Claim7.holds Tryd.pinned (.plain (OpenSpec.ofChange scannerFindsSpec)) scannerFindsCard

/-- THE TIED CARD OF 'wirelesslaw22.ScannerUnique'. -/
def scannerUniqueCard : Claim7 := { stood := { row := scannerUniqueRow, standIns := [], harness := (true, "1ff62c5746e467f31846ed5dc41b4f45647a1b045809cf5b41da4064009477f9"), looks := false }, kinds := [], alts := [], laidByText := true, laidKinds := [.data, .data], laidTests := true, laidLooks := .later }
def ScannerUniqueCardSaid : Prop := Claim7.holds Tryd.pinned (.plain (OpenSpec.ofChange scannerUniqueSpec)) scannerUniqueCard

/-- THE TIED CARD OF 'wirelesslaw22.ScannerBackoff'. -/
def scannerBackoffCard : Claim7 := { stood := { row := scannerBackoffRow, standIns := [], harness := (true, "1ff62c5746e467f31846ed5dc41b4f45647a1b045809cf5b41da4064009477f9"), looks := false }, kinds := [], alts := [], laidByText := true, laidKinds := [.data, .data], laidTests := true, laidLooks := .later }
def ScannerBackoffCardSaid : Prop := Claim7.holds Tryd.pinned (.plain (OpenSpec.ofChange scannerBackoffSpec)) scannerBackoffCard

/-- THE TIED CARD OF 'wirelesslaw22.ScannerDoubles'. -/
def scannerDoublesCard : Claim7 := { stood := { row := scannerDoublesRow, standIns := [], harness := (true, "1ff62c5746e467f31846ed5dc41b4f45647a1b045809cf5b41da4064009477f9"), looks := false }, kinds := [], alts := [], laidByText := true, laidKinds := [.data, .data], laidTests := true, laidLooks := .later }
def ScannerDoublesCardSaid : Prop := Claim7.holds Tryd.pinned (.plain (OpenSpec.ofChange scannerDoublesSpec)) scannerDoublesCard

/-- THE SECOND FORM's CARD OF 'wirelesslaw21.AdvertiserStarts'. -/
def advertiserStartsUptoCard : Claim7 := { stood := { row := advertiserStartsUptoRow, standIns := [], harness := (true, "1ff62c5746e467f31846ed5dc41b4f45647a1b045809cf5b41da4064009477f9"), looks := false }, kinds := [], alts := [], laidByText := true, laidKinds := [.data, .data], laidTests := true, laidLooks := .later }
def AdvertiserStartsUptoCardSaid : Prop := Claim7.holds Tryd.pinned (.plain (OpenSpec.upto advertiserStartsSpec)) advertiserStartsUptoCard

/-- THE SECOND FORM's CARD OF 'wirelesslaw21.AdvertiserDelays'. -/
def advertiserDelaysUptoCard : Claim7 := { stood := { row := advertiserDelaysUptoRow, standIns := [], harness := (true, "1ff62c5746e467f31846ed5dc41b4f45647a1b045809cf5b41da4064009477f9"), looks := false }, kinds := [], alts := [], laidByText := true, laidKinds := [.data, .data], laidTests := true, laidLooks := .later }
def AdvertiserDelaysUptoCardSaid : Prop := Claim7.holds Tryd.pinned (.plain (OpenSpec.upto advertiserDelaysSpec)) advertiserDelaysUptoCard

/-- THE SECOND FORM's CARD OF 'wirelesslaw21.AdvertiserEvents'. -/
def advertiserEventsUptoCard : Claim7 := { stood := { row := advertiserEventsUptoRow, standIns := [], harness := (true, "1ff62c5746e467f31846ed5dc41b4f45647a1b045809cf5b41da4064009477f9"), looks := false }, kinds := [], alts := [], laidByText := true, laidKinds := [.data, .data], laidTests := true, laidLooks := .later }
def AdvertiserEventsUptoCardSaid : Prop := Claim7.holds Tryd.pinned (.plain (OpenSpec.upto advertiserEventsSpec)) advertiserEventsUptoCard

/-- THE SECOND FORM's CARD OF 'wirelesslaw21.AdvertiserAnswers'. -/
def advertiserAnswersUptoCard : Claim7 := { stood := { row := advertiserAnswersUptoRow, standIns := [], harness := (true, "1ff62c5746e467f31846ed5dc41b4f45647a1b045809cf5b41da4064009477f9"), looks := false }, kinds := [], alts := [], laidByText := true, laidKinds := [.data, .data], laidTests := true, laidLooks := .later }
def AdvertiserAnswersUptoCardSaid : Prop := Claim7.holds Tryd.pinned (.plain (OpenSpec.upto advertiserAnswersSpec)) advertiserAnswersUptoCard

/-- THE SECOND FORM's CARD OF 'wirelesslaw22.ScannerStarts'. -/
def scannerStartsUptoCard : Claim7 := { stood := { row := scannerStartsUptoRow, standIns := [], harness := (true, "1ff62c5746e467f31846ed5dc41b4f45647a1b045809cf5b41da4064009477f9"), looks := false }, kinds := [], alts := [], laidByText := true, laidKinds := [.data, .data], laidTests := true, laidLooks := .later }
def ScannerStartsUptoCardSaid : Prop := Claim7.holds Tryd.pinned (.plain (OpenSpec.upto scannerStartsSpec)) scannerStartsUptoCard

/-- THE SECOND FORM's CARD OF 'wirelesslaw22.ScannerFinds'. -/
def scannerFindsUptoCard : Claim7 := { stood := { row := scannerFindsUptoRow, standIns := [], harness := (true, "1ff62c5746e467f31846ed5dc41b4f45647a1b045809cf5b41da4064009477f9"), looks := false }, kinds := [], alts := [], laidByText := true, laidKinds := [.data, .data], laidTests := true, laidLooks := .later }
def ScannerFindsUptoCardSaid : Prop := Claim7.holds Tryd.pinned (.plain (OpenSpec.upto scannerFindsSpec)) scannerFindsUptoCard

/-- THE SECOND FORM's CARD OF 'wirelesslaw22.ScannerUnique'. -/
def scannerUniqueUptoCard : Claim7 := { stood := { row := scannerUniqueUptoRow, standIns := [], harness := (true, "1ff62c5746e467f31846ed5dc41b4f45647a1b045809cf5b41da4064009477f9"), looks := false }, kinds := [], alts := [], laidByText := true, laidKinds := [.data, .data], laidTests := true, laidLooks := .later }
def ScannerUniqueUptoCardSaid : Prop := Claim7.holds Tryd.pinned (.plain (OpenSpec.upto scannerUniqueSpec)) scannerUniqueUptoCard

/-- THE SECOND FORM's CARD OF 'wirelesslaw22.ScannerBackoff'. -/
def scannerBackoffUptoCard : Claim7 := { stood := { row := scannerBackoffUptoRow, standIns := [], harness := (true, "1ff62c5746e467f31846ed5dc41b4f45647a1b045809cf5b41da4064009477f9"), looks := false }, kinds := [], alts := [], laidByText := true, laidKinds := [.data, .data], laidTests := true, laidLooks := .later }
def ScannerBackoffUptoCardSaid : Prop := Claim7.holds Tryd.pinned (.plain (OpenSpec.upto scannerBackoffSpec)) scannerBackoffUptoCard

/-- THE SECOND FORM's CARD OF 'wirelesslaw22.ScannerDoubles'. -/
def scannerDoublesUptoCard : Claim7 := { stood := { row := scannerDoublesUptoRow, standIns := [], harness := (true, "1ff62c5746e467f31846ed5dc41b4f45647a1b045809cf5b41da4064009477f9"), looks := false }, kinds := [], alts := [], laidByText := true, laidKinds := [.data, .data], laidTests := true, laidLooks := .later }
def ScannerDoublesUptoCardSaid : Prop := Claim7.holds Tryd.pinned (.plain (OpenSpec.upto scannerDoublesSpec)) scannerDoublesUptoCard
end Rows
end Go.Proofs.YtcbliliinmfnjaaDoor
