/-
  DERIVED. GIVEN WITH THE SEED: THE CARDS: each row of YthpbnipjopjfeaaDoorRows.lean that lists a variable, with what it lists TIED to the program's text (the seventh form; the later family's looks); each row that meets fmt, with fmt's text TOLD by the authors' own Lean function (tested against real Go, not proved from fmt's source: count such statements apart). THE CARD IS WHAT COUNTS. Prove the row's statement (the work); the ties are given (YthpbnipjopjfeaaDoorTie.lean); close each card by the builder's one call (the guide's Derived/Test/ToyasCard.lean, 'card_holds'). Laid BY PROGRAM, IN A SANDBOX (cutbox-door.mjs). By AI agents, Wed Nov 11 2026. No macro, syntax, notation, axiom, sorry.
-/
import Derived.Test.YthpbnipjopjfeaaDoorRows
import GoSem.ClaimSeven
namespace Go.Proofs.YthpbnipjopjfeaaDoor
namespace Rows

/-- THE TIED CARD OF 'wirelesslaw03.CrcSums'. -/
def crcSumsCard : Claim7 := { stood := { row := crcSumsRow, standIns := [], harness := (true, "f839fafdbc79b461964bdcb4f9120b12e9094138e4e74df57bb37e16238624a3"), looks := false }, kinds := [], alts := [], laidByText := true, laidKinds := [.data], laidTests := true, laidLooks := .later }
def CrcSumsCardSaid : Prop := Claim7.holds Tryd.pinned (.plain (OpenSpec.ofChange crcSumsSpec)) crcSumsCard

/-- THE TIED CARD OF 'wirelesslaw03.CrcShifts'. -/
def crcShiftsCard : Claim7 := { stood := { row := crcShiftsRow, standIns := [], harness := (true, "f839fafdbc79b461964bdcb4f9120b12e9094138e4e74df57bb37e16238624a3"), looks := false }, kinds := [], alts := [], laidByText := true, laidKinds := [.data], laidTests := true, laidLooks := .later }
def CrcShiftsCardSaid : Prop := Claim7.holds Tryd.pinned (.plain (OpenSpec.ofChange crcShiftsSpec)) crcShiftsCard

/-- THE TIED CARD OF 'wirelesslaw03.CrcAppends'. -/
def crcAppendsCard : Claim7 := { stood := { row := crcAppendsRow, standIns := [], harness := (true, "f839fafdbc79b461964bdcb4f9120b12e9094138e4e74df57bb37e16238624a3"), looks := false }, kinds := [], alts := [], laidByText := true, laidKinds := [.data], laidTests := true, laidLooks := .later }
def CrcAppendsCardSaid : Prop := Claim7.holds Tryd.pinned (.plain (OpenSpec.ofChange crcAppendsSpec)) crcAppendsCard

/-- THE TIED CARD OF 'wirelesslaw03.CrcContinues'. -/
def crcContinuesCard : Claim7 := { stood := { row := crcContinuesRow, standIns := [], harness := (true, "f839fafdbc79b461964bdcb4f9120b12e9094138e4e74df57bb37e16238624a3"), looks := false }, kinds := [], alts := [], laidByText := true, laidKinds := [.data], laidTests := true, laidLooks := .later }
def CrcContinuesCardSaid : Prop := Claim7.holds Tryd.pinned (.plain (OpenSpec.ofChange crcContinuesSpec)) crcContinuesCard

/-- THE TIED CARD OF 'wirelesslaw03.CrcLinear'. -/
def crcLinearCard : Claim7 := { stood := { row := crcLinearRow, standIns := [], harness := (true, "f839fafdbc79b461964bdcb4f9120b12e9094138e4e74df57bb37e16238624a3"), looks := false }, kinds := [], alts := [], laidByText := true, laidKinds := [.data], laidTests := true, laidLooks := .later }
def CrcLinearCardSaid : Prop := Claim7.holds Tryd.pinned (.plain (OpenSpec.ofChange crcLinearSpec)) crcLinearCard

/-- THE TIED CARD OF 'wirelesslaw03.CrcDetects'. -/
def crcDetectsCard : Claim7 := { stood := { row := crcDetectsRow, standIns := [], harness := (true, "f839fafdbc79b461964bdcb4f9120b12e9094138e4e74df57bb37e16238624a3"), looks := false }, kinds := [], alts := [], laidByText := true, laidKinds := [.data], laidTests := true, laidLooks := .later }
def CrcDetectsCardSaid : Prop := Claim7.holds Tryd.pinned (.plain (OpenSpec.ofChange crcDetectsSpec)) crcDetectsCard

/-- THE TIED CARD OF 'wirelesslaw04.WhitenBursts'. -/
def whitenBurstsCard : Claim7 := { stood := { row := whitenBurstsRow, standIns := [], harness := (true, "f839fafdbc79b461964bdcb4f9120b12e9094138e4e74df57bb37e16238624a3"), looks := false }, kinds := [], alts := [], laidByText := true, laidKinds := [.data], laidTests := true, laidLooks := .later }
def WhitenBurstsCardSaid : Prop := Claim7.holds Tryd.pinned (.plain (OpenSpec.ofChange whitenBurstsSpec)) whitenBurstsCard

/-- THE SECOND FORM's CARD OF 'wirelesslaw03.CrcSums'. -/
def crcSumsUptoCard : Claim7 := { stood := { row := crcSumsUptoRow, standIns := [], harness := (true, "f839fafdbc79b461964bdcb4f9120b12e9094138e4e74df57bb37e16238624a3"), looks := false }, kinds := [], alts := [], laidByText := true, laidKinds := [.data], laidTests := true, laidLooks := .later }
def CrcSumsUptoCardSaid : Prop := Claim7.holds Tryd.pinned (.plain (OpenSpec.upto crcSumsSpec)) crcSumsUptoCard

/-- THE SECOND FORM's CARD OF 'wirelesslaw03.CrcShifts'. -/
def crcShiftsUptoCard : Claim7 := { stood := { row := crcShiftsUptoRow, standIns := [], harness := (true, "f839fafdbc79b461964bdcb4f9120b12e9094138e4e74df57bb37e16238624a3"), looks := false }, kinds := [], alts := [], laidByText := true, laidKinds := [.data], laidTests := true, laidLooks := .later }
def CrcShiftsUptoCardSaid : Prop := Claim7.holds Tryd.pinned (.plain (OpenSpec.upto crcShiftsSpec)) crcShiftsUptoCard

/-- THE SECOND FORM's CARD OF 'wirelesslaw03.CrcAppends'. -/
def crcAppendsUptoCard : Claim7 := { stood := { row := crcAppendsUptoRow, standIns := [], harness := (true, "f839fafdbc79b461964bdcb4f9120b12e9094138e4e74df57bb37e16238624a3"), looks := false }, kinds := [], alts := [], laidByText := true, laidKinds := [.data], laidTests := true, laidLooks := .later }
def CrcAppendsUptoCardSaid : Prop := Claim7.holds Tryd.pinned (.plain (OpenSpec.upto crcAppendsSpec)) crcAppendsUptoCard

/-- THE SECOND FORM's CARD OF 'wirelesslaw03.CrcContinues'. -/
def crcContinuesUptoCard : Claim7 := { stood := { row := crcContinuesUptoRow, standIns := [], harness := (true, "f839fafdbc79b461964bdcb4f9120b12e9094138e4e74df57bb37e16238624a3"), looks := false }, kinds := [], alts := [], laidByText := true, laidKinds := [.data], laidTests := true, laidLooks := .later }
def CrcContinuesUptoCardSaid : Prop := Claim7.holds Tryd.pinned (.plain (OpenSpec.upto crcContinuesSpec)) crcContinuesUptoCard

/-- THE SECOND FORM's CARD OF 'wirelesslaw03.CrcLinear'. -/
def crcLinearUptoCard : Claim7 := { stood := { row := crcLinearUptoRow, standIns := [], harness := (true, "f839fafdbc79b461964bdcb4f9120b12e9094138e4e74df57bb37e16238624a3"), looks := false }, kinds := [], alts := [], laidByText := true, laidKinds := [.data], laidTests := true, laidLooks := .later }
def CrcLinearUptoCardSaid : Prop := Claim7.holds Tryd.pinned (.plain (OpenSpec.upto crcLinearSpec)) crcLinearUptoCard

/-- THE SECOND FORM's CARD OF 'wirelesslaw03.CrcDetects'. -/
def crcDetectsUptoCard : Claim7 := { stood := { row := crcDetectsUptoRow, standIns := [], harness := (true, "f839fafdbc79b461964bdcb4f9120b12e9094138e4e74df57bb37e16238624a3"), looks := false }, kinds := [], alts := [], laidByText := true, laidKinds := [.data], laidTests := true, laidLooks := .later }
def CrcDetectsUptoCardSaid : Prop := Claim7.holds Tryd.pinned (.plain (OpenSpec.upto crcDetectsSpec)) crcDetectsUptoCard

/-- THE SECOND FORM's CARD OF 'wirelesslaw04.WhitenBursts'. -/
def whitenBurstsUptoCard : Claim7 := { stood := { row := whitenBurstsUptoRow, standIns := [], harness := (true, "f839fafdbc79b461964bdcb4f9120b12e9094138e4e74df57bb37e16238624a3"), looks := false }, kinds := [], alts := [], laidByText := true, laidKinds := [.data], laidTests := true, laidLooks := .later }
def WhitenBurstsUptoCardSaid : Prop := Claim7.holds Tryd.pinned (.plain (OpenSpec.upto whitenBurstsSpec)) whitenBurstsUptoCard
end Rows
end Go.Proofs.YthpbnipjopjfeaaDoor
