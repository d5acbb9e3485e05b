/-
  DERIVED. GIVEN WITH THE SEED: THE CARDS: each row of YtcjlliilfecmnaaDoorRows.lean that lists a variable, with what it lists TIED to the program's text (the seventh form; the later family's looks); each row that meets fmt, with fmt's text TOLD by the authors' own Lean function (tested against real Go, not proved from fmt's source: count such statements apart). THE CARD IS WHAT COUNTS. Prove the row's statement (the work); the ties are given (YtcjlliilfecmnaaDoorTie.lean); close each card by the builder's one call (the guide's Derived/Test/ToyasCard.lean, 'card_holds'). Laid BY PROGRAM, IN A SANDBOX (cutbox-door.mjs). By AI agents, Wed Nov 11 2026. No macro, syntax, notation, axiom, sorry.
-/
import Derived.Test.YtcjlliilfecmnaaDoorRows
import GoSem.ClaimSeven
namespace Go.Proofs.YtcjlliilfecmnaaDoor
namespace Rows

/-- THE TIED CARD OF 'wirelesslaw19.AdvpduChecks'. -/
def advpduChecksCard : Claim7 := { stood := { row := advpduChecksRow, standIns := [], harness := (true, "faf82f218c4d3e518cd5d050ba1f4681182fb08ce964e582ef0aceb1de916724"), looks := false }, kinds := [], alts := [], laidByText := true, laidKinds := [.data, .data], laidTests := true, laidLooks := .later }
def AdvpduChecksCardSaid : Prop := Claim7.holds Tryd.pinned (.plain (OpenSpec.ofChange advpduChecksSpec)) advpduChecksCard

/-- THE TIED CARD OF 'wirelesslaw19.AdvpduEncodes'. -/
def advpduEncodesCard : Claim7 := { stood := { row := advpduEncodesRow, standIns := [], harness := (true, "faf82f218c4d3e518cd5d050ba1f4681182fb08ce964e582ef0aceb1de916724"), looks := false }, kinds := [], alts := [], laidByText := true, laidKinds := [.data, .data], laidTests := true, laidLooks := .later }
def AdvpduEncodesCardSaid : Prop := Claim7.holds Tryd.pinned (.plain (OpenSpec.ofChange advpduEncodesSpec)) advpduEncodesCard

/-- THE TIED CARD OF 'wirelesslaw19.AdvpduDecodes'. -/
def advpduDecodesCard : Claim7 := { stood := { row := advpduDecodesRow, standIns := [], harness := (true, "faf82f218c4d3e518cd5d050ba1f4681182fb08ce964e582ef0aceb1de916724"), looks := false }, kinds := [], alts := [], laidByText := true, laidKinds := [.data, .data], laidTests := true, laidLooks := .later }
def AdvpduDecodesCardSaid : Prop := Claim7.holds Tryd.pinned (.plain (OpenSpec.ofChange advpduDecodesSpec)) advpduDecodesCard

/-- THE TIED CARD OF 'wirelesslaw19.AdvpduKinds'. -/
def advpduKindsCard : Claim7 := { stood := { row := advpduKindsRow, standIns := [], harness := (true, "faf82f218c4d3e518cd5d050ba1f4681182fb08ce964e582ef0aceb1de916724"), looks := false }, kinds := [], alts := [], laidByText := true, laidKinds := [.data, .data], laidTests := true, laidLooks := .later }
def AdvpduKindsCardSaid : Prop := Claim7.holds Tryd.pinned (.plain (OpenSpec.ofChange advpduKindsSpec)) advpduKindsCard

/-- THE TIED CARD OF 'wirelesslaw19.AdvpduBack'. -/
def advpduBackCard : Claim7 := { stood := { row := advpduBackRow, standIns := [], harness := (true, "faf82f218c4d3e518cd5d050ba1f4681182fb08ce964e582ef0aceb1de916724"), looks := false }, kinds := [], alts := [], laidByText := true, laidKinds := [.data, .data], laidTests := true, laidLooks := .later }
def AdvpduBackCardSaid : Prop := Claim7.holds Tryd.pinned (.plain (OpenSpec.ofChange advpduBackSpec)) advpduBackCard

/-- THE TIED CARD OF 'wirelesslaw19.AdvpduLengths'. -/
def advpduLengthsCard : Claim7 := { stood := { row := advpduLengthsRow, standIns := [], harness := (true, "faf82f218c4d3e518cd5d050ba1f4681182fb08ce964e582ef0aceb1de916724"), looks := false }, kinds := [], alts := [], laidByText := true, laidKinds := [.data, .data], laidTests := true, laidLooks := .later }
def AdvpduLengthsCardSaid : Prop := Claim7.holds Tryd.pinned (.plain (OpenSpec.ofChange advpduLengthsSpec)) advpduLengthsCard

/-- THE SECOND FORM's CARD OF 'wirelesslaw19.AdvpduChecks'. -/
def advpduChecksUptoCard : Claim7 := { stood := { row := advpduChecksUptoRow, standIns := [], harness := (true, "faf82f218c4d3e518cd5d050ba1f4681182fb08ce964e582ef0aceb1de916724"), looks := false }, kinds := [], alts := [], laidByText := true, laidKinds := [.data, .data], laidTests := true, laidLooks := .later }
def AdvpduChecksUptoCardSaid : Prop := Claim7.holds Tryd.pinned (.plain (OpenSpec.upto advpduChecksSpec)) advpduChecksUptoCard

/-- THE SECOND FORM's CARD OF 'wirelesslaw19.AdvpduEncodes'. -/
def advpduEncodesUptoCard : Claim7 := { stood := { row := advpduEncodesUptoRow, standIns := [], harness := (true, "faf82f218c4d3e518cd5d050ba1f4681182fb08ce964e582ef0aceb1de916724"), looks := false }, kinds := [], alts := [], laidByText := true, laidKinds := [.data, .data], laidTests := true, laidLooks := .later }
def AdvpduEncodesUptoCardSaid : Prop := Claim7.holds Tryd.pinned (.plain (OpenSpec.upto advpduEncodesSpec)) advpduEncodesUptoCard

/-- THE SECOND FORM's CARD OF 'wirelesslaw19.AdvpduDecodes'. -/
def advpduDecodesUptoCard : Claim7 := { stood := { row := advpduDecodesUptoRow, standIns := [], harness := (true, "faf82f218c4d3e518cd5d050ba1f4681182fb08ce964e582ef0aceb1de916724"), looks := false }, kinds := [], alts := [], laidByText := true, laidKinds := [.data, .data], laidTests := true, laidLooks := .later }
def AdvpduDecodesUptoCardSaid : Prop := Claim7.holds Tryd.pinned (.plain (OpenSpec.upto advpduDecodesSpec)) advpduDecodesUptoCard

/-- THE SECOND FORM's CARD OF 'wirelesslaw19.AdvpduKinds'. -/
def advpduKindsUptoCard : Claim7 := { stood := { row := advpduKindsUptoRow, standIns := [], harness := (true, "faf82f218c4d3e518cd5d050ba1f4681182fb08ce964e582ef0aceb1de916724"), looks := false }, kinds := [], alts := [], laidByText := true, laidKinds := [.data, .data], laidTests := true, laidLooks := .later }
def AdvpduKindsUptoCardSaid : Prop := Claim7.holds Tryd.pinned (.plain (OpenSpec.upto advpduKindsSpec)) advpduKindsUptoCard

/-- THE SECOND FORM's CARD OF 'wirelesslaw19.AdvpduBack'. -/
def advpduBackUptoCard : Claim7 := { stood := { row := advpduBackUptoRow, standIns := [], harness := (true, "faf82f218c4d3e518cd5d050ba1f4681182fb08ce964e582ef0aceb1de916724"), looks := false }, kinds := [], alts := [], laidByText := true, laidKinds := [.data, .data], laidTests := true, laidLooks := .later }
def AdvpduBackUptoCardSaid : Prop := Claim7.holds Tryd.pinned (.plain (OpenSpec.upto advpduBackSpec)) advpduBackUptoCard

/-- THE SECOND FORM's CARD OF 'wirelesslaw19.AdvpduLengths'. -/
def advpduLengthsUptoCard : Claim7 := { stood := { row := advpduLengthsUptoRow, standIns := [], harness := (true, "faf82f218c4d3e518cd5d050ba1f4681182fb08ce964e582ef0aceb1de916724"), looks := false }, kinds := [], alts := [], laidByText := true, laidKinds := [.data, .data], laidTests := true, laidLooks := .later }
def AdvpduLengthsUptoCardSaid : Prop := Claim7.holds Tryd.pinned (.plain (OpenSpec.upto advpduLengthsSpec)) advpduLengthsUptoCard
end Rows
end Go.Proofs.YtcjlliilfecmnaaDoor
