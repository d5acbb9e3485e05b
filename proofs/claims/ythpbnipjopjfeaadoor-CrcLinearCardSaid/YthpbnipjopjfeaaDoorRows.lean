/-
  NARROWER THAN 'FOR EVERY INPUT', by the rows' own cells (each row's printed sentence says how): CrcSums: laid · CrcShifts: laid · CrcAppends: laid · CrcContinues: laid · CrcLinear: laid · CrcDetects: laid · WhitenBursts: laid.
  DERIVED. THE GIVEN ROWS OF THIS SEAT. 7 by the template 'for every input the law returns true; each argument reads behind the call as it read before'; 0 by the template 'total and deterministic' (their statements: YthpbnipjopjfeaaDoorTotals.lean).
  GIVEN WITH THE SEED: the statements are not yours to turn. If you find one false, say at which input.
  Laid BY PROGRAM, IN A SANDBOX (cutbox-rows.mjs): the forced cells as the released guide's own fill.sh prints them over the translation 72798aaf46e8a74e… (all of the seat's roots in one cut). By AI agents, Wed Nov 11 2026. No macro, syntax, notation, axiom, sorry.
-/
import Derived.Test.YthpbnipjopjfeaaDoorChecked
import GoSem.Claim
import GoSem.ClaimJoined
import GoSem.ClaimMapViews
import Derived.JoinedTies
import Derived.KernelRfl
namespace Go.Proofs.YthpbnipjopjfeaaDoor
/- THE CELL 'sum', in the pinned program and in every row, IS THE sha256 OF THE DUMP (.gsa) THAT YthpbnipjopjfeaaDoorProg.lean LOADS. Nothing in Lean hashes anything: it is a label: what it is worth is what the hold of that sum in a sandbox is worth. -/
noncomputable def Tryd.pinned : Pinned := { name := "ythpbnipjopjfeaadoor", sum := "72798aaf46e8a74ee65af82419286f86c8d586d74dc395d383833409951777e6", checked := Tryd.checked }
namespace Rows
def none {H : Type} : Left H := { results := [], args := [] }

/- WHAT THE LISTED PACKAGE-LEVEL VARIABLES READ AS WHEN THE CALL BEGINS. Each datum BY PROGRAM (the guide's laid-datum.mjs) off the statement by which the dump's own 'gosem.cut.vars' lays the variable. In a bare row this is a premise. The card (YthpbnipjopjfeaaDoorCards.lean) ties it to the program's text. -/
def laid_wireless_crc_halves {H : Type} : DataW H := .agg [.lit (.int .u32 0), .lit (.int .u32 1788928), .lit (.int .u32 3577856), .lit (.int .u32 3003392), .lit (.int .u32 7155712), .lit (.int .u32 7764992), .lit (.int .u32 6006784), .lit (.int .u32 4252672), .lit (.int .u32 14311424), .lit (.int .u32 12659712), .lit (.int .u32 15529984), .lit (.int .u32 16233472), .lit (.int .u32 12013568), .lit (.int .u32 11279360), .lit (.int .u32 8505344), .lit (.int .u32 10126336)]

/-- 'wirelesslaw03.CrcSums': WHATEVER THE INPUT: true; the input reads as it did. -/
def crcSumsSpec : ChangeSpec := { name := "crcSums", fn := fun _ => fun
  | [d1, d2] => { results := [.lit (.bool true)], args := [d1, d2] }
  | _ => none }
def crcSumsRow : OpenClaim := { program := "ythpbnipjopjfeaadoor", sum := "72798aaf46e8a74ee65af82419286f86c8d586d74dc395d383833409951777e6", func := "wireless/wirelesslaw03.CrcSums", spec := "crcSums", named := ["wireless/crc.halves"], apart := false, laid := [("wireless/crc.halves", laid_wireless_crc_halves)] }
def CrcSumsSaid : Prop := crcSumsRow.holds Tryd.pinned (OpenSpec.ofChange crcSumsSpec)

/-- ITS FALSE NEIGHBOUR: 'it returns false'. Refute it at one input. -/
def crcSumsWrong : ChangeSpec := { name := "crcSums", fn := fun _ => fun
  | [d1, d2] => { results := [.lit (.bool false)], args := [d1, d2] }
  | _ => none }
def CrcSumsWrongFalsely : Prop := crcSumsRow.holds Tryd.pinned (OpenSpec.ofChange crcSumsWrong)

/-- 'wirelesslaw03.CrcShifts': WHATEVER THE INPUT: true; the input reads as it did. -/
def crcShiftsSpec : ChangeSpec := { name := "crcShifts", fn := fun _ => fun
  | [d1, d2] => { results := [.lit (.bool true)], args := [d1, d2] }
  | _ => none }
def crcShiftsRow : OpenClaim := { program := "ythpbnipjopjfeaadoor", sum := "72798aaf46e8a74ee65af82419286f86c8d586d74dc395d383833409951777e6", func := "wireless/wirelesslaw03.CrcShifts", spec := "crcShifts", named := ["wireless/crc.halves"], apart := false, laid := [("wireless/crc.halves", laid_wireless_crc_halves)] }
def CrcShiftsSaid : Prop := crcShiftsRow.holds Tryd.pinned (OpenSpec.ofChange crcShiftsSpec)

/-- ITS FALSE NEIGHBOUR: 'it returns false'. Refute it at one input. -/
def crcShiftsWrong : ChangeSpec := { name := "crcShifts", fn := fun _ => fun
  | [d1, d2] => { results := [.lit (.bool false)], args := [d1, d2] }
  | _ => none }
def CrcShiftsWrongFalsely : Prop := crcShiftsRow.holds Tryd.pinned (OpenSpec.ofChange crcShiftsWrong)

/-- 'wirelesslaw03.CrcAppends': WHATEVER THE INPUT: true; the input reads as it did. -/
def crcAppendsSpec : ChangeSpec := { name := "crcAppends", fn := fun _ => fun
  | [d1, d2] => { results := [.lit (.bool true)], args := [d1, d2] }
  | _ => none }
def crcAppendsRow : OpenClaim := { program := "ythpbnipjopjfeaadoor", sum := "72798aaf46e8a74ee65af82419286f86c8d586d74dc395d383833409951777e6", func := "wireless/wirelesslaw03.CrcAppends", spec := "crcAppends", named := ["wireless/crc.halves"], apart := false, laid := [("wireless/crc.halves", laid_wireless_crc_halves)] }
def CrcAppendsSaid : Prop := crcAppendsRow.holds Tryd.pinned (OpenSpec.ofChange crcAppendsSpec)

/-- ITS FALSE NEIGHBOUR: 'it returns false'. Refute it at one input. -/
def crcAppendsWrong : ChangeSpec := { name := "crcAppends", fn := fun _ => fun
  | [d1, d2] => { results := [.lit (.bool false)], args := [d1, d2] }
  | _ => none }
def CrcAppendsWrongFalsely : Prop := crcAppendsRow.holds Tryd.pinned (OpenSpec.ofChange crcAppendsWrong)

/-- 'wirelesslaw03.CrcContinues': WHATEVER THE INPUT: true; the input reads as it did. -/
def crcContinuesSpec : ChangeSpec := { name := "crcContinues", fn := fun _ => fun
  | [d1, d2, d3] => { results := [.lit (.bool true)], args := [d1, d2, d3] }
  | _ => none }
def crcContinuesRow : OpenClaim := { program := "ythpbnipjopjfeaadoor", sum := "72798aaf46e8a74ee65af82419286f86c8d586d74dc395d383833409951777e6", func := "wireless/wirelesslaw03.CrcContinues", spec := "crcContinues", named := ["wireless/crc.halves"], apart := false, laid := [("wireless/crc.halves", laid_wireless_crc_halves)] }
def CrcContinuesSaid : Prop := crcContinuesRow.holds Tryd.pinned (OpenSpec.ofChange crcContinuesSpec)

/-- ITS FALSE NEIGHBOUR: 'it returns false'. Refute it at one input. -/
def crcContinuesWrong : ChangeSpec := { name := "crcContinues", fn := fun _ => fun
  | [d1, d2, d3] => { results := [.lit (.bool false)], args := [d1, d2, d3] }
  | _ => none }
def CrcContinuesWrongFalsely : Prop := crcContinuesRow.holds Tryd.pinned (OpenSpec.ofChange crcContinuesWrong)

/-- 'wirelesslaw03.CrcLinear': WHATEVER THE INPUT: true; the input reads as it did. -/
def crcLinearSpec : ChangeSpec := { name := "crcLinear", fn := fun _ => fun
  | [d1, d2, d3] => { results := [.lit (.bool true)], args := [d1, d2, d3] }
  | _ => none }
def crcLinearRow : OpenClaim := { program := "ythpbnipjopjfeaadoor", sum := "72798aaf46e8a74ee65af82419286f86c8d586d74dc395d383833409951777e6", func := "wireless/wirelesslaw03.CrcLinear", spec := "crcLinear", named := ["wireless/crc.halves"], apart := false, laid := [("wireless/crc.halves", laid_wireless_crc_halves)] }
def CrcLinearSaid : Prop := crcLinearRow.holds Tryd.pinned (OpenSpec.ofChange crcLinearSpec)

/-- ITS FALSE NEIGHBOUR: 'it returns false'. Refute it at one input. -/
def crcLinearWrong : ChangeSpec := { name := "crcLinear", fn := fun _ => fun
  | [d1, d2, d3] => { results := [.lit (.bool false)], args := [d1, d2, d3] }
  | _ => none }
def CrcLinearWrongFalsely : Prop := crcLinearRow.holds Tryd.pinned (OpenSpec.ofChange crcLinearWrong)

/-- 'wirelesslaw03.CrcDetects': WHATEVER THE INPUT: true; the input reads as it did. -/
def crcDetectsSpec : ChangeSpec := { name := "crcDetects", fn := fun _ => fun
  | [d1, d2, d3] => { results := [.lit (.bool true)], args := [d1, d2, d3] }
  | _ => none }
def crcDetectsRow : OpenClaim := { program := "ythpbnipjopjfeaadoor", sum := "72798aaf46e8a74ee65af82419286f86c8d586d74dc395d383833409951777e6", func := "wireless/wirelesslaw03.CrcDetects", spec := "crcDetects", named := ["wireless/crc.halves"], apart := false, laid := [("wireless/crc.halves", laid_wireless_crc_halves)] }
def CrcDetectsSaid : Prop := crcDetectsRow.holds Tryd.pinned (OpenSpec.ofChange crcDetectsSpec)

/-- ITS FALSE NEIGHBOUR: 'it returns false'. Refute it at one input. -/
def crcDetectsWrong : ChangeSpec := { name := "crcDetects", fn := fun _ => fun
  | [d1, d2, d3] => { results := [.lit (.bool false)], args := [d1, d2, d3] }
  | _ => none }
def CrcDetectsWrongFalsely : Prop := crcDetectsRow.holds Tryd.pinned (OpenSpec.ofChange crcDetectsWrong)

/-- 'wirelesslaw04.WhitenBursts': WHATEVER THE INPUT: true; the input reads as it did. -/
def whitenBurstsSpec : ChangeSpec := { name := "whitenBursts", fn := fun _ => fun
  | [d1, d2] => { results := [.lit (.bool true)], args := [d1, d2] }
  | _ => none }
def whitenBurstsRow : OpenClaim := { program := "ythpbnipjopjfeaadoor", sum := "72798aaf46e8a74ee65af82419286f86c8d586d74dc395d383833409951777e6", func := "wireless/wirelesslaw04.WhitenBursts", spec := "whitenBursts", named := ["wireless/crc.halves"], apart := false, laid := [("wireless/crc.halves", laid_wireless_crc_halves)] }
def WhitenBurstsSaid : Prop := whitenBurstsRow.holds Tryd.pinned (OpenSpec.ofChange whitenBurstsSpec)

/-- ITS FALSE NEIGHBOUR: 'it returns false'. Refute it at one input. -/
def whitenBurstsWrong : ChangeSpec := { name := "whitenBursts", fn := fun _ => fun
  | [d1, d2] => { results := [.lit (.bool false)], args := [d1, d2] }
  | _ => none }
def WhitenBurstsWrongFalsely : Prop := whitenBurstsRow.holds Tryd.pinned (OpenSpec.ofChange whitenBurstsWrong)

/- THE SECOND FORM. 'bulk': how many values and letters a reading holds, each counted each time it is reached (what is shared counts as often as it is met; a slice's spare places count too). A statement '..UptoSaid' is the law's where the arguments, and the package variables that the reading takes, are together of bulk at most 1048576: NARROWER than '..Said'. Prove '..Said' where nothing that the law and all that it calls make is longer than what came in: it says more and counts as full. Else prove '..UptoSaid'. A law counts once. -/
mutual
def uptoBulk {H : Type} : DataW H → Nat
  | .lit (.string bytes) => bytes.length + 1
  | .lit _ => 1
  | .nil => 1
  | .ptr d => uptoBulk d + 1
  | .slice elems spare => uptoBulkAll elems + uptoBulkAll spare + 1
  | .agg parts => uptoBulkAll parts + 1
  | .iface _ d => uptoBulk d + 1
  | .map entries => uptoBulkEntries entries + 1
  | .held _ => 1
def uptoBulkAll {H : Type} : List (DataW H) → Nat
  | [] => 0
  | d :: r => uptoBulk d + uptoBulkAll r
def uptoBulkEntries {H : Type} : List (Lit × DataW H) → Nat
  | [] => 0
  | x :: r => uptoBulkEntry x + uptoBulkEntries r
def uptoBulkEntry {H : Type} : Lit × DataW H → Nat
  | (.string bytes, d) => bytes.length + uptoBulk d + 1
  | (_, d) => uptoBulk d + 1
 end
def uptoSmall : (H : Type) → List (DataW H) → Bool := fun _ ds => decide (uptoBulkAll ds ≤ 1048576)
def OpenSpec.upto (s : _root_.Go.ChangeSpec) : _root_.Go.OpenSpec := { _root_.Go.OpenSpec.ofChange s with cond := some uptoSmall }

/-- 'wirelesslaw03.CrcSums', WHERE WHAT IT READS IS OF BULK AT MOST 1048576: true; the input reads as it did. -/
def crcSumsUptoRow : OpenClaim := { program := "ythpbnipjopjfeaadoor", sum := "72798aaf46e8a74ee65af82419286f86c8d586d74dc395d383833409951777e6", func := "wireless/wirelesslaw03.CrcSums", spec := "crcSums", named := ["wireless/crc.halves"], apart := false, laid := [("wireless/crc.halves", laid_wireless_crc_halves)], narrowed := true }
def CrcSumsUptoSaid : Prop := crcSumsUptoRow.holds Tryd.pinned (OpenSpec.upto crcSumsSpec)

/-- 'wirelesslaw03.CrcShifts', WHERE WHAT IT READS IS OF BULK AT MOST 1048576: true; the input reads as it did. -/
def crcShiftsUptoRow : OpenClaim := { program := "ythpbnipjopjfeaadoor", sum := "72798aaf46e8a74ee65af82419286f86c8d586d74dc395d383833409951777e6", func := "wireless/wirelesslaw03.CrcShifts", spec := "crcShifts", named := ["wireless/crc.halves"], apart := false, laid := [("wireless/crc.halves", laid_wireless_crc_halves)], narrowed := true }
def CrcShiftsUptoSaid : Prop := crcShiftsUptoRow.holds Tryd.pinned (OpenSpec.upto crcShiftsSpec)

/-- 'wirelesslaw03.CrcAppends', WHERE WHAT IT READS IS OF BULK AT MOST 1048576: true; the input reads as it did. -/
def crcAppendsUptoRow : OpenClaim := { program := "ythpbnipjopjfeaadoor", sum := "72798aaf46e8a74ee65af82419286f86c8d586d74dc395d383833409951777e6", func := "wireless/wirelesslaw03.CrcAppends", spec := "crcAppends", named := ["wireless/crc.halves"], apart := false, laid := [("wireless/crc.halves", laid_wireless_crc_halves)], narrowed := true }
def CrcAppendsUptoSaid : Prop := crcAppendsUptoRow.holds Tryd.pinned (OpenSpec.upto crcAppendsSpec)

/-- 'wirelesslaw03.CrcContinues', WHERE WHAT IT READS IS OF BULK AT MOST 1048576: true; the input reads as it did. -/
def crcContinuesUptoRow : OpenClaim := { program := "ythpbnipjopjfeaadoor", sum := "72798aaf46e8a74ee65af82419286f86c8d586d74dc395d383833409951777e6", func := "wireless/wirelesslaw03.CrcContinues", spec := "crcContinues", named := ["wireless/crc.halves"], apart := false, laid := [("wireless/crc.halves", laid_wireless_crc_halves)], narrowed := true }
def CrcContinuesUptoSaid : Prop := crcContinuesUptoRow.holds Tryd.pinned (OpenSpec.upto crcContinuesSpec)

/-- 'wirelesslaw03.CrcLinear', WHERE WHAT IT READS IS OF BULK AT MOST 1048576: true; the input reads as it did. -/
def crcLinearUptoRow : OpenClaim := { program := "ythpbnipjopjfeaadoor", sum := "72798aaf46e8a74ee65af82419286f86c8d586d74dc395d383833409951777e6", func := "wireless/wirelesslaw03.CrcLinear", spec := "crcLinear", named := ["wireless/crc.halves"], apart := false, laid := [("wireless/crc.halves", laid_wireless_crc_halves)], narrowed := true }
def CrcLinearUptoSaid : Prop := crcLinearUptoRow.holds Tryd.pinned (OpenSpec.upto crcLinearSpec)

/-- 'wirelesslaw03.CrcDetects', WHERE WHAT IT READS IS OF BULK AT MOST 1048576: true; the input reads as it did. -/
def crcDetectsUptoRow : OpenClaim := { program := "ythpbnipjopjfeaadoor", sum := "72798aaf46e8a74ee65af82419286f86c8d586d74dc395d383833409951777e6", func := "wireless/wirelesslaw03.CrcDetects", spec := "crcDetects", named := ["wireless/crc.halves"], apart := false, laid := [("wireless/crc.halves", laid_wireless_crc_halves)], narrowed := true }
def CrcDetectsUptoSaid : Prop := crcDetectsUptoRow.holds Tryd.pinned (OpenSpec.upto crcDetectsSpec)

/-- 'wirelesslaw04.WhitenBursts', WHERE WHAT IT READS IS OF BULK AT MOST 1048576: true; the input reads as it did. -/
def whitenBurstsUptoRow : OpenClaim := { program := "ythpbnipjopjfeaadoor", sum := "72798aaf46e8a74ee65af82419286f86c8d586d74dc395d383833409951777e6", func := "wireless/wirelesslaw04.WhitenBursts", spec := "whitenBursts", named := ["wireless/crc.halves"], apart := false, laid := [("wireless/crc.halves", laid_wireless_crc_halves)], narrowed := true }
def WhitenBurstsUptoSaid : Prop := whitenBurstsUptoRow.holds Tryd.pinned (OpenSpec.upto whitenBurstsSpec)

end Rows
end Go.Proofs.YthpbnipjopjfeaaDoor
