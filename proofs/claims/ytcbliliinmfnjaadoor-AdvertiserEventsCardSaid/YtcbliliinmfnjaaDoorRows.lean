/-
  NARROWER THAN 'FOR EVERY INPUT', by the rows' own cells (each row's printed sentence says how): AdvertiserStarts: laid · AdvertiserDelays: laid · AdvertiserEvents: laid · AdvertiserAnswers: laid · ScannerStarts: laid · ScannerFinds: laid · ScannerUnique: laid · ScannerBackoff: laid · ScannerDoubles: laid.
  DERIVED. THE GIVEN ROWS OF THIS SEAT. 9 by the template 'for every input the law returns true; each argument reads behind the call as it read before'; 0 by the template 'total and deterministic' (their statements: YtcbliliinmfnjaaDoorTotals.lean).
  GIVEN WITH THE SEED: the statements are not yours to turn. If you find one false, say at which input.
  Laid BY PROGRAM, IN A SANDBOX (cutbox-rows.mjs): the forced cells as the released guide's own fill.sh prints them over the translation c249e136c3e1c5d5… (all of the seat's roots in one cut). By AI agents, Wed Nov 11 2026. No macro, syntax, notation, axiom, sorry.
-/
import Derived.Test.YtcbliliinmfnjaaDoorChecked
import GoSem.Claim
import GoSem.ClaimJoined
import GoSem.ClaimMapViews
import Derived.JoinedTies
import Derived.KernelRfl
namespace Go.Proofs.YtcbliliinmfnjaaDoor
/- THE CELL 'sum', in the pinned program and in every row, IS THE sha256 OF THE DUMP (.gsa) THAT YtcbliliinmfnjaaDoorProg.lean LOADS. Nothing in Lean hashes anything: it is a label: what it is worth is what the hold of that sum in a sandbox is worth. -/
noncomputable def Tryd.pinned : Pinned := { name := "ytcbliliinmfnjaadoor", sum := "c249e136c3e1c5d59b8fb731571f88bd85e3b3c9e2d79af0e4cfe1571d266116", checked := Tryd.checked }
namespace Rows
def none {H : Type} : Left H := { results := [], args := [] }

/- WHAT THE LISTED PACKAGE-LEVEL VARIABLES READ AS WHEN THE CALL BEGINS. Each datum BY PROGRAM (the guide's laid-datum.mjs) off the statement by which the dump's own 'gosem.cut.vars' lays the variable. In a bare row this is a premise. The card (YtcbliliinmfnjaaDoorCards.lean) ties it to the program's text. -/
def laid_wireless_address_prefixes {H : Type} : DataW H := .agg [.lit (.int .u64 0), .lit (.int .u64 0), .lit (.int .u64 3), .lit (.int .u64 1), .lit (.int .u64 0)]
def laid_wireless_address_randomAt {H : Type} : DataW H := .agg [.lit (.int .i64 0), .lit (.int .i64 0), .lit (.int .i64 0), .lit (.int .i64 24), .lit (.int .i64 0)]

/-- 'wirelesslaw21.AdvertiserStarts': WHATEVER THE INPUT: true; the input reads as it did. -/
def advertiserStartsSpec : ChangeSpec := { name := "advertiserStarts", fn := fun _ => fun
  | [d1, d2] => { results := [.lit (.bool true)], args := [d1, d2] }
  | _ => none }
def advertiserStartsRow : OpenClaim := { program := "ytcbliliinmfnjaadoor", sum := "c249e136c3e1c5d59b8fb731571f88bd85e3b3c9e2d79af0e4cfe1571d266116", func := "wireless/wirelesslaw21.AdvertiserStarts", spec := "advertiserStarts", unfollowed := true, recurses := true, named := ["wireless/address.randomAt", "wireless/address.prefixes"], apart := false, laid := [("wireless/address.prefixes", laid_wireless_address_prefixes), ("wireless/address.randomAt", laid_wireless_address_randomAt)] }
def AdvertiserStartsSaid : Prop := advertiserStartsRow.holds Tryd.pinned (OpenSpec.ofChange advertiserStartsSpec)

/-- ITS FALSE NEIGHBOUR: 'it returns false'. Refute it at one input. -/
def advertiserStartsWrong : ChangeSpec := { name := "advertiserStarts", fn := fun _ => fun
  | [d1, d2] => { results := [.lit (.bool false)], args := [d1, d2] }
  | _ => none }
def AdvertiserStartsWrongFalsely : Prop := advertiserStartsRow.holds Tryd.pinned (OpenSpec.ofChange advertiserStartsWrong)

/-- 'wirelesslaw21.AdvertiserDelays': WHATEVER THE INPUT: true; the input reads as it did. -/
def advertiserDelaysSpec : ChangeSpec := { name := "advertiserDelays", fn := fun _ => fun
  | [d1, d2] => { results := [.lit (.bool true)], args := [d1, d2] }
  | _ => none }
def advertiserDelaysRow : OpenClaim := { program := "ytcbliliinmfnjaadoor", sum := "c249e136c3e1c5d59b8fb731571f88bd85e3b3c9e2d79af0e4cfe1571d266116", func := "wireless/wirelesslaw21.AdvertiserDelays", spec := "advertiserDelays", unfollowed := true, recurses := true, named := ["wireless/address.randomAt", "wireless/address.prefixes"], apart := false, laid := [("wireless/address.prefixes", laid_wireless_address_prefixes), ("wireless/address.randomAt", laid_wireless_address_randomAt)] }
def AdvertiserDelaysSaid : Prop := advertiserDelaysRow.holds Tryd.pinned (OpenSpec.ofChange advertiserDelaysSpec)

/-- ITS FALSE NEIGHBOUR: 'it returns false'. Refute it at one input. -/
def advertiserDelaysWrong : ChangeSpec := { name := "advertiserDelays", fn := fun _ => fun
  | [d1, d2] => { results := [.lit (.bool false)], args := [d1, d2] }
  | _ => none }
def AdvertiserDelaysWrongFalsely : Prop := advertiserDelaysRow.holds Tryd.pinned (OpenSpec.ofChange advertiserDelaysWrong)

/-- 'wirelesslaw21.AdvertiserEvents': WHATEVER THE INPUT: true; the input reads as it did. -/
def advertiserEventsSpec : ChangeSpec := { name := "advertiserEvents", fn := fun _ => fun
  | [d1, d2, d3] => { results := [.lit (.bool true)], args := [d1, d2, d3] }
  | _ => none }
def advertiserEventsRow : OpenClaim := { program := "ytcbliliinmfnjaadoor", sum := "c249e136c3e1c5d59b8fb731571f88bd85e3b3c9e2d79af0e4cfe1571d266116", func := "wireless/wirelesslaw21.AdvertiserEvents", spec := "advertiserEvents", unfollowed := true, recurses := true, named := ["wireless/address.randomAt", "wireless/address.prefixes"], apart := false, laid := [("wireless/address.prefixes", laid_wireless_address_prefixes), ("wireless/address.randomAt", laid_wireless_address_randomAt)] }
def AdvertiserEventsSaid : Prop := advertiserEventsRow.holds Tryd.pinned (OpenSpec.ofChange advertiserEventsSpec)

/-- ITS FALSE NEIGHBOUR: 'it returns false'. Refute it at one input. -/
def advertiserEventsWrong : ChangeSpec := { name := "advertiserEvents", fn := fun _ => fun
  | [d1, d2, d3] => { results := [.lit (.bool false)], args := [d1, d2, d3] }
  | _ => none }
def AdvertiserEventsWrongFalsely : Prop := advertiserEventsRow.holds Tryd.pinned (OpenSpec.ofChange advertiserEventsWrong)

/-- 'wirelesslaw21.AdvertiserAnswers': WHATEVER THE INPUT: true; the input reads as it did. -/
def advertiserAnswersSpec : ChangeSpec := { name := "advertiserAnswers", fn := fun _ => fun
  | [d1, d2] => { results := [.lit (.bool true)], args := [d1, d2] }
  | _ => none }
def advertiserAnswersRow : OpenClaim := { program := "ytcbliliinmfnjaadoor", sum := "c249e136c3e1c5d59b8fb731571f88bd85e3b3c9e2d79af0e4cfe1571d266116", func := "wireless/wirelesslaw21.AdvertiserAnswers", spec := "advertiserAnswers", unfollowed := true, recurses := true, named := ["wireless/address.randomAt", "wireless/address.prefixes"], apart := false, laid := [("wireless/address.prefixes", laid_wireless_address_prefixes), ("wireless/address.randomAt", laid_wireless_address_randomAt)] }
def AdvertiserAnswersSaid : Prop := advertiserAnswersRow.holds Tryd.pinned (OpenSpec.ofChange advertiserAnswersSpec)

/-- ITS FALSE NEIGHBOUR: 'it returns false'. Refute it at one input. -/
def advertiserAnswersWrong : ChangeSpec := { name := "advertiserAnswers", fn := fun _ => fun
  | [d1, d2] => { results := [.lit (.bool false)], args := [d1, d2] }
  | _ => none }
def AdvertiserAnswersWrongFalsely : Prop := advertiserAnswersRow.holds Tryd.pinned (OpenSpec.ofChange advertiserAnswersWrong)

/-- 'wirelesslaw22.ScannerStarts': WHATEVER THE INPUT: true; the input reads as it did. -/
def scannerStartsSpec : ChangeSpec := { name := "scannerStarts", fn := fun _ => fun
  | [d1, d2] => { results := [.lit (.bool true)], args := [d1, d2] }
  | _ => none }
def scannerStartsRow : OpenClaim := { program := "ytcbliliinmfnjaadoor", sum := "c249e136c3e1c5d59b8fb731571f88bd85e3b3c9e2d79af0e4cfe1571d266116", func := "wireless/wirelesslaw22.ScannerStarts", spec := "scannerStarts", unfollowed := true, recurses := true, named := ["wireless/address.randomAt", "wireless/address.prefixes"], apart := false, laid := [("wireless/address.prefixes", laid_wireless_address_prefixes), ("wireless/address.randomAt", laid_wireless_address_randomAt)] }
def ScannerStartsSaid : Prop := scannerStartsRow.holds Tryd.pinned (OpenSpec.ofChange scannerStartsSpec)

/-- ITS FALSE NEIGHBOUR: 'it returns false'. Refute it at one input. -/
def scannerStartsWrong : ChangeSpec := { name := "scannerStarts", fn := fun _ => fun
  | [d1, d2] => { results := [.lit (.bool false)], args := [d1, d2] }
  | _ => none }
def ScannerStartsWrongFalsely : Prop := scannerStartsRow.holds Tryd.pinned (OpenSpec.ofChange scannerStartsWrong)

/-- 'wirelesslaw22.ScannerFinds': WHATEVER THE INPUT: true; the input reads as it did. -/
def scannerFindsSpec : ChangeSpec := { name := "scannerFinds", fn := fun _ => fun
  | [d1, d2, d3] => { results := [.lit (.bool true)], args := [d1, d2, d3] }
  | _ => none }
def scannerFindsRow : OpenClaim := { program := "ytcbliliinmfnjaadoor", sum := "c249e136c3e1c5d59b8fb731571f88bd85e3b3c9e2d79af0e4cfe1571d266116", func := "wireless/wirelesslaw22.ScannerFinds", spec := "scannerFinds", unfollowed := true, recurses := true, named := ["wireless/address.randomAt", "wireless/address.prefixes"], apart := false, laid := [("wireless/address.prefixes", laid_wireless_address_prefixes), ("wireless/address.randomAt", laid_wireless_address_randomAt)] }
def ScannerFindsSaid : Prop := scannerFindsRow.holds Tryd.pinned (OpenSpec.ofChange scannerFindsSpec)

/-- ITS FALSE NEIGHBOUR: 'it returns false'. Refute it at one input. -/
def scannerFindsWrong : ChangeSpec := { name := "scannerFinds", fn := fun _ => fun
  | [d1, d2, d3] => { results := [.lit (.bool false)], args := [d1, d2, d3] }
  | _ => none }
def ScannerFindsWrongFalsely : Prop := scannerFindsRow.holds Tryd.pinned (OpenSpec.ofChange scannerFindsWrong)

/-- 'wirelesslaw22.ScannerUnique': WHATEVER THE INPUT: true; the input reads as it did. -/
def scannerUniqueSpec : ChangeSpec := { name := "scannerUnique", fn := fun _ => fun
  | [d1, d2] => { results := [.lit (.bool true)], args := [d1, d2] }
  | _ => none }
def scannerUniqueRow : OpenClaim := { program := "ytcbliliinmfnjaadoor", sum := "c249e136c3e1c5d59b8fb731571f88bd85e3b3c9e2d79af0e4cfe1571d266116", func := "wireless/wirelesslaw22.ScannerUnique", spec := "scannerUnique", unfollowed := true, recurses := true, named := ["wireless/address.randomAt", "wireless/address.prefixes"], apart := false, laid := [("wireless/address.prefixes", laid_wireless_address_prefixes), ("wireless/address.randomAt", laid_wireless_address_randomAt)] }
def ScannerUniqueSaid : Prop := scannerUniqueRow.holds Tryd.pinned (OpenSpec.ofChange scannerUniqueSpec)

/-- ITS FALSE NEIGHBOUR: 'it returns false'. Refute it at one input. -/
def scannerUniqueWrong : ChangeSpec := { name := "scannerUnique", fn := fun _ => fun
  | [d1, d2] => { results := [.lit (.bool false)], args := [d1, d2] }
  | _ => none }
def ScannerUniqueWrongFalsely : Prop := scannerUniqueRow.holds Tryd.pinned (OpenSpec.ofChange scannerUniqueWrong)

/-- 'wirelesslaw22.ScannerBackoff': WHATEVER THE INPUT: true; the input reads as it did. -/
def scannerBackoffSpec : ChangeSpec := { name := "scannerBackoff", fn := fun _ => fun
  | [d1, d2, d3] => { results := [.lit (.bool true)], args := [d1, d2, d3] }
  | _ => none }
def scannerBackoffRow : OpenClaim := { program := "ytcbliliinmfnjaadoor", sum := "c249e136c3e1c5d59b8fb731571f88bd85e3b3c9e2d79af0e4cfe1571d266116", func := "wireless/wirelesslaw22.ScannerBackoff", spec := "scannerBackoff", unfollowed := true, recurses := true, named := ["wireless/address.randomAt", "wireless/address.prefixes"], apart := false, laid := [("wireless/address.prefixes", laid_wireless_address_prefixes), ("wireless/address.randomAt", laid_wireless_address_randomAt)] }
def ScannerBackoffSaid : Prop := scannerBackoffRow.holds Tryd.pinned (OpenSpec.ofChange scannerBackoffSpec)

/-- ITS FALSE NEIGHBOUR: 'it returns false'. Refute it at one input. -/
def scannerBackoffWrong : ChangeSpec := { name := "scannerBackoff", fn := fun _ => fun
  | [d1, d2, d3] => { results := [.lit (.bool false)], args := [d1, d2, d3] }
  | _ => none }
def ScannerBackoffWrongFalsely : Prop := scannerBackoffRow.holds Tryd.pinned (OpenSpec.ofChange scannerBackoffWrong)

/-- 'wirelesslaw22.ScannerDoubles': WHATEVER THE INPUT: true; the input reads as it did. -/
def scannerDoublesSpec : ChangeSpec := { name := "scannerDoubles", fn := fun _ => fun
  | [d] => { results := [.lit (.bool true)], args := [d] }
  | _ => none }
def scannerDoublesRow : OpenClaim := { program := "ytcbliliinmfnjaadoor", sum := "c249e136c3e1c5d59b8fb731571f88bd85e3b3c9e2d79af0e4cfe1571d266116", func := "wireless/wirelesslaw22.ScannerDoubles", spec := "scannerDoubles", unfollowed := true, recurses := true, named := ["wireless/address.randomAt", "wireless/address.prefixes"], apart := false, laid := [("wireless/address.prefixes", laid_wireless_address_prefixes), ("wireless/address.randomAt", laid_wireless_address_randomAt)] }
def ScannerDoublesSaid : Prop := scannerDoublesRow.holds Tryd.pinned (OpenSpec.ofChange scannerDoublesSpec)

/-- ITS FALSE NEIGHBOUR: 'it returns false'. Refute it at one input. -/
def scannerDoublesWrong : ChangeSpec := { name := "scannerDoubles", fn := fun _ => fun
  | [d] => { results := [.lit (.bool false)], args := [d] }
  | _ => none }
def ScannerDoublesWrongFalsely : Prop := scannerDoublesRow.holds Tryd.pinned (OpenSpec.ofChange scannerDoublesWrong)

/- THE SECOND FORM. 'bulk': how many values and letters a reading holds, each counted each time it is reached (what is shared counts as often as it is met; a slice's spare places count too). A statement '..UptoSaid' is the law's where the arguments, and the package variables that the reading takes, are together of bulk at most 1048576: NARROWER than '..Said'. Prove '..Said' where nothing that the law and all that it calls make is longer than what came in: it says more and counts as full. Else prove '..UptoSaid'. A law counts once. -/
mutual
def uptoBulk {H : Type} : DataW H → Nat
  | .lit (.string bytes) => bytes.length + 1
  | .lit _ => 1
  | .nil => 1
  | .ptr d => uptoBulk d + 1
  | .slice elems spare => uptoBulkAll elems + uptoBulkAll spare + 1
  | .agg parts => uptoBulkAll parts + 1
  | .iface _ d => uptoBulk d + 1
  | .map entries => uptoBulkEntries entries + 1
  | .held _ => 1
def uptoBulkAll {H : Type} : List (DataW H) → Nat
  | [] => 0
  | d :: r => uptoBulk d + uptoBulkAll r
def uptoBulkEntries {H : Type} : List (Lit × DataW H) → Nat
  | [] => 0
  | x :: r => uptoBulkEntry x + uptoBulkEntries r
def uptoBulkEntry {H : Type} : Lit × DataW H → Nat
  | (.string bytes, d) => bytes.length + uptoBulk d + 1
  | (_, d) => uptoBulk d + 1
 end
def uptoSmall : (H : Type) → List (DataW H) → Bool := fun _ ds => decide (uptoBulkAll ds ≤ 1048576)
def OpenSpec.upto (s : _root_.Go.ChangeSpec) : _root_.Go.OpenSpec := { _root_.Go.OpenSpec.ofChange s with cond := some uptoSmall }

/-- 'wirelesslaw21.AdvertiserStarts', WHERE WHAT IT READS IS OF BULK AT MOST 1048576: true; the input reads as it did. -/
def advertiserStartsUptoRow : OpenClaim := { program := "ytcbliliinmfnjaadoor", sum := "c249e136c3e1c5d59b8fb731571f88bd85e3b3c9e2d79af0e4cfe1571d266116", func := "wireless/wirelesslaw21.AdvertiserStarts", spec := "advertiserStarts", unfollowed := true, recurses := true, named := ["wireless/address.randomAt", "wireless/address.prefixes"], apart := false, laid := [("wireless/address.prefixes", laid_wireless_address_prefixes), ("wireless/address.randomAt", laid_wireless_address_randomAt)], narrowed := true }
def AdvertiserStartsUptoSaid : Prop := advertiserStartsUptoRow.holds Tryd.pinned (OpenSpec.upto advertiserStartsSpec)

/-- 'wirelesslaw21.AdvertiserDelays', WHERE WHAT IT READS IS OF BULK AT MOST 1048576: true; the input reads as it did. -/
def advertiserDelaysUptoRow : OpenClaim := { program := "ytcbliliinmfnjaadoor", sum := "c249e136c3e1c5d59b8fb731571f88bd85e3b3c9e2d79af0e4cfe1571d266116", func := "wireless/wirelesslaw21.AdvertiserDelays", spec := "advertiserDelays", unfollowed := true, recurses := true, named := ["wireless/address.randomAt", "wireless/address.prefixes"], apart := false, laid := [("wireless/address.prefixes", laid_wireless_address_prefixes), ("wireless/address.randomAt", laid_wireless_address_randomAt)], narrowed := true }
def AdvertiserDelaysUptoSaid : Prop := advertiserDelaysUptoRow.holds Tryd.pinned (OpenSpec.upto advertiserDelaysSpec)

/-- 'wirelesslaw21.AdvertiserEvents', WHERE WHAT IT READS IS OF BULK AT MOST 1048576: true; the input reads as it did. -/
def advertiserEventsUptoRow : OpenClaim := { program := "ytcbliliinmfnjaadoor", sum := "c249e136c3e1c5d59b8fb731571f88bd85e3b3c9e2d79af0e4cfe1571d266116", func := "wireless/wirelesslaw21.AdvertiserEvents", spec := "advertiserEvents", unfollowed := true, recurses := true, named := ["wireless/address.randomAt", "wireless/address.prefixes"], apart := false, laid := [("wireless/address.prefixes", laid_wireless_address_prefixes), ("wireless/address.randomAt", laid_wireless_address_randomAt)], narrowed := true }
def AdvertiserEventsUptoSaid : Prop := advertiserEventsUptoRow.holds Tryd.pinned (OpenSpec.upto advertiserEventsSpec)

/-- 'wirelesslaw21.AdvertiserAnswers', WHERE WHAT IT READS IS OF BULK AT MOST 1048576: true; the input reads as it did. -/
def advertiserAnswersUptoRow : OpenClaim := { program := "ytcbliliinmfnjaadoor", sum := "c249e136c3e1c5d59b8fb731571f88bd85e3b3c9e2d79af0e4cfe1571d266116", func := "wireless/wirelesslaw21.AdvertiserAnswers", spec := "advertiserAnswers", unfollowed := true, recurses := true, named := ["wireless/address.randomAt", "wireless/address.prefixes"], apart := false, laid := [("wireless/address.prefixes", laid_wireless_address_prefixes), ("wireless/address.randomAt", laid_wireless_address_randomAt)], narrowed := true }
def AdvertiserAnswersUptoSaid : Prop := advertiserAnswersUptoRow.holds Tryd.pinned (OpenSpec.upto advertiserAnswersSpec)

/-- 'wirelesslaw22.ScannerStarts', WHERE WHAT IT READS IS OF BULK AT MOST 1048576: true; the input reads as it did. -/
def scannerStartsUptoRow : OpenClaim := { program := "ytcbliliinmfnjaadoor", sum := "c249e136c3e1c5d59b8fb731571f88bd85e3b3c9e2d79af0e4cfe1571d266116", func := "wireless/wirelesslaw22.ScannerStarts", spec := "scannerStarts", unfollowed := true, recurses := true, named := ["wireless/address.randomAt", "wireless/address.prefixes"], apart := false, laid := [("wireless/address.prefixes", laid_wireless_address_prefixes), ("wireless/address.randomAt", laid_wireless_address_randomAt)], narrowed := true }
def ScannerStartsUptoSaid : Prop := scannerStartsUptoRow.holds Tryd.pinned (OpenSpec.upto scannerStartsSpec)

/-- 'wirelesslaw22.ScannerFinds', WHERE WHAT IT READS IS OF BULK AT MOST 1048576: true; the input reads as it did. -/
def scannerFindsUptoRow : OpenClaim := { program := "ytcbliliinmfnjaadoor", sum := "c249e136c3e1c5d59b8fb731571f88bd85e3b3c9e2d79af0e4cfe1571d266116", func := "wireless/wirelesslaw22.ScannerFinds", spec := "scannerFinds", unfollowed := true, recurses := true, named := ["wireless/address.randomAt", "wireless/address.prefixes"], apart := false, laid := [("wireless/address.prefixes", laid_wireless_address_prefixes), ("wireless/address.randomAt", laid_wireless_address_randomAt)], narrowed := true }
def ScannerFindsUptoSaid : Prop := scannerFindsUptoRow.holds Tryd.pinned (OpenSpec.upto scannerFindsSpec)

/-- 'wirelesslaw22.ScannerUnique', WHERE WHAT IT READS IS OF BULK AT MOST 1048576: true; the input reads as it did. -/
def scannerUniqueUptoRow : OpenClaim := { program := "ytcbliliinmfnjaadoor", sum := "c249e136c3e1c5d59b8fb731571f88bd85e3b3c9e2d79af0e4cfe1571d266116", func := "wireless/wirelesslaw22.ScannerUnique", spec := "scannerUnique", unfollowed := true, recurses := true, named := ["wireless/address.randomAt", "wireless/address.prefixes"], apart := false, laid := [("wireless/address.prefixes", laid_wireless_address_prefixes), ("wireless/address.randomAt", laid_wireless_address_randomAt)], narrowed := true }
def ScannerUniqueUptoSaid : Prop := scannerUniqueUptoRow.holds Tryd.pinned (OpenSpec.upto scannerUniqueSpec)

/-- 'wirelesslaw22.ScannerBackoff', WHERE WHAT IT READS IS OF BULK AT MOST 1048576: true; the input reads as it did. -/
def scannerBackoffUptoRow : OpenClaim := { program := "ytcbliliinmfnjaadoor", sum := "c249e136c3e1c5d59b8fb731571f88bd85e3b3c9e2d79af0e4cfe1571d266116", func := "wireless/wirelesslaw22.ScannerBackoff", spec := "scannerBackoff", unfollowed := true, recurses := true, named := ["wireless/address.randomAt", "wireless/address.prefixes"], apart := false, laid := [("wireless/address.prefixes", laid_wireless_address_prefixes), ("wireless/address.randomAt", laid_wireless_address_randomAt)], narrowed := true }
def ScannerBackoffUptoSaid : Prop := scannerBackoffUptoRow.holds Tryd.pinned (OpenSpec.upto scannerBackoffSpec)

/-- 'wirelesslaw22.ScannerDoubles', WHERE WHAT IT READS IS OF BULK AT MOST 1048576: true; the input reads as it did. -/
def scannerDoublesUptoRow : OpenClaim := { program := "ytcbliliinmfnjaadoor", sum := "c249e136c3e1c5d59b8fb731571f88bd85e3b3c9e2d79af0e4cfe1571d266116", func := "wireless/wirelesslaw22.ScannerDoubles", spec := "scannerDoubles", unfollowed := true, recurses := true, named := ["wireless/address.randomAt", "wireless/address.prefixes"], apart := false, laid := [("wireless/address.prefixes", laid_wireless_address_prefixes), ("wireless/address.randomAt", laid_wireless_address_randomAt)], narrowed := true }
def ScannerDoublesUptoSaid : Prop := scannerDoublesUptoRow.holds Tryd.pinned (OpenSpec.upto scannerDoublesSpec)

end Rows
end Go.Proofs.YtcbliliinmfnjaaDoor
