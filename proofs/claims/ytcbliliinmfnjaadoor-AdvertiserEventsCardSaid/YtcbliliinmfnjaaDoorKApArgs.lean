/- How arguments read: a PDU by value. No function is mentioned. -/
import Derived.Test.YtcbliliinmfnjaaDoorKPart
import Derived.Test.YtcbliliinmfnjaaDoorKM7
set_option maxRecDepth 100000
set_option linter.unusedVariables false
set_option linter.unusedSimpArgs false
namespace Go.Proofs.YtcbliliinmfnjaaDoor.Rd
open Go.ChangeShapes Go.WideShapes Go.ChangeAt Go.RowKit Go.Deep Mem Rw Ap

section
variable {H : Type} {enc : TypeId × Value → H} {w : World} {base b0 : Nat} {v : Value} {d : DataW H} {p : List MemPlace}
end
end Go.Proofs.YtcbliliinmfnjaaDoor.Rd
