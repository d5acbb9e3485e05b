/- Data PDUs: Decode by the document: contracts over the program. -/
import Derived.Test.YtbnfjielnamepaaDpDec2
set_option linter.unusedVariables false
set_option linter.unusedSimpArgs false
namespace Go.Proofs.Ytbnfjielnamepaa.Dp
open Go.RowKit Mem Oct Rw Av
open Base (thenB)

end Go.Proofs.Ytbnfjielnamepaa.Dp
