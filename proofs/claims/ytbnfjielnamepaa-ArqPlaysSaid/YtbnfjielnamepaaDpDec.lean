/- Data PDUs: the PDU of bytes, by the layer and the document: contracts over the program. -/
import Derived.Test.YtbnfjielnamepaaDpEnc
import Derived.Laws.Tables
import Derived.Laws.Rows
set_option linter.unusedVariables false
set_option linter.unusedSimpArgs false
namespace Go.Proofs.Ytbnfjielnamepaa.Dp
open Go.RowKit Mem Oct Rw
open Base (thenB)

end Go.Proofs.Ytbnfjielnamepaa.Dp
