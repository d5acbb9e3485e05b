/- When events take place: the layer's functions and the document's. -/
import Derived.Test.YtpoagepchlfemaaCnTimes
set_option linter.unusedVariables false
set_option linter.unusedSimpArgs false
namespace Go.Proofs.Ytpoagepchlfemaa.Cn
open Go.RowKit Mem Clk

abbrev updC (s o i l t : Int) : Obj := .cells #[.int .i64 s, .int .i64 o, .int .i64 i, .int .i64 l, .int .i64 t] 46
end Go.Proofs.Ytpoagepchlfemaa.Cn
