/- The first window: the layer's function and the document's. -/
import Derived.Test.YtpoagepchlfemaaCnTimes3
set_option linter.unusedVariables false
set_option linter.unusedSimpArgs false
namespace Go.Proofs.Ytpoagepchlfemaa.Cn
open Go.RowKit Mem Clk

end Go.Proofs.Ytpoagepchlfemaa.Cn
