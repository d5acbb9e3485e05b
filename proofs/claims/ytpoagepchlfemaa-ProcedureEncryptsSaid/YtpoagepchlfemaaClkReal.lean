/- The first time at which a clock shows something: contracts over the program. -/
import Derived.Test.YtpoagepchlfemaaClkWalks2
set_option linter.unusedVariables false
set_option linter.unusedSimpArgs false
namespace Go.Proofs.Ytpoagepchlfemaa.Clk
open Go.RowKit Mem

end Go.Proofs.Ytpoagepchlfemaa.Clk
