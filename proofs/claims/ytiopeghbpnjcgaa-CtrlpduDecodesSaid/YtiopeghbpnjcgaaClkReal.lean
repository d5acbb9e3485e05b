/- The first time at which a clock shows something: contracts over the program. -/
import Derived.Test.YtiopeghbpnjcgaaClkWalks2
set_option linter.unusedVariables false
set_option linter.unusedSimpArgs false
namespace Go.Proofs.Ytiopeghbpnjcgaa.Clk
open Go.RowKit Mem

end Go.Proofs.Ytiopeghbpnjcgaa.Clk
