/- Hexadecimal text: what the functions of the layer of bytes, and of its specification, return: contracts over the program. -/
import Derived.Test.YtiopeghbpnjcgaaOctWalks
set_option linter.unusedVariables false
set_option linter.unusedSimpArgs false
namespace Go.Proofs.Ytiopeghbpnjcgaa.Oct
open Go.RowKit Mem

end Go.Proofs.Ytiopeghbpnjcgaa.Oct
