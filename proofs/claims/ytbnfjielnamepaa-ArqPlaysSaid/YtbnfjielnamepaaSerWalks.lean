/- What each function of the layer of wrapping counters, and of its specification, returns: contracts over the program. -/
import Derived.Test.YtbnfjielnamepaaProg
import Derived.WalkKit
import Derived.Lib.MinMax
import Derived.Lib.Hide
import Derived.BigQuiet
import Derived.Deep.QuietTactic
import Derived.Test.YtbnfjielnamepaaSerMath
set_option linter.unusedVariables false
namespace Go.Proofs.Ytbnfjielnamepaa.Ser
open Go.RowKit

set_option linter.unusedSimpArgs false
end Go.Proofs.Ytbnfjielnamepaa.Ser
