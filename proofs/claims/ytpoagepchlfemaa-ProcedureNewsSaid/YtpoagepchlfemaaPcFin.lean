/- Control procedures: the statement on New, as the last text wants it. -/
import Derived.Test.YtpoagepchlfemaaPcNews
set_option linter.unusedVariables false
namespace Go.Proofs.Ytpoagepchlfemaa.Pc
open Go.RowKit Mem Rw Cp
theorem news_fin (role f lim : Int) (w : World) (h0 : -9223372036854775808 ≤ role ∧ role ≤ 9223372036854775807) (h1 : 0 ≤ f ∧ f ≤ 18446744073709551615) (h2 : -9223372036854775808 ≤ lim ∧ lim ≤ 9223372036854775807) : Calls Try.prog 3 #[.int .i64 role, .int .u64 f, .int .i64 lim] w fun e w' => e = .returned (.bool true) ∧ Below w.heap.size w w' := news_any role f lim w
end Go.Proofs.Ytpoagepchlfemaa.Pc
