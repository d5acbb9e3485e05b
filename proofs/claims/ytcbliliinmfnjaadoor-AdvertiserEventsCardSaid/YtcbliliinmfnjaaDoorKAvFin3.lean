/- The statement on events, as it is read. -/
import Derived.Test.YtcbliliinmfnjaaDoorKAvLaw3
import Derived.Test.YtcbliliinmfnjaaDoorKAvArgs
set_option linter.unusedVariables false
namespace Go.Proofs.YtcbliliinmfnjaaDoor.Av
open Go.RowKit Mem Rw

theorem fin_events (p : Pm) (VD VS VA VI : Value) (l tm : Int) (w : World) (hW : PW p) (hH : Has w 0 p VD VS VA VI) (hl : -9223372036854775808 ≤ l ∧ l ≤ 9223372036854775807) (ht : -9223372036854775808 ≤ tm ∧ tm ≤ 9223372036854775807) (hT : Adr.Tab w) :
    Calls Tryd.prog 5 #[.agg (pcel p VD VS VA VI), .int .i64 l, .int .i64 tm] w fun e w' => e = .returned (.bool true) ∧ Below w.heap.size w w' := law_events p VD VS VA VI l tm w hW hH hT
end Go.Proofs.YtcbliliinmfnjaaDoor.Av
