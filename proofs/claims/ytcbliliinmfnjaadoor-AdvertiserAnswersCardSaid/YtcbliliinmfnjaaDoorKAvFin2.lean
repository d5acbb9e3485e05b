/- The statement on answers, as it is read. -/
import Derived.Test.YtcbliliinmfnjaaDoorKAvLaw2
import Derived.Test.YtcbliliinmfnjaaDoorKM17
set_option linter.unusedVariables false
namespace Go.Proofs.YtcbliliinmfnjaaDoor.Av
open Go.RowKit Mem Rw

theorem fin_answers (p : Pm) (VD VS VA VI : Value) (q : Ap.Pd) (A : Option Addr) (c : Nat) (ch lo : Int) (w : World) (hW : PW p) (hH : Has w 0 p VD VS VA VI) (gp : Rd.GoodP w (q, A, c))
    (gc : -9223372036854775808 ≤ ch ∧ ch ≤ 9223372036854775807) (gl : -9223372036854775808 ≤ lo ∧ lo ≤ 9223372036854775807) (hT : Adr.Tab w) :
    Calls Tryd.prog 6 #[.agg (pcel p VD VS VA VI), .agg ((Ap.cel q (.slice A q.ds.length c)) ++ #[.int .i64 ch, .int .i64 lo])] w fun e w' => e = .returned (.bool true) ∧ Below w.heap.size w w' :=
  law_answers p VD VS VA VI q (.slice A q.ds.length c) ch lo w hW hH gp.1 (Row.of_cells gp.2.2.1 (of_ints gp.2.2.2.2)) hT
end Go.Proofs.YtcbliliinmfnjaaDoor.Av
