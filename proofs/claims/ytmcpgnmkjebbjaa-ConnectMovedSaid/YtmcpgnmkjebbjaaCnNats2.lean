/- The walks of the statements on two clocks, over integers as they are handed in. -/
import Derived.Test.YtmcpgnmkjebbjaaCnLaws4
import Derived.Test.YtmcpgnmkjebbjaaOpen
set_option linter.unusedVariables false
namespace Go.Proofs.Ytmcpgnmkjebbjaa.Cn
open Go.RowKit Mem

theorem go_window (pa sa pb sb s o i l t T n y x : Int) (w : World) (g0 : True) (g1 : (Lit.int .i64 s).wf = true ∧ (Lit.int .i64 o).wf = true ∧ (Lit.int .i64 i).wf = true ∧ (Lit.int .i64 l).wf = true ∧ (Lit.int .i64 t).wf = true) (g2 : (Lit.int .i64 T).wf = true ∧ (Lit.int .i64 n).wf = true ∧ (Lit.int .i64 y).wf = true ∧ (Lit.int .i64 x).wf = true) :
    Calls Try.prog 9 #[.agg #[.int .i64 pa, .int .i64 sa, .int .i64 pb, .int .i64 sb], .agg #[.int .i64 s, .int .i64 o, .int .i64 i, .int .i64 l, .int .i64 t], .agg #[.int .i64 T, .int .i64 n, .int .i64 y, .int .i64 x]] w fun e w' => e = .returned (.bool true) ∧ Below w.heap.size w w' :=
  law_window pa sa pb sb s o i l t T n y x w
theorem go_moved (pa sa pb sb s o i l t s2 o2 i2 l2 t2 T n y x : Int) (w : World) (g0 : True) (g1 : True) (g2 : (Lit.int .i64 T).wf = true ∧ (Lit.int .i64 n).wf = true ∧ (Lit.int .i64 y).wf = true ∧ (Lit.int .i64 x).wf = true) :
    Calls Try.prog 10 #[.agg #[.int .i64 pa, .int .i64 sa, .int .i64 pb, .int .i64 sb], .agg #[.int .i64 s, .int .i64 o, .int .i64 i, .int .i64 l, .int .i64 t, .int .i64 s2, .int .i64 o2, .int .i64 i2, .int .i64 l2, .int .i64 t2], .agg #[.int .i64 T, .int .i64 n, .int .i64 y, .int .i64 x]] w fun e w' => e = .returned (.bool true) ∧ Below w.heap.size w w' :=
  law_moved pa sa pb sb s o i l t s2 o2 i2 l2 t2 T n y x w
end Go.Proofs.Ytmcpgnmkjebbjaa.Cn
