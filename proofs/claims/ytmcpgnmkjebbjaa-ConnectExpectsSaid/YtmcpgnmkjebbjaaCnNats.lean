/- The walks of the statements on checks, times and windows, over integers as they are handed in. -/
import Derived.Test.YtmcpgnmkjebbjaaCnLaws
import Derived.Test.YtmcpgnmkjebbjaaOpen
set_option linter.unusedVariables false
namespace Go.Proofs.Ytmcpgnmkjebbjaa.Cn
open Go.RowKit Mem

abbrev W3 (s o i l t : Int) : Prop := (Lit.int .i64 s).wf = true ∧ (Lit.int .i64 o).wf = true ∧ (Lit.int .i64 i).wf = true ∧ (Lit.int .i64 l).wf = true ∧ (Lit.int .i64 t).wf = true
theorem go_checks (s o i l t a b s2 o2 i2 l2 t2 m h d g : Int) (w : World) (g0 : W3 s o i l t) (g1 : (Lit.int .u32 a).wf = true ∧ (Lit.int .u32 b).wf = true ∧ (Lit.int .u64 m).wf = true) :
    Calls Try.prog 3 #[.agg #[.int .i64 s, .int .i64 o, .int .i64 i, .int .i64 l, .int .i64 t], .agg #[.int .u32 a, .int .u32 b, .int .i64 s2, .int .i64 o2, .int .i64 i2, .int .i64 l2, .int .i64 t2, .int .u64 m, .int .i64 h, .int .i64 d, .int .i64 g]] w fun e w' => e = .returned (.bool true) ∧ Below w.heap.size w w' := by
  have hm := bounds_u64 g1.2.2
  obtain ⟨k, rfl⟩ := Int.eq_ofNat_of_zero_le hm.1
  exact law_checks s o i l t a b s2 o2 i2 l2 t2 h d g k w (by omega)
theorem go_times (s o i l t x n : Int) (w : World) (g0 : W3 s o i l t) (h1 : -9223372036854775808 ≤ x ∧ x ≤ 9223372036854775807) (h2 : -9223372036854775808 ≤ n ∧ n ≤ 9223372036854775807) :
    Calls Try.prog 5 #[.agg #[.int .i64 s, .int .i64 o, .int .i64 i, .int .i64 l, .int .i64 t], .int .i64 x, .int .i64 n] w fun e w' => e = .returned (.bool true) ∧ Below w.heap.size w w' :=
  law_times s o i l t x n w
theorem go_expects (s o i l t x n q : Int) (w : World) (g0 : W3 s o i l t) (g1 : (Lit.int .i64 x).wf = true ∧ (Lit.int .i64 n).wf = true ∧ (Lit.int .i64 q).wf = true) :
    Calls Try.prog 6 #[.agg #[.int .i64 s, .int .i64 o, .int .i64 i, .int .i64 l, .int .i64 t], .agg #[.int .i64 x, .int .i64 n, .int .i64 q]] w fun e w' => e = .returned (.bool true) ∧ Below w.heap.size w w' :=
  law_expects s o i l t x n q w
theorem go_moves (s o i l t s2 o2 i2 l2 t2 x n q : Int) (w : World) (g0 : W3 s o i l t) (g1 : W3 s2 o2 i2 l2 t2) (g2 : (Lit.int .i64 x).wf = true ∧ (Lit.int .i64 n).wf = true ∧ (Lit.int .i64 q).wf = true) :
    Calls Try.prog 7 #[.agg #[.int .i64 s, .int .i64 o, .int .i64 i, .int .i64 l, .int .i64 t], .agg #[.int .i64 s2, .int .i64 o2, .int .i64 i2, .int .i64 l2, .int .i64 t2], .agg #[.int .i64 x, .int .i64 n, .int .i64 q]] w fun e w' => e = .returned (.bool true) ∧ Below w.heap.size w w' :=
  law_moves s o i l t s2 o2 i2 l2 t2 x n q w
end Go.Proofs.Ytmcpgnmkjebbjaa.Cn
