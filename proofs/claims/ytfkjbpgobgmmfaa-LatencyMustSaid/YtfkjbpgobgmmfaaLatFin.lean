/- Latency: the five statements, as the last texts want them. -/
import Derived.Test.YtfkjbpgobgmmfaaLatLaws
import Derived.Test.YtfkjbpgobgmmfaaLatUse
import Derived.Test.YtfkjbpgobgmmfaaLatBound
import Derived.Test.YtfkjbpgobgmmfaaLatArgs
set_option linter.unusedVariables false
set_option linter.unusedSimpArgs false
namespace Go.Proofs.Ytfkjbpgobgmmfaa.Lat
open Go.RowKit Mem Oct Rw Av
open Base (thenB)

theorem sets_fin (a s : Int) (f : Bool) (n : Int) (w : World) (ga : B64 a) (gs : B64 s) (gn : -9223372036854775808 ≤ n ∧ n ≤ 9223372036854775807) : Calls Try.prog 3 #[.agg #[.int .i64 a, .int .i64 s, .bool f], .int .i64 n] w fun e w' => e = .returned (.bool true) ∧ Below w.heap.size w w' := sets_any a s f n w
theorem must_fin (a s : Int) (f b : Bool) (w : World) (ga : B64 a) (gs : B64 s) : Calls Try.prog 4 #[.agg #[.int .i64 a, .int .i64 s, .bool f], .bool b] w fun e w' => e = .returned (.bool true) ∧ Below w.heap.size w w' := must_law a s f b w
theorem moves_fin (a s : Int) (f b : Bool) (w : World) (ga : B64 a) (gs : B64 s) : Calls Try.prog 5 #[.agg #[.int .i64 a, .int .i64 s, .bool f], .bool b] w fun e w' => e = .returned (.bool true) ∧ Below w.heap.size w w' := moves_any a s f b w ga gs
theorem use_fin (a s : Int) (f : Bool) (n : Int) (w : World) (ga : B64 a) (gs : B64 s) (gn : -9223372036854775808 ≤ n ∧ n ≤ 9223372036854775807) : Calls Try.prog 7 #[.agg #[.int .i64 a, .int .i64 s, .bool f], .int .i64 n] w fun e w' => e = .returned (.bool true) ∧ Below w.heap.size w w' := use_any a s f n w
theorem bound_fin (n : Int) (A : Option Addr) (c : Nat) (xs : List Tm) (w : World) (gn : -9223372036854775808 ≤ n ∧ n ≤ 9223372036854775807) (ta : ListAt encT w w.heap.size A xs) (hc : xs.length ≤ c) (hb : c * 24 ≤ 140737488351232) : Calls Try.prog 6 #[.int .i64 n, .slice A xs.length c] w fun e w' => e = .returned (.bool true) ∧ Below w.heap.size w w' := bound_any n A c xs w ta hc hb
end Go.Proofs.Ytfkjbpgobgmmfaa.Lat
