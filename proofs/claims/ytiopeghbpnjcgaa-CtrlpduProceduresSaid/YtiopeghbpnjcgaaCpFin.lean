/- Control PDUs: the statements, as the last texts want them. -/
import Derived.Test.YtiopeghbpnjcgaaCpLaws
import Derived.Test.YtiopeghbpnjcgaaCpArgs
set_option linter.unusedVariables false
set_option linter.unusedSimpArgs false
namespace Go.Proofs.Ytiopeghbpnjcgaa.Cp
open Go.RowKit Mem Oct Rw Av
theorem procs_fin (k : Int) (w : World) (hk : -9223372036854775808 ≤ k ∧ k ≤ 9223372036854775807) : Calls Try.prog 6 #[.int .i64 k] w fun e w' => e = .returned (.bool true) ∧ Below w.heap.size w w' := procs_any k w
theorem unique_fin (A : Option Addr) (n c : Nat) (xs : List Int) (w : World) (hx : xs.length = n) (hnc : n ≤ c) (hr : Ints .u8 w w.heap.size A xs) (bx : Bytes xs) (hcs : c * 1 ≤ 140737488351232) :
    Calls Try.prog 8 #[.slice A n c] w fun e w' => e = .returned (.bool true) ∧ Below w.heap.size w w' := unique_any A c n xs w hx hnc hr bx hcs
end Go.Proofs.Ytiopeghbpnjcgaa.Cp
