/- Whether parameters are valid: the layer's function. -/
import Derived.Test.YtcbliliinmfnjaaDoorKCnCheck1
import Derived.Test.YtcbliliinmfnjaaDoorKCnCheck2
set_option linter.unusedVariables false
set_option linter.unusedSimpArgs false
namespace Go.Proofs.YtcbliliinmfnjaaDoor.Cn
open Go.RowKit Mem Clk

theorem check_any (a b s o i l t h d g : Int) (m : Nat) (w : World) (hm : m ≤ 18446744073709551615) :
    Calls Tryd.prog 110 #[.agg (par a b s o i l t m h d g)] w fun e w' => e = .returned (.int .i64 (okP a b s o i l t m h d g)) ∧ Below w.heap.size w w' := by
  by_cases q : g = 1
  · exact check_one a b s o i l t h d g _ m w hm _ _ rfl rfl (by simp [q]) (okP_code a b s o i l t m h d g true (by simp [q]))
  · exact check_two a b s o i l t h d g _ m w hm _ _ rfl rfl (by simp [q]) (okP_code a b s o i l t m h d g (g == 2) (by simp [q]; by_cases c : g = 2 <;> simp [c]))
end Go.Proofs.YtcbliliinmfnjaaDoor.Cn
