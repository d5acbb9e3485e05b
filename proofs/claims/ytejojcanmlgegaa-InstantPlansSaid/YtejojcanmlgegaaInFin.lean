/- Changes at instants: the six statements, as the last texts want them. -/
import Derived.Test.YtejojcanmlgegaaInLaws
import Derived.Test.YtejojcanmlgegaaInPlan
import Derived.Test.YtejojcanmlgegaaInOnce
set_option linter.unusedVariables false
set_option linter.unusedSimpArgs false
namespace Go.Proofs.Ytejojcanmlgegaa.Nst
open Go.RowKit Mem Rw Base

theorem plans_fin (ev la : Int) (w : World) (h0 : 0 ≤ ev ∧ ev ≤ 65535) (h1 : -9223372036854775808 ≤ la ∧ la ≤ 9223372036854775807) : Calls Try.prog 3 #[.int .u16 ev, .int .i64 la] w fun e w' => e = .returned (.bool true) ∧ Below w.heap.size w w' := plans_any ev la w h0
theorem checks_fin (ev : Int) (x : Ch) (w : World) (h0 : 0 ≤ ev ∧ ev ≤ 65535) (g : GoodI x) : Calls Try.prog 4 #[.int .u16 ev, .agg (encX x)] w fun e w' => e = .returned (.bool true) ∧ Below w.heap.size w w' := checks_any ev x w h0 g
theorem adds_fin (A : Option Addr) (c : Nat) (l : List Ch) (ev : Int) (x : Ch) (w : World) (ta : ListAt encH w w.heap.size A l) (gl : ∀ x ∈ l, GoodI x) (hc : l.length ≤ c) (hb : c * 64 ≤ 140737488351232) (h0 : 0 ≤ ev ∧ ev ≤ 65535) (g : GoodI x) : Calls Try.prog 5 #[.slice A l.length c, .int .u16 ev, .agg (encX x)] w fun e w' => e = .returned (.bool true) ∧ Below w.heap.size w w' := adds_any A l.length c l ev x w rfl (by omega) ta h0 g
theorem dues_fin (A : Option Addr) (c : Nat) (l : List Ch) (ev : Int) (w : World) (ta : ListAt encH w w.heap.size A l) (gl : ∀ x ∈ l, GoodI x) (hc : l.length ≤ c) (hb : c * 64 ≤ 140737488351232) (h0 : 0 ≤ ev ∧ ev ≤ 65535) : Calls Try.prog 6 #[.slice A l.length c, .int .u16 ev] w fun e w' => e = .returned (.bool true) ∧ Below w.heap.size w w' := dues_any A l.length c l ev w rfl (by omega) ta h0 gl
theorem planned_fin (ev la k : Int) (w : World) (h0 : 0 ≤ ev ∧ ev ≤ 65535) (h1 : -9223372036854775808 ≤ la ∧ la ≤ 9223372036854775807) (h2 : -9223372036854775808 ≤ k ∧ k ≤ 9223372036854775807) : Calls Try.prog 7 #[.int .u16 ev, .int .i64 la, .int .i64 k] w fun e w' => e = .returned (.bool true) ∧ Below w.heap.size w w' := planned_any ev la k w h0 h2
theorem once_fin (ev : Int) (x : Ch) (w : World) (h0 : 0 ≤ ev ∧ ev ≤ 65535) (g : GoodI x) : Calls Try.prog 8 #[.int .u16 ev, .agg (encX x)] w fun e w' => e = .returned (.bool true) ∧ Below w.heap.size w w' := once_any ev x w h0 g
end Go.Proofs.Ytejojcanmlgegaa.Nst
