/- The statement on a transmission that is alone, walked: it returns true. -/
import Derived.Test.YtocmcjbhmjbmhaaAirLawUY
import Derived.Test.YtocmcjbhmjbmhaaAirLawUN
namespace Go.Proofs.Ytocmcjbhmjbmhaa.Air
open Go.RowKit Mem Rw Base Rd
theorem undisturbed_law (m : Med) (q : Pl) (x : Tx) (l : Ln) (w : World) (ga : GoodA w (m, q)) (gt : GoodT w x) (gl : GoodL l) :
    Calls Try.prog 7 #[mv m q, tv x, .agg #[.int .i64 l.dev, .int .i64 l.ch, .int .i64 l.st, .int .i64 l.en]] w fun e w' => e = .returned (.bool true) ∧ Below w.heap.size w w' := by
  by_cases hr : 64 < m.links.length ∨ chk ⟨m.dev, m.links, [], []⟩ [x.tr] ≠ 0
  · exact undisturbed_rare m q x l w ga gt gl hr
  · cases hpb : reachB m.links l x.tr with
    | true => exact undisturbed_yes m q x l w ga gt gl hr hpb
    | false => exact undisturbed_no m q x l w ga gt gl hr hpb
end Go.Proofs.Ytocmcjbhmjbmhaa.Air
