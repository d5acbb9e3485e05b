/- Acknowledgement: what a side takes, by the document: contracts over the document. -/
import Derived.Test.YtbnfjielnamepaaArqRS
import Derived.Test.YtbnfjielnamepaaArqTake
import Derived.Test.YtbnfjielnamepaaArqSame
set_option linter.unusedVariables false
set_option linter.unusedSimpArgs false
namespace Go.Proofs.Ytbnfjielnamepaa.Arq
open Go.RowKit Mem Oct Rw Av Dp
open Base (thenB)

/-- The document's side took a PDU. -/
def RTook (w w' : World) (e : Ending) (r : Sd × Pk × Bool × Bool) (V : Value) (o : Nat) : Prop := ∃ V' l' y, e = .returned (.tuple #[.agg (acel r.1 V'), .agg #[.int .i64 y.k, .slice y.A y.v.length y.c], .bool r.2.2.1, .bool r.2.2.2]) ∧ QQ w' 0 o V' l' ∧ l'.map Pm.p = r.1.q ∧ y.p = r.2.1 ∧ PP w' o y ∧ (V' = V ∨ ∀ g, V'.ownBlock = some g → w.heap.size ≤ g) ∧ Below w.heap.size w w'
end Go.Proofs.Ytbnfjielnamepaa.Arq
