/- Acknowledgement: what a side sends: contracts over the program. -/
import Derived.Test.YtbnfjielnamepaaArqAck
set_option linter.unusedVariables false
set_option linter.unusedSimpArgs false
namespace Go.Proofs.Ytbnfjielnamepaa.Arq
open Go.RowKit Mem Oct Rw Av Dp
open Base (thenB)

/-- A side sent: the side, the PDU, whose packet has memory of its own. -/
def Sent (w w' : World) (e : Ending) (s : Sd) : Prop := ∃ V' l' x, e = .returned (.tuple #[.agg (acel (openR s) V'), .agg #[.int .i64 (pduR (openR s)).sn, .int .i64 (pduR (openR s)).nesn, .int .i64 (pduR (openR s)).md, .int .i64 x.k, .slice x.A x.v.length x.c]]) ∧ QQ w' w.heap.size 0 V' l' ∧ l'.map Pm.p = s.q ∧ x.p = (pduR (openR s)).pk ∧ PP w' 0 x ∧ Below w.heap.size w w'
end Go.Proofs.Ytbnfjielnamepaa.Arq
