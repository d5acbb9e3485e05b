/- Acknowledgement: what a side sends: contracts over the program. -/
import Derived.Test.YtbnfjielnamepaaArqSndA
import Derived.Test.YtbnfjielnamepaaArqSndB
import Derived.Test.YtbnfjielnamepaaArqSndC
import Derived.Test.YtbnfjielnamepaaArqSndD
import Derived.Test.YtbnfjielnamepaaArqSndE
set_option linter.unusedVariables false
set_option linter.unusedSimpArgs false
namespace Go.Proofs.Ytbnfjielnamepaa.Arq
open Go.RowKit Mem Oct Rw Av Dp
open Base (thenB)

theorem send_any (s : Sd) (V : Value) (l : List Pm) (w : World) (hn : l.length ≤ 1000000) (hqi : QI w V l) (hl : l.map Pm.p = s.q) :
    Calls Try.prog 30 #[.agg (acel s V)] w fun e w' => Sent w w' e s := by
  obtain ⟨sn, nesn, q, op, em, ack, tak⟩ := s
  by_cases h0 : q = []
  · cases op with
    | false => exact send_f_nil sn nesn q em ack tak V l w hn hqi hl h0
    | true =>
      cases em with
      | true => exact send_tt sn nesn q ack tak V l w hn hqi hl
      | false => exact send_tf_nil sn nesn q ack tak V l w hn hqi hl h0
  · cases op with
    | false => exact send_f_cons sn nesn q em ack tak V l w hn hqi hl h0
    | true =>
      cases em with
      | true => exact send_tt sn nesn q ack tak V l w hn hqi hl
      | false => exact send_tf_cons sn nesn q ack tak V l w hn hqi hl h0
end Go.Proofs.Ytbnfjielnamepaa.Arq
