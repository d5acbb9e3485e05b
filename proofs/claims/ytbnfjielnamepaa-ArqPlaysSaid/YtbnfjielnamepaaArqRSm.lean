/- Acknowledgement: two sides that are the same, by the document: contracts over the document. -/
import Derived.Test.YtbnfjielnamepaaArqRQ
import Derived.Test.YtbnfjielnamepaaArqSame
import Derived.Test.YtbnfjielnamepaaArqAck
set_option linter.unusedVariables false
set_option linter.unusedSimpArgs false
namespace Go.Proofs.Ytbnfjielnamepaa.Arq
open Go.RowKit Mem Oct Rw Av Dp
open Base (thenB)

set_option maxRecDepth 100000 in
set_option maxHeartbeats 4000000 in
theorem same_core (sn nesn : Int) (op em : Bool) (ack tak : Nat) (V V2 : Value) (w : World) (oV : V.oneCell' = true) (oV2 : V2.oneCell' = true)
    (HS : Hid (∀ X, Below w.heap.size w X → Calls Try.prog 41 #[V, V2] X fun e w' => e = .returned (.bool true) ∧ Below X.heap.size X w')) :
    Calls Try.prog 36 #[.agg #[.int .i64 sn, .int .i64 nesn, V, .bool op, .bool em, .int .i64 ack, .int .i64 tak], .agg #[.int .i64 sn, .int .i64 nesn, V2, .bool op, .bool em, .int .i64 ack, .int .i64 tak]] w fun e w' => e = .returned (.bool true) ∧ Below w.heap.size w w' := by
  have BX : Below w.heap.size w ((w.alloc (.cells #[.int .i64 sn, .int .i64 nesn, V, .bool op, .bool em, .int .i64 ack, .int .i64 tak] 43)).alloc (.cells #[.int .i64 sn, .int .i64 nesn, V2, .bool op, .bool em, .int .i64 ack, .int .i64 tak] 43)) := ((Below.refl _ _).alloc (Nat.le_refl _) _).alloc (by simp) _
  have K1 : Blk ((w.alloc (.cells #[.int .i64 sn, .int .i64 nesn, V, .bool op, .bool em, .int .i64 ack, .int .i64 tak] 43)).alloc (.cells #[.int .i64 sn, .int .i64 nesn, V2, .bool op, .bool em, .int .i64 ack, .int .i64 tak] 43)) w.heap.size 43 #[.int .i64 sn, .int .i64 nesn, V, .bool op, .bool em, .int .i64 ack, .int .i64 tak] := (Blk.fresh w 43 #[.int .i64 sn, .int .i64 nesn, V, .bool op, .bool em, .int .i64 ack, .int .i64 tak]).alloc _
  have K2 : Blk ((w.alloc (.cells #[.int .i64 sn, .int .i64 nesn, V, .bool op, .bool em, .int .i64 ack, .int .i64 tak] 43)).alloc (.cells #[.int .i64 sn, .int .i64 nesn, V2, .bool op, .bool em, .int .i64 ack, .int .i64 tak] 43)) (w.heap.size + 1) 43 #[.int .i64 sn, .int .i64 nesn, V2, .bool op, .bool em, .int .i64 ack, .int .i64 tak] := Av.Blk.next
  have e1 : (sn == sn) = true := by simp
  have e2 : (nesn == nesn) = true := by simp
  have e3 : (op == op) = true := by simp
  have e4 : (em == em) = true := by simp
  have e5 : ((ack : Int) == (ack : Int)) = true := by simp
  have e6 : ((tak : Int) == (tak : Int)) = true := by simp
  go_enter Try.func36, Try.ntmps36
  go_upto_region 1 with (fail)
  generalize (w.alloc (.cells #[.int .i64 sn, .int .i64 nesn, V, .bool op, .bool em, .int .i64 ack, .int .i64 tak] 43)).alloc (.cells #[.int .i64 sn, .int .i64 nesn, V2, .bool op, .bool em, .int .i64 ack, .int .i64 tak] 43) = W0 at *
  have p0 := K1.cell 0
  have q0 := K2.cell 0
  have p1 := K1.cell 1
  have q1 := K2.cell 1
  have p2 := K1.cell 2
  have q2 := K2.cell 2
  go_wp2_with (go_at_call 41; refine (HS.out _ BX).mono ?_; rintro e W1 ⟨rfl, b9⟩; replace K1 := K1.below b9 K1.lt; replace K2 := K2.below b9 K2.lt; replace BX := Base.thenB BX b9; clear b9 p0 p1 p2 q0 q1 q2; have p3 := K1.cell 3; have q3 := K2.cell 3; have p4 := K1.cell 4; have q4 := K2.cell 4; have p5 := K1.cell 5; have q5 := K2.cell 5; have p6 := K1.cell 6; have q6 := K2.cell 6)
  go_ret
  exact ⟨rfl, BX⟩
theorem same_yes (s : Sd) (V V2 : Value) (l l2 : List Pm) (w : World) (h : QI w V l) (h2 : QI w V2 l2) (he : l.map Pm.p = l2.map Pm.p) (hn : l.length ≤ 1000000) :
    Calls Try.prog 36 #[.agg (acel s V), .agg (acel s V2)] w fun e w' => e = .returned (.bool true) ∧ Below w.heap.size w w' := by
  obtain ⟨sn, nesn, q, op, em, ack, tak⟩ := s
  have o1 : V.oneCell' = true := by obtain ⟨A, c, rfl, _⟩ := h; rfl
  have o2 : V2.oneCell' = true := by obtain ⟨A, c, rfl, _⟩ := h2; rfl
  exact same_core sn nesn op em ack tak V V2 w o1 o2 (Lib.hid fun X b => samepks_yes V V2 l l2 X (h.later b) (h2.later b) he hn)
end Go.Proofs.Ytbnfjielnamepaa.Arq
