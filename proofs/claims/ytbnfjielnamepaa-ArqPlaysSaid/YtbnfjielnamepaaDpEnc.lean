/- Data PDUs: their bytes, by the layer and the document: contracts over the program. -/
import Derived.Test.YtbnfjielnamepaaDpWalks
import Derived.Test.YtbnfjielnamepaaOctJoin
import Derived.Deep.CutRange
set_option linter.unusedVariables false
set_option linter.unusedSimpArgs false
namespace Go.Proofs.Ytbnfjielnamepaa.Dp
open Go.RowKit Mem Oct Rw
open Base (thenB)

/-- A call returns bytes in memory of its own, and an error. -/
def Gives (w w' : World) (e : Ending) (r : List Int × Int) : Prop := ∃ A c, e = .returned (.tuple #[.slice A r.1.length c, .int .i64 r.2]) ∧ w'.ownsRow w.heap.size 5 1 (.slice A r.1.length c) r.1.length (r.1.map (Value.int .u8)) ∧ Below w.heap.size w w'
theorem Gives.len {w w' : World} {e : Ending} {l : List Int} {x : Int} (h : Gives w w' e (l, x)) {n : Nat} (hn : l.length = n) : ∃ A c, e = .returned (.tuple #[.slice A n c, .int .i64 x]) ∧ w'.ownsRow w.heap.size 5 1 (.slice A n c) n (l.map (Value.int .u8)) ∧ Below w.heap.size w w' := by
  subst hn; exact h
theorem omakes_len {w w' : World} {e : Ending} {zs : List Int} (h : Oct.Makes w w' e zs) {n : Nat} (hn : zs.length = n) : ∃ A c, e = .returned (.slice A n c) ∧ w'.ownsRow w.heap.size 5 1 (.slice A n c) n (zs.map (Value.int .u8)) ∧ Below w.heap.size w w' := by
  subst hn; exact h
end Go.Proofs.Ytbnfjielnamepaa.Dp
