/- Reading hexadecimal text: what the functions of the layer of bytes, and of its specification, return: contracts over the program. -/
import Derived.Test.YtiopeghbpnjcgaaOctHex
set_option linter.unusedVariables false
set_option linter.unusedSimpArgs false
namespace Go.Proofs.Ytiopeghbpnjcgaa.Oct
open Go.RowKit Mem

/-- Bytes of the call's own and an error. -/
def Gives (w w' : World) (e : Ending) (r : List Int × Int) : Prop :=
  ∃ A c, e = .returned (.tuple #[.slice A r.1.length c, .int .i64 r.2]) ∧ w'.ownsRow w.heap.size 5 1 (.slice A r.1.length c) r.1.length (r.1.map (Value.int .u8)) ∧ Below w.heap.size w w'
theorem gives_of {w w' : World} {e : Ending} {v : Value} {n : Nat} {x : Int} {r : List Int × Int} {zs : List Int} (hr : r = (zs, x)) (he : e = .returned (.tuple #[v, .int .i64 x])) (hn : zs.length = n) (h : w'.ownsRow w.heap.size 5 1 v n (zs.map (Value.int .u8))) (hb : Below w.heap.size w w') : Gives w w' e r := by
  obtain ⟨A, c, hv⟩ := own_form h
  subst hn hr
  exact ⟨A, c, by rw [he, hv], by rw [← hv]; exact h, hb⟩
end Go.Proofs.Ytiopeghbpnjcgaa.Oct
