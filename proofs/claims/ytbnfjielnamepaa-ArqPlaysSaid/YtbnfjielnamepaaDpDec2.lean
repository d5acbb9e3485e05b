/- Data PDUs: Decode by the layer: contracts over the program. -/
import Derived.Test.YtbnfjielnamepaaDpDec
set_option linter.unusedVariables false
set_option linter.unusedSimpArgs false
namespace Go.Proofs.Ytbnfjielnamepaa.Dp
open Go.RowKit Mem Oct Rw Av
open Base (thenB)

/-- A row of the call's own is kept by a store into a block of another type. -/
theorem own_setRow {w : World} {base g : Nat} {e t : TypeId} {size n : Nat} {v : Value} {xs : List Value} {old : Array Value} (h : w.ownsRow base e size v n xs) (hb : Blk w g t old) (hne : e ≠ t) (cs : Array Value) : (w.setRow g cs).ownsRow base e size v n xs := by
  refine ⟨h.1, ?_⟩
  rcases h.2 with h' | ⟨g', cap, cur, hv, hbg, hg, r⟩
  · exact .inl h'
  · refine .inr ⟨g', cap, cur, hv, hbg, ?_, r⟩
    have : g' ≠ g := by
      rintro rfl
      unfold Blk at hb
      rw [hb] at hg
      injection hg with hg
      injection hg with _ ht
      exact hne ht.symm
    rw [← hg]
    exact setRow_other w g g' cs this
theorem bclone (V : Value) (n m : Nat) (l : List Int) (w : World) (hl : l.length = n) (hn : n ≤ 140737488351232) (hr : Row w m V n (l.map (Value.int .u8))) :
    Calls Try.prog 50 #[V] w fun e w' => ∃ V', e = .returned V' ∧ w'.ownsRow w.heap.size 5 1 V' n (l.map (Value.int .u8)) ∧ Below w.heap.size w w' := by
  obtain ⟨A, c, rfl, hc, hi⟩ := hr.ints
  refine (Oct.clone_any A n c l w hl hi hn (fun h => ?_)).mono ?_
  · rcases hi with rfl | ⟨b, off, e, _⟩
    · simpa using hl.symm
    · rw [h] at e; cases e
  · intro e w' hm
    obtain ⟨A', c', rfl, own, b⟩ := omakes_len hm hl
    exact ⟨_, rfl, own, b⟩
end Go.Proofs.Ytbnfjielnamepaa.Dp
