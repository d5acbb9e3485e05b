/- How a struct with fields of several cells reads, field by field. No program is mentioned. -/
import Derived.Test.YtbnfjielnamepaaRead
set_option linter.unusedVariables false
set_option linter.unusedSimpArgs false
namespace Go.Proofs.Ytbnfjielnamepaa.Rd
open Go.ChangeShapes Go.WideShapes Go.ChangeAt Go.RowKit Go.Deep Mem Rw

section
variable {H : Type} {enc : TypeId × Value → H} {P : Program} {w : World} {base : Nat}
theorem trod_part {t : TypeId} {fs : Array Field} {cs : List Value} {fuel : Nat} {y : DataW H × List MemPlace} (hs : P.underlying t = some (.struct fs)) (h : DataW.trod enc P w base (fun _ => true) true fuel t cs = some y) (hl : Light P t y.1) :
    ∃ n, ∀ (j : Nat) (f : Field) (o k : Nat), fs[j]? = some f → f.offset = o → P.cellsOf f.type = k → ∃ z, DataW.trod enc P w base (fun _ => true) true n f.type ((cs.drop o).take k) = some z ∧ Light P f.type z.1 := by
  obtain ⟨xs, n, _, rfl, _, hlen, hat⟩ := DataW.trod_struct hs h
  refine ⟨n, fun j f o k hf ho hk => ?_⟩
  have hj : j < fs.size := by
    rcases Nat.lt_or_ge j fs.size with g | g
    · exact g
    · rw [Array.getElem?_eq_none g] at hf; cases hf
  have h1 := hat j f (by simpa using hf)
  rw [ho, hk] at h1
  have hj2 : j < xs.length := by simpa [hlen] using hj
  rw [List.getElem?_eq_getElem hj2] at h1
  exact ⟨_, h1, light_part hs hl hf (by simp [hj2])⟩
end
theorem cells2 {α : Type} {cs : List α} (h : cs.length = 2) : ∃ c0 c1, cs = [c0, c1] := by
  match cs, h with
  | [c0, c1], _ => exact ⟨c0, c1, rfl⟩
end Go.Proofs.Ytbnfjielnamepaa.Rd
