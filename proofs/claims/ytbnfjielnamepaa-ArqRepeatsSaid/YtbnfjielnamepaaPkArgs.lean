/- How slices of packets read. -/
import Derived.Test.YtbnfjielnamepaaDpArgs
set_option linter.unusedVariables false
set_option linter.unusedSimpArgs false
namespace Go.Proofs.Ytbnfjielnamepaa.Rd
open Go.ChangeShapes Go.WideShapes Go.ChangeAt Go.RowKit Go.Deep Mem Rw Oct Dp
section
variable {H : Type} {enc : TypeId × Value → H} {w : World} {base b0 : Nat} {v : Value} {d : DataW H} {p : List MemPlace}
theorem packets_open (hv : Value.okWide Try.prog w .any b0 41 v) (h : DataW.Trod enc Try.prog w base (fun _ => true) true 41 v d p) (hl : Light Try.prog 41 d) :
    ∃ A c, ∃ xs : List Pm, v = .slice A xs.length c ∧ ListAt encK w w.heap.size A xs ∧ (∀ x ∈ xs, GoodK w w.heap.size x) ∧ xs.length ≤ c ∧ c * 32 ≤ 140737488351232 := by
  obtain ⟨A, n, c, rfl⟩ := okWide_slice Try.underlying41 hv
  obtain ⟨fuel, hf⟩ := h
  obtain ⟨A', n', c', xs, e, h1, h2, h3, h4, h5⟩ := trod_rows sizK (by omega) Try.underlying41 (by kernel_rfl) elK (by simpa [Value.cells] using hf) hl
  injection e with e1 e2 e3
  subst e1; subst e2; subst e3; subst h1
  rw [show Try.prog.bytesOf 24 = 32 by kernel_rfl] at h5
  exact ⟨A, c, xs, rfl, h3, h4, h2, h5⟩
end
end Go.Proofs.Ytbnfjielnamepaa.Rd
