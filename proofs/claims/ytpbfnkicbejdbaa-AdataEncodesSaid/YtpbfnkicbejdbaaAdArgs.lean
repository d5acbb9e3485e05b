/- How elements read as an argument. No function is mentioned. -/
import Derived.Test.YtpbfnkicbejdbaaRead
import Derived.Test.YtpbfnkicbejdbaaAdMath
set_option maxRecDepth 100000
set_option linter.unusedVariables false
set_option linter.unusedSimpArgs false
namespace Go.Proofs.Ytpbfnkicbejdbaa.Rd
open Go.ChangeShapes Go.WideShapes Go.ChangeAt Go.RowKit Go.Deep Mem Rw Ad

theorem str_le {s : ByteArray} (h : s.data.toList.length ≤ reachBytes) : s.size ≤ 140737488351232 := by simpa [reachBytes] using h
def GoodE (w : World) (x : El) : Prop := (-9223372036854775808 ≤ x.k ∧ x.k ≤ 9223372036854775807) ∧ OwnE w w.heap.size x ∧ ∀ z ∈ x.v, 0 ≤ z ∧ z ≤ 255
theorem pair2 {α : Type} {cs : List α} (h : cs.length = 2) : ∃ c0 c1, cs = [c0, c1] := by
  match cs, h with
  | [c0, c1], _ => exact ⟨c0, c1, rfl⟩
section
variable {H : Type} {enc : TypeId × Value → H} {w : World} {base b0 : Nat} {v : Value} {d : DataW H} {p : List MemPlace}
theorem elE : ∀ fuel cs y, DataW.trod enc Try.prog w base (fun _ => true) true fuel 49 cs = some y → cs.length = 2 → Light Try.prog 49 y.1 → ∃ x : El, cs = encE x ∧ GoodE w x := by
  intro fuel cs y h hlen hl
  obtain ⟨c0, c1, rfl⟩ := pair2 hlen
  obtain ⟨n, hat⟩ := trod_slot Try.underlying49 (by kernel_rfl) h hl
  obtain ⟨z0, h0, _⟩ := hat 0 _ c0 rfl rfl
  obtain ⟨z1, h1, l1⟩ := hat 1 _ c1 rfl rfl
  obtain ⟨n0, rfl, w0⟩ := slot_int (by exact Try.underlying3) h0
  obtain ⟨A, m, c, zs, rfl, rfl, hmc, hi, hw, hz⟩ := trod_ints (by exact Try.underlying24) Try.underlying5 (by kernel_rfl) h1 l1
  rw [show Try.prog.bytesOf 5 = 1 by kernel_rfl] at hz
  exact ⟨⟨n0, A, c, zs⟩, rfl, bounds_i64 w0, ⟨hmc, by simp only; omega, hi⟩, fun z hz => bounds_u8 (hw z hz)⟩
theorem elems_open (hv : Value.okWide Try.prog w .any b0 22 v) (h : DataW.Trod enc Try.prog w base (fun _ => true) true 22 v d p) (hl : Light Try.prog 22 d) :
    ∃ A c, ∃ xs : List El, v = .slice A xs.length c ∧ ElsAt w w.heap.size A xs ∧ (∀ x ∈ xs, GoodE w x) ∧ xs.length ≤ c ∧ c * 32 ≤ 140737488351232 := by
  obtain ⟨A, n, c, rfl⟩ := okWide_slice Try.underlying22 hv
  obtain ⟨fuel, hf⟩ := h
  obtain ⟨A', n', c', xs, e, h1, h2, h3, h4, h5⟩ := trod_rows sizE (by omega) Try.underlying22 (by kernel_rfl) elE (by simpa [Value.cells] using hf) hl
  injection e with e1 e2 e3
  subst e1; subst e2; subst e3; subst h1
  rw [show Try.prog.bytesOf 49 = 32 by kernel_rfl] at h5
  exact ⟨A, c, xs, rfl, ⟨h3, fun x hx => (h4 x hx).2.1⟩, h4, h2, h5⟩
end
end Go.Proofs.Ytpbfnkicbejdbaa.Rd
