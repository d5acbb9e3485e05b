/- How arguments read: records, filters, receptions; the laws as the frames call them. -/
import Derived.Test.YtkbhmgdmkamcfaaDoorAirArgs
import Derived.Test.YtkbhmgdmkamcfaaDoorCapLawW
set_option linter.unusedVariables false
set_option linter.unusedSimpArgs false
set_option maxRecDepth 100000
namespace Go.Proofs.YtkbhmgdmkamcfaaDoor.Rd
open Go.ChangeShapes Go.WideShapes Go.ChangeAt Go.RowKit Go.Deep Mem Rw Air

section
variable {H : Type} {enc : TypeId × Value → H} {w : World} {base b0 : Nat} {d : DataW H} {p : List MemPlace} {v : Value}
theorem recE : ∀ fuel cs y, DataW.trod enc Tryd.prog w base (fun _ => true) true fuel 52 cs = some y → cs.length = 5 → Light Tryd.prog 52 y.1 → ∃ x : Tx, cs = encT x ∧ GoodT w x :=
  tx_elem Tryd.underlying52 (by kernel_rfl) (by exact Tryd.underlying3) (by exact Tryd.underlying3) (by exact Tryd.underlying3) (by exact Tryd.underlying3) (by exact Tryd.underlying32) Tryd.underlying5 (by kernel_rfl) (by kernel_rfl)
theorem records_open (hv : Value.okWide Tryd.prog w .any b0 35 v) (h : DataW.Trod enc Tryd.prog w base (fun _ => true) true 35 v d p) (hl : Light Tryd.prog 35 d) :
    ∃ A c, ∃ xs : List Tx, v = .slice A xs.length c ∧ TxsAt w w.heap.size A xs ∧ (∀ x ∈ xs, GoodT w x) ∧ xs.length ≤ c ∧ c * 56 ≤ 140737488351232 := by
  obtain ⟨A, n, c, rfl⟩ := okWide_slice Tryd.underlying35 hv
  obtain ⟨fuel, hf⟩ := h
  obtain ⟨A', n', c', xs, e, h1, h2, h3, h4, h5⟩ := trod_rows sizT (by omega) Tryd.underlying35 (by kernel_rfl) recE (by simpa [Value.cells] using hf) hl
  injection e with e1 e2 e3
  subst e1; subst e2; subst e3; subst h1
  rw [show Tryd.prog.bytesOf 52 = 56 by kernel_rfl] at h5
  exact ⟨A, c, xs, rfl, ⟨h3, fun x hx => (h4 x hx).2.1⟩, h4, h2, h5⟩
end
end Go.Proofs.YtkbhmgdmkamcfaaDoor.Rd
namespace Go.Proofs.YtkbhmgdmkamcfaaDoor.Cap
open Go.RowKit Mem Rw Air Base Oct
theorem fr_writes (A : Option Addr) (c : Nat) (xs : List Tx) (w : World) (ta : TxsAt w w.heap.size A xs) (g : ∀ x ∈ xs, Rd.GoodT w x) (hc : xs.length ≤ c) (hb : c * 56 ≤ 140737488351232) (hT : Tabs w) :
    Calls Tryd.prog 4 #[.slice A xs.length c] w fun e w' => e = .returned (.bool true) ∧ Below w.heap.size w w' :=
  law_writes A xs.length c xs w rfl hc ta (fun x hx => (g x hx).2.2) hT
end Go.Proofs.YtkbhmgdmkamcfaaDoor.Cap
