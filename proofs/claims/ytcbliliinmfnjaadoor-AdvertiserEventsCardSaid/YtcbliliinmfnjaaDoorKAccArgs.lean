/- How arguments read: slices of addresses and of changes, a request under a policy. No function is mentioned. -/
import Derived.Test.YtcbliliinmfnjaaDoorKPart
import Derived.Test.YtcbliliinmfnjaaDoorKM8
set_option maxRecDepth 100000
set_option linter.unusedVariables false
set_option linter.unusedSimpArgs false
namespace Go.Proofs.YtcbliliinmfnjaaDoor.Rd
open Go.ChangeShapes Go.WideShapes Go.ChangeAt Go.RowKit Go.Deep Mem Rw Ace

def GoodA (x : Int × Int) : Prop := (-9223372036854775808 ≤ x.1 ∧ x.1 ≤ 9223372036854775807) ∧ 0 ≤ x.2 ∧ x.2 ≤ 18446744073709551615
section
variable {H : Type} {enc : TypeId × Value → H} {w : World} {base b0 : Nat} {v : Value} {d : DataW H} {p : List MemPlace}
theorem elA : ∀ fuel cs y, DataW.trod enc Tryd.prog w base (fun _ => true) true fuel 24 cs = some y → cs.length = 2 → Light Tryd.prog 24 y.1 → ∃ x : Int × Int, cs = encA x ∧ GoodA x := by
  intro fuel cs y h hlen hl
  obtain ⟨c0, c1, rfl⟩ := cells2 hlen
  obtain ⟨n, hat⟩ := trod_slot Tryd.underlying24 (by kernel_rfl) h hl
  obtain ⟨z0, h0, _⟩ := hat 0 _ c0 rfl rfl
  obtain ⟨z1, h1, _⟩ := hat 1 _ c1 rfl rfl
  obtain ⟨n0, rfl, w0⟩ := slot_int (by exact Tryd.underlying3) h0
  obtain ⟨n1, rfl, w1⟩ := slot_int (by exact Tryd.underlying22) h1
  exact ⟨(n0, n1), rfl, bounds_i64 w0, bounds_u64 w1⟩
end
end Go.Proofs.YtcbliliinmfnjaaDoor.Rd
