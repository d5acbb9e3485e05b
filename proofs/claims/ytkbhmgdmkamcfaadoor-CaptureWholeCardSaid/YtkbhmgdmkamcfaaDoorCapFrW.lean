/- CaptureWhole, as the frame calls it. -/
import Derived.Test.YtkbhmgdmkamcfaaDoorCapArgs
import Derived.Test.YtkbhmgdmkamcfaaDoorCapLawH3
set_option linter.unusedVariables false
set_option linter.unusedSimpArgs false
namespace Go.Proofs.YtkbhmgdmkamcfaaDoor.Cap
open Go.RowKit Mem Rw Air Base Oct
theorem fr_whole (A : Option Addr) (c : Nat) (xs : List Tx) (cut : Int) (w : World) (ta : TxsAt w w.heap.size A xs) (g : ∀ x ∈ xs, Rd.GoodT w x) (hc : xs.length ≤ c) (hb : c * 56 ≤ 140737488351232) (u : -9223372036854775808 ≤ cut ∧ cut ≤ 9223372036854775807) (hT : Tabs w) :
    Calls Tryd.prog 7 #[.slice A xs.length c, .int .i64 cut] w fun e w' => e = .returned (.bool true) ∧ Below w.heap.size w w' := by
  have hB : ∀ x ∈ xs, Bytes x.bs := fun x hx => (g x hx).2.2
  by_cases h64 : (xs.length : Int) ≤ 64
  · by_cases ok : okL none (xs.map Tx.tr)
    · by_cases h0 : cut < 0 ∨ ((4 + (bytesL (xs.map Tx.tr)).length : Nat) : Int) < cut
      · exact whole_out A xs.length c xs cut w rfl ta hB h64 ok hT h0
      · obtain ⟨K, rfl⟩ : ∃ K : Nat, cut = (K : Int) := ⟨cut.toNat, by omega⟩
        by_cases h4 : K < 4
        · exact whole_short A xs.length c xs K w rfl ta hB h64 ok hT h4
        · exact whole_main A xs.length c xs K w rfl ta hB h64 ok hT (by omega) (by omega) hc
    · exact whole_wrong A xs.length c xs cut w rfl ta hB h64 ok hT
  · exact whole_many A xs.length c cut w h64 hT
end Go.Proofs.YtkbhmgdmkamcfaaDoor.Cap
