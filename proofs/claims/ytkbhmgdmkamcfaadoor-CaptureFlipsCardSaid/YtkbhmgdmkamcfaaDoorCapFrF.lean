/- CaptureFlips, as the frame calls it. -/
import Derived.Test.YtkbhmgdmkamcfaaDoorCapArgs
import Derived.Test.YtkbhmgdmkamcfaaDoorCapLawF
set_option linter.unusedVariables false
set_option linter.unusedSimpArgs false
namespace Go.Proofs.YtkbhmgdmkamcfaaDoor.Cap
open Go.RowKit Mem Rw Air Base Oct
theorem fr_flips (A : Option Addr) (c : Nat) (xs : List Tx) (which at_ y : Int) (w : World) (ta : TxsAt w w.heap.size A xs) (g : ∀ x ∈ xs, Rd.GoodT w x) (hc : xs.length ≤ c) (hb : c * 56 ≤ 140737488351232) (u : -9223372036854775808 ≤ which ∧ which ≤ 9223372036854775807) (u2 : -9223372036854775808 ≤ at_ ∧ at_ ≤ 9223372036854775807) (u3 : 0 ≤ y ∧ y ≤ 255) (hT : Tabs w) :
    Calls Tryd.prog 8 #[.slice A xs.length c, .int .i64 which, .int .i64 at_, .int .u8 y] w fun e w' => e = .returned (.bool true) ∧ Below w.heap.size w w' := by
  have hB : ∀ x ∈ xs, Bytes x.bs := fun x hx => (g x hx).2.2
  by_cases h64 : (xs.length : Int) ≤ 64
  · by_cases h0 : y = 0
    · exact flips_zero A xs.length c which at_ y w h64 h0 hT
    · by_cases hl : which < 0
      · exact flips_low A xs.length c which at_ y w h64 h0 hl hT
      · by_cases hh : (xs.length : Int) ≤ which
        · exact flips_high A xs.length c which at_ y w h64 h0 hl hh hT
        · obtain ⟨wh, rfl⟩ : ∃ K : Nat, which = (K : Int) := ⟨which.toNat, by omega⟩
          by_cases ok : okL none (xs.map Tx.tr)
          · exact flips_main A xs.length c wh xs at_ y w rfl ta hB h64 h0 (by omega) ok u3 hc hT
          · exact flips_wrong A xs.length c wh xs at_ y w rfl ta hB h64 h0 (by omega) ok hT
  · exact flips_many A xs.length c which at_ y w h64 hT
end Go.Proofs.YtkbhmgdmkamcfaaDoor.Cap
