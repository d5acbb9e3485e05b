/- The laws with whole numbers as the frame hands them. -/
import Derived.Test.YtkpjpjjpjpimiaaDoorChmLaws
import Derived.Test.YtkpjpjjpjpimiaaDoorChmLaws2
import Derived.Test.YtkpjpjjpjpimiaaDoorChmLaws3
set_option linter.unusedVariables false
namespace Go.Proofs.YtkpjpjjpjpimiaaDoor.Chm
open Go.RowKit Mem

theorem go_checks (m : Int) (w : World) (hm : 0 ≤ m ∧ m ≤ 18446744073709551615) (hE : Errs w) :
    Calls Tryd.prog 3 #[.int .u64 m] w fun e w' => e = .returned (.bool true) ∧ Below w.heap.size w w' := by
  obtain ⟨n, rfl⟩ := Int.eq_ofNat_of_zero_le hm.1
  exact law_checks n w (by omega) hE
theorem go_sets (m : Int) (i : Int) (w : World) (hm : 0 ≤ m ∧ m ≤ 18446744073709551615) (hi : -9223372036854775808 ≤ i ∧ i ≤ 9223372036854775807) (hE : Errs w) :
    Calls Tryd.prog 4 #[.int .u64 m, .int .i64 i] w fun e w' => e = .returned (.bool true) ∧ Below w.heap.size w w' := by
  obtain ⟨n, rfl⟩ := Int.eq_ofNat_of_zero_le hm.1
  exact law_sets n i w (by omega) hi hE
theorem go_remaps (m : Int) (i : Int) (w : World) (hm : 0 ≤ m ∧ m ≤ 18446744073709551615) (hi : -9223372036854775808 ≤ i ∧ i ≤ 9223372036854775807) (hE : Errs w) :
    Calls Tryd.prog 5 #[.int .u64 m, .int .i64 i] w fun e w' => e = .returned (.bool true) ∧ Below w.heap.size w w' := by
  obtain ⟨n, rfl⟩ := Int.eq_ofNat_of_zero_le hm.1
  exact law_remaps n i w (by omega) hi hE
theorem go_list (m : Int) (i : Int) (w : World) (hm : 0 ≤ m ∧ m ≤ 18446744073709551615) (hi : -9223372036854775808 ≤ i ∧ i ≤ 9223372036854775807) (hE : Errs w) :
    Calls Tryd.prog 8 #[.int .u64 m, .int .i64 i] w fun e w' => e = .returned (.bool true) ∧ Below w.heap.size w w' := by
  obtain ⟨n, rfl⟩ := Int.eq_ofNat_of_zero_le hm.1
  exact law_list n i w (by omega) hi hE
end Go.Proofs.YtkpjpjjpjpimiaaDoor.Chm
