/- The laws on texts with whole numbers as the frame hands them. -/
import Derived.Test.YtkpjpjjpjpimiaaDoorChmLaws4
set_option linter.unusedVariables false
namespace Go.Proofs.YtkpjpjjpjpimiaaDoor.Chm
open Go.RowKit Mem Oct

theorem go_texts (m : Int) (s : ByteArray) (w : World) (hm : 0 ≤ m ∧ m ≤ 18446744073709551615) (hs : s.size ≤ 1048576) (hE : Errs w) :
    Calls Tryd.prog 7 #[.int .u64 m, .string s] w fun e w' => e = .returned (.bool true) ∧ Below w.heap.size w w' := by
  obtain ⟨k, rfl⟩ := Int.eq_ofNat_of_zero_le hm.1
  exact law_texts k s w (by omega) hs hE
theorem go_back (m : Int) (A : Option Addr) (n c : Nat) (xs : List Int) (s : ByteArray) (w : World) (hm : 0 ≤ m ∧ m ≤ 18446744073709551615)
    (hx : xs.length = n) (hnc : n ≤ c) (hr : Ints .u8 w w.heap.size A xs) (bx : Bytes xs) (hc : c ≤ 1048576) (hs : s.size ≤ 1048576) (hE : Errs w) :
    Calls Tryd.prog 9 #[.int .u64 m, .slice A n c, .string s] w fun e w' => e = .returned (.bool true) ∧ Below w.heap.size w w' := by
  obtain ⟨k, rfl⟩ := Int.eq_ofNat_of_zero_le hm.1
  exact law_back k A n c xs s w (by omega) hx hnc hr bx hc hs hE
end Go.Proofs.YtkpjpjjpjpimiaaDoor.Chm
