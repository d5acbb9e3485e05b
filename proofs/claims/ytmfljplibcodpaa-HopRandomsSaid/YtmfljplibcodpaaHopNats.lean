/- The laws with numbers as the frame hands them. -/
import Derived.Test.YtmfljplibcodpaaHopStays
set_option linter.unusedVariables false
namespace Go.Proofs.Ytmfljplibcodpaa.Hop
open Go.RowKit Mem

theorem go_randoms (a e c : Int) (w : World) (ha : 0 ≤ a ∧ a ≤ 4294967295) (he : 0 ≤ e ∧ e ≤ 65535) (hc : 0 ≤ c ∧ c ≤ 65535) :
    Calls Try.prog 4 #[.int .u32 a, .int .u16 e, .int .u16 c] w fun e w' => e = .returned (.bool true) ∧ Below w.heap.size w w' := by
  obtain ⟨a, rfl⟩ := Int.eq_ofNat_of_zero_le ha.1
  obtain ⟨e, rfl⟩ := Int.eq_ofNat_of_zero_le he.1
  obtain ⟨c, rfl⟩ := Int.eq_ofNat_of_zero_le hc.1
  exact law_randoms a e c w (by omega) (by omega) (by omega)
theorem go_mixes (m e a : Int) (w : World) (hm : 0 ≤ m ∧ m ≤ 18446744073709551615) (he : 0 ≤ e ∧ e ≤ 65535) (ha : 0 ≤ a ∧ a ≤ 4294967295) :
    Calls Try.prog 5 #[.int .u64 m, .int .u16 e, .int .u32 a] w fun e w' => e = .returned (.bool true) ∧ Below w.heap.size w w' := by
  obtain ⟨a, rfl⟩ := Int.eq_ofNat_of_zero_le ha.1
  obtain ⟨e, rfl⟩ := Int.eq_ofNat_of_zero_le he.1
  obtain ⟨m, rfl⟩ := Int.eq_ofNat_of_zero_le hm.1
  exact law_mixes m e a w (by omega) (by omega) (by omega)
theorem go_nexts (a b u0 u1 u2 u3 u4 m h d g e l : Int) (w : World) (ha : 0 ≤ a ∧ a ≤ 4294967295) (hm : 0 ≤ m ∧ m ≤ 18446744073709551615) (hh : -9223372036854775808 ≤ h ∧ h ≤ 9223372036854775807) (he : 0 ≤ e ∧ e ≤ 65535) (hl : -9223372036854775808 ≤ l ∧ l ≤ 9223372036854775807) :
    Calls Try.prog 6 #[.agg #[.int .u32 a, .int .u32 b, .int .i64 u0, .int .i64 u1, .int .i64 u2, .int .i64 u3, .int .i64 u4, .int .u64 m, .int .i64 h, .int .i64 d, .int .i64 g], .int .u16 e, .int .i64 l] w fun e w' => e = .returned (.bool true) ∧ Below w.heap.size w w' := by
  obtain ⟨e, rfl⟩ := Int.eq_ofNat_of_zero_le he.1
  exact law_nexts ⟨a, b, u0, u1, u2, u3, u4, m, h, d, g⟩ e l w ⟨ha, hm, hh⟩ (by omega) hl
theorem go_stays (a b u0 u1 u2 u3 u4 m h d g e l : Int) (w : World) (ha : 0 ≤ a ∧ a ≤ 4294967295) (hm : 0 ≤ m ∧ m ≤ 18446744073709551615) (hh : -9223372036854775808 ≤ h ∧ h ≤ 9223372036854775807) (he : 0 ≤ e ∧ e ≤ 65535) (hl : -9223372036854775808 ≤ l ∧ l ≤ 9223372036854775807) :
    Calls Try.prog 7 #[.agg #[.int .u32 a, .int .u32 b, .int .i64 u0, .int .i64 u1, .int .i64 u2, .int .i64 u3, .int .i64 u4, .int .u64 m, .int .i64 h, .int .i64 d, .int .i64 g], .int .u16 e, .int .i64 l] w fun e w' => e = .returned (.bool true) ∧ Below w.heap.size w w' := by
  obtain ⟨e, rfl⟩ := Int.eq_ofNat_of_zero_le he.1
  exact law_stays ⟨a, b, u0, u1, u2, u3, u4, m, h, d, g⟩ e l w ⟨ha, hm, hh⟩ (by omega) hl
end Go.Proofs.Ytmfljplibcodpaa.Hop
