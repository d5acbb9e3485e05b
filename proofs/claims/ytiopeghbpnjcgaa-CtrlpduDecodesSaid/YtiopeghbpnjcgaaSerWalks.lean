/- What each function of the layer of wrapping counters, and of its specification, returns: contracts over the program. -/
import Derived.Test.YtiopeghbpnjcgaaProg
import Derived.WalkKit
import Derived.Lib.MinMax
import Derived.Lib.Hide
import Derived.BigQuiet
import Derived.Deep.QuietTactic
import Derived.Test.YtiopeghbpnjcgaaSerMath
set_option linter.unusedVariables false
namespace Go.Proofs.Ytiopeghbpnjcgaa.Ser
open Go.RowKit

theorem power_any (b : Int) (w : World) (h0 : 0 ≤ b) (h1 : b ≤ 63) :
    Calls Try.prog 44 #[.int .i64 b] w fun e w' => e = .returned (.int .u64 (p2 b.toNat)) ∧ w = w' := by
  obtain ⟨n, rfl⟩ := Int.eq_ofNat_of_zero_le h0
  rw [Int.toNat_natCast]
  go_enter Try.func44, Try.ntmps44
  go_wp2
  go_loop [3, 4] (fun p i => ∃ k : Nat, k ≤ n ∧ i = .int .i64 k ∧ p = .int .u64 (p2 k)) (fun _ i => n - (intOf i).toNat)
  case atStart => exact ⟨0, Nat.zero_le _, rfl, rfl⟩
  case round =>
    obtain ⟨k, hk, rfl, rfl⟩ := hrel
    by_cases hlt : k < n
    · have hs := p2_le62 k (by omega)
      have hp := p2_pos k
      have H := Lib.hid (p2_succ k)
      go_wp2
      go_round
      case rel => exact ⟨k + 1, by omega, by go_num, by rw [H.out]⟩
      case measure => simp [intOf]; omega
    · have hkn : k = n := by omega
      subst hkn
      go_wp2
      go_ret
      exact ⟨rfl, rfl⟩

set_option linter.unusedSimpArgs false
end Go.Proofs.Ytiopeghbpnjcgaa.Ser
