/- What each function of the layer of wrapping counters, and of its specification, returns: contracts over the program. -/
import Derived.Test.YtmcpgnmkjebbjaaProg
import Derived.WalkKit
import Derived.Lib.MinMax
import Derived.Lib.Hide
import Derived.BigQuiet
import Derived.Deep.QuietTactic
import Derived.Test.YtmcpgnmkjebbjaaSerMath
set_option linter.unusedVariables false
namespace Go.Proofs.Ytmcpgnmkjebbjaa.Ser
open Go.RowKit

theorem power_any (b : Int) (w : World) (h0 : 0 ≤ b) (h1 : b ≤ 63) :
    Calls Try.prog 66 #[.int .i64 b] w fun e w' => e = .returned (.int .u64 (p2 b.toNat)) ∧ w = w' := by
  obtain ⟨n, rfl⟩ := Int.eq_ofNat_of_zero_le h0
  rw [Int.toNat_natCast]
  go_enter Try.func66, Try.ntmps66
  go_wp2
  go_loop [3, 4] (fun p i => ∃ k : Nat, k ≤ n ∧ i = .int .i64 k ∧ p = .int .u64 (p2 k)) (fun _ i => n - (intOf i).toNat)
  case atStart => exact ⟨0, Nat.zero_le _, rfl, rfl⟩
  case round =>
    obtain ⟨k, hk, rfl, rfl⟩ := hrel
    by_cases hlt : k < n
    · have hs := p2_le62 k (by omega)
      have hp := p2_pos k
      have H := Lib.hid (p2_succ k)
      go_wp2
      go_round
      case rel => exact ⟨k + 1, by omega, by go_num, by rw [H.out]⟩
      case measure => simp [intOf]; omega
    · have hkn : k = n := by omega
      subst hkn
      go_wp2
      go_ret
      exact ⟨rfl, rfl⟩

theorem rlow_any (n b : Int) (w : World) (h0 : 0 ≤ n) (h1 : n ≤ 18446744073709551615) (hb : -9223372036854775808 ≤ b ∧ b ≤ 9223372036854775807) :
    Calls Try.prog 69 #[.int .u64 n, .int .i64 b] w fun e w' => e = .returned (.int .u64 (lowZ n b)) ∧ w = w' := by
  by_cases h2 : b < 0
  · have H := Lib.hid (low_neg n b h2)
    go_enter Try.func69, Try.ntmps69
    go_wp2_with fail
    go_ret
    exact ⟨ret_int H.out.symm, rfl⟩
  · by_cases h3 : 63 < b
    · have H := Lib.hid (low_all n b h3 h0 h1)
      go_enter Try.func69, Try.ntmps69
      go_wp2_with fail
      go_ret
      exact ⟨ret_int H.out.symm, rfl⟩
    · have H := Lib.hid (low_mid n b (by omega) (by omega))
      have hp := p2_pos b.toNat
      have hnz : (p2 b.toNat == 0) = false := by simp; omega
      go_enter Try.func69, Try.ntmps69
      go_wp2_with (go_at_call 66; refine (power_any _ _ (by omega) (by omega)).mono ?_; rintro e w' ⟨rfl, rfl⟩)
      go_ret
      exact ⟨ret_int H.out.symm, rfl⟩
set_option linter.unusedSimpArgs false
end Go.Proofs.Ytmcpgnmkjebbjaa.Ser
