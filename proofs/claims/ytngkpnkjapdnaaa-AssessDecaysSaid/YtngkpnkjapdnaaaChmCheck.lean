/- Which maps are valid; whether two lists are the same: contracts over the program. -/
import Derived.Test.YtngkpnkjapdnaaaChmIter
set_option linter.unusedVariables false
set_option linter.unusedSimpArgs false
namespace Go.Proofs.Ytngkpnkjapdnaaa.Chm
open Go.RowKit Mem

theorem high_zero {m : Nat} (hm : m ≤ 18446744073709551615) : m &&& 18446743936270598144 = 0 ↔ m < 137438953472 := by
  have h1 := @Nat.and_div_two_pow m 18446743936270598144 37
  have h2 := @Nat.and_mod_two_pow m 18446743936270598144 37
  have e : (2 : Nat) ^ 37 = 137438953472 := by decide
  rw [e] at h1 h2
  rw [show (18446743936270598144 : Nat) / 137438953472 = 2 ^ 27 - 1 by decide, Nat.and_two_pow_sub_one_eq_mod, show (2 : Nat) ^ 27 = 134217728 by decide] at h1
  rw [show (18446743936270598144 : Nat) % 137438953472 = 0 by decide, Nat.and_zero] at h2
  generalize m &&& 18446743936270598144 = q at *
  omega
/-- The error of a map. -/
def okM (m : Nat) : Int := if 137438953472 ≤ m then 5 else if (chans m).length < 2 then 1 else 0
end Go.Proofs.Ytngkpnkjapdnaaa.Chm
