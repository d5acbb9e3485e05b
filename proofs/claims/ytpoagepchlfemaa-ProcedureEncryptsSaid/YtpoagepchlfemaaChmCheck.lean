/- Which maps are valid; whether two lists are the same: contracts over the program. -/
import Derived.Test.YtpoagepchlfemaaChmIter
set_option linter.unusedVariables false
set_option linter.unusedSimpArgs false
namespace Go.Proofs.Ytpoagepchlfemaa.Chm
open Go.RowKit Mem

theorem high_zero {m : Nat} (hm : m ≤ 18446744073709551615) : m &&& 18446743936270598144 = 0 ↔ m < 137438953472 := by
  have h1 := @Nat.and_div_two_pow m 18446743936270598144 37
  have h2 := @Nat.and_mod_two_pow m 18446743936270598144 37
  have e : (2 : Nat) ^ 37 = 137438953472 := by decide
  rw [e] at h1 h2
  rw [show (18446743936270598144 : Nat) / 137438953472 = 2 ^ 27 - 1 by decide, Nat.and_two_pow_sub_one_eq_mod, show (2 : Nat) ^ 27 = 134217728 by decide] at h1
  rw [show (18446743936270598144 : Nat) % 137438953472 = 0 by decide, Nat.and_zero] at h2
  generalize m &&& 18446743936270598144 = q at *
  omega
/-- The error of a map. -/
def okM (m : Nat) : Int := if 137438953472 ≤ m then 5 else if (chans m).length < 2 then 1 else 0
theorem check_any (m : Nat) (w : World) (hm : m ≤ 18446744073709551615) :
    Calls Try.prog 97 #[.int .u64 m] w fun e w' => e = .returned (.int .i64 (okM m)) ∧ w = w' := by
  have HC := Lib.hid fun w => count_any m w hm
  have hz := high_zero hm
  have ha : bits BinOp.andNot IntKind.u64 (m : Int) 137438953471 = ((m &&& 18446743936270598144 : Nat) : Int) := u64_andNot_nat m 137438953471 (by omega) (by decide)
  have hrz : okM m = if 137438953472 ≤ m then 5 else if (chans m).length < 2 then 1 else 0 := rfl
  rw [hrz]
  clear hrz
  generalize m &&& 18446743936270598144 = q at *
  obtain ⟨k, hk⟩ : ∃ k, (chans m).length = k := ⟨_, rfl⟩
  rw [hk] at HC ⊢
  clear hk
  by_cases h0 : q = 0
  · subst h0
    rw [if_neg (by omega)]
    clear hz
    by_cases h2 : k < 2
    · rw [if_pos h2]
      go_enter Try.func97, Try.ntmps97
      go_wp2_with (go_at_call 103; refine (HC.out _).mono ?_; rintro e w' ⟨rfl, rfl⟩)
      go_ret
      exact ⟨rfl, rfl⟩
    · rw [if_neg h2]
      go_enter Try.func97, Try.ntmps97
      go_wp2_with (go_at_call 103; refine (HC.out _).mono ?_; rintro e w' ⟨rfl, rfl⟩)
      go_ret
      exact ⟨rfl, rfl⟩
  · rw [if_pos (by omega)]
    have q0 : (((q : Nat) : Int) != 0) = true := by simpa using h0
    clear hz h0
    go_enter Try.func97, Try.ntmps97
    go_wp2_with fail
    go_ret
    exact ⟨rfl, rfl⟩
end Go.Proofs.Ytpoagepchlfemaa.Chm
