/- What each function of the layer of wrapping counters, and of its specification, returns: contracts over the program. -/
import Derived.Test.YtejojcanmlgegaaProg
import Derived.WalkKit
import Derived.Lib.MinMax
import Derived.Lib.Hide
import Derived.BigQuiet
import Derived.Deep.QuietTactic
import Derived.Test.YtejojcanmlgegaaSerMath
set_option linter.unusedVariables false
namespace Go.Proofs.Ytejojcanmlgegaa.Ser
open Go.RowKit

theorem diff_any (a b : Int) (w : World) (h0 : 0 ≤ a ∧ a ≤ 65535) (h1 : 0 ≤ b ∧ b ≤ 65535) :
    Calls Try.prog 25 #[.int .u16 a, .int .u16 b] w fun e w' => e = .returned (.int .i64 (diffZ a b)) ∧ w = w' := by
  have H := Lib.hid (diff_code a b h0 h1)
  go_enter Try.func25, Try.ntmps25
  go_wp2
  go_ret
  exact ⟨ret_int H.out, rfl⟩
theorem rdiff_any (a b : Int) (w : World) (h0 : 0 ≤ a ∧ a ≤ 65535) (h1 : 0 ≤ b ∧ b ≤ 65535) :
    Calls Try.prog 26 #[.int .u16 a, .int .u16 b] w fun e w' => e = .returned (.int .i64 (diffZ a b)) ∧ w = w' := by
  go_enter Try.func26, Try.ntmps26
  go_wp2
  all_goals
    go_ret
    exact ⟨ret_int (by unfold diffZ; omega), rfl⟩
theorem add_any (a n : Int) (w : World) (h0 : 0 ≤ a ∧ a ≤ 65535) (hb : -9223372036854775808 ≤ n ∧ n ≤ 9223372036854775807) :
    Calls Try.prog 20 #[.int .u16 a, .int .i64 n] w fun e w' => e = .returned (.int .u16 (addZ a n)) ∧ w = w' := by
  go_enter Try.func20, Try.ntmps20
  go_wp2
  go_ret
  exact ⟨ret_int (add_code a n), rfl⟩
theorem radd_any (a n : Int) (w : World) (h0 : 0 ≤ a ∧ a ≤ 65535) (hb : -9223372036854775808 ≤ n ∧ n ≤ 9223372036854775807) :
    Calls Try.prog 21 #[.int .u16 a, .int .i64 n] w fun e w' => e = .returned (.int .u16 (addZ a n)) ∧ w = w' := by
  have hm := tmod_bd n
  go_enter Try.func21, Try.ntmps21
  go_wp2
  go_ret
  exact ⟨ret_int (by first | exact radd_code a n h0.1 | (rw [← radd_code a n h0.1, wrap_u16]; omega)), rfl⟩
theorem passed_any (a b : Int) (w : World) (h0 : 0 ≤ a ∧ a ≤ 65535) (h1 : 0 ≤ b ∧ b ≤ 65535) :
    Calls Try.prog 22 #[.int .u16 a, .int .u16 b] w fun e w' => e = .returned (.bool (passedB a b)) ∧ w = w' := by
  go_enter Try.func22, Try.ntmps22
  go_wp2_with (go_at_call 25; refine (diff_any _ _ _ (by omega) (by omega)).mono ?_; rintro e w' ⟨rfl, rfl⟩)
  go_ret
  exact ⟨rfl, rfl⟩
theorem rpassed_any (a b : Int) (w : World) (h0 : 0 ≤ a ∧ a ≤ 65535) (h1 : 0 ≤ b ∧ b ≤ 65535) :
    Calls Try.prog 23 #[.int .u16 a, .int .u16 b] w fun e w' => e = .returned (.bool (passedB a b)) ∧ w = w' := by
  go_enter Try.func23, Try.ntmps23
  go_wp2_with (go_at_call 26; refine (rdiff_any _ _ _ (by omega) (by omega)).mono ?_; rintro e w' ⟨rfl, rfl⟩)
  go_ret
  exact ⟨rfl, rfl⟩
set_option linter.unusedSimpArgs false
end Go.Proofs.Ytejojcanmlgegaa.Ser
