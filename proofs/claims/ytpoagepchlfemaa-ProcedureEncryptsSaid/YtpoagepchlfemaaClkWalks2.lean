/- What a clock shows, and the first time at which it shows something: contracts over the program. -/
import Derived.Test.YtpoagepchlfemaaClkWalks
set_option linter.unusedVariables false
set_option linter.unusedSimpArgs false
namespace Go.Proofs.Ytpoagepchlfemaa.Clk
open Go.RowKit Mem

theorem i64_in (x : Int) (h : -9223372036854775808 ≤ x ∧ x ≤ 9223372036854775807) : IntKind.i64.wrap x = x := by
  simp only [IntKind.wrap, IntKind.bits, IntKind.signed]; simp; split <;> omega
def okC (p s : Int) : Int := if -500 ≤ p ∧ p ≤ 500 ∧ 0 ≤ s ∧ s ≤ 1099511627776 then 0 else 5
theorem okC_eq (p s : Int) : (p == lim p (-500) 500 && s == lim s 0 1099511627776) = decide (-500 ≤ p ∧ p ≤ 500 ∧ 0 ≤ s ∧ s ≤ 1099511627776) := by
  have h1 := lim_eq (n := p) (lo := -500) (hi := 500) (by decide)
  have h2 := lim_eq (n := s) (lo := 0) (hi := 1099511627776) (by decide)
  rw [Bool.eq_iff_iff]
  simp only [Bool.and_eq_true, beq_iff_eq, decide_eq_true_eq, h1, h2, and_assoc]
end Go.Proofs.Ytpoagepchlfemaa.Clk
