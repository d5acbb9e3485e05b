/- The statements on the spectrum and on the list of a map, walked: each returns true. -/
import Derived.Test.YtkpjpjjpjpimiaaDoorChmLives
set_option linter.unusedVariables false
set_option linter.unusedSimpArgs false
namespace Go.Proofs.YtkpjpjjpjpimiaaDoor.Chm
open Go.RowKit Mem Oct Base

theorem freq_out {a : Int} (h : ¬ (0 ≤ a ∧ a < 40)) : freqZ a = 0 := by
  unfold freqZ
  rw [if_neg (by omega), if_neg (by omega), if_neg (by omega), if_neg (by omega), if_neg (by omega)]
theorem freq_in {a : Int} (h0 : 0 ≤ a) (h1 : a < 40) : (freqZ a = 2404 + 2 * a ∧ a ≤ 10) ∨ (freqZ a = 2406 + 2 * a ∧ 11 ≤ a ∧ a ≤ 36) ∨ (freqZ a = 2402 ∧ a = 37) ∨ (freqZ a = 2426 ∧ a = 38) ∨ (freqZ a = 2480 ∧ a = 39) := by
  unfold freqZ
  split
  · left; omega
  · split
    · right; left; omega
    · split
      · right; right; left; omega
      · split
        · right; right; right; left; omega
        · split
          · right; right; right; right; omega
          · omega
theorem freq_to {a v : Int} (h : freqZ a = v) : Hid (∀ w, Calls Tryd.prog 25 #[.int .i64 a] w fun e w' => e = .returned (.int .i64 v) ∧ w = w') := Lib.hid fun w => by
  rw [← h]; exact frequency_any a w
theorem law_spectrum (a b : Int) (w : World) (ha : -9223372036854775808 ≤ a ∧ a ≤ 9223372036854775807) (hb : -9223372036854775808 ≤ b ∧ b ≤ 9223372036854775807) (hE : Errs w) :
    Calls Tryd.prog 10 #[.int .i64 a, .int .i64 b] w fun e w' => e = .returned (.bool true) ∧ Below w.heap.size w w' := by
  have HL := Lib.hid (lives_any w hE)
  clear hE
  by_cases a0 : a < 0
  · have HF := freq_to (freq_out (a := a) (by omega))
    have HG := freq_to (rfl : freqZ b = freqZ b)
    generalize freqZ b = G at *
    go_enter Tryd.func10, Tryd.ntmps10
    go_wp2_with (first
      | (go_at_call 11; refine HL.out.mono ?_; rintro e w1 ⟨rfl, b1⟩)
      | (go_at_call 25; refine (HF.out _).mono ?_; clear HF; rintro e w' ⟨rfl, rfl⟩)
      | (go_at_call 25; refine (HG.out _).mono ?_; rintro e w' ⟨rfl, rfl⟩))
    go_ret
    exact ⟨rfl, b1⟩
  · by_cases a1 : a < 40
    · by_cases b0 : b < 0
      · have HF := freq_to (rfl : freqZ a = freqZ a)
        have HG := freq_to (rfl : freqZ b = freqZ b)
        generalize freqZ a = F at *
        generalize freqZ b = G at *
        go_enter Tryd.func10, Tryd.ntmps10
        go_wp2_with (first
          | (go_at_call 11; refine HL.out.mono ?_; rintro e w1 ⟨rfl, b1⟩)
          | (go_at_call 25; refine (HF.out _).mono ?_; clear HF; rintro e w' ⟨rfl, rfl⟩)
          | (go_at_call 25; refine (HG.out _).mono ?_; rintro e w' ⟨rfl, rfl⟩))
        go_ret
        exact ⟨rfl, b1⟩
      · by_cases b2 : b < 40
        · have k1 := freq_in (a := a) (by omega) a1
          have k2 := freq_in (a := b) (by omega) b2
          have HF := freq_to (rfl : freqZ a = freqZ a)
          have HG := freq_to (rfl : freqZ b = freqZ b)
          generalize freqZ a = F at *
          generalize freqZ b = G at *
          have q1 : decide (2402 ≤ F) = true := by simp; omega
          have q2 : decide (F ≤ 2480) = true := by simp; omega
          have q3 : F.tmod 2 = 0 := by rw [Int.tmod_eq_emod_of_nonneg (by omega)]; omega
          have q4 : F % 2 = 0 := by omega
          have q5 : ((a == b) == (F == G)) = true := by
            by_cases e : a = b
            · have : F = G := by omega
              subst e; subst this; simp
            · have : ¬ F = G := by omega
              rw [beq_false_of_ne e, beq_false_of_ne this]; rfl
          clear k1 k2
          go_enter Tryd.func10, Tryd.ntmps10
          go_wp2_with (first
            | (go_at_call 11; refine HL.out.mono ?_; rintro e w1 ⟨rfl, b1⟩)
            | (go_at_call 25; refine (HF.out _).mono ?_; clear HF; rintro e w' ⟨rfl, rfl⟩)
            | (go_at_call 25; refine (HG.out _).mono ?_; rintro e w' ⟨rfl, rfl⟩))
          go_ret
          exact ⟨rfl, b1⟩
        · have HF := freq_to (rfl : freqZ a = freqZ a)
          have HG := freq_to (rfl : freqZ b = freqZ b)
          generalize freqZ a = F at *
          generalize freqZ b = G at *
          go_enter Tryd.func10, Tryd.ntmps10
          go_wp2_with (first
            | (go_at_call 11; refine HL.out.mono ?_; rintro e w1 ⟨rfl, b1⟩)
            | (go_at_call 25; refine (HF.out _).mono ?_; clear HF; rintro e w' ⟨rfl, rfl⟩)
            | (go_at_call 25; refine (HG.out _).mono ?_; rintro e w' ⟨rfl, rfl⟩))
          go_ret
          exact ⟨rfl, b1⟩
    · have HF := freq_to (freq_out (a := a) (by omega))
      have HG := freq_to (rfl : freqZ b = freqZ b)
      generalize freqZ b = G at *
      go_enter Tryd.func10, Tryd.ntmps10
      go_wp2_with (first
        | (go_at_call 11; refine HL.out.mono ?_; rintro e w1 ⟨rfl, b1⟩)
        | (go_at_call 25; refine (HF.out _).mono ?_; clear HF; rintro e w' ⟨rfl, rfl⟩)
        | (go_at_call 25; refine (HG.out _).mono ?_; rintro e w' ⟨rfl, rfl⟩))
      go_ret
      exact ⟨rfl, b1⟩
end Go.Proofs.YtkpjpjjpjpimiaaDoor.Chm
