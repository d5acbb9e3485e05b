/- Checking an address: the program's and the reference's: contracts over the program. -/
import Derived.Test.YtegmknmbgifmjaaDoorAdqWalks
set_option linter.unusedVariables false
set_option linter.unusedSimpArgs false
namespace Go.Proofs.YtegmknmbgifmjaaDoor.Adr
open Go.RowKit Mem Oct Base

theorem check_any (k b : Int) (w : World) (hk : -9223372036854775808 ≤ k ∧ k ≤ 9223372036854775807) (hb : 0 ≤ b ∧ b ≤ 18446744073709551615) (hT : Tab w) :
    Calls Tryd.prog 24 #[.agg #[.int .i64 k, .int .u64 b]] w fun e w' => e = .returned (.int .i64 (chk k b)) ∧ Below w.heap.size w w' := by
  have hW0 := box_new w k b
  have hB : Below w.heap.size w (w.alloc (.cells #[.int .i64 k, .int .u64 b] 25)) := (Below.refl _ _).alloc (Nat.le_refl _) _
  have T1 := hT.below hB
  have c0 := hW0.c0
  have c1 := hW0.c1
  by_cases h1 : 1 ≤ k ∧ k ≤ 4
  · have hn : (decide (1 ≤ k ∧ k ≤ 4)) = true := decide_eq_true h1
    by_cases h2 : b < 281474976710656
    · have g2 : b / 281474976710656 = 0 := by omega
      by_cases h3 : k = 1
      · have HX := Lib.hid (chk_public h2)
        subst h3
        go_enter Tryd.func24, Tryd.ntmps24
        go_wp2_with (go_at_call 31; refine (known_any _ _ (by omega)).mono ?_; rw [hn]; rintro e w' ⟨rfl, rfl⟩)
        go_ret
        exact ⟨Ser.ret_int HX.out.symm, hB⟩
      · have g3 : (k != 1) = true := by simpa using h3
        have hw := well_any k b (w.alloc (.cells #[.int .i64 k, .int .u64 b] 25)) (by omega) (by omega) T1
        cases hf : wf k b with
        | true =>
          have HX := Lib.hid (chk_wf (by omega) h2 hf)
          rw [hf] at hw
          go_enter Tryd.func24, Tryd.ntmps24
          go_wp2_with (first
            | (go_at_call 31; refine (known_any _ _ (by omega)).mono ?_; rw [hn]; rintro e w' ⟨rfl, rfl⟩)
            | (go_at_call 32; refine hw.mono ?_; rintro e w' ⟨rfl, hb1⟩))
          go_ret
          exact ⟨Ser.ret_int HX.out.symm, thenB hB hb1⟩
        | false =>
          have HX := Lib.hid (chk_bad (by omega) h2 hf)
          rw [hf] at hw
          go_enter Tryd.func24, Tryd.ntmps24
          go_wp2_with (first
            | (go_at_call 31; refine (known_any _ _ (by omega)).mono ?_; rw [hn]; rintro e w' ⟨rfl, rfl⟩)
            | (go_at_call 32; refine hw.mono ?_; rintro e w' ⟨rfl, hb1⟩))
          go_ret
          exact ⟨Ser.ret_int HX.out.symm, thenB hB hb1⟩
    · have HX := Lib.hid (chk_range h1 (show 281474976710656 ≤ b by omega))
      have g2 : ¬ b / 281474976710656 = 0 := by omega
      go_enter Tryd.func24, Tryd.ntmps24
      go_wp2_with (go_at_call 31; refine (known_any _ _ (by omega)).mono ?_; rw [hn]; rintro e w' ⟨rfl, rfl⟩)
      go_ret
      exact ⟨Ser.ret_int HX.out.symm, hB⟩
  · have HX := Lib.hid (chk_kind (b := b) (show k < 1 ∨ 4 < k by omega))
    have hn : (decide (1 ≤ k ∧ k ≤ 4)) = false := decide_eq_false h1
    go_enter Tryd.func24, Tryd.ntmps24
    go_wp2_with (go_at_call 31; refine (known_any _ _ (by omega)).mono ?_; rw [hn]; rintro e w' ⟨rfl, rfl⟩)
    go_ret
    exact ⟨Ser.ret_int HX.out.symm, hB⟩
theorem rprefix_any (k : Int) (w : World) (hk : -9223372036854775808 ≤ k ∧ k ≤ 9223372036854775807) :
    Calls Tryd.prog 33 #[.int .i64 k] w fun e w' => e = .returned (.int .u64 (pre k)) ∧ w = w' := by
  by_cases h2 : k = 2
  · subst h2
    go_enter Tryd.func33, Tryd.ntmps33
    go_wp2
    go_ret
    exact ⟨rfl, rfl⟩
  · by_cases h3 : k = 3
    · subst h3
      go_enter Tryd.func33, Tryd.ntmps33
      go_wp2
      go_ret
      exact ⟨rfl, rfl⟩
    · have HX : Hid (pre k = 0) := Lib.hid (by unfold pre; rw [if_neg h2, if_neg h3])
      go_enter Tryd.func33, Tryd.ntmps33
      go_wp2
      go_ret
      exact ⟨Ser.ret_int HX.out.symm, rfl⟩
end Go.Proofs.YtegmknmbgifmjaaDoor.Adr
