/- The statement on reading texts of addresses, walked: it returns true. -/
import Derived.Test.YtchjopgcbpopcaaDoorAdrLives
import Derived.Test.YtchjopgcbpopcaaDoorAdrRParse
set_option linter.unusedVariables false
set_option linter.unusedSimpArgs false
namespace Go.Proofs.YtchjopgcbpopcaaDoor.Adr
open Go.RowKit Mem Oct Base

theorem str_chL (s : ByteArray) : strOfNums (chL s) = s := by
  obtain ⟨⟨l⟩⟩ := s
  simp [strOfNums, chL, Function.comp_def]
set_option maxHeartbeats 1000000 in
theorem law_parses (s : ByteArray) (w : World) (hs : s.size ≤ 9223372036854775807) (hT : Tab w) :
    Calls Tryd.prog 8 #[.string s] w fun e w' => e = .returned (.bool true) ∧ Below w.heap.size w w' := by
  by_cases h : s.size ≤ 100
  · have hl : ((s.size : Int)) ≤ 100 := by omega
    have H1 : Hid (∀ w, Tab w → Calls Tryd.prog 23 #[.string s] w fun e w' => Reads w w' e (parseR (chL s))) := Lib.hid fun w hT => parse_any s w (by omega) hT
    have H2 : Hid (∀ w, Calls Tryd.prog 24 #[.string s] w fun e w' => Reads w w' e (parseR (chL s))) := Lib.hid fun w => rparse_any s w (by omega)
    have tp := text_parse (xs := chL s)
    have hbd : (-9223372036854775808 ≤ (parseR (chL s)).1.1 ∧ (parseR (chL s)).1.1 ≤ 9223372036854775807) ∧ 0 ≤ (parseR (chL s)).1.2 ∧ (parseR (chL s)).1.2 ≤ 18446744073709551615 := by
      by_cases hc : (chL s).length = 19 ∧ okN (chL s) 6 = true ∧ kindZ ((chL s).getD 18 0) ≠ 0
      · rw [parseR_form hc]
        have k1 := kindZ_bd ((chL s).getD 18 0)
        have v1 := val6_bd hc.2.1
        simp only
        split <;> omega
      · rw [parseR_bad hc]; simp
    generalize parseR (chL s) = r at *
    obtain ⟨⟨K, B⟩, C⟩ := r
    simp only at tp hbd
    by_cases h0 : C = 0
    · subst h0
      have H3 : Hid (∀ w, Tab w → Calls Tryd.prog 21 #[.agg #[.int .i64 K, .int .u64 B]] w fun e w' => e = .returned (.string s) ∧ Below w.heap.size w w') := Lib.hid fun w hT => by
        have := text_any K B w hbd.1 hbd.2 hT
        rw [tp rfl, str_chL] at this
        exact this
      clear tp hbd
      go_enter Tryd.func8, Tryd.ntmps8
      go_wp2_with fail
      refine (H1.out _ hT).mono ?_
      rintro e w1 ⟨rfl, b1⟩
      have T1 := (hT.below b1).alloc (.cells #[.int .i64 K, .int .u64 B] 24)
      have F := box_new w1 K B
      have B1 := thenB b1 ((Below.refl w1.heap.size w1).alloc (Nat.le_refl _) (.cells #[.int .i64 K, .int .u64 B] 24))
      go_wp2_with fail
      generalize w1.alloc (.cells #[.int .i64 K, .int .u64 B] 24) = W1 at *
      refine (H2.out _).mono ?_
      rintro e w2 ⟨rfl, b2⟩
      have F2 := (F.below b2).below ((Below.refl w2.heap.size w2).alloc (Nat.le_refl _) (.cells #[.int .i64 K, .int .u64 B] 24))
      have G2 := box_new w2 K B
      have T2 := (T1.below b2).alloc (.cells #[.int .i64 K, .int .u64 B] 24)
      have B2 := thenB (thenB B1 b2) ((Below.refl w2.heap.size w2).alloc (Nat.le_refl _) (.cells #[.int .i64 K, .int .u64 B] 24))
      go_wp2_with fail
      generalize w2.alloc (.cells #[.int .i64 K, .int .u64 B] 24) = W2 at *
      refine (lives_any _ T2).mono ?_
      rintro e w3 ⟨rfl, b3⟩
      obtain ⟨u0, u1, u2, u3⟩ := cells_below ⟨F2.c0, F2.c1, G2.c0, G2.c1⟩ b3
      have T3 := T2.below b3
      have B3 := thenB B2 b3
      go_wp2_with (go_at_call 21; refine (H3.out _ T3).mono ?_; rintro e w4 ⟨rfl, b4⟩; have B4 := thenB B3 b4)
      go_ret
      exact ⟨rfl, B4⟩
    · have hc1 : (C != 0) = true := by simpa using h0
      clear tp
      go_enter Tryd.func8, Tryd.ntmps8
      go_wp2_with fail
      refine (H1.out _ hT).mono ?_
      rintro e w1 ⟨rfl, b1⟩
      have T1 := (hT.below b1).alloc (.cells #[.int .i64 K, .int .u64 B] 24)
      have F := box_new w1 K B
      have B1 := thenB b1 ((Below.refl w1.heap.size w1).alloc (Nat.le_refl _) (.cells #[.int .i64 K, .int .u64 B] 24))
      go_wp2_with fail
      generalize w1.alloc (.cells #[.int .i64 K, .int .u64 B] 24) = W1 at *
      refine (H2.out _).mono ?_
      rintro e w2 ⟨rfl, b2⟩
      have F2 := (F.below b2).below ((Below.refl w2.heap.size w2).alloc (Nat.le_refl _) (.cells #[.int .i64 K, .int .u64 B] 24))
      have G2 := box_new w2 K B
      have T2 := (T1.below b2).alloc (.cells #[.int .i64 K, .int .u64 B] 24)
      have B2 := thenB (thenB B1 b2) ((Below.refl w2.heap.size w2).alloc (Nat.le_refl _) (.cells #[.int .i64 K, .int .u64 B] 24))
      go_wp2_with fail
      generalize w2.alloc (.cells #[.int .i64 K, .int .u64 B] 24) = W2 at *
      refine (lives_any _ T2).mono ?_
      rintro e w3 ⟨rfl, b3⟩
      obtain ⟨u0, u1, u2, u3⟩ := cells_below ⟨F2.c0, F2.c1, G2.c0, G2.c1⟩ b3
      have B3 := thenB B2 b3
      go_wp2_with fail
      go_ret
      exact ⟨rfl, B3⟩
  · have hl : (100 : Int) < s.size := by omega
    go_enter Tryd.func8, Tryd.ntmps8
    go_wp2_with (go_at_call 11; refine (lives_any _ hT).mono ?_; rintro e w1 ⟨rfl, b1⟩)
    go_ret
    exact ⟨rfl, b1⟩
end Go.Proofs.YtchjopgcbpopcaaDoor.Adr
