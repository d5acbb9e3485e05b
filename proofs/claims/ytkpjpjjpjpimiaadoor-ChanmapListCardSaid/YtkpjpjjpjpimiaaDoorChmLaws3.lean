/- The statements on checks, sets and replacements of maps, walked: each returns true. -/
import Derived.Test.YtkpjpjjpjpimiaaDoorChmLives
import Derived.Test.YtkpjpjjpjpimiaaDoorChmRef
set_option linter.unusedVariables false
set_option linter.unusedSimpArgs false
namespace Go.Proofs.YtkpjpjjpjpimiaaDoor.Chm
open Go.RowKit Mem Oct Base

theorem law_checks (m : Nat) (w : World) (hm : m ≤ 18446744073709551615) (hE : Errs w) :
    Calls Tryd.prog 3 #[.int .u64 m] w fun e w' => e = .returned (.bool true) ∧ Below w.heap.size w w' := by
  have HL := Lib.hid (lives_any w hE)
  have H1 := Lib.hid fun w => check_any m w hm
  have H2 := Lib.hid fun w => rcheck_any m w hm
  generalize okM m = V at *
  go_enter Tryd.func3, Tryd.ntmps3
  go_wp2_with (first
    | (go_at_call 11; refine HL.out.mono ?_; rintro e w1 ⟨rfl, b1⟩)
    | (go_at_call 12; refine (H1.out _).mono ?_; rintro e w' ⟨rfl, rfl⟩)
    | (go_at_call 13; refine (H2.out _).mono ?_; rintro e w2 ⟨rfl, b2⟩))
  go_ret
  exact ⟨rfl, thenB b1 b2⟩
theorem law_sets (m : Nat) (i : Int) (w : World) (hm : m ≤ 18446744073709551615) (hi : -9223372036854775808 ≤ i ∧ i ≤ 9223372036854775807) (hE : Errs w) :
    Calls Tryd.prog 4 #[.int .u64 m, .int .i64 i] w fun e w' => e = .returned (.bool true) ∧ Below w.heap.size w w' := by
  have HL := Lib.hid (lives_any w hE)
  have H1 := Lib.hid fun w => has_any m i w hm
  have H2 := Lib.hid fun w => rhas_any m i w hm
  have H3 := Lib.hid fun w => count_any m w hm
  have H4 := Lib.hid fun w => rcount_any m w hm
  have H5 : Hid (∀ w, Calls Tryd.prog 19 #[.int .u64 m] w fun e w' => ∃ A c, e = .returned (.slice A (chans m).length c) ∧ Ints .i64 w' w'.heap.size A (zs (chans m)) ∧ Below w.heap.size w w') := Lib.hid fun w =>
    (list_any m w hm).mono fun e w' h => by
      obtain ⟨A, c, he, _, hi, hb⟩ := h.read (zs_len (chans m))
      exact ⟨A, c, he, hi, hb⟩
  have H6 : Hid (∀ w, Calls Tryd.prog 20 #[.int .u64 m] w fun e w' => ∃ A c, e = .returned (.slice A (chans m).length c) ∧ Ints .i64 w' w'.heap.size A (zs (chans m)) ∧ Below w.heap.size w w') := Lib.hid fun w =>
    (rlist_any m w hm).mono fun e w' h => by
      obtain ⟨A, c, he, _, hi, hb⟩ := h.read (zs_len (chans m))
      exact ⟨A, c, he, hi, hb⟩
  have H7 := Lib.hid fun w => nth_any m i w hm
  have H8 := Lib.hid fun w => rnth_any m i w hm
  have hz := zs_len (chans m)
  have hle := chans_le m
  have H9 : Hid (∀ A A' c c' w, Ints .i64 w w.heap.size A (zs (chans m)) → Ints .i64 w w.heap.size A' (zs (chans m)) → Calls Tryd.prog 18 #[.slice A (chans m).length c, .slice A' (chans m).length c'] w fun e w' => e = .returned (.bool true) ∧ Below w.heap.size w w') := Lib.hid fun A A' c c' w h h' => by
    have := sameInts_any A A' _ _ c c' (zs (chans m)) (zs (chans m)) w hz hz h h' (by omega) (by omega)
    rwa [decide_eq_true rfl] at this
  generalize nthZ m i = N at *
  generalize hasZ m i = H at *
  generalize zs (chans m) = Z at *
  generalize (chans m).length = L at *
  clear hz hle hE
  go_enter Tryd.func4, Tryd.ntmps4
  go_wp2_with (first
    | (go_at_call 11; refine HL.out.mono ?_; rintro e w1 ⟨rfl, b1⟩)
    | (go_at_call 14; refine (H1.out _).mono ?_; rintro e w' ⟨rfl, rfl⟩)
    | (go_at_call 15; refine (H2.out _).mono ?_; rintro e w' ⟨rfl, rfl⟩)
    | (go_at_call 16; refine (H3.out _).mono ?_; rintro e w' ⟨rfl, rfl⟩)
    | (go_at_call 17; refine (H4.out _).mono ?_; rintro e w2 ⟨rfl, b2⟩; have B2 := thenB b1 b2)
    | (go_at_call 19; refine (H5.out _).mono ?_; rintro e w3 ⟨A3, c3, rfl, I3, b3⟩; have B3 := thenB B2 b3)
    | (go_at_call 20; refine (H6.out _).mono ?_; rintro e w4 ⟨A4, c4, rfl, I4, b4⟩; have B4 := thenB B3 b4; have I3' := later I3 b4)
    | (go_at_call 18; refine (H9.out _ _ _ _ _ I3' I4).mono ?_; rintro e w5 ⟨rfl, b5⟩; have B5 := thenB B4 b5)
    | (go_at_call 21; refine (H7.out _).mono ?_; rintro e w6 ⟨rfl, b6⟩; have B6 := thenB B5 b6)
    | (go_at_call 22; refine (H8.out _).mono ?_; rintro e w7 ⟨rfl, b7⟩; have B7 := thenB B6 b7))
  all_goals go_ret
  all_goals exact ⟨by simp, B7⟩
theorem law_remaps (m : Nat) (i : Int) (w : World) (hm : m ≤ 18446744073709551615) (hi : -9223372036854775808 ≤ i ∧ i ≤ 9223372036854775807) (hE : Errs w) :
    Calls Tryd.prog 5 #[.int .u64 m, .int .i64 i] w fun e w' => e = .returned (.bool true) ∧ Below w.heap.size w w' := by
  have HL := Lib.hid (lives_any w hE)
  have H1 := Lib.hid fun w => remap_any m i w hm
  have H2 := Lib.hid fun w => rremap_any m i w hm
  have H3 := Lib.hid (frequency_any i)
  have H4 := Lib.hid (rfrequency_any i)
  generalize remapZ m i = R at *
  generalize freqZ i = F at *
  go_enter Tryd.func5, Tryd.ntmps5
  go_wp2_with (first
    | (go_at_call 11; refine HL.out.mono ?_; rintro e w1 ⟨rfl, b1⟩)
    | (go_at_call 23; refine (H1.out _).mono ?_; rintro e w2 ⟨rfl, b2⟩; have B2 := thenB b1 b2)
    | (go_at_call 24; refine (H2.out _).mono ?_; rintro e w3 ⟨rfl, b3⟩; have B3 := thenB B2 b3)
    | (go_at_call 25; refine (H3.out _).mono ?_; rintro e w' ⟨rfl, rfl⟩)
    | (go_at_call 26; refine (H4.out _).mono ?_; rintro e w' ⟨rfl, rfl⟩))
  go_ret
  exact ⟨rfl, B3⟩
end Go.Proofs.YtkpjpjjpjpimiaaDoor.Chm
