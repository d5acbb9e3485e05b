/- Control procedures: New is what the document says: a walk. -/
import Derived.Test.YtpoagepchlfemaaPcEx
set_option linter.unusedVariables false
set_option linter.unusedSimpArgs false
namespace Go.Proofs.Ytpoagepchlfemaa.Pc
open Go.RowKit Mem Rw Cp
open Base (thenB)

set_option maxRecDepth 100000 in
set_option maxHeartbeats 8000000 in
theorem news_any (role f lim : Int) (w : World) : Calls Try.prog 3 #[.int .i64 role, .int .u64 f, .int .i64 lim] w fun e w' => e = .returned (.bool true) ∧ Below w.heap.size w w' := by
  have HX := Lib.hid ex_any
  obtain ⟨m, e1⟩ : ∃ m, max 27 (min lim 251) = m := ⟨_, rfl⟩
  have e2 : min (max lim 27) 251 = m := by omega
  by_cases h : role = 1
  · skip
    have HN : Hid (∀ X, Calls Try.prog 9 #[.int .i64 role, .int .u64 f, .int .i64 lim] X fun e w' => e = .returned (.agg #[.int .i64 1, .int .i64 (-1), .int .i64 0, .slice none 0 0, .int .i64 (-1), .int .i64 0, .slice none 0 0, .bool false, .int .u64 f, .int .u64 0, .bool false, .bool false, .int .i64 (-1), .int .i64 27, .int .i64 m, .int .u64 0, .int .u64 0, .int .u64 0, .int .i64 0, .int .i64 0]) ∧ Below X.heap.size X w') := Lib.hid fun X => by have := new1_any role f lim X h; rwa [e1] at this
    have HR : Hid (∀ X, Calls Try.prog 10 #[.int .i64 role, .int .u64 f, .int .i64 lim] X fun e w' => e = .returned (.agg #[.int .i64 1, .int .i64 (-1), .int .i64 0, .slice none 0 0, .int .i64 (-1), .int .i64 0, .slice none 0 0, .bool false, .int .u64 f, .int .u64 0, .bool false, .bool false, .int .i64 (-1), .int .i64 27, .int .i64 m, .int .u64 0, .int .u64 0, .int .u64 0, .int .i64 0, .int .i64 0]) ∧ Below X.heap.size X w') := Lib.hid fun X => by have := rnew1_any role f lim X h; rwa [e2] at this
    have HS : Hid (∀ X, Calls Try.prog 8 #[.agg #[.int .i64 1, .int .i64 (-1), .int .i64 0, .slice none 0 0, .int .i64 (-1), .int .i64 0, .slice none 0 0, .bool false, .int .u64 f, .int .u64 0, .bool false, .bool false, .int .i64 (-1), .int .i64 27, .int .i64 m, .int .u64 0, .int .u64 0, .int .u64 0, .int .i64 0, .int .i64 0], .agg #[.int .i64 1, .int .i64 (-1), .int .i64 0, .slice none 0 0, .int .i64 (-1), .int .i64 0, .slice none 0 0, .bool false, .int .u64 f, .int .u64 0, .bool false, .bool false, .int .i64 (-1), .int .i64 27, .int .i64 m, .int .u64 0, .int .u64 0, .int .u64 0, .int .i64 0, .int .i64 0]] X fun e w' => e = .returned (.bool true) ∧ Below X.heap.size X w') := Lib.hid fun X => sameprocs_nil (⟨1, (-1), 0, nilV, (-1), 0, nilV, false, f, 0, false, false, (-1), 27, m, 0, 0, 0, 0, 0⟩ : Pr) X rfl rfl
    clear h e1 e2
    generalize (Value.agg #[.int .i64 1, .int .i64 (-1), .int .i64 0, .slice none 0 0, .int .i64 (-1), .int .i64 0, .slice none 0 0, .bool false, .int .u64 f, .int .u64 0, .bool false, .bool false, .int .i64 (-1), .int .i64 27, .int .i64 m, .int .u64 0, .int .u64 0, .int .u64 0, .int .i64 0, .int .i64 0] : Value) = G at *
    go_enter Try.func3, Try.ntmps3
    go_wp2_with (first | (go_at_call 9; refine (HN.out _).mono ?_; rintro e X1 ⟨rfl, b1⟩) | (go_at_call 10; refine (HR.out _).mono ?_; rintro e X2 ⟨rfl, b2⟩) | (go_at_call 8; refine (HS.out _).mono ?_; rintro e X3 ⟨rfl, b3⟩) | (go_at_call 11; refine (HX.out _).mono ?_; rintro e X4 ⟨rfl, b4⟩))
    go_ret
    exact ⟨rfl, thenB (thenB (thenB b1 b2) b3) b4⟩
  · skip
    have HN : Hid (∀ X, Calls Try.prog 9 #[.int .i64 role, .int .u64 f, .int .i64 lim] X fun e w' => e = .returned (.agg #[.int .i64 0, .int .i64 (-1), .int .i64 0, .slice none 0 0, .int .i64 (-1), .int .i64 0, .slice none 0 0, .bool false, .int .u64 f, .int .u64 0, .bool false, .bool false, .int .i64 (-1), .int .i64 27, .int .i64 m, .int .u64 0, .int .u64 0, .int .u64 0, .int .i64 0, .int .i64 0]) ∧ Below X.heap.size X w') := Lib.hid fun X => by have := new0_any role f lim X h; rwa [e1] at this
    have HR : Hid (∀ X, Calls Try.prog 10 #[.int .i64 role, .int .u64 f, .int .i64 lim] X fun e w' => e = .returned (.agg #[.int .i64 0, .int .i64 (-1), .int .i64 0, .slice none 0 0, .int .i64 (-1), .int .i64 0, .slice none 0 0, .bool false, .int .u64 f, .int .u64 0, .bool false, .bool false, .int .i64 (-1), .int .i64 27, .int .i64 m, .int .u64 0, .int .u64 0, .int .u64 0, .int .i64 0, .int .i64 0]) ∧ Below X.heap.size X w') := Lib.hid fun X => by have := rnew0_any role f lim X h; rwa [e2] at this
    have HS : Hid (∀ X, Calls Try.prog 8 #[.agg #[.int .i64 0, .int .i64 (-1), .int .i64 0, .slice none 0 0, .int .i64 (-1), .int .i64 0, .slice none 0 0, .bool false, .int .u64 f, .int .u64 0, .bool false, .bool false, .int .i64 (-1), .int .i64 27, .int .i64 m, .int .u64 0, .int .u64 0, .int .u64 0, .int .i64 0, .int .i64 0], .agg #[.int .i64 0, .int .i64 (-1), .int .i64 0, .slice none 0 0, .int .i64 (-1), .int .i64 0, .slice none 0 0, .bool false, .int .u64 f, .int .u64 0, .bool false, .bool false, .int .i64 (-1), .int .i64 27, .int .i64 m, .int .u64 0, .int .u64 0, .int .u64 0, .int .i64 0, .int .i64 0]] X fun e w' => e = .returned (.bool true) ∧ Below X.heap.size X w') := Lib.hid fun X => sameprocs_nil (⟨0, (-1), 0, nilV, (-1), 0, nilV, false, f, 0, false, false, (-1), 27, m, 0, 0, 0, 0, 0⟩ : Pr) X rfl rfl
    clear h e1 e2
    generalize (Value.agg #[.int .i64 0, .int .i64 (-1), .int .i64 0, .slice none 0 0, .int .i64 (-1), .int .i64 0, .slice none 0 0, .bool false, .int .u64 f, .int .u64 0, .bool false, .bool false, .int .i64 (-1), .int .i64 27, .int .i64 m, .int .u64 0, .int .u64 0, .int .u64 0, .int .i64 0, .int .i64 0] : Value) = G at *
    go_enter Try.func3, Try.ntmps3
    go_wp2_with (first | (go_at_call 9; refine (HN.out _).mono ?_; rintro e X1 ⟨rfl, b1⟩) | (go_at_call 10; refine (HR.out _).mono ?_; rintro e X2 ⟨rfl, b2⟩) | (go_at_call 8; refine (HS.out _).mono ?_; rintro e X3 ⟨rfl, b3⟩) | (go_at_call 11; refine (HX.out _).mono ?_; rintro e X4 ⟨rfl, b4⟩))
    go_ret
    exact ⟨rfl, thenB (thenB (thenB b1 b2) b3) b4⟩
end Go.Proofs.Ytpoagepchlfemaa.Pc
