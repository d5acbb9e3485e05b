/- The numbers of features and the keys of pairing: what the functions return: contracts over the program. -/
import Derived.Test.YteklppgggmamaaaCnfWalks
import Derived.Deep.RegionWith
set_option linter.unusedVariables false
set_option linter.unusedSimpArgs false
namespace Go.Proofs.Yteklppgggmamaaa.Cnf
open Go.RowKit Mem Oct Blk Base Mac

theorem bitZ_bd (b : Bool) (n : Int) (hn : 0 ≤ n) : 0 ≤ bitZ b n ∧ bitZ b n ≤ n := by unfold bitZ; split <;> omega
theorem rbit_any (b : Bool) (n : Int) (w : World) (hn : 0 ≤ n ∧ n ≤ 18446744073709551615) :
    Calls Try.prog 43 #[.bool b, .int .u64 n] w fun e w' => e = .returned (.int .u64 (bitZ b n)) ∧ w = w' := by
  cases b with
  | true =>
    go_enter Try.func43, Try.ntmps43
    go_wp2
    go_ret
    exact ⟨rfl, rfl⟩
  | false =>
    go_enter Try.func43, Try.ntmps43
    go_wp2
    go_ret
    exact ⟨rfl, rfl⟩
theorem fea_sum (io : Int) (b1 b2 b3 b4 b5 : Bool) : feaZ io b1 b2 b3 b4 b5 = io % 4294967296 + (bitZ b1 1 + bitZ b2 2 + bitZ b3 4 + bitZ b4 8 + bitZ b5 16) * 4294967296 := by
  simp only [feaZ, feaS, five, List.getD_cons_zero, List.getD_cons_succ, bitZ]
  repeat' split
  all_goals omega
theorem rfeatures_any (io : Int) (b1 b2 b3 b4 b5 : Bool) (w : World) (hi : -9223372036854775808 ≤ io ∧ io ≤ 9223372036854775807) :
    Calls Try.prog 33 #[.agg #[.int .i64 io, .bool b1, .bool b2, .bool b3, .bool b4, .bool b5]] w fun e w' => e = .returned (.int .u64 (feaZ io b1 b2 b3 b4 b5)) ∧ Below w.heap.size w w' := by
  have F := Blk.fresh w 41 #[.int .i64 io, .bool b1, .bool b2, .bool b3, .bool b4, .bool b5]
  have hB : Below w.heap.size w (w.alloc (.cells #[.int .i64 io, .bool b1, .bool b2, .bool b3, .bool b4, .bool b5] 41)) := (Below.refl _ _).alloc (Nat.le_refl _) _
  have c0 := F.cell 0
  have c1 := F.cell 1
  have c2 := F.cell 2
  have c3 := F.cell 3
  have c4 := F.cell 4
  have c5 := F.cell 5
  have hs := fea_sum io b1 b2 b3 b4 b5
  have t1 := bitZ_bd b1 1 (by decide)
  have t2 := bitZ_bd b2 2 (by decide)
  have t3 := bitZ_bd b3 4 (by decide)
  have t4 := bitZ_bd b4 8 (by decide)
  have t5 := bitZ_bd b5 16 (by decide)
  have g1 : Hid (∀ w, Calls Try.prog 43 #[.bool b1, .int .u64 1] w fun e w' => e = .returned (.int .u64 (bitZ b1 1)) ∧ w' = w) := Lib.hid fun w => (rbit_any b1 1 w (by decide)).mono fun _ _ ⟨a, b⟩ => ⟨a, b.symm⟩
  have g2 : Hid (∀ w, Calls Try.prog 43 #[.bool b2, .int .u64 2] w fun e w' => e = .returned (.int .u64 (bitZ b2 2)) ∧ w' = w) := Lib.hid fun w => (rbit_any b2 2 w (by decide)).mono fun _ _ ⟨a, b⟩ => ⟨a, b.symm⟩
  have g3 : Hid (∀ w, Calls Try.prog 43 #[.bool b3, .int .u64 4] w fun e w' => e = .returned (.int .u64 (bitZ b3 4)) ∧ w' = w) := Lib.hid fun w => (rbit_any b3 4 w (by decide)).mono fun _ _ ⟨a, b⟩ => ⟨a, b.symm⟩
  have g4 : Hid (∀ w, Calls Try.prog 43 #[.bool b4, .int .u64 8] w fun e w' => e = .returned (.int .u64 (bitZ b4 8)) ∧ w' = w) := Lib.hid fun w => (rbit_any b4 8 w (by decide)).mono fun _ _ ⟨a, b⟩ => ⟨a, b.symm⟩
  have g5 : Hid (∀ w, Calls Try.prog 43 #[.bool b5, .int .u64 16] w fun e w' => e = .returned (.int .u64 (bitZ b5 16)) ∧ w' = w) := Lib.hid fun w => (rbit_any b5 16 w (by decide)).mono fun _ _ ⟨a, b⟩ => ⟨a, b.symm⟩
  rw [hs]
  generalize bitZ b1 1 = z1 at *
  generalize bitZ b2 2 = z2 at *
  generalize bitZ b3 4 = z3 at *
  generalize bitZ b4 8 = z4 at *
  generalize bitZ b5 16 = z5 at *
  clear hs F
  go_enter Try.func33, Try.ntmps33
  go_wp2_with fail
  go_quiet ((first
    | (go_at_call_of 43 (Value.int IntKind.u64 1); exact Calls.quiet_of_same (g1.out _))
    | (go_at_call 43; exact Calls.quiet_of_same (g2.out _))
    | (go_at_call 43; exact Calls.quiet_of_same (g3.out _))
    | (go_at_call 43; exact Calls.quiet_of_same (g4.out _))
    | (go_at_call 43; exact Calls.quiet_of_same (g5.out _))))
  go_wp2_with fail
  go_ret
  refine ⟨Ser.ret_int ?_, thenB hB ⟨rfl, rfl, rfl, Nat.le_refl _, fun _ _ => rfl⟩⟩
  rw [Int.tmod_eq_emod_of_nonneg (by rw [IntKind.wrap_u64]; omega)]
  simp only [IntKind.wrap_u64]
  omega
end Go.Proofs.Yteklppgggmamaaa.Cnf
