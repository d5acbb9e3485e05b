/- Advertising PDUs: small functions of the layer and the document: contracts over the program. -/
import Derived.Test.YtcbliliinmfnjaaDoorKM6
import Derived.Test.YtcbliliinmfnjaaDoorKAdqRefAll
import Derived.Test.YtcbliliinmfnjaaDoorKCnCheck
import Derived.Test.YtcbliliinmfnjaaDoorKM5
set_option linter.unusedVariables false
set_option linter.unusedSimpArgs false
namespace Go.Proofs.YtcbliliinmfnjaaDoor.Ap
open Go.RowKit Mem Oct
open Base (thenB)

theorem adr_neq (k b k' b' : Int) (w : World) : (binOp .neq 24 (.agg #[.int .i64 k, .int .u64 b]) (.agg #[.int .i64 k', .int .u64 b'])).run Tryd.prog w = .ok (.bool (!decide (k = k' ∧ b = b'))) w := by
  go_simp
  (repeat' split) <;> simp_all
theorem adr_ng (k b k' b' : Int) (w : World) (x y : Operand) : (eqGuard .neq 24 x y (.agg #[.int .i64 k, .int .u64 b]) (.agg #[.int .i64 k', .int .u64 b'])).run Tryd.prog w = .ok () w := by
  go_simp
set_option maxHeartbeats 2000000 in
theorem par_neq (a b s o i l t m h d g a' b' s' o' i' l' t' m' h' d' g' : Int) (w : World) : (binOp .neq 50 (.agg #[.int .u32 a, .int .u32 b, .int .i64 s, .int .i64 o, .int .i64 i, .int .i64 l, .int .i64 t, .int .u64 m, .int .i64 h, .int .i64 d, .int .i64 g]) (.agg #[.int .u32 a', .int .u32 b', .int .i64 s', .int .i64 o', .int .i64 i', .int .i64 l', .int .i64 t', .int .u64 m', .int .i64 h', .int .i64 d', .int .i64 g'])).run Tryd.prog w = .ok (.bool (!decide (a = a' ∧ b = b' ∧ s = s' ∧ o = o' ∧ i = i' ∧ l = l' ∧ t = t' ∧ m = m' ∧ h = h' ∧ d = d' ∧ g = g'))) w := by
  go_simp
  (repeat' split) <;> simp_all
theorem adr_eql (k b k' b' : Int) (w : World) : (binOp .eql 24 (.agg #[.int .i64 k, .int .u64 b]) (.agg #[.int .i64 k', .int .u64 b'])).run Tryd.prog w = .ok (.bool (decide (k = k' ∧ b = b'))) w := by
  go_simp
  (repeat' split) <;> simp_all
theorem adr_eg (k b k' b' : Int) (w : World) (x y : Operand) : (eqGuard .eql 24 x y (.agg #[.int .i64 k, .int .u64 b]) (.agg #[.int .i64 k', .int .u64 b'])).run Tryd.prog w = .ok () w := by
  go_simp
theorem par_ng (a b s o i l t m h d g a' b' s' o' i' l' t' m' h' d' g' : Int) (w : World) (x y : Operand) : (eqGuard .neq 50 x y (.agg #[.int .u32 a, .int .u32 b, .int .i64 s, .int .i64 o, .int .i64 i, .int .i64 l, .int .i64 t, .int .u64 m, .int .i64 h, .int .i64 d, .int .i64 g]) (.agg #[.int .u32 a', .int .u32 b', .int .i64 s', .int .i64 o', .int .i64 i', .int .i64 l', .int .i64 t', .int .u64 m', .int .i64 h', .int .i64 d', .int .i64 g'])).run Tryd.prog w = .ok () w := by
  go_simp
theorem hastarget_any (k : Int) (w : World) : Calls Tryd.prog 77 #[.int .i64 k] w fun e w' => e = .returned (.bool (tgtB k)) ∧ w = w' := by
  unfold tgtB
  cases h1 : k == 1
  · cases h3 : k == 3
    · go_enter Tryd.func77, Tryd.ntmps77
      go_wp2_with fail
      go_ret
      exact ⟨by simp, rfl⟩
    · go_enter Tryd.func77, Tryd.ntmps77
      go_wp2_with fail
      go_ret
      exact ⟨by simp, rfl⟩
  · go_enter Tryd.func77, Tryd.ntmps77
    go_wp2_with fail
    go_ret
    exact ⟨by simp, rfl⟩
theorem hasdata_any (k : Int) (w : World) : Calls Tryd.prog 78 #[.int .i64 k] w fun e w' => e = .returned (.bool (datB k)) ∧ w = w' := by
  unfold datB
  cases h0 : k == 0
  · cases h2 : k == 2
    · cases h4 : k == 4
      · go_enter Tryd.func78, Tryd.ntmps78
        go_wp2_with fail
        go_ret
        exact ⟨by simp, rfl⟩
      · go_enter Tryd.func78, Tryd.ntmps78
        go_wp2_with fail
        go_ret
        exact ⟨by simp, rfl⟩
    · go_enter Tryd.func78, Tryd.ntmps78
      go_wp2_with fail
      go_ret
      exact ⟨by simp, rfl⟩
  · go_enter Tryd.func78, Tryd.ntmps78
    go_wp2_with fail
    go_ret
    exact ⟨by simp, rfl⟩
end Go.Proofs.YtcbliliinmfnjaaDoor.Ap
