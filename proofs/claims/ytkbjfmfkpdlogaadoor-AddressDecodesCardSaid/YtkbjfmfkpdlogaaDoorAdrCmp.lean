/- The order of addresses: contracts over the program. -/
import Derived.Test.YtkbjfmfkpdlogaaDoorAdrWalks
set_option linter.unusedVariables false
set_option linter.unusedSimpArgs false
namespace Go.Proofs.YtkbjfmfkpdlogaaDoor.Adr
open Go.RowKit Mem Oct Base

theorem cmpI_any (a b : Int) (w : World) (ha : -9223372036854775808 ≤ a ∧ a ≤ 9223372036854775807) (hb : -9223372036854775808 ≤ b ∧ b ≤ 9223372036854775807) :
    Calls Tryd.prog 53 #[.int .i64 a, .int .i64 b] w fun e w' => e = .returned (.int .i64 (cmpZ a b)) ∧ w = w' := by
  by_cases h1 : a < b
  · have HX : Hid (cmpZ a b = -1) := Lib.hid (by unfold cmpZ; rw [if_pos h1])
    go_enter Tryd.func53, Tryd.ntmps53
    go_wp2
    go_ret
    exact ⟨Ser.ret_int HX.out.symm, rfl⟩
  · by_cases h2 : b < a
    · have HX : Hid (cmpZ a b = 1) := Lib.hid (by unfold cmpZ; rw [if_neg h1, if_pos h2])
      go_enter Tryd.func53, Tryd.ntmps53
      go_wp2
      go_ret
      exact ⟨Ser.ret_int HX.out.symm, rfl⟩
    · have HX : Hid (cmpZ a b = 0) := Lib.hid (by unfold cmpZ; rw [if_neg h1, if_neg h2])
      go_enter Tryd.func53, Tryd.ntmps53
      go_wp2
      go_ret
      exact ⟨Ser.ret_int HX.out.symm, rfl⟩
theorem cmpU_any (a b : Int) (w : World) (ha : 0 ≤ a ∧ a ≤ 18446744073709551615) (hb : 0 ≤ b ∧ b ≤ 18446744073709551615) :
    Calls Tryd.prog 54 #[.int .u64 a, .int .u64 b] w fun e w' => e = .returned (.int .i64 (cmpZ a b)) ∧ w = w' := by
  by_cases h1 : a < b
  · have HX : Hid (cmpZ a b = -1) := Lib.hid (by unfold cmpZ; rw [if_pos h1])
    go_enter Tryd.func54, Tryd.ntmps54
    go_wp2
    go_ret
    exact ⟨Ser.ret_int HX.out.symm, rfl⟩
  · by_cases h2 : b < a
    · have HX : Hid (cmpZ a b = 1) := Lib.hid (by unfold cmpZ; rw [if_neg h1, if_pos h2])
      go_enter Tryd.func54, Tryd.ntmps54
      go_wp2
      go_ret
      exact ⟨Ser.ret_int HX.out.symm, rfl⟩
    · have HX : Hid (cmpZ a b = 0) := Lib.hid (by unfold cmpZ; rw [if_neg h1, if_neg h2])
      go_enter Tryd.func54, Tryd.ntmps54
      go_wp2
      go_ret
      exact ⟨Ser.ret_int HX.out.symm, rfl⟩
theorem or_any (g : Nat) (c : Nat) (x y : Int) (w : World) (hx : -9223372036854775808 ≤ x ∧ x ≤ 9223372036854775807) (hy : -9223372036854775808 ≤ y ∧ y ≤ 9223372036854775807) (c0 : w.cell? ⟨g, 0, none⟩ = some (.int .i64 x)) (c1 : w.cell? ⟨g, 1, none⟩ = some (.int .i64 y)) :
    Calls Tryd.prog 52 #[.slice (some ⟨g, 0, none⟩) 2 c] w fun e w' => e = .returned (.int .i64 (orZ x y)) ∧ w = w' := by
  go_enter Tryd.func52, Tryd.ntmps52
  go_wp2
  go_loop [8] (fun i => ∃ k : Nat, k ≤ 2 ∧ i = .int .i64 k ∧ (1 ≤ k → x = 0) ∧ (2 ≤ k → y = 0)) (fun i => 2 - (intOf i).toNat)
  case atStart => exact ⟨0, by omega, rfl, by omega, by omega⟩
  case round =>
    obtain ⟨k, hk, rfl, h1, h2⟩ := hrel
    have hk' : k = 0 ∨ k = 1 ∨ k = 2 := by omega
    rcases hk' with rfl | rfl | rfl
    · by_cases hx0 : x = 0
      · clear h1 h2
        have HX := Lib.hid hx0
        go_wp2
        go_round
        case rel => exact ⟨1, by omega, by go_num, fun _ => HX.out, by omega⟩
        case measure => simp [intOf]
      · have HX : Hid (orZ x y = x) := Lib.hid (by unfold orZ; rw [if_neg hx0])
        clear h1 h2
        go_wp2
        go_ret
        exact ⟨Ser.ret_int HX.out.symm, rfl⟩
    · have hx0 := h1 (by omega)
      have HX : Hid (orZ x y = y) := Lib.hid (by unfold orZ; rw [if_pos hx0])
      have HZ := Lib.hid hx0
      clear h1 h2 hx0
      by_cases hy0 : y = 0
      · have HY := Lib.hid hy0
        go_wp2
        go_round
        case rel => exact ⟨2, by omega, by go_num, fun _ => HZ.out, fun _ => HY.out⟩
        case measure => simp [intOf]
      · go_wp2
        go_ret
        exact ⟨Ser.ret_int HX.out.symm, rfl⟩
    · have hx0 := h1 (by omega)
      have hy0 := h2 (by omega)
      have HX : Hid (orZ x y = 0) := Lib.hid (by unfold orZ; rw [if_pos hx0, hy0])
      clear h1 h2 hx0 hy0
      go_wp2
      go_ret
      exact ⟨Ser.ret_int HX.out.symm, rfl⟩
end Go.Proofs.YtkbjfmfkpdlogaaDoor.Adr
