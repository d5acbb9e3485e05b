/- Checking an address in the reference, any address: a contract over the program. -/
import Derived.Test.YtcbliliinmfnjaaDoorKAdqRef
import Derived.Test.YtcbliliinmfnjaaDoorKAdqRef3
set_option linter.unusedVariables false
set_option linter.unusedSimpArgs false
namespace Go.Proofs.YtcbliliinmfnjaaDoor.Adr
open Go.RowKit Mem Oct Base

theorem rcheck_any (k b : Int) (w : World) (hk : -9223372036854775808 ≤ k ∧ k ≤ 9223372036854775807) (hb : 0 ≤ b ∧ b ≤ 18446744073709551615) :
    Calls Tryd.prog 62 #[.agg #[.int .i64 k, .int .u64 b]] w fun e w' => e = .returned (.int .i64 (chk k b)) ∧ Below w.heap.size w w' := by
  have hW0 := box_new w k b
  have hB : Below w.heap.size w (w.alloc (.cells #[.int .i64 k, .int .u64 b] 24)) := (Below.refl _ _).alloc (Nat.le_refl _) _
  have c0 := hW0.c0
  have c1 := hW0.c1
  by_cases h1 : 1 ≤ k ∧ k ≤ 4
  · by_cases h2 : b < 281474976710656
    · by_cases h3 : k = 1
      · have HX := Lib.hid (chk_public h2)
        subst h3
        go_enter Tryd.func62, Tryd.ntmps62
        go_wp2_with fail
        go_ret
        exact ⟨Ser.ret_int HX.out.symm, hB⟩
      · by_cases h4 : k = 3
        · exact rcheck_three k b w (by omega) h4 ⟨hb.1, h2⟩
        · exact rcheck_plain k b w (by omega) h4 ⟨hb.1, h2⟩
    · have HX := Lib.hid (chk_range h1 (show 281474976710656 ≤ b by omega))
      go_enter Tryd.func62, Tryd.ntmps62
      go_wp2_with fail
      go_ret
      exact ⟨Ser.ret_int HX.out.symm, hB⟩
  · have HX := Lib.hid (chk_kind (b := b) (show k < 1 ∨ 4 < k by omega))
    by_cases h0 : k < 1
    · go_enter Tryd.func62, Tryd.ntmps62
      go_wp2_with fail
      go_ret
      exact ⟨Ser.ret_int HX.out.symm, hB⟩
    · have h4 : 4 < k := by omega
      go_enter Tryd.func62, Tryd.ntmps62
      go_wp2_with fail
      go_ret
      exact ⟨Ser.ret_int HX.out.symm, hB⟩
end Go.Proofs.YtcbliliinmfnjaaDoor.Adr
