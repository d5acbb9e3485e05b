/- The statements on whitening, walked: each returns true. -/
import Derived.Test.YthpbnipjopjfeaaWhRef
set_option linter.unusedVariables false
set_option linter.unusedSimpArgs false
namespace Go.Proofs.Ythpbnipjopjfeaa.Wh
open Go.RowKit Mem Oct Base

theorem law_states (a0 a1 : Int) (w : World) (w0 : -9223372036854775808 ≤ a0 ∧ a0 ≤ 9223372036854775807) (w1 : -9223372036854775808 ≤ a1 ∧ a1 ≤ 9223372036854775807) :
    Calls Try.prog 3 #[.int .i64 a0, .int .i64 a1] w fun e w' => e = .returned (.bool true) ∧ Below w.heap.size w w' := by
  go_enter Try.func3, Try.ntmps3
  go_wp2_with (first | (go_at_call 8; refine (lives_any _).mono ?_; rintro e w1 ⟨rfl, hb⟩) | (go_at_call 9; refine (state_any _ _ _ (by omega) (by omega)).mono ?_; rintro e w' ⟨rfl, rfl⟩) | (go_at_call 10; refine (rstate_any _ _ _ (by omega) (by omega)).mono ?_; rintro e w' ⟨rfl, rfl⟩))
  go_ret
  exact ⟨rfl, hb⟩
theorem law_period (a0 a1 a2 : Int) (w : World) (w0 : -9223372036854775808 ≤ a0 ∧ a0 ≤ 9223372036854775807) (w1 : -9223372036854775808 ≤ a1 ∧ a1 ≤ 9223372036854775807) (w2 : -9223372036854775808 ≤ a2 ∧ a2 ≤ 9223372036854775807) :
    Calls Try.prog 7 #[.int .i64 a0, .int .i64 a1, .int .i64 a2] w fun e w' => e = .returned (.bool true) ∧ Below w.heap.size w w' := by
  by_cases hin : 0 ≤ a1 ∧ a1 ≤ 65536 ∧ 1 ≤ a2 ∧ a2 ≤ 126
  · obtain ⟨h1, h2, h3, h4⟩ := hin
    have hs := stateZ_bd a0 a1
    have p1 : stateZ a0 (a1 + 127) = stateZ a0 a1 := by
      unfold stateZ
      rw [lim_in _ (by omega) (by omega), lim_in _ (by omega) (by omega), show (a1 + 127).toNat = a1.toNat + 127 by omega]
      exact it_period _ _ (fst_in a0)
    have p2 : stateZ a0 (a1 + a2) ≠ stateZ a0 a1 := by
      unfold stateZ
      rw [lim_in _ (by omega) (by omega), lim_in _ (by omega) (by omega), show (a1 + a2).toNat = a2.toNat + a1.toNat by omega, it_add]
      have hf := fst_bd a0
      exact it_ne _ (by omega) (by omega) _ (it_pos _ _ (by omega))
    have p3 : (stateZ a0 (a1 + a2) == stateZ a0 a1) = false := by simpa using p2
    clear p2
    go_enter Try.func7, Try.ntmps7
    go_wp2_with (first | (go_at_call 8; refine (lives_any _).mono ?_; rintro e w1 ⟨rfl, hb⟩) | (go_at_call 9; refine (state_any _ _ _ (by omega) (by omega)).mono ?_; rintro e w' ⟨rfl, rfl⟩))
    all_goals go_ret
    all_goals exact ⟨Ser.ret_bool (by rw [bne, p3]; rfl), hb⟩
  · go_enter Try.func7, Try.ntmps7
    go_wp2_with (first | (go_at_call 8; refine (lives_any _).mono ?_; rintro e w1 ⟨rfl, hb⟩))
    all_goals first | (exfalso; simp_all; omega) | skip
    all_goals go_ret
    all_goals exact ⟨rfl, hb⟩
theorem law_streams (a0 a1 : Int) (w : World) (w0 : -9223372036854775808 ≤ a0 ∧ a0 ≤ 9223372036854775807) (w1 : -9223372036854775808 ≤ a1 ∧ a1 ≤ 9223372036854775807) :
    Calls Try.prog 4 #[.int .i64 a0, .int .i64 a1] w fun e w' => e = .returned (.bool true) ∧ Below w.heap.size w w' := by
  have hl := seqL_len (fst a0) (lim2 a1)
  have hbs := seqL_bytes (fst a0) (fst_in a0) (lim2 a1)
  have HL := Lib.hid hl
  clear hl
  go_enter Try.func4, Try.ntmps4
  go_wp2_with (first | (go_at_call 8; refine (lives_any _).mono ?_; rintro e w1 ⟨rfl, hb⟩) | (go_at_call 12; refine (stream_any _ _ _ (by omega) (by omega)).mono ?_; intro e w2 m2; obtain ⟨A2, c2, rfl, k2, j2, b2⟩ := m2.read HL.out; clear m2) | (go_at_call 13; refine (rstream_any _ _ _ (by omega) (by omega)).mono ?_; intro e w3 m3; obtain ⟨A3, c3, rfl, k3, j3, b3⟩ := m3.read HL.out; clear m3) | (go_at_call 11; refine (same_to (b := true) (by simp) HL.out HL.out hbs hbs (later j2 b3) j3).mono ?_; rintro e w4 ⟨rfl, rfl⟩))
  go_ret
  exact ⟨rfl, (hb.trans (b2.mono hb.size)).trans (b3.mono (Nat.le_trans hb.size b2.size))⟩
theorem law_applies (a0 : Int) (A1 : Option Addr) (n1 c1 : Nat) (x1 : List Int) (w : World) (w0 : -9223372036854775808 ≤ a0 ∧ a0 ≤ 9223372036854775807)
    (hx1 : x1.length = n1) (hc1 : n1 ≤ c1) (hi1 : Ints .u8 w w.heap.size A1 x1) (hb1 : Bytes x1) (hs1 : c1 * 1 ≤ 140737488351232) :
    Calls Try.prog 5 #[.int .i64 a0, .slice A1 n1 c1] w fun e w' => e = .returned (.bool true) ∧ Below w.heap.size w w' := by
  have HX := Lib.hid hx1
  have HL : Hid ((appL a0 x1).length = n1) := Lib.hid (by rw [appL_len, hx1])
  have hbs := appL_bytes a0 hb1
  clear hx1
  by_cases hbig : 65536 < n1
  · go_enter Try.func5, Try.ntmps5
    go_wp2_with (first | (go_at_call 8; refine (lives_any _).mono ?_; rintro e w1 ⟨rfl, hb⟩))
    go_ret
    exact ⟨rfl, hb⟩
  · have hbig' : decide ((65536 : Int) < (n1 : Int)) = false := by simp; omega
    go_enter Try.func5, Try.ntmps5
    go_wp2_with (first | (go_at_call 8; refine (lives_any _).mono ?_; rintro e w1 ⟨rfl, hb⟩) | (go_at_call 15; refine (copied4_any _ _ _ x1 _ HX.out (later hi1 hb) (by omega)).mono ?_; intro e w2 m2; obtain ⟨A2, c2, rfl, k2, j2, b2⟩ := m2.read HX.out; clear m2) | (go_at_call 14; refine (apply_any _ _ _ _ x1 _ (by omega) HX.out hb1 j2 (by omega)).mono ?_; intro e w3 m3; obtain ⟨A3, c3, rfl, k3, j3, b3⟩ := m3.read HL.out; clear m3) | (go_at_call 16; refine (rapply_any _ _ _ _ x1 _ (by omega) HX.out hb1 (later (later (later hi1 hb) b2) b3) (by omega)).mono ?_; intro e w4 m4; obtain ⟨A4, c4, rfl, k4, j4, b4⟩ := m4.read HL.out; clear m4) | (go_at_call 11; refine (same_to (b := true) (by simp) HL.out HL.out hbs hbs (later j3 b4) j4).mono ?_; rintro e w5 ⟨rfl, rfl⟩))
    go_ret
    have h2 := hb.trans (b2.mono hb.size)
    have h3 := h2.trans (b3.mono h2.size)
    exact ⟨rfl, h3.trans (b4.mono h3.size)⟩
end Go.Proofs.Ythpbnipjopjfeaa.Wh
