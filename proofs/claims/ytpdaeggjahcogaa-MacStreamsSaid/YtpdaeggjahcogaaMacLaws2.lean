/- The statements on tags, derived keys, key streams and sealing, walked: each returns true. -/
import Derived.Test.YtpdaeggjahcogaaMacLaws
set_option linter.unusedVariables false
set_option linter.unusedSimpArgs false
namespace Go.Proofs.Ytpdaeggjahcogaa.Mac
open Go.RowKit Mem Oct Blk Base

theorem law_tags (a0 : Int) (A1 : Option Addr) (n1 c1 : Nat) (x1 : List Int) (w : World) (w0 : 0 ≤ a0 ∧ a0 ≤ 18446744073709551615)
    (hx1 : x1.length = n1) (hc1 : n1 ≤ c1) (hi1 : Ints .u8 w w.heap.size A1 x1) (hb1 : Bytes x1) (hs1 : c1 * 1 ≤ 140737488351232) :
    Calls Try.prog 3 #[.int .u64 a0, .slice A1 n1 c1] w fun e w' => e = .returned (.bool true) ∧ Below w.heap.size w w' := by
  by_cases hbig : 400 < n1
  · go_enter Try.func3, Try.ntmps3
    go_wp2_with (go_at_call 12; refine (lives_any _).mono ?_; rintro e w1 ⟨rfl, b1⟩)
    go_ret
    exact ⟨rfl, b1⟩
  · have hbig' : decide ((400 : Int) < (n1 : Int)) = false := by simp; omega
    go_enter Try.func3, Try.ntmps3
    go_wp2_with (first
      | (go_at_call 12; refine (lives_any _).mono ?_; rintro e w1 ⟨rfl, b1⟩)
      | (go_at_call 13; refine (tag_any a0 A1 n1 c1 x1 _ w0 hx1 hb1 hc1 (by omega) (by omega) (later hi1 b1)).mono ?_; rintro e w2 ⟨rfl, b2⟩)
      | (go_at_call 14; refine (rtag_any a0 A1 n1 c1 x1 _ w0 hx1 hb1 hc1 (by omega) (by omega) (later (later hi1 b1) b2)).mono ?_; rintro e w3 ⟨rfl, b3⟩))
    go_ret
    exact ⟨rfl, thenB (thenB b1 b2) b3⟩
theorem law_derives (a0 : Int) (s1 : ByteArray) (A2 : Option Addr) (n2 c2 : Nat) (x2 : List Int) (w : World) (w0 : 0 ≤ a0 ∧ a0 ≤ 18446744073709551615) (u1 : s1.size ≤ maxLen)
    (hx2 : x2.length = n2) (hc2 : n2 ≤ c2) (hi2 : Ints .u64 w w.heap.size A2 x2) (hb2 : Words x2) (hs2 : c2 * 8 ≤ 140737488351232) :
    Calls Try.prog 4 #[.int .u64 a0, .string s1, .slice A2 n2 c2] w fun e w' => e = .returned (.bool true) ∧ Below w.heap.size w w' := by
  by_cases hin : s1.size ≤ 60 ∧ n2 ≤ 20
  · obtain ⟨h1, h2⟩ := hin
    have h1' : decide ((60 : Int) < (s1.size : Int)) = false := by simp; omega
    have h2' : decide ((20 : Int) < (n2 : Int)) = false := by simp; omega
    go_enter Try.func4, Try.ntmps4
    go_wp2_with (first
      | (go_at_call 12; refine (lives_any _).mono ?_; rintro e w1 ⟨rfl, b1⟩)
      | (go_at_call 15; refine (derive_any a0 s1 A2 n2 c2 x2 _ w0 (by omega) hx2 hb2 (later hi2 b1) (by omega)).mono ?_; rintro e w2 ⟨rfl, b2⟩)
      | (go_at_call 16; refine (rderive_any a0 s1 A2 n2 c2 x2 _ w0 (by omega) hx2 hb2 (later (later hi2 b1) b2) (by omega)).mono ?_; rintro e w3 ⟨rfl, b3⟩))
    go_ret
    exact ⟨rfl, thenB (thenB b1 b2) b3⟩
  · by_cases h1 : 60 < s1.size
    · go_enter Try.func4, Try.ntmps4
      go_wp2_with (go_at_call 12; refine (lives_any _).mono ?_; rintro e w1 ⟨rfl, b1⟩)
      go_ret
      exact ⟨rfl, b1⟩
    · have h1' : decide ((60 : Int) < (s1.size : Int)) = false := by simp; omega
      have h2 : 20 < n2 := by omega
      go_enter Try.func4, Try.ntmps4
      go_wp2_with (go_at_call 12; refine (lives_any _).mono ?_; rintro e w1 ⟨rfl, b1⟩)
      go_ret
      exact ⟨rfl, b1⟩
theorem law_streams (a0 a1 a2 : Int) (w : World) (u0 : 0 ≤ a0 ∧ a0 ≤ 18446744073709551615) (u1 : 0 ≤ a1 ∧ a1 ≤ 18446744073709551615) (u2 : -9223372036854775808 ≤ a2 ∧ a2 ≤ 9223372036854775807) :
    Calls Try.prog 5 #[.int .u64 a0, .int .u64 a1, .int .i64 a2] w fun e w' => e = .returned (.bool true) ∧ Below w.heap.size w w' := by
  by_cases hbig : 400 < a2
  · go_enter Try.func5, Try.ntmps5
    go_wp2_with (go_at_call 12; refine (lives_any _).mono ?_; rintro e w1 ⟨rfl, b1⟩)
    go_ret
    exact ⟨rfl, b1⟩
  · have HL := Lib.hid (strm_len a0 a1 (max 0 (min a2 65536)).toNat)
    have hbs := strm_bytes a0 a1 (max 0 (min a2 65536)).toNat
    go_enter Try.func5, Try.ntmps5
    go_wp2_with (first
      | (go_at_call 12; refine (lives_any _).mono ?_; rintro e w1 ⟨rfl, b1⟩)
      | (go_at_call 18; refine (Stream_any a0 a1 a2 _ u0 u1 u2).mono ?_; intro e w2 m2; obtain ⟨A2, c2, rfl, k2, j2, b2⟩ := m2.read HL.out; clear m2)
      | (go_at_call 19; refine (rStream_any a0 a1 a2 _ u0 u1 u2).mono ?_; intro e w3 m3; obtain ⟨A3, c3, rfl, k3, j3, b3⟩ := m3.read HL.out; clear m3)
      | (go_at_call 17; refine (same_to (b := true) (by simp) HL.out HL.out hbs hbs (later j2 b3) j3).mono ?_; rintro e w4 ⟨rfl, rfl⟩))
    go_ret
    exact ⟨rfl, thenB (thenB b1 b2) b3⟩
theorem law_seals (a0 a1 : Int) (A2 : Option Addr) (n2 c2 : Nat) (x2 : List Int) (A3 : Option Addr) (n3 c3 : Nat) (x3 : List Int) (w : World) (u0 : 0 ≤ a0 ∧ a0 ≤ 18446744073709551615) (u1 : 0 ≤ a1 ∧ a1 ≤ 18446744073709551615)
    (hx2 : x2.length = n2) (hc2 : n2 ≤ c2) (hi2 : Ints .u8 w w.heap.size A2 x2) (hb2 : Bytes x2) (hs2 : c2 * 1 ≤ 140737488351232)
    (hx3 : x3.length = n3) (hc3 : n3 ≤ c3) (hi3 : Ints .u8 w w.heap.size A3 x3) (hb3 : Bytes x3) (hs3 : c3 * 1 ≤ 140737488351232) :
    Calls Try.prog 7 #[.int .u64 a0, .int .u64 a1, .slice A2 n2 c2, .slice A3 n3 c3] w fun e w' => e = .returned (.bool true) ∧ Below w.heap.size w w' := by
  by_cases hin : n2 ≤ 300 ∧ n3 ≤ 300
  · obtain ⟨h1, h2⟩ := hin
    have h1' : decide ((300 : Int) < (n2 : Int)) = false := by simp; omega
    have h2' : decide ((300 : Int) < (n3 : Int)) = false := by simp; omega
    have HL : Hid ((sealL a0 a1 x2 x3).length = n3 + 4) := Lib.hid (by rw [sealL_len, hx3])
    have hbs := sealL_bytes a0 a1 x2 hb3
    go_enter Try.func7, Try.ntmps7
    go_wp2_with (first
      | (go_at_call 12; refine (lives_any _).mono ?_; rintro e w1 ⟨rfl, b1⟩)
      | (go_at_call 20; refine (seal_any a0 a1 A2 A3 n2 c2 n3 c3 x2 x3 _ u0 u1 hx2 hb2 (later hi2 b1) (by omega) hx3 hb3 (later hi3 b1) (by omega)).mono ?_; intro e w2 m2; obtain ⟨B2, d2, rfl, k2, j2, b2⟩ := m2.read HL.out; clear m2)
      | (go_at_call 21; refine (rseal_any a0 a1 A2 A3 n2 c2 n3 c3 x2 x3 _ u0 u1 hx2 hb2 (later (later hi2 b1) b2) (by omega) hx3 hb3 (later (later hi3 b1) b2) (by omega)).mono ?_; intro e w3 m3; obtain ⟨B3, d3, rfl, k3, j3, b3⟩ := m3.read HL.out; clear m3)
      | (go_at_call 17; refine (same_to (b := true) (by simp) HL.out HL.out hbs hbs (later j2 b3) j3).mono ?_; rintro e w4 ⟨rfl, rfl⟩))
    go_ret
    exact ⟨rfl, thenB (thenB b1 b2) b3⟩
  · by_cases h1 : 300 < n2
    · go_enter Try.func7, Try.ntmps7
      go_wp2_with (go_at_call 12; refine (lives_any _).mono ?_; rintro e w1 ⟨rfl, b1⟩)
      go_ret
      exact ⟨rfl, b1⟩
    · have h1' : decide ((300 : Int) < (n2 : Int)) = false := by simp; omega
      have h2 : 300 < n3 := by omega
      go_enter Try.func7, Try.ntmps7
      go_wp2_with (go_at_call 12; refine (lives_any _).mono ?_; rintro e w1 ⟨rfl, b1⟩)
      go_ret
      exact ⟨rfl, b1⟩
end Go.Proofs.Ytpdaeggjahcogaa.Mac
