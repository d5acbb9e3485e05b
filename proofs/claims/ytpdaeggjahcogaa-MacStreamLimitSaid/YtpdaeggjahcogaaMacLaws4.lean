/- The statement on the limit of streams, walked: it returns true. -/
import Derived.Test.YtpdaeggjahcogaaMacLaws
set_option linter.unusedVariables false
set_option linter.unusedSimpArgs false
namespace Go.Proofs.Ytpdaeggjahcogaa.Mac
open Go.RowKit Mem Oct Blk Base

theorem Stream_to {k nonce m : Int} {n : Nat} (w : World) (hk : 0 ≤ k ∧ k ≤ 18446744073709551615) (hx : 0 ≤ nonce ∧ nonce ≤ 18446744073709551615) (hm : -9223372036854775808 ≤ m ∧ m ≤ 9223372036854775807) (hn : (max 0 (min m 65536)).toNat = n) :
    Calls Try.prog 18 #[.int .u64 k, .int .u64 nonce, .int .i64 m] w fun e w' => Makes w w' e (strm k nonce n) := by
  rw [← hn]; exact Stream_any k nonce m w hk hx hm
theorem law_limit (a0 a1 a2 a3 : Int) (w : World) (u0 : 0 ≤ a0 ∧ a0 ≤ 18446744073709551615) (u1 : 0 ≤ a1 ∧ a1 ≤ 18446744073709551615) (u2 : -9223372036854775808 ≤ a2 ∧ a2 ≤ 9223372036854775807) (u3 : -9223372036854775808 ≤ a3 ∧ a3 ≤ 9223372036854775807) :
    Calls Try.prog 6 #[.int .u64 a0, .int .u64 a1, .int .i64 a2, .int .i64 a3] w fun e w' => e = .returned (.bool true) ∧ Below w.heap.size w w' := by
  by_cases hin : 0 ≤ a2 ∧ a2 ≤ a3 ∧ a2 ≤ 400
  · obtain ⟨h1, h2, h3⟩ := hin
    obtain ⟨n, rfl⟩ := Int.eq_ofNat_of_zero_le h1
    have d1 : decide ((n : Int) < 0) = false := by simp
    have d2 : decide (a3 < (n : Int)) = false := by simp; omega
    have d3 : decide ((400 : Int) < (n : Int)) = false := by simp; omega
    by_cases hmid : 400 < a3 ∧ a3 < 65536
    · obtain ⟨m1, m2⟩ := hmid
      have d4 : decide ((400 : Int) < a3) = true := by simp; omega
      have d5 : decide (a3 < (65536 : Int)) = true := by simp; omega
      go_enter Try.func6, Try.ntmps6
      go_wp2_with (go_at_call 12; refine (lives_any _).mono ?_; rintro e w1 ⟨rfl, b1⟩)
      go_ret
      exact ⟨rfl, b1⟩
    · obtain ⟨L, hL⟩ : ∃ L : Nat, (max 0 (min a3 65536)).toNat = L := ⟨_, rfl⟩
      have hmin : min a3 65536 = (L : Int) := by omega
      have hnL : n ≤ L := by omega
      have HLE := Lib.hid hL
      have HNE : Hid ((max 0 (min (n : Int) 65536)).toNat = n) := Lib.hid (by omega)
      have HS := Lib.hid (strm_len a0 a1 L)
      have HN := Lib.hid (strm_len a0 a1 n)
      have HT := Lib.hid (strm_take a0 a1 L n hnL)
      have bS := strm_bytes a0 a1 L
      have bN := strm_bytes a0 a1 n
      clear hL
      by_cases m0 : 400 < a3
      · have d4 : decide ((400 : Int) < a3) = true := by simp; omega
        have d5 : decide (a3 < (65536 : Int)) = false := by simp; omega
        go_enter Try.func6, Try.ntmps6
        go_wp2_with (go_at_call 18; refine (Stream_to _ u0 u1 u3 HLE.out).mono ?_; intro e w1 m1; obtain ⟨A1, c1, rfl, k1, x1, j1, b1⟩ := readm m1 HS.out; clear m1)
        have g1 : (0 : Int) ≤ (n : Int) := by omega
        have g2 : (n : Int) ≤ (c1 : Int) := by omega
        have g3 : (n : Int) ≤ (L : Int) := by omega
        have p1 : Ints .u8 w1.drew w1.drew.heap.size A1 (strm a0 a1 L) := j1.drew
        have hb1 := b1.drew
        have HTL : Hid (((strm a0 a1 L).take n).length = n) := Lib.hid (by rw [HT.out, HN.out])
        go_region_held3 (fun w' => True) (trivial) (first
          | (go_at_call 12; refine (lives_any _).mono ?_; rintro e w2 ⟨rfl, b2⟩)
          | (go_at_call 17; refine (same_to (b := true) (xs := strm a0 a1 n) (ys := (strm a0 a1 L).take n) (by rw [HT.out]; simp) HN.out HTL.out bN (bytes_take bS _) (by exact j3) (by exact (later (later p1 b2) b3).pre)).mono ?_; rintro e w4 ⟨rfl, rfl⟩)
          | (go_at_call 18; refine (Stream_to _ u0 u1 u2 HNE.out).mono ?_; intro e w3 m3; obtain ⟨A3, c3, rfl, k3, x3, j3, b3⟩ := readm m3 HN.out; clear m3))
        all_goals go_wp2
        go_ret
        exact ⟨rfl, thenB (thenB hb1 b2) b3⟩
      · have d4 : decide ((400 : Int) < a3) = false := by simp; omega
        go_enter Try.func6, Try.ntmps6
        go_wp2_with (go_at_call 18; refine (Stream_to _ u0 u1 u3 HLE.out).mono ?_; intro e w1 m1; obtain ⟨A1, c1, rfl, k1, x1, j1, b1⟩ := readm m1 HS.out; clear m1)
        have g1 : (0 : Int) ≤ (n : Int) := by omega
        have g2 : (n : Int) ≤ (c1 : Int) := by omega
        have g3 : (n : Int) ≤ (L : Int) := by omega
        have p1 : Ints .u8 w1.drew w1.drew.heap.size A1 (strm a0 a1 L) := j1.drew
        have hb1 := b1.drew
        have HTL : Hid (((strm a0 a1 L).take n).length = n) := Lib.hid (by rw [HT.out, HN.out])
        go_region_held3 (fun w' => True) (trivial) (first
          | (go_at_call 12; refine (lives_any _).mono ?_; rintro e w2 ⟨rfl, b2⟩)
          | (go_at_call 17; refine (same_to (b := true) (xs := strm a0 a1 n) (ys := (strm a0 a1 L).take n) (by rw [HT.out]; simp) HN.out HTL.out bN (bytes_take bS _) (by exact j3) (by exact (later (later p1 b2) b3).pre)).mono ?_; rintro e w4 ⟨rfl, rfl⟩)
          | (go_at_call 18; refine (Stream_to _ u0 u1 u2 HNE.out).mono ?_; intro e w3 m3; obtain ⟨A3, c3, rfl, k3, x3, j3, b3⟩ := readm m3 HN.out; clear m3))
        all_goals go_wp2
        go_ret
        exact ⟨rfl, thenB (thenB hb1 b2) b3⟩
  · by_cases h1 : a2 < 0
    · have d1 : decide (a2 < 0) = true := by simp; omega
      go_enter Try.func6, Try.ntmps6
      go_wp2_with (go_at_call 12; refine (lives_any _).mono ?_; rintro e w1 ⟨rfl, b1⟩)
      go_ret
      exact ⟨rfl, b1⟩
    · have d1 : decide (a2 < 0) = false := by simp; omega
      by_cases h2 : a3 < a2
      · have d2 : decide (a3 < a2) = true := by simp; omega
        go_enter Try.func6, Try.ntmps6
        go_wp2_with (go_at_call 12; refine (lives_any _).mono ?_; rintro e w1 ⟨rfl, b1⟩)
        go_ret
        exact ⟨rfl, b1⟩
      · have d2 : decide (a3 < a2) = false := by simp; omega
        have d3 : decide ((400 : Int) < a2) = true := by simp; omega
        go_enter Try.func6, Try.ntmps6
        go_wp2_with (go_at_call 12; refine (lives_any _).mono ?_; rintro e w1 ⟨rfl, b1⟩)
        go_ret
        exact ⟨rfl, b1⟩
end Go.Proofs.Ytpdaeggjahcogaa.Mac
