/- What each function of the layer of the key agreement returns: contracts over the program. -/
import Derived.Test.YtogjgdfijlfiiaaProg
import Derived.WalkKit
import Derived.Lib.MinMax
import Derived.Lib.Hide
import Derived.BigQuiet
import Derived.Deep.QuietTactic
import Derived.WalkSpells
import Derived.Deep.RegionHeld3
import Derived.Test.YtogjgdfijlfiiaaSerMath
import Derived.Test.YtogjgdfijlfiiaaGrpMath
set_option linter.unusedVariables false
set_option linter.unusedSimpArgs false
namespace Go.Proofs.Ytogjgdfijlfiiaa.Grp
open Go.RowKit

theorem product_any (a b : Int) (w : World) (ha : 0 ≤ a ∧ a ≤ 4294967295) (hb : 0 ≤ b ∧ b ≤ 4294967295) :
    Calls Try.prog 21 #[.int .u64 a, .int .u64 b] w fun e w' => e = .returned (.int .u64 (a * b % 2147483647)) ∧ w = w' := by
  have hp := prod_bd ha hb
  go_enter Try.func21, Try.ntmps21
  go_wp2
  go_ret
  exact ⟨rfl, rfl⟩
theorem bit_code (n k : Nat) (hn : n ≤ 4294967295) : bits BinOp.and IntKind.u32 ((n : Int) / 2 ^ k) 1 = ((n / 2 ^ k % 2 : Nat) : Int) := by
  have e : (n : Int) / 2 ^ k = ((n / 2 ^ k : Nat) : Int) := by push_cast; rfl
  have h : n / 2 ^ k ≤ n := Nat.div_le_self _ _
  rw [e]
  generalize n / 2 ^ k = q at *
  rw [u32_and _ _ (by omega) (by omega) (by decide) (by decide), Int.toNat_natCast, show (1 : Int).toNat = 1 from rfl, Nat.and_one_is_mod]
theorem wrap32_in (x : Int) (hx : 0 ≤ x ∧ x ≤ 4294967295) : IntKind.u32.wrap x = x := by rw [IntKind.wrap_u32]; omega
theorem power_any (b : Int) (n : Nat) (w : World) (hb : 0 ≤ b ∧ b ≤ 4294967295) (hn : n ≤ 4294967295) :
    Calls Try.prog 11 #[.int .u32 b, .int .u32 n] w fun e w' => e = .returned (.int .u32 (pw b n)) ∧ w = w' := by
  go_enter Try.func11, Try.ntmps11
  go_wp2
  go_loop [5, 6, 10] (fun p s i => ∃ (k : Nat) (z : Int), k ≤ 32 ∧ i = .int .i64 k ∧ p = .int .u64 (pw b (n % 2 ^ k)) ∧ s = .int .u64 z ∧ Sq b k z) (fun _ _ i => 32 - (intOf i).toNat)
  case atStart => exact ⟨0, b, Nat.zero_le _, rfl, by simp [Nat.mod_one, pw_zero], rfl, sq_zero b hb⟩
  case round =>
    obtain ⟨k, z, hk, rfl, rfl, rfl, hz⟩ := hrel
    by_cases hlt : k < 32
    · have hz1 := hz.1
      have hpb := pw_bd b (n % 2 ^ k)
      have hbit := bit_code n k hn
      have hs := Lib.hid (sq_succ hz)
      by_cases h1 : n / 2 ^ k % 2 = 1
      · have hw := Lib.hid ((pw_step hz (n % 2 ^ k)).trans (by rw [← low_one n k h1]))
        rw [h1] at hbit
        generalize pw b (n % 2 ^ k) = p at *
        clear h1 hz
        go_wp2_with (first
          | (go_at_call 21; refine (product_any p z _ (by omega) hz1).mono ?_; clear hpb; rintro e w' ⟨rfl, rfl⟩)
          | (go_at_call 21; refine (product_any z z _ hz1 hz1).mono ?_; rintro e w' ⟨rfl, rfl⟩))
        go_round
        case rel => exact ⟨k + 1, _, by omega, by go_num, by rw [hw.out], rfl, hs.out⟩
        case measure => simp [intOf]; omega
      · have hw := Lib.hid (low_none n k h1)
        have h2 : n / 2 ^ k % 2 = 0 := by generalize n / 2 ^ k = q at h1; omega
        rw [h2] at hbit
        clear h1 h2 hz
        go_wp2_with (go_at_call 21; refine (product_any z z _ hz1 hz1).mono ?_; rintro e w' ⟨rfl, rfl⟩)
        go_round
        case rel => exact ⟨k + 1, _, by omega, by go_num, by rw [hw.out], rfl, hs.out⟩
        case measure => simp [intOf]; omega
    · have h32 : k = 32 := by omega
      subst h32
      have e : n % 2 ^ 32 = n := Nat.mod_eq_of_lt (by omega)
      have hpb := pw_bd b n
      rw [e]
      clear hz e
      go_wp2
      go_ret
      exact ⟨rfl, rfl⟩
theorem rpower_any (b : Int) (n : Nat) (w : World) (hb : 0 ≤ b ∧ b ≤ 4294967295) (hn : n ≤ 4294967295) :
    Calls Try.prog 12 #[.int .u32 b, .int .u32 n] w fun e w' => e = .returned (.int .u32 (pw b n)) ∧ w = w' := by
  have hz0 : 0 ≤ b % 2147483647 ∧ b % 2147483647 ≤ 2147483646 := by omega
  have hsq : Sq b 0 (b % 2147483647) := ⟨by omega, by rw [Int.emod_emod_of_dvd _ (Int.dvd_refl _), show 2 ^ 0 = 1 from rfl, pw_one]⟩
  go_enter Try.func12, Try.ntmps12
  go_wp2
  go_loop [5, 6, 7] (fun p s i => ∃ (k m r : Nat) (z : Int), p = .int .u64 (pw b m) ∧ s = .int .u64 z ∧ i = .int .u32 r ∧ r ≤ 4294967295 ∧ m + 2 ^ k * r = n ∧ Sq b k z) (fun _ _ i => (intOf i).toNat)
  case atStart => exact ⟨0, 0, n, b % 2147483647, by rw [pw_zero], rfl, rfl, hn, by omega, hsq⟩
  case round =>
    obtain ⟨k, m, r, z, rfl, rfl, rfl, hr, hm, hz⟩ := hrel
    have hz1 := hz.1
    have hpb := pw_bd b m
    by_cases hlt : 0 < r
    · have hs := Lib.hid (sq_succ hz)
      have hp1 := prod_bd (a := pw b m) (b := z) (by omega) hz1
      have hp2 := prod_bd hz1 hz1
      by_cases h1 : r % 2 = 1
      · have hw := Lib.hid (pw_step hz m)
        have hm' : Hid (m + 2 ^ k + 2 ^ (k + 1) * (r / 2) = n) := Lib.hid (by
          rw [← hm, Nat.pow_succ, Nat.mul_assoc, Nat.add_assoc, show 2 * (r / 2) = r - 1 by omega, Nat.mul_sub, Nat.mul_one]
          have : 2 ^ k * 1 ≤ 2 ^ k * r := Nat.mul_le_mul_left _ hlt
          omega)
        clear hz hm
        go_wp2
        go_round
        case rel => exact ⟨k + 1, m + 2 ^ k, r / 2, _, by rw [hw.out], rfl, by simp, by omega, hm'.out, hs.out⟩
        case measure => simp [intOf]; omega
      · have hm' : Hid (m + 2 ^ (k + 1) * (r / 2) = n) := Lib.hid (by
          rw [← hm, Nat.pow_succ, Nat.mul_assoc, show 2 * (r / 2) = r by omega])
        clear hz hm
        go_wp2
        go_round
        case rel => exact ⟨k + 1, m, r / 2, _, rfl, rfl, by simp, by omega, hm'.out, hs.out⟩
        case measure => simp [intOf]; omega
    · have h0 : r = 0 := by omega
      subst h0
      have e : m = n := by rw [Nat.mul_zero] at hm; omega
      subst e
      clear hz hm
      go_wp2
      go_ret
      exact ⟨rfl, rfl⟩
end Go.Proofs.Ytogjgdfijlfiiaa.Grp
