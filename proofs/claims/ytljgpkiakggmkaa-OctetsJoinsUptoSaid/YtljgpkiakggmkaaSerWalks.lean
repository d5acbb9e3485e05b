/- What each function of the layer of wrapping counters, and of its specification, returns: contracts over the program. -/
import Derived.Test.YtljgpkiakggmkaaProg
import Derived.WalkKit
import Derived.Lib.MinMax
import Derived.Lib.Hide
import Derived.BigQuiet
import Derived.Deep.QuietTactic
import Derived.Test.YtljgpkiakggmkaaSerMath
set_option linter.unusedVariables false
namespace Go.Proofs.Ytljgpkiakggmkaa.Ser
open Go.RowKit

theorem low_any (n b : Int) (w : World) (h0 : 0 ≤ n) (h1 : n ≤ 18446744073709551615) (hb : -9223372036854775808 ≤ b ∧ b ≤ 9223372036854775807) :
    Calls Try.prog 16 #[.int .u64 n, .int .i64 b] w fun e w' => e = .returned (.int .u64 (lowZ n b)) ∧ w = w' := by
  have H := Lib.hid (low_code n b h0 h1)
  go_enter Try.func16, Try.ntmps16
  go_wp2
  go_ret
  exact ⟨ret_int H.out, rfl⟩

theorem power_any (b : Int) (w : World) (h0 : 0 ≤ b) (h1 : b ≤ 63) :
    Calls Try.prog 28 #[.int .i64 b] w fun e w' => e = .returned (.int .u64 (p2 b.toNat)) ∧ w = w' := by
  obtain ⟨n, rfl⟩ := Int.eq_ofNat_of_zero_le h0
  rw [Int.toNat_natCast]
  go_enter Try.func28, Try.ntmps28
  go_wp2
  go_loop [3, 4] (fun p i => ∃ k : Nat, k ≤ n ∧ i = .int .i64 k ∧ p = .int .u64 (p2 k)) (fun _ i => n - (intOf i).toNat)
  case atStart => exact ⟨0, Nat.zero_le _, rfl, rfl⟩
  case round =>
    obtain ⟨k, hk, rfl, rfl⟩ := hrel
    by_cases hlt : k < n
    · have hs := p2_le62 k (by omega)
      have hp := p2_pos k
      have H := Lib.hid (p2_succ k)
      go_wp2
      go_round
      case rel => exact ⟨k + 1, by omega, by go_num, by rw [H.out]⟩
      case measure => simp [intOf]; omega
    · have hkn : k = n := by omega
      subst hkn
      go_wp2
      go_ret
      exact ⟨rfl, rfl⟩

theorem dist_any (a b : Int) (w : World) (h0 : 0 ≤ a ∧ a ≤ 18446744073709551615) (h1 : 0 ≤ b ∧ b ≤ 18446744073709551615) :
    Calls Try.prog 54 #[.int .u64 a, .int .u64 b] w fun e w' => e = .returned (.int .u64 (dst a b)) ∧ w = w' := by
  go_enter Try.func54, Try.ntmps54
  go_wp2
  go_ret
  exact ⟨rfl, rfl⟩

theorem diff_any (a b : Int) (w : World) (h0 : 0 ≤ a ∧ a ≤ 65535) (h1 : 0 ≤ b ∧ b ≤ 65535) :
    Calls Try.prog 18 #[.int .u16 a, .int .u16 b] w fun e w' => e = .returned (.int .i64 (diffZ a b)) ∧ w = w' := by
  have H := Lib.hid (diff_code a b h0 h1)
  go_enter Try.func18, Try.ntmps18
  go_wp2
  go_ret
  exact ⟨ret_int H.out, rfl⟩
theorem rdiff_any (a b : Int) (w : World) (h0 : 0 ≤ a ∧ a ≤ 65535) (h1 : 0 ≤ b ∧ b ≤ 65535) :
    Calls Try.prog 19 #[.int .u16 a, .int .u16 b] w fun e w' => e = .returned (.int .i64 (diffZ a b)) ∧ w = w' := by
  go_enter Try.func19, Try.ntmps19
  go_wp2
  all_goals
    go_ret
    exact ⟨ret_int (by unfold diffZ; omega), rfl⟩
theorem add_any (a n : Int) (w : World) (h0 : 0 ≤ a ∧ a ≤ 65535) (hb : -9223372036854775808 ≤ n ∧ n ≤ 9223372036854775807) :
    Calls Try.prog 20 #[.int .u16 a, .int .i64 n] w fun e w' => e = .returned (.int .u16 (addZ a n)) ∧ w = w' := by
  go_enter Try.func20, Try.ntmps20
  go_wp2
  go_ret
  exact ⟨ret_int (add_code a n), rfl⟩
theorem radd_any (a n : Int) (w : World) (h0 : 0 ≤ a ∧ a ≤ 65535) (hb : -9223372036854775808 ≤ n ∧ n ≤ 9223372036854775807) :
    Calls Try.prog 21 #[.int .u16 a, .int .i64 n] w fun e w' => e = .returned (.int .u16 (addZ a n)) ∧ w = w' := by
  have hm := tmod_bd n
  go_enter Try.func21, Try.ntmps21
  go_wp2
  go_ret
  exact ⟨ret_int (by first | exact radd_code a n h0.1 | (rw [← radd_code a n h0.1, wrap_u16]; omega)), rfl⟩
theorem between_any (a b c : Int) (w : World) (h0 : 0 ≤ a ∧ a ≤ 65535) (h1 : 0 ≤ b ∧ b ≤ 65535) (h2 : 0 ≤ c ∧ c ≤ 65535) :
    Calls Try.prog 24 #[.int .u16 a, .int .u16 b, .int .u16 c] w fun e w' => e = .returned (.bool (betweenB a b c)) ∧ w = w' := by
  go_enter Try.func24, Try.ntmps24
  go_wp2
  go_ret
  exact ⟨ret_bool (between_code a b c), rfl⟩
theorem rbetween_any (a b c : Int) (w : World) (h0 : 0 ≤ a ∧ a ≤ 65535) (h1 : 0 ≤ b ∧ b ≤ 65535) (h2 : 0 ≤ c ∧ c ≤ 65535) :
    Calls Try.prog 25 #[.int .u16 a, .int .u16 b, .int .u16 c] w fun e w' => e = .returned (.bool (betweenB a b c)) ∧ w = w' := by
  go_enter Try.func25, Try.ntmps25
  go_wp2
  go_ret
  exact ⟨rfl, rfl⟩
theorem passed_any (a b : Int) (w : World) (h0 : 0 ≤ a ∧ a ≤ 65535) (h1 : 0 ≤ b ∧ b ≤ 65535) :
    Calls Try.prog 22 #[.int .u16 a, .int .u16 b] w fun e w' => e = .returned (.bool (passedB a b)) ∧ w = w' := by
  go_enter Try.func22, Try.ntmps22
  go_wp2_with (go_at_call 18; refine (diff_any _ _ _ (by omega) (by omega)).mono ?_; rintro e w' ⟨rfl, rfl⟩)
  go_ret
  exact ⟨rfl, rfl⟩
theorem rpassed_any (a b : Int) (w : World) (h0 : 0 ≤ a ∧ a ≤ 65535) (h1 : 0 ≤ b ∧ b ≤ 65535) :
    Calls Try.prog 23 #[.int .u16 a, .int .u16 b] w fun e w' => e = .returned (.bool (passedB a b)) ∧ w = w' := by
  go_enter Try.func23, Try.ntmps23
  go_wp2_with (go_at_call 19; refine (rdiff_any _ _ _ (by omega) (by omega)).mono ?_; rintro e w' ⟨rfl, rfl⟩)
  go_ret
  exact ⟨rfl, rfl⟩
theorem rlow_any (n b : Int) (w : World) (h0 : 0 ≤ n) (h1 : n ≤ 18446744073709551615) (hb : -9223372036854775808 ≤ b ∧ b ≤ 9223372036854775807) :
    Calls Try.prog 17 #[.int .u64 n, .int .i64 b] w fun e w' => e = .returned (.int .u64 (lowZ n b)) ∧ w = w' := by
  by_cases h2 : b < 0
  · have H := Lib.hid (low_neg n b h2)
    go_enter Try.func17, Try.ntmps17
    go_wp2_with fail
    go_ret
    exact ⟨ret_int H.out.symm, rfl⟩
  · by_cases h3 : 63 < b
    · have H := Lib.hid (low_all n b h3 h0 h1)
      go_enter Try.func17, Try.ntmps17
      go_wp2_with fail
      go_ret
      exact ⟨ret_int H.out.symm, rfl⟩
    · have H := Lib.hid (low_mid n b (by omega) (by omega))
      have hp := p2_pos b.toNat
      have hnz : (p2 b.toNat == 0) = false := by simp; omega
      go_enter Try.func17, Try.ntmps17
      go_wp2_with (go_at_call 28; refine (power_any _ _ (by omega) (by omega)).mono ?_; rintro e w' ⟨rfl, rfl⟩)
      go_ret
      exact ⟨ret_int H.out.symm, rfl⟩
theorem apart_any (a b : Int) (w : World) (h0 : 0 ≤ a ∧ a ≤ 18446744073709551615) (h1 : 0 ≤ b ∧ b ≤ 18446744073709551615) :
    Calls Try.prog 45 #[.int .u64 a, .int .u64 b] w fun e w' => e = .returned (.int .u64 (dst b a)) ∧ w = w' := by
  go_enter Try.func45, Try.ntmps45
  go_wp2
  all_goals
    go_ret
    exact ⟨ret_int (by unfold dst; omega), rfl⟩
set_option linter.unusedSimpArgs false
theorem nearer_any (n m last : Int) (w : World) (h0 : 0 ≤ n ∧ n ≤ 18446744073709551615) (h1 : 0 ≤ m ∧ m ≤ 18446744073709551615) (h2 : 0 ≤ last ∧ last ≤ 18446744073709551615) :
    Calls Try.prog 44 #[.int .u64 n, .int .u64 m, .int .u64 last] w fun e w' => e = .returned (.bool (nearB n m last)) ∧ w = w' := by
  by_cases c1 : dst n last < dst m last
  · have H := Lib.hid (near_lt c1)
    go_enter Try.func44, Try.ntmps44
    go_wp2_with (go_at_call 54; refine (dist_any _ _ _ (by omega) (by omega)).mono ?_; rintro e w' ⟨rfl, rfl⟩)
    go_ret
    exact ⟨ret_bool H.out, rfl⟩
  · by_cases c2 : dst n last = dst m last
    · have H := Lib.hid (near_eq c2)
      have c3 : (dst n last == dst m last) = true := by simpa using c2
      have c4 : decide (dst n last < dst m last) = false := by simpa using c1
      clear c2
      go_enter Try.func44, Try.ntmps44
      go_wp2_with (go_at_call 54; refine (dist_any _ _ _ (by omega) (by omega)).mono ?_; rintro e w' ⟨rfl, rfl⟩)
      go_ret
      exact ⟨ret_bool H.out, rfl⟩
    · have H := Lib.hid (near_no (by omega) c2)
      have c3 : (dst n last == dst m last) = false := by simpa using c2
      have c4 : decide (dst n last < dst m last) = false := by simpa using c1
      go_enter Try.func44, Try.ntmps44
      go_wp2_with (go_at_call 54; refine (dist_any _ _ _ (by omega) (by omega)).mono ?_; rintro e w' ⟨rfl, rfl⟩)
      go_ret
      exact ⟨ret_bool H.out, rfl⟩
/-- The array of the three numbers that are compared. -/
theorem idx3 (x0 x1 x2 : Int) : (∀ w : World, (Instr.index 62 (.agg #[.int .u64 x0, .int .u64 x1, .int .u64 x2]) (.int .i64 0)).run Try.prog w = .ok (.int .u64 x0) w) ∧
    (∀ w : World, (Instr.index 62 (.agg #[.int .u64 x0, .int .u64 x1, .int .u64 x2]) (.int .i64 1)).run Try.prog w = .ok (.int .u64 x1) w) ∧
    (∀ w : World, (Instr.index 62 (.agg #[.int .u64 x0, .int .u64 x1, .int .u64 x2]) (.int .i64 2)).run Try.prog w = .ok (.int .u64 x2) w) :=
  ⟨fun _ => by kernel_rfl, fun _ => by kernel_rfl, fun _ => by kernel_rfl⟩
theorem ext_any (last low b : Int) (w : World) (h0 : 0 ≤ last ∧ last ≤ 18446744073709551615) (h1 : 0 ≤ low ∧ low ≤ 18446744073709551615) (h2 : -9223372036854775808 ≤ b ∧ b ≤ 9223372036854775807) :
    Calls Try.prog 26 #[.int .u64 last, .int .u64 low, .int .i64 b] w fun e w' => e = .returned (.int .u64 (extZ last low b)) ∧ Below w.heap.size w w' := by
  have hparts := parts last low b h0.1 h0.2
  have hres : extZ last low b = bestZ (last - last % p2 (kp b)) (last % p2 (kp b)) (low % p2 (kp b)) (p2 (kp b)) := rfl
  have e1 := shl_kp b
  have e2 := lowZ_kp last b
  have e3 := lowZ_kp low b
  generalize p2 (kp b) = P at *
  generalize last % P = R at *
  generalize low % P = L at *
  have hcode := Lib.hid (pick_code hparts)
  have hbd := best_bd hparts
  obtain ⟨a1, a2, a3, a4, a5, a6, a7, a8, a9, a10⟩ := hparts
  clear a8 a10
  obtain ⟨A, hA⟩ : ∃ A, IntKind.u64.wrap (last - R + L - P) = A := ⟨_, rfl⟩
  obtain ⟨C, hC⟩ : ∃ C, IntKind.u64.wrap (last - R + L + P) = C := ⟨_, rfl⟩
  have bA : 0 ≤ A ∧ A ≤ 18446744073709551615 := by rw [wrap_u64] at hA; omega
  have bC : 0 ≤ C ∧ C ≤ 18446744073709551615 := by rw [wrap_u64] at hC; omega
  have Hres := Lib.hid hres
  clear hres
  rw [hA, hC] at hcode
  go_enter Try.func26, Try.ntmps26
  go_wp2_with (first | (go_at_call 16; refine (low_any _ _ _ (by omega) (by omega) (by omega)).mono ?_; rintro e w' ⟨rfl, rfl⟩))
  clear e1 e2 e3 hA hC
  have bS : 0 ≤ last - R + L ∧ last - R + L ≤ 18446744073709551615 := by omega
  generalize last - R + L = S at *
  obtain ⟨i0, i1, i2⟩ := idx3 A S C
  have hb : Below w.heap.size w (w.alloc (.cells #[.int .u64 A, .int .u64 S, .int .u64 C] 62)) := (Below.refl _ _).alloc (Nat.le_refl _) _
  obtain ⟨B1, hB1⟩ : ∃ x, pick A S last = x := ⟨_, rfl⟩
  obtain ⟨B2, hB2⟩ : ∃ x, pick S B1 last = x := ⟨_, rfl⟩
  obtain ⟨B3, hB3⟩ : ∃ x, pick C B2 last = x := ⟨_, rfl⟩
  have bB1 : 0 ≤ B1 ∧ B1 ≤ 18446744073709551615 := by rw [← hB1]; unfold pick; split <;> omega
  have bB2 : 0 ≤ B2 ∧ B2 ≤ 18446744073709551615 := by rw [← hB2]; unfold pick; split <;> omega
  rw [hB1, hB2, hB3] at hcode
  have HB1 := Lib.hid hB1
  have HB2 := Lib.hid hB2
  have HB3 := Lib.hid hB3
  clear hB1 hB2 hB3 hbd
  go_loop [10, 37] (fun n i => (i = .int .i64 0 ∧ n = .int .u64 S) ∨ (i = .int .i64 1 ∧ n = .int .u64 B1) ∨ (i = .int .i64 2 ∧ n = .int .u64 B2) ∨ (i = .int .i64 3 ∧ n = .int .u64 B3)) (fun _ i => 3 - (intOf i).toNat)
  case atStart => exact .inl ⟨rfl, rfl⟩
  case round =>
    rcases hrel with ⟨rfl, rfl⟩ | ⟨rfl, rfl⟩ | ⟨rfl, rfl⟩ | ⟨rfl, rfl⟩
    · cases hn : nearB A S last
      · have HX := Lib.hid (pick_no hn)
        go_wp2_with (go_at_call 44; refine (nearer_any _ _ _ _ (by omega) (by omega) (by omega)).mono ?_; rintro e w' ⟨rfl, rfl⟩)
        go_round
        case rel => exact .inr (.inl ⟨rfl, by rw [← HB1.out, HX.out]⟩)
        case measure => simp [intOf]
      · have HX := Lib.hid (pick_yes hn)
        go_wp2_with (go_at_call 44; refine (nearer_any _ _ _ _ (by omega) (by omega) (by omega)).mono ?_; rintro e w' ⟨rfl, rfl⟩)
        go_round
        case rel => exact .inr (.inl ⟨rfl, by rw [← HB1.out, HX.out]⟩)
        case measure => simp [intOf]
    · cases hn : nearB S B1 last
      · have HX := Lib.hid (pick_no hn)
        go_wp2_with (go_at_call 44; refine (nearer_any _ _ _ _ (by omega) (by omega) (by omega)).mono ?_; rintro e w' ⟨rfl, rfl⟩)
        go_round
        case rel => exact .inr (.inr (.inl ⟨rfl, by rw [← HB2.out, HX.out]⟩))
        case measure => simp [intOf]
      · have HX := Lib.hid (pick_yes hn)
        go_wp2_with (go_at_call 44; refine (nearer_any _ _ _ _ (by omega) (by omega) (by omega)).mono ?_; rintro e w' ⟨rfl, rfl⟩)
        go_round
        case rel => exact .inr (.inr (.inl ⟨rfl, by rw [← HB2.out, HX.out]⟩))
        case measure => simp [intOf]
    · cases hn : nearB C B2 last
      · have HX := Lib.hid (pick_no hn)
        go_wp2_with (go_at_call 44; refine (nearer_any _ _ _ _ (by omega) (by omega) (by omega)).mono ?_; rintro e w' ⟨rfl, rfl⟩)
        go_round
        case rel => exact .inr (.inr (.inr ⟨rfl, by rw [← HB3.out, HX.out]⟩))
        case measure => simp [intOf]
      · have HX := Lib.hid (pick_yes hn)
        go_wp2_with (go_at_call 44; refine (nearer_any _ _ _ _ (by omega) (by omega) (by omega)).mono ?_; rintro e w' ⟨rfl, rfl⟩)
        go_round
        case rel => exact .inr (.inr (.inr ⟨rfl, by rw [← HB3.out, HX.out]⟩))
        case measure => simp [intOf]
    · go_wp2
      go_ret
      exact ⟨ret_int (by rw [Hres.out, ← hcode.out]), hb⟩
theorem rext_any (last low b : Int) (w : World) (h0 : 0 ≤ last ∧ last ≤ 18446744073709551615) (h1 : 0 ≤ low ∧ low ≤ 18446744073709551615) (h2 : -9223372036854775808 ≤ b ∧ b ≤ 9223372036854775807) :
    Calls Try.prog 27 #[.int .u64 last, .int .u64 low, .int .i64 b] w fun e w' => e = .returned (.int .u64 (extZ last low b)) ∧ Below w.heap.size w w' := by
  have hparts := parts last low b h0.1 h0.2
  have hres : extZ last low b = bestZ (last - last % p2 (kp b)) (last % p2 (kp b)) (low % p2 (kp b)) (p2 (kp b)) := rfl
  have e1 : p2 (max 1 (min b 63)).toNat = p2 (kp b) := rfl
  generalize hP : p2 (kp b) = P at *
  generalize hR : last % P = R at *
  generalize hL : low % P = L at *
  obtain ⟨C, hC⟩ : ∃ C, IntKind.u64.wrap (last - R + L + P) = C := ⟨_, rfl⟩
  have hfacts := Lib.hid (best_facts hparts hC)
  obtain ⟨a1, a2, a3, a4, a5, a6, a7, a8, a9, a10⟩ := hparts
  have Hres := Lib.hid hres
  have H8 := Lib.hid a8
  clear hres a8 a10 hP
  have bC : 0 ≤ C ∧ C ≤ 18446744073709551615 := by rw [wrap_u64] at hC; omega
  have hnz : (P == 0) = false := by simp; omega
  go_enter Try.func27, Try.ntmps27
  go_wp2_with (first | (go_at_call 28; refine (power_any _ _ (by omega) (by omega)).mono ?_; rintro e w' ⟨rfl, rfl⟩))
  go_region
  clear e1
  have bS : 0 ≤ last - R + L ∧ last - R + L ≤ 18446744073709551615 := by omega
  generalize hS : last - R + L = S at *
  have HS := Lib.hid hS
  clear hS
  go_wp2_with (first | (go_at_call 45; refine (apart_any _ _ _ (by omega) (by omega)).mono ?_; rintro e w' ⟨rfl, rfl⟩))
  all_goals
    go_ret
    refine ⟨ret_int ?_, (Below.refl _ _).drew⟩
    have g1 := HS.out
    have g8 := H8.out
    obtain ⟨f1, f2, f3, f4⟩ := hfacts.out
    rw [Hres.out]
    omega
theorem lives_any (w : World) : Calls Try.prog 15 #[] w fun e w' => e = .returned (.bool true) ∧ Below w.heap.size w w' := by
  have l1 : lowZ 258 8 = 2 := by decide
  have l2 : diffZ 65535 2 = 3 := by decide
  have l3 : addZ 2 (-3) = 65535 := by decide
  have l4 : passedB 2 65530 = true := by decide
  have l5 : passedB 65530 2 = false := by decide
  have l6 : betweenB 65534 1 0 = true := by decide
  have l7 : extZ 260 1 8 = 257 := by decide
  go_enter Try.func15, Try.ntmps15
  go_wp2_with (first | (go_at_call 16; refine (low_any _ _ _ (by omega) (by omega) (by omega)).mono ?_; rintro e w' ⟨rfl, rfl⟩) | (go_at_call 18; refine (diff_any _ _ _ (by omega) (by omega)).mono ?_; rintro e w' ⟨rfl, rfl⟩) | (go_at_call 20; refine (add_any _ _ _ (by omega) (by omega)).mono ?_; rintro e w' ⟨rfl, rfl⟩) | (go_at_call 22; refine (passed_any _ _ _ (by omega) (by omega)).mono ?_; rintro e w' ⟨rfl, rfl⟩) | (go_at_call 24; refine (between_any _ _ _ _ (by omega) (by omega) (by omega)).mono ?_; rintro e w' ⟨rfl, rfl⟩) | (go_at_call 26; refine (ext_any _ _ _ _ (by omega) (by omega) (by omega)).mono ?_; rintro e w' ⟨rfl, hb⟩))
  go_ret
  exact ⟨rfl, hb⟩
end Go.Proofs.Ytljgpkiakggmkaa.Ser
