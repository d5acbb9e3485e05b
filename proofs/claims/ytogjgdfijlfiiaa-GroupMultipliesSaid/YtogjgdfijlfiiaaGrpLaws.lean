/- The statements on the key agreement, walked: each returns true. -/
import Derived.Test.YtogjgdfijlfiiaaGrpWalks
import Derived.Test.YtogjgdfijlfiiaaMem
set_option linter.unusedVariables false
set_option linter.unusedSimpArgs false
namespace Go.Proofs.Ytogjgdfijlfiiaa.Grp
open Go.RowKit Mem

theorem secret_any (n : Int) (w : World) (hn : 0 ≤ n ∧ n ≤ 4294967295) :
    Calls Try.prog 13 #[.int .u32 n] w fun e w' => e = .returned (.int .u32 (1 + n % 2147483645)) ∧ w = w' := by
  go_enter Try.func13, Try.ntmps13
  go_wp2
  go_ret
  exact ⟨rfl, rfl⟩
theorem rsecret_any (n : Int) (w : World) (hn : 0 ≤ n ∧ n ≤ 4294967295) :
    Calls Try.prog 14 #[.int .u32 n] w fun e w' => e = .returned (.int .u32 (1 + n % 2147483645)) ∧ w = w' := by
  go_enter Try.func14, Try.ntmps14
  go_wp2
  go_ret
  exact ⟨rfl, rfl⟩
theorem public_any (n : Nat) (w : World) (hn : n ≤ 4294967295) :
    Calls Try.prog 15 #[.int .u32 n] w fun e w' => e = .returned (.int .u32 (pw 7 n)) ∧ w = w' := by
  go_enter Try.func15, Try.ntmps15
  go_wp2_with (go_at_call 11; refine (power_any 7 n _ (by decide) hn).mono ?_; rintro e w' ⟨rfl, rfl⟩)
  go_ret
  exact ⟨rfl, rfl⟩
theorem rpublic_any (n : Nat) (w : World) (hn : n ≤ 4294967295) :
    Calls Try.prog 16 #[.int .u32 n] w fun e w' => e = .returned (.int .u32 (pw 7 n)) ∧ w = w' := by
  go_enter Try.func16, Try.ntmps16
  go_wp2_with (go_at_call 12; refine (rpower_any 7 n _ (by decide) hn).mono ?_; rintro e w' ⟨rfl, rfl⟩)
  go_ret
  exact ⟨rfl, rfl⟩
theorem shared_any (n : Nat) (b : Int) (w : World) (hn : n ≤ 4294967295) (hb : 0 ≤ b ∧ b ≤ 4294967295) :
    Calls Try.prog 19 #[.int .u32 n, .int .u32 b] w fun e w' => e = .returned (.int .u32 (pw b n)) ∧ w = w' := by
  go_enter Try.func19, Try.ntmps19
  go_wp2_with (go_at_call 11; refine (power_any b n _ hb hn).mono ?_; rintro e w' ⟨rfl, rfl⟩)
  go_ret
  exact ⟨rfl, rfl⟩
theorem rshared_any (n : Nat) (b : Int) (w : World) (hn : n ≤ 4294967295) (hb : 0 ≤ b ∧ b ≤ 4294967295) :
    Calls Try.prog 20 #[.int .u32 n, .int .u32 b] w fun e w' => e = .returned (.int .u32 (pw b n)) ∧ w = w' := by
  go_enter Try.func20, Try.ntmps20
  go_wp2_with (go_at_call 12; refine (rpower_any b n _ hb hn).mono ?_; rintro e w' ⟨rfl, rfl⟩)
  go_ret
  exact ⟨rfl, rfl⟩
def okB (n : Int) : Bool := decide (2 ≤ n ∧ n ≤ 2147483645)
theorem valid_any (n : Int) (w : World) (hn : 0 ≤ n ∧ n ≤ 4294967295) :
    Calls Try.prog 17 #[.int .u32 n] w fun e w' => e = .returned (.bool (okB n)) ∧ w = w' := by
  by_cases h : 2 ≤ n
  · go_enter Try.func17, Try.ntmps17
    go_wp2
    go_ret
    exact ⟨Ser.ret_bool (by simp [okB, h]), rfl⟩
  · go_enter Try.func17, Try.ntmps17
    go_wp2
    go_ret
    exact ⟨Ser.ret_bool (by simp [okB]; omega), rfl⟩
theorem rvalid_any (n : Int) (w : World) (hn : 0 ≤ n ∧ n ≤ 4294967295) :
    Calls Try.prog 18 #[.int .u32 n] w fun e w' => e = .returned (.bool (okB n)) ∧ w = w' := by
  by_cases h : 2 ≤ n
  · go_enter Try.func18, Try.ntmps18
    go_wp2
    go_ret
    exact ⟨Ser.ret_bool (by simp [okB, h]), rfl⟩
  · go_enter Try.func18, Try.ntmps18
    go_wp2
    go_ret
    exact ⟨Ser.ret_bool (by simp [okB]; omega), rfl⟩
theorem lives_any (w : World) : Calls Try.prog 10 #[] w fun e w' => e = .returned (.bool true) ∧ w = w' := by
  have H1 : Hid (∀ w, Calls Try.prog 11 #[.int .u32 7, .int .u32 12] w fun e w' => e = .returned (.int .u32 956385319) ∧ w = w') := Lib.hid fun w => by
    have := power_any 7 12 w (by decide) (by decide); rwa [show pw 7 12 = 956385319 by decide +kernel] at this
  have H2 : Hid (∀ w, Calls Try.prog 11 #[.int .u32 0, .int .u32 0] w fun e w' => e = .returned (.int .u32 1) ∧ w = w') := Lib.hid fun w => by
    have := power_any 0 0 w (by decide) (by decide); rwa [show pw 0 0 = 1 by decide +kernel] at this
  have H3 : Hid (∀ w, Calls Try.prog 15 #[.int .u32 2] w fun e w' => e = .returned (.int .u32 49) ∧ w = w') := Lib.hid fun w => by
    have := public_any 2 w (by decide); rwa [show pw 7 2 = 49 by decide +kernel] at this
  have H4 : Hid (∀ w, Calls Try.prog 19 #[.int .u32 3, .int .u32 49] w fun e w' => e = .returned (.int .u32 117649) ∧ w = w') := Lib.hid fun w => by
    have := shared_any 3 49 w (by decide) (by decide); rwa [show pw 49 3 = 117649 by decide +kernel] at this
  have H5 : Hid (∀ w, Calls Try.prog 13 #[.int .u32 2147483645] w fun e w' => e = .returned (.int .u32 1) ∧ w = w') := Lib.hid fun w => by
    have := secret_any 2147483645 w (by decide); rwa [show (1 : Int) + 2147483645 % 2147483645 = 1 by decide +kernel] at this
  have H6 : Hid (∀ w, Calls Try.prog 17 #[.int .u32 2] w fun e w' => e = .returned (.bool true) ∧ w = w') := Lib.hid fun w => valid_any 2 w (by decide)
  have H7 : Hid (∀ w, Calls Try.prog 17 #[.int .u32 1] w fun e w' => e = .returned (.bool false) ∧ w = w') := Lib.hid fun w => valid_any 1 w (by decide)
  go_enter Try.func10, Try.ntmps10
  go_wp2_with (first
    | (go_at_call 11; refine (H1.out _).mono ?_; clear H1; rintro e w' ⟨rfl, rfl⟩)
    | (go_at_call 11; refine (H2.out _).mono ?_; clear H2; rintro e w' ⟨rfl, rfl⟩)
    | (go_at_call 13; refine (H5.out _).mono ?_; clear H5; rintro e w' ⟨rfl, rfl⟩)
    | (go_at_call 17; refine (H6.out _).mono ?_; clear H6; rintro e w' ⟨rfl, rfl⟩)
    | (go_at_call 17; refine (H7.out _).mono ?_; clear H7; rintro e w' ⟨rfl, rfl⟩)
    | (go_at_call 15; refine (H3.out _).mono ?_; clear H3; rintro e w' ⟨rfl, rfl⟩)
    | (go_at_call 19; refine (H4.out _).mono ?_; clear H4; rintro e w' ⟨rfl, rfl⟩))
  go_ret
  exact ⟨rfl, rfl⟩
/-- A call of the power, with its result named. -/
theorem pow_to (b : Int) (n : Nat) (r : Int) (hb : 0 ≤ b ∧ b ≤ 4294967295) (hn : n ≤ 4294967295) (hr : pw b n = r) :
    Hid (∀ w, Calls Try.prog 11 #[.int .u32 b, .int .u32 n] w fun e w' => e = .returned (.int .u32 r) ∧ w = w') := Lib.hid fun w => by
  rw [← hr]; exact power_any b n w hb hn
theorem pub_to (n : Nat) (r : Int) (hn : n ≤ 4294967295) (hr : pw 7 n = r) :
    Hid (∀ w, Calls Try.prog 15 #[.int .u32 n] w fun e w' => e = .returned (.int .u32 r) ∧ w = w') := Lib.hid fun w => by
  rw [← hr]; exact public_any n w hn
theorem sha_to (n : Nat) (b : Int) (r : Int) (hn : n ≤ 4294967295) (hb : 0 ≤ b ∧ b ≤ 4294967295) (hr : pw b n = r) :
    Hid (∀ w, Calls Try.prog 19 #[.int .u32 n, .int .u32 b] w fun e w' => e = .returned (.int .u32 r) ∧ w = w') := Lib.hid fun w => by
  rw [← hr]; exact shared_any n b w hn hb
theorem law_powers (b n : Int) (w : World) (hb : 0 ≤ b ∧ b ≤ 4294967295) (hn : 0 ≤ n ∧ n ≤ 4294967295) :
    Calls Try.prog 3 #[.int .u32 b, .int .u32 n] w fun e w' => e = .returned (.bool true) ∧ Below w.heap.size w w' := by
  obtain ⟨n, rfl⟩ := Int.eq_ofNat_of_zero_le hn.1
  have H1 : Hid (∀ w, Calls Try.prog 11 #[.int .u32 b, .int .u32 n] w fun e w' => e = .returned (.int .u32 (pw b n)) ∧ w = w') := Lib.hid fun w => power_any b n w hb (by omega)
  have H2 : Hid (∀ w, Calls Try.prog 12 #[.int .u32 b, .int .u32 n] w fun e w' => e = .returned (.int .u32 (pw b n)) ∧ w = w') := Lib.hid fun w => rpower_any b n w hb (by omega)
  generalize pw b n = r at *
  go_enter Try.func3, Try.ntmps3
  go_wp2_with (first
    | (go_at_call 10; refine (lives_any _).mono ?_; rintro e w' ⟨rfl, rfl⟩)
    | (go_at_call 11; refine (H1.out _).mono ?_; rintro e w' ⟨rfl, rfl⟩)
    | (go_at_call 12; refine (H2.out _).mono ?_; rintro e w' ⟨rfl, rfl⟩))
  go_ret
  exact ⟨rfl, Below.refl _ _⟩
theorem law_keys (n : Int) (w : World) (hn : 0 ≤ n ∧ n ≤ 4294967295) :
    Calls Try.prog 4 #[.int .u32 n] w fun e w' => e = .returned (.bool true) ∧ Below w.heap.size w w' := by
  obtain ⟨m, rfl⟩ := Int.eq_ofNat_of_zero_le hn.1
  have H1 : Hid (∀ w, Calls Try.prog 15 #[.int .u32 m] w fun e w' => e = .returned (.int .u32 (pw 7 m)) ∧ w = w') := Lib.hid fun w => public_any m w (by omega)
  have H2 : Hid (∀ w, Calls Try.prog 16 #[.int .u32 m] w fun e w' => e = .returned (.int .u32 (pw 7 m)) ∧ w = w') := Lib.hid fun w => rpublic_any m w (by omega)
  generalize pw 7 m = r at *
  go_enter Try.func4, Try.ntmps4
  go_wp2_with (first
    | (go_at_call 10; refine (lives_any _).mono ?_; rintro e w' ⟨rfl, rfl⟩)
    | (go_at_call 13; refine (secret_any _ _ hn).mono ?_; rintro e w' ⟨rfl, rfl⟩)
    | (go_at_call 14; refine (rsecret_any _ _ hn).mono ?_; rintro e w' ⟨rfl, rfl⟩)
    | (go_at_call 15; refine (H1.out _).mono ?_; rintro e w' ⟨rfl, rfl⟩)
    | (go_at_call 16; refine (H2.out _).mono ?_; rintro e w' ⟨rfl, rfl⟩)
    | (go_at_call 17; refine (valid_any _ _ hn).mono ?_; rintro e w' ⟨rfl, rfl⟩)
    | (go_at_call 18; refine (rvalid_any _ _ hn).mono ?_; rintro e w' ⟨rfl, rfl⟩))
  go_ret
  exact ⟨rfl, Below.refl _ _⟩
theorem law_shares (n b : Int) (w : World) (hn : 0 ≤ n ∧ n ≤ 4294967295) (hb : 0 ≤ b ∧ b ≤ 4294967295) :
    Calls Try.prog 5 #[.int .u32 n, .int .u32 b] w fun e w' => e = .returned (.bool true) ∧ Below w.heap.size w w' := by
  obtain ⟨n, rfl⟩ := Int.eq_ofNat_of_zero_le hn.1
  have H1 : Hid (∀ w, Calls Try.prog 19 #[.int .u32 n, .int .u32 b] w fun e w' => e = .returned (.int .u32 (pw b n)) ∧ w = w') := Lib.hid fun w => shared_any n b w (by omega) hb
  have H2 : Hid (∀ w, Calls Try.prog 20 #[.int .u32 n, .int .u32 b] w fun e w' => e = .returned (.int .u32 (pw b n)) ∧ w = w') := Lib.hid fun w => rshared_any n b w (by omega) hb
  generalize pw b n = r at *
  go_enter Try.func5, Try.ntmps5
  go_wp2_with (first
    | (go_at_call 10; refine (lives_any _).mono ?_; rintro e w' ⟨rfl, rfl⟩)
    | (go_at_call 19; refine (H1.out _).mono ?_; rintro e w' ⟨rfl, rfl⟩)
    | (go_at_call 20; refine (H2.out _).mono ?_; rintro e w' ⟨rfl, rfl⟩))
  go_ret
  exact ⟨rfl, Below.refl _ _⟩
theorem law_multiplies (b m n : Int) (w : World) (hb : 0 ≤ b ∧ b ≤ 4294967295) (hm : 0 ≤ m ∧ m ≤ 4294967295) (hn : 0 ≤ n ∧ n ≤ 4294967295) :
    Calls Try.prog 6 #[.int .u32 b, .int .u32 m, .int .u32 n] w fun e w' => e = .returned (.bool true) ∧ Below w.heap.size w w' := by
  obtain ⟨m, rfl⟩ := Int.eq_ofNat_of_zero_le hm.1
  obtain ⟨n, rfl⟩ := Int.eq_ofNat_of_zero_le hn.1
  by_cases h : (m : Int) + n ≤ 4294967295
  · obtain ⟨x, hx⟩ : ∃ x, pw b m = x := ⟨_, rfl⟩
    obtain ⟨y, hy⟩ : ∃ y, pw b n = y := ⟨_, rfl⟩
    have bx := pw_bd b m
    have by_ := pw_bd b n
    have e := pw_mul b m n
    have H1 := pow_to b m x hb (by omega) hx
    have H2 := pow_to b n y hb (by omega) hy
    rw [hx, hy] at e
    rw [hx] at bx
    rw [hy] at by_
    have H3 := pow_to b (m + n) (x * y % 2147483647) hb (by omega) e.symm
    have hp := prod_bd (a := x) (b := y) (by omega) (by omega)
    rw [show ((m + n : Nat) : Int) = (m : Int) + n by omega] at H3
    clear hx hy e
    go_enter Try.func6, Try.ntmps6
    go_wp2_with (first
      | (go_at_call 10; refine (lives_any _).mono ?_; rintro e w' ⟨rfl, rfl⟩)
      | (go_at_call 11; refine (H1.out _).mono ?_; clear H1; rintro e w' ⟨rfl, rfl⟩)
      | (go_at_call 11; refine (H2.out _).mono ?_; clear H2; rintro e w' ⟨rfl, rfl⟩)
      | (go_at_call 11; refine (H3.out _).mono ?_; clear H3; rintro e w' ⟨rfl, rfl⟩))
    go_ret
    exact ⟨rfl, Below.refl _ _⟩
  · go_enter Try.func6, Try.ntmps6
    go_wp2_with (go_at_call 10; refine (lives_any _).mono ?_; rintro e w' ⟨rfl, rfl⟩)
    go_ret
    exact ⟨rfl, Below.refl _ _⟩
theorem law_reduces (b n : Int) (w : World) (hb : 0 ≤ b ∧ b ≤ 4294967295) (hn : 0 ≤ n ∧ n ≤ 4294967295) :
    Calls Try.prog 7 #[.int .u32 b, .int .u32 n] w fun e w' => e = .returned (.bool true) ∧ Below w.heap.size w w' := by
  obtain ⟨n, rfl⟩ := Int.eq_ofNat_of_zero_le hn.1
  obtain ⟨x, hx⟩ : ∃ x, pw b n = x := ⟨_, rfl⟩
  have bx := pw_bd b n
  have H1 := pow_to b n x hb (by omega) hx
  have H2 := pow_to (b % 2147483647) n x (by omega) (by omega) (by rw [pw_mod, hx])
  have H3 := pow_to b 1 (b % 2147483647) hb (by omega) (pw_one b)
  rw [hx] at bx
  clear hx
  go_enter Try.func7, Try.ntmps7
  go_wp2_with (first
    | (go_at_call 10; refine (lives_any _).mono ?_; rintro e w' ⟨rfl, rfl⟩)
    | (go_at_call 11; refine (H1.out _).mono ?_; clear H1; rintro e w' ⟨rfl, rfl⟩)
    | (go_at_call 11; refine (H2.out _).mono ?_; clear H2; rintro e w' ⟨rfl, rfl⟩)
    | (go_at_call 11; refine (H3.out _).mono ?_; clear H3; rintro e w' ⟨rfl, rfl⟩))
  go_ret
  exact ⟨rfl, Below.refl _ _⟩
theorem law_agrees (m n : Int) (w : World) (hm : 0 ≤ m ∧ m ≤ 4294967295) (hn : 0 ≤ n ∧ n ≤ 4294967295) :
    Calls Try.prog 8 #[.int .u32 m, .int .u32 n] w fun e w' => e = .returned (.bool true) ∧ Below w.heap.size w w' := by
  obtain ⟨m, rfl⟩ := Int.eq_ofNat_of_zero_le hm.1
  obtain ⟨n, rfl⟩ := Int.eq_ofNat_of_zero_le hn.1
  obtain ⟨x, hx⟩ : ∃ x, pw 7 m = x := ⟨_, rfl⟩
  obtain ⟨y, hy⟩ : ∃ y, pw 7 n = y := ⟨_, rfl⟩
  have bx := pw_bd 7 m
  have by_ := pw_bd 7 n
  have e := pw_comm 7 m n
  rw [hx, hy] at e
  rw [hx] at bx
  rw [hy] at by_
  obtain ⟨r, hr⟩ : ∃ r, pw x n = r := ⟨_, rfl⟩
  rw [hr] at e
  have H1 := pub_to m x (by omega) hx
  have H2 := pub_to n y (by omega) hy
  have H3 := sha_to m y r (by omega) (by omega) e.symm
  have H4 := sha_to n x r (by omega) (by omega) hr
  clear hx hy e hr
  go_enter Try.func8, Try.ntmps8
  go_wp2_with (first
    | (go_at_call 10; refine (lives_any _).mono ?_; rintro e w' ⟨rfl, rfl⟩)
    | (go_at_call 15; refine (H1.out _).mono ?_; clear H1; rintro e w' ⟨rfl, rfl⟩)
    | (go_at_call 15; refine (H2.out _).mono ?_; clear H2; rintro e w' ⟨rfl, rfl⟩)
    | (go_at_call 19; refine (H3.out _).mono ?_; clear H3; rintro e w' ⟨rfl, rfl⟩)
    | (go_at_call 19; refine (H4.out _).mono ?_; clear H4; rintro e w' ⟨rfl, rfl⟩))
  go_ret
  exact ⟨rfl, Below.refl _ _⟩
theorem pub_toI (n r : Int) (hn : 0 ≤ n ∧ n ≤ 4294967295) (hr : pw 7 n.toNat = r) :
    Hid (∀ w, Calls Try.prog 15 #[.int .u32 n] w fun e w' => e = .returned (.int .u32 r) ∧ w = w') := Lib.hid fun w => by
  obtain ⟨m, rfl⟩ := Int.eq_ofNat_of_zero_le hn.1
  rw [← hr]; exact public_any m w (by omega)
theorem sha_toI (n b r : Int) (hn : 0 ≤ n ∧ n ≤ 4294967295) (hb : 0 ≤ b ∧ b ≤ 4294967295) (hr : pw b n.toNat = r) :
    Hid (∀ w, Calls Try.prog 19 #[.int .u32 n, .int .u32 b] w fun e w' => e = .returned (.int .u32 r) ∧ w = w') := Lib.hid fun w => by
  obtain ⟨m, rfl⟩ := Int.eq_ofNat_of_zero_le hn.1
  rw [← hr]; exact shared_any m b w (by omega) hb
theorem sec_to (n r : Int) (hn : 0 ≤ n ∧ n ≤ 4294967295) (hr : 1 + n % 2147483645 = r) :
    Hid (∀ w, Calls Try.prog 13 #[.int .u32 n] w fun e w' => e = .returned (.int .u32 r) ∧ w = w') := Lib.hid fun w => by
  rw [← hr]; exact secret_any n w hn
theorem law_secrets (m n : Int) (w : World) (hm : 0 ≤ m ∧ m ≤ 4294967295) (hn : 0 ≤ n ∧ n ≤ 4294967295) :
    Calls Try.prog 9 #[.int .u32 m, .int .u32 n] w fun e w' => e = .returned (.bool true) ∧ Below w.heap.size w w' := by
  obtain ⟨a, ha⟩ : ∃ a, 1 + m % 2147483645 = a := ⟨_, rfl⟩
  obtain ⟨b, hb⟩ : ∃ b, 1 + n % 2147483645 = b := ⟨_, rfl⟩
  have ba : 1 ≤ a ∧ a ≤ 2147483645 := by omega
  have bb : 1 ≤ b ∧ b ≤ 2147483645 := by omega
  have S1 := sec_to m a hm ha
  have S2 := sec_to n b hn hb
  obtain ⟨x, hx⟩ : ∃ x, pw 7 a.toNat = x := ⟨_, rfl⟩
  obtain ⟨y, hy⟩ : ∃ y, pw 7 b.toNat = y := ⟨_, rfl⟩
  have bx := pw_bd 7 a.toNat
  have by_ := pw_bd 7 b.toNat
  have e := pw_comm 7 a.toNat b.toNat
  rw [hx, hy] at e
  rw [hx] at bx
  rw [hy] at by_
  obtain ⟨r, hr⟩ : ∃ r, pw x b.toNat = r := ⟨_, rfl⟩
  rw [hr] at e
  obtain ⟨u, hu⟩ : ∃ u, pw y (a - 1).toNat = u := ⟨_, rfl⟩
  have bu := pw_bd y (a - 1).toNat
  have er := pw_mul y (a - 1).toNat 1
  rw [show (a - 1).toNat + 1 = a.toNat by omega, ← e, hu, pw_one, show y % 2147483647 = y by omega] at er
  rw [hu] at bu
  have H1 := pub_toI a x (by omega) hx
  have H2 := pub_toI b y (by omega) hy
  have H3 := sha_toI a y r (by omega) (by omega) e.symm
  have H4 := sha_toI b x r (by omega) (by omega) hr
  have H5 := sha_toI (a - 1) y u (by omega) (by omega) hu
  have hp := prod_bd (a := u) (b := y) (by omega) (by omega)
  have br := pw_bd x b.toNat
  rw [hr] at br
  have ER := Lib.hid er
  have hq : IntKind.u64.wrap (u * y) = u * y := by rw [IntKind.wrap_u64]; exact Int.emod_eq_of_lt hp.1 (by omega)
  have ht : (u * y).tmod 2147483647 = r := by rw [Int.tmod_eq_emod_of_nonneg hp.1]; exact er
  clear hx hy e hr hu er ha hb
  go_enter Try.func9, Try.ntmps9
  go_wp2_with (first
    | (go_at_call 10; refine (lives_any _).mono ?_; rintro e w' ⟨rfl, rfl⟩)
    | (go_at_call 13; refine (S1.out _).mono ?_; clear S1; rintro e w' ⟨rfl, rfl⟩)
    | (go_at_call 13; refine (S2.out _).mono ?_; clear S2; rintro e w' ⟨rfl, rfl⟩)
    | (go_at_call 15; refine (H1.out _).mono ?_; clear H1; rintro e w' ⟨rfl, rfl⟩)
    | (go_at_call 15; refine (H2.out _).mono ?_; rintro e w' ⟨rfl, rfl⟩)
    | (go_at_call 19; refine (H3.out _).mono ?_; clear H3; rintro e w' ⟨rfl, rfl⟩)
    | (go_at_call 19; refine (H4.out _).mono ?_; clear H4; rintro e w' ⟨rfl, rfl⟩)
    | (go_at_call 19; refine (H5.out _).mono ?_; clear H5; rintro e w' ⟨rfl, rfl⟩))
  go_ret
  exact ⟨rfl, Below.refl _ _⟩
end Go.Proofs.Ytogjgdfijlfiiaa.Grp
