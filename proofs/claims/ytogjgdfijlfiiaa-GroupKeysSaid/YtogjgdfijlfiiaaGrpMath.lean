/- Powers modulo a prime: plain arithmetic for the layer of the key agreement. No program is mentioned. -/
import Derived.WalkKit
set_option linter.unusedVariables false
namespace Go.Proofs.Ytogjgdfijlfiiaa.Grp

/-- The power of a number, reduced. -/
def pw (b : Int) (e : Nat) : Int := b ^ e % 2147483647
theorem pw_bd (b : Int) (e : Nat) : 0 ≤ pw b e ∧ pw b e ≤ 2147483646 := by unfold pw; omega
theorem pw_zero (b : Int) : pw b 0 = 1 := by simp [pw]
theorem pw_one (b : Int) : pw b 1 = b % 2147483647 := by unfold pw; rw [Int.pow_succ, Int.pow_zero, Int.one_mul]
theorem pw_mul (b : Int) (m n : Nat) : pw b m * pw b n % 2147483647 = pw b (m + n) := by
  unfold pw; rw [← Int.mul_emod, Int.pow_add]
theorem mod_pow (b : Int) (e : Nat) : (b % 2147483647) ^ e % 2147483647 = b ^ e % 2147483647 := by
  induction e with
  | zero => simp
  | succ e ih => rw [Int.pow_succ, Int.pow_succ, Int.mul_emod, ih, Int.emod_emod_of_dvd _ (Int.dvd_refl _), ← Int.mul_emod]
theorem pw_mod (b : Int) (e : Nat) : pw (b % 2147483647) e = pw b e := mod_pow b e
theorem pw_pw (b : Int) (m n : Nat) : pw (pw b m) n = pw b (m * n) := by
  unfold pw; rw [mod_pow, ← Int.pow_mul]
theorem pw_comm (b : Int) (m n : Nat) : pw (pw b m) n = pw (pw b n) m := by rw [pw_pw, pw_pw, Nat.mul_comm]
/-- The product of two numbers of 32 bits. -/
theorem prod_bd {a b : Int} (ha : 0 ≤ a ∧ a ≤ 4294967295) (hb : 0 ≤ b ∧ b ≤ 4294967295) : 0 ≤ a * b ∧ a * b ≤ 18446744073709551615 := by
  obtain ⟨m, rfl⟩ := Int.eq_ofNat_of_zero_le ha.1
  obtain ⟨n, rfl⟩ := Int.eq_ofNat_of_zero_le hb.1
  have h := Nat.mul_le_mul (show m ≤ 4294967295 by omega) (show n ≤ 4294967295 by omega)
  have e : (m : Int) * (n : Int) = ((m * n : Nat) : Int) := by simp
  rw [e]
  generalize m * n = q at *
  omega
/-- The square after k rounds: some number of 32 bits that stands for the power 2^k. -/
def Sq (b : Int) (k : Nat) (s : Int) : Prop := (0 ≤ s ∧ s ≤ 4294967295) ∧ s % 2147483647 = pw b (2 ^ k)
theorem sq_zero (b : Int) (h : 0 ≤ b ∧ b ≤ 4294967295) : Sq b 0 b := ⟨h, by rw [show 2 ^ 0 = 1 from rfl, pw_one]⟩
theorem sq_succ {b : Int} {k : Nat} {s : Int} (h : Sq b k s) : Sq b (k + 1) (s * s % 2147483647) := by
  refine ⟨by omega, ?_⟩
  rw [Int.emod_emod_of_dvd _ (Int.dvd_refl _), Int.mul_emod, h.2, pw_mul]
  congr 1; rw [Nat.pow_succ]; omega
theorem pw_step {b : Int} {k : Nat} {s : Int} (h : Sq b k s) (m : Nat) : pw b m * s % 2147483647 = pw b (m + 2 ^ k) := by
  have e : pw b m * s % 2147483647 = pw b m * (s % 2147483647) % 2147483647 := by rw [Int.mul_emod (pw b m) (s % 2147483647), Int.emod_emod_of_dvd _ (Int.dvd_refl _), ← Int.mul_emod]
  rw [e, h.2, pw_mul]
/-- The lowest bits, one more. -/
theorem low_one (e k : Nat) (h : e / 2 ^ k % 2 = 1) : e % 2 ^ (k + 1) = e % 2 ^ k + 2 ^ k := by
  have := Nat.mod_mul (x := e) (a := 2 ^ k) (b := 2)
  rw [← Nat.pow_succ, h, Nat.mul_one] at this; exact this
theorem low_none (e k : Nat) (h : ¬ e / 2 ^ k % 2 = 1) : e % 2 ^ (k + 1) = e % 2 ^ k := by
  have := Nat.mod_mul (x := e) (a := 2 ^ k) (b := 2)
  have h0 : e / 2 ^ k % 2 = 0 := by generalize e / 2 ^ k = q at h; omega
  rw [← Nat.pow_succ, h0, Nat.mul_zero, Nat.add_zero] at this; exact this
/-- The result of the reference from a state on: its loop over the halves. -/
theorem half_one {b x o : Int} {k e m : Nat} (hx : Sq b k x) (ho : o = pw b m) (h : e % 2 = 1) : o * x % 2147483647 = pw b (m + 2 ^ k) := by rw [ho, pw_step hx]
end Go.Proofs.Ytogjgdfijlfiiaa.Grp
