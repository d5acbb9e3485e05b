/- Plain arithmetic for the layer of hopping: bytes reversed, numbers of events, channels visited. No program is mentioned. -/
import Derived.WalkKit
set_option linter.unusedVariables false
namespace Go.Proofs.Ytmfljplibcodpaa.Hop

/-- The lowest bits of a number in reverse order. -/
def revK (b : Nat) : Nat → Nat
  | 0 => 0
  | i + 1 => 2 * revK b i + b / 2 ^ i % 2
def revB (b : Nat) : Nat := revK b 8
def rev16 (n : Nat) : Nat := 256 * revB (n / 256) + revB (n % 256)
/-- The same bit by bit, each turned round within its byte. -/
def revC (n : Nat) : Nat → Nat
  | 0 => 0
  | i + 1 => revC n i ||| n / 2 ^ i % 2 * 2 ^ (i ^^^ 7)
theorem revK_lt (b : Nat) (i : Nat) : revK b i < 2 ^ i := by
  induction i with
  | zero => simp [revK]
  | succ i ih => rw [Nat.pow_succ]; simp only [revK]; omega
theorem revB_lt (b : Nat) : revB b < 256 := revK_lt b 8
theorem xor7_low : ∀ k : Fin 8, k.val ^^^ 7 < 8 ∧ (8 + k.val) ^^^ 7 = 8 + (k.val ^^^ 7) := by decide +kernel
theorem xor7_lt : ∀ k : Fin 16, k.val ^^^ 7 < 16 := by decide +kernel
theorem bit_le (x j : Nat) (hj : j < 16) : x % 2 * 2 ^ j < 2 ^ 16 := by
  have h1 : 2 ^ j ≤ 2 ^ 15 := Nat.pow_le_pow_right (by decide) (by omega)
  have h2 : (2 : Nat) ^ 15 = 32768 := by decide
  have h3 : (2 : Nat) ^ 16 = 65536 := by decide
  rcases Nat.mod_two_eq_zero_or_one x with h | h
  · rw [h]; omega
  · rw [h]; omega
theorem revC_lt (n : Nat) (i : Nat) (hi : i ≤ 16) : revC n i < 65536 := by
  induction i with
  | zero => simp [revC]
  | succ i ih =>
    simp only [revC]
    exact Nat.or_lt_two_pow (n := 16) (ih (by omega)) (bit_le _ _ (xor7_lt ⟨i, by omega⟩))
theorem mul256_or (x y : Nat) : 256 * (x ||| y) = 256 * x ||| 256 * y := by
  have := Nat.shiftLeft_or_distrib (a := x) (b := y) (i := 8)
  simpa [Nat.shiftLeft_eq, Nat.mul_comm] using this
theorem revC_high (n : Nat) (k : Nat) (hk : k ≤ 8) : revC n (8 + k) = revC n 8 ||| 256 * revC (n / 256) k := by
  induction k with
  | zero => simp [revC]
  | succ k ih =>
    have e := (xor7_low ⟨k, by omega⟩).2
    simp only at e
    rw [← Nat.add_assoc]
    show revC n (8 + k) ||| n / 2 ^ (8 + k) % 2 * 2 ^ ((8 + k) ^^^ 7) = _
    rw [ih (by omega), e, Nat.pow_add, Nat.pow_add, Nat.or_assoc]
    show _ = revC n 8 ||| 256 * (revC (n / 256) k ||| n / 256 / 2 ^ k % 2 * 2 ^ (k ^^^ 7))
    rw [mul256_or, Nat.div_div_eq_div_mul, show (2 : Nat) ^ 8 = 256 from by decide, Nat.mul_left_comm]
theorem low_bit (n k : Nat) (hk : k < 8) : n % 256 / 2 ^ k % 2 = n / 2 ^ k % 2 := by
  have h := Nat.testBit_mod_two_pow n 8 k
  rw [show (2 : Nat) ^ 8 = 256 from by decide] at h
  rw [← Nat.toNat_testBit, ← Nat.toNat_testBit, h]
  simp [hk]
theorem revC_low (n : Nat) (k : Nat) (hk : k ≤ 8) : revC (n % 256) k = revC n k := by
  induction k with
  | zero => rfl
  | succ k ih => simp only [revC]; rw [ih (by omega), low_bit n k (by omega)]
theorem revC_byte : ∀ a : Fin 256, revC a.val 8 = revB a.val := by decide +kernel
theorem revC_all (n : Nat) (h : n < 65536) : revC n 16 = rev16 n := by
  have h1 := revC_high n 8 (by omega)
  rw [show (8 : Nat) + 8 = 16 from rfl] at h1
  rw [h1, ← revC_low n 8 (by omega), revC_byte ⟨n % 256, by omega⟩, revC_byte ⟨n / 256, by omega⟩]
  unfold rev16
  have h2 := Nat.two_pow_add_eq_or_of_lt (i := 8) (revB_lt (n % 256)) (revB (n / 256))
  rw [show (2 : Nat) ^ 8 = 256 from by decide] at h2
  rw [h2, Nat.or_comm]
theorem rev16_lt (n : Nat) : rev16 n < 65536 := by
  have := revB_lt (n / 256); have := revB_lt (n % 256); unfold rev16; omega
/-- A round, and the number of an event for an identifier. -/
def rnd (c x : Nat) : Nat := (17 * rev16 x + c) % 65536
def rnds (c x : Nat) : Nat → Nat
  | 0 => x
  | k + 1 => rnd c (rnds c x k)
def randN (e c : Nat) : Nat := rnds c (e ^^^ c) 3 ^^^ c
theorem rnds_lt (c x k : Nat) (hx : x < 65536) : rnds c x k < 65536 := by
  cases k with
  | zero => exact hx
  | succ k => simp only [rnds, rnd]; omega
theorem xor16 {a b : Nat} (ha : a < 65536) (hb : b < 65536) : a ^^^ b < 65536 := Nat.xor_lt_two_pow (n := 16) ha hb
theorem randN_lt {e c : Nat} (he : e < 65536) (hc : c < 65536) : randN e c < 65536 := xor16 (rnds_lt _ _ _ (xor16 he hc)) hc
/-- The identifier of an access address. -/
def idN (a : Nat) : Nat := a / 65536 ^^^ a % 65536
theorem idN_lt {a : Nat} (ha : a < 4294967296) : idN a < 65536 := xor16 (by omega) (by omega)
/-- The unmapped channel after another one. -/
def stepZ (a b : Int) : Int := (a + b) % 37
theorem stepZ_bd (a b : Int) : 0 ≤ stepZ a b ∧ stepZ a b < 37 := by unfold stepZ; omega
theorem step_code (a b : Int) : (a.tmod 37 + b.tmod 37 + 74).tmod 37 = stepZ a b := by
  have h1 : -37 < a.tmod 37 ∧ a.tmod 37 < 37 := ⟨by have := Int.lt_tmod_of_pos a (show (0 : Int) < 37 by decide); omega, Int.tmod_lt_of_pos a (by decide)⟩
  have h2 : -37 < b.tmod 37 ∧ b.tmod 37 < 37 := ⟨by have := Int.lt_tmod_of_pos b (show (0 : Int) < 37 by decide); omega, Int.tmod_lt_of_pos b (by decide)⟩
  have e1 := Int.tmod_add_mul_tdiv a 37
  have e2 := Int.tmod_add_mul_tdiv b 37
  rw [Int.tmod_eq_emod_of_nonneg (by omega)]
  unfold stepZ
  omega
theorem tmod37_bd (a : Int) : -37 < a.tmod 37 ∧ a.tmod 37 < 37 :=
  ⟨by have := Int.lt_tmod_of_pos a (show (0 : Int) < 37 by decide); omega, Int.tmod_lt_of_pos a (by decide)⟩
end Go.Proofs.Ytmfljplibcodpaa.Hop
