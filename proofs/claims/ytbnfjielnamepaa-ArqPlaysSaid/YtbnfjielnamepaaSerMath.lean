/- Plain arithmetic for the layer of wrapping counters: powers of two, lowest bits, distances, sums, and the nearest number with given lowest bits. No program is mentioned. -/
import Derived.WalkKit
set_option linter.unusedVariables false
namespace Go.Proofs.Ytbnfjielnamepaa.Ser

/-- A power of two, kept behind a name. -/
def p2 (k : Nat) : Int := 2 ^ k
theorem p2_pos (k : Nat) : 1 ≤ p2 k := by
  have : (0 : Int) < 2 ^ k := Int.pow_pos (by decide)
  unfold p2; omega
theorem p2_mono (a b : Nat) (h : a ≤ b) : p2 a ≤ p2 b := by
  obtain ⟨d, rfl⟩ := Nat.exists_eq_add_of_le h
  have h1 := p2_pos a
  have h2 := p2_pos d
  unfold p2 at *
  rw [Int.pow_add]
  have : (2 : Int) ^ a * 1 ≤ 2 ^ a * 2 ^ d := Int.mul_le_mul_of_nonneg_left h2 (by omega)
  omega
theorem p2_63 : p2 63 = 9223372036854775808 := by decide
theorem p2_le63 (k : Nat) (h : k ≤ 63) : p2 k ≤ 9223372036854775808 := by
  have := p2_mono k 63 h; rw [p2_63] at this; exact this
theorem p2_dvd (k : Nat) (h : k ≤ 64) : ∃ c : Int, p2 k * c = 18446744073709551616 := by
  refine ⟨2 ^ (64 - k), ?_⟩
  unfold p2
  rw [← Int.pow_add, show k + (64 - k) = 64 by omega]; decide

/-- How many bits are kept. -/
def keep (b : Int) : Nat := (max 0 (min b 64)).toNat
/-- The distance of two numbers. -/
def dst (x last : Int) : Int := max x last - min x last
theorem ret_bool {a b : Bool} (h : a = b) : Ending.returned (.bool a) = .returned (.bool b) := by rw [h]

def kp (b : Int) : Nat := (max 1 (min b 63)).toNat
theorem kp_bd (b : Int) : 1 ≤ kp b ∧ kp b ≤ 63 := by unfold kp; omega
/-- What is known of the parts: all linear. -/
structure Parts (last low q r l p : Int) : Prop where
  p2 : 2 ≤ p
  pm : p ≤ 9223372036854775808
  r0 : 0 ≤ r
  rp : r < p
  l0 : 0 ≤ l
  lp : l < p
  q0 : 0 ≤ q
  qp : q = 0 ∨ p ≤ q
  qm : q + p = 18446744073709551616 ∨ q + p + p ≤ 18446744073709551616
  e : last = q + r
theorem parts (last low b : Int) (h0 : 0 ≤ last) (h1 : last ≤ 18446744073709551615) :
    Parts last low (last - last % p2 (kp b)) (last % p2 (kp b)) (low % p2 (kp b)) (p2 (kp b)) := by
  have hk := kp_bd b
  have hp1 : 2 ≤ p2 (kp b) := by have := p2_mono 1 (kp b) hk.1; rw [show p2 1 = 2 by decide] at this; exact this
  have hp2 := p2_le63 (kp b) hk.2
  obtain ⟨c, hc⟩ := p2_dvd (kp b) (by omega)
  generalize p2 (kp b) = p at *
  have hr0 := Int.emod_nonneg last (show p ≠ 0 by omega)
  have hr1 := Int.emod_lt_of_pos last (show 0 < p by omega)
  have hl0 := Int.emod_nonneg low (show p ≠ 0 by omega)
  have hl1 := Int.emod_lt_of_pos low (show 0 < p by omega)
  have hq : last - last % p = p * (last / p) := by have := Int.mul_ediv_add_emod last p; omega
  have hd0 : 0 ≤ last / p := Int.ediv_nonneg h0 (by omega)
  have hdc : last / p < c := by
    refine Int.lt_of_mul_lt_mul_left (a := p) ?_ (by omega)
    omega
  rw [hq]
  generalize hm : last / p = m at *
  have hmp : 0 ≤ p * m := Int.mul_nonneg (by omega) hd0
  refine ⟨hp1, hp2, hr0, hr1, hl0, hl1, hmp, ?_, ?_, by omega⟩
  · by_cases h : m = 0
    · left; rw [h]; simp
    · right
      have : p * 1 ≤ p * m := Int.mul_le_mul_of_nonneg_left (by omega) (by omega)
      omega
  · by_cases h : m + 1 = c
    · left
      have : p * (m + 1) = p * c := by rw [h]
      rw [Int.mul_add] at this; omega
    · right
      have : p * (m + 1 + 1) ≤ p * c := Int.mul_le_mul_of_nonneg_left (by omega) (by omega)
      rw [Int.mul_add, Int.mul_add] at this; omega
end Go.Proofs.Ytbnfjielnamepaa.Ser
