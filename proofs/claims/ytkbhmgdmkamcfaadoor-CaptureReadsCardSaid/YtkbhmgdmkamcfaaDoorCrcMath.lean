/- Plain arithmetic for the checksum: the register, one bit and one byte fed, sums as one shift of one number, bursts. No program is mentioned. -/
import Derived.Test.YtkbhmgdmkamcfaaDoorOctMath
set_option linter.unusedVariables false
namespace Go.Proofs.YtkbhmgdmkamcfaaDoor.Crc
open Mem Oct

/-- The polynomial. -/
def poly : Nat := 0xDA6000
/-- A bit 0 is fed. -/
def tick (x : Nat) : Nat := (x / 2) ^^^ (if x % 2 = 1 then poly else 0)
theorem half_xor (x y : Nat) : (x ^^^ y) / 2 = x / 2 ^^^ y / 2 := by
  have := Nat.shiftRight_xor_distrib (a := x) (b := y) (i := 1)
  simpa [Nat.shiftRight_eq_div_pow] using this
theorem odd_xor (x y : Nat) : (x ^^^ y) % 2 = (x % 2 + y % 2) % 2 := by
  have h := Nat.testBit_xor x y 0
  simp only [Nat.testBit_zero] at h
  rcases Nat.mod_two_eq_zero_or_one x with hx | hx <;> rcases Nat.mod_two_eq_zero_or_one y with hy | hy <;> rcases Nat.mod_two_eq_zero_or_one (x ^^^ y) with hz | hz <;> simp_all
theorem xor4 (a b c d : Nat) : (a ^^^ b) ^^^ (c ^^^ d) = (a ^^^ c) ^^^ (b ^^^ d) := by
  rw [Nat.xor_assoc, ← Nat.xor_assoc b, Nat.xor_comm b c, Nat.xor_assoc c, ← Nat.xor_assoc a]
theorem tick_xor (x y : Nat) : tick (x ^^^ y) = tick x ^^^ tick y := by
  unfold tick
  rw [half_xor, odd_xor, xor4]
  congr 1
  rcases Nat.mod_two_eq_zero_or_one x with hx | hx <;> rcases Nat.mod_two_eq_zero_or_one y with hy | hy <;> simp [hx, hy]
theorem tick_zero : tick 0 = 0 := rfl
theorem tick_even (x : Nat) : tick (2 * x) = x := by
  unfold tick
  rw [if_neg (by omega), Nat.xor_zero]; omega
/-- Some bits 0 are fed. -/
def ticks : Nat → Nat → Nat
  | 0, x => x
  | n + 1, x => ticks n (tick x)
theorem ticks_zero (x : Nat) : ticks 0 x = x := rfl
theorem ticks_succ (n x : Nat) : ticks (n + 1) x = ticks n (tick x) := rfl
theorem ticks_add (m n x : Nat) : ticks (m + n) x = ticks m (ticks n x) := by
  induction n generalizing x with
  | zero => rfl
  | succ n ih => rw [← Nat.add_assoc, ticks_succ, ticks_succ, ih]
theorem ticks_last (n x : Nat) : ticks (n + 1) x = tick (ticks n x) := by rw [Nat.add_comm, ticks_add]; rfl
theorem ticks_xor (n x y : Nat) : ticks n (x ^^^ y) = ticks n x ^^^ ticks n y := by
  induction n generalizing x y with
  | zero => rfl
  | succ n ih => rw [ticks_succ, ticks_succ, ticks_succ, tick_xor, ih]
theorem ticks_of_zero (n : Nat) : ticks n 0 = 0 := by
  induction n with
  | zero => rfl
  | succ n ih => rw [ticks_succ, tick_zero, ih]
theorem ticks_shift (n x : Nat) : ticks n (2 ^ n * x) = x := by
  induction n with
  | zero => rw [Nat.pow_zero, Nat.one_mul]; rfl
  | succ n ih => rw [ticks_succ, Nat.pow_succ, show 2 ^ n * 2 * x = 2 * (2 ^ n * x) by rw [Nat.mul_comm (2 ^ n) 2, Nat.mul_assoc], tick_even, ih]
theorem tick_lt (x : Nat) (h : x < 2 ^ 24) : tick x < 2 ^ 24 := by
  unfold tick
  refine Nat.xor_lt_two_pow (by omega) ?_
  split
  · decide
  · decide
theorem ticks_lt (n x : Nat) (h : x < 2 ^ 24) : ticks n x < 2 ^ 24 := by
  induction n generalizing x with
  | zero => exact h
  | succ n ih => exact ih _ (tick_lt x h)
theorem xor_zero_eq {a b : Nat} (h : a ^^^ b = 0) : a = b := by
  have h1 : (a ^^^ b) ^^^ b = 0 ^^^ b := by rw [h]
  rwa [Nat.xor_assoc, Nat.xor_self, Nat.xor_zero, Nat.zero_xor] at h1
theorem tick_ne (x : Nat) (h : x < 2 ^ 24) (hx : x ≠ 0) : tick x ≠ 0 := by
  unfold tick
  intro e
  have e : x / 2 = (if x % 2 = 1 then poly else 0) := xor_zero_eq e
  split at e
  · unfold poly at e; omega
  · omega
theorem ticks_ne (n x : Nat) (h : x < 2 ^ 24) (hx : x ≠ 0) : ticks n x ≠ 0 := by
  induction n generalizing x with
  | zero => exact hx
  | succ n ih => exact ih _ (tick_lt x h) (tick_ne x h hx)
/-- A bit is fed. -/
theorem bit_fed (r b : Nat) (hb : b ≤ 1) : tick (r ^^^ b) = (r / 2) ^^^ (if r % 2 ^^^ b = 1 then poly else 0) := by
  unfold tick
  rw [half_xor, show b / 2 = 0 by omega, Nat.xor_zero, odd_xor]
  congr 1
  have h1 : b = 0 ∨ b = 1 := by omega
  rcases Nat.mod_two_eq_zero_or_one r with hr | hr <;> rcases h1 with rfl | rfl <;> simp [hr]
/-- A byte is fed. -/
def fed (r c : Nat) : Nat := ticks 8 (r ^^^ c)
/-- The bytes as one number, the first lowest. -/
def num : List Int → Nat
  | [] => 0
  | c :: r => c.toNat ^^^ 256 * num r
theorem mul256_xor (x y : Nat) : 256 * (x ^^^ y) = 256 * x ^^^ 256 * y := by
  have := Nat.shiftLeft_xor_distrib (a := x) (b := y) (i := 8)
  simpa [Nat.shiftLeft_eq, Nat.mul_comm] using this
theorem pow_xor (n x y : Nat) : 2 ^ n * (x ^^^ y) = 2 ^ n * x ^^^ 2 ^ n * y := by
  have := Nat.shiftLeft_xor_distrib (a := x) (b := y) (i := n)
  simpa [Nat.shiftLeft_eq, Nat.mul_comm] using this
theorem num_append (a b : List Int) : num (a ++ b) = num a ^^^ 2 ^ (8 * a.length) * num b := by
  induction a with
  | nil => simp [num]
  | cons c r ih =>
    rw [List.cons_append, num, ih, num, List.length_cons, mul256_xor, Nat.xor_assoc, show 8 * (r.length + 1) = 8 + 8 * r.length by omega, Nat.pow_add, Nat.mul_assoc]
/-- The sum. -/
def sumN : Nat → List Int → Nat
  | r, [] => r
  | r, c :: l => sumN (fed r c.toNat) l
theorem sumN_append (r : Nat) (a b : List Int) : sumN r (a ++ b) = sumN (sumN r a) b := by
  induction a generalizing r with
  | nil => rfl
  | cons c l ih => exact ih _
theorem sumN_eq (r : Nat) (l : List Int) : sumN r l = ticks (8 * l.length) (r ^^^ num l) := by
  induction l generalizing r with
  | nil => simp [sumN, num, ticks]
  | cons c l ih =>
    rw [sumN, ih, num, List.length_cons, show 8 * (l.length + 1) = 8 * l.length + 8 by omega, ticks_add]
    congr 1
    unfold fed
    rw [← Nat.xor_assoc, ticks_xor 8 (r ^^^ c.toNat), show 256 * num l = 2 ^ 8 * num l from rfl, ticks_shift]
theorem fed_lt (r c : Nat) (hr : r < 2 ^ 24) (hc : c < 256) : fed r c < 2 ^ 24 := ticks_lt _ _ (Nat.xor_lt_two_pow hr (by omega))
theorem sumN_lt (r : Nat) (l : List Int) (hr : r < 2 ^ 24) (hl : Bytes l) : sumN r l < 2 ^ 24 := by
  induction l generalizing r with
  | nil => exact hr
  | cons c l ih =>
    have hc := hl c (by simp)
    exact ih _ (fed_lt _ _ hr (by omega)) (fun z hz => hl z (by simp [hz]))
/-- The three bytes of a register. -/
def tailL (s : Nat) : List Int := [((s % 256 : Nat) : Int), ((s / 256 % 256 : Nat) : Int), ((s / 65536 : Nat) : Int)]
theorem add_xor (a b n : Nat) (h : a < 2 ^ n) : a + 2 ^ n * b = a ^^^ 2 ^ n * b := by
  rw [Nat.add_comm, Nat.two_pow_add_eq_or_of_lt h]
  apply Nat.eq_of_testBit_eq
  intro i
  rw [Nat.testBit_or, Nat.testBit_xor, Bool.or_comm]
  by_cases hi : i < n
  · simp [Nat.testBit_two_pow_mul, show ¬ n ≤ i by omega]
  · have : a.testBit i = false := Nat.testBit_lt_two_pow (Nat.lt_of_lt_of_le h (Nat.pow_le_pow_right (by decide) (by omega)))
    simp [this]
theorem num_tail (s : Nat) (h : s < 2 ^ 24) : num (tailL s) = s := by
  unfold tailL
  simp only [num, Int.toNat_natCast, Nat.mul_zero, Nat.xor_zero]
  have e1 : s / 256 % 256 ^^^ 256 * (s / 65536) = s / 256 := by
    rw [show (256 : Nat) * (s / 65536) = 2 ^ 8 * (s / 65536) from rfl, ← add_xor _ _ _ (by omega)]; omega
  rw [e1, show (256 : Nat) * (s / 256) = 2 ^ 8 * (s / 256) from rfl, ← add_xor _ _ _ (by omega)]; omega
theorem tail_len (s : Nat) : (tailL s).length = 3 := rfl
theorem tail_bytes (s : Nat) (h : s < 2 ^ 24) : Bytes (tailL s) := by
  intro z hz
  simp only [tailL, List.mem_cons, List.not_mem_nil, or_false] at hz
  rcases hz with rfl | rfl | rfl <;> omega
/-- The sum of bytes with their checksum is 0. -/
theorem sum_tail (s : Nat) (h : s < 2 ^ 24) : sumN s (tailL s) = 0 := by
  rw [sumN_eq, num_tail s h, Nat.xor_self, ticks_of_zero]
/-- Half a byte is fed. -/
def halves : List Int := [0, 1788928, 3577856, 3003392, 7155712, 7764992, 6006784, 4252672, 14311424, 12659712, 15529984, 16233472, 12013568, 11279360, 8505344, 10126336]
theorem halves_at (k : Nat) (h : k < 16) : (halves.getD k 0).toNat = ticks 4 k ∧ 0 ≤ halves.getD k 0 ∧ halves.getD k 0 < 16777216 := by
  have : (List.range 16).all (fun k => decide ((halves.getD k 0).toNat = ticks 4 k ∧ 0 ≤ halves.getD k 0 ∧ halves.getD k 0 < 16777216)) = true := by decide +kernel
  exact of_decide_eq_true (List.all_eq_true.1 this k (List.mem_range.2 h))
/-- What one half does: only the lowest four bits of c matter. -/
theorem ticks4 (x : Nat) : ticks 4 x = x / 16 ^^^ ticks 4 (x % 16) := by
  have e : x = x % 16 ^^^ 2 ^ 4 * (x / 16) := by
    rw [← add_xor _ _ 4 (by omega)]; omega
  conv => lhs; rw [e]
  rw [ticks_xor, ticks_shift, Nat.xor_comm]
theorem half_fed (r c : Nat) : ticks 4 (r ^^^ c % 16) = r / 16 ^^^ ticks 4 ((r ^^^ c) % 16) := by
  rw [ticks4]
  have h1 : (r ^^^ c % 16) / 16 = r / 16 := by
    have := Nat.shiftRight_xor_distrib (a := r) (b := c % 16) (i := 4)
    simp only [Nat.shiftRight_eq_div_pow] at this
    rw [show (2 : Nat) ^ 4 = 16 from rfl] at this
    rw [this, show c % 16 / 16 = 0 by omega, Nat.xor_zero]
  have h2 : (r ^^^ c % 16) % 16 = (r ^^^ c) % 16 := by
    have a := Nat.xor_mod_two_pow (a := r) (b := c % 16) (n := 4)
    have b := Nat.xor_mod_two_pow (a := r) (b := c) (n := 4)
    rw [show (2 : Nat) ^ 4 = 16 from rfl] at a b
    rw [a, b, Nat.mod_mod]
  rw [h1, h2]
/-- A byte in two halves. -/
theorem fed_halves (r c : Nat) : ticks 4 (ticks 4 (r ^^^ c % 16) ^^^ c / 16) = fed r c := by
  unfold fed
  rw [show (8 : Nat) = 4 + 4 from rfl, ticks_add]
  have e : c = c % 16 ^^^ 2 ^ 4 * (c / 16) := by
    rw [← add_xor _ _ 4 (by omega)]; omega
  conv => rhs; rw [e, ← Nat.xor_assoc, ticks_xor 4 (r ^^^ c % 16), ticks_shift]
/-- Bits fed one by one. -/
def bitsN : Nat → Nat → Nat → Nat
  | 0, r, _ => r
  | k + 1, r, c => bitsN k (tick (r ^^^ c % 2)) (c / 2)
theorem bitsN_eq (k r c : Nat) : bitsN k r c = ticks k (r ^^^ c % 2 ^ k) := by
  induction k generalizing r c with
  | zero => simp [bitsN, ticks, Nat.mod_one]
  | succ k ih =>
    have e : c % 2 ^ (k + 1) = c % 2 ^^^ 2 ^ 1 * (c / 2 % 2 ^ k) := by
      rw [← add_xor _ _ 1 (by omega), Nat.pow_succ, Nat.mul_comm (2 ^ k) 2, Nat.mod_mul]
    rw [bitsN, ih, ticks_succ, e, ← Nat.xor_assoc, tick_xor (r ^^^ c % 2), show 2 ^ 1 * (c / 2 % 2 ^ k) = 2 * (c / 2 % 2 ^ k) from rfl, tick_even]
theorem bits8 (r c : Nat) (h : c < 256) : bitsN 8 r c = fed r c := by
  rw [bitsN_eq, Nat.mod_eq_of_lt h]; rfl
/-- Bits fed, the last apart. -/
theorem bitsN_last (k r c : Nat) : bitsN (k + 1) r c = tick (bitsN k r c ^^^ c / 2 ^ k % 2) := by
  induction k generalizing r c with
  | zero => simp [bitsN]
  | succ k ih => rw [bitsN, ih, bitsN, Nat.div_div_eq_div_mul, show 2 * 2 ^ k = 2 ^ (k + 1) by rw [Nat.pow_succ, Nat.mul_comm]]
theorem bitsN_lt (k r c : Nat) (h : r < 2 ^ 24) : bitsN k r c < 2 ^ 24 := by
  rw [bitsN_eq]
  induction k generalizing r c with
  | zero => simp only [ticks, Nat.pow_zero, Nat.mod_one, Nat.xor_zero]; exact h
  | succ k ih =>
    rw [← bitsN_eq, bitsN, bitsN_eq]
    exact ih _ _ (tick_lt _ (Nat.xor_lt_two_pow h (by omega)))
theorem sumN_snoc (q : Nat) (zs : List Int) (k : Nat) (h : k < zs.length) : sumN q (zs.take (k + 1)) = fed (sumN q (zs.take k)) (zs.getD k 0).toNat := by
  rw [take_snoc zs 0 k h, sumN_append]; rfl
theorem fed_zero (r : Nat) : fed r 0 = ticks 8 r := by unfold fed; rw [Nat.xor_zero]
theorem ticks8 (k q : Nat) : ticks 8 (ticks (8 * k) q) = ticks (8 * (k + 1)) q := by rw [← ticks_add]; congr 1; omega
/-- The register that is begun with. -/
def ini (r : Int) : Nat := r.toNat % 16777216
theorem ini_lt (r : Int) : ini r < 16777216 := by unfold ini; omega
theorem ini_lt2 (r : Int) : ini r < 2 ^ 24 := ini_lt r
theorem ini_and (r : Int) (h : 0 ≤ r ∧ r ≤ 4294967295) : bits BinOp.and IntKind.u32 r 16777215 = (ini r : Nat) := by
  unfold ini
  rw [u32_and r 16777215 h.1 (by omega) (by decide) (by decide)]
  rw [show (16777215 : Int).toNat = 2 ^ 24 - 1 from rfl, Nat.and_two_pow_sub_one_eq_mod]
theorem ini_mod (r : Int) (h : 0 ≤ r ∧ r ≤ 4294967295) : r % 16777216 = (ini r : Nat) := by unfold ini; omega
/-- How many bytes 0 are fed. -/
def lim (n : Int) : Nat := (max 0 (min n 65536)).toNat
end Go.Proofs.YtkbhmgdmkamcfaaDoor.Crc
