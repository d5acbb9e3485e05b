/- Plain arithmetic for the block function: rotations, the round, the halves, eight rounds forth and back. No program is mentioned. -/
import Derived.Test.YtegmknmbgifmjaaDoorOctMath
set_option linter.unusedVariables false
namespace Go.Proofs.YtegmknmbgifmjaaDoor.Blk
open Mem Oct

/-- A number of some bits rotated left. -/
def rotZ (b : Nat) (x : Int) (s : Nat) : Int := ((x.toNat * 2 ^ s % 2 ^ b ||| x.toNat / 2 ^ (b - s) : Nat) : Int)
theorem rotZ_bd (b : Nat) (x : Int) (s : Nat) (hx : x.toNat < 2 ^ b) : 0 ≤ rotZ b x s ∧ (rotZ b x s).toNat < 2 ^ b := by
  have h1 : x.toNat * 2 ^ s % 2 ^ b < 2 ^ b := Nat.mod_lt _ (Nat.two_pow_pos b)
  have h2 : x.toNat / 2 ^ (b - s) < 2 ^ b := Nat.lt_of_le_of_lt (Nat.div_le_self _ _) hx
  have h3 : x.toNat * 2 ^ s % 2 ^ b ||| x.toNat / 2 ^ (b - s) < 2 ^ b := Nat.or_lt_two_pow h1 h2
  unfold rotZ
  exact ⟨Int.natCast_nonneg _, by rw [Int.toNat_natCast]; exact h3⟩
theorem rot64_bd (x : Int) (s : Nat) (hx : 0 ≤ x ∧ x ≤ 18446744073709551615) : 0 ≤ rotZ 64 x s ∧ rotZ 64 x s ≤ 18446744073709551615 := by
  have := rotZ_bd 64 x s (by omega)
  omega
theorem rot32_bd (x : Int) (s : Nat) (hx : 0 ≤ x ∧ x ≤ 4294967295) : 0 ≤ rotZ 32 x s ∧ rotZ 32 x s ≤ 4294967295 := by
  have := rotZ_bd 32 x s (by omega)
  omega
theorem rot64_zero (x : Int) (hx : 0 ≤ x ∧ x ≤ 18446744073709551615) : rotZ 64 x 0 = x := by
  unfold rotZ
  have h1 : x.toNat * 2 ^ 0 % 2 ^ 64 = x.toNat := by rw [Nat.pow_zero, Nat.mul_one]; exact Nat.mod_eq_of_lt (by omega)
  have h2 : x.toNat / 2 ^ (64 - 0) = 0 := Nat.div_eq_of_lt (by omega)
  rw [h1, h2, Nat.or_zero]; omega
theorem rot7_sum (x : Int) (hx : 0 ≤ x ∧ x ≤ 4294967295) : rotZ 32 x 7 = x * 128 % 4294967296 + x / 33554432 := by
  unfold rotZ
  have h := nat_join 7 (x.toNat * 2 ^ 7 % 2 ^ 32) (x.toNat / 2 ^ (32 - 7)) (by omega) (by omega)
  rw [h]; omega
theorem rot7_inj (x y : Int) (hx : 0 ≤ x ∧ x ≤ 4294967295) (hy : 0 ≤ y ∧ y ≤ 4294967295) (h : rotZ 32 x 7 = rotZ 32 y 7) : x = y := by
  rw [rot7_sum x hx, rot7_sum y hy] at h
  have q1 : x * 128 % 4294967296 = 128 * (x % 33554432) := by omega
  have q2 : y * 128 % 4294967296 = 128 * (y % 33554432) := by omega
  rw [q1, q2] at h
  clear q1 q2
  omega
theorem mul_back (x : Int) (hx : 0 ≤ x ∧ x ≤ 4294967295) : x * 2654435761 % 4294967296 * 244002641 % 4294967296 = x := by
  rw [Int.mul_emod, Int.emod_emod_of_dvd _ (Int.dvd_refl _), ← Int.mul_emod, Int.mul_assoc, show (2654435761 : Int) * 244002641 = 1 + 4294967296 * 150801925 by decide, Int.mul_add, Int.mul_one, Int.mul_left_comm, Int.add_mul_emod_self_left]
  exact Int.emod_eq_of_lt hx.1 (by omega)
theorem mul_inj (x y : Int) (hx : 0 ≤ x ∧ x ≤ 4294967295) (hy : 0 ≤ y ∧ y ≤ 4294967295) (h : x * 2654435761 % 4294967296 = y * 2654435761 % 4294967296) : x = y := by
  rw [← mul_back x hx, ← mul_back y hy, h]
theorem bx_inj (x y c : Int) (hx : 0 ≤ x) (hy : 0 ≤ y) (h : bx x c = bx y c) : x = y := by
  rw [← bx_bx x c hx, ← bx_bx y c hy, h]
theorem bx_swap (x y : Int) : bx x y = bx y x := by unfold bx; rw [Nat.xor_comm]
theorem bx32 (x y : Int) (hx : 0 ≤ x ∧ x ≤ 4294967295) (hy : 0 ≤ y ∧ y ≤ 4294967295) : 0 ≤ bx x y ∧ bx x y ≤ 4294967295 := by
  have : x.toNat ^^^ y.toNat < 2 ^ 32 := Nat.xor_lt_two_pow (by omega) (by omega)
  unfold bx; omega
theorem bx64 (x y : Int) (hx : 0 ≤ x ∧ x ≤ 18446744073709551615) (hy : 0 ≤ y ∧ y ≤ 18446744073709551615) : 0 ≤ bx x y ∧ bx x y ≤ 18446744073709551615 := by
  have : x.toNat ^^^ y.toNat < 2 ^ 64 := Nat.xor_lt_two_pow (by omega) (by omega)
  unfold bx; omega
theorem bx32_code (x y : Int) (hx : 0 ≤ x ∧ x ≤ 4294967295) (hy : 0 ≤ y ∧ y ≤ 4294967295) : bits BinOp.xor IntKind.u32 x y = bx x y := u32_xor x y hx.1 (by omega) hy.1 (by omega)
theorem bx64_code (x y : Int) (hx : 0 ≤ x ∧ x ≤ 18446744073709551615) (hy : 0 ≤ y ∧ y ≤ 18446744073709551615) : bits BinOp.xor IntKind.u64 x y = bx x y := u64_xor x y hx.1 (by omega) hy.1 (by omega)

/-- By how much the key is rotated in a round. -/
def trn (i : Int) : Nat := (11 * i % 64).toNat
theorem trn_bd (i : Int) : trn i < 64 := by unfold trn; omega
theorem trn_mod {i j : Int} (h : i % 64 = j % 64) : trn i = trn j := by unfold trn; omega
/-- The low half of the rotated key. -/
def lowK (k i : Int) : Int := rotZ 64 k (trn i) % 4294967296
theorem lowK_bd (k i : Int) : 0 ≤ lowK k i ∧ lowK k i ≤ 4294967295 := by unfold lowK; omega
/-- What is rotated by seven. -/
def sumK (k i h : Int) : Int := (h + lowK k i) % 4294967296
theorem sumK_bd (k i h : Int) : 0 ≤ sumK k i h ∧ sumK k i h ≤ 4294967295 := by unfold sumK; omega
/-- The round. -/
def rnd (k i h : Int) : Int := bx (rotZ 32 (sumK k i h) 7 * 2654435761 % 4294967296) (rotZ 32 (lowK k i) 16)
theorem rnd_bd (k i h : Int) : 0 ≤ rnd k i h ∧ rnd k i h ≤ 4294967295 := by
  have h1 := rot32_bd (lowK k i) 16 (lowK_bd k i)
  exact bx32 _ _ (by omega) h1
theorem rnd_mod (k : Int) {i j : Int} (h : Int) (e : i % 64 = j % 64) : rnd k i h = rnd k j h := by
  unfold rnd sumK lowK; rw [trn_mod e]
theorem rnd_inj (k i : Int) {a b : Int} (ha : 0 ≤ a ∧ a ≤ 4294967295) (hb : 0 ≤ b ∧ b ≤ 4294967295) (h : rnd k i a = rnd k i b) : a = b := by
  have h1 := bx_inj _ _ _ (by omega) (by omega) h
  have r1 := rot32_bd (sumK k i a) 7 (sumK_bd k i a)
  have r2 := rot32_bd (sumK k i b) 7 (sumK_bd k i b)
  have h2 := mul_inj _ _ r1 r2 h1
  have h3 := rot7_inj _ _ (sumK_bd k i a) (sumK_bd k i b) h2
  unfold sumK at h3
  generalize lowK k i = lo at h3
  omega

/-- The halves. -/
def hiH (x : Int) : Int := x / 4294967296
def loH (x : Int) : Int := x % 4294967296
theorem hiH_bd (x : Int) (hx : 0 ≤ x ∧ x ≤ 18446744073709551615) : 0 ≤ hiH x ∧ hiH x ≤ 4294967295 := by unfold hiH; omega
theorem loH_bd (x : Int) : 0 ≤ loH x ∧ loH x ≤ 4294967295 := by unfold loH; omega
/-- The number of two halves. -/
def whl (p : Int × Int) : Int := p.1 * 4294967296 + p.2
def hlv (x : Int) : Int × Int := (hiH x, loH x)
/-- Two halves of 32 bits. -/
def Half (p : Int × Int) : Prop := (0 ≤ p.1 ∧ p.1 ≤ 4294967295) ∧ 0 ≤ p.2 ∧ p.2 ≤ 4294967295
theorem half_hlv (x : Int) (hx : 0 ≤ x ∧ x ≤ 18446744073709551615) : Half (hlv x) := ⟨hiH_bd x hx, loH_bd x⟩
theorem whl_bd {p : Int × Int} (h : Half p) : 0 ≤ whl p ∧ whl p ≤ 18446744073709551615 := by
  obtain ⟨h1, h2⟩ := h
  unfold whl; omega
theorem whl_hlv (x : Int) : whl (hlv x) = x := by unfold whl hlv hiH loH; show x / 4294967296 * 4294967296 + x % 4294967296 = x; omega
theorem hlv_whl {p : Int × Int} (h : Half p) : hlv (whl p) = p := by
  obtain ⟨a, b⟩ := p
  obtain ⟨h1, h2⟩ := h
  simp only at h1 h2
  unfold whl hlv hiH loH
  show ((a * 4294967296 + b) / 4294967296, (a * 4294967296 + b) % 4294967296) = (a, b)
  rw [show (a * 4294967296 + b) / 4294967296 = a by omega, show (a * 4294967296 + b) % 4294967296 = b by omega]
/-- A round forth, and back. -/
def fw (k i : Int) (p : Int × Int) : Int × Int := (p.2, bx p.1 (rnd k i p.2))
def bw (k i : Int) (p : Int × Int) : Int × Int := (bx p.2 (rnd k i p.1), p.1)
theorem fw_half (k i : Int) {p : Int × Int} (h : Half p) : Half (fw k i p) := ⟨h.2, bx32 _ _ h.1 (rnd_bd _ _ _)⟩
theorem bw_half (k i : Int) {p : Int × Int} (h : Half p) : Half (bw k i p) := ⟨bx32 _ _ h.2 (rnd_bd _ _ _), h.1⟩
theorem bw_fw (k i : Int) {p : Int × Int} (h : Half p) : bw k i (fw k i p) = p := by
  obtain ⟨a, b⟩ := p
  show (bx (bx a (rnd k i b)) (rnd k i b), b) = (a, b)
  rw [bx_bx a _ h.1.1]
theorem fw_bw (k i : Int) {p : Int × Int} (h : Half p) : fw k i (bw k i p) = p := by
  obtain ⟨a, b⟩ := p
  show (a, bx (bx b (rnd k i a)) (rnd k i a)) = (a, b)
  rw [bx_bx b _ h.2.1]
/-- Some rounds forth, from round 0 on; some rounds back, from round 7 on. -/
def fws (k : Int) : Nat → Int × Int → Int × Int
  | 0, p => p
  | n + 1, p => fw k n (fws k n p)
def bws (k : Int) : Nat → Int × Int → Int × Int
  | 0, p => p
  | n + 1, p => bw k (7 - n) (bws k n p)
theorem fws_zero (k : Int) (p : Int × Int) : fws k 0 p = p := rfl
theorem fws_succ (k : Int) (n : Nat) (p : Int × Int) : fws k (n + 1) p = fw k n (fws k n p) := rfl
theorem bws_zero (k : Int) (p : Int × Int) : bws k 0 p = p := rfl
theorem bws_succ (k : Int) (n : Nat) (p : Int × Int) : bws k (n + 1) p = bw k (7 - n) (bws k n p) := rfl
theorem fws_half (k : Int) (n : Nat) {p : Int × Int} (h : Half p) : Half (fws k n p) := by
  induction n with
  | zero => exact h
  | succ n ih => exact fw_half _ _ ih
theorem bws_half (k : Int) (n : Nat) {p : Int × Int} (h : Half p) : Half (bws k n p) := by
  induction n with
  | zero => exact h
  | succ n ih => exact bw_half _ _ ih
theorem bws_fws_step (k : Int) (n : Nat) {p : Int × Int} (h : Half p) : ∀ m, m + n = 8 → bws k n (fws k 8 p) = fws k m p := by
  induction n with
  | zero => intro m hm; obtain rfl : m = 8 := by omega
            rfl
  | succ n ih =>
    intro m hm
    rw [bws_succ, ih (m + 1) (by omega), fws_succ, show (7 - (n : Int)) = (m : Int) by omega, bw_fw _ _ (fws_half k m h)]
theorem fws_bws_step (k : Int) (m : Nat) {p : Int × Int} (h : Half p) : ∀ n, m + n = 8 → fws k m (bws k 8 p) = bws k n p := by
  induction m with
  | zero => intro n hn; obtain rfl : n = 8 := by omega
            rfl
  | succ m ih =>
    intro n hn
    rw [fws_succ, ih (n + 1) (by omega), bws_succ, show (7 - (n : Int)) = (m : Int) by omega, fw_bw _ _ (bws_half k n h)]
/-- The image, and the number whose image it is. -/
def mixZ (k x : Int) : Int := whl (fws k 8 (hlv x))
def unmixZ (k x : Int) : Int := whl (bws k 8 (hlv x))
theorem mixZ_bd (k x : Int) (hx : 0 ≤ x ∧ x ≤ 18446744073709551615) : 0 ≤ mixZ k x ∧ mixZ k x ≤ 18446744073709551615 := whl_bd (fws_half k 8 (half_hlv x hx))
theorem unmixZ_bd (k x : Int) (hx : 0 ≤ x ∧ x ≤ 18446744073709551615) : 0 ≤ unmixZ k x ∧ unmixZ k x ≤ 18446744073709551615 := whl_bd (bws_half k 8 (half_hlv x hx))
theorem unmix_mix (k x : Int) (hx : 0 ≤ x ∧ x ≤ 18446744073709551615) : unmixZ k (mixZ k x) = x := by
  unfold unmixZ mixZ
  rw [hlv_whl (fws_half k 8 (half_hlv x hx)), bws_fws_step k 8 (half_hlv x hx) 0 rfl, fws_zero, whl_hlv]
theorem mix_unmix (k x : Int) (hx : 0 ≤ x ∧ x ≤ 18446744073709551615) : mixZ k (unmixZ k x) = x := by
  unfold unmixZ mixZ
  rw [hlv_whl (bws_half k 8 (half_hlv x hx)), fws_bws_step k 8 (half_hlv x hx) 0 rfl, bws_zero, whl_hlv]
theorem mix_inj (k : Int) {x y : Int} (hx : 0 ≤ x ∧ x ≤ 18446744073709551615) (hy : 0 ≤ y ∧ y ≤ 18446744073709551615) (h : mixZ k x = mixZ k y) : x = y := by
  rw [← unmix_mix k x hx, ← unmix_mix k y hy, h]
theorem unmix_inj (k : Int) {x y : Int} (hx : 0 ≤ x ∧ x ≤ 18446744073709551615) (hy : 0 ≤ y ∧ y ≤ 18446744073709551615) (h : unmixZ k x = unmixZ k y) : x = y := by
  rw [← mix_unmix k x hx, ← mix_unmix k y hy, h]
end Go.Proofs.YtegmknmbgifmjaaDoor.Blk
