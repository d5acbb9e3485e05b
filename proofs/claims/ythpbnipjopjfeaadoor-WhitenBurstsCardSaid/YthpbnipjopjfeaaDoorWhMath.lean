/- Plain arithmetic for the whitening sequence: registers of seven bits, their steps, the bytes of the sequence, the period. No program is mentioned. -/
import Derived.Test.YthpbnipjopjfeaaDoorOctMath
set_option linter.unusedVariables false
namespace Go.Proofs.YthpbnipjopjfeaaDoor.Wh
open Mem Oct

/-- A step of the register. -/
def stp (r : Int) : Int := ((r.toNat * 2 % 128 ^^^ (if 64 ≤ r.toNat then 17 else 0) : Nat) : Int)
/-- What holds at the 128 registers holds. -/
theorem all128 {p : Int → Bool} (h : (List.range 128).all (fun k => p (k : Int)) = true) (r : Int) (hr : 0 ≤ r ∧ r ≤ 127) : p r = true := by
  have h1 := List.all_eq_true.1 h r.toNat (List.mem_range.2 (by omega))
  rwa [show ((r.toNat : Nat) : Int) = r by omega] at h1
theorem stp_bd (r : Int) (hr : 0 ≤ r ∧ r ≤ 127) : 0 ≤ stp r ∧ stp r ≤ 127 := by
  have := all128 (p := fun r => decide (0 ≤ stp r ∧ stp r ≤ 127)) (by decide +kernel) r hr
  exact of_decide_eq_true this
theorem stp_pos (r : Int) (hr : 1 ≤ r ∧ r ≤ 127) : 1 ≤ stp r ∧ stp r ≤ 127 := by
  have := all128 (p := fun r => decide (1 ≤ r → 1 ≤ stp r ∧ stp r ≤ 127)) (by decide +kernel) r (by omega)
  exact of_decide_eq_true this hr.1
theorem stp_low (r : Int) (h0 : 0 ≤ r) (h : r < 64) : stp r = r * 2 := by
  have := all128 (p := fun r => decide (r < 64 → stp r = r * 2)) (by decide +kernel) r (by omega)
  exact of_decide_eq_true this h
theorem bit_low (r : Int) (h0 : 0 ≤ r) (h : r < 64) : r / 64 = 0 := by omega
theorem bit_high (r : Int) (h0 : 64 ≤ r) (h : r ≤ 127) : r / 64 = 1 := by omega
theorem step_hi (r : Int) (h0 : 64 ≤ r) (h : r ≤ 127) : bits BinOp.xor IntKind.i64 (bits BinOp.and IntKind.i64 (r * 2) 127) 17 = stp r := by
  have := all128 (p := fun r => decide (64 ≤ r → bits BinOp.xor IntKind.i64 (bits BinOp.and IntKind.i64 (r * 2) 127) 17 = stp r)) (by decide +kernel) r (by omega)
  exact of_decide_eq_true this h0
theorem step_lo (r : Int) (h0 : 0 ≤ r) (h : r < 64) : bits BinOp.and IntKind.i64 (r * 2) 127 = stp r := by
  have := all128 (p := fun r => decide (r < 64 → bits BinOp.and IntKind.i64 (r * 2) 127 = stp r)) (by decide +kernel) r (by omega)
  exact of_decide_eq_true this h
theorem rstep_hi (r : Int) (h0 : 64 ≤ r) (h : r ≤ 127) : bits BinOp.xor IntKind.i64 (r * 2 % 128) 17 = stp r := by
  have := all128 (p := fun r => decide (64 ≤ r → bits BinOp.xor IntKind.i64 (r * 2 % 128) 17 = stp r)) (by decide +kernel) r (by omega)
  exact of_decide_eq_true this h0
theorem rstep_lo (r : Int) (h0 : 0 ≤ r) (h : r < 64) : r * 2 % 128 = stp r := by rw [stp_low r h0 h]; omega
/-- The register after some steps. -/
def it : Nat → Int → Int
  | 0, r => r
  | n + 1, r => stp (it n r)
theorem it_zero (r : Int) : it 0 r = r := rfl
theorem it_succ (n : Nat) (r : Int) : it (n + 1) r = stp (it n r) := rfl
theorem it_add (m n : Nat) (r : Int) : it (m + n) r = it m (it n r) := by
  induction m with
  | zero => rw [Nat.zero_add]; rfl
  | succ m ih => rw [Nat.succ_add]; show stp (it (m + n) r) = stp (it m (it n r)); rw [ih]
theorem it_bd (n : Nat) (r : Int) (hr : 0 ≤ r ∧ r ≤ 127) : 0 ≤ it n r ∧ it n r ≤ 127 := by
  induction n with
  | zero => exact hr
  | succ n ih => exact stp_bd _ ih
theorem it_pos (n : Nat) (r : Int) (hr : 1 ≤ r ∧ r ≤ 127) : 1 ≤ it n r ∧ it n r ≤ 127 := by
  induction n with
  | zero => exact hr
  | succ n ih => exact stp_pos _ ih
theorem it_127 (r : Int) (hr : 0 ≤ r ∧ r ≤ 127) : it 127 r = r := by
  have := all128 (p := fun r => decide (it 127 r = r)) (by decide +kernel) r hr
  exact of_decide_eq_true this
theorem it_period (n : Nat) (r : Int) (hr : 0 ≤ r ∧ r ≤ 127) : it (n + 127) r = it n r := by rw [it_add, it_127 r hr]
theorem it_mul (c k : Nat) (r : Int) (h : it k r = r) : it (c * k) r = r := by
  induction c with
  | zero => rw [Nat.zero_mul]; rfl
  | succ c ih => rw [Nat.succ_mul, it_add, h, ih]
theorem it_mod (n : Nat) (r : Int) (hr : 0 ≤ r ∧ r ≤ 127) : it (n % 127) r = it n r := by
  conv => rhs; rw [← Nat.mod_add_div n 127, Nat.mul_comm, it_add, it_mul _ 127 r (it_127 r hr)]
theorem stp_ne (r : Int) (hr : 1 ≤ r ∧ r ≤ 127) : stp r ≠ r := by
  have := all128 (p := fun r => decide (1 ≤ r → stp r ≠ r)) (by decide +kernel) r (by omega)
  exact of_decide_eq_true this hr.1
theorem inverse127 (k : Nat) (h1 : 1 ≤ k) (h2 : k ≤ 126) : k ^ 125 % 127 * k % 127 = 1 := by
  have : (List.range 127).all (fun k => decide (1 ≤ k → k ^ 125 % 127 * k % 127 = 1)) = true := by decide +kernel
  have h := List.all_eq_true.1 this k (List.mem_range.2 (by omega))
  exact of_decide_eq_true h h1
/-- No register comes back after fewer than 127 steps. -/
theorem it_ne (k : Nat) (h1 : 1 ≤ k) (h2 : k ≤ 126) (r : Int) (hr : 1 ≤ r ∧ r ≤ 127) : it k r ≠ r := by
  intro h
  have e := it_mul (k ^ 125 % 127) k r h
  rw [← it_mod _ r (by omega), inverse127 k h1 h2] at e
  exact stp_ne r hr e
/-- The first register of a channel. -/
def fst (ch : Int) : Int := 64 + max 0 (min ch 39)
theorem fst_bd (ch : Int) : 64 ≤ fst ch ∧ fst ch ≤ 103 := by unfold fst; omega
/-- How many steps are made. -/
def lim (n : Int) : Nat := (max 0 (min n 524288)).toNat
theorem lim_bd (n : Int) : lim n ≤ 524288 := by unfold lim; omega
theorem lim_in (n : Int) (h0 : 0 ≤ n) (h1 : n ≤ 524288) : lim n = n.toNat := by unfold lim; omega
def stateZ (ch n : Int) : Int := it (lim n) (fst ch)
theorem stateZ_bd (ch n : Int) : 1 ≤ stateZ ch n ∧ stateZ ch n ≤ 127 := by
  have := fst_bd ch
  exact it_pos _ _ (by omega)
theorem state_code (ch n : Int) : it ((max 0 (min n 524288)) % 127).toNat (fst ch) = stateZ ch n := by
  have hf := fst_bd ch
  unfold stateZ
  rw [← it_mod (lim n) _ (by omega)]
  congr 1
  unfold lim; omega
/-- The number that the first j bits make. -/
def val : Nat → Int → Int
  | 0, _ => 0
  | j + 1, r => val j r + it j r / 64 * Ser.p2 j
theorem val_zero (r : Int) : val 0 r = 0 := rfl
theorem val_succ (j : Nat) (r : Int) : val (j + 1) r = val j r + it j r / 64 * Ser.p2 j := rfl
theorem val_bd (j : Nat) (r : Int) (hr : 0 ≤ r ∧ r ≤ 127) : 0 ≤ val j r ∧ val j r < Ser.p2 j := by
  induction j with
  | zero => exact ⟨Int.le_refl _, show (0 : Int) < Ser.p2 0 by decide⟩
  | succ j ih =>
    have hb := it_bd j r hr
    have hp := Ser.p2_pos j
    have hs := Ser.p2_succ j
    rw [val_succ, ← hs]
    by_cases h : it j r < 64
    · rw [bit_low _ hb.1 h]; omega
    · rw [bit_high _ (by omega) hb.2]; omega
theorem or_val (j : Nat) (hj : j < 8) (r : Int) (hr : 0 ≤ r ∧ r ≤ 127) : bits BinOp.or IntKind.i64 (val j r) (RowKit.wrap64 (it j r / 64 * 2 ^ j)) = val (j + 1) r := by
  have := all128 (p := fun r => (List.range 8).all fun j => decide (bits BinOp.or IntKind.i64 (val j r) (RowKit.wrap64 (it j r / 64 * 2 ^ j)) = val (j + 1) r)) (by decide +kernel) r hr
  exact of_decide_eq_true (List.all_eq_true.1 this j (List.mem_range.2 hj))
/-- The byte of eight steps. -/
def octB (r : Int) : Int := val 8 r
theorem octB_bd (r : Int) (hr : 0 ≤ r ∧ r ≤ 127) : 0 ≤ octB r ∧ octB r ≤ 255 := by
  have := val_bd 8 r hr
  rw [show Ser.p2 8 = 256 by decide] at this
  unfold octB; omega
/-- The sequence. -/
def seqL (r : Int) (n : Nat) : List Int := (List.range n).map fun i => octB (it (8 * i) r)
theorem seqL_len (r : Int) (n : Nat) : (seqL r n).length = n := by simp [seqL]
theorem seqL_get (r : Int) (n k : Nat) (h : k < n) : (seqL r n).getD k 0 = octB (it (8 * k) r) := by
  simp [seqL, List.getD, h]
theorem seqL_bytes (r : Int) (hr : 0 ≤ r ∧ r ≤ 127) (n : Nat) : Bytes (seqL r n) := by
  intro z hz
  unfold seqL at hz
  obtain ⟨i, _, rfl⟩ := List.mem_map.1 hz
  exact octB_bd _ (it_bd _ _ hr)
theorem seqL_take (r : Int) (n k : Nat) (h : k ≤ n) : (seqL r n).take k = seqL r k := by
  unfold seqL
  rw [← List.map_take, List.take_range, Nat.min_eq_left h]
theorem seqL_snoc (r : Int) (n : Nat) : seqL r (n + 1) = seqL r n ++ [octB (it (8 * n) r)] := by
  unfold seqL
  rw [List.range_succ, List.map_append]; rfl
theorem it_8 (k : Nat) (r : Int) : it 8 (it (8 * k) r) = it (8 * (k + 1)) r := by rw [← it_add]; congr 1; omega
/-- What Apply returns. -/
def appL (ch : Int) (xs : List Int) : List Int := xorL (seqL (fst ch) xs.length) xs
theorem fst_in (ch : Int) : 0 ≤ fst ch ∧ fst ch ≤ 127 := by have := fst_bd ch; omega
theorem appL_len (ch : Int) (xs : List Int) : (appL ch xs).length = xs.length := by unfold appL; rw [xorL_len, seqL_len]; omega
theorem appL_bytes (ch : Int) {xs : List Int} (h : Bytes xs) : Bytes (appL ch xs) := xorL_bytes (seqL_bytes _ (fst_in ch) _) h
theorem bx_comm (x y : Int) : bx x y = bx y x := by unfold bx; rw [Nat.xor_comm]
theorem xorL_comm (xs ys : List Int) : xorL xs ys = xorL ys xs := by
  unfold xorL; rw [List.zipWith_comm]; congr 1; funext a b; exact bx_comm b a
theorem appL_twice (ch : Int) {xs : List Int} (h : Bytes xs) : appL ch (appL ch xs) = xs := by
  have e : appL ch xs = xorL xs (seqL (fst ch) xs.length) := by unfold appL; rw [xorL_comm]
  rw [show appL ch (appL ch xs) = xorL (appL ch xs) (seqL (fst ch) (appL ch xs).length) by unfold appL; rw [xorL_comm], appL_len, e]
  exact xorL_twice (by rw [seqL_len]) h
theorem appL_take (ch : Int) (xs : List Int) (k : Nat) (h : k ≤ xs.length) : appL ch (xs.take k) = (appL ch xs).take k := by
  unfold appL xorL
  rw [List.take_zipWith, List.length_take, Nat.min_eq_left h, seqL_take _ _ _ h]
theorem appL_get (ch : Int) (xs : List Int) (k : Nat) (h : k < xs.length) : (appL ch xs).getD k 0 = bx ((seqL (fst ch) xs.length).getD k 0) (xs.getD k 0) := by
  unfold appL
  rw [xorL_get _ _ _ (by rw [seqL_len]; exact h) h]
end Go.Proofs.YthpbnipjopjfeaaDoor.Wh
