/- What the functions of the layer of the channel maps return on one channel, and how many channels there are: contracts over the program. -/
import Derived.Test.YtpoagepchlfemaaProg
import Derived.WalkKit
import Derived.Lib.MinMax
import Derived.Lib.Hide
import Derived.BigQuiet
import Derived.Deep.QuietTactic
import Derived.WalkSpells
import Derived.Deep.RegionHeld3
import Derived.Deep.RegionWith
import Derived.Test.YtpoagepchlfemaaSerMath
import Derived.Test.YtpoagepchlfemaaMem
import Derived.Test.YtpoagepchlfemaaChmMath
set_option linter.unusedVariables false
set_option linter.unusedSimpArgs false
namespace Go.Proofs.Ytpoagepchlfemaa.Chm
open Go.RowKit Mem

theorem land64 (a b : Nat) (ha : a ≤ 18446744073709551615) (hb : b ≤ 18446744073709551615) : bits BinOp.and IntKind.u64 (a : Int) (b : Int) = ((a &&& b : Nat) : Int) := by
  rw [u64_and _ _ (by omega) (by omega) (by omega) (by omega), Int.toNat_natCast, Int.toNat_natCast]
theorem bit_and (m c : Nat) : m &&& 2 ^ c = if m.testBit c then 2 ^ c else 0 := by
  apply Nat.eq_of_testBit_eq
  intro i
  rw [Nat.testBit_and, Nat.testBit_two_pow]
  by_cases h : m.testBit c = true
  · rw [if_pos h, Nat.testBit_two_pow]
    by_cases e : c = i
    · subst e; simp [h]
    · simp [e]
  · rw [if_neg h]
    by_cases e : c = i
    · subst e; simp at h; simp [h]
    · simp [e]
theorem pow_le (c : Nat) (hc : c < 64) : 2 ^ c ≤ 9223372036854775808 := Nat.pow_le_pow_right (n := 2) (by decide) (show c ≤ 63 by omega)
theorem u64_nat (q : Nat) (h : q ≤ 18446744073709551615) : IntKind.u64.wrap (q : Int) = (q : Int) := IntWalk.u64_in _ (by omega)
/-- Whether a number is a channel of a map. -/
def hasZ (m : Nat) (c : Int) : Bool := decide (0 ≤ c) && hasN m c.toNat
theorem hasZ_nat (m c : Nat) : hasZ m (c : Int) = hasN m c := by simp [hasZ]
theorem ones_any (x : Nat) (w : World) (hx : x ≤ 18446744073709551615) :
    Calls Try.prog 105 #[.int .u64 x] w fun e w' => e = .returned (.int .i64 (cnt 64 x : Nat)) ∧ w = w' := by
  have hl := mapB_le x
  rw [← pop_bytes] at hl
  rw [← pop_all]
  have hA := pop1_bd (x := x)
  have hB := pop2_bd (x := pop1 x)
  have hx2 : x / 2 ≤ 18446744073709551615 := by omega
  have h1 : IntKind.u64.wrap (bits BinOp.and IntKind.u64 ((x : Int) / 2) 6148914691236517205 + bits BinOp.and IntKind.u64 (x : Int) 6148914691236517205) = (pop1 x : Int) := by
    have e1 : bits BinOp.and IntKind.u64 ((x : Int) / 2) 6148914691236517205 = ((x / 2 &&& 6148914691236517205 : Nat) : Int) := land64 (x / 2) 6148914691236517205 hx2 (by decide)
    have e2 : bits BinOp.and IntKind.u64 (x : Int) 6148914691236517205 = ((x &&& 6148914691236517205 : Nat) : Int) := land64 x 6148914691236517205 hx (by decide)
    rw [e1, e2, ← Int.natCast_add]
    exact u64_nat _ (by unfold pop1 at hA; omega)
  obtain ⟨A, hAe⟩ : ∃ A, pop1 x = A := ⟨_, rfl⟩
  rw [hAe] at h1 hA hB hl ⊢
  have h2 : IntKind.u64.wrap (bits BinOp.and IntKind.u64 ((A : Int) / 4) 3689348814741910323 + bits BinOp.and IntKind.u64 (A : Int) 3689348814741910323) = (pop2 A : Int) := by
    have e1 : bits BinOp.and IntKind.u64 ((A : Int) / 4) 3689348814741910323 = ((A / 4 &&& 3689348814741910323 : Nat) : Int) := land64 (A / 4) 3689348814741910323 (by omega) (by decide)
    have e2 : bits BinOp.and IntKind.u64 (A : Int) 3689348814741910323 = ((A &&& 3689348814741910323 : Nat) : Int) := land64 A 3689348814741910323 (by omega) (by decide)
    rw [e1, e2, ← Int.natCast_add]
    exact u64_nat _ (by unfold pop2 at hB; omega)
  obtain ⟨B, hBe⟩ : ∃ B, pop2 A = B := ⟨_, rfl⟩
  rw [hBe] at h2 hB hl ⊢
  have h3 : bits BinOp.and IntKind.u64 (IntKind.u64.wrap ((B : Int) / 16 + B)) 1085102592571150095 = (pop3 B : Int) := by
    rw [show (B : Int) / 16 + B = ((B / 16 + B : Nat) : Int) by omega, u64_nat _ (by omega)]
    exact land64 (B / 16 + B) 1085102592571150095 (by omega) (by decide)
  obtain ⟨C, hCe⟩ : ∃ C, pop3 B = C := ⟨_, rfl⟩
  rw [hCe] at h3 hl ⊢
  have h4 : IntKind.u64.wrap ((C : Int) + C / 256) = ((C + C / 256 : Nat) : Int) := by rw [IntWalk.u64_in _ (by omega)]; omega
  have hT : tot C = ((C + C / 256) + (C + C / 256) / 65536 + ((C + C / 256) + (C + C / 256) / 65536) / 4294967296) % 128 := rfl
  rw [hT]; clear hT
  obtain ⟨D, hDe⟩ : ∃ D, C + C / 256 = D := ⟨_, rfl⟩
  have hD : D ≤ 2000000000000000000 := by omega
  rw [hDe] at h4 ⊢
  have h5 : IntKind.u64.wrap ((D : Int) + D / 65536) = ((D + D / 65536 : Nat) : Int) := by rw [IntWalk.u64_in _ (by omega)]; omega
  obtain ⟨E, hEe⟩ : ∃ E, D + D / 65536 = E := ⟨_, rfl⟩
  have hE : E ≤ 3000000000000000000 := by omega
  rw [hEe] at h5 ⊢
  have h6 : IntKind.u64.wrap ((E : Int) + E / 4294967296) = ((E + E / 4294967296 : Nat) : Int) := by rw [IntWalk.u64_in _ (by omega)]; omega
  obtain ⟨F, hFe⟩ : ∃ F, E + E / 4294967296 = F := ⟨_, rfl⟩
  have hF : F ≤ 4000000000000000000 := by omega
  rw [hFe] at h6 ⊢
  clear hAe hBe hCe hDe hEe hFe hl hA hB hD hE hx2
  go_enter Try.func105, Try.ntmps105
  go_wp2
  go_ret
  exact ⟨Ser.ret_int (by rw [i64_and127]; omega), rfl⟩
theorem count_any (m : Nat) (w : World) (hm : m ≤ 18446744073709551615) :
    Calls Try.prog 103 #[.int .u64 m] w fun e w' => e = .returned (.int .i64 ((chans m).length : Nat)) ∧ w = w' := by
  have e1 := land64 m 137438953471 hm (by decide)
  rw [show m &&& 137438953471 = m % 137438953472 from Nat.and_two_pow_sub_one_eq_mod m 37] at e1
  have h1 := Lib.hid fun w => ones_any (m % 137438953472) w (by omega)
  rw [cnt_map] at h1
  generalize (chans m).length = L at *
  have e2 : bits BinOp.and IntKind.u64 (m : Int) 137438953471 = ((m % 137438953472 : Nat) : Int) := e1
  clear e1
  generalize m % 137438953472 = q at *
  go_enter Try.func103, Try.ntmps103
  go_wp2_with (go_at_call 105; refine (h1.out _).mono ?_; rintro e w' ⟨rfl, rfl⟩)
  go_ret
  exact ⟨rfl, rfl⟩
def freqZ (c : Int) : Int := if 0 ≤ c ∧ c ≤ 10 then 2404 + 2 * c else if 11 ≤ c ∧ c ≤ 36 then 2406 + 2 * c else if c = 37 then 2402 else if c = 38 then 2426 else if c = 39 then 2480 else 0
end Go.Proofs.Ytpoagepchlfemaa.Chm
