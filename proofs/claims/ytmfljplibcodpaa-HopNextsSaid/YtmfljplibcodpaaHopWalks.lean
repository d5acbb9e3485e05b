/- What the functions of the layer of hopping return, and those of the document: steps, identifiers, numbers of events: contracts over the program. -/
import Derived.Test.YtmfljplibcodpaaChmRef
import Derived.Test.YtmfljplibcodpaaHopMath
import Derived.Laws.BitsAllLaws
set_option linter.unusedVariables false
set_option linter.unusedSimpArgs false
namespace Go.Proofs.Ytmfljplibcodpaa.Hop
open Go.RowKit Mem

theorem step_any (a b : Int) (w : World) (ha : -9223372036854775808 ≤ a ∧ a ≤ 9223372036854775807) (hb : -9223372036854775808 ≤ b ∧ b ≤ 9223372036854775807) :
    Calls Try.prog 9 #[.int .i64 a, .int .i64 b] w fun e w' => e = .returned (.int .i64 (stepZ a b)) ∧ w = w' := by
  have h1 := tmod37_bd a
  have h2 := tmod37_bd b
  have h3 := step_code a b
  go_enter Try.func9, Try.ntmps9
  go_wp2
  go_ret
  exact ⟨rfl, rfl⟩
theorem rstep_any (a b : Int) (w : World) (ha : -9223372036854775808 ≤ a ∧ a ≤ 9223372036854775807) (hb : -9223372036854775808 ≤ b ∧ b ≤ 9223372036854775807) :
    Calls Try.prog 10 #[.int .i64 a, .int .i64 b] w fun e w' => e = .returned (.int .i64 (stepZ a b)) ∧ w = w' := by
  have h1 := tmod37_bd a
  have h2 := tmod37_bd b
  have h3 := step_code a b
  go_enter Try.func10, Try.ntmps10
  go_wp2
  go_ret
  exact ⟨rfl, rfl⟩
theorem u16_nat (q : Nat) (h : q ≤ 65535) : IntKind.u16.wrap (q : Int) = (q : Int) := IntWalk.u16_in _ (by omega)
theorem ident_any (a : Nat) (w : World) (ha : a ≤ 4294967295) :
    Calls Try.prog 11 #[.int .u32 a] w fun e w' => e = .returned (.int .u16 (idN a : Nat)) ∧ w = w' := by
  have e1 : IntKind.u16.wrap ((a : Int) / 65536) = ((a / 65536 : Nat) : Int) := by rw [show (a : Int) / 65536 = ((a / 65536 : Nat) : Int) by omega]; exact u16_nat _ (by omega)
  have e2 : IntKind.u16.wrap (a : Int) = ((a % 65536 : Nat) : Int) := by rw [Ser.wrap_u16]; omega
  have e3 : bits BinOp.xor IntKind.u16 ((a / 65536 : Nat) : Int) ((a % 65536 : Nat) : Int) = ((idN a : Nat) : Int) := u16_xor_nat _ _ (by omega) (by omega)
  generalize idN a = I at *
  generalize a / 65536 = H at *
  generalize a % 65536 = L at *
  go_enter Try.func11, Try.ntmps11
  go_wp2
  go_ret
  exact ⟨rfl, rfl⟩
theorem rident_any (a : Nat) (w : World) (ha : a ≤ 4294967295) :
    Calls Try.prog 12 #[.int .u32 a] w fun e w' => e = .returned (.int .u16 (idN a : Nat)) ∧ w = w' := by
  have e0 : (a : Int) / 65536 = ((a / 65536 : Nat) : Int) := by omega
  have e4 : (a : Int) % 65536 = ((a % 65536 : Nat) : Int) := by omega
  have e1 : IntKind.u16.wrap ((a / 65536 : Nat) : Int) = ((a / 65536 : Nat) : Int) := u16_nat _ (by omega)
  have e2 : IntKind.u16.wrap ((a % 65536 : Nat) : Int) = ((a % 65536 : Nat) : Int) := u16_nat _ (by omega)
  have e3 : bits BinOp.xor IntKind.u16 ((a / 65536 : Nat) : Int) ((a % 65536 : Nat) : Int) = ((idN a : Nat) : Int) := u16_xor_nat _ _ (by omega) (by omega)
  generalize idN a = I at *
  generalize a / 65536 = H at *
  generalize a % 65536 = L at *
  go_enter Try.func12, Try.ntmps12
  go_wp2
  go_ret
  exact ⟨rfl, rfl⟩
theorem xor7_code : ∀ k : Fin 16, bits BinOp.xor IntKind.i64 ((k.val : Nat) : Int) 7 = ((k.val ^^^ 7 : Nat) : Int) := by decide +kernel
theorem reverse_any (n : Nat) (w : World) (hn : n ≤ 65535) :
    Calls Try.prog 22 #[.int .u16 n] w fun e w' => e = .returned (.int .u16 (rev16 n : Nat)) ∧ w = w' := by
  have HA := Lib.hid (revC_all n (by omega))
  go_enter Try.func22, Try.ntmps22
  go_wp2
  go_loop [3, 5] (fun v i => ∃ k : Nat, k ≤ 16 ∧ i = .int .i64 k ∧ v = .int .u16 (revC n k : Nat)) (fun _ i => 16 - (intOf i).toNat)
  case atStart => exact ⟨0, by omega, rfl, rfl⟩
  case round =>
    obtain ⟨k, hk, rfl, rfl⟩ := hrel
    by_cases c1 : k < 16
    · have HS : Hid (revC n (k + 1) = revC n k ||| n / 2 ^ k % 2 * 2 ^ (k ^^^ 7)) := Lib.hid rfl
      have hl := revC_lt n k hk
      have hx := xor7_lt ⟨k, c1⟩
      have hb := bit_le (n / 2 ^ k) (k ^^^ 7) hx
      have e3 := xor7_code ⟨k, c1⟩
      simp only at e3 hx
      have e1 : (n : Int) / 2 ^ k = ((n / 2 ^ k : Nat) : Int) := by push_cast; rfl
      have hd := Nat.div_le_self n (2 ^ k)
      generalize k ^^^ 7 = X at *
      generalize n / 2 ^ k = D at *
      have e2 : bits BinOp.and IntKind.u16 (D : Int) 1 = ((D % 2 : Nat) : Int) := by
        rw [show (1 : Int) = ((1 : Nat) : Int) from rfl, u16_and_nat _ _ (by omega) (by decide), Nat.and_one_is_mod]
      have e4 : IntKind.u16.wrap (((D % 2 : Nat) : Int) * 2 ^ X) = ((D % 2 * 2 ^ X : Nat) : Int) := by
        rw [show (((D % 2 : Nat) : Int) * 2 ^ X) = ((D % 2 * 2 ^ X : Nat) : Int) by push_cast; rfl]
        exact u16_nat _ (by omega)
      generalize D % 2 * 2 ^ X = Y at *
      generalize D % 2 = Z at *
      have e5 : bits BinOp.or IntKind.u16 ((revC n k : Nat) : Int) (Y : Int) = ((revC n k ||| Y : Nat) : Int) := u16_or_nat _ _ hl (by omega)
      generalize revC n k = R at *
      go_wp2
      go_round
      case rel => exact ⟨k + 1, by omega, by go_num, by rw [HS.out]⟩
      case measure => simp [intOf]; omega
    · obtain rfl : k = 16 := by omega
      go_wp2
      go_ret
      exact ⟨Ser.ret_int (by rw [HA.out]), rfl⟩
theorem reversed_any (b : Nat) (w : World) (hb : b ≤ 255) :
    Calls Try.prog 23 #[.int .i64 b] w fun e w' => e = .returned (.int .i64 (revB b : Nat)) ∧ w = w' := by
  have HA : Hid (revK b 8 = revB b) := Lib.hid rfl
  go_enter Try.func23, Try.ntmps23
  go_wp2
  go_loop [0, 3, 4] (fun x v i => ∃ k : Nat, k ≤ 8 ∧ i = .int .i64 k ∧ v = .int .i64 (revK b k : Nat) ∧ x = .int .i64 (b / 2 ^ k : Nat)) (fun _ _ i => 8 - (intOf i).toNat)
  case atStart => exact ⟨0, by omega, rfl, rfl, by simp⟩
  case round =>
    obtain ⟨k, hk, rfl, rfl, rfl⟩ := hrel
    by_cases c1 : k < 8
    · have HS : Hid (revK b (k + 1) = 2 * revK b k + b / 2 ^ k % 2) := Lib.hid rfl
      have HD : Hid (b / 2 ^ (k + 1) = b / 2 ^ k / 2) := Lib.hid (by rw [Nat.pow_succ, Nat.div_div_eq_div_mul])
      have hl := revK_lt b k
      have hp : 2 ^ k ≤ 2 ^ 8 := Nat.pow_le_pow_right (by decide) (by omega)
      have hd := Nat.div_le_self b (2 ^ k)
      have hl2 : revK b k < 256 := by omega
      clear hl hp
      generalize revK b k = R at *
      generalize b / 2 ^ k = D at *
      go_wp2
      go_round
      case rel => exact ⟨k + 1, by omega, by go_num, by rw [HS.out]; go_num, by rw [HD.out]; go_num⟩
      case measure => simp [intOf]; omega
    · obtain rfl : k = 8 := by omega
      go_wp2
      go_ret
      exact ⟨Ser.ret_int (by rw [HA.out]), rfl⟩
end Go.Proofs.Ytmfljplibcodpaa.Hop
