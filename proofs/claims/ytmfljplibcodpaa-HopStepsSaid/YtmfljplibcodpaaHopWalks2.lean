/- What the functions of the layer of hopping return, and those of the document: the number of an event, the channel by it: contracts over the program. -/
import Derived.Test.YtmfljplibcodpaaHopWalks
set_option linter.unusedVariables false
set_option linter.unusedSimpArgs false
namespace Go.Proofs.Ytmfljplibcodpaa.Hop
open Go.RowKit Mem Chm Base

theorem random_round (R c : Nat) (hR : R < 65536) (hc : c < 65536) : IntKind.u16.wrap (IntKind.u16.wrap ((R : Int) * 17) + (c : Int)) = (((17 * R + c) % 65536 : Nat) : Int) := by
  rw [Ser.wrap_u16, Ser.wrap_u16]; omega
theorem Random_any (e c : Nat) (w : World) (he : e ≤ 65535) (hc : c ≤ 65535) :
    Calls Try.prog 13 #[.int .u16 e, .int .u16 c] w fun e' w' => e' = .returned (.int .u16 (randN e c : Nat)) ∧ w = w' := by
  have hx := xor16 (a := e) (b := c) (by omega) (by omega)
  have e1 : bits BinOp.xor IntKind.u16 (e : Int) (c : Int) = ((e ^^^ c : Nat) : Int) := u16_xor_nat _ _ (by omega) (by omega)
  have HA : Hid (randN e c = rnds c (e ^^^ c) 3 ^^^ c) := Lib.hid rfl
  have H0 : Hid ((e ^^^ c : Nat) = rnds c (e ^^^ c) 0) := Lib.hid rfl
  rw [HA.out]
  clear HA
  generalize e ^^^ c = X at *
  go_enter Try.func13, Try.ntmps13
  go_wp2
  go_loop [5, 9] (fun v i => ∃ k : Nat, k ≤ 3 ∧ i = .int .i64 k ∧ v = .int .u16 (rnds c X k : Nat)) (fun _ i => 3 - (intOf i).toNat)
  case atStart => exact ⟨0, by omega, rfl, by rw [← H0.out]⟩
  case round =>
    obtain ⟨k, hk, rfl, rfl⟩ := hrel
    by_cases c1 : k < 3
    · have HS : Hid (rnds c X (k + 1) = (17 * rev16 (rnds c X k) + c) % 65536) := Lib.hid rfl
      have hl := rnds_lt c X k hx
      have HR := Lib.hid fun w => reverse_any (rnds c X k) w (by omega)
      have h4 := rev16_lt (rnds c X k)
      generalize rev16 (rnds c X k) = R at *
      have e2 := random_round R c h4 (by omega)
      rw [← HS.out] at e2
      clear HS
      obtain ⟨Y, hY⟩ : ∃ Y, rnds c X (k + 1) = Y := ⟨_, rfl⟩
      rw [hY] at e2
      have HY := Lib.hid hY
      clear hY
      generalize rnds c X k = Z at *
      go_wp2_with (go_at_call 22; refine (HR.out _).mono ?_; rintro e w' ⟨rfl, rfl⟩)
      go_round
      case rel => exact ⟨k + 1, by omega, by go_num, by rw [HY.out]⟩
      case measure => simp [intOf]; omega
    · obtain rfl : k = 3 := by omega
      have hl := rnds_lt c X 3 hx
      have e3 : bits BinOp.xor IntKind.u16 ((rnds c X 3 : Nat) : Int) (c : Int) = ((rnds c X 3 ^^^ c : Nat) : Int) := u16_xor_nat _ _ hl (by omega)
      obtain ⟨F, hF⟩ : ∃ F, rnds c X 3 ^^^ c = F := ⟨_, rfl⟩
      rw [hF] at e3
      have HF := Lib.hid hF
      clear hF
      go_wp2
      go_ret
      exact ⟨Ser.ret_int (by rw [HF.out]), rfl⟩
theorem rRandom_any (e c : Nat) (w : World) (he : e ≤ 65535) (hc : c ≤ 65535) :
    Calls Try.prog 14 #[.int .u16 e, .int .u16 c] w fun e' w' => e' = .returned (.int .u16 (randN e c : Nat)) ∧ w = w' := by
  have hx := xor16 (a := e) (b := c) (by omega) (by omega)
  have e1 : bits BinOp.xor IntKind.u16 (e : Int) (c : Int) = ((e ^^^ c : Nat) : Int) := u16_xor_nat _ _ (by omega) (by omega)
  have HA : Hid (randN e c = rnds c (e ^^^ c) 3 ^^^ c) := Lib.hid rfl
  have H0 : Hid ((e ^^^ c : Nat) = rnds c (e ^^^ c) 0) := Lib.hid rfl
  rw [HA.out]
  clear HA
  generalize e ^^^ c = X at *
  go_enter Try.func14, Try.ntmps14
  go_wp2
  go_loop [5, 6, 7] (fun v i n => ∃ k : Nat, k ≤ 3 ∧ i = .int .i64 k ∧ v = .int .u16 (rnds c X k : Nat)) (fun _ i _ => 3 - (intOf i).toNat)
  case atStart => exact ⟨0, by omega, rfl, by rw [← H0.out]⟩
  case round =>
    obtain ⟨k, hk, rfl, rfl⟩ := hrel
    by_cases c1 : k < 3
    · have hl := rnds_lt c X k hx
      have HS : Hid (rnds c X (k + 1) = (17 * (256 * revB (rnds c X k / 256) + revB (rnds c X k % 256)) + c) % 65536) := Lib.hid rfl
      obtain ⟨Y, hY⟩ : ∃ Y, rnds c X (k + 1) = Y := ⟨_, rfl⟩
      have HY := Lib.hid hY
      rw [hY] at HS
      clear hY
      generalize rnds c X k = Z at *
      have HR1 := Lib.hid fun w => reversed_any (Z / 256) w (by omega)
      have HR2 := Lib.hid fun w => reversed_any (Z % 256) w (by omega)
      have b1 := revB_lt (Z / 256)
      have b2 := revB_lt (Z % 256)
      have d1 : (Z : Int) / 256 = ((Z / 256 : Nat) : Int) := by omega
      have d2 : (Z : Int) % 256 = ((Z % 256 : Nat) : Int) := by omega
      generalize revB (Z / 256) = P at *
      generalize revB (Z % 256) = Q at *
      generalize Z / 256 = z1 at *
      generalize Z % 256 = z2 at *
      have e4 : IntKind.u16.wrap ((17 * (256 * (P : Int) + Q) + c) % 65536) = (Y : Int) := by rw [HS.out, Ser.wrap_u16]; omega
      go_wp2_with (first
        | (go_at_call_of 23 z1; refine (HR1.out _).mono ?_; rintro e w' ⟨rfl, rfl⟩)
        | (go_at_call_of 23 z2; refine (HR2.out _).mono ?_; rintro e w' ⟨rfl, rfl⟩))
      go_round
      case rel => exact ⟨k + 1, by omega, by go_num, by rw [HY.out]⟩
      case measure => simp [intOf]; omega
    · obtain rfl : k = 3 := by omega
      have hl := rnds_lt c X 3 hx
      have e3 : bits BinOp.xor IntKind.u16 ((rnds c X 3 : Nat) : Int) (c : Int) = ((rnds c X 3 ^^^ c : Nat) : Int) := u16_xor_nat _ _ hl (by omega)
      obtain ⟨F, hF⟩ : ∃ F, rnds c X 3 ^^^ c = F := ⟨_, rfl⟩
      rw [hF] at e3
      have HF := Lib.hid hF
      clear hF
      go_wp2
      go_ret
      exact ⟨Ser.ret_int (by rw [HF.out]), rfl⟩
/-- The number of an event of a connection. -/
def numN (e a : Nat) : Nat := randN e (idN a)
theorem numN_lt {e a : Nat} (he : e ≤ 65535) (ha : a ≤ 4294967295) : numN e a < 65536 := randN_lt (by omega) (idN_lt (by omega))
theorem random_any (e a : Nat) (w : World) (he : e ≤ 65535) (ha : a ≤ 4294967295) :
    Calls Try.prog 28 #[.int .u16 e, .int .u32 a] w fun e' w' => e' = .returned (.int .i64 (numN e a : Nat)) ∧ w = w' := by
  have h1 := idN_lt (a := a) (by omega)
  have h2 := numN_lt he ha
  have HI := Lib.hid fun w => ident_any a w ha
  have HR : Hid (∀ w, Calls Try.prog 13 #[.int .u16 e, .int .u16 (idN a : Nat)] w fun e' w' => e' = .returned (.int .u16 (numN e a : Nat)) ∧ w = w') := Lib.hid fun w => Random_any e (idN a) w he (by omega)
  generalize numN e a = R at *
  generalize idN a = I at *
  go_enter Try.func28, Try.ntmps28
  go_wp2_with (first
    | (go_at_call 11; refine (HI.out _).mono ?_; rintro e w' ⟨rfl, rfl⟩)
    | (go_at_call 13; refine (HR.out _).mono ?_; rintro e w' ⟨rfl, rfl⟩))
  go_ret
  exact ⟨rfl, rfl⟩
theorem unmapped_any (e a : Nat) (w : World) (he : e ≤ 65535) (ha : a ≤ 4294967295) :
    Calls Try.prog 24 #[.int .u16 e, .int .u32 a] w fun e' w' => e' = .returned (.int .i64 (numN e a % 37 : Nat)) ∧ w = w' := by
  have h2 := numN_lt he ha
  have HR := Lib.hid fun w => random_any e a w he ha
  have e1 : ((numN e a : Nat) : Int) % 37 = ((numN e a % 37 : Nat) : Int) := by omega
  generalize numN e a % 37 = S at *
  generalize numN e a = R at *
  go_enter Try.func24, Try.ntmps24
  go_wp2_with (go_at_call 28; refine (HR.out _).mono ?_; rintro e w' ⟨rfl, rfl⟩)
  go_ret
  exact ⟨Ser.ret_int e1, rfl⟩
/-- The channel of an event by its number. -/
def mixZ (m r : Nat) : Int := if hasN m (r % 37) then ((r % 37 : Nat) : Int) else nthZ m (((chans m).length * r / 65536 : Nat) : Int)
theorem mix_any (m e a : Nat) (w : World) (hm : m ≤ 18446744073709551615) (he : e ≤ 65535) (ha : a ≤ 4294967295) :
    Calls Try.prog 15 #[.int .u64 m, .int .u16 e, .int .u32 a] w fun e' w' => e' = .returned (.int .i64 (mixZ m (numN e a))) ∧ Below w.heap.size w w' := by
  have h2 := numN_lt he ha
  have HU := Lib.hid fun w => unmapped_any e a w he ha
  have HR := Lib.hid fun w => random_any e a w he ha
  have HC := Lib.hid fun w => count_any m w hm
  have hle := chans_le m
  generalize numN e a = r at *
  have HN := Lib.hid fun w => nth_any m (((chans m).length * r / 65536 : Nat) : Int) w hm
  have hz : mixZ m r = if hasN m (r % 37) then ((r % 37 : Nat) : Int) else nthZ m (((chans m).length * r / 65536 : Nat) : Int) := rfl
  rw [hz]
  clear hz
  generalize (chans m).length = L at *
  have hp : L * r ≤ 37 * 65535 := Nat.mul_le_mul hle (by omega)
  have e1 : (L : Int) * r = ((L * r : Nat) : Int) := by push_cast; rfl
  have e2 : ((L * r : Nat) : Int) / 65536 = ((L * r / 65536 : Nat) : Int) := by omega
  generalize L * r / 65536 = q at *
  generalize L * r = p at *
  generalize hs : r % 37 = s at *
  by_cases hb : hasN m s = true
  · rw [if_pos hb]
    have HH := Lib.hid (has_to hm hb)
    clear hb
    go_enter Try.func15, Try.ntmps15
    go_wp2_with (first
      | (go_at_call 24; refine (HU.out _).mono ?_; rintro e w' ⟨rfl, rfl⟩)
      | (go_at_call 25; refine (HH.out _).mono ?_; rintro e w' ⟨rfl, rfl⟩))
    go_ret
    exact ⟨rfl, Below.refl _ _⟩
  · rw [if_neg hb]
    have HH := Lib.hid (has_to hm (by simpa using hb : hasN m s = false))
    clear hb
    generalize nthZ m (q : Int) = N at *
    go_enter Try.func15, Try.ntmps15
    go_wp2_with (first
      | (go_at_call 24; refine (HU.out _).mono ?_; rintro e w' ⟨rfl, rfl⟩)
      | (go_at_call 25; refine (HH.out _).mono ?_; rintro e w' ⟨rfl, rfl⟩)
      | (go_at_call 27; refine (HC.out _).mono ?_; rintro e w' ⟨rfl, rfl⟩)
      | (go_at_call 28; refine (HR.out _).mono ?_; rintro e w' ⟨rfl, rfl⟩)
      | (go_at_call 26; refine (HN.out _).mono ?_; rintro e w2 ⟨rfl, b2⟩))
    go_ret
    exact ⟨rfl, b2⟩
theorem rmix_any (m e a : Nat) (w : World) (hm : m ≤ 18446744073709551615) (he : e ≤ 65535) (ha : a ≤ 4294967295) :
    Calls Try.prog 16 #[.int .u64 m, .int .u16 e, .int .u32 a] w fun e' w' => e' = .returned (.int .i64 (mixZ m (numN e a))) ∧ Below w.heap.size w w' := by
  have h1 := idN_lt (a := a) (by omega)
  have h2 := numN_lt he ha
  have HI := Lib.hid fun w => rident_any a w ha
  have HR : Hid (∀ w, Calls Try.prog 14 #[.int .u16 e, .int .u16 (idN a : Nat)] w fun e' w' => e' = .returned (.int .u16 (numN e a : Nat)) ∧ w = w') := Lib.hid fun w => rRandom_any e (idN a) w he (by omega)
  have HC := Lib.hid fun w => rcount_any m w hm
  have hle := chans_le m
  generalize numN e a = r at *
  generalize idN a = I at *
  have HN := Lib.hid fun w => rnth_any m (((chans m).length * r / 65536 : Nat) : Int) w hm
  have hz : mixZ m r = if hasN m (r % 37) then ((r % 37 : Nat) : Int) else nthZ m (((chans m).length * r / 65536 : Nat) : Int) := rfl
  rw [hz]
  clear hz
  generalize (chans m).length = L at *
  have hp : L * r ≤ 37 * 65535 := Nat.mul_le_mul hle (by omega)
  have e0 : (r : Int) % 37 = ((r % 37 : Nat) : Int) := by omega
  have e1 : (L : Int) * r = ((L * r : Nat) : Int) := by push_cast; rfl
  have e2 : ((L * r : Nat) : Int) / 65536 = ((L * r / 65536 : Nat) : Int) := by omega
  generalize L * r / 65536 = q at *
  generalize L * r = p at *
  have hs37 : r % 37 < 37 := by omega
  generalize r % 37 = s at *
  by_cases hb : hasN m s = true
  · rw [if_pos hb]
    have HH := Lib.hid (rhas_to hm hb)
    clear hb
    go_enter Try.func16, Try.ntmps16
    go_wp2_with (first
      | (go_at_call 12; refine (HI.out _).mono ?_; rintro e w' ⟨rfl, rfl⟩)
      | (go_at_call 14; refine (HR.out _).mono ?_; rintro e w' ⟨rfl, rfl⟩)
      | (go_at_call 20; refine (HH.out _).mono ?_; rintro e w' ⟨rfl, rfl⟩))
    go_ret
    exact ⟨Ser.ret_int e0, Below.refl _ _⟩
  · rw [if_neg hb]
    have HH := Lib.hid (rhas_to hm (by simpa using hb : hasN m s = false))
    clear hb
    generalize nthZ m (q : Int) = N at *
    go_enter Try.func16, Try.ntmps16
    go_wp2_with (first
      | (go_at_call 12; refine (HI.out _).mono ?_; rintro e w' ⟨rfl, rfl⟩)
      | (go_at_call 14; refine (HR.out _).mono ?_; rintro e w' ⟨rfl, rfl⟩)
      | (go_at_call 20; refine (HH.out _).mono ?_; rintro e w' ⟨rfl, rfl⟩)
      | (go_at_call 19; refine (HC.out _).mono ?_; rintro e w1 ⟨rfl, b1⟩)
      | (go_at_call 29; refine (HN.out _).mono ?_; rintro e w2 ⟨rfl, b2⟩))
    go_ret
    exact ⟨rfl, thenB b1 b2⟩
end Go.Proofs.Ytmfljplibcodpaa.Hop
