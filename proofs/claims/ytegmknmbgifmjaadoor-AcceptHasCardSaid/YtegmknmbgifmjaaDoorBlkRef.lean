/- What each function of the specification of the block function returns: contracts over the program. -/
import Derived.Test.YtegmknmbgifmjaaDoorBlkWalks
set_option linter.unusedVariables false
set_option linter.unusedSimpArgs false
namespace Go.Proofs.YtegmknmbgifmjaaDoor.Blk
open Go.RowKit Mem Oct

theorem belowN (w : World) (n : Nat) : Below w.heap.size w (w.drewN n) := ⟨rfl, rfl, rfl, Nat.le_refl _, fun _ _ => rfl⟩
theorem turn_any (x n : Int) (w : World) (hx : 0 ≤ x ∧ x ≤ 4294967295) (hn : 1 ≤ n ∧ n ≤ 31) :
    Calls Tryd.prog 65 #[.int .u32 x, .int .i64 n] w fun e w' => e = .returned (.int .u32 (rotZ 32 x n.toNat)) ∧ Below w.heap.size w w' := by
  obtain ⟨s, rfl⟩ := Int.eq_ofNat_of_zero_le (show 0 ≤ n by omega)
  have H := Lib.hid (rot32_code x s hx)
  go_enter Tryd.func65, Tryd.ntmps65
  go_wp2_with fail
  go_quiet (fail)
  go_wp2_with fail
  go_ret
  refine ⟨Ser.ret_int ?_, belowN _ _⟩
  rw [Int.toNat_natCast, ← H.out, IntKind.wrap_u32]
theorem tm64 (i : Int) : -63 ≤ i.tmod 64 ∧ i.tmod 64 ≤ 63 := by
  have h1 := Int.tmod_lt_of_pos i (show (0 : Int) < 64 by decide)
  have h2 := Int.lt_tmod_of_pos i (show (0 : Int) < 64 by decide)
  omega
theorem tm_emod (i : Int) : i.tmod 64 % 64 = i % 64 := by
  have h1 := Int.tmod_add_mul_tdiv i 64
  generalize i.tmod 64 = m at *
  generalize i.tdiv 64 = c at *
  omega
theorem rlow_any (k i : Int) (w : World) (hk : 0 ≤ k ∧ k ≤ 18446744073709551615) (hi : -9223372036854775808 ≤ i ∧ i ≤ 9223372036854775807) :
    Calls Tryd.prog 64 #[.int .u64 k, .int .i64 i] w fun e w' => e = .returned (.int .u32 (lowK k i)) ∧ Below w.heap.size w w' := by
  have h1 := tm64 i
  have h2 := tm_emod i
  obtain ⟨t, ht⟩ : ∃ t, trn i = t := ⟨_, rfl⟩
  have ht1 := trn_bd i
  have e : (i.tmod 64 + 64) * 11 % 64 = (t : Int) := by unfold trn at ht; omega
  have HL : Hid (rotZ 64 k t % 4294967296 = lowK k i) := Lib.hid (by unfold lowK; rw [ht])
  rw [ht] at ht1
  clear ht h2
  by_cases h0 : t = 0
  · subst h0
    have HR := Lib.hid (rot64_zero k hk)
    go_enter Tryd.func64, Tryd.ntmps64
    go_wp2_with fail
    go_ret
    exact ⟨Ser.ret_int (by rw [← HL.out, HR.out]), Below.refl _ _⟩
  · have H := Lib.hid (rot64_code k t hk)
    have hb := rot64_bd k t hk
    have e2 : bits BinOp.or IntKind.u64 (k * 2 ^ t % 18446744073709551616) (k / 2 ^ (64 - t)) = rotZ 64 k t := by rw [← H.out, IntKind.wrap_u64]
    have e3 := H.out
    go_enter Tryd.func64, Tryd.ntmps64
    go_wp2_with fail
    go_quiet (fail)
    go_wp2_with fail
    go_ret
    exact ⟨Ser.ret_int HL.out, belowN _ _⟩
theorem rround_any (k i h : Int) (w : World) (hk : 0 ≤ k ∧ k ≤ 18446744073709551615) (hi : -9223372036854775808 ≤ i ∧ i ≤ 9223372036854775807) (hh : 0 ≤ h ∧ h ≤ 4294967295) :
    Calls Tryd.prog 61 #[.int .u64 k, .int .i64 i, .int .u32 h] w fun e w' => e = .returned (.int .u32 (rnd k i h)) ∧ Below w.heap.size w w' := by
  have b2 := lowK_bd k i
  have b3 := sumK_bd k i h
  have b4 := rot32_bd (sumK k i h) 7 b3
  have b5 := rot32_bd (lowK k i) 16 b2
  have e3 : IntKind.u32.wrap (h + lowK k i) = sumK k i h := by rw [IntKind.wrap_u32]; rfl
  obtain ⟨T, hT⟩ : ∃ T, rotZ 32 (sumK k i h) 7 = T := ⟨_, rfl⟩
  obtain ⟨U, hU⟩ : ∃ U, rotZ 32 (lowK k i) 16 = U := ⟨_, rfl⟩
  obtain ⟨V, hV⟩ : ∃ V, T * 2654435761 % 4294967296 = V := ⟨_, rfl⟩
  have e4 : IntKind.u32.wrap (T * 2654435761) = V := by rw [IntKind.wrap_u32, hV]
  have bV : 0 ≤ V ∧ V ≤ 4294967295 := by omega
  rw [hT] at b4
  rw [hU] at b5
  have e5 := bx32_code V U bV b5
  have H : Hid (bx V U = rnd k i h) := Lib.hid (by rw [← hV, ← hU, ← hT]; rfl)
  have HL : Hid (∀ w, Calls Tryd.prog 64 #[.int .u64 k, .int .i64 i] w fun e w' => e = .returned (.int .u32 (lowK k i)) ∧ Below w.heap.size w w') := Lib.hid fun w => rlow_any k i w hk hi
  have HT : Hid (∀ w, Calls Tryd.prog 65 #[.int .u32 (sumK k i h), .int .i64 7] w fun e w' => e = .returned (.int .u32 T) ∧ Below w.heap.size w w') := Lib.hid fun w => by rw [← hT]; exact turn_any _ 7 w b3 (by decide)
  have HU : Hid (∀ w, Calls Tryd.prog 65 #[.int .u32 (lowK k i), .int .i64 16] w fun e w' => e = .returned (.int .u32 U) ∧ Below w.heap.size w w') := Lib.hid fun w => by rw [← hU]; exact turn_any _ 16 w b2 (by decide)
  clear hT hU hV
  generalize lowK k i = L at *
  generalize sumK k i h = S at *
  go_enter Tryd.func61, Tryd.ntmps61
  go_wp2_with (first
    | (go_at_call 64; refine (HL.out _).mono ?_; clear HL; rintro e w1 ⟨rfl, hb1⟩)
    | (go_at_call 65; refine (HT.out _).mono ?_; clear HT; rintro e w2 ⟨rfl, hb2⟩)
    | (go_at_call 65; refine (HU.out _).mono ?_; clear HU; rintro e w3 ⟨rfl, hb3⟩))
  go_ret
  exact ⟨Ser.ret_int H.out, (hb1.trans (hb2.mono hb1.size)).trans (hb3.mono (Nat.le_trans hb1.size hb2.size))⟩
theorem rmix_any (k x : Int) (w : World) (hk : 0 ≤ k ∧ k ≤ 18446744073709551615) (hx : 0 ≤ x ∧ x ≤ 18446744073709551615) :
    Calls Tryd.prog 52 #[.int .u64 k, .int .u64 x] w fun e w' => e = .returned (.int .u64 (mixZ k x)) ∧ Below w.heap.size w w' := by
  have hf : ∀ n : Nat, Half (fws k n (hlv x)) := fun n => fws_half k n (half_hlv x hx)
  have hs : ∀ n : Nat, fws k (n + 1) (hlv x) = fw k n (fws k n (hlv x)) := fun n => rfl
  have hz : fws k 0 (hlv x) = (hiH x, loH x) := rfl
  have hm : whl (fws k 8 (hlv x)) = mixZ k x := rfl
  have hiB := hiH_bd x hx
  have loB := loH_bd x
  have e1 : IntKind.u32.wrap (x / 4294967296) = hiH x := wrap32_in _ hiB
  have e2 : IntKind.u32.wrap (x % 4294967296) = loH x := wrap32_in _ loB
  have HH : Hid (x / 4294967296 = hiH x) := Lib.hid rfl
  have HO : Hid (x % 4294967296 = loH x) := Lib.hid rfl
  generalize fws k = F at *
  have HF := Lib.hid hf
  have HS := Lib.hid hs
  have HZ := Lib.hid hz
  have HM := Lib.hid hm
  clear hf hs hz hm
  go_enter Tryd.func52, Tryd.ntmps52
  go_wp2_with fail
  go_loopw [5, 6, 7] (fun l r i wr => ∃ n : Nat, ∃ a b : Int, n ≤ 8 ∧ i = .int .i64 n ∧ l = .int .u32 a ∧ r = .int .u32 b ∧ F n (hlv x) = (a, b) ∧ Below w.heap.size w wr) (fun _ _ i _ => 8 - (intOf i).toNat)
  case atStart => exact ⟨0, _, _, by omega, rfl, by first | rfl | rw [HH.out], by first | rfl | rw [HO.out], HZ.out, Below.refl _ _⟩
  case round =>
    obtain ⟨n, a, b, hn, rfl, rfl, rfl, hab, hbel⟩ := hrel
    have hh := HF.out n
    rw [hab] at hh
    obtain ⟨ha, hb⟩ := hh
    simp only at ha hb
    by_cases hlt : n < 8
    · have HN : Hid (F (n + 1) (hlv x) = (b, bx a (rnd k n b))) := Lib.hid (by rw [HS.out, hab]; rfl)
      have br := rnd_bd k n b
      have ex := bx32_code a (rnd k n b) ha br
      clear hab
      go_wp2_with (go_at_call 61; refine (rround_any _ _ _ _ (by omega) (by omega) (by omega)).mono ?_; rintro e w2 ⟨rfl, hb2⟩)
      go_roundw
      case rel => exact ⟨n + 1, _, _, by omega, by go_num, rfl, rfl, HN.out, hbel.trans (hb2.mono hbel.size)⟩
      case measure => simp [intOf]; omega
    · obtain rfl : n = 8 := by omega
      have HW : Hid (whl (a, b) = mixZ k x) := Lib.hid (by rw [← hab]; exact HM.out)
      clear hab
      go_wp2_with fail
      go_ret
      exact ⟨Ser.ret_int (by rw [← HW.out]; rfl), hbel⟩
end Go.Proofs.YtegmknmbgifmjaaDoor.Blk
