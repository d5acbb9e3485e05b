/- The statements on the block function, walked: each returns true. -/
import Derived.Test.YtnjcchdoocdgfaaBlkRef
set_option linter.unusedVariables false
set_option linter.unusedSimpArgs false
namespace Go.Proofs.Ytnjcchdoocdgfaa.Blk
open Go.RowKit Mem Oct

theorem f_rounds : rnd 0 0 1 = 465361024 ∧ rnd 1 (-64) 0 = 465426560 := by decide +kernel
theorem lives_any (w : World) : Calls Try.prog 10 #[] w fun e w' => e = .returned (.bool true) ∧ Below w.heap.size w w' := by
  obtain ⟨r1, r2⟩ := f_rounds
  have hm := mixZ_bd 9 5 (by decide)
  have hu := unmix_mix 9 5 (by decide)
  have H1 : Hid (∀ w, Calls Try.prog 11 #[.int .u64 0, .int .i64 0, .int .u32 1] w fun e w' => e = .returned (.int .u32 465361024) ∧ Below w.heap.size w w') := Lib.hid fun w => by rw [← r1]; exact round_any 0 0 1 w (by decide) (by decide) (by decide)
  have H2 : Hid (∀ w, Calls Try.prog 11 #[.int .u64 1, .int .i64 (-64), .int .u32 0] w fun e w' => e = .returned (.int .u32 465426560) ∧ Below w.heap.size w w') := Lib.hid fun w => by rw [← r2]; exact round_any 1 (-64) 0 w (by decide) (by decide) (by decide)
  have H3 : Hid (∀ w, Calls Try.prog 13 #[.int .u64 9, .int .u64 5] w fun e w' => e = .returned (.int .u64 (mixZ 9 5)) ∧ Below w.heap.size w w') := Lib.hid fun w => mix_any 9 5 w (by decide) (by decide)
  have H4 : Hid (∀ w, Calls Try.prog 15 #[.int .u64 9, .int .u64 (mixZ 9 5)] w fun e w' => e = .returned (.int .u64 5) ∧ Below w.heap.size w w') := Lib.hid fun w => by
    have := unmix_any 9 (mixZ 9 5) w (by decide) hm
    rwa [hu] at this
  clear r1 r2 hu
  generalize mixZ 9 5 = M at *
  go_enter Try.func10, Try.ntmps10
  go_wp2_with (first
    | (go_at_call 11; refine (H1.out _).mono ?_; clear H1; rintro e w1 ⟨rfl, b1⟩)
    | (go_at_call 11; refine (H2.out _).mono ?_; clear H2; rintro e w2 ⟨rfl, b2⟩)
    | (go_at_call 13; refine (H3.out _).mono ?_; clear H3; rintro e w3 ⟨rfl, b3⟩)
    | (go_at_call 15; refine (H4.out _).mono ?_; clear H4; rintro e w4 ⟨rfl, b4⟩))
  go_ret
  have h2 := b1.trans (b2.mono b1.size)
  have h3 := h2.trans (b3.mono h2.size)
  exact ⟨rfl, h3.trans (b4.mono h3.size)⟩
theorem law_rounds (k i h : Int) (w : World) (hk : 0 ≤ k ∧ k ≤ 18446744073709551615) (hi : -9223372036854775808 ≤ i ∧ i ≤ 9223372036854775807) (hh : 0 ≤ h ∧ h ≤ 4294967295) :
    Calls Try.prog 3 #[.int .u64 k, .int .i64 i, .int .u32 h] w fun e w' => e = .returned (.bool true) ∧ Below w.heap.size w w' := by
  go_enter Try.func3, Try.ntmps3
  go_wp2_with (first
    | (go_at_call 10; refine (lives_any _).mono ?_; rintro e w1 ⟨rfl, b1⟩)
    | (go_at_call 11; refine (round_any _ _ _ _ hk hi hh).mono ?_; rintro e w2 ⟨rfl, b2⟩)
    | (go_at_call 12; refine (rround_any _ _ _ _ hk hi hh).mono ?_; rintro e w3 ⟨rfl, b3⟩))
  go_ret
  have h2 := b1.trans (b2.mono b1.size)
  exact ⟨rfl, h2.trans (b3.mono h2.size)⟩
theorem law_mixes (k x : Int) (w : World) (hk : 0 ≤ k ∧ k ≤ 18446744073709551615) (hx : 0 ≤ x ∧ x ≤ 18446744073709551615) :
    Calls Try.prog 4 #[.int .u64 k, .int .u64 x] w fun e w' => e = .returned (.bool true) ∧ Below w.heap.size w w' := by
  go_enter Try.func4, Try.ntmps4
  go_wp2_with (first
    | (go_at_call 10; refine (lives_any _).mono ?_; rintro e w1 ⟨rfl, b1⟩)
    | (go_at_call 13; refine (mix_any _ _ _ hk hx).mono ?_; rintro e w2 ⟨rfl, b2⟩)
    | (go_at_call 14; refine (rmix_any _ _ _ hk hx).mono ?_; rintro e w3 ⟨rfl, b3⟩)
    | (go_at_call 15; refine (unmix_any _ _ _ hk hx).mono ?_; rintro e w4 ⟨rfl, b4⟩)
    | (go_at_call 16; refine (runmix_any _ _ _ hk hx).mono ?_; rintro e w5 ⟨rfl, b5⟩))
  go_ret
  have h2 := b1.trans (b2.mono b1.size)
  have h3 := h2.trans (b3.mono h2.size)
  have h4 := h3.trans (b4.mono h3.size)
  exact ⟨rfl, h4.trans (b5.mono h4.size)⟩
theorem law_back (k x : Int) (w : World) (hk : 0 ≤ k ∧ k ≤ 18446744073709551615) (hx : 0 ≤ x ∧ x ≤ 18446744073709551615) :
    Calls Try.prog 6 #[.int .u64 k, .int .u64 x] w fun e w' => e = .returned (.bool true) ∧ Below w.heap.size w w' := by
  have hm := mixZ_bd k x hx
  have hu := unmixZ_bd k x hx
  have e1 := unmix_mix k x hx
  have e2 := mix_unmix k x hx
  generalize hM : mixZ k x = M at *
  generalize hU : unmixZ k x = U at *
  have HM : Hid (∀ w, Calls Try.prog 13 #[.int .u64 k, .int .u64 x] w fun e w' => e = .returned (.int .u64 M) ∧ Below w.heap.size w w') := Lib.hid fun w => by rw [← hM]; exact mix_any k x w hk hx
  have HU : Hid (∀ w, Calls Try.prog 15 #[.int .u64 k, .int .u64 x] w fun e w' => e = .returned (.int .u64 U) ∧ Below w.heap.size w w') := Lib.hid fun w => by rw [← hU]; exact unmix_any k x w hk hx
  have HM2 : Hid (∀ w, Calls Try.prog 15 #[.int .u64 k, .int .u64 M] w fun e w' => e = .returned (.int .u64 x) ∧ Below w.heap.size w w') := Lib.hid fun w => by rw [← e1]; exact unmix_any k M w hk hm
  have HU2 : Hid (∀ w, Calls Try.prog 13 #[.int .u64 k, .int .u64 U] w fun e w' => e = .returned (.int .u64 x) ∧ Below w.heap.size w w') := Lib.hid fun w => by rw [← e2]; exact mix_any k U w hk hu
  clear hM hU e1 e2
  go_enter Try.func6, Try.ntmps6
  go_wp2_with (first
    | (go_at_call 10; refine (lives_any _).mono ?_; rintro e w1 ⟨rfl, b1⟩)
    | (go_at_call 13; refine (HM.out _).mono ?_; clear HM; rintro e w2 ⟨rfl, b2⟩)
    | (go_at_call 15; refine (HM2.out _).mono ?_; clear HM2; rintro e w3 ⟨rfl, b3⟩)
    | (go_at_call 15; refine (HU.out _).mono ?_; clear HU; rintro e w4 ⟨rfl, b4⟩)
    | (go_at_call 13; refine (HU2.out _).mono ?_; clear HU2; rintro e w5 ⟨rfl, b5⟩))
  go_ret
  have h2 := b1.trans (b2.mono b1.size)
  have h3 := h2.trans (b3.mono h2.size)
  have h4 := h3.trans (b4.mono h3.size)
  exact ⟨rfl, h4.trans (b5.mono h4.size)⟩
theorem beq_inj {a b c d : Int} (h : a = b ↔ c = d) : ((a == b) == (c == d)) = true := by
  by_cases e : c = d
  · have := h.2 e; simp [e, this]
  · have : ¬ a = b := fun g => e (h.1 g)
    rw [beq_eq_false_iff_ne.2 e, beq_eq_false_iff_ne.2 this]; rfl
theorem law_apart (k x y : Int) (w : World) (hk : 0 ≤ k ∧ k ≤ 18446744073709551615) (hx : 0 ≤ x ∧ x ≤ 18446744073709551615) (hy : 0 ≤ y ∧ y ≤ 18446744073709551615) :
    Calls Try.prog 7 #[.int .u64 k, .int .u64 x, .int .u64 y] w fun e w' => e = .returned (.bool true) ∧ Below w.heap.size w w' := by
  have E1 : ((mixZ k x == mixZ k y) == (x == y)) = true := beq_inj ⟨mix_inj k hx hy, fun e => by rw [e]⟩
  have E2 : ((unmixZ k x == unmixZ k y) == (x == y)) = true := beq_inj ⟨unmix_inj k hx hy, fun e => by rw [e]⟩
  have HM : Hid (∀ w, Calls Try.prog 13 #[.int .u64 k, .int .u64 x] w fun e w' => e = .returned (.int .u64 (mixZ k x)) ∧ Below w.heap.size w w') := Lib.hid fun w => mix_any k x w hk hx
  have HM2 : Hid (∀ w, Calls Try.prog 13 #[.int .u64 k, .int .u64 y] w fun e w' => e = .returned (.int .u64 (mixZ k y)) ∧ Below w.heap.size w w') := Lib.hid fun w => mix_any k y w hk hy
  have HU : Hid (∀ w, Calls Try.prog 15 #[.int .u64 k, .int .u64 x] w fun e w' => e = .returned (.int .u64 (unmixZ k x)) ∧ Below w.heap.size w w') := Lib.hid fun w => unmix_any k x w hk hx
  have HU2 : Hid (∀ w, Calls Try.prog 15 #[.int .u64 k, .int .u64 y] w fun e w' => e = .returned (.int .u64 (unmixZ k y)) ∧ Below w.heap.size w w') := Lib.hid fun w => unmix_any k y w hk hy
  generalize mixZ k x = a at *
  generalize mixZ k y = b at *
  generalize unmixZ k x = c at *
  generalize unmixZ k y = d at *
  go_enter Try.func7, Try.ntmps7
  go_wp2_with (first
    | (go_at_call 10; refine (lives_any _).mono ?_; rintro e w1 ⟨rfl, b1⟩)
    | (go_at_call 13; refine (HM.out _).mono ?_; clear HM; rintro e w2 ⟨rfl, b2⟩)
    | (go_at_call 13; refine (HM2.out _).mono ?_; clear HM2; rintro e w3 ⟨rfl, b3⟩)
    | (go_at_call 15; refine (HU.out _).mono ?_; clear HU; rintro e w4 ⟨rfl, b4⟩)
    | (go_at_call 15; refine (HU2.out _).mono ?_; clear HU2; rintro e w5 ⟨rfl, b5⟩))
  go_ret
  have h2 := b1.trans (b2.mono b1.size)
  have h3 := h2.trans (b3.mono h2.size)
  have h4 := h3.trans (b4.mono h3.size)
  exact ⟨rfl, h4.trans (b5.mono h4.size)⟩
theorem law_halves (k i x y : Int) (w : World) (hk : 0 ≤ k ∧ k ≤ 18446744073709551615) (hi : -9223372036854775808 ≤ i ∧ i ≤ 9223372036854775807) (hx : 0 ≤ x ∧ x ≤ 4294967295) (hy : 0 ≤ y ∧ y ≤ 4294967295) :
    Calls Try.prog 8 #[.int .u64 k, .int .i64 i, .int .u32 x, .int .u32 y] w fun e w' => e = .returned (.bool true) ∧ Below w.heap.size w w' := by
  have E1 : ((rnd k i x == rnd k i y) == (x == y)) = true := beq_inj ⟨rnd_inj k i hx hy, fun e => by rw [e]⟩
  have HM : Hid (∀ w, Calls Try.prog 11 #[.int .u64 k, .int .i64 i, .int .u32 x] w fun e w' => e = .returned (.int .u32 (rnd k i x)) ∧ Below w.heap.size w w') := Lib.hid fun w => round_any k i x w hk hi hx
  have HM2 : Hid (∀ w, Calls Try.prog 11 #[.int .u64 k, .int .i64 i, .int .u32 y] w fun e w' => e = .returned (.int .u32 (rnd k i y)) ∧ Below w.heap.size w w') := Lib.hid fun w => round_any k i y w hk hi hy
  generalize rnd k i x = a at *
  generalize rnd k i y = b at *
  go_enter Try.func8, Try.ntmps8
  go_wp2_with (first
    | (go_at_call 10; refine (lives_any _).mono ?_; rintro e w1 ⟨rfl, b1⟩)
    | (go_at_call 11; refine (HM.out _).mono ?_; clear HM; rintro e w2 ⟨rfl, b2⟩)
    | (go_at_call 11; refine (HM2.out _).mono ?_; clear HM2; rintro e w3 ⟨rfl, b3⟩))
  go_ret
  have h2 := b1.trans (b2.mono b1.size)
  exact ⟨rfl, h2.trans (b3.mono h2.size)⟩
theorem law_period (k i h : Int) (w : World) (hk : 0 ≤ k ∧ k ≤ 18446744073709551615) (hi : -9223372036854775808 ≤ i ∧ i ≤ 9223372036854775807) (hh : 0 ≤ h ∧ h ≤ 4294967295) :
    Calls Try.prog 9 #[.int .u64 k, .int .i64 i, .int .u32 h] w fun e w' => e = .returned (.bool true) ∧ Below w.heap.size w w' := by
  have ht := tm64 i
  have hm := tm_emod i
  have E1 : rnd k (i.tmod 64) h = rnd k i h := rnd_mod k h hm
  have E2 : rnd k (i.tmod 64 + 64) h = rnd k i h := rnd_mod k h (by omega)
  generalize hT : i.tmod 64 = m at *
  have H0 : Hid (∀ w, Calls Try.prog 11 #[.int .u64 k, .int .i64 i, .int .u32 h] w fun e w' => e = .returned (.int .u32 (rnd k i h)) ∧ Below w.heap.size w w') := Lib.hid fun w => round_any k i h w hk hi hh
  have H1 : Hid (∀ w, Calls Try.prog 11 #[.int .u64 k, .int .i64 m, .int .u32 h] w fun e w' => e = .returned (.int .u32 (rnd k i h)) ∧ Below w.heap.size w w') := Lib.hid fun w => by rw [← E1]; exact round_any k m h w hk (by omega) hh
  have H2 := H1
  have H3 : Hid (∀ w, Calls Try.prog 11 #[.int .u64 k, .int .i64 (m + 64), .int .u32 h] w fun e w' => e = .returned (.int .u32 (rnd k i h)) ∧ Below w.heap.size w w') := Lib.hid fun w => by rw [← E2]; exact round_any k (m + 64) h w hk (by omega) hh
  clear E1 E2 hm
  generalize rnd k i h = a at *
  go_enter Try.func9, Try.ntmps9
  go_wp2_with (first
    | (go_at_call 10; refine (lives_any _).mono ?_; rintro e w1 ⟨rfl, b1⟩)
    | (go_at_call 11; refine (H0.out _).mono ?_; clear H0; rintro e w2 ⟨rfl, b2⟩)
    | (go_at_call 11; refine (H1.out _).mono ?_; clear H1; rintro e w3 ⟨rfl, b3⟩)
    | (go_at_call 11; refine (H2.out _).mono ?_; clear H2; rintro e w4 ⟨rfl, b4⟩)
    | (go_at_call 11; refine (H3.out _).mono ?_; clear H3; rintro e w5 ⟨rfl, b5⟩))
  go_ret
  have h2 := b1.trans (b2.mono b1.size)
  have h3 := h2.trans (b3.mono h2.size)
  have h4 := h3.trans (b4.mono h3.size)
  exact ⟨rfl, h4.trans (b5.mono h4.size)⟩
theorem law_eight (k x : Int) (w : World) (hk : 0 ≤ k ∧ k ≤ 18446744073709551615) (hx : 0 ≤ x ∧ x ≤ 18446744073709551615) :
    Calls Try.prog 5 #[.int .u64 k, .int .u64 x] w fun e w' => e = .returned (.bool true) ∧ Below w.heap.size w w' := by
  have hf : ∀ n : Nat, Half (fws k n (hlv x)) := fun n => fws_half k n (half_hlv x hx)
  have hs : ∀ n : Nat, fws k (n + 1) (hlv x) = fw k n (fws k n (hlv x)) := fun n => rfl
  have hz : fws k 0 (hlv x) = (hiH x, loH x) := rfl
  have hm : whl (fws k 8 (hlv x)) = mixZ k x := rfl
  have hiB := hiH_bd x hx
  have loB := loH_bd x
  have e1 : IntKind.u32.wrap (x / 4294967296) = hiH x := wrap32_in _ hiB
  have e2 : IntKind.u32.wrap (x % 4294967296) = loH x := wrap32_in _ loB
  have HH : Hid (x / 4294967296 = hiH x) := Lib.hid rfl
  have HO : Hid (x % 4294967296 = loH x) := Lib.hid rfl
  have HX : Hid (∀ w, Calls Try.prog 13 #[.int .u64 k, .int .u64 x] w fun e w' => e = .returned (.int .u64 (mixZ k x)) ∧ Below w.heap.size w w') := Lib.hid fun w => mix_any k x w hk hx
  generalize fws k = F at *
  have HF := Lib.hid hf
  have HS := Lib.hid hs
  have HZ := Lib.hid hz
  have HM := Lib.hid hm
  clear hf hs hz hm
  generalize mixZ k x = M at *
  go_enter Try.func5, Try.ntmps5
  go_wp2_with fail
  go_loopw [5, 6, 7] (fun l r i wr => ∃ n : Nat, ∃ a b : Int, n ≤ 8 ∧ i = .int .i64 n ∧ l = .int .u32 a ∧ r = .int .u32 b ∧ F n (hlv x) = (a, b) ∧ Below w.heap.size w wr) (fun _ _ i _ => 8 - (intOf i).toNat)
  case atStart => exact ⟨0, _, _, by omega, rfl, by first | rfl | rw [HH.out], by first | rfl | rw [HO.out], HZ.out, Below.refl _ _⟩
  case round =>
    obtain ⟨n, a, b, hn, rfl, rfl, rfl, hab, hbel⟩ := hrel
    have hh := HF.out n
    rw [hab] at hh
    obtain ⟨ha, hb⟩ := hh
    simp only at ha hb
    by_cases hlt : n < 8
    · have HN : Hid (F (n + 1) (hlv x) = (b, bx a (rnd k n b))) := Lib.hid (by rw [HS.out, hab]; rfl)
      have br := rnd_bd k n b
      have ex := bx32_code a (rnd k n b) ha br
      clear hab
      go_wp2_with (go_at_call 11; refine (round_any _ _ _ _ (by omega) (by omega) (by omega)).mono ?_; rintro e w2 ⟨rfl, hb2⟩)
      go_roundw
      case rel => exact ⟨n + 1, _, _, by omega, by go_num, rfl, rfl, HN.out, hbel.trans (hb2.mono hbel.size)⟩
      case measure => simp [intOf]; omega
    · obtain rfl : n = 8 := by omega
      have HW : Hid (a * 4294967296 + b = M) := Lib.hid (by have := HM.out; rw [hab] at this; exact this)
      clear hab
      go_wp2_with (first
        | (go_at_call 10; refine (lives_any _).mono ?_; rintro e w1 ⟨rfl, b1⟩)
        | (go_at_call 13; refine (HX.out _).mono ?_; clear HX; rintro e w2 ⟨rfl, b2⟩))
      go_ret
      have h1 := hbel.trans (b1.mono hbel.size)
      exact ⟨Ser.ret_bool (by rw [HW.out]; simp), h1.trans (b2.mono h1.size)⟩
end Go.Proofs.Ytnjcchdoocdgfaa.Blk
