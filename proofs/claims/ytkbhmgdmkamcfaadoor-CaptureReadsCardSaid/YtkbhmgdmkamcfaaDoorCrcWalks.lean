/- What each function of the layer of checksums returns: contracts over the program. -/
import Derived.Test.YtkbhmgdmkamcfaaDoorBase
import Derived.Test.YtkbhmgdmkamcfaaDoorCrcMath
set_option linter.unusedVariables false
set_option linter.unusedSimpArgs false
namespace Go.Proofs.YtkbhmgdmkamcfaaDoor.Crc
open Go.RowKit Mem Oct Base

/-- The table of the sums of half a byte lies as its initialiser lays it. -/
def Tab (w : World) : Prop := (3 : Nat) < w.heap.size ∧ ∀ i : Nat, i < 16 → w.cell? ⟨3, i, none⟩ = some (.int .u32 (halves.getD i 0))
theorem Tab.below {w w' : World} (h : Tab w) (hb : Below w.heap.size w w') : Tab w' :=
  ⟨Nat.lt_of_lt_of_le h.1 hb.size, fun i hi => by rw [hb.cell (by show (3 : Nat) < w.heap.size; exact h.1)]; exact h.2 i hi⟩
theorem Tab.drew {w : World} (h : Tab w) : Tab w.drew := h
theorem Tab.alloc {w : World} (h : Tab w) (o : Obj) : Tab (w.alloc o) := h.below ((Below.refl _ _).alloc (Nat.le_refl _) o)
theorem half_any (r c : Nat) (w : World) (hr : r < 16777216) (hc : c < 256) (hT : Tab w) :
    Calls Tryd.prog 106 #[.int .u32 r, .int .u8 c] w fun e w' => e = .returned (.int .u32 (ticks 4 (r ^^^ c % 16) : Nat)) ∧ w = w' := by
  have hx := u32_xor_nat r c (by omega) (by omega)
  have hand : bits BinOp.and IntKind.u32 ((r ^^^ c : Nat) : Int) 15 = (((r ^^^ c) % 16 : Nat) : Int) := by
    have hl : r ^^^ c < 2 ^ 32 := Nat.xor_lt_two_pow (by omega) (by omega)
    have := u32_and_nat (r ^^^ c) 15 (by omega) (by omega)
    rw [show ((15 : Nat) : Int) = 15 from rfl] at this
    rw [this, show (15 : Nat) = 2 ^ 4 - 1 from rfl, Nat.and_two_pow_sub_one_eq_mod]
  have hk : (r ^^^ c) % 16 < 16 := by omega
  obtain ⟨h1, h2, h3⟩ := halves_at ((r ^^^ c) % 16) hk
  have f := hT.2 ((r ^^^ c) % 16) hk
  have HE : Hid (bits BinOp.xor IntKind.u32 ((r : Int) / 16) (halves.getD ((r ^^^ c) % 16) 0) = (ticks 4 (r ^^^ c % 16) : Nat)) := Lib.hid (by
    rw [half_fed, ← h1, u32_xor _ _ (by omega) (by omega) h2 (by omega), show ((r : Int) / 16).toNat = r / 16 by omega])
  rw [← hx] at hand
  generalize (r ^^^ c) % 16 = k at *
  generalize halves.getD k 0 = hv at *
  clear hx h1 hT
  have g1 : (0 : Int) ≤ (k : Int) := by omega
  have g2 : (k : Int) < 16 := by omega
  go_enter Tryd.func106, Tryd.ntmps106
  go_wp2_with fail
  go_ret
  exact ⟨Ser.ret_int HE.out, rfl⟩
theorem half_to {R C : Int} {w : World} (r c : Nat) (hR : R = (r : Int)) (hC : C = (c : Int)) (hr : r < 16777216) (hc : c < 256) (hT : Tab w) :
    Calls Tryd.prog 106 #[.int .u32 R, .int .u8 C] w fun e w' => e = .returned (.int .u32 (ticks 4 (r ^^^ c % 16) : Nat)) ∧ w = w' := by
  subst hR; subst hC; exact half_any r c w hr hc hT
theorem feed_any (r c : Nat) (w : World) (hr : r < 16777216) (hc : c < 256) (hT : Tab w) :
    Calls Tryd.prog 99 #[.int .u32 r, .int .u8 c] w fun e w' => e = .returned (.int .u32 (fed r c : Nat)) ∧ w = w' := by
  obtain ⟨t, ht⟩ : ∃ t, ticks 4 (r ^^^ c % 16) = t := ⟨_, rfl⟩
  have hl : t < 16777216 := by rw [← ht]; exact ticks_lt 4 _ (Nat.xor_lt_two_pow (by omega) (by omega))
  have HE : Hid (ticks 4 (t ^^^ c / 16 % 16) = fed r c) := Lib.hid (by rw [← fed_halves, ht, Nat.mod_eq_of_lt (show c / 16 < 16 by omega)])
  have HT : Hid (ticks 4 (r ^^^ c % 16) = t) := Lib.hid ht
  clear ht
  go_enter Tryd.func99, Tryd.ntmps99
  go_wp2_with (go_at_call 106; refine (half_to r c (by rfl) (by rfl) hr hc hT).mono ?_; rw [HT.out]; rintro e w2 ⟨rfl, rfl⟩; clear HT)
  go_wp2_with (go_at_call 106; refine (half_to t (c / 16) (by rfl) (by omega) hl (by omega) hT).mono ?_; rintro e w2 ⟨rfl, rfl⟩)
  go_ret
  exact ⟨Ser.ret_int (by rw [HE.out]), rfl⟩
theorem feed_to {R C : Int} {w : World} (r c : Nat) (hR : R = (r : Int)) (hC : C = (c : Int)) (hr : r < 16777216) (hc : c < 256) (hT : Tab w) :
    Calls Tryd.prog 99 #[.int .u32 R, .int .u8 C] w fun e w' => e = .returned (.int .u32 (fed r c : Nat)) ∧ w = w' := by
  subst hR; subst hC; exact feed_any r c w hr hc hT
theorem sum_any (r : Int) (A : Option Addr) (n c : Nat) (zs : List Int) (w : World) (hr : 0 ≤ r ∧ r ≤ 4294967295) (hz : zs.length = n) (bz : Bytes zs) (hi : Ints .u8 w w.heap.size A zs) (hn : n ≤ 140737488351232) (hT : Tab w) :
    Calls Tryd.prog 89 #[.int .u32 r, .slice A n c] w fun e w' => e = .returned (.int .u32 (sumN (ini r) zs : Nat)) ∧ w = w' := by
  have hq := ini_and r hr
  have Hq := ini_lt r
  generalize ini r = q at *
  have HZ := Lib.hid hz
  clear hz
  go_enter Tryd.func89, Tryd.ntmps89
  go_wp2_with fail
  clear hq
  go_loop [5, 12] (fun v i => ∃ k : Nat, k ≤ n ∧ i = .int .i64 k ∧ v = .int .u32 (sumN q (zs.take k) : Nat)) (fun _ i => n - (intOf i).toNat)
  case atStart => exact ⟨0, by omega, rfl, rfl⟩
  case round =>
    obtain ⟨k, hk, rfl, rfl⟩ := hrel
    by_cases c1 : k < n
    · obtain ⟨b, off, rfl, hb, hc⟩ := hi.at_ (i := k) (by rw [HZ.out]; omega)
      have f1 := hc k (by rw [HZ.out]; omega)
      clear hc
      have bk := bytes_get bz k
      have hl : sumN q (zs.take k) < 16777216 := sumN_lt q _ Hq (bytes_take bz k)
      have HS : Hid (fed (sumN q (zs.take k)) (zs.getD k 0).toNat = sumN q (zs.take (k + 1))) := Lib.hid (sumN_snoc q zs k (by rw [HZ.out]; exact c1)).symm
      generalize sumN q (zs.take k) = s at *
      generalize zs.getD k 0 = x at *
      go_wp2_with (go_at_call 99; refine (feed_to s x.toNat (by rfl) (by omega) hl (by omega) hT).mono ?_; rintro e w2 ⟨rfl, rfl⟩)
      go_round
      case rel => exact ⟨k + 1, by omega, by go_num, by rw [HS.out]⟩
      case measure => simp [intOf]; omega
    · obtain rfl : k = n := by omega
      have HT : Hid (zs.take k = zs) := Lib.hid (List.take_of_length_le (by rw [HZ.out]; omega))
      go_wp2_with fail
      go_ret
      exact ⟨Ser.ret_int (by rw [HT.out]), rfl⟩
theorem rfeed_any (r b : Nat) (w : World) (hr : r < 16777216) (hb : b ≤ 1) :
    Calls Tryd.prog 80 #[.int .u32 r, .int .u32 b] w fun e w' => e = .returned (.int .u32 (tick (r ^^^ b) : Nat)) ∧ w = w' := by
  have hx : bits BinOp.xor IntKind.u32 ((r : Int) % 2) (b : Int) = ((r % 2 ^^^ b : Nat) : Int) := by
    have := u32_xor_nat (r % 2) b (by omega) (by omega)
    rw [show ((r % 2 : Nat) : Int) = (r : Int) % 2 by omega] at this; exact this
  have hp : bits BinOp.xor IntKind.u32 ((r : Int) / 2) 14311424 = ((r / 2 ^^^ poly : Nat) : Int) := by
    have := u32_xor_nat (r / 2) poly (by omega) (by decide)
    rw [show ((r / 2 : Nat) : Int) = (r : Int) / 2 by omega] at this; exact this
  have hf := bit_fed r b hb
  by_cases h1 : r % 2 ^^^ b = 1
  · rw [if_pos h1] at hf
    have HF : Hid (bits BinOp.xor IntKind.u32 ((r : Int) / 2) 14311424 = ((tick (r ^^^ b) : Nat) : Int)) := Lib.hid (by rw [hp, hf])
    rw [h1] at hx
    clear hf hp h1
    go_enter Tryd.func80, Tryd.ntmps80
    go_wp2_with fail
    go_ret
    exact ⟨Ser.ret_int HF.out, rfl⟩
  · rw [if_neg h1, Nat.xor_zero] at hf
    have h2 : r % 2 ^^^ b = 0 := by
      have : r % 2 ^^^ b < 2 ^ 1 := Nat.xor_lt_two_pow (by omega) (by omega)
      omega
    have HF : Hid (((r : Int) / 2) = ((tick (r ^^^ b) : Nat) : Int)) := Lib.hid (by rw [hf]; omega)
    rw [h2] at hx
    clear hf hp h1 h2
    go_enter Tryd.func80, Tryd.ntmps80
    go_wp2_with fail
    go_ret
    exact ⟨Ser.ret_int HF.out, rfl⟩
theorem rfeed_to {R B : Int} {w : World} (r b : Nat) (hR : R = (r : Int)) (hB : B = (b : Int)) (hr : r < 16777216) (hb : b ≤ 1) :
    Calls Tryd.prog 80 #[.int .u32 R, .int .u32 B] w fun e w' => e = .returned (.int .u32 (tick (r ^^^ b) : Nat)) ∧ w = w' := by
  subst hR; subst hB; exact rfeed_any r b w hr hb
theorem rsum_any (r : Int) (A : Option Addr) (n c : Nat) (zs : List Int) (w : World) (hr : 0 ≤ r ∧ r ≤ 4294967295) (hz : zs.length = n) (bz : Bytes zs) (hi : Ints .u8 w w.heap.size A zs) (hn : n ≤ 140737488351232) :
    Calls Tryd.prog 59 #[.int .u32 r, .slice A n c] w fun e w' => e = .returned (.int .u32 (sumN (ini r) zs : Nat)) ∧ w = w' := by
  have hq := ini_mod r hr
  have Hq := ini_lt r
  generalize ini r = q at *
  have HZ := Lib.hid hz
  clear hz
  go_enter Tryd.func59, Tryd.ntmps59
  go_wp2_with fail
  generalize r % 16777216 = R at *
  subst hq
  go_loop [5, 6] (fun v i => ∃ k : Nat, k ≤ n ∧ i = .int .i64 k ∧ v = .int .u32 (sumN q (zs.take k) : Nat)) (fun _ i => n - (intOf i).toNat)
  case atStart => exact ⟨0, by omega, rfl, rfl⟩
  case round =>
    obtain ⟨k, hk, rfl, rfl⟩ := hrel
    by_cases c1 : k < n
    · obtain ⟨b, off, rfl, hb, hc⟩ := hi.at_ (i := k) (by rw [HZ.out]; omega)
      have f1 := hc k (by rw [HZ.out]; omega)
      clear hc
      have bk := bytes_get bz k
      have hl : sumN q (zs.take k) < 16777216 := sumN_lt q _ Hq (bytes_take bz k)
      obtain ⟨x, hx⟩ : ∃ x : Nat, zs.getD k 0 = (x : Int) := ⟨(zs.getD k 0).toNat, by omega⟩
      rw [hx] at f1 bk
      have hx2 : x < 256 := by omega
      have HS : Hid (bitsN 8 (sumN q (zs.take k)) x = sumN q (zs.take (k + 1))) := Lib.hid (by rw [bits8 _ _ hx2, sumN_snoc q zs k (by rw [HZ.out]; exact c1), hx, Int.toNat_natCast])
      clear hx
      generalize sumN q (zs.take k) = s at *
      go_wp2_with fail
      go_loop [5, 7, 8] (fun v u i => ∃ j : Nat, j ≤ 8 ∧ i = .int .i64 j ∧ v = .int .u32 (bitsN j s x : Nat) ∧ u = .int .u32 (x / 2 ^ j : Nat)) (fun _ _ i => 8 - (intOf i).toNat)
      case atStart => exact ⟨0, by omega, rfl, rfl, by rw [Nat.pow_zero, Nat.div_one]⟩
      case round =>
        obtain ⟨j, hj, rfl, rfl, rfl⟩ := hrel
        by_cases c2 : j < 8
        · have hl2 : bitsN j s x < 16777216 := bitsN_lt _ _ _ hl
          have hd : x / 2 ^ j ≤ x := Nat.div_le_self _ _
          have HJ : Hid (tick (bitsN j s x ^^^ x / 2 ^ j % 2) = bitsN (j + 1) s x) := Lib.hid (bitsN_last _ _ _).symm
          have HD : Hid (x / 2 ^ j / 2 = x / 2 ^ (j + 1)) := Lib.hid (by rw [Nat.div_div_eq_div_mul, Nat.pow_succ])
          generalize bitsN j s x = t at *
          generalize x / 2 ^ j = y at *
          go_wp2_with (go_at_call 80; refine (rfeed_to t (y % 2) (by rfl) (by omega) hl2 (by omega)).mono ?_; rintro e w2 ⟨rfl, rfl⟩)
          go_round
          case rel => exact ⟨j + 1, by omega, by go_num, by rw [HJ.out], by rw [← HD.out] <;> go_num⟩
          case measure => simp [intOf]; omega
        · obtain rfl : j = 8 := by omega
          go_wp2_with fail
          go_round
          case rel => exact ⟨k + 1, by omega, by go_num, by rw [HS.out]⟩
          case measure => simp [intOf]; omega
    · obtain rfl : k = n := by omega
      have HT : Hid (zs.take k = zs) := Lib.hid (List.take_of_length_le (by rw [HZ.out]; omega))
      go_wp2_with fail
      go_ret
      exact ⟨Ser.ret_int (by rw [HT.out]), rfl⟩
end Go.Proofs.YtkbhmgdmkamcfaaDoor.Crc
