/- Hexadecimal text: what the functions of the layer of bytes, and of its specification, return: contracts over the program. -/
import Derived.Test.YtkbhmgdmkamcfaaDoorOctWalks
set_option linter.unusedVariables false
set_option linter.unusedSimpArgs false
namespace Go.Proofs.YtkbhmgdmkamcfaaDoor.Oct
open Go.RowKit Mem

theorem hex_any (A : Option Addr) (n c : Nat) (xs : List Int) (w : World) (hx : xs.length = n) (bxs : Bytes xs) (hr : Ints .u8 w w.heap.size A xs) (hn : n ≤ 70368744177664) :
    Calls Tryd.prog 44 #[.slice A n c] w fun e w' => e = .returned (.string (strOfNums (hexL xs))) ∧ Below w.heap.size w w' := by
  obtain ⟨i0, hi, hz0, hz1, hz2⟩ := info_parts info_u8
  go_enter Tryd.func44, Tryd.ntmps44
  go_wp2_with fail
  have Hx := Lib.hid hx
  clear hx
  go_loopw [3, 8] (fun v i wr => ∃ k : Nat, k ≤ n ∧ i = .int .i64 k ∧ wr.ownsRow w.heap.size 5 1 v (2 * k) ((hexL (xs.take k)).map (Value.int .u8)) ∧ Below w.heap.size w wr) (fun _ i _ => n - (intOf i).toNat)
  case atStart => exact ⟨0, by omega, rfl, World.ownsRow_nil _ _ _ _, Below.refl _ _⟩
  case round =>
    obtain ⟨k, hk, rfl, hown, hbel⟩ := hrel
    by_cases c1 : k < n
    · obtain ⟨b, off, rfl, hb, hc⟩ := (hr.below hbel).at_ (i := k) (by rw [Hx.out]; omega)
      have f1 := hc k (by rw [Hx.out]; omega)
      clear hc
      have bk := bytes_get bxs k
      obtain ⟨x, hxk⟩ : ∃ x, xs.getD k 0 = x := ⟨_, rfl⟩
      rw [hxk] at f1 bk
      have HXK := Lib.hid hxk
      clear hxk
      have g1 := dig_at (x / 16) (by omega)
      have g2 := dig_at (x % 16) (by omega)
      have g3 : 0 ≤ x / 16 ∧ x / 16 < 16 := by omega
      have g4 : 0 ≤ x % 16 ∧ x % 16 < 16 := by omega
      have bs := (hown.alloc (.cells #[.int .u8 (hexD (x / 16)), .int .u8 (hexD (x % 16))] 5)).drew
      have q1 := and15 x bk
      go_wp2_with fail
      go_region_law (refine step_append_ints rfl (.tmp 12) (.tmp 19) 32 rfl .u8 w.heap.size 5 i0 _ 1 Tryd.underlying32 hi hz0 hz1 hz2 rfl _ (2 * k) _ rfl bs (wr.heap.size + 1) _ 2 2 [hexD (x / 16), hexD (x % 16)] rfl rfl (Ints.drew (Ints.lit .u8 wr [hexD (x / 16), hexD (x % 16)] _ _ rfl)) (by unfold maxLen; omega) (by omega) (by simp; have := hbel.size; omega) ?_; intro v2 w2 hown2 hb2 _)
      all_goals
        have HS : Hid (w2.ownsRow w.heap.size 5 1 v2 (2 * (k + 1)) ((hexL (xs.take (k + 1))).map (Value.int .u8))) := by
          refine Lib.hid ?_
          rw [hexL_snoc _ _ _ (by rw [Hx.out]; omega) HXK.out]
          simpa [Nat.mul_add] using hown2
        have HB := Lib.hid (((hbel.alloc hbel.size (.cells #[.int .u8 (hexD (x / 16)), .int .u8 (hexD (x % 16))] 5)).drew).trans hb2)
        clear hown2 hb2 bs
        go_wp2
        go_roundw
        case rel => exact ⟨k + 1, by omega, by go_num, HS.out, HB.out⟩
        case measure => simp [intOf]; omega
    · have hkn : k = n := by omega
      rw [List.take_of_length_le (by rw [Hx.out]; omega)] at hown
      obtain ⟨A2, c2, rfl⟩ := own_form hown
      have ks := run_string_ints (P := Tryd.prog) 32 5 Tryd.underlying32 Tryd.underlying5 Tryd.underlying9 wr.heap.size A2 (2 * k) c2 (hexL xs) (by rw [hexL_len, Hx.out]; omega) (Ints.own hown)
      clear hkn
      go_wp2_with fail
      go_ret
      exact ⟨rfl, hbel⟩
theorem rhex_any (A : Option Addr) (n c : Nat) (xs : List Int) (w : World) (hx : xs.length = n) (bxs : Bytes xs) (hr : Ints .u8 w w.heap.size A xs) (hn : n ≤ 70368744177664) :
    Calls Tryd.prog 48 #[.slice A n c] w fun e w' => e = .returned (.string (strOfNums (hexL xs))) ∧ Below w.heap.size w w' := by
  obtain ⟨i0, hi, hz0, hz1, hz2⟩ := info_parts info_u8
  go_enter Tryd.func48, Tryd.ntmps48
  go_wp2_with fail
  have Hx := Lib.hid hx
  clear hx
  go_loopw [3, 4] (fun v i wr => ∃ k : Nat, k ≤ n ∧ i = .int .i64 k ∧ wr.ownsRow w.heap.size 5 1 v (2 * k) ((hexL (xs.take k)).map (Value.int .u8)) ∧ Below w.heap.size w wr) (fun _ i _ => n - (intOf i).toNat)
  case atStart => exact ⟨0, by omega, rfl, World.ownsRow_made _ _ 0 (Nat.le_refl _) (by unfold maxLen; omega) rfl, (Below.refl _ _).alloc (Nat.le_refl _) _⟩
  case round =>
    obtain ⟨k, hk, rfl, hown, hbel⟩ := hrel
    by_cases c1 : k < n
    · obtain ⟨b, off, rfl, hb, hc⟩ := (hr.below hbel).at_ (i := k) (by rw [Hx.out]; omega)
      have f1 := hc k (by rw [Hx.out]; omega)
      clear hc
      have bk := bytes_get bxs k
      obtain ⟨x, hxk⟩ : ∃ x, xs.getD k 0 = x := ⟨_, rfl⟩
      rw [hxk] at f1 bk
      have HXK := Lib.hid hxk
      clear hxk
      have g1 := dig_at (x / 16) (by omega)
      have g2 := dig_at (x % 16) (by omega)
      have g3 : 0 ≤ x / 16 ∧ x / 16 < 16 := by omega
      have g4 : 0 ≤ x % 16 ∧ x % 16 < 16 := by omega
      have bs := (hown.alloc (.cells #[.int .u8 (hexD (x / 16)), .int .u8 (hexD (x % 16))] 5)).drew
      have q1 := quo16 x bk
      have q2 := rem16 x bk
      go_wp2_with fail
      go_region_law (refine step_append_ints rfl (.tmp 12) (.tmp 25) 32 rfl .u8 w.heap.size 5 i0 _ 1 Tryd.underlying32 hi hz0 hz1 hz2 rfl _ (2 * k) _ rfl bs (wr.heap.size + 1) _ 2 2 [hexD (x / 16), hexD (x % 16)] rfl rfl (Ints.drew (Ints.lit .u8 wr [hexD (x / 16), hexD (x % 16)] _ _ rfl)) (by unfold maxLen; omega) (by omega) (by simp; have := hbel.size; omega) ?_; intro v2 w2 hown2 hb2 _)
      all_goals
        have HS : Hid (w2.ownsRow w.heap.size 5 1 v2 (2 * (k + 1)) ((hexL (xs.take (k + 1))).map (Value.int .u8))) := by
          refine Lib.hid ?_
          rw [hexL_snoc _ _ _ (by rw [Hx.out]; omega) HXK.out]
          simpa [Nat.mul_add] using hown2
        have HB := Lib.hid (((hbel.alloc hbel.size (.cells #[.int .u8 (hexD (x / 16)), .int .u8 (hexD (x % 16))] 5)).drew).trans hb2)
        clear hown2 hb2 bs
        go_wp2
        go_roundw
        case rel => exact ⟨k + 1, by omega, by go_num, HS.out, HB.out⟩
        case measure => simp [intOf]; omega
    · have hkn : k = n := by omega
      rw [List.take_of_length_le (by rw [Hx.out]; omega)] at hown
      obtain ⟨A2, c2, rfl⟩ := own_form hown
      have ks := run_string_ints (P := Tryd.prog) 32 5 Tryd.underlying32 Tryd.underlying5 Tryd.underlying9 wr.heap.size A2 (2 * k) c2 (hexL xs) (by rw [hexL_len, Hx.out]; omega) (Ints.own hown)
      clear hkn
      go_wp2_with fail
      go_ret
      exact ⟨rfl, hbel⟩
end Go.Proofs.YtkbhmgdmkamcfaaDoor.Oct
