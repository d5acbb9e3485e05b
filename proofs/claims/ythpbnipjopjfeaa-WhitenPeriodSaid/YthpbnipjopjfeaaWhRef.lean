/- What each function of the document's own answers for whitening returns: contracts over the program. -/
import Derived.Test.YthpbnipjopjfeaaWhWalks
set_option linter.unusedVariables false
set_option linter.unusedSimpArgs false
namespace Go.Proofs.Ythpbnipjopjfeaa.Wh
open Go.RowKit Mem Oct Base

theorem rfirst_any (ch : Int) (w : World) (hc : -9223372036854775808 ≤ ch ∧ ch ≤ 9223372036854775807) :
    Calls Try.prog 19 #[.int .i64 ch] w fun e w' => e = .returned (.int .i64 (fst ch)) ∧ w = w' := by
  go_enter Try.func19, Try.ntmps19
  go_wp2
  go_ret
  exact ⟨rfl, rfl⟩
theorem rstep_any (r : Int) (w : World) (hr : 0 ≤ r ∧ r ≤ 127) :
    Calls Try.prog 20 #[.int .i64 r] w fun e w' => e = .returned (.int .i64 (stp r)) ∧ w = w' := by
  by_cases h : r < 64
  · have H := Lib.hid (rstep_lo r hr.1 h)
    go_enter Try.func20, Try.ntmps20
    go_wp2_with fail
    go_ret
    exact ⟨Ser.ret_int H.out, rfl⟩
  · have H := Lib.hid (rstep_hi r (by omega) hr.2)
    go_enter Try.func20, Try.ntmps20
    go_wp2_with fail
    go_ret
    exact ⟨Ser.ret_int H.out, rfl⟩
theorem rstate_any (ch n : Int) (w : World) (hc : -9223372036854775808 ≤ ch ∧ ch ≤ 9223372036854775807) (hn : -9223372036854775808 ≤ n ∧ n ≤ 9223372036854775807) :
    Calls Try.prog 10 #[.int .i64 ch, .int .i64 n] w fun e w' => e = .returned (.int .i64 (stateZ ch n)) ∧ w = w' := by
  obtain ⟨m, hm⟩ : ∃ m : Nat, max 0 (min n 524288) = (m : Int) := ⟨(max 0 (min n 524288)).toNat, by omega⟩
  have hm1 : m ≤ 524288 := by omega
  have H : Hid (it m (fst ch) = stateZ ch n) := Lib.hid (by unfold stateZ lim; rw [hm]; rfl)
  have hf := fst_in ch
  go_enter Try.func10, Try.ntmps10
  go_wp2_with (go_at_call 19; refine (rfirst_any _ _ (by omega)).mono ?_; rintro e w' ⟨rfl, rfl⟩)
  generalize max 0 (min n 524288) = M at *
  subst hm
  go_loop [5, 6] (fun v i => ∃ k : Nat, k ≤ m ∧ i = .int .i64 k ∧ v = .int .i64 (it k (fst ch))) (fun _ i => m - (intOf i).toNat)
  case atStart => exact ⟨0, by omega, rfl, rfl⟩
  case round =>
    obtain ⟨k, hk, rfl, rfl⟩ := hrel
    by_cases c1 : k < m
    · have hb := it_bd k (fst ch) hf
      have HS := Lib.hid (it_succ k (fst ch))
      go_wp2_with (go_at_call 20; refine (rstep_any _ _ hb).mono ?_; rintro e w' ⟨rfl, rfl⟩)
      go_round
      case rel => exact ⟨k + 1, by omega, by go_num, by rw [HS.out]⟩
      case measure => simp [intOf]; omega
    · obtain rfl : k = m := by omega
      go_wp2_with fail
      go_ret
      exact ⟨Ser.ret_int H.out, rfl⟩
theorem rsequence_any (ch : Int) (n : Nat) (w : World) (hc : -9223372036854775808 ≤ ch ∧ ch ≤ 9223372036854775807) (hn : n ≤ 65536) :
    Calls Try.prog 22 #[.int .i64 ch, .int .i64 n] w fun e w' => Makes w w' e (seqL (fst ch) n) := by
  obtain ⟨i0, hi, hz0, hz1, hz2⟩ := info_parts info_u8
  have hf := fst_in ch
  go_enter Try.func22, Try.ntmps22
  go_wp2_with (go_at_call 19; refine (rfirst_any _ _ (by omega)).mono ?_; rintro e w' ⟨rfl, rfl⟩)
  go_loopw [5, 6, 7] (fun v r i wr => ∃ k : Nat, k ≤ n ∧ i = .int .i64 k ∧ r = .int .i64 (it (8 * k) (fst ch)) ∧ wr.ownsRow w.heap.size 5 1 v k ((seqL (fst ch) k).map (Value.int .u8)) ∧ Below w.heap.size w wr) (fun _ _ i _ => n - (intOf i).toNat)
  case atStart => exact ⟨0, by omega, rfl, rfl, World.ownsRow_made _ _ 0 (Nat.le_refl _) (by unfold maxLen; omega) rfl, (Below.refl _ _).alloc (Nat.le_refl _) _⟩
  case round =>
    obtain ⟨k, hk, rfl, rfl, hown, hbel⟩ := hrel
    by_cases c1 : k < n
    · have hb := it_bd (8 * k) (fst ch) hf
      have HS := Lib.hid (it_8 k (fst ch))
      have HQ := Lib.hid (seqL_snoc (fst ch) k)
      have ho := octB_bd (it (8 * k) (fst ch)) hb
      have HO : Hid (val 8 (it (8 * k) (fst ch)) = octB (it (8 * k) (fst ch))) := Lib.hid rfl
      generalize it (8 * k) (fst ch) = r at *
      go_wp2_with fail
      go_loop [6, 8, 9, 10] (fun u c p i => ∃ j : Nat, j ≤ 8 ∧ i = .int .i64 j ∧ u = .int .i64 (it j r) ∧ c = .int .i64 (val j r) ∧ p = .int .i64 (Ser.p2 j)) (fun _ _ _ i => 8 - (intOf i).toNat)
      case atStart => exact ⟨0, by omega, rfl, rfl, rfl, rfl⟩
      case round =>
        obtain ⟨j, hj, rfl, rfl, rfl, rfl⟩ := hrel
        by_cases c2 : j < 8
        · have hb2 := it_bd j r hb
          have HJ := Lib.hid (it_succ j r)
          have HV := Lib.hid (val_succ j r)
          have hv := val_bd j r hb
          have hp := Ser.p2_pos j
          have hp8 := Ser.p2_mono j 8 hj
          rw [show Ser.p2 8 = 256 by decide] at hp8
          have HP := Lib.hid (Ser.p2_succ j)
          have hprod : 0 ≤ Ser.p2 j * (it j r / 64) ∧ Ser.p2 j * (it j r / 64) ≤ 256 := by
            by_cases h : it j r < 64
            · rw [bit_low _ hb2.1 h]; omega
            · rw [bit_high _ (by omega) hb2.2]; omega
          go_wp2_with (go_at_call 20; refine (rstep_any _ _ hb2).mono ?_; rintro e w' ⟨rfl, rfl⟩)
          go_round
          case rel => exact ⟨j + 1, by omega, by go_num, by rw [HJ.out], by rw [HV.out, Int.mul_comm (it j r / 64)], by rw [← HP.out]⟩
          case measure => simp [intOf]; omega
        · obtain rfl : j = 8 := by omega
          rw [HO.out]
          have HW : IntKind.u8.wrap (octB r) = octB r := by rw [IntKind.wrap_u8']; omega
          have bs := hown.alloc (.cells #[.int .u8 (octB r)] 5)
          go_wp2_with (at_builtin; refine wpList_append_ints rfl _ _ 26 rfl .u8 w.heap.size 5 i0 _ 1 Try.underlying26 hi hz0 hz1 hz2 rfl _ k _ rfl bs (wr.heap.size + 1) _ 1 1 [octB r] rfl rfl (Ints.lit .u8 wr [octB r] _ _ rfl) ?c2 ?c3 ?c4 ?_; (case c2 => unfold maxLen; omega); (case c3 => omega); (case c4 => simp; have := hbel.size; omega); intro v2 w2 hown2 hb2 _)
          have HS2 : Hid (w2.ownsRow w.heap.size 5 1 v2 (k + 1) ((seqL (fst ch) (k + 1)).map (Value.int .u8))) := Lib.hid (by rw [HQ.out, List.map_append]; exact hown2)
          have HB := Lib.hid ((hbel.alloc hbel.size (.cells #[.int .u8 (octB r)] 5)).trans hb2)
          clear hown2 hb2 bs
          go_wp2_with fail
          go_roundw
          case rel => exact ⟨k + 1, by omega, by go_num, by rw [HS.out], HS2.out, HB.out⟩
          case measure => simp [intOf]; omega
    · obtain rfl : k = n := by omega
      go_wp2_with fail
      go_ret
      exact makes_of rfl (seqL_len _ _) hown hbel
theorem rstream_any (ch n : Int) (w : World) (hc : -9223372036854775808 ≤ ch ∧ ch ≤ 9223372036854775807) (hn : -9223372036854775808 ≤ n ∧ n ≤ 9223372036854775807) :
    Calls Try.prog 13 #[.int .i64 ch, .int .i64 n] w fun e w' => Makes w w' e (seqL (fst ch) (lim2 n)) := by
  obtain ⟨m, hm⟩ : ∃ m : Nat, max 0 (min n 65536) = (m : Int) := ⟨(max 0 (min n 65536)).toNat, by omega⟩
  have hm1 : lim2 n = m := by unfold lim2; omega
  rw [hm1]
  go_enter Try.func13, Try.ntmps13
  go_wp2_with (go_at_call 22; (try rw [hm]); refine (rsequence_any _ m _ (by omega) (by omega)).mono ?_; rintro e w1 ⟨A, c, rfl, hown, hb⟩)
  go_ret
  exact makes_of rfl rfl hown hb
theorem rapply_any (ch : Int) (A : Option Addr) (n c : Nat) (xs : List Int) (w : World) (hc : -9223372036854775808 ≤ ch ∧ ch ≤ 9223372036854775807) (hx : xs.length = n) (bxs : Bytes xs) (hr : Ints .u8 w w.heap.size A xs) (hn : n ≤ 65536) :
    Calls Try.prog 16 #[.int .i64 ch, .slice A n c] w fun e w' => Makes w w' e (appL ch xs) := by
  obtain ⟨i0, hi, hz0, hz1, hz2⟩ := info_parts info_u8
  have hla : (appL ch xs).length = n := by rw [appL_len, hx]
  have hls : (seqL (fst ch) n).length = n := seqL_len _ _
  have bs0 := seqL_bytes (fst ch) (fst_in ch) n
  have hget := appL_get ch xs
  rw [hx] at hget
  have Hx := Lib.hid hx
  have HA := Lib.hid hla
  have HG := Lib.hid hget
  go_enter Try.func16, Try.ntmps16
  go_wp2_with (go_at_call 22; refine (rsequence_any _ n _ (by omega) (by omega)).mono ?_; intro e w1 m1; obtain ⟨S, cs, rfl, kS, jS, b1⟩ := m1.read hls; clear m1)
  have HL := Lib.hid hls
  clear hx hla hls hget
  have hb0 := b1.alloc b1.size (.cells #[] 5)
  go_loopw [6, 7] (fun v i wr => ∃ k : Nat, k ≤ n ∧ i = .int .i64 k ∧ wr.ownsRow w1.heap.size 5 1 v k (((appL ch xs).take k).map (Value.int .u8)) ∧ Below w1.heap.size w1 wr) (fun _ i _ => n - (intOf i).toNat)
  case atStart => exact ⟨0, by omega, rfl, World.ownsRow_made _ _ 0 (Nat.le_refl _) (by unfold maxLen; omega) rfl, (Below.refl _ _).alloc (Nat.le_refl _) _⟩
  case round =>
    obtain ⟨k, hk, rfl, hown, hbel⟩ := hrel
    by_cases c1 : k < n
    · obtain ⟨b, off, rfl, hb, hcl⟩ := ((hr.below b1).below (hbel.mono b1.size)).at_ (i := k) (by rw [Hx.out]; omega)
      obtain ⟨b', off', rfl, hb', hcl'⟩ := (jS.below hbel).at_ (i := k) (by rw [HL.out]; omega)
      have f1 := hcl k (by rw [Hx.out]; omega)
      have f2 := hcl' k (by rw [HL.out]; omega)
      clear hcl hcl'
      have fx := bx_code _ _ (bytes_get bxs k) (bytes_get bs0 k)
      have fg := HG.out k c1
      rw [bx_comm] at fg
      have fs := snoc_map (appL ch xs) k _ (by rw [HA.out]; exact c1) fg
      have HF := Lib.hid fs
      clear fs fg
      generalize (seqL (fst ch) n).getD k 0 = sk at *
      generalize xs.getD k 0 = xk at *
      have bs := (hown.alloc (.cells #[.int .u8 (bx xk sk)] 5)).drew
      go_wp2_with fail
      go_region_law (refine step_append_ints rfl (.tmp 19) (.tmp 29) 26 rfl .u8 w1.heap.size 5 i0 _ 1 Try.underlying26 hi hz0 hz1 hz2 rfl _ k _ rfl bs (wr.heap.size + 1) _ 1 1 [bx xk sk] rfl rfl (Ints.drew (Ints.lit .u8 wr [bx xk sk] _ _ rfl)) (by unfold maxLen; omega) (by omega) (by simp; have := hbel.size; omega) ?_; intro v2 w2 hown2 hb2 _)
      all_goals
        have HS : Hid (w2.ownsRow w1.heap.size 5 1 v2 (k + 1) (((appL ch xs).take (k + 1)).map (Value.int .u8))) := Lib.hid (by rw [← HF.out]; exact hown2)
        have HB := Lib.hid (((hbel.alloc hbel.size (.cells #[.int .u8 (bx xk sk)] 5)).drew).trans hb2)
        clear hown2 hb2 bs
        go_wp2
        go_roundw
        case rel => exact ⟨k + 1, by omega, by go_num, HS.out, HB.out⟩
        case measure => simp [intOf]; omega
    · obtain rfl : k = n := by omega
      rw [List.take_of_length_le (by rw [HA.out]; omega)] at hown
      go_wp2_with fail
      go_ret
      exact makes_of rfl HA.out (own_base hown b1.size) (b1.trans (hbel.mono b1.size))
end Go.Proofs.Ythpbnipjopjfeaa.Wh
