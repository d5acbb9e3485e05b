/- Texts of addresses: what the reference writes: contracts over the program. -/
import Derived.Test.YtchjopgcbpopcaaDoorAdrRefAll
import Derived.Test.YtchjopgcbpopcaaDoorAdrOct
import Derived.Test.YtchjopgcbpopcaaDoorAdrTxt
import Derived.Deep.RegionLaw
set_option linter.unusedVariables false
set_option linter.unusedSimpArgs false
namespace Go.Proofs.YtchjopgcbpopcaaDoor.Adr
open Go.RowKit Mem Oct Base

theorem psra_at (k : Nat) (h : k < 4) : ((({ data := #[112, 115, 114, 97] } : ByteArray)[k]'(by show k < 4; omega)).toNat : Int) = letZ (k + 1) := by
  match k, h with
  | 0, _ => rfl
  | 1, _ => rfl
  | 2, _ => rfl
  | 3, _ => rfl
theorem psra_atI (k : Int) (h : 1 ≤ k ∧ k ≤ 4) : ((({ data := #[112, 115, 114, 97] } : ByteArray)[k.toNat - 1]'(by show k.toNat - 1 < 4; omega)).toNat : Int) = letZ k := by
  have := psra_at (k.toNat - 1) (by omega)
  rw [this]; congr 1; omega
theorem num_byt (b : Int) (j : Nat) (h : j < 6) (hb : 0 ≤ b) : (numL 6 b).getD (5 - j) 0 = byt b j := by
  have hj : j = 0 ∨ j = 1 ∨ j = 2 ∨ j = 3 ∨ j = 4 ∨ j = 5 := by omega
  rcases hj with rfl | rfl | rfl | rfl | rfl | rfl <;> simp [numL, byt] <;> omega
theorem rtL_bytes_len (b : Int) (j : Nat) : (rtL b (j + 1)).length = 3 * j + 2 := by rw [rtL_len, if_neg (by omega)]; omega
theorem rtext_bad (k b : Int) (w : World) (hk : -9223372036854775808 ≤ k ∧ k ≤ 9223372036854775807) (hb : 0 ≤ b ∧ b ≤ 18446744073709551615) (h : ¬ chk k b = 0) :
    Calls Tryd.prog 22 #[.agg #[.int .i64 k, .int .u64 b]] w fun e w' => e = .returned (.string (strOfNums [])) ∧ Below w.heap.size w w' := by
  have hB : Below w.heap.size w (w.alloc (.cells #[.int .i64 k, .int .u64 b] 24)) := (Below.refl _ _).alloc (Nat.le_refl _) _
  have hc := rcheck_any k b (w.alloc (.cells #[.int .i64 k, .int .u64 b] 24)) hk hb
  have F := box_new w k b
  have c0 := F.c0
  have c1 := F.c1
  generalize chk k b = c at *
  have hne : (c != 0) = true := by simpa using h
  go_enter Tryd.func22, Tryd.ntmps22
  go_wp2_with (go_at_call 13; refine hc.mono ?_; rintro e w1 ⟨rfl, hb1⟩)
  go_ret
  exact ⟨rfl, thenB hB hb1⟩
set_option maxHeartbeats 1000000 in
theorem rtext_good (k b : Int) (w : World) (hb : 0 ≤ b ∧ b ≤ 18446744073709551615) (h : chk k b = 0) :
    Calls Tryd.prog 22 #[.agg #[.int .i64 k, .int .u64 b]] w fun e w' => e = .returned (.string (strOfNums (txtL b 6 ++ [letZ k]))) ∧ Below w.heap.size w w' := by
  obtain ⟨i0, hi, hz0, hz1, hz2⟩ := info_parts info_u8
  have hk := (chk_ok h).1
  have hB : Below w.heap.size w (w.alloc (.cells #[.int .i64 k, .int .u64 b] 24)) := (Below.refl _ _).alloc (Nat.le_refl _) _
  have hc := rcheck_any k b (w.alloc (.cells #[.int .i64 k, .int .u64 b] 24)) (by omega) hb
  have F := box_new w k b
  have c0 := F.c0
  have c1 := F.c1
  rw [h] at hc
  go_enter Tryd.func22, Tryd.ntmps22
  go_wp2_with fail
  refine hc.mono ?_
  rintro e w1 ⟨rfl, hb1⟩
  have F1 := F.below hb1
  have hB1 := thenB hB hb1
  have d0 := F1.c0
  have d1 := F1.c1
  clear F c0 c1 hb1 hB hc
  go_wp2_with fail
  refine (rnum_any 6 b _ (by omega) hb).mono ?_
  intro e w2 m2
  replace m2 : Makes w1 w2 e (numL 6 b) := m2
  obtain ⟨A2, c2, rfl, own2, b2⟩ := m2
  rw [numL_len] at own2 ⊢
  have F2 := F1.below b2
  have hB2 := thenB hB1 b2
  have hi2 := Ints.own own2
  clear F1 d0 d1 own2 b2 hB1
  go_wp2_with fail
  go_loopw [4, 5] (fun v i wr => ∃ j : Nat, j ≤ 6 ∧ i = .int .i64 (5 - (j : Int)) ∧ wr.ownsRow w2.heap.size 5 1 v (rtL b j).length ((rtL b j).map (Value.int .u8)) ∧ Below w2.heap.size w2 wr) (fun _ i _ => ((intOf i) + 1).toNat)
  case atStart => exact ⟨0, by omega, by go_num, World.ownsRow_made _ _ 0 (Nat.le_refl _) (by unfold maxLen; omega) rfl, (Below.refl _ _).alloc (Nat.le_refl _) _⟩
  case round =>
    obtain ⟨j, hj, rfl, hown, hbel⟩ := hrel
    have F3 := F2.below hbel
    have d0 := F3.c0
    have d1 := F3.c1
    by_cases hlt6 : j < 6
    · obtain ⟨x, hx⟩ : ∃ x, byt b j = x := ⟨_, rfl⟩
      have bx := byt_bd b j
      rw [hx] at bx
      obtain ⟨b2_, off, hA, hlt2, hcell0⟩ := hi2.at_ (i := 5 - j) (by rw [numL_len]; omega)
      have fx0 := hcell0 (5 - j) (by rw [numL_len]; omega)
      rw [num_byt b j hlt6 hb.1, hx] at fx0
      have fx : wr.cell? ⟨b2_, off + (5 - j), none⟩ = some (.int .u8 x) := (hbel.cell (p := ⟨b2_, off + (5 - j), none⟩) hlt2).trans fx0
      clear hcell0
      subst hA
      have hts : Hid (rtL b (j + 1) = (if j = 0 then rtL b j else rtL b j ++ [58]) ++ [hexU (x / 16), hexU (x % 16)]) := Lib.hid (by rw [← hx]; rfl)
      clear hx
      have g1 := up_at (x / 16) (by omega)
      have g2 := up_at (x % 16) (by omega)
      have g3 : 0 ≤ x / 16 ∧ x / 16 < 16 := by omega
      have g4 : 0 ≤ x % 16 ∧ x % 16 < 16 := by omega
      have q1 := quo16 x bx
      have q2 := rem16 x bx
      have t1 : (5 - (j : Int)).toNat = 5 - j := by omega
      have p0 : (0 : Int) ≤ 5 - (j : Int) := by omega
      have p1 : 5 - (j : Int) < 6 := by omega
      by_cases hj0 : j = 0
      · rw [hj0, show rtL b 0 = [] from rfl] at hown
        rw [if_pos hj0, show rtL b j = [] by rw [hj0]; rfl] at hts
        have hjc : ¬ (5 - (j : Int) < 5) := by omega
        have hl0 : Hid (3 * j = 0) := Lib.hid (by omega)
        have HJ := Lib.hid hj0
        clear hj0
        go_wp2_with fail
        have fx1 : wr.drew.cell? ⟨b2_, off + (5 - j), none⟩ = some (.int .u8 x) := fx
        have fx2 : ((wr.drew).alloc (.cells #[.int .u8 (hexU (x / 16)), .int .u8 (hexU (x % 16))] 5)).cell? ⟨b2_, off + (5 - j), none⟩ = some (.int .u8 x) := (((Below.refl wr.drew.heap.size wr.drew).alloc (Nat.le_refl _) _).cell (p := ⟨b2_, off + (5 - j), none⟩) (by show b2_ < wr.heap.size; have := hbel.size; omega)).trans fx1
        have bs := (hown.drew).alloc (.cells #[.int .u8 (hexU (x / 16)), .int .u8 (hexU (x % 16))] 5)
        go_region_held3 (fun w' => w'.cell? ⟨b2_, off + (5 - j), none⟩ = some (.int .u8 x)) (first | exact fx1 | exact fx2 | exact fx3) (first | (refine step_append_ints rfl (.tmp 22) (.tmp 35) 31 rfl .u8 w2.heap.size 5 i0 _ 1 Tryd.underlying31 hi hz0 hz1 hz2 rfl _ (0) _ rfl bs (wr.drew.heap.size + 1) _ 2 2 [hexU (x / 16), hexU (x % 16)] rfl rfl (Ints.lit .u8 wr.drew [hexU (x / 16), hexU (x % 16)] _ _ rfl) (by unfold maxLen; omega) (by omega) (by simp; have := hbel.size; omega) ?_; intro v5 w5 hown5 hb5 _; have fx3 : w5.cell? ⟨b2_, off + (5 - j), none⟩ = some (.int .u8 x) := (hb5.cell (p := ⟨b2_, off + (5 - j), none⟩) hlt2).trans fx2))
        all_goals
          have HS : Hid (w5.ownsRow w2.heap.size 5 1 v5 (rtL b (j + 1)).length ((rtL b (j + 1)).map (Value.int .u8))) := by
            refine Lib.hid ?_
            rw [rtL_bytes_len, hl0.out]
            rw [hts.out]
            simpa [Nat.add_assoc] using hown5
          have HB := Lib.hid (((hbel.drew).alloc (by show w2.heap.size ≤ wr.heap.size; exact hbel.size) (.cells #[.int .u8 (hexU (x / 16)), .int .u8 (hexU (x % 16))] 5)).trans hb5)
          clear hown5 hb5 bs
          go_wp2
          go_roundw
          case rel => exact ⟨j + 1, by omega, by go_num, HS.out, HB.out⟩
          case measure => simp [intOf]; omega
      · rw [if_neg hj0] at hts
        have hlr : (rtL b j).length = 3 * j - 1 := by rw [rtL_len, if_neg hj0]
        rw [hlr] at hown
        have hjc : 5 - (j : Int) < 5 := by omega
        have HJ := Lib.hid hj0
        obtain ⟨m, hm⟩ : ∃ m, 3 * j - 1 = m := ⟨_, rfl⟩
        have hm3 : 3 * j = m + 1 := by omega
        have hm20 : m ≤ 20 := by omega
        rw [hm] at hown
        clear hlr hj0 hm
        go_wp2_with (at_builtin; refine wpList_append_ints rfl _ _ 31 rfl .u8 w2.heap.size 5 i0 _ 1 Tryd.underlying31 hi hz0 hz1 hz2 rfl _ m _ rfl (hown.alloc _) (wr.heap.size + 1) _ 1 1 [58] rfl rfl ?c1 ?c2 ?c3 ?c4 ?_; (case c1 => exact Ints.lit _ _ _ _ _ rfl); (case c2 => unfold maxLen; omega); (case c3 => omega); (case c4 => have := hbel.size; simp; omega); intro v4 w4 hown4 hb4 _; have hbel4 : Below w2.heap.size w2 w4 := (hbel.alloc hbel.size _).trans hb4; have fx4 : w4.cell? ⟨b2_, off + (5 - j), none⟩ = some (.int .u8 x) := (hbel4.cell (p := ⟨b2_, off + (5 - j), none⟩) hlt2).trans fx0)
        have fx1 : w4.drew.cell? ⟨b2_, off + (5 - j), none⟩ = some (.int .u8 x) := fx4
        have fx2 : ((w4.drew).alloc (.cells #[.int .u8 (hexU (x / 16)), .int .u8 (hexU (x % 16))] 5)).cell? ⟨b2_, off + (5 - j), none⟩ = some (.int .u8 x) := (((Below.refl w4.drew.heap.size w4.drew).alloc (Nat.le_refl _) _).cell (p := ⟨b2_, off + (5 - j), none⟩) (by show b2_ < w4.heap.size; have := hbel4.size; omega)).trans fx1
        have bs := (hown4.drew).alloc (.cells #[.int .u8 (hexU (x / 16)), .int .u8 (hexU (x % 16))] 5)
        go_region_held3 (fun w' => w'.cell? ⟨b2_, off + (5 - j), none⟩ = some (.int .u8 x)) (first | exact fx1 | exact fx2 | exact fx3) (first | (refine step_append_ints rfl (.tmp 22) (.tmp 35) 31 rfl .u8 w2.heap.size 5 i0 _ 1 Tryd.underlying31 hi hz0 hz1 hz2 rfl _ (m + 1) _ rfl bs (w4.drew.heap.size + 1) _ 2 2 [hexU (x / 16), hexU (x % 16)] rfl rfl (Ints.lit .u8 w4.drew [hexU (x / 16), hexU (x % 16)] _ _ rfl) (by unfold maxLen; omega) (by omega) (by simp; have := hbel4.size; omega) ?_; intro v5 w5 hown5 hb5 _; have fx3 : w5.cell? ⟨b2_, off + (5 - j), none⟩ = some (.int .u8 x) := (hb5.cell (p := ⟨b2_, off + (5 - j), none⟩) hlt2).trans fx2))
        all_goals
          have HS : Hid (w5.ownsRow w2.heap.size 5 1 v5 (rtL b (j + 1)).length ((rtL b (j + 1)).map (Value.int .u8))) := by
            refine Lib.hid ?_
            rw [rtL_bytes_len, hm3]
            rw [hts.out]
            simpa [Nat.add_assoc] using hown5
          have HB := Lib.hid (((hbel4.drew).alloc (by show w2.heap.size ≤ w4.heap.size; exact hbel4.size) (.cells #[.int .u8 (hexU (x / 16)), .int .u8 (hexU (x % 16))] 5)).trans hb5)
          clear hown5 hb5 bs
          go_wp2
          go_roundw
          case rel => exact ⟨j + 1, by omega, by go_num, HS.out, HB.out⟩
          case measure => simp [intOf]; omega
    · have hjn : j = 6 := by omega
      subst hjn
      have hl : (rtL b 6).length = 17 := rtL_bytes_len b 5
      rw [hl] at hown
      have ps := psra_atI k hk
      have p0 : (0 : Int) ≤ k - 1 := by omega
      have p1 : k - 1 < 4 := by omega
      have HE : Hid (rtL b 6 ++ [47, letZ k] = txtL b 6 ++ [letZ k]) := Lib.hid (rtL_all b (letZ k))
      clear hl
      go_wp2_with (at_builtin; refine wpList_append_ints rfl _ _ 31 rfl .u8 w2.heap.size 5 i0 _ 1 Tryd.underlying31 hi hz0 hz1 hz2 rfl _ 17 _ rfl (hown.alloc _) (wr.heap.size + 1) _ 2 2 [47, letZ k] rfl rfl ?c1 ?c2 ?c3 ?c4 ?_; (case c1 => exact Ints.lit _ _ _ _ _ rfl); (case c2 => unfold maxLen; omega); (case c3 => omega); (case c4 => have := hbel.size; simp; omega); intro v5 w5 hown5 hb5 _; obtain ⟨A5, c5, rfl⟩ := own_form hown5; have hown6 : w5.ownsRow w2.heap.size 5 1 (.slice A5 19 c5) 19 ((txtL b 6 ++ [letZ k]).map (Value.int .u8)) := (by rw [← HE.out, List.map_append]; exact hown5); have ks := run_string_ints (P := Tryd.prog) 31 5 Tryd.underlying31 Tryd.underlying5 Tryd.underlying9 w5.heap.size A5 19 c5 (txtL b 6 ++ [letZ k]) (by simp [txtL_len]) (Ints.own hown6))
      go_ret
      exact ⟨rfl, thenB hB2 ((hbel.alloc hbel.size _).trans hb5)⟩
end Go.Proofs.YtchjopgcbpopcaaDoor.Adr
