/- Texts of addresses: what the program and the reference write: contracts over the program. -/
import Derived.Test.YtkbjfmfkpdlogaaDoorAdrCheck
import Derived.Test.YtkbjfmfkpdlogaaDoorAdrTxt
import Derived.Deep.RegionLaw
set_option linter.unusedVariables false
set_option linter.unusedSimpArgs false
namespace Go.Proofs.YtkbjfmfkpdlogaaDoor.Adr
open Go.RowKit Mem Oct Base

theorem lets_at (k : Int) (hk : 1 ≤ k ∧ k ≤ 4) : lets.getD k.toNat 0 = letZ k := by
  have : k = 1 ∨ k = 2 ∨ k = 3 ∨ k = 4 := by omega
  rcases this with rfl | rfl | rfl | rfl <;> rfl
theorem text_bad (k b : Int) (w : World) (hk : -9223372036854775808 ≤ k ∧ k ≤ 9223372036854775807) (hb : 0 ≤ b ∧ b ≤ 18446744073709551615) (hT : Tab w) (h : ¬ chk k b = 0) :
    Calls Tryd.prog 20 #[.agg #[.int .i64 k, .int .u64 b]] w fun e w' => e = .returned (.string (strOfNums [])) ∧ Below w.heap.size w w' := by
  have hB : Below w.heap.size w (w.alloc (.cells #[.int .i64 k, .int .u64 b] 26)) := (Below.refl _ _).alloc (Nat.le_refl _) _
  have T1 := hT.below hB
  have hc := check_any k b (w.alloc (.cells #[.int .i64 k, .int .u64 b] 26)) hk hb T1
  have F := box_new w k b
  have c0 := F.c0
  have c1 := F.c1
  generalize chk k b = c at *
  have hne : (c != 0) = true := by simpa using h
  go_enter Tryd.func20, Tryd.ntmps20
  go_wp2_with (go_at_call 18; refine hc.mono ?_; rintro e w1 ⟨rfl, hb1⟩)
  go_ret
  exact ⟨rfl, thenB hB hb1⟩
theorem text_good (k b : Int) (w : World) (hb : 0 ≤ b ∧ b ≤ 18446744073709551615) (hT : Tab w) (h : chk k b = 0) :
    Calls Tryd.prog 20 #[.agg #[.int .i64 k, .int .u64 b]] w fun e w' => e = .returned (.string (strOfNums (txtL b 6 ++ [letZ k]))) ∧ Below w.heap.size w w' := by
  obtain ⟨i0, hi, hz0, hz1, hz2⟩ := info_parts info_u8
  have hk := (chk_ok h).1
  have hB : Below w.heap.size w (w.alloc (.cells #[.int .i64 k, .int .u64 b] 26)) := (Below.refl _ _).alloc (Nat.le_refl _) _
  have T1 := hT.below hB
  have hc := check_any k b (w.alloc (.cells #[.int .i64 k, .int .u64 b] 26)) (by omega) hb T1
  have F := box_new w k b
  have c0 := F.c0
  have c1 := F.c1
  have hlt := lets_at k hk
  rw [h] at hc
  go_enter Tryd.func20, Tryd.ntmps20
  go_wp2_with (go_at_call 18; refine hc.mono ?_; rintro e w1 ⟨rfl, hb1⟩)
  have F1 := F.below hb1
  have T2 := T1.below hb1
  have hB1 := thenB hB hb1
  clear F c0 c1 T1 hT hb1 hB hc
  go_loopw [3, 9] (fun v i wr => ∃ j : Nat, j ≤ 6 ∧ i = .int .i64 j ∧ wr.ownsRow w1.heap.size 5 1 v (3 * j) ((txtL b j).map (Value.int .u8)) ∧ Below w1.heap.size w1 wr) (fun _ i _ => 6 - (intOf i).toNat)
  case atStart => exact ⟨0, by omega, rfl, World.ownsRow_nil _ _ _ _, Below.refl _ _⟩
  case round =>
    obtain ⟨j, hj, rfl, hown, hbel⟩ := hrel
    have F2 := F1.below hbel
    have d0 := F2.c0
    have d1 := F2.c1
    by_cases hlt6 : j < 6
    · obtain ⟨x, hx⟩ : ∃ x, byt b j = x := ⟨_, rfl⟩
      have bx := byt_bd b j
      have E1 : Hid (b / 2 ^ (8 * (5 - j)) % 256 = x) := Lib.hid hx
      rw [hx] at bx
      have hts : Hid (txtL b (j + 1) = txtL b j ++ [hexU (x / 16), hexU (x % 16), endZ j]) := Lib.hid (by rw [← hx]; rfl)
      clear hx
      have g1 := up_at (x / 16) (by omega)
      have g2 := up_at (x % 16) (by omega)
      have g3 : 0 ≤ x / 16 ∧ x / 16 < 16 := by omega
      have g4 : 0 ≤ x % 16 ∧ x % 16 < 16 := by omega
      have g5 := end_at_nat j hlt6
      have g6 : 0 ≤ (j : Int) ∧ (j : Int) < 6 := by omega
      have q1 := and15 x bx
      have bs := (hown.alloc (.cells #[.int .u8 (hexU (x / 16)), .int .u8 (hexU (x % 16)), .int .u8 (endZ j)] 5)).drew
      go_wp2_with fail
      rw [E1.out]
      go_region_law (refine step_append_ints rfl (.tmp 19) (.tmp 28) 22 rfl .u8 w1.heap.size 5 i0 _ 1 Tryd.underlying22 hi hz0 hz1 hz2 rfl _ (3 * j) _ rfl bs (wr.heap.size + 1) _ 3 3 [hexU (x / 16), hexU (x % 16), endZ j] rfl rfl (Ints.drew (Ints.lit .u8 wr [hexU (x / 16), hexU (x % 16), endZ j] _ _ rfl)) (by unfold maxLen; omega) (by omega) (by simp; have := hbel.size; omega) ?_; intro v2 w2 hown2 hb2 _)
      all_goals
        have HS : Hid (w2.ownsRow w1.heap.size 5 1 v2 (3 * (j + 1)) ((txtL b (j + 1)).map (Value.int .u8))) := by
          refine Lib.hid ?_
          rw [hts.out]
          simpa [Nat.mul_add] using hown2
        have HB := Lib.hid (((hbel.alloc hbel.size (.cells #[.int .u8 (hexU (x / 16)), .int .u8 (hexU (x % 16)), .int .u8 (endZ j)] 5)).drew).trans hb2)
        clear hown2 hb2 bs
        go_wp2
        go_roundw
        case rel => exact ⟨j + 1, by omega, by go_num, HS.out, HB.out⟩
        case measure => simp [intOf]; omega
    · have hjn : j = 6 := by omega
      subst hjn
      have T3 := T2.below hbel
      have tl : wr.cell? ⟨2, k.toNat, none⟩ = some (.int .u8 (letZ k)) := by
        rw [← hlt]; exact T3.2.2.2 k.toNat (by omega)
      have g1 : (0 : Int) ≤ k := by omega
      have g2 : k < 5 := by omega
      go_wp2_with (at_builtin; refine wpList_append_ints rfl _ _ 22 rfl .u8 w1.heap.size 5 i0 _ 1 Tryd.underlying22 hi hz0 hz1 hz2 rfl _ 18 _ rfl (hown.alloc _) (wr.heap.size + 1) _ 1 1 [letZ k] rfl rfl ?c1 ?c2 ?c3 ?c4 ?_; (case c1 => exact Ints.lit _ _ _ _ _ rfl); (case c2 => unfold maxLen; omega); (case c3 => omega); (case c4 => have := hbel.size; simp; omega); intro v2 w2 hown2 hb2 _; obtain ⟨A2, c2, rfl⟩ := own_form hown2; have hown3 : w2.ownsRow w1.heap.size 5 1 (.slice A2 19 c2) 19 ((txtL b 6 ++ [letZ k]).map (Value.int .u8)) := (by rw [List.map_append]; exact hown2); have ks := run_string_ints (P := Tryd.prog) 22 5 Tryd.underlying22 Tryd.underlying5 Tryd.underlying9 w2.heap.size A2 19 c2 (txtL b 6 ++ [letZ k]) (by simp [txtL_len]) (Ints.own hown3))
      go_ret
      exact ⟨rfl, thenB hB1 ((hbel.alloc hbel.size _).trans hb2)⟩
end Go.Proofs.YtkbjfmfkpdlogaaDoor.Adr
