/- The document's own results for addresses: each comes out. -/
import Derived.Test.YtkbjfmfkpdlogaaDoorAdrParse2
import Derived.Test.YtkbjfmfkpdlogaaDoorAdrText
import Derived.Test.YtkbjfmfkpdlogaaDoorAdrMake
import Derived.Test.YtkbjfmfkpdlogaaDoorAdrMake2
set_option linter.unusedVariables false
set_option linter.unusedSimpArgs false
namespace Go.Proofs.YtkbjfmfkpdlogaaDoor.Adr
open Go.RowKit Mem Oct Base

theorem random_any (k b : Int) (w : World) (hk : 1 ≤ k ∧ k ≤ 4) (hb : 0 ≤ b ∧ b ≤ 18446744073709551615) (hT : Tab w) :
    Calls Tryd.prog 17 #[.int .i64 k, .int .u64 b] w fun e w' => e = .returned (.agg #[.int .i64 k, .int .u64 (mk k b)]) ∧ Below w.heap.size w w' := by
  have h : k = 1 ∨ k = 2 ∨ k = 3 ∨ k = 4 := by omega
  rcases h with rfl | rfl | rfl | rfl
  · rw [show mk 1 b = b % 281474976710656 by simp [mk]]; exact random_public b w hb
  · exact random_two b w hb hT
  · exact random_three b w hb hT
  · exact random_four b w hb hT
theorem text_any (k b : Int) (w : World) (hk : -9223372036854775808 ≤ k ∧ k ≤ 9223372036854775807) (hb : 0 ≤ b ∧ b ≤ 18446744073709551615) (hT : Tab w) :
    Calls Tryd.prog 20 #[.agg #[.int .i64 k, .int .u64 b]] w fun e w' => e = .returned (.string (strOfNums (textL k b))) ∧ Below w.heap.size w w' := by
  by_cases h : chk k b = 0
  · rw [show textL k b = txtL b 6 ++ [letZ k] by unfold textL; rw [if_pos h]]; exact text_good k b w hb hT h
  · rw [show textL k b = [] by unfold textL; rw [if_neg h]]; exact text_bad k b w hk hb hT h
theorem parse_any (s : ByteArray) (w : World) (hs : s.size ≤ 140737488351232) (hT : Tab w) :
    Calls Tryd.prog 19 #[.string s] w fun e w' => Reads w w' e (parseR (chL s)) := by
  by_cases h : s.size = 19
  · exact parse_form s w h hT
  · exact parse_size s w hs h
theorem cell_lt {w : World} {g i : Nat} {v : Value} (h : w.cell? ⟨g, i, none⟩ = some v) : g < w.heap.size := by
  rcases Nat.lt_or_ge g w.heap.size with hlt | hge
  · exact hlt
  · exfalso
    have : w.heap[g]? = none := Array.getElem?_eq_none hge
    simp [World.cell?, this] at h
/-- Two boxes are kept by what writes above. -/
theorem cells_below {w w' : World} {g h : Nat} {x y u v : Value} (hs : w.cell? ⟨g, 0, none⟩ = some x ∧ w.cell? ⟨g, 1, none⟩ = some y ∧ w.cell? ⟨h, 0, none⟩ = some u ∧ w.cell? ⟨h, 1, none⟩ = some v) (b : Below w.heap.size w w') :
    w'.cell? ⟨g, 0, none⟩ = some x ∧ w'.cell? ⟨g, 1, none⟩ = some y ∧ w'.cell? ⟨h, 0, none⟩ = some u ∧ w'.cell? ⟨h, 1, none⟩ = some v :=
  ⟨(b.cell (p := ⟨g, 0, none⟩) (cell_lt hs.1)).trans hs.1, (b.cell (p := ⟨g, 1, none⟩) (cell_lt hs.2.1)).trans hs.2.1, (b.cell (p := ⟨h, 0, none⟩) (cell_lt hs.2.2.1)).trans hs.2.2.1, (b.cell (p := ⟨h, 1, none⟩) (cell_lt hs.2.2.2)).trans hs.2.2.2⟩
theorem l_parse (w : World) (hT : Tab w) : Calls Tryd.prog 19 #[.string { data := #[48, 48, 58, 48, 48, 58, 65, 49, 58, 66, 50, 58, 67, 51, 58, 68, 52, 47, 112] }] w fun e w' => e = .returned (.tuple #[.agg #[.int .i64 1, .int .u64 2712847316], .int .i64 0]) ∧ Below w.heap.size w w' := by
  have h := parse_any { data := #[48, 48, 58, 48, 48, 58, 65, 49, 58, 66, 50, 58, 67, 51, 58, 68, 52, 47, 112] } w (by decide) hT
  have e : parseR (chL { data := #[48, 48, 58, 48, 48, 58, 65, 49, 58, 66, 50, 58, 67, 51, 58, 68, 52, 47, 112] }) = ((1, 2712847316), 0) := by decide +kernel
  rw [e] at h
  exact h
theorem l_text (w : World) (hT : Tab w) : Calls Tryd.prog 20 #[.agg #[.int .i64 2, .int .u64 211106232532993]] w fun e w' => e = .returned (.string { data := #[67, 48, 58, 48, 48, 58, 48, 48, 58, 48, 48, 58, 48, 48, 58, 48, 49, 47, 115] }) ∧ Below w.heap.size w w' := by
  have h := text_any 2 211106232532993 w (by decide) (by decide) hT
  have e : strOfNums (textL 2 211106232532993) = { data := #[67, 48, 58, 48, 48, 58, 48, 48, 58, 48, 48, 58, 48, 48, 58, 48, 49, 47, 115] } := by
    rw [show textL 2 211106232532993 = [67, 48, 58, 48, 48, 58, 48, 48, 58, 48, 48, 58, 48, 48, 58, 48, 49, 47, 115] by decide +kernel]; rfl
  rw [e] at h
  exact h
theorem l_random (w : World) (hT : Tab w) : Calls Tryd.prog 17 #[.int .i64 2, .int .u64 0] w fun e w' => e = .returned (.agg #[.int .i64 2, .int .u64 211106232532993]) ∧ Below w.heap.size w w' := by
  have h := random_any 2 0 w (by decide) (by decide) hT
  rw [show mk 2 0 = 211106232532993 by decide +kernel] at h
  exact h
theorem l_check (w : World) (hT : Tab w) : Calls Tryd.prog 18 #[.agg #[.int .i64 2, .int .u64 211106232532993]] w fun e w' => e = .returned (.int .i64 0) ∧ Below w.heap.size w w' := by
  have h := check_any 2 211106232532993 w (by decide) (by decide) hT
  rw [show chk 2 211106232532993 = 0 by decide +kernel] at h
  exact h
theorem l_compare (w : World) : Calls Tryd.prog 34 #[.agg #[.int .i64 1, .int .u64 2712847316], .agg #[.int .i64 2, .int .u64 211106232532993]] w fun e w' => e = .returned (.int .i64 (-1)) ∧ Below w.heap.size w w' := by
  have h := compare_any 1 2712847316 2 211106232532993 w (by decide) (by decide) (by decide) (by decide)
  rw [show cmpA 1 2712847316 2 211106232532993 = -1 by decide +kernel] at h
  exact h
theorem lives_any (w : World) (hT : Tab w) : Calls Tryd.prog 12 #[] w fun e w' => e = .returned (.bool true) ∧ Below w.heap.size w w' := by
  have hB : Below w.heap.size w (w.alloc (.cells #[.int .i64 2, .int .u64 211106232532993] 26)) := (Below.refl _ _).alloc (Nat.le_refl _) _
  have T1 := hT.below hB
  have F := box_new w 2 211106232532993
  go_enter Tryd.func12, Tryd.ntmps12
  go_wp2_with fail
  refine (l_parse _ T1).mono ?_
  rintro e w1 ⟨rfl, b1⟩
  have F1 := F.below b1
  have B1 := thenB hB b1
  have T2 := T1.below b1
  go_wp2_with fail
  have F2 := F1.below ((Below.refl w1.heap.size w1).alloc (Nat.le_refl _) (.cells #[.int .i64 1, .int .u64 2712847316] 26))
  have G2 := box_new w1 1 2712847316
  have B2 := thenB B1 ((Below.refl w1.heap.size w1).alloc (Nat.le_refl _) (.cells #[.int .i64 1, .int .u64 2712847316] 26))
  have T3 := T2.alloc (.cells #[.int .i64 1, .int .u64 2712847316] 26)
  clear F F1 T1 T2 hT hB b1 B1
  generalize w1.alloc (.cells #[.int .i64 1, .int .u64 2712847316] 26) = W at *
  have s0 : W.drew.cell? ⟨w.heap.size, 0, none⟩ = some (.int .i64 2) ∧ W.drew.cell? ⟨w.heap.size, 1, none⟩ = some (.int .u64 211106232532993) ∧ W.drew.cell? ⟨w1.heap.size, 0, none⟩ = some (.int .i64 1) ∧ W.drew.cell? ⟨w1.heap.size, 1, none⟩ = some (.int .u64 2712847316) := ⟨F2.c0, F2.c1, G2.c0, G2.c1⟩
  have T4 : Tab W.drew := T3
  have B3 : Below w.heap.size w W.drew := B2.drew
  clear F2 G2 B2 T3
  go_region_held3 (fun w' => w'.cell? ⟨w.heap.size, 0, none⟩ = some (.int .i64 2) ∧ w'.cell? ⟨w.heap.size, 1, none⟩ = some (.int .u64 211106232532993) ∧ w'.cell? ⟨w1.heap.size, 0, none⟩ = some (.int .i64 1) ∧ w'.cell? ⟨w1.heap.size, 1, none⟩ = some (.int .u64 2712847316)) (first | exact s0 | exact s1 | exact s2 | exact s3 | exact s4) (first
    | (go_at_call 18; refine (l_check _ T4).mono ?_; rintro e v1 ⟨rfl, b1⟩; have s1 := cells_below s0 b1; have T5 := T4.below b1; have B4 := thenB B3 b1)
    | (go_at_call 17; refine (l_random _ T5).mono ?_; rintro e v2 ⟨rfl, b2⟩; have s2 := cells_below s1 b2; have T6 := T5.below b2; have B5 := thenB B4 b2)
    | (go_at_call 20; refine (l_text _ T6).mono ?_; rintro e v3 ⟨rfl, b3⟩; have s3 := cells_below s2 b3; have B6 := thenB B5 b3)
    | (go_at_call 34; refine (l_compare _).mono ?_; rintro e v4 ⟨rfl, b4⟩; have s4 := cells_below s3 b4; have B7 := thenB B6 b4))
  all_goals go_wp2_with fail
  all_goals go_ret
  all_goals exact ⟨rfl, B7⟩
end Go.Proofs.YtkbjfmfkpdlogaaDoor.Adr
