/- Control procedures: how encryption starts: walks. -/
import Derived.Test.YtpoagepchlfemaaPcEnc0
import Derived.Test.YtpoagepchlfemaaPcEx
set_option linter.unusedVariables false
set_option linter.unusedSimpArgs false
namespace Go.Proofs.Ytpoagepchlfemaa.Pc
open Go.RowKit Mem Rw Cp
open Base (thenB)
open Av (Row)

set_option maxRecDepth 100000 in
set_option maxHeartbeats 8000000 in
theorem enc_no (s u k : Int) (hu : 0 ≤ s ∧ s ≤ 18446744073709551615) (hv : 0 ≤ u ∧ u ≤ 18446744073709551615) (hm : 0 ≤ k ∧ k ≤ 18446744073709551615) (w : World) : Calls Try.prog 7 #[.agg #[.int .u64 s, .int .u64 u], .int .u64 k, .bool false] w fun e w' => e = .returned (.bool true) ∧ Below w.heap.size w w' := by
  have HN0 := Lib.hid n3_any
  have HN1 := Lib.hid n4_any
  have HX := Lib.hid ex_any
  have H1 := Lib.hid (f1_any s u k hu hv hm)
  have H2 := Lib.hid (f2_any s u k hu hv hm)
  have H3y := Lib.hid (f3y_any s u k hu hv hm)
  have H3n := Lib.hid (f3n_any s u k hu hv hm)
  have H4 := Lib.hid (f4_any s u k hu hv hm)
  have H5 := Lib.hid (f5_any s u k hu hv hm)
  have H6 := Lib.hid (f6_any s u k hu hv hm)
  have H7 := Lib.hid (f7_any s u k hu hv hm)
  have H8 := Lib.hid (f8_any s u k hu hv hm)
  have QC1 := Lib.hid (qC1_any s u k)
  have QP1 := Lib.hid (qP1_any s u k)
  have QP2 := Lib.hid (qP2_any s u k)
  have QC3 := Lib.hid (qC3_any s u k)
  have QC4 := Lib.hid (qC4_any s u k)
  have QP3 := Lib.hid (qP3_any s u k)
  have QC2N := Lib.hid (qC2n_any s u k)
  have QP2N := Lib.hid (qP2n_any s u k)
  clear hu hv hm
  have ek : (k != k) = false := by simp
  have es : (s == s) = true := by simp
  have eu : (u == u) = true := by simp
  have BX : Below w.heap.size w (w.alloc (.cells #[.int .u64 s, .int .u64 u] 31)) := (Below.refl _ _).alloc (Nat.le_refl _) _
  have KA : Blk (w.alloc (.cells #[.int .u64 s, .int .u64 u] 31)) w.heap.size 31 #[.int .u64 s, .int .u64 u] := Blk.fresh _ _ _
  go_enter Try.func7, Try.ntmps7
  go_upto_region 1 with (fail)
  generalize w.alloc (.cells #[.int .u64 s, .int .u64 u] 31) = W0 at *
  have hA := KA.lt
  have BC := Below.refl W0.heap.size W0
  try simp only [Act.put]
  go_cut [7, 8, 9] from 21 to 30 (fun s7 s8 s9 wx => ∃ g7 b1 o1 c1, s7 = .pointer (some ⟨g7, 0, none⟩) ∧ s8 = .slice (some ⟨b1, o1, none⟩) 1 c1 ∧ s9 = .int .i64 0 ∧ W0.heap.size ≤ g7 ∧ Blk wx g7 27 #[.int .i64 0, .int .i64 3, .int .i64 0, .slice none 0 0, .int .i64 (-1), .int .i64 0, .slice none 0 0, .bool false, .int .u64 0, .int .u64 0, .bool false, .bool false, .int .i64 (-1), .int .i64 27, .int .i64 27, .int .u64 s, .int .u64 0, .int .u64 k, .int .i64 1, .int .i64 0] ∧ Row wx 0 (.slice (some ⟨b1, o1, none⟩) 1 c1) 1 [.int .i64 3, .int .i64 0, .int .i64 0, .int .i64 0, .int .i64 0, .int .i64 0, .int .u64 0, .int .u16 0, .int .i64 0, .int .i64 0, .int .u64 s, .int .u64 k, .int .u64 0, .int .i64 0, .int .i64 0] ∧ Below W0.heap.size W0 wx ∧ Below w.heap.size w wx)
  · skip
    have KA' : Blk W0.drew (w.heap.size) 31 #[.int .u64 s, .int .u64 u] := Mem.Blk.drew KA
    refine wp_region_held_drew (S := (fun w' => Blk w' (w.heap.size) 31 #[.int .u64 s, .int .u64 u])) (by kernel_rfl) ?_ (fun hHeld => ?_)
    · exact KA'
    replace KA := KA'
    clear KA'
    replace BX : Below w.heap.size w W0.drew := BX.drew
    replace BC := BC.drew
    generalize W0.drew = X0 at *
    refine wpAnyH_take (i := 1) (v := .pointer (some ⟨w.heap.size, 0, none⟩)) rfl (by kernel_rfl) (by kernel_rfl) (by kernel_rfl) (fun _ _ _ h => h) (Or.inl ⟨by first | rfl | go_simp, by intro w9 hSw; (try dsimp only at hSw); go_simp⟩) (by assumption) ?_
    simp only [List.getElem_toArray, List.getElem_cons_zero, List.getElem_cons_succ, Act.put, List.setIfInBounds_toArray, List.set_cons_zero, List.set_cons_succ]
    refine wpAnyH_take (i := 2) (v := .int .u64 s) rfl (by kernel_rfl) (by kernel_rfl) (by kernel_rfl) (fun _ _ _ h => h) (Or.inl ⟨by first | rfl | go_simp, by intro w9 hSw; (try dsimp only at hSw); have c9 := hSw.cell 0; clear hSw; go_simp⟩) (by assumption) ?_
    simp only [List.getElem_toArray, List.getElem_cons_zero, List.getElem_cons_succ, Act.put, List.setIfInBounds_toArray, List.set_cons_zero, List.set_cons_succ]
    refine wpAnyH_take (i := 3) (v := .int .u64 k) rfl (by kernel_rfl) (by kernel_rfl) (by kernel_rfl) (fun _ _ _ h => h) (Or.inl ⟨by first | rfl | go_simp, by intro w9 hSw; (try dsimp only at hSw); go_simp⟩) (by assumption) ?_
    simp only [List.getElem_toArray, List.getElem_cons_zero, List.getElem_cons_succ, Act.put, List.setIfInBounds_toArray, List.set_cons_zero, List.set_cons_succ]
    refine wpAnyH_take (i := 4) (v := .agg #[.int .i64 3, .int .i64 0, .int .i64 0, .int .i64 0, .int .i64 0, .int .i64 0, .int .u64 0, .int .u16 0, .int .i64 0, .int .i64 0, .int .u64 s, .int .u64 k, .int .u64 0, .int .i64 0, .int .i64 0]) rfl (by kernel_rfl) (by kernel_rfl) (by kernel_rfl) (fun _ _ _ h => h) (Av.yields_build (by first | rfl | go_simp) _ _ rfl #[.int .i64 3, .int .i64 0, .int .i64 0, .int .i64 0, .int .i64 0, .int .i64 0, .int .u64 0, .int .u16 0, .int .i64 0, .int .i64 0, .int .u64 s, .int .u64 k, .int .u64 0, .int .i64 0, .int .i64 0] (by kernel_rfl)) (by assumption) ?_
    simp only [List.getElem_toArray, List.getElem_cons_zero, List.getElem_cons_succ, Act.put, List.setIfInBounds_toArray, List.set_cons_zero, List.set_cons_succ]
    refine wpAnyH_ready (rs := [0, 10]) (by kernel_rfl) (by simp) ?_
    refine AllReadyH.cons rfl (fun K hK => ?_) (AllReadyH.cons rfl (fun K hK => ?_) (AllReadyH.nil))
    · skip
      go_simp
      refine (HN0.out X0).mono ?_
      rintro e X1 ⟨rfl, b9⟩
      replace KA := KA.below b9 KA.lt
      replace BX := Base.thenB BX b9
      replace BC := thenB BC b9
      clear b9
      refine hK.out _ _ KA (fun hHeld => ?_)
      clear hK K
      try simp only [List.getElem_toArray, List.getElem_cons_zero, List.getElem_cons_succ, Act.put, List.setIfInBounds_toArray, List.set_cons_zero, List.set_cons_succ]
      refine wpAnyH_ready (rs := [5, 10]) (by kernel_rfl) (by simp) ?_
      refine AllReadyH.cons rfl (fun K hK => ?_) (AllReadyH.cons rfl (fun K hK => ?_) (AllReadyH.nil))
      · skip
        go_simp
        refine (H1.out X1).mono ?_
        rintro e X2 ⟨Q1, rfl, R1, b9⟩
        obtain ⟨A1, c1, rfl⟩ := row_form R1
        obtain ⟨b1, o1, rfl, _, _⟩ := row_at R1 (by simp [inC])
        have bd1 := row_bd R1 (by simp [inC])
        have ne1_wheapsize : b1 ≠ w.heap.size := by have h9 := KA.lt; omega
        have lo1 : W0.heap.size ≤ b1 := by have h9 := BC.size; omega
        replace R1 := R1.less (Nat.zero_le _)
        clear bd1
        replace KA := KA.below b9 KA.lt
        replace BX := Base.thenB BX b9
        replace BC := thenB BC b9
        clear b9
        refine hK.out _ _ KA (fun hHeld => ?_)
        clear hK K
        try simp only [List.getElem_toArray, List.getElem_cons_zero, List.getElem_cons_succ, Act.put, List.setIfInBounds_toArray, List.set_cons_zero, List.set_cons_succ]
        refine wpAnyH_take (i := 6) (v := .tuple #[.agg #[.int .i64 0, .int .i64 3, .int .i64 0, .slice none 0 0, .int .i64 (-1), .int .i64 0, .slice none 0 0, .bool false, .int .u64 0, .int .u64 0, .bool false, .bool false, .int .i64 (-1), .int .i64 27, .int .i64 27, .int .u64 s, .int .u64 0, .int .u64 k, .int .i64 1, .int .i64 0], .slice (some ⟨b1, o1, none⟩) 1 c1, .int .i64 0]) rfl (by kernel_rfl) (by kernel_rfl) (by kernel_rfl) (fun _ _ _ h => h) (Or.inl ⟨by first | rfl | go_simp, by intro w9 hSw; (try dsimp only at hSw); go_simp⟩) (by assumption) ?_
        simp only [List.getElem_toArray, List.getElem_cons_zero, List.getElem_cons_succ, Act.put, List.setIfInBounds_toArray, List.set_cons_zero, List.set_cons_succ]
        refine wpAnyH_take (i := 7) (v := .agg #[.int .i64 0, .int .i64 3, .int .i64 0, .slice none 0 0, .int .i64 (-1), .int .i64 0, .slice none 0 0, .bool false, .int .u64 0, .int .u64 0, .bool false, .bool false, .int .i64 (-1), .int .i64 27, .int .i64 27, .int .u64 s, .int .u64 0, .int .u64 k, .int .i64 1, .int .i64 0]) rfl (by kernel_rfl) (by kernel_rfl) (by kernel_rfl) (fun _ _ _ h => h) (Or.inl ⟨by first | rfl | go_simp, by intro w9 hSw; (try dsimp only at hSw); go_simp⟩) (by assumption) ?_
        simp only [List.getElem_toArray, List.getElem_cons_zero, List.getElem_cons_succ, Act.put, List.setIfInBounds_toArray, List.set_cons_zero, List.set_cons_succ]
        refine wpAnyH_take (i := 8) (v := .slice (some ⟨b1, o1, none⟩) 1 c1) rfl (by kernel_rfl) (by kernel_rfl) (by kernel_rfl) (fun _ _ _ h => h) (Or.inl ⟨by first | rfl | go_simp, by intro w9 hSw; (try dsimp only at hSw); go_simp⟩) (by assumption) ?_
        simp only [List.getElem_toArray, List.getElem_cons_zero, List.getElem_cons_succ, Act.put, List.setIfInBounds_toArray, List.set_cons_zero, List.set_cons_succ]
        refine wpAnyH_take (i := 9) (v := .int .i64 0) rfl (by kernel_rfl) (by kernel_rfl) (by kernel_rfl) (fun _ _ _ h => h) (Or.inl ⟨by first | rfl | go_simp, by intro w9 hSw; (try dsimp only at hSw); go_simp⟩) (by assumption) ?_
        simp only [List.getElem_toArray, List.getElem_cons_zero, List.getElem_cons_succ, Act.put, List.setIfInBounds_toArray, List.set_cons_zero, List.set_cons_succ]
        refine wpAnyH_ready (rs := [10]) (by kernel_rfl) (by simp) ?_
        refine AllReadyH.cons rfl (fun K hK => ?_) (AllReadyH.nil)
        go_simp
        have b9 := (Below.refl X2.heap.size X2).alloc (Nat.le_refl _) (.cells #[.int .i64 0, .int .i64 0, .int .i64 0, .slice none 0 0, .int .i64 0, .int .i64 0, .slice none 0 0, .bool false, .int .u64 0, .int .u64 0, .bool false, .bool false, .int .i64 0, .int .i64 0, .int .i64 0, .int .u64 0, .int .u64 0, .int .u64 0, .int .i64 0, .int .i64 0] 27)
        have K7 := Blk.fresh X2 27 #[.int .i64 0, .int .i64 0, .int .i64 0, .slice none 0 0, .int .i64 0, .int .i64 0, .slice none 0 0, .bool false, .int .u64 0, .int .u64 0, .bool false, .bool false, .int .i64 0, .int .i64 0, .int .i64 0, .int .u64 0, .int .u64 0, .int .u64 0, .int .i64 0, .int .i64 0]
        have ne1_g7 : b1 ≠ X2.heap.size := by have h9 := (row_bd R1 (by simp [inC])).2; omega
        have hc7 : W0.heap.size ≤ X2.heap.size := BC.size
        have hw7 : w.heap.size ≤ X2.heap.size := BX.size
        obtain ⟨g7, eg7⟩ : ∃ g, X2.heap.size = g := ⟨_, rfl⟩
        rw [eg7] at K7 hc7 hw7 ne1_g7
        try simp only [eg7]
        generalize X2.alloc (.cells #[.int .i64 0, .int .i64 0, .int .i64 0, .slice none 0 0, .int .i64 0, .int .i64 0, .slice none 0 0, .bool false, .int .u64 0, .int .u64 0, .bool false, .bool false, .int .i64 0, .int .i64 0, .int .i64 0, .int .u64 0, .int .u64 0, .int .u64 0, .int .i64 0, .int .i64 0] 27) = X3 at *
        clear eg7
        replace KA := KA.below b9 KA.lt
        replace BX := Base.thenB BX b9
        replace BC := thenB BC b9
        replace R1 := Row.below R1 b9
        clear b9
        refine hK.out _ _ KA (fun hHeld => ?_)
        clear hK K
        try simp only [List.getElem_toArray, List.getElem_cons_zero, List.getElem_cons_succ, Act.put, List.setIfInBounds_toArray, List.set_cons_zero, List.set_cons_succ]
        refine wpAnyH_ready (rs := [11]) (by kernel_rfl) (by simp) ?_
        refine AllReadyH.cons rfl (fun K hK => ?_) (AllReadyH.nil)
        have H9 : (#[.int .i64 0, .int .i64 3, .int .i64 0, .slice none 0 0, .int .i64 (-1), .int .i64 0, .slice none 0 0, .bool false, .int .u64 0, .int .u64 0, .bool false, .bool false, .int .i64 (-1), .int .i64 27, .int .i64 27, .int .u64 s, .int .u64 0, .int .u64 k, .int .i64 1, .int .i64 0] : Array Value).all (·.oneCell') = true := by rw [← Array.all_toList]; rfl
        refine Av.step_store_row rfl 27 (.tmp 7) (.tmp 28) rfl (g7) #[.int .i64 0, .int .i64 3, .int .i64 0, .slice none 0 0, .int .i64 (-1), .int .i64 0, .slice none 0 0, .bool false, .int .u64 0, .int .u64 0, .bool false, .bool false, .int .i64 (-1), .int .i64 27, .int .i64 27, .int .u64 s, .int .u64 0, .int .u64 k, .int .i64 1, .int .i64 0] rfl rfl 27 _ K7 (by kernel_rfl) rfl H9 ?_
        replace BC := below_setRow (g := g7) BC (by omega) #[.int .i64 0, .int .i64 3, .int .i64 0, .slice none 0 0, .int .i64 (-1), .int .i64 0, .slice none 0 0, .bool false, .int .u64 0, .int .u64 0, .bool false, .bool false, .int .i64 (-1), .int .i64 27, .int .i64 27, .int .u64 s, .int .u64 0, .int .u64 k, .int .i64 1, .int .i64 0]
        replace R1 := row_setR (cs := #[.int .i64 0, .int .i64 3, .int .i64 0, .slice none 0 0, .int .i64 (-1), .int .i64 0, .slice none 0 0, .bool false, .int .u64 0, .int .u64 0, .bool false, .bool false, .int .i64 (-1), .int .i64 27, .int .i64 27, .int .u64 s, .int .u64 0, .int .u64 k, .int .i64 1, .int .i64 0]) R1 ne1_g7
        replace KA : Blk (X3.setRow (g7) #[.int .i64 0, .int .i64 3, .int .i64 0, .slice none 0 0, .int .i64 (-1), .int .i64 0, .slice none 0 0, .bool false, .int .u64 0, .int .u64 0, .bool false, .bool false, .int .i64 (-1), .int .i64 27, .int .i64 27, .int .u64 s, .int .u64 0, .int .u64 k, .int .i64 1, .int .i64 0]) (w.heap.size) 31 #[.int .u64 s, .int .u64 u] := Av.bother_row KA (by omega)
        replace K7 : Blk (X3.setRow (g7) #[.int .i64 0, .int .i64 3, .int .i64 0, .slice none 0 0, .int .i64 (-1), .int .i64 0, .slice none 0 0, .bool false, .int .u64 0, .int .u64 0, .bool false, .bool false, .int .i64 (-1), .int .i64 27, .int .i64 27, .int .u64 s, .int .u64 0, .int .u64 k, .int .i64 1, .int .i64 0]) (g7) 27 #[.int .i64 0, .int .i64 3, .int .i64 0, .slice none 0 0, .int .i64 (-1), .int .i64 0, .slice none 0 0, .bool false, .int .u64 0, .int .u64 0, .bool false, .bool false, .int .i64 (-1), .int .i64 27, .int .i64 27, .int .u64 s, .int .u64 0, .int .u64 k, .int .i64 1, .int .i64 0] := Av.bset_row K7
        replace BX : Below w.heap.size w (X3.setRow (g7) #[.int .i64 0, .int .i64 3, .int .i64 0, .slice none 0 0, .int .i64 (-1), .int .i64 0, .slice none 0 0, .bool false, .int .u64 0, .int .u64 0, .bool false, .bool false, .int .i64 (-1), .int .i64 27, .int .i64 27, .int .u64 s, .int .u64 0, .int .u64 k, .int .i64 1, .int .i64 0]) := below_setRow BX (by omega) _
        clear H9
        generalize X3.setRow (g7) #[.int .i64 0, .int .i64 3, .int .i64 0, .slice none 0 0, .int .i64 (-1), .int .i64 0, .slice none 0 0, .bool false, .int .u64 0, .int .u64 0, .bool false, .bool false, .int .i64 (-1), .int .i64 27, .int .i64 27, .int .u64 s, .int .u64 0, .int .u64 k, .int .i64 1, .int .i64 0] = X4 at *
        refine hK.out _ _ KA (fun hHeld => ?_)
        clear hK K
        try simp only [List.getElem_toArray, List.getElem_cons_zero, List.getElem_cons_succ, Act.put, List.setIfInBounds_toArray, List.set_cons_zero, List.set_cons_succ]
        refine wpAnyH_take (i := 12) (v := .slice (some ⟨b1, o1, none⟩) 1 c1) rfl (by kernel_rfl) (by kernel_rfl) (by kernel_rfl) (fun _ _ _ h => h) (Or.inl ⟨by first | rfl | go_simp, by intro w9 hSw; (try dsimp only at hSw); go_simp⟩) (by assumption) ?_
        simp only [List.getElem_toArray, List.getElem_cons_zero, List.getElem_cons_succ, Act.put, List.setIfInBounds_toArray, List.set_cons_zero, List.set_cons_succ]
        refine wpAnyH_take (i := 13) (v := .int .i64 0) rfl (by kernel_rfl) (by kernel_rfl) (by kernel_rfl) (fun _ _ _ h => h) (Or.inl ⟨by first | rfl | go_simp, by intro w9 hSw; (try dsimp only at hSw); go_simp⟩) (by assumption) ?_
        simp only [List.getElem_toArray, List.getElem_cons_zero, List.getElem_cons_succ, Act.put, List.setIfInBounds_toArray, List.set_cons_zero, List.set_cons_succ]
        refine wpAnyH_done (by kernel_rfl) ?_ _
        clear hHeld
        go_wp2_with fail
        go_meet
        exact ⟨g7, b1, o1, c1, rfl, rfl, rfl, hc7, K7, R1, BC, BX⟩
      · skip
        go_simp
        have b9 := (Below.refl X1.heap.size X1).alloc (Nat.le_refl _) (.cells #[.int .i64 0, .int .i64 0, .int .i64 0, .slice none 0 0, .int .i64 0, .int .i64 0, .slice none 0 0, .bool false, .int .u64 0, .int .u64 0, .bool false, .bool false, .int .i64 0, .int .i64 0, .int .i64 0, .int .u64 0, .int .u64 0, .int .u64 0, .int .i64 0, .int .i64 0] 27)
        have K7 := Blk.fresh X1 27 #[.int .i64 0, .int .i64 0, .int .i64 0, .slice none 0 0, .int .i64 0, .int .i64 0, .slice none 0 0, .bool false, .int .u64 0, .int .u64 0, .bool false, .bool false, .int .i64 0, .int .i64 0, .int .i64 0, .int .u64 0, .int .u64 0, .int .u64 0, .int .i64 0, .int .i64 0]
        have hc7 : W0.heap.size ≤ X1.heap.size := BC.size
        have hw7 : w.heap.size ≤ X1.heap.size := BX.size
        obtain ⟨g7, eg7⟩ : ∃ g, X1.heap.size = g := ⟨_, rfl⟩
        rw [eg7] at K7 hc7 hw7
        try simp only [eg7]
        generalize X1.alloc (.cells #[.int .i64 0, .int .i64 0, .int .i64 0, .slice none 0 0, .int .i64 0, .int .i64 0, .slice none 0 0, .bool false, .int .u64 0, .int .u64 0, .bool false, .bool false, .int .i64 0, .int .i64 0, .int .i64 0, .int .u64 0, .int .u64 0, .int .u64 0, .int .i64 0, .int .i64 0] 27) = X5 at *
        clear eg7
        replace KA := KA.below b9 KA.lt
        replace BX := Base.thenB BX b9
        replace BC := thenB BC b9
        clear b9
        refine hK.out _ _ KA (fun hHeld => ?_)
        clear hK K
        try simp only [List.getElem_toArray, List.getElem_cons_zero, List.getElem_cons_succ, Act.put, List.setIfInBounds_toArray, List.set_cons_zero, List.set_cons_succ]
        refine wpAnyH_ready (rs := [5]) (by kernel_rfl) (by simp) ?_
        refine AllReadyH.cons rfl (fun K hK => ?_) (AllReadyH.nil)
        go_simp
        refine (H1.out X5).mono ?_
        rintro e X6 ⟨Q1, rfl, R1, b9⟩
        obtain ⟨A1, c1, rfl⟩ := row_form R1
        obtain ⟨b1, o1, rfl, _, _⟩ := row_at R1 (by simp [inC])
        have bd1 := row_bd R1 (by simp [inC])
        have ne1_wheapsize : b1 ≠ w.heap.size := by have h9 := KA.lt; omega
        have ne1_g7 : b1 ≠ g7 := by have h9 := K7.lt; omega
        have lo1 : W0.heap.size ≤ b1 := by have h9 := BC.size; omega
        replace R1 := R1.less (Nat.zero_le _)
        clear bd1
        replace KA := KA.below b9 KA.lt
        replace K7 := K7.below b9 K7.lt
        replace BX := Base.thenB BX b9
        replace BC := thenB BC b9
        clear b9
        refine hK.out _ _ KA (fun hHeld => ?_)
        clear hK K
        try simp only [List.getElem_toArray, List.getElem_cons_zero, List.getElem_cons_succ, Act.put, List.setIfInBounds_toArray, List.set_cons_zero, List.set_cons_succ]
        refine wpAnyH_take (i := 6) (v := .tuple #[.agg #[.int .i64 0, .int .i64 3, .int .i64 0, .slice none 0 0, .int .i64 (-1), .int .i64 0, .slice none 0 0, .bool false, .int .u64 0, .int .u64 0, .bool false, .bool false, .int .i64 (-1), .int .i64 27, .int .i64 27, .int .u64 s, .int .u64 0, .int .u64 k, .int .i64 1, .int .i64 0], .slice (some ⟨b1, o1, none⟩) 1 c1, .int .i64 0]) rfl (by kernel_rfl) (by kernel_rfl) (by kernel_rfl) (fun _ _ _ h => h) (Or.inl ⟨by first | rfl | go_simp, by intro w9 hSw; (try dsimp only at hSw); go_simp⟩) (by assumption) ?_
        simp only [List.getElem_toArray, List.getElem_cons_zero, List.getElem_cons_succ, Act.put, List.setIfInBounds_toArray, List.set_cons_zero, List.set_cons_succ]
        refine wpAnyH_take (i := 7) (v := .agg #[.int .i64 0, .int .i64 3, .int .i64 0, .slice none 0 0, .int .i64 (-1), .int .i64 0, .slice none 0 0, .bool false, .int .u64 0, .int .u64 0, .bool false, .bool false, .int .i64 (-1), .int .i64 27, .int .i64 27, .int .u64 s, .int .u64 0, .int .u64 k, .int .i64 1, .int .i64 0]) rfl (by kernel_rfl) (by kernel_rfl) (by kernel_rfl) (fun _ _ _ h => h) (Or.inl ⟨by first | rfl | go_simp, by intro w9 hSw; (try dsimp only at hSw); go_simp⟩) (by assumption) ?_
        simp only [List.getElem_toArray, List.getElem_cons_zero, List.getElem_cons_succ, Act.put, List.setIfInBounds_toArray, List.set_cons_zero, List.set_cons_succ]
        refine wpAnyH_take (i := 8) (v := .slice (some ⟨b1, o1, none⟩) 1 c1) rfl (by kernel_rfl) (by kernel_rfl) (by kernel_rfl) (fun _ _ _ h => h) (Or.inl ⟨by first | rfl | go_simp, by intro w9 hSw; (try dsimp only at hSw); go_simp⟩) (by assumption) ?_
        simp only [List.getElem_toArray, List.getElem_cons_zero, List.getElem_cons_succ, Act.put, List.setIfInBounds_toArray, List.set_cons_zero, List.set_cons_succ]
        refine wpAnyH_take (i := 9) (v := .int .i64 0) rfl (by kernel_rfl) (by kernel_rfl) (by kernel_rfl) (fun _ _ _ h => h) (Or.inl ⟨by first | rfl | go_simp, by intro w9 hSw; (try dsimp only at hSw); go_simp⟩) (by assumption) ?_
        simp only [List.getElem_toArray, List.getElem_cons_zero, List.getElem_cons_succ, Act.put, List.setIfInBounds_toArray, List.set_cons_zero, List.set_cons_succ]
        refine wpAnyH_ready (rs := [11]) (by kernel_rfl) (by simp) ?_
        refine AllReadyH.cons rfl (fun K hK => ?_) (AllReadyH.nil)
        have H9 : (#[.int .i64 0, .int .i64 3, .int .i64 0, .slice none 0 0, .int .i64 (-1), .int .i64 0, .slice none 0 0, .bool false, .int .u64 0, .int .u64 0, .bool false, .bool false, .int .i64 (-1), .int .i64 27, .int .i64 27, .int .u64 s, .int .u64 0, .int .u64 k, .int .i64 1, .int .i64 0] : Array Value).all (·.oneCell') = true := by rw [← Array.all_toList]; rfl
        refine Av.step_store_row rfl 27 (.tmp 7) (.tmp 28) rfl (g7) #[.int .i64 0, .int .i64 3, .int .i64 0, .slice none 0 0, .int .i64 (-1), .int .i64 0, .slice none 0 0, .bool false, .int .u64 0, .int .u64 0, .bool false, .bool false, .int .i64 (-1), .int .i64 27, .int .i64 27, .int .u64 s, .int .u64 0, .int .u64 k, .int .i64 1, .int .i64 0] rfl rfl 27 _ K7 (by kernel_rfl) rfl H9 ?_
        replace BC := below_setRow (g := g7) BC (by omega) #[.int .i64 0, .int .i64 3, .int .i64 0, .slice none 0 0, .int .i64 (-1), .int .i64 0, .slice none 0 0, .bool false, .int .u64 0, .int .u64 0, .bool false, .bool false, .int .i64 (-1), .int .i64 27, .int .i64 27, .int .u64 s, .int .u64 0, .int .u64 k, .int .i64 1, .int .i64 0]
        replace R1 := row_setR (cs := #[.int .i64 0, .int .i64 3, .int .i64 0, .slice none 0 0, .int .i64 (-1), .int .i64 0, .slice none 0 0, .bool false, .int .u64 0, .int .u64 0, .bool false, .bool false, .int .i64 (-1), .int .i64 27, .int .i64 27, .int .u64 s, .int .u64 0, .int .u64 k, .int .i64 1, .int .i64 0]) R1 ne1_g7
        replace KA : Blk (X6.setRow (g7) #[.int .i64 0, .int .i64 3, .int .i64 0, .slice none 0 0, .int .i64 (-1), .int .i64 0, .slice none 0 0, .bool false, .int .u64 0, .int .u64 0, .bool false, .bool false, .int .i64 (-1), .int .i64 27, .int .i64 27, .int .u64 s, .int .u64 0, .int .u64 k, .int .i64 1, .int .i64 0]) (w.heap.size) 31 #[.int .u64 s, .int .u64 u] := Av.bother_row KA (by omega)
        replace K7 : Blk (X6.setRow (g7) #[.int .i64 0, .int .i64 3, .int .i64 0, .slice none 0 0, .int .i64 (-1), .int .i64 0, .slice none 0 0, .bool false, .int .u64 0, .int .u64 0, .bool false, .bool false, .int .i64 (-1), .int .i64 27, .int .i64 27, .int .u64 s, .int .u64 0, .int .u64 k, .int .i64 1, .int .i64 0]) (g7) 27 #[.int .i64 0, .int .i64 3, .int .i64 0, .slice none 0 0, .int .i64 (-1), .int .i64 0, .slice none 0 0, .bool false, .int .u64 0, .int .u64 0, .bool false, .bool false, .int .i64 (-1), .int .i64 27, .int .i64 27, .int .u64 s, .int .u64 0, .int .u64 k, .int .i64 1, .int .i64 0] := Av.bset_row K7
        replace BX : Below w.heap.size w (X6.setRow (g7) #[.int .i64 0, .int .i64 3, .int .i64 0, .slice none 0 0, .int .i64 (-1), .int .i64 0, .slice none 0 0, .bool false, .int .u64 0, .int .u64 0, .bool false, .bool false, .int .i64 (-1), .int .i64 27, .int .i64 27, .int .u64 s, .int .u64 0, .int .u64 k, .int .i64 1, .int .i64 0]) := below_setRow BX (by omega) _
        clear H9
        generalize X6.setRow (g7) #[.int .i64 0, .int .i64 3, .int .i64 0, .slice none 0 0, .int .i64 (-1), .int .i64 0, .slice none 0 0, .bool false, .int .u64 0, .int .u64 0, .bool false, .bool false, .int .i64 (-1), .int .i64 27, .int .i64 27, .int .u64 s, .int .u64 0, .int .u64 k, .int .i64 1, .int .i64 0] = X7 at *
        refine hK.out _ _ KA (fun hHeld => ?_)
        clear hK K
        try simp only [List.getElem_toArray, List.getElem_cons_zero, List.getElem_cons_succ, Act.put, List.setIfInBounds_toArray, List.set_cons_zero, List.set_cons_succ]
        refine wpAnyH_take (i := 12) (v := .slice (some ⟨b1, o1, none⟩) 1 c1) rfl (by kernel_rfl) (by kernel_rfl) (by kernel_rfl) (fun _ _ _ h => h) (Or.inl ⟨by first | rfl | go_simp, by intro w9 hSw; (try dsimp only at hSw); go_simp⟩) (by assumption) ?_
        simp only [List.getElem_toArray, List.getElem_cons_zero, List.getElem_cons_succ, Act.put, List.setIfInBounds_toArray, List.set_cons_zero, List.set_cons_succ]
        refine wpAnyH_take (i := 13) (v := .int .i64 0) rfl (by kernel_rfl) (by kernel_rfl) (by kernel_rfl) (fun _ _ _ h => h) (Or.inl ⟨by first | rfl | go_simp, by intro w9 hSw; (try dsimp only at hSw); go_simp⟩) (by assumption) ?_
        simp only [List.getElem_toArray, List.getElem_cons_zero, List.getElem_cons_succ, Act.put, List.setIfInBounds_toArray, List.set_cons_zero, List.set_cons_succ]
        refine wpAnyH_done (by kernel_rfl) ?_ _
        clear hHeld
        go_wp2_with fail
        go_meet
        exact ⟨g7, b1, o1, c1, rfl, rfl, rfl, hc7, K7, R1, BC, BX⟩
    · skip
      go_simp
      have b9 := (Below.refl X0.heap.size X0).alloc (Nat.le_refl _) (.cells #[.int .i64 0, .int .i64 0, .int .i64 0, .slice none 0 0, .int .i64 0, .int .i64 0, .slice none 0 0, .bool false, .int .u64 0, .int .u64 0, .bool false, .bool false, .int .i64 0, .int .i64 0, .int .i64 0, .int .u64 0, .int .u64 0, .int .u64 0, .int .i64 0, .int .i64 0] 27)
      have K7 := Blk.fresh X0 27 #[.int .i64 0, .int .i64 0, .int .i64 0, .slice none 0 0, .int .i64 0, .int .i64 0, .slice none 0 0, .bool false, .int .u64 0, .int .u64 0, .bool false, .bool false, .int .i64 0, .int .i64 0, .int .i64 0, .int .u64 0, .int .u64 0, .int .u64 0, .int .i64 0, .int .i64 0]
      have hc7 : W0.heap.size ≤ X0.heap.size := BC.size
      have hw7 : w.heap.size ≤ X0.heap.size := BX.size
      obtain ⟨g7, eg7⟩ : ∃ g, X0.heap.size = g := ⟨_, rfl⟩
      rw [eg7] at K7 hc7 hw7
      try simp only [eg7]
      generalize X0.alloc (.cells #[.int .i64 0, .int .i64 0, .int .i64 0, .slice none 0 0, .int .i64 0, .int .i64 0, .slice none 0 0, .bool false, .int .u64 0, .int .u64 0, .bool false, .bool false, .int .i64 0, .int .i64 0, .int .i64 0, .int .u64 0, .int .u64 0, .int .u64 0, .int .i64 0, .int .i64 0] 27) = X8 at *
      clear eg7
      replace KA := KA.below b9 KA.lt
      replace BX := Base.thenB BX b9
      replace BC := thenB BC b9
      clear b9
      refine hK.out _ _ KA (fun hHeld => ?_)
      clear hK K
      try simp only [List.getElem_toArray, List.getElem_cons_zero, List.getElem_cons_succ, Act.put, List.setIfInBounds_toArray, List.set_cons_zero, List.set_cons_succ]
      refine wpAnyH_ready (rs := [0]) (by kernel_rfl) (by simp) ?_
      refine AllReadyH.cons rfl (fun K hK => ?_) (AllReadyH.nil)
      go_simp
      refine (HN0.out X8).mono ?_
      rintro e X9 ⟨rfl, b9⟩
      replace KA := KA.below b9 KA.lt
      replace K7 := K7.below b9 K7.lt
      replace BX := Base.thenB BX b9
      replace BC := thenB BC b9
      clear b9
      refine hK.out _ _ KA (fun hHeld => ?_)
      clear hK K
      try simp only [List.getElem_toArray, List.getElem_cons_zero, List.getElem_cons_succ, Act.put, List.setIfInBounds_toArray, List.set_cons_zero, List.set_cons_succ]
      refine wpAnyH_ready (rs := [5]) (by kernel_rfl) (by simp) ?_
      refine AllReadyH.cons rfl (fun K hK => ?_) (AllReadyH.nil)
      go_simp
      refine (H1.out X9).mono ?_
      rintro e X10 ⟨Q1, rfl, R1, b9⟩
      obtain ⟨A1, c1, rfl⟩ := row_form R1
      obtain ⟨b1, o1, rfl, _, _⟩ := row_at R1 (by simp [inC])
      have bd1 := row_bd R1 (by simp [inC])
      have ne1_wheapsize : b1 ≠ w.heap.size := by have h9 := KA.lt; omega
      have ne1_g7 : b1 ≠ g7 := by have h9 := K7.lt; omega
      have lo1 : W0.heap.size ≤ b1 := by have h9 := BC.size; omega
      replace R1 := R1.less (Nat.zero_le _)
      clear bd1
      replace KA := KA.below b9 KA.lt
      replace K7 := K7.below b9 K7.lt
      replace BX := Base.thenB BX b9
      replace BC := thenB BC b9
      clear b9
      refine hK.out _ _ KA (fun hHeld => ?_)
      clear hK K
      try simp only [List.getElem_toArray, List.getElem_cons_zero, List.getElem_cons_succ, Act.put, List.setIfInBounds_toArray, List.set_cons_zero, List.set_cons_succ]
      refine wpAnyH_take (i := 6) (v := .tuple #[.agg #[.int .i64 0, .int .i64 3, .int .i64 0, .slice none 0 0, .int .i64 (-1), .int .i64 0, .slice none 0 0, .bool false, .int .u64 0, .int .u64 0, .bool false, .bool false, .int .i64 (-1), .int .i64 27, .int .i64 27, .int .u64 s, .int .u64 0, .int .u64 k, .int .i64 1, .int .i64 0], .slice (some ⟨b1, o1, none⟩) 1 c1, .int .i64 0]) rfl (by kernel_rfl) (by kernel_rfl) (by kernel_rfl) (fun _ _ _ h => h) (Or.inl ⟨by first | rfl | go_simp, by intro w9 hSw; (try dsimp only at hSw); go_simp⟩) (by assumption) ?_
      simp only [List.getElem_toArray, List.getElem_cons_zero, List.getElem_cons_succ, Act.put, List.setIfInBounds_toArray, List.set_cons_zero, List.set_cons_succ]
      refine wpAnyH_take (i := 7) (v := .agg #[.int .i64 0, .int .i64 3, .int .i64 0, .slice none 0 0, .int .i64 (-1), .int .i64 0, .slice none 0 0, .bool false, .int .u64 0, .int .u64 0, .bool false, .bool false, .int .i64 (-1), .int .i64 27, .int .i64 27, .int .u64 s, .int .u64 0, .int .u64 k, .int .i64 1, .int .i64 0]) rfl (by kernel_rfl) (by kernel_rfl) (by kernel_rfl) (fun _ _ _ h => h) (Or.inl ⟨by first | rfl | go_simp, by intro w9 hSw; (try dsimp only at hSw); go_simp⟩) (by assumption) ?_
      simp only [List.getElem_toArray, List.getElem_cons_zero, List.getElem_cons_succ, Act.put, List.setIfInBounds_toArray, List.set_cons_zero, List.set_cons_succ]
      refine wpAnyH_take (i := 8) (v := .slice (some ⟨b1, o1, none⟩) 1 c1) rfl (by kernel_rfl) (by kernel_rfl) (by kernel_rfl) (fun _ _ _ h => h) (Or.inl ⟨by first | rfl | go_simp, by intro w9 hSw; (try dsimp only at hSw); go_simp⟩) (by assumption) ?_
      simp only [List.getElem_toArray, List.getElem_cons_zero, List.getElem_cons_succ, Act.put, List.setIfInBounds_toArray, List.set_cons_zero, List.set_cons_succ]
      refine wpAnyH_take (i := 9) (v := .int .i64 0) rfl (by kernel_rfl) (by kernel_rfl) (by kernel_rfl) (fun _ _ _ h => h) (Or.inl ⟨by first | rfl | go_simp, by intro w9 hSw; (try dsimp only at hSw); go_simp⟩) (by assumption) ?_
      simp only [List.getElem_toArray, List.getElem_cons_zero, List.getElem_cons_succ, Act.put, List.setIfInBounds_toArray, List.set_cons_zero, List.set_cons_succ]
      refine wpAnyH_ready (rs := [11]) (by kernel_rfl) (by simp) ?_
      refine AllReadyH.cons rfl (fun K hK => ?_) (AllReadyH.nil)
      have H9 : (#[.int .i64 0, .int .i64 3, .int .i64 0, .slice none 0 0, .int .i64 (-1), .int .i64 0, .slice none 0 0, .bool false, .int .u64 0, .int .u64 0, .bool false, .bool false, .int .i64 (-1), .int .i64 27, .int .i64 27, .int .u64 s, .int .u64 0, .int .u64 k, .int .i64 1, .int .i64 0] : Array Value).all (·.oneCell') = true := by rw [← Array.all_toList]; rfl
      refine Av.step_store_row rfl 27 (.tmp 7) (.tmp 28) rfl (g7) #[.int .i64 0, .int .i64 3, .int .i64 0, .slice none 0 0, .int .i64 (-1), .int .i64 0, .slice none 0 0, .bool false, .int .u64 0, .int .u64 0, .bool false, .bool false, .int .i64 (-1), .int .i64 27, .int .i64 27, .int .u64 s, .int .u64 0, .int .u64 k, .int .i64 1, .int .i64 0] rfl rfl 27 _ K7 (by kernel_rfl) rfl H9 ?_
      replace BC := below_setRow (g := g7) BC (by omega) #[.int .i64 0, .int .i64 3, .int .i64 0, .slice none 0 0, .int .i64 (-1), .int .i64 0, .slice none 0 0, .bool false, .int .u64 0, .int .u64 0, .bool false, .bool false, .int .i64 (-1), .int .i64 27, .int .i64 27, .int .u64 s, .int .u64 0, .int .u64 k, .int .i64 1, .int .i64 0]
      replace R1 := row_setR (cs := #[.int .i64 0, .int .i64 3, .int .i64 0, .slice none 0 0, .int .i64 (-1), .int .i64 0, .slice none 0 0, .bool false, .int .u64 0, .int .u64 0, .bool false, .bool false, .int .i64 (-1), .int .i64 27, .int .i64 27, .int .u64 s, .int .u64 0, .int .u64 k, .int .i64 1, .int .i64 0]) R1 ne1_g7
      replace KA : Blk (X10.setRow (g7) #[.int .i64 0, .int .i64 3, .int .i64 0, .slice none 0 0, .int .i64 (-1), .int .i64 0, .slice none 0 0, .bool false, .int .u64 0, .int .u64 0, .bool false, .bool false, .int .i64 (-1), .int .i64 27, .int .i64 27, .int .u64 s, .int .u64 0, .int .u64 k, .int .i64 1, .int .i64 0]) (w.heap.size) 31 #[.int .u64 s, .int .u64 u] := Av.bother_row KA (by omega)
      replace K7 : Blk (X10.setRow (g7) #[.int .i64 0, .int .i64 3, .int .i64 0, .slice none 0 0, .int .i64 (-1), .int .i64 0, .slice none 0 0, .bool false, .int .u64 0, .int .u64 0, .bool false, .bool false, .int .i64 (-1), .int .i64 27, .int .i64 27, .int .u64 s, .int .u64 0, .int .u64 k, .int .i64 1, .int .i64 0]) (g7) 27 #[.int .i64 0, .int .i64 3, .int .i64 0, .slice none 0 0, .int .i64 (-1), .int .i64 0, .slice none 0 0, .bool false, .int .u64 0, .int .u64 0, .bool false, .bool false, .int .i64 (-1), .int .i64 27, .int .i64 27, .int .u64 s, .int .u64 0, .int .u64 k, .int .i64 1, .int .i64 0] := Av.bset_row K7
      replace BX : Below w.heap.size w (X10.setRow (g7) #[.int .i64 0, .int .i64 3, .int .i64 0, .slice none 0 0, .int .i64 (-1), .int .i64 0, .slice none 0 0, .bool false, .int .u64 0, .int .u64 0, .bool false, .bool false, .int .i64 (-1), .int .i64 27, .int .i64 27, .int .u64 s, .int .u64 0, .int .u64 k, .int .i64 1, .int .i64 0]) := below_setRow BX (by omega) _
      clear H9
      generalize X10.setRow (g7) #[.int .i64 0, .int .i64 3, .int .i64 0, .slice none 0 0, .int .i64 (-1), .int .i64 0, .slice none 0 0, .bool false, .int .u64 0, .int .u64 0, .bool false, .bool false, .int .i64 (-1), .int .i64 27, .int .i64 27, .int .u64 s, .int .u64 0, .int .u64 k, .int .i64 1, .int .i64 0] = X11 at *
      refine hK.out _ _ KA (fun hHeld => ?_)
      clear hK K
      try simp only [List.getElem_toArray, List.getElem_cons_zero, List.getElem_cons_succ, Act.put, List.setIfInBounds_toArray, List.set_cons_zero, List.set_cons_succ]
      refine wpAnyH_take (i := 12) (v := .slice (some ⟨b1, o1, none⟩) 1 c1) rfl (by kernel_rfl) (by kernel_rfl) (by kernel_rfl) (fun _ _ _ h => h) (Or.inl ⟨by first | rfl | go_simp, by intro w9 hSw; (try dsimp only at hSw); go_simp⟩) (by assumption) ?_
      simp only [List.getElem_toArray, List.getElem_cons_zero, List.getElem_cons_succ, Act.put, List.setIfInBounds_toArray, List.set_cons_zero, List.set_cons_succ]
      refine wpAnyH_take (i := 13) (v := .int .i64 0) rfl (by kernel_rfl) (by kernel_rfl) (by kernel_rfl) (fun _ _ _ h => h) (Or.inl ⟨by first | rfl | go_simp, by intro w9 hSw; (try dsimp only at hSw); go_simp⟩) (by assumption) ?_
      simp only [List.getElem_toArray, List.getElem_cons_zero, List.getElem_cons_succ, Act.put, List.setIfInBounds_toArray, List.set_cons_zero, List.set_cons_succ]
      refine wpAnyH_done (by kernel_rfl) ?_ _
      clear hHeld
      go_wp2_with fail
      go_meet
      exact ⟨g7, b1, o1, c1, rfl, rfl, rfl, hc7, K7, R1, BC, BX⟩
  clear BC BX
  obtain ⟨g7, b1, o1, c1, rfl, rfl, rfl, hc7, K7, R1, BC, BX⟩ := hcut
  replace KA := KA.below BC KA.lt
  clear BC
  have nA7 : w.heap.size ≠ g7 := by omega
  have hw7 : w.heap.size ≤ g7 := by omega
  go_upto_region 4 with (first | (refine wpList_load_row_w rfl 27 (.tmp 7) rfl g7 rfl 27 _ (0, 0) _ K7 Try.underlying27 rfl (by kernel_rfl) ?_) | (go_at_call 15; refine (QC1.out _).mono ?_; rintro e V1 ⟨rfl, b9⟩; replace KA := KA.below b9 KA.lt; replace K7 := K7.below b9 K7.lt; replace R1 := Row.below R1 b9; replace BX := thenB BX b9; clear b9))
  have BC := Below.refl V1.heap.size V1
  have h7 := K7.lt
  try simp only [Act.put]
  go_cut [10, 11, 12] from 31 to 51 (fun s10 s11 s12 wx => ∃ g10 A2 c2 b3 o3 c3, s10 = .pointer (some ⟨g10, 0, none⟩) ∧ s11 = .slice A2 0 c2 ∧ s12 = .slice (some ⟨b3, o3, none⟩) 1 c3 ∧ V1.heap.size ≤ g10 ∧ Blk wx g10 27 #[.int .i64 1, .int .i64 (-1), .int .i64 0, .slice none 0 0, .int .i64 3, .int .i64 0, .slice none 0 0, .bool false, .int .u64 0, .int .u64 0, .bool false, .bool false, .int .i64 (-1), .int .i64 27, .int .i64 27, .int .u64 0, .int .u64 s, .int .u64 k, .int .i64 1, .int .i64 0] ∧ Row wx 0 (.slice (some ⟨b3, o3, none⟩) 1 c3) 1 (inC 8 k) ∧ Below V1.heap.size V1 wx ∧ Below w.heap.size w wx)
  · skip
    refine wp_region_held_drew (S := (fun w' => Row w' 0 (.slice (some ⟨b1, o1, none⟩) 1 c1) 1 [.int .i64 3, .int .i64 0, .int .i64 0, .int .i64 0, .int .i64 0, .int .i64 0, .int .u64 0, .int .u16 0, .int .i64 0, .int .i64 0, .int .u64 s, .int .u64 k, .int .u64 0, .int .i64 0, .int .i64 0])) (by kernel_rfl) ?_ (fun hHeld => ?_)
    · exact R1
    replace BX : Below w.heap.size w V1.drew := BX.drew
    replace BC := BC.drew
    replace R1 := Row.drew R1
    replace R1 : Row V1.drew 0 (.slice (some ⟨b1, o1, none⟩) 1 c1) 1 [.int .i64 3, .int .i64 0, .int .i64 0, .int .i64 0, .int .i64 0, .int .i64 0, .int .u64 0, .int .u16 0, .int .i64 0, .int .i64 0, .int .u64 s, .int .u64 k, .int .u64 0, .int .i64 0, .int .i64 0] := R1
    generalize V1.drew = X0 at *
    refine wpAnyH_take (i := 1) (v := .slice (some ⟨b1, o1, none⟩) 1 c1) rfl (by kernel_rfl) (by kernel_rfl) (by kernel_rfl) (fun _ _ _ h => h) (Or.inl ⟨by first | rfl | go_simp, by intro w9 hSw; (try dsimp only at hSw); go_simp⟩) (by assumption) ?_
    simp only [List.getElem_toArray, List.getElem_cons_zero, List.getElem_cons_succ, Act.put, List.setIfInBounds_toArray, List.set_cons_zero, List.set_cons_succ]
    refine wpAnyH_take (i := 2) (v := .pointer (some ⟨b1, o1, none⟩)) rfl (by kernel_rfl) (by kernel_rfl) (by kernel_rfl) (fun _ _ _ h => h) (Or.inl ⟨by first | rfl | go_simp, by intro w9 hSw; (try dsimp only at hSw); go_simp⟩) (by assumption) ?_
    simp only [List.getElem_toArray, List.getElem_cons_zero, List.getElem_cons_succ, Act.put, List.setIfInBounds_toArray, List.set_cons_zero, List.set_cons_succ]
    refine wpAnyH_take (i := 3) (v := .agg #[.int .i64 3, .int .i64 0, .int .i64 0, .int .i64 0, .int .i64 0, .int .i64 0, .int .u64 0, .int .u16 0, .int .i64 0, .int .i64 0, .int .u64 s, .int .u64 k, .int .u64 0, .int .i64 0, .int .i64 0]) rfl (by kernel_rfl) (by kernel_rfl) (by kernel_rfl) (fun _ _ _ h => h) (yields_elem (by first | rfl | go_simp) _ _ rfl b1 o1 0 0 1 c1 rfl #[.int .i64 3, .int .i64 0, .int .i64 0, .int .i64 0, .int .i64 0, .int .i64 0, .int .u64 0, .int .u16 0, .int .i64 0, .int .i64 0, .int .u64 s, .int .u64 k, .int .u64 0, .int .i64 0, .int .i64 0] [.int .i64 3, .int .i64 0, .int .i64 0, .int .i64 0, .int .i64 0, .int .i64 0, .int .u64 0, .int .u16 0, .int .i64 0, .int .i64 0, .int .u64 s, .int .u64 k, .int .u64 0, .int .i64 0, .int .i64 0] _ (fun w9 hSw => hSw) (by simp) rfl Try.underlying57 rfl (by kernel_rfl)) (by assumption) ?_
    simp only [List.getElem_toArray, List.getElem_cons_zero, List.getElem_cons_succ, Act.put, List.setIfInBounds_toArray, List.set_cons_zero, List.set_cons_succ]
    refine wpAnyH_ready (rs := [0, 9]) (by kernel_rfl) (by simp) ?_
    refine AllReadyH.cons rfl (fun K hK => ?_) (AllReadyH.cons rfl (fun K hK => ?_) (AllReadyH.nil))
    · skip
      go_simp
      refine (HN1.out X0).mono ?_
      rintro e X1 ⟨rfl, b9⟩
      replace BX := Base.thenB BX b9
      replace BC := thenB BC b9
      replace R1 := Row.below R1 b9
      clear b9
      refine hK.out _ _ R1 (fun hHeld => ?_)
      clear hK K
      try simp only [List.getElem_toArray, List.getElem_cons_zero, List.getElem_cons_succ, Act.put, List.setIfInBounds_toArray, List.set_cons_zero, List.set_cons_succ]
      refine wpAnyH_ready (rs := [4, 9]) (by kernel_rfl) (by simp) ?_
      refine AllReadyH.cons rfl (fun K hK => ?_) (AllReadyH.cons rfl (fun K hK => ?_) (AllReadyH.nil))
      · skip
        go_simp
        refine (H2.out X1).mono ?_
        rintro e X2 ⟨Q2, Q3, rfl, R2, R3, b9⟩
        obtain ⟨A2, c2, rfl⟩ := row_form R2
        clear R2
        obtain ⟨A3, c3, rfl⟩ := row_form R3
        obtain ⟨b3, o3, rfl, _, _⟩ := row_at R3 (by simp [inC])
        have bd3 := row_bd R3 (by simp [inC])
        have lo3 : V1.heap.size ≤ b3 := by have h9 := BC.size; omega
        replace R3 := R3.less (Nat.zero_le _)
        clear bd3
        replace BX := Base.thenB BX b9
        replace BC := thenB BC b9
        replace R1 := Row.below R1 b9
        clear b9
        refine hK.out _ _ R1 (fun hHeld => ?_)
        clear hK K
        try simp only [List.getElem_toArray, List.getElem_cons_zero, List.getElem_cons_succ, Act.put, List.setIfInBounds_toArray, List.set_cons_zero, List.set_cons_succ]
        refine wpAnyH_take (i := 5) (v := .tuple #[.agg #[.int .i64 1, .int .i64 (-1), .int .i64 0, .slice none 0 0, .int .i64 3, .int .i64 0, .slice none 0 0, .bool false, .int .u64 0, .int .u64 0, .bool false, .bool false, .int .i64 (-1), .int .i64 27, .int .i64 27, .int .u64 0, .int .u64 s, .int .u64 k, .int .i64 1, .int .i64 0], .slice A2 0 c2, .slice (some ⟨b3, o3, none⟩) 1 c3]) rfl (by kernel_rfl) (by kernel_rfl) (by kernel_rfl) (fun _ _ _ h => h) (Or.inl ⟨by first | rfl | go_simp, by intro w9 hSw; (try dsimp only at hSw); go_simp⟩) (by assumption) ?_
        simp only [List.getElem_toArray, List.getElem_cons_zero, List.getElem_cons_succ, Act.put, List.setIfInBounds_toArray, List.set_cons_zero, List.set_cons_succ]
        refine wpAnyH_take (i := 6) (v := .agg #[.int .i64 1, .int .i64 (-1), .int .i64 0, .slice none 0 0, .int .i64 3, .int .i64 0, .slice none 0 0, .bool false, .int .u64 0, .int .u64 0, .bool false, .bool false, .int .i64 (-1), .int .i64 27, .int .i64 27, .int .u64 0, .int .u64 s, .int .u64 k, .int .i64 1, .int .i64 0]) rfl (by kernel_rfl) (by kernel_rfl) (by kernel_rfl) (fun _ _ _ h => h) (Or.inl ⟨by first | rfl | go_simp, by intro w9 hSw; (try dsimp only at hSw); go_simp⟩) (by assumption) ?_
        simp only [List.getElem_toArray, List.getElem_cons_zero, List.getElem_cons_succ, Act.put, List.setIfInBounds_toArray, List.set_cons_zero, List.set_cons_succ]
        refine wpAnyH_take (i := 7) (v := .slice A2 0 c2) rfl (by kernel_rfl) (by kernel_rfl) (by kernel_rfl) (fun _ _ _ h => h) (Or.inl ⟨by first | rfl | go_simp, by intro w9 hSw; (try dsimp only at hSw); go_simp⟩) (by assumption) ?_
        simp only [List.getElem_toArray, List.getElem_cons_zero, List.getElem_cons_succ, Act.put, List.setIfInBounds_toArray, List.set_cons_zero, List.set_cons_succ]
        refine wpAnyH_take (i := 8) (v := .slice (some ⟨b3, o3, none⟩) 1 c3) rfl (by kernel_rfl) (by kernel_rfl) (by kernel_rfl) (fun _ _ _ h => h) (Or.inl ⟨by first | rfl | go_simp, by intro w9 hSw; (try dsimp only at hSw); go_simp⟩) (by assumption) ?_
        simp only [List.getElem_toArray, List.getElem_cons_zero, List.getElem_cons_succ, Act.put, List.setIfInBounds_toArray, List.set_cons_zero, List.set_cons_succ]
        refine wpAnyH_ready (rs := [9]) (by kernel_rfl) (by simp) ?_
        refine AllReadyH.cons rfl (fun K hK => ?_) (AllReadyH.nil)
        go_simp
        have b9 := (Below.refl X2.heap.size X2).alloc (Nat.le_refl _) (.cells #[.int .i64 0, .int .i64 0, .int .i64 0, .slice none 0 0, .int .i64 0, .int .i64 0, .slice none 0 0, .bool false, .int .u64 0, .int .u64 0, .bool false, .bool false, .int .i64 0, .int .i64 0, .int .i64 0, .int .u64 0, .int .u64 0, .int .u64 0, .int .i64 0, .int .i64 0] 27)
        have K10 := Blk.fresh X2 27 #[.int .i64 0, .int .i64 0, .int .i64 0, .slice none 0 0, .int .i64 0, .int .i64 0, .slice none 0 0, .bool false, .int .u64 0, .int .u64 0, .bool false, .bool false, .int .i64 0, .int .i64 0, .int .i64 0, .int .u64 0, .int .u64 0, .int .u64 0, .int .i64 0, .int .i64 0]
        have ne1_g10 : b1 ≠ X2.heap.size := by have h9 := (row_bd R1 (by simp [inC])).2; omega
        have ne3_g10 : b3 ≠ X2.heap.size := by have h9 := (row_bd R3 (by simp [inC])).2; omega
        have hc10 : V1.heap.size ≤ X2.heap.size := BC.size
        have hw10 : w.heap.size ≤ X2.heap.size := BX.size
        obtain ⟨g10, eg10⟩ : ∃ g, X2.heap.size = g := ⟨_, rfl⟩
        rw [eg10] at K10 hc10 hw10 ne1_g10 ne3_g10
        try simp only [eg10]
        generalize X2.alloc (.cells #[.int .i64 0, .int .i64 0, .int .i64 0, .slice none 0 0, .int .i64 0, .int .i64 0, .slice none 0 0, .bool false, .int .u64 0, .int .u64 0, .bool false, .bool false, .int .i64 0, .int .i64 0, .int .i64 0, .int .u64 0, .int .u64 0, .int .u64 0, .int .i64 0, .int .i64 0] 27) = X3 at *
        clear eg10
        replace BX := Base.thenB BX b9
        replace BC := thenB BC b9
        replace R1 := Row.below R1 b9
        replace R3 := Row.below R3 b9
        clear b9
        refine hK.out _ _ R1 (fun hHeld => ?_)
        clear hK K
        try simp only [List.getElem_toArray, List.getElem_cons_zero, List.getElem_cons_succ, Act.put, List.setIfInBounds_toArray, List.set_cons_zero, List.set_cons_succ]
        refine wpAnyH_ready (rs := [10]) (by kernel_rfl) (by simp) ?_
        refine AllReadyH.cons rfl (fun K hK => ?_) (AllReadyH.nil)
        have H9 : (#[.int .i64 1, .int .i64 (-1), .int .i64 0, .slice none 0 0, .int .i64 3, .int .i64 0, .slice none 0 0, .bool false, .int .u64 0, .int .u64 0, .bool false, .bool false, .int .i64 (-1), .int .i64 27, .int .i64 27, .int .u64 0, .int .u64 s, .int .u64 k, .int .i64 1, .int .i64 0] : Array Value).all (·.oneCell') = true := by rw [← Array.all_toList]; rfl
        refine Av.step_store_row rfl 27 (.tmp 10) (.tmp 49) rfl (g10) #[.int .i64 1, .int .i64 (-1), .int .i64 0, .slice none 0 0, .int .i64 3, .int .i64 0, .slice none 0 0, .bool false, .int .u64 0, .int .u64 0, .bool false, .bool false, .int .i64 (-1), .int .i64 27, .int .i64 27, .int .u64 0, .int .u64 s, .int .u64 k, .int .i64 1, .int .i64 0] rfl rfl 27 _ K10 (by kernel_rfl) rfl H9 ?_
        replace BC := below_setRow (g := g10) BC (by omega) #[.int .i64 1, .int .i64 (-1), .int .i64 0, .slice none 0 0, .int .i64 3, .int .i64 0, .slice none 0 0, .bool false, .int .u64 0, .int .u64 0, .bool false, .bool false, .int .i64 (-1), .int .i64 27, .int .i64 27, .int .u64 0, .int .u64 s, .int .u64 k, .int .i64 1, .int .i64 0]
        replace R1 := row_setR (cs := #[.int .i64 1, .int .i64 (-1), .int .i64 0, .slice none 0 0, .int .i64 3, .int .i64 0, .slice none 0 0, .bool false, .int .u64 0, .int .u64 0, .bool false, .bool false, .int .i64 (-1), .int .i64 27, .int .i64 27, .int .u64 0, .int .u64 s, .int .u64 k, .int .i64 1, .int .i64 0]) R1 ne1_g10
        replace R3 := row_setR (cs := #[.int .i64 1, .int .i64 (-1), .int .i64 0, .slice none 0 0, .int .i64 3, .int .i64 0, .slice none 0 0, .bool false, .int .u64 0, .int .u64 0, .bool false, .bool false, .int .i64 (-1), .int .i64 27, .int .i64 27, .int .u64 0, .int .u64 s, .int .u64 k, .int .i64 1, .int .i64 0]) R3 ne3_g10
        replace K10 : Blk (X3.setRow (g10) #[.int .i64 1, .int .i64 (-1), .int .i64 0, .slice none 0 0, .int .i64 3, .int .i64 0, .slice none 0 0, .bool false, .int .u64 0, .int .u64 0, .bool false, .bool false, .int .i64 (-1), .int .i64 27, .int .i64 27, .int .u64 0, .int .u64 s, .int .u64 k, .int .i64 1, .int .i64 0]) (g10) 27 #[.int .i64 1, .int .i64 (-1), .int .i64 0, .slice none 0 0, .int .i64 3, .int .i64 0, .slice none 0 0, .bool false, .int .u64 0, .int .u64 0, .bool false, .bool false, .int .i64 (-1), .int .i64 27, .int .i64 27, .int .u64 0, .int .u64 s, .int .u64 k, .int .i64 1, .int .i64 0] := Av.bset_row K10
        replace BX : Below w.heap.size w (X3.setRow (g10) #[.int .i64 1, .int .i64 (-1), .int .i64 0, .slice none 0 0, .int .i64 3, .int .i64 0, .slice none 0 0, .bool false, .int .u64 0, .int .u64 0, .bool false, .bool false, .int .i64 (-1), .int .i64 27, .int .i64 27, .int .u64 0, .int .u64 s, .int .u64 k, .int .i64 1, .int .i64 0]) := below_setRow BX (by omega) _
        clear H9
        generalize X3.setRow (g10) #[.int .i64 1, .int .i64 (-1), .int .i64 0, .slice none 0 0, .int .i64 3, .int .i64 0, .slice none 0 0, .bool false, .int .u64 0, .int .u64 0, .bool false, .bool false, .int .i64 (-1), .int .i64 27, .int .i64 27, .int .u64 0, .int .u64 s, .int .u64 k, .int .i64 1, .int .i64 0] = X4 at *
        refine hK.out _ _ R1 (fun hHeld => ?_)
        clear hK K
        try simp only [List.getElem_toArray, List.getElem_cons_zero, List.getElem_cons_succ, Act.put, List.setIfInBounds_toArray, List.set_cons_zero, List.set_cons_succ]
        refine wpAnyH_take (i := 11) (v := .slice A2 0 c2) rfl (by kernel_rfl) (by kernel_rfl) (by kernel_rfl) (fun _ _ _ h => h) (Or.inl ⟨by first | rfl | go_simp, by intro w9 hSw; (try dsimp only at hSw); go_simp⟩) (by assumption) ?_
        simp only [List.getElem_toArray, List.getElem_cons_zero, List.getElem_cons_succ, Act.put, List.setIfInBounds_toArray, List.set_cons_zero, List.set_cons_succ]
        refine wpAnyH_take (i := 12) (v := .slice (some ⟨b3, o3, none⟩) 1 c3) rfl (by kernel_rfl) (by kernel_rfl) (by kernel_rfl) (fun _ _ _ h => h) (Or.inl ⟨by first | rfl | go_simp, by intro w9 hSw; (try dsimp only at hSw); go_simp⟩) (by assumption) ?_
        simp only [List.getElem_toArray, List.getElem_cons_zero, List.getElem_cons_succ, Act.put, List.setIfInBounds_toArray, List.set_cons_zero, List.set_cons_succ]
        refine wpAnyH_done (by kernel_rfl) ?_ _
        clear hHeld
        go_wp2_with fail
        go_meet
        exact ⟨g10, A2, c2, b3, o3, c3, rfl, rfl, rfl, hc10, K10, R3, BC, BX⟩
      · skip
        go_simp
        have b9 := (Below.refl X1.heap.size X1).alloc (Nat.le_refl _) (.cells #[.int .i64 0, .int .i64 0, .int .i64 0, .slice none 0 0, .int .i64 0, .int .i64 0, .slice none 0 0, .bool false, .int .u64 0, .int .u64 0, .bool false, .bool false, .int .i64 0, .int .i64 0, .int .i64 0, .int .u64 0, .int .u64 0, .int .u64 0, .int .i64 0, .int .i64 0] 27)
        have K10 := Blk.fresh X1 27 #[.int .i64 0, .int .i64 0, .int .i64 0, .slice none 0 0, .int .i64 0, .int .i64 0, .slice none 0 0, .bool false, .int .u64 0, .int .u64 0, .bool false, .bool false, .int .i64 0, .int .i64 0, .int .i64 0, .int .u64 0, .int .u64 0, .int .u64 0, .int .i64 0, .int .i64 0]
        have ne1_g10 : b1 ≠ X1.heap.size := by have h9 := (row_bd R1 (by simp [inC])).2; omega
        have hc10 : V1.heap.size ≤ X1.heap.size := BC.size
        have hw10 : w.heap.size ≤ X1.heap.size := BX.size
        obtain ⟨g10, eg10⟩ : ∃ g, X1.heap.size = g := ⟨_, rfl⟩
        rw [eg10] at K10 hc10 hw10 ne1_g10
        try simp only [eg10]
        generalize X1.alloc (.cells #[.int .i64 0, .int .i64 0, .int .i64 0, .slice none 0 0, .int .i64 0, .int .i64 0, .slice none 0 0, .bool false, .int .u64 0, .int .u64 0, .bool false, .bool false, .int .i64 0, .int .i64 0, .int .i64 0, .int .u64 0, .int .u64 0, .int .u64 0, .int .i64 0, .int .i64 0] 27) = X5 at *
        clear eg10
        replace BX := Base.thenB BX b9
        replace BC := thenB BC b9
        replace R1 := Row.below R1 b9
        clear b9
        refine hK.out _ _ R1 (fun hHeld => ?_)
        clear hK K
        try simp only [List.getElem_toArray, List.getElem_cons_zero, List.getElem_cons_succ, Act.put, List.setIfInBounds_toArray, List.set_cons_zero, List.set_cons_succ]
        refine wpAnyH_ready (rs := [4]) (by kernel_rfl) (by simp) ?_
        refine AllReadyH.cons rfl (fun K hK => ?_) (AllReadyH.nil)
        go_simp
        refine (H2.out X5).mono ?_
        rintro e X6 ⟨Q2, Q3, rfl, R2, R3, b9⟩
        obtain ⟨A2, c2, rfl⟩ := row_form R2
        clear R2
        obtain ⟨A3, c3, rfl⟩ := row_form R3
        obtain ⟨b3, o3, rfl, _, _⟩ := row_at R3 (by simp [inC])
        have bd3 := row_bd R3 (by simp [inC])
        have ne3_g10 : b3 ≠ g10 := by have h9 := K10.lt; omega
        have lo3 : V1.heap.size ≤ b3 := by have h9 := BC.size; omega
        replace R3 := R3.less (Nat.zero_le _)
        clear bd3
        replace K10 := K10.below b9 K10.lt
        replace BX := Base.thenB BX b9
        replace BC := thenB BC b9
        replace R1 := Row.below R1 b9
        clear b9
        refine hK.out _ _ R1 (fun hHeld => ?_)
        clear hK K
        try simp only [List.getElem_toArray, List.getElem_cons_zero, List.getElem_cons_succ, Act.put, List.setIfInBounds_toArray, List.set_cons_zero, List.set_cons_succ]
        refine wpAnyH_take (i := 5) (v := .tuple #[.agg #[.int .i64 1, .int .i64 (-1), .int .i64 0, .slice none 0 0, .int .i64 3, .int .i64 0, .slice none 0 0, .bool false, .int .u64 0, .int .u64 0, .bool false, .bool false, .int .i64 (-1), .int .i64 27, .int .i64 27, .int .u64 0, .int .u64 s, .int .u64 k, .int .i64 1, .int .i64 0], .slice A2 0 c2, .slice (some ⟨b3, o3, none⟩) 1 c3]) rfl (by kernel_rfl) (by kernel_rfl) (by kernel_rfl) (fun _ _ _ h => h) (Or.inl ⟨by first | rfl | go_simp, by intro w9 hSw; (try dsimp only at hSw); go_simp⟩) (by assumption) ?_
        simp only [List.getElem_toArray, List.getElem_cons_zero, List.getElem_cons_succ, Act.put, List.setIfInBounds_toArray, List.set_cons_zero, List.set_cons_succ]
        refine wpAnyH_take (i := 6) (v := .agg #[.int .i64 1, .int .i64 (-1), .int .i64 0, .slice none 0 0, .int .i64 3, .int .i64 0, .slice none 0 0, .bool false, .int .u64 0, .int .u64 0, .bool false, .bool false, .int .i64 (-1), .int .i64 27, .int .i64 27, .int .u64 0, .int .u64 s, .int .u64 k, .int .i64 1, .int .i64 0]) rfl (by kernel_rfl) (by kernel_rfl) (by kernel_rfl) (fun _ _ _ h => h) (Or.inl ⟨by first | rfl | go_simp, by intro w9 hSw; (try dsimp only at hSw); go_simp⟩) (by assumption) ?_
        simp only [List.getElem_toArray, List.getElem_cons_zero, List.getElem_cons_succ, Act.put, List.setIfInBounds_toArray, List.set_cons_zero, List.set_cons_succ]
        refine wpAnyH_take (i := 7) (v := .slice A2 0 c2) rfl (by kernel_rfl) (by kernel_rfl) (by kernel_rfl) (fun _ _ _ h => h) (Or.inl ⟨by first | rfl | go_simp, by intro w9 hSw; (try dsimp only at hSw); go_simp⟩) (by assumption) ?_
        simp only [List.getElem_toArray, List.getElem_cons_zero, List.getElem_cons_succ, Act.put, List.setIfInBounds_toArray, List.set_cons_zero, List.set_cons_succ]
        refine wpAnyH_take (i := 8) (v := .slice (some ⟨b3, o3, none⟩) 1 c3) rfl (by kernel_rfl) (by kernel_rfl) (by kernel_rfl) (fun _ _ _ h => h) (Or.inl ⟨by first | rfl | go_simp, by intro w9 hSw; (try dsimp only at hSw); go_simp⟩) (by assumption) ?_
        simp only [List.getElem_toArray, List.getElem_cons_zero, List.getElem_cons_succ, Act.put, List.setIfInBounds_toArray, List.set_cons_zero, List.set_cons_succ]
        refine wpAnyH_ready (rs := [10]) (by kernel_rfl) (by simp) ?_
        refine AllReadyH.cons rfl (fun K hK => ?_) (AllReadyH.nil)
        have H9 : (#[.int .i64 1, .int .i64 (-1), .int .i64 0, .slice none 0 0, .int .i64 3, .int .i64 0, .slice none 0 0, .bool false, .int .u64 0, .int .u64 0, .bool false, .bool false, .int .i64 (-1), .int .i64 27, .int .i64 27, .int .u64 0, .int .u64 s, .int .u64 k, .int .i64 1, .int .i64 0] : Array Value).all (·.oneCell') = true := by rw [← Array.all_toList]; rfl
        refine Av.step_store_row rfl 27 (.tmp 10) (.tmp 49) rfl (g10) #[.int .i64 1, .int .i64 (-1), .int .i64 0, .slice none 0 0, .int .i64 3, .int .i64 0, .slice none 0 0, .bool false, .int .u64 0, .int .u64 0, .bool false, .bool false, .int .i64 (-1), .int .i64 27, .int .i64 27, .int .u64 0, .int .u64 s, .int .u64 k, .int .i64 1, .int .i64 0] rfl rfl 27 _ K10 (by kernel_rfl) rfl H9 ?_
        replace BC := below_setRow (g := g10) BC (by omega) #[.int .i64 1, .int .i64 (-1), .int .i64 0, .slice none 0 0, .int .i64 3, .int .i64 0, .slice none 0 0, .bool false, .int .u64 0, .int .u64 0, .bool false, .bool false, .int .i64 (-1), .int .i64 27, .int .i64 27, .int .u64 0, .int .u64 s, .int .u64 k, .int .i64 1, .int .i64 0]
        replace R1 := row_setR (cs := #[.int .i64 1, .int .i64 (-1), .int .i64 0, .slice none 0 0, .int .i64 3, .int .i64 0, .slice none 0 0, .bool false, .int .u64 0, .int .u64 0, .bool false, .bool false, .int .i64 (-1), .int .i64 27, .int .i64 27, .int .u64 0, .int .u64 s, .int .u64 k, .int .i64 1, .int .i64 0]) R1 ne1_g10
        replace R3 := row_setR (cs := #[.int .i64 1, .int .i64 (-1), .int .i64 0, .slice none 0 0, .int .i64 3, .int .i64 0, .slice none 0 0, .bool false, .int .u64 0, .int .u64 0, .bool false, .bool false, .int .i64 (-1), .int .i64 27, .int .i64 27, .int .u64 0, .int .u64 s, .int .u64 k, .int .i64 1, .int .i64 0]) R3 ne3_g10
        replace K10 : Blk (X6.setRow (g10) #[.int .i64 1, .int .i64 (-1), .int .i64 0, .slice none 0 0, .int .i64 3, .int .i64 0, .slice none 0 0, .bool false, .int .u64 0, .int .u64 0, .bool false, .bool false, .int .i64 (-1), .int .i64 27, .int .i64 27, .int .u64 0, .int .u64 s, .int .u64 k, .int .i64 1, .int .i64 0]) (g10) 27 #[.int .i64 1, .int .i64 (-1), .int .i64 0, .slice none 0 0, .int .i64 3, .int .i64 0, .slice none 0 0, .bool false, .int .u64 0, .int .u64 0, .bool false, .bool false, .int .i64 (-1), .int .i64 27, .int .i64 27, .int .u64 0, .int .u64 s, .int .u64 k, .int .i64 1, .int .i64 0] := Av.bset_row K10
        replace BX : Below w.heap.size w (X6.setRow (g10) #[.int .i64 1, .int .i64 (-1), .int .i64 0, .slice none 0 0, .int .i64 3, .int .i64 0, .slice none 0 0, .bool false, .int .u64 0, .int .u64 0, .bool false, .bool false, .int .i64 (-1), .int .i64 27, .int .i64 27, .int .u64 0, .int .u64 s, .int .u64 k, .int .i64 1, .int .i64 0]) := below_setRow BX (by omega) _
        clear H9
        generalize X6.setRow (g10) #[.int .i64 1, .int .i64 (-1), .int .i64 0, .slice none 0 0, .int .i64 3, .int .i64 0, .slice none 0 0, .bool false, .int .u64 0, .int .u64 0, .bool false, .bool false, .int .i64 (-1), .int .i64 27, .int .i64 27, .int .u64 0, .int .u64 s, .int .u64 k, .int .i64 1, .int .i64 0] = X7 at *
        refine hK.out _ _ R1 (fun hHeld => ?_)
        clear hK K
        try simp only [List.getElem_toArray, List.getElem_cons_zero, List.getElem_cons_succ, Act.put, List.setIfInBounds_toArray, List.set_cons_zero, List.set_cons_succ]
        refine wpAnyH_take (i := 11) (v := .slice A2 0 c2) rfl (by kernel_rfl) (by kernel_rfl) (by kernel_rfl) (fun _ _ _ h => h) (Or.inl ⟨by first | rfl | go_simp, by intro w9 hSw; (try dsimp only at hSw); go_simp⟩) (by assumption) ?_
        simp only [List.getElem_toArray, List.getElem_cons_zero, List.getElem_cons_succ, Act.put, List.setIfInBounds_toArray, List.set_cons_zero, List.set_cons_succ]
        refine wpAnyH_take (i := 12) (v := .slice (some ⟨b3, o3, none⟩) 1 c3) rfl (by kernel_rfl) (by kernel_rfl) (by kernel_rfl) (fun _ _ _ h => h) (Or.inl ⟨by first | rfl | go_simp, by intro w9 hSw; (try dsimp only at hSw); go_simp⟩) (by assumption) ?_
        simp only [List.getElem_toArray, List.getElem_cons_zero, List.getElem_cons_succ, Act.put, List.setIfInBounds_toArray, List.set_cons_zero, List.set_cons_succ]
        refine wpAnyH_done (by kernel_rfl) ?_ _
        clear hHeld
        go_wp2_with fail
        go_meet
        exact ⟨g10, A2, c2, b3, o3, c3, rfl, rfl, rfl, hc10, K10, R3, BC, BX⟩
    · skip
      go_simp
      have b9 := (Below.refl X0.heap.size X0).alloc (Nat.le_refl _) (.cells #[.int .i64 0, .int .i64 0, .int .i64 0, .slice none 0 0, .int .i64 0, .int .i64 0, .slice none 0 0, .bool false, .int .u64 0, .int .u64 0, .bool false, .bool false, .int .i64 0, .int .i64 0, .int .i64 0, .int .u64 0, .int .u64 0, .int .u64 0, .int .i64 0, .int .i64 0] 27)
      have K10 := Blk.fresh X0 27 #[.int .i64 0, .int .i64 0, .int .i64 0, .slice none 0 0, .int .i64 0, .int .i64 0, .slice none 0 0, .bool false, .int .u64 0, .int .u64 0, .bool false, .bool false, .int .i64 0, .int .i64 0, .int .i64 0, .int .u64 0, .int .u64 0, .int .u64 0, .int .i64 0, .int .i64 0]
      have ne1_g10 : b1 ≠ X0.heap.size := by have h9 := (row_bd R1 (by simp [inC])).2; omega
      have hc10 : V1.heap.size ≤ X0.heap.size := BC.size
      have hw10 : w.heap.size ≤ X0.heap.size := BX.size
      obtain ⟨g10, eg10⟩ : ∃ g, X0.heap.size = g := ⟨_, rfl⟩
      rw [eg10] at K10 hc10 hw10 ne1_g10
      try simp only [eg10]
      generalize X0.alloc (.cells #[.int .i64 0, .int .i64 0, .int .i64 0, .slice none 0 0, .int .i64 0, .int .i64 0, .slice none 0 0, .bool false, .int .u64 0, .int .u64 0, .bool false, .bool false, .int .i64 0, .int .i64 0, .int .i64 0, .int .u64 0, .int .u64 0, .int .u64 0, .int .i64 0, .int .i64 0] 27) = X8 at *
      clear eg10
      replace BX := Base.thenB BX b9
      replace BC := thenB BC b9
      replace R1 := Row.below R1 b9
      clear b9
      refine hK.out _ _ R1 (fun hHeld => ?_)
      clear hK K
      try simp only [List.getElem_toArray, List.getElem_cons_zero, List.getElem_cons_succ, Act.put, List.setIfInBounds_toArray, List.set_cons_zero, List.set_cons_succ]
      refine wpAnyH_ready (rs := [0]) (by kernel_rfl) (by simp) ?_
      refine AllReadyH.cons rfl (fun K hK => ?_) (AllReadyH.nil)
      go_simp
      refine (HN1.out X8).mono ?_
      rintro e X9 ⟨rfl, b9⟩
      replace K10 := K10.below b9 K10.lt
      replace BX := Base.thenB BX b9
      replace BC := thenB BC b9
      replace R1 := Row.below R1 b9
      clear b9
      refine hK.out _ _ R1 (fun hHeld => ?_)
      clear hK K
      try simp only [List.getElem_toArray, List.getElem_cons_zero, List.getElem_cons_succ, Act.put, List.setIfInBounds_toArray, List.set_cons_zero, List.set_cons_succ]
      refine wpAnyH_ready (rs := [4]) (by kernel_rfl) (by simp) ?_
      refine AllReadyH.cons rfl (fun K hK => ?_) (AllReadyH.nil)
      go_simp
      refine (H2.out X9).mono ?_
      rintro e X10 ⟨Q2, Q3, rfl, R2, R3, b9⟩
      obtain ⟨A2, c2, rfl⟩ := row_form R2
      clear R2
      obtain ⟨A3, c3, rfl⟩ := row_form R3
      obtain ⟨b3, o3, rfl, _, _⟩ := row_at R3 (by simp [inC])
      have bd3 := row_bd R3 (by simp [inC])
      have ne3_g10 : b3 ≠ g10 := by have h9 := K10.lt; omega
      have lo3 : V1.heap.size ≤ b3 := by have h9 := BC.size; omega
      replace R3 := R3.less (Nat.zero_le _)
      clear bd3
      replace K10 := K10.below b9 K10.lt
      replace BX := Base.thenB BX b9
      replace BC := thenB BC b9
      replace R1 := Row.below R1 b9
      clear b9
      refine hK.out _ _ R1 (fun hHeld => ?_)
      clear hK K
      try simp only [List.getElem_toArray, List.getElem_cons_zero, List.getElem_cons_succ, Act.put, List.setIfInBounds_toArray, List.set_cons_zero, List.set_cons_succ]
      refine wpAnyH_take (i := 5) (v := .tuple #[.agg #[.int .i64 1, .int .i64 (-1), .int .i64 0, .slice none 0 0, .int .i64 3, .int .i64 0, .slice none 0 0, .bool false, .int .u64 0, .int .u64 0, .bool false, .bool false, .int .i64 (-1), .int .i64 27, .int .i64 27, .int .u64 0, .int .u64 s, .int .u64 k, .int .i64 1, .int .i64 0], .slice A2 0 c2, .slice (some ⟨b3, o3, none⟩) 1 c3]) rfl (by kernel_rfl) (by kernel_rfl) (by kernel_rfl) (fun _ _ _ h => h) (Or.inl ⟨by first | rfl | go_simp, by intro w9 hSw; (try dsimp only at hSw); go_simp⟩) (by assumption) ?_
      simp only [List.getElem_toArray, List.getElem_cons_zero, List.getElem_cons_succ, Act.put, List.setIfInBounds_toArray, List.set_cons_zero, List.set_cons_succ]
      refine wpAnyH_take (i := 6) (v := .agg #[.int .i64 1, .int .i64 (-1), .int .i64 0, .slice none 0 0, .int .i64 3, .int .i64 0, .slice none 0 0, .bool false, .int .u64 0, .int .u64 0, .bool false, .bool false, .int .i64 (-1), .int .i64 27, .int .i64 27, .int .u64 0, .int .u64 s, .int .u64 k, .int .i64 1, .int .i64 0]) rfl (by kernel_rfl) (by kernel_rfl) (by kernel_rfl) (fun _ _ _ h => h) (Or.inl ⟨by first | rfl | go_simp, by intro w9 hSw; (try dsimp only at hSw); go_simp⟩) (by assumption) ?_
      simp only [List.getElem_toArray, List.getElem_cons_zero, List.getElem_cons_succ, Act.put, List.setIfInBounds_toArray, List.set_cons_zero, List.set_cons_succ]
      refine wpAnyH_take (i := 7) (v := .slice A2 0 c2) rfl (by kernel_rfl) (by kernel_rfl) (by kernel_rfl) (fun _ _ _ h => h) (Or.inl ⟨by first | rfl | go_simp, by intro w9 hSw; (try dsimp only at hSw); go_simp⟩) (by assumption) ?_
      simp only [List.getElem_toArray, List.getElem_cons_zero, List.getElem_cons_succ, Act.put, List.setIfInBounds_toArray, List.set_cons_zero, List.set_cons_succ]
      refine wpAnyH_take (i := 8) (v := .slice (some ⟨b3, o3, none⟩) 1 c3) rfl (by kernel_rfl) (by kernel_rfl) (by kernel_rfl) (fun _ _ _ h => h) (Or.inl ⟨by first | rfl | go_simp, by intro w9 hSw; (try dsimp only at hSw); go_simp⟩) (by assumption) ?_
      simp only [List.getElem_toArray, List.getElem_cons_zero, List.getElem_cons_succ, Act.put, List.setIfInBounds_toArray, List.set_cons_zero, List.set_cons_succ]
      refine wpAnyH_ready (rs := [10]) (by kernel_rfl) (by simp) ?_
      refine AllReadyH.cons rfl (fun K hK => ?_) (AllReadyH.nil)
      have H9 : (#[.int .i64 1, .int .i64 (-1), .int .i64 0, .slice none 0 0, .int .i64 3, .int .i64 0, .slice none 0 0, .bool false, .int .u64 0, .int .u64 0, .bool false, .bool false, .int .i64 (-1), .int .i64 27, .int .i64 27, .int .u64 0, .int .u64 s, .int .u64 k, .int .i64 1, .int .i64 0] : Array Value).all (·.oneCell') = true := by rw [← Array.all_toList]; rfl
      refine Av.step_store_row rfl 27 (.tmp 10) (.tmp 49) rfl (g10) #[.int .i64 1, .int .i64 (-1), .int .i64 0, .slice none 0 0, .int .i64 3, .int .i64 0, .slice none 0 0, .bool false, .int .u64 0, .int .u64 0, .bool false, .bool false, .int .i64 (-1), .int .i64 27, .int .i64 27, .int .u64 0, .int .u64 s, .int .u64 k, .int .i64 1, .int .i64 0] rfl rfl 27 _ K10 (by kernel_rfl) rfl H9 ?_
      replace BC := below_setRow (g := g10) BC (by omega) #[.int .i64 1, .int .i64 (-1), .int .i64 0, .slice none 0 0, .int .i64 3, .int .i64 0, .slice none 0 0, .bool false, .int .u64 0, .int .u64 0, .bool false, .bool false, .int .i64 (-1), .int .i64 27, .int .i64 27, .int .u64 0, .int .u64 s, .int .u64 k, .int .i64 1, .int .i64 0]
      replace R1 := row_setR (cs := #[.int .i64 1, .int .i64 (-1), .int .i64 0, .slice none 0 0, .int .i64 3, .int .i64 0, .slice none 0 0, .bool false, .int .u64 0, .int .u64 0, .bool false, .bool false, .int .i64 (-1), .int .i64 27, .int .i64 27, .int .u64 0, .int .u64 s, .int .u64 k, .int .i64 1, .int .i64 0]) R1 ne1_g10
      replace R3 := row_setR (cs := #[.int .i64 1, .int .i64 (-1), .int .i64 0, .slice none 0 0, .int .i64 3, .int .i64 0, .slice none 0 0, .bool false, .int .u64 0, .int .u64 0, .bool false, .bool false, .int .i64 (-1), .int .i64 27, .int .i64 27, .int .u64 0, .int .u64 s, .int .u64 k, .int .i64 1, .int .i64 0]) R3 ne3_g10
      replace K10 : Blk (X10.setRow (g10) #[.int .i64 1, .int .i64 (-1), .int .i64 0, .slice none 0 0, .int .i64 3, .int .i64 0, .slice none 0 0, .bool false, .int .u64 0, .int .u64 0, .bool false, .bool false, .int .i64 (-1), .int .i64 27, .int .i64 27, .int .u64 0, .int .u64 s, .int .u64 k, .int .i64 1, .int .i64 0]) (g10) 27 #[.int .i64 1, .int .i64 (-1), .int .i64 0, .slice none 0 0, .int .i64 3, .int .i64 0, .slice none 0 0, .bool false, .int .u64 0, .int .u64 0, .bool false, .bool false, .int .i64 (-1), .int .i64 27, .int .i64 27, .int .u64 0, .int .u64 s, .int .u64 k, .int .i64 1, .int .i64 0] := Av.bset_row K10
      replace BX : Below w.heap.size w (X10.setRow (g10) #[.int .i64 1, .int .i64 (-1), .int .i64 0, .slice none 0 0, .int .i64 3, .int .i64 0, .slice none 0 0, .bool false, .int .u64 0, .int .u64 0, .bool false, .bool false, .int .i64 (-1), .int .i64 27, .int .i64 27, .int .u64 0, .int .u64 s, .int .u64 k, .int .i64 1, .int .i64 0]) := below_setRow BX (by omega) _
      clear H9
      generalize X10.setRow (g10) #[.int .i64 1, .int .i64 (-1), .int .i64 0, .slice none 0 0, .int .i64 3, .int .i64 0, .slice none 0 0, .bool false, .int .u64 0, .int .u64 0, .bool false, .bool false, .int .i64 (-1), .int .i64 27, .int .i64 27, .int .u64 0, .int .u64 s, .int .u64 k, .int .i64 1, .int .i64 0] = X11 at *
      refine hK.out _ _ R1 (fun hHeld => ?_)
      clear hK K
      try simp only [List.getElem_toArray, List.getElem_cons_zero, List.getElem_cons_succ, Act.put, List.setIfInBounds_toArray, List.set_cons_zero, List.set_cons_succ]
      refine wpAnyH_take (i := 11) (v := .slice A2 0 c2) rfl (by kernel_rfl) (by kernel_rfl) (by kernel_rfl) (fun _ _ _ h => h) (Or.inl ⟨by first | rfl | go_simp, by intro w9 hSw; (try dsimp only at hSw); go_simp⟩) (by assumption) ?_
      simp only [List.getElem_toArray, List.getElem_cons_zero, List.getElem_cons_succ, Act.put, List.setIfInBounds_toArray, List.set_cons_zero, List.set_cons_succ]
      refine wpAnyH_take (i := 12) (v := .slice (some ⟨b3, o3, none⟩) 1 c3) rfl (by kernel_rfl) (by kernel_rfl) (by kernel_rfl) (fun _ _ _ h => h) (Or.inl ⟨by first | rfl | go_simp, by intro w9 hSw; (try dsimp only at hSw); go_simp⟩) (by assumption) ?_
      simp only [List.getElem_toArray, List.getElem_cons_zero, List.getElem_cons_succ, Act.put, List.setIfInBounds_toArray, List.set_cons_zero, List.set_cons_succ]
      refine wpAnyH_done (by kernel_rfl) ?_ _
      clear hHeld
      go_wp2_with fail
      go_meet
      exact ⟨g10, A2, c2, b3, o3, c3, rfl, rfl, rfl, hc10, K10, R3, BC, BX⟩
  clear BC BX
  obtain ⟨g10, A2, c2, b3, o3, c3, rfl, rfl, rfl, hc10, K10, R3, BC, BX⟩ := hcut
  have n710 : g7 ≠ g10 := by omega
  have nA10 : w.heap.size ≠ g10 := by omega
  have hw10 : w.heap.size ≤ g10 := by omega
  replace KA := KA.below BC KA.lt
  replace K7 := K7.below BC K7.lt
  clear BC R1 h7
  have q3 := row_cells R3 (by simp [inC])
  have f30 := q3 0 _ rfl
  have f31 := q3 12 _ rfl
  simp only [Nat.add_zero] at f30
  clear q3 R3
  go_upto_region 7 with (first | (refine wpList_load_row_w rfl 27 (.tmp 10) rfl g10 rfl 27 _ (0, 0) _ K10 Try.underlying27 rfl (by kernel_rfl) ?_) | (go_at_call 15; refine (QP1.out _).mono ?_; rintro e V2 ⟨rfl, b9⟩; replace KA := KA.below b9 KA.lt; replace K7 := K7.below b9 K7.lt; replace K10 := K10.below b9 K10.lt; replace BX := thenB BX b9; clear b9))
  clear f30 f31
  have ka1 := KA.cell 1
  have HP2 : (#[.int .i64 1, .int .i64 (-1), .int .i64 0, .slice none 0 0, .int .i64 (-1), .int .i64 0, .slice none 0 0, .bool false, .int .u64 0, .int .u64 0, .bool false, .bool false, .int .i64 (-1), .int .i64 27, .int .i64 27, .int .u64 0, .int .u64 s, .int .u64 k, .int .i64 0, .int .i64 0] : Array Value).all (·.oneCell') = true := by rw [← Array.all_toList]; rfl
  go_upto_region 8 with (first | (refine wpList_load_row_w rfl 27 (.tmp 10) rfl g10 rfl 27 _ (0, 0) _ K10 Try.underlying27 rfl (by kernel_rfl) ?_) | (go_at_call 17; refine (H3n.out V2).mono ?_; rintro e V3 ⟨Q4, rfl, R4, b9⟩; obtain ⟨A4, c4, rfl⟩ := row_form R4; obtain ⟨b4, o4, rfl, _, _⟩ := row_at R4 (by simp); have bd4 := row_bd R4 (by simp); have ne4_g7 : b4 ≠ g7 := (by have h9 := K7.lt; omega); have ne4_g10 : b4 ≠ g10 := (by have h9 := K10.lt; omega); replace R4 := R4.less (Nat.zero_le _); clear bd4; replace KA := KA.below b9 KA.lt; replace K7 := K7.below b9 K7.lt; replace K10 := K10.below b9 K10.lt; replace BX := thenB BX b9; clear b9) | (refine wpList_setR rfl 27 (.tmp 10) _ rfl g10 #[.int .i64 1, .int .i64 (-1), .int .i64 0, .slice none 0 0, .int .i64 (-1), .int .i64 0, .slice none 0 0, .bool false, .int .u64 0, .int .u64 0, .bool false, .bool false, .int .i64 (-1), .int .i64 27, .int .i64 27, .int .u64 0, .int .u64 s, .int .u64 k, .int .i64 0, .int .i64 0] rfl rfl 27 _ K10 (by kernel_rfl) rfl HP2 ?_; intro V4 K9 G9; replace KA := G9.blk KA nA10; replace K7 := G9.blk K7 n710; replace R4 := G9.brow R4 ne4_g10; replace BX := BX.trans (G9.below hw10 BX.size); replace K10 := K9; clear K9 G9))
  clear ka1 HP2
  go_upto_region 11 with (fail)
  have BC := Below.refl V4.heap.size V4
  have h10 := K10.lt
  have h7 := K7.lt
  try simp only [Act.put]
  go_cut [14, 15, 16] from 52 to 96 (fun s14 s15 s16 wx => ∃ g14 A5 c5 b6 o6 c6, s14 = .pointer (some ⟨g14, 0, none⟩) ∧ s15 = .slice A5 0 c5 ∧ s16 = .slice (some ⟨b6, o6, none⟩) 1 c6 ∧ V4.heap.size ≤ g14 ∧ Blk wx g14 27 #[.int .i64 0, .int .i64 (-1), .int .i64 0, .slice none 0 0, .int .i64 (-1), .int .i64 0, .slice none 0 0, .bool false, .int .u64 0, .int .u64 0, .bool false, .bool false, .int .i64 (-1), .int .i64 27, .int .i64 27, .int .u64 s, .int .u64 0, .int .u64 k, .int .i64 0, .int .i64 0] ∧ Row wx 0 (.slice (some ⟨b6, o6, none⟩) 1 c6) 1 (inC 9 3) ∧ Below V4.heap.size V4 wx ∧ Below w.heap.size w wx)
  · skip
    have K7' : Blk V4.drew (g7) 27 #[.int .i64 0, .int .i64 3, .int .i64 0, .slice none 0 0, .int .i64 (-1), .int .i64 0, .slice none 0 0, .bool false, .int .u64 0, .int .u64 0, .bool false, .bool false, .int .i64 (-1), .int .i64 27, .int .i64 27, .int .u64 s, .int .u64 0, .int .u64 k, .int .i64 1, .int .i64 0] := Mem.Blk.drew K7
    refine wp_region_held_drew (S := (fun w' => Blk w' (g7) 27 #[.int .i64 0, .int .i64 3, .int .i64 0, .slice none 0 0, .int .i64 (-1), .int .i64 0, .slice none 0 0, .bool false, .int .u64 0, .int .u64 0, .bool false, .bool false, .int .i64 (-1), .int .i64 27, .int .i64 27, .int .u64 s, .int .u64 0, .int .u64 k, .int .i64 1, .int .i64 0] ∧ Row w' 0 (.slice (some ⟨b4, o4, none⟩) 1 c4) 1 [.int .i64 13, .int .i64 0, .int .i64 0, .int .i64 0, .int .i64 0, .int .i64 0, .int .u64 0, .int .u16 0, .int .i64 6, .int .i64 3, .int .u64 0, .int .u64 0, .int .u64 0, .int .i64 0, .int .i64 0])) (by kernel_rfl) ?_ (fun hHeld => ?_)
    · exact ⟨K7', R4⟩
    replace K7 := K7'
    clear K7'
    replace BX : Below w.heap.size w V4.drew := BX.drew
    replace BC := BC.drew
    replace R4 := Row.drew R4
    replace R4 : Row V4.drew 0 (.slice (some ⟨b4, o4, none⟩) 1 c4) 1 [.int .i64 13, .int .i64 0, .int .i64 0, .int .i64 0, .int .i64 0, .int .i64 0, .int .u64 0, .int .u16 0, .int .i64 6, .int .i64 3, .int .u64 0, .int .u64 0, .int .u64 0, .int .i64 0, .int .i64 0] := R4
    generalize V4.drew = X0 at *
    refine wpAnyH_take (i := 0) (v := .agg #[.int .i64 0, .int .i64 3, .int .i64 0, .slice none 0 0, .int .i64 (-1), .int .i64 0, .slice none 0 0, .bool false, .int .u64 0, .int .u64 0, .bool false, .bool false, .int .i64 (-1), .int .i64 27, .int .i64 27, .int .u64 s, .int .u64 0, .int .u64 k, .int .i64 1, .int .i64 0]) rfl (by kernel_rfl) (by kernel_rfl) (by kernel_rfl) (fun _ _ _ h => h) (Av.yields_part (by first | rfl | go_simp) _ _ rfl (g7) 0 rfl #[.int .i64 0, .int .i64 3, .int .i64 0, .slice none 0 0, .int .i64 (-1), .int .i64 0, .slice none 0 0, .bool false, .int .u64 0, .int .u64 0, .bool false, .bool false, .int .i64 (-1), .int .i64 27, .int .i64 27, .int .u64 s, .int .u64 0, .int .u64 k, .int .i64 1, .int .i64 0] _ 27 #[.int .i64 0, .int .i64 3, .int .i64 0, .slice none 0 0, .int .i64 (-1), .int .i64 0, .slice none 0 0, .bool false, .int .u64 0, .int .u64 0, .bool false, .bool false, .int .i64 (-1), .int .i64 27, .int .i64 27, .int .u64 s, .int .u64 0, .int .u64 k, .int .i64 1, .int .i64 0] (fun w9 hSw => hSw.1) rfl Try.underlying27 rfl (by kernel_rfl)) (by assumption) ?_
    simp only [List.getElem_toArray, List.getElem_cons_zero, List.getElem_cons_succ, Act.put, List.setIfInBounds_toArray, List.set_cons_zero, List.set_cons_succ]
    refine wpAnyH_take (i := 1) (v := .slice (some ⟨b4, o4, none⟩) 1 c4) rfl (by kernel_rfl) (by kernel_rfl) (by kernel_rfl) (fun _ _ _ h => h) (Or.inl ⟨by first | rfl | go_simp, by intro w9 hSw; (try dsimp only at hSw); go_simp⟩) (by assumption) ?_
    simp only [List.getElem_toArray, List.getElem_cons_zero, List.getElem_cons_succ, Act.put, List.setIfInBounds_toArray, List.set_cons_zero, List.set_cons_succ]
    refine wpAnyH_take (i := 2) (v := .pointer (some ⟨b4, o4, none⟩)) rfl (by kernel_rfl) (by kernel_rfl) (by kernel_rfl) (fun _ _ _ h => h) (Or.inl ⟨by first | rfl | go_simp, by intro w9 hSw; (try dsimp only at hSw); go_simp⟩) (by assumption) ?_
    simp only [List.getElem_toArray, List.getElem_cons_zero, List.getElem_cons_succ, Act.put, List.setIfInBounds_toArray, List.set_cons_zero, List.set_cons_succ]
    refine wpAnyH_take (i := 3) (v := .agg #[.int .i64 13, .int .i64 0, .int .i64 0, .int .i64 0, .int .i64 0, .int .i64 0, .int .u64 0, .int .u16 0, .int .i64 6, .int .i64 3, .int .u64 0, .int .u64 0, .int .u64 0, .int .i64 0, .int .i64 0]) rfl (by kernel_rfl) (by kernel_rfl) (by kernel_rfl) (fun _ _ _ h => h) (yields_elem (by first | rfl | go_simp) _ _ rfl b4 o4 0 0 1 c4 rfl #[.int .i64 13, .int .i64 0, .int .i64 0, .int .i64 0, .int .i64 0, .int .i64 0, .int .u64 0, .int .u16 0, .int .i64 6, .int .i64 3, .int .u64 0, .int .u64 0, .int .u64 0, .int .i64 0, .int .i64 0] [.int .i64 13, .int .i64 0, .int .i64 0, .int .i64 0, .int .i64 0, .int .i64 0, .int .u64 0, .int .u16 0, .int .i64 6, .int .i64 3, .int .u64 0, .int .u64 0, .int .u64 0, .int .i64 0, .int .i64 0] _ (fun w9 hSw => hSw.2) (by simp) rfl Try.underlying57 rfl (by kernel_rfl)) (by assumption) ?_
    simp only [List.getElem_toArray, List.getElem_cons_zero, List.getElem_cons_succ, Act.put, List.setIfInBounds_toArray, List.set_cons_zero, List.set_cons_succ]
    refine wpAnyH_ready (rs := [4, 9]) (by kernel_rfl) (by simp) ?_
    refine AllReadyH.cons rfl (fun K hK => ?_) (AllReadyH.cons rfl (fun K hK => ?_) (AllReadyH.nil))
    · skip
      go_simp
      refine (H4.out X0).mono ?_
      rintro e X1 ⟨Q5, Q6, rfl, R5, R6, b9⟩
      obtain ⟨A5, c5, rfl⟩ := row_form R5
      clear R5
      obtain ⟨A6, c6, rfl⟩ := row_form R6
      obtain ⟨b6, o6, rfl, _, _⟩ := row_at R6 (by simp [inC])
      have bd6 := row_bd R6 (by simp [inC])
      have ne6_g7 : b6 ≠ g7 := by have h9 := K7.lt; omega
      have lo6 : V4.heap.size ≤ b6 := by have h9 := BC.size; omega
      replace R6 := R6.less (Nat.zero_le _)
      clear bd6
      replace K7 := K7.below b9 K7.lt
      replace BX := Base.thenB BX b9
      replace BC := thenB BC b9
      replace R4 := Row.below R4 b9
      clear b9
      refine hK.out _ _ ⟨K7, R4⟩ (fun hHeld => ?_)
      clear hK K
      try simp only [List.getElem_toArray, List.getElem_cons_zero, List.getElem_cons_succ, Act.put, List.setIfInBounds_toArray, List.set_cons_zero, List.set_cons_succ]
      refine wpAnyH_take (i := 5) (v := .tuple #[.agg #[.int .i64 0, .int .i64 (-1), .int .i64 0, .slice none 0 0, .int .i64 (-1), .int .i64 0, .slice none 0 0, .bool false, .int .u64 0, .int .u64 0, .bool false, .bool false, .int .i64 (-1), .int .i64 27, .int .i64 27, .int .u64 s, .int .u64 0, .int .u64 k, .int .i64 0, .int .i64 0], .slice A5 0 c5, .slice (some ⟨b6, o6, none⟩) 1 c6]) rfl (by kernel_rfl) (by kernel_rfl) (by kernel_rfl) (fun _ _ _ h => h) (Or.inl ⟨by first | rfl | go_simp, by intro w9 hSw; (try dsimp only at hSw); go_simp⟩) (by assumption) ?_
      simp only [List.getElem_toArray, List.getElem_cons_zero, List.getElem_cons_succ, Act.put, List.setIfInBounds_toArray, List.set_cons_zero, List.set_cons_succ]
      refine wpAnyH_take (i := 6) (v := .agg #[.int .i64 0, .int .i64 (-1), .int .i64 0, .slice none 0 0, .int .i64 (-1), .int .i64 0, .slice none 0 0, .bool false, .int .u64 0, .int .u64 0, .bool false, .bool false, .int .i64 (-1), .int .i64 27, .int .i64 27, .int .u64 s, .int .u64 0, .int .u64 k, .int .i64 0, .int .i64 0]) rfl (by kernel_rfl) (by kernel_rfl) (by kernel_rfl) (fun _ _ _ h => h) (Or.inl ⟨by first | rfl | go_simp, by intro w9 hSw; (try dsimp only at hSw); go_simp⟩) (by assumption) ?_
      simp only [List.getElem_toArray, List.getElem_cons_zero, List.getElem_cons_succ, Act.put, List.setIfInBounds_toArray, List.set_cons_zero, List.set_cons_succ]
      refine wpAnyH_take (i := 7) (v := .slice A5 0 c5) rfl (by kernel_rfl) (by kernel_rfl) (by kernel_rfl) (fun _ _ _ h => h) (Or.inl ⟨by first | rfl | go_simp, by intro w9 hSw; (try dsimp only at hSw); go_simp⟩) (by assumption) ?_
      simp only [List.getElem_toArray, List.getElem_cons_zero, List.getElem_cons_succ, Act.put, List.setIfInBounds_toArray, List.set_cons_zero, List.set_cons_succ]
      refine wpAnyH_take (i := 8) (v := .slice (some ⟨b6, o6, none⟩) 1 c6) rfl (by kernel_rfl) (by kernel_rfl) (by kernel_rfl) (fun _ _ _ h => h) (Or.inl ⟨by first | rfl | go_simp, by intro w9 hSw; (try dsimp only at hSw); go_simp⟩) (by assumption) ?_
      simp only [List.getElem_toArray, List.getElem_cons_zero, List.getElem_cons_succ, Act.put, List.setIfInBounds_toArray, List.set_cons_zero, List.set_cons_succ]
      refine wpAnyH_ready (rs := [9]) (by kernel_rfl) (by simp) ?_
      refine AllReadyH.cons rfl (fun K hK => ?_) (AllReadyH.nil)
      go_simp
      have b9 := (Below.refl X1.heap.size X1).alloc (Nat.le_refl _) (.cells #[.int .i64 0, .int .i64 0, .int .i64 0, .slice none 0 0, .int .i64 0, .int .i64 0, .slice none 0 0, .bool false, .int .u64 0, .int .u64 0, .bool false, .bool false, .int .i64 0, .int .i64 0, .int .i64 0, .int .u64 0, .int .u64 0, .int .u64 0, .int .i64 0, .int .i64 0] 27)
      have K14 := Blk.fresh X1 27 #[.int .i64 0, .int .i64 0, .int .i64 0, .slice none 0 0, .int .i64 0, .int .i64 0, .slice none 0 0, .bool false, .int .u64 0, .int .u64 0, .bool false, .bool false, .int .i64 0, .int .i64 0, .int .i64 0, .int .u64 0, .int .u64 0, .int .u64 0, .int .i64 0, .int .i64 0]
      have ne4_g14 : b4 ≠ X1.heap.size := by have h9 := (row_bd R4 (by simp [inC])).2; omega
      have ne6_g14 : b6 ≠ X1.heap.size := by have h9 := (row_bd R6 (by simp [inC])).2; omega
      have hc14 : V4.heap.size ≤ X1.heap.size := BC.size
      have hw14 : w.heap.size ≤ X1.heap.size := BX.size
      obtain ⟨g14, eg14⟩ : ∃ g, X1.heap.size = g := ⟨_, rfl⟩
      rw [eg14] at K14 hc14 hw14 ne4_g14 ne6_g14
      try simp only [eg14]
      generalize X1.alloc (.cells #[.int .i64 0, .int .i64 0, .int .i64 0, .slice none 0 0, .int .i64 0, .int .i64 0, .slice none 0 0, .bool false, .int .u64 0, .int .u64 0, .bool false, .bool false, .int .i64 0, .int .i64 0, .int .i64 0, .int .u64 0, .int .u64 0, .int .u64 0, .int .i64 0, .int .i64 0] 27) = X2 at *
      clear eg14
      replace K7 := K7.below b9 K7.lt
      replace BX := Base.thenB BX b9
      replace BC := thenB BC b9
      replace R4 := Row.below R4 b9
      replace R6 := Row.below R6 b9
      clear b9
      refine hK.out _ _ ⟨K7, R4⟩ (fun hHeld => ?_)
      clear hK K
      try simp only [List.getElem_toArray, List.getElem_cons_zero, List.getElem_cons_succ, Act.put, List.setIfInBounds_toArray, List.set_cons_zero, List.set_cons_succ]
      refine wpAnyH_ready (rs := [10]) (by kernel_rfl) (by simp) ?_
      refine AllReadyH.cons rfl (fun K hK => ?_) (AllReadyH.nil)
      have H9 : (#[.int .i64 0, .int .i64 (-1), .int .i64 0, .slice none 0 0, .int .i64 (-1), .int .i64 0, .slice none 0 0, .bool false, .int .u64 0, .int .u64 0, .bool false, .bool false, .int .i64 (-1), .int .i64 27, .int .i64 27, .int .u64 s, .int .u64 0, .int .u64 k, .int .i64 0, .int .i64 0] : Array Value).all (·.oneCell') = true := by rw [← Array.all_toList]; rfl
      refine Av.step_store_row rfl 27 (.tmp 14) (.tmp 94) rfl (g14) #[.int .i64 0, .int .i64 (-1), .int .i64 0, .slice none 0 0, .int .i64 (-1), .int .i64 0, .slice none 0 0, .bool false, .int .u64 0, .int .u64 0, .bool false, .bool false, .int .i64 (-1), .int .i64 27, .int .i64 27, .int .u64 s, .int .u64 0, .int .u64 k, .int .i64 0, .int .i64 0] rfl rfl 27 _ K14 (by kernel_rfl) rfl H9 ?_
      replace BC := below_setRow (g := g14) BC (by omega) #[.int .i64 0, .int .i64 (-1), .int .i64 0, .slice none 0 0, .int .i64 (-1), .int .i64 0, .slice none 0 0, .bool false, .int .u64 0, .int .u64 0, .bool false, .bool false, .int .i64 (-1), .int .i64 27, .int .i64 27, .int .u64 s, .int .u64 0, .int .u64 k, .int .i64 0, .int .i64 0]
      replace R4 := row_setR (cs := #[.int .i64 0, .int .i64 (-1), .int .i64 0, .slice none 0 0, .int .i64 (-1), .int .i64 0, .slice none 0 0, .bool false, .int .u64 0, .int .u64 0, .bool false, .bool false, .int .i64 (-1), .int .i64 27, .int .i64 27, .int .u64 s, .int .u64 0, .int .u64 k, .int .i64 0, .int .i64 0]) R4 ne4_g14
      replace R6 := row_setR (cs := #[.int .i64 0, .int .i64 (-1), .int .i64 0, .slice none 0 0, .int .i64 (-1), .int .i64 0, .slice none 0 0, .bool false, .int .u64 0, .int .u64 0, .bool false, .bool false, .int .i64 (-1), .int .i64 27, .int .i64 27, .int .u64 s, .int .u64 0, .int .u64 k, .int .i64 0, .int .i64 0]) R6 ne6_g14
      replace K7 : Blk (X2.setRow (g14) #[.int .i64 0, .int .i64 (-1), .int .i64 0, .slice none 0 0, .int .i64 (-1), .int .i64 0, .slice none 0 0, .bool false, .int .u64 0, .int .u64 0, .bool false, .bool false, .int .i64 (-1), .int .i64 27, .int .i64 27, .int .u64 s, .int .u64 0, .int .u64 k, .int .i64 0, .int .i64 0]) (g7) 27 #[.int .i64 0, .int .i64 3, .int .i64 0, .slice none 0 0, .int .i64 (-1), .int .i64 0, .slice none 0 0, .bool false, .int .u64 0, .int .u64 0, .bool false, .bool false, .int .i64 (-1), .int .i64 27, .int .i64 27, .int .u64 s, .int .u64 0, .int .u64 k, .int .i64 1, .int .i64 0] := Av.bother_row K7 (by omega)
      replace K14 : Blk (X2.setRow (g14) #[.int .i64 0, .int .i64 (-1), .int .i64 0, .slice none 0 0, .int .i64 (-1), .int .i64 0, .slice none 0 0, .bool false, .int .u64 0, .int .u64 0, .bool false, .bool false, .int .i64 (-1), .int .i64 27, .int .i64 27, .int .u64 s, .int .u64 0, .int .u64 k, .int .i64 0, .int .i64 0]) (g14) 27 #[.int .i64 0, .int .i64 (-1), .int .i64 0, .slice none 0 0, .int .i64 (-1), .int .i64 0, .slice none 0 0, .bool false, .int .u64 0, .int .u64 0, .bool false, .bool false, .int .i64 (-1), .int .i64 27, .int .i64 27, .int .u64 s, .int .u64 0, .int .u64 k, .int .i64 0, .int .i64 0] := Av.bset_row K14
      replace BX : Below w.heap.size w (X2.setRow (g14) #[.int .i64 0, .int .i64 (-1), .int .i64 0, .slice none 0 0, .int .i64 (-1), .int .i64 0, .slice none 0 0, .bool false, .int .u64 0, .int .u64 0, .bool false, .bool false, .int .i64 (-1), .int .i64 27, .int .i64 27, .int .u64 s, .int .u64 0, .int .u64 k, .int .i64 0, .int .i64 0]) := below_setRow BX (by omega) _
      clear H9
      generalize X2.setRow (g14) #[.int .i64 0, .int .i64 (-1), .int .i64 0, .slice none 0 0, .int .i64 (-1), .int .i64 0, .slice none 0 0, .bool false, .int .u64 0, .int .u64 0, .bool false, .bool false, .int .i64 (-1), .int .i64 27, .int .i64 27, .int .u64 s, .int .u64 0, .int .u64 k, .int .i64 0, .int .i64 0] = X3 at *
      refine hK.out _ _ ⟨K7, R4⟩ (fun hHeld => ?_)
      clear hK K
      try simp only [List.getElem_toArray, List.getElem_cons_zero, List.getElem_cons_succ, Act.put, List.setIfInBounds_toArray, List.set_cons_zero, List.set_cons_succ]
      refine wpAnyH_take (i := 11) (v := .slice A5 0 c5) rfl (by kernel_rfl) (by kernel_rfl) (by kernel_rfl) (fun _ _ _ h => h) (Or.inl ⟨by first | rfl | go_simp, by intro w9 hSw; (try dsimp only at hSw); go_simp⟩) (by assumption) ?_
      simp only [List.getElem_toArray, List.getElem_cons_zero, List.getElem_cons_succ, Act.put, List.setIfInBounds_toArray, List.set_cons_zero, List.set_cons_succ]
      refine wpAnyH_take (i := 12) (v := .slice (some ⟨b6, o6, none⟩) 1 c6) rfl (by kernel_rfl) (by kernel_rfl) (by kernel_rfl) (fun _ _ _ h => h) (Or.inl ⟨by first | rfl | go_simp, by intro w9 hSw; (try dsimp only at hSw); go_simp⟩) (by assumption) ?_
      simp only [List.getElem_toArray, List.getElem_cons_zero, List.getElem_cons_succ, Act.put, List.setIfInBounds_toArray, List.set_cons_zero, List.set_cons_succ]
      refine wpAnyH_done (by kernel_rfl) ?_ _
      clear hHeld
      go_wp2_with fail
      go_meet
      exact ⟨g14, A5, c5, b6, o6, c6, rfl, rfl, rfl, hc14, K14, R6, BC, BX⟩
    · skip
      go_simp
      have b9 := (Below.refl X0.heap.size X0).alloc (Nat.le_refl _) (.cells #[.int .i64 0, .int .i64 0, .int .i64 0, .slice none 0 0, .int .i64 0, .int .i64 0, .slice none 0 0, .bool false, .int .u64 0, .int .u64 0, .bool false, .bool false, .int .i64 0, .int .i64 0, .int .i64 0, .int .u64 0, .int .u64 0, .int .u64 0, .int .i64 0, .int .i64 0] 27)
      have K14 := Blk.fresh X0 27 #[.int .i64 0, .int .i64 0, .int .i64 0, .slice none 0 0, .int .i64 0, .int .i64 0, .slice none 0 0, .bool false, .int .u64 0, .int .u64 0, .bool false, .bool false, .int .i64 0, .int .i64 0, .int .i64 0, .int .u64 0, .int .u64 0, .int .u64 0, .int .i64 0, .int .i64 0]
      have ne4_g14 : b4 ≠ X0.heap.size := by have h9 := (row_bd R4 (by simp [inC])).2; omega
      have hc14 : V4.heap.size ≤ X0.heap.size := BC.size
      have hw14 : w.heap.size ≤ X0.heap.size := BX.size
      obtain ⟨g14, eg14⟩ : ∃ g, X0.heap.size = g := ⟨_, rfl⟩
      rw [eg14] at K14 hc14 hw14 ne4_g14
      try simp only [eg14]
      generalize X0.alloc (.cells #[.int .i64 0, .int .i64 0, .int .i64 0, .slice none 0 0, .int .i64 0, .int .i64 0, .slice none 0 0, .bool false, .int .u64 0, .int .u64 0, .bool false, .bool false, .int .i64 0, .int .i64 0, .int .i64 0, .int .u64 0, .int .u64 0, .int .u64 0, .int .i64 0, .int .i64 0] 27) = X4 at *
      clear eg14
      replace K7 := K7.below b9 K7.lt
      replace BX := Base.thenB BX b9
      replace BC := thenB BC b9
      replace R4 := Row.below R4 b9
      clear b9
      refine hK.out _ _ ⟨K7, R4⟩ (fun hHeld => ?_)
      clear hK K
      try simp only [List.getElem_toArray, List.getElem_cons_zero, List.getElem_cons_succ, Act.put, List.setIfInBounds_toArray, List.set_cons_zero, List.set_cons_succ]
      refine wpAnyH_ready (rs := [4]) (by kernel_rfl) (by simp) ?_
      refine AllReadyH.cons rfl (fun K hK => ?_) (AllReadyH.nil)
      go_simp
      refine (H4.out X4).mono ?_
      rintro e X5 ⟨Q5, Q6, rfl, R5, R6, b9⟩
      obtain ⟨A5, c5, rfl⟩ := row_form R5
      clear R5
      obtain ⟨A6, c6, rfl⟩ := row_form R6
      obtain ⟨b6, o6, rfl, _, _⟩ := row_at R6 (by simp [inC])
      have bd6 := row_bd R6 (by simp [inC])
      have ne6_g7 : b6 ≠ g7 := by have h9 := K7.lt; omega
      have ne6_g14 : b6 ≠ g14 := by have h9 := K14.lt; omega
      have lo6 : V4.heap.size ≤ b6 := by have h9 := BC.size; omega
      replace R6 := R6.less (Nat.zero_le _)
      clear bd6
      replace K7 := K7.below b9 K7.lt
      replace K14 := K14.below b9 K14.lt
      replace BX := Base.thenB BX b9
      replace BC := thenB BC b9
      replace R4 := Row.below R4 b9
      clear b9
      refine hK.out _ _ ⟨K7, R4⟩ (fun hHeld => ?_)
      clear hK K
      try simp only [List.getElem_toArray, List.getElem_cons_zero, List.getElem_cons_succ, Act.put, List.setIfInBounds_toArray, List.set_cons_zero, List.set_cons_succ]
      refine wpAnyH_take (i := 5) (v := .tuple #[.agg #[.int .i64 0, .int .i64 (-1), .int .i64 0, .slice none 0 0, .int .i64 (-1), .int .i64 0, .slice none 0 0, .bool false, .int .u64 0, .int .u64 0, .bool false, .bool false, .int .i64 (-1), .int .i64 27, .int .i64 27, .int .u64 s, .int .u64 0, .int .u64 k, .int .i64 0, .int .i64 0], .slice A5 0 c5, .slice (some ⟨b6, o6, none⟩) 1 c6]) rfl (by kernel_rfl) (by kernel_rfl) (by kernel_rfl) (fun _ _ _ h => h) (Or.inl ⟨by first | rfl | go_simp, by intro w9 hSw; (try dsimp only at hSw); go_simp⟩) (by assumption) ?_
      simp only [List.getElem_toArray, List.getElem_cons_zero, List.getElem_cons_succ, Act.put, List.setIfInBounds_toArray, List.set_cons_zero, List.set_cons_succ]
      refine wpAnyH_take (i := 6) (v := .agg #[.int .i64 0, .int .i64 (-1), .int .i64 0, .slice none 0 0, .int .i64 (-1), .int .i64 0, .slice none 0 0, .bool false, .int .u64 0, .int .u64 0, .bool false, .bool false, .int .i64 (-1), .int .i64 27, .int .i64 27, .int .u64 s, .int .u64 0, .int .u64 k, .int .i64 0, .int .i64 0]) rfl (by kernel_rfl) (by kernel_rfl) (by kernel_rfl) (fun _ _ _ h => h) (Or.inl ⟨by first | rfl | go_simp, by intro w9 hSw; (try dsimp only at hSw); go_simp⟩) (by assumption) ?_
      simp only [List.getElem_toArray, List.getElem_cons_zero, List.getElem_cons_succ, Act.put, List.setIfInBounds_toArray, List.set_cons_zero, List.set_cons_succ]
      refine wpAnyH_take (i := 7) (v := .slice A5 0 c5) rfl (by kernel_rfl) (by kernel_rfl) (by kernel_rfl) (fun _ _ _ h => h) (Or.inl ⟨by first | rfl | go_simp, by intro w9 hSw; (try dsimp only at hSw); go_simp⟩) (by assumption) ?_
      simp only [List.getElem_toArray, List.getElem_cons_zero, List.getElem_cons_succ, Act.put, List.setIfInBounds_toArray, List.set_cons_zero, List.set_cons_succ]
      refine wpAnyH_take (i := 8) (v := .slice (some ⟨b6, o6, none⟩) 1 c6) rfl (by kernel_rfl) (by kernel_rfl) (by kernel_rfl) (fun _ _ _ h => h) (Or.inl ⟨by first | rfl | go_simp, by intro w9 hSw; (try dsimp only at hSw); go_simp⟩) (by assumption) ?_
      simp only [List.getElem_toArray, List.getElem_cons_zero, List.getElem_cons_succ, Act.put, List.setIfInBounds_toArray, List.set_cons_zero, List.set_cons_succ]
      refine wpAnyH_ready (rs := [10]) (by kernel_rfl) (by simp) ?_
      refine AllReadyH.cons rfl (fun K hK => ?_) (AllReadyH.nil)
      have H9 : (#[.int .i64 0, .int .i64 (-1), .int .i64 0, .slice none 0 0, .int .i64 (-1), .int .i64 0, .slice none 0 0, .bool false, .int .u64 0, .int .u64 0, .bool false, .bool false, .int .i64 (-1), .int .i64 27, .int .i64 27, .int .u64 s, .int .u64 0, .int .u64 k, .int .i64 0, .int .i64 0] : Array Value).all (·.oneCell') = true := by rw [← Array.all_toList]; rfl
      refine Av.step_store_row rfl 27 (.tmp 14) (.tmp 94) rfl (g14) #[.int .i64 0, .int .i64 (-1), .int .i64 0, .slice none 0 0, .int .i64 (-1), .int .i64 0, .slice none 0 0, .bool false, .int .u64 0, .int .u64 0, .bool false, .bool false, .int .i64 (-1), .int .i64 27, .int .i64 27, .int .u64 s, .int .u64 0, .int .u64 k, .int .i64 0, .int .i64 0] rfl rfl 27 _ K14 (by kernel_rfl) rfl H9 ?_
      replace BC := below_setRow (g := g14) BC (by omega) #[.int .i64 0, .int .i64 (-1), .int .i64 0, .slice none 0 0, .int .i64 (-1), .int .i64 0, .slice none 0 0, .bool false, .int .u64 0, .int .u64 0, .bool false, .bool false, .int .i64 (-1), .int .i64 27, .int .i64 27, .int .u64 s, .int .u64 0, .int .u64 k, .int .i64 0, .int .i64 0]
      replace R4 := row_setR (cs := #[.int .i64 0, .int .i64 (-1), .int .i64 0, .slice none 0 0, .int .i64 (-1), .int .i64 0, .slice none 0 0, .bool false, .int .u64 0, .int .u64 0, .bool false, .bool false, .int .i64 (-1), .int .i64 27, .int .i64 27, .int .u64 s, .int .u64 0, .int .u64 k, .int .i64 0, .int .i64 0]) R4 ne4_g14
      replace R6 := row_setR (cs := #[.int .i64 0, .int .i64 (-1), .int .i64 0, .slice none 0 0, .int .i64 (-1), .int .i64 0, .slice none 0 0, .bool false, .int .u64 0, .int .u64 0, .bool false, .bool false, .int .i64 (-1), .int .i64 27, .int .i64 27, .int .u64 s, .int .u64 0, .int .u64 k, .int .i64 0, .int .i64 0]) R6 ne6_g14
      replace K7 : Blk (X5.setRow (g14) #[.int .i64 0, .int .i64 (-1), .int .i64 0, .slice none 0 0, .int .i64 (-1), .int .i64 0, .slice none 0 0, .bool false, .int .u64 0, .int .u64 0, .bool false, .bool false, .int .i64 (-1), .int .i64 27, .int .i64 27, .int .u64 s, .int .u64 0, .int .u64 k, .int .i64 0, .int .i64 0]) (g7) 27 #[.int .i64 0, .int .i64 3, .int .i64 0, .slice none 0 0, .int .i64 (-1), .int .i64 0, .slice none 0 0, .bool false, .int .u64 0, .int .u64 0, .bool false, .bool false, .int .i64 (-1), .int .i64 27, .int .i64 27, .int .u64 s, .int .u64 0, .int .u64 k, .int .i64 1, .int .i64 0] := Av.bother_row K7 (by omega)
      replace K14 : Blk (X5.setRow (g14) #[.int .i64 0, .int .i64 (-1), .int .i64 0, .slice none 0 0, .int .i64 (-1), .int .i64 0, .slice none 0 0, .bool false, .int .u64 0, .int .u64 0, .bool false, .bool false, .int .i64 (-1), .int .i64 27, .int .i64 27, .int .u64 s, .int .u64 0, .int .u64 k, .int .i64 0, .int .i64 0]) (g14) 27 #[.int .i64 0, .int .i64 (-1), .int .i64 0, .slice none 0 0, .int .i64 (-1), .int .i64 0, .slice none 0 0, .bool false, .int .u64 0, .int .u64 0, .bool false, .bool false, .int .i64 (-1), .int .i64 27, .int .i64 27, .int .u64 s, .int .u64 0, .int .u64 k, .int .i64 0, .int .i64 0] := Av.bset_row K14
      replace BX : Below w.heap.size w (X5.setRow (g14) #[.int .i64 0, .int .i64 (-1), .int .i64 0, .slice none 0 0, .int .i64 (-1), .int .i64 0, .slice none 0 0, .bool false, .int .u64 0, .int .u64 0, .bool false, .bool false, .int .i64 (-1), .int .i64 27, .int .i64 27, .int .u64 s, .int .u64 0, .int .u64 k, .int .i64 0, .int .i64 0]) := below_setRow BX (by omega) _
      clear H9
      generalize X5.setRow (g14) #[.int .i64 0, .int .i64 (-1), .int .i64 0, .slice none 0 0, .int .i64 (-1), .int .i64 0, .slice none 0 0, .bool false, .int .u64 0, .int .u64 0, .bool false, .bool false, .int .i64 (-1), .int .i64 27, .int .i64 27, .int .u64 s, .int .u64 0, .int .u64 k, .int .i64 0, .int .i64 0] = X6 at *
      refine hK.out _ _ ⟨K7, R4⟩ (fun hHeld => ?_)
      clear hK K
      try simp only [List.getElem_toArray, List.getElem_cons_zero, List.getElem_cons_succ, Act.put, List.setIfInBounds_toArray, List.set_cons_zero, List.set_cons_succ]
      refine wpAnyH_take (i := 11) (v := .slice A5 0 c5) rfl (by kernel_rfl) (by kernel_rfl) (by kernel_rfl) (fun _ _ _ h => h) (Or.inl ⟨by first | rfl | go_simp, by intro w9 hSw; (try dsimp only at hSw); go_simp⟩) (by assumption) ?_
      simp only [List.getElem_toArray, List.getElem_cons_zero, List.getElem_cons_succ, Act.put, List.setIfInBounds_toArray, List.set_cons_zero, List.set_cons_succ]
      refine wpAnyH_take (i := 12) (v := .slice (some ⟨b6, o6, none⟩) 1 c6) rfl (by kernel_rfl) (by kernel_rfl) (by kernel_rfl) (fun _ _ _ h => h) (Or.inl ⟨by first | rfl | go_simp, by intro w9 hSw; (try dsimp only at hSw); go_simp⟩) (by assumption) ?_
      simp only [List.getElem_toArray, List.getElem_cons_zero, List.getElem_cons_succ, Act.put, List.setIfInBounds_toArray, List.set_cons_zero, List.set_cons_succ]
      refine wpAnyH_done (by kernel_rfl) ?_ _
      clear hHeld
      go_wp2_with fail
      go_meet
      exact ⟨g14, A5, c5, b6, o6, c6, rfl, rfl, rfl, hc14, K14, R6, BC, BX⟩
  clear BC BX
  obtain ⟨g14, A5, c5, b6, o6, c6, rfl, rfl, rfl, hc14, K14, R6, BC, BX⟩ := hcut
  replace K10 := K10.below BC K10.lt
  clear BC R4
  have q6 := row_cells R6 (by simp [inC])
  have f60 := q6 0 _ rfl
  simp only [Nat.add_zero] at f60
  have k18 := K14.cell 18
  have k1 := K14.cell 1
  have m18 := K10.cell 18
  clear q6
  go_wp2_with (first | (refine wpList_load_row_w rfl 27 (.tmp 14) rfl g14 rfl 27 _ (0, 0) _ K14 Try.underlying27 rfl (by kernel_rfl) ?_) | (refine wpList_load_row_w rfl 27 (.tmp 10) rfl g10 rfl 27 _ (0, 0) _ K10 Try.underlying27 rfl (by kernel_rfl) ?_) | (clear f60; go_at_call 15; refine (QC2N.out _).mono ?_; rintro e V5 ⟨rfl, b9⟩; replace K14 := K14.below b9 K14.lt; replace K10 := K10.below b9 K10.lt; replace BX := thenB BX b9; clear b9) | (go_at_call 15; refine (QP2N.out _).mono ?_; rintro e V6 ⟨rfl, b9⟩; replace K10 := K10.below b9 K10.lt; replace BX := thenB BX b9; clear b9) | (go_at_call 11; refine (HX.out _).mono ?_; rintro e V7 ⟨rfl, b9⟩; replace BX := thenB BX b9))
  go_ret
  exact ⟨rfl, BX⟩
end Go.Proofs.Ytpoagepchlfemaa.Pc
