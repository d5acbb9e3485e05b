/- The statements' examples come out as the document gives them. -/
import Derived.Test.YtmcpgnmkjebbjaaCnDec
import Derived.Deep.CutRange
set_option linter.unusedVariables false
set_option linter.unusedSimpArgs false
namespace Go.Proofs.Ytmcpgnmkjebbjaa.Cn
open Go.RowKit Mem Clk Rw

def fbL : List Int := Oct.putL (flL 1 0 2 3 40 4 100 3 5 0 1)
theorem gives_ok {w : World} {e : Ending} {w' : World} {xs : List Int} {n : Nat} (hn : xs.length = n) (h : Oct.Gives w w' e (xs, 0)) : ∃ A c, e = .returned (.tuple #[.slice A n c, .int .i64 0]) ∧ n ≤ c ∧ Ints .u8 w' w'.heap.size A xs ∧ Below w.heap.size w w' := by
  obtain ⟨A, c, rfl, own, b⟩ := h
  simp only [hn] at own ⊢
  exact ⟨A, c, rfl, own_cap own, Ints.own own, b⟩
theorem win_eq (a b c d : Int) (w : World) : (binOp .eql 42 (.agg #[.int .i64 a, .int .i64 b]) (.agg #[.int .i64 c, .int .i64 d])).run Try.prog w = .ok (.bool (a == c && b == d)) w := by
  go_simp
  by_cases h1 : a = c
  · by_cases h2 : b = d <;> simp [h1, h2]
  · simp [h1]
set_option maxRecDepth 100000 in
set_option maxHeartbeats 10000000 in
theorem lives_any (w : World) : Calls Try.prog 11 #[] w fun e w' => e = .returned (.bool true) ∧ Below w.heap.size w w' := by
  have L1 : Hid (∀ w, Calls Try.prog 16 #[.agg #[.int .u32 1, .int .u32 0, .int .i64 2, .int .i64 3, .int .i64 40, .int .i64 4, .int .i64 100, .int .u64 3, .int .i64 5, .int .i64 0, .int .i64 1]] w fun e w' => ∃ A c, e = .returned (.tuple #[.slice A 25 c, .int .i64 0]) ∧ 25 ≤ c ∧ Ints .u8 w' w'.heap.size A fbL ∧ Below w.heap.size w w') := Lib.hid fun w => by
    refine (encode_any 1 0 2 3 40 4 100 5 0 1 3 w (by decide) (by decide) (by decide)).mono ?_
    rw [show encR 1 0 2 3 40 4 100 3 5 0 1 = (fbL, 0) by decide +kernel]
    intro e w' h
    exact gives_ok (by decide +kernel) h
  have L2 : Hid (∀ w A c, 25 ≤ c → Ints .u8 w w.heap.size A fbL → Calls Try.prog 18 #[.slice A 25 c] w fun e w' => e = .returned (.tuple #[.agg #[.int .u32 1, .int .u32 0, .int .i64 2, .int .i64 3, .int .i64 40, .int .i64 4, .int .i64 100, .int .u64 3, .int .i64 5, .int .i64 0, .int .i64 1], .int .i64 0]) ∧ Below w.heap.size w w') := Lib.hid fun w A c hc hi => by
    refine (decode_any A 25 c fbL w (by decide +kernel) hc (by decide) (put_bytes _) hi).mono ?_
    rw [show decR fbL = (nmL 1 0 2 3 40 4 100 3 5 0 1, 0) by decide +kernel]
    exact fun e w' h => h
  have L3 : Hid (∀ w, Calls Try.prog 12 #[.agg #[.int .i64 2, .int .i64 3, .int .i64 40, .int .i64 4, .int .i64 100]] w fun e w' => e = .returned (.int .i64 0) ∧ Below w.heap.size w w') := Lib.hid fun w => by
    have h := checkUpdate_any 2 3 40 4 100 w
    rwa [show okU 2 3 40 4 100 = 0 by decide +kernel] at h
  have L4 : Hid (∀ w, Calls Try.prog 12 #[.agg #[.int .i64 2, .int .i64 3, .int .i64 40, .int .i64 9, .int .i64 100]] w fun e w' => e = .returned (.int .i64 11) ∧ Below w.heap.size w w') := Lib.hid fun w => by
    have h := checkUpdate_any 2 3 40 9 100 w
    rwa [show okU 2 3 40 9 100 = 11 by decide +kernel] at h
  have L5 : Hid (∀ w, Calls Try.prog 21 #[.int .i64 1000, .agg #[.int .i64 2, .int .i64 3, .int .i64 40, .int .i64 4, .int .i64 100]] w fun e w' => e = .returned (.agg #[.int .i64 6000, .int .i64 8500]) ∧ Below w.heap.size w w') := Lib.hid fun w => first_any 1000 2 3 40 4 100 w
  have L6 : Hid (∀ w, Calls Try.prog 23 #[.int .i64 1000, .agg #[.int .i64 2, .int .i64 3, .int .i64 40, .int .i64 4, .int .i64 100], .int .i64 2] w fun e w' => e = .returned (.int .i64 101000) ∧ Below w.heap.size w w') := Lib.hid fun w => anchor_any 1000 2 3 40 4 100 2 w
  have L7 : Hid (∀ w, Calls Try.prog 25 #[.agg #[.int .i64 2, .int .i64 3, .int .i64 40, .int .i64 4, .int .i64 100]] w fun e w' => e = .returned (.int .i64 1000000) ∧ Below w.heap.size w w') := Lib.hid fun w => timeout_any 2 3 40 4 100 w
  have L8 : Hid (∀ w, Calls Try.prog 27 #[.int .i64 0, .int .i64 2, .agg #[.int .i64 2, .int .i64 3, .int .i64 40, .int .i64 4, .int .i64 100], .int .i64 70] w fun e w' => e = .returned (.agg #[.int .i64 99961, .int .i64 100039]) ∧ Below w.heap.size w w') := Lib.hid fun w => expect_any 0 2 2 3 40 4 100 70 w
  have L9 : Hid (∀ w, Calls Try.prog 29 #[.int .i64 0, .int .i64 1, .agg #[.int .i64 2, .int .i64 3, .int .i64 40, .int .i64 4, .int .i64 100], .agg #[.int .i64 2, .int .i64 3, .int .i64 80, .int .i64 4, .int .i64 100], .int .i64 70] w fun e w' => e = .returned (.agg #[.int .i64 53714, .int .i64 56286]) ∧ Below w.heap.size w w') := Lib.hid fun w => moved_any 0 1 2 3 40 4 100 2 3 80 4 100 70 w
  have L10 : Hid (∀ w, Calls Try.prog 14 #[.agg #[.int .u32 1, .int .u32 0, .int .i64 2, .int .i64 3, .int .i64 40, .int .i64 4, .int .i64 100, .int .u64 3, .int .i64 5, .int .i64 0, .int .i64 1]] w fun e w' => e = .returned (.int .i64 0) ∧ Below w.heap.size w w') := Lib.hid fun w => by
    have h := check_any 1 0 2 3 40 4 100 5 0 1 3 w (by decide)
    rwa [show okP 1 0 2 3 40 4 100 3 5 0 1 = 0 by decide +kernel] at h
  have A0 : Mem.Blk (w.alloc (.cells #[.int .i64 2, .int .i64 3, .int .i64 40, .int .i64 4, .int .i64 100] 23)) w.heap.size 23 _ := Blk.fresh w _ _
  have B0 : Below w.heap.size w (w.alloc (.cells #[.int .i64 2, .int .i64 3, .int .i64 40, .int .i64 4, .int .i64 100] 23)) := (Below.refl _ w).alloc (Nat.le_refl _) _
  go_enter Try.func11, Try.ntmps11
  go_wp2_with fail
  generalize w.alloc (.cells #[.int .i64 2, .int .i64 3, .int .i64 40, .int .i64 4, .int .i64 100] 23) = W at *
  go_cut [2, 3] from 10 to 12 (fun s2 s3 wx => ∃ p q, s2 = .pointer (some ⟨p, 0, none⟩) ∧ s3 = .pointer (some ⟨q, 0, none⟩) ∧ Blk wx w.heap.size 23 #[.int .i64 2, .int .i64 3, .int .i64 40, .int .i64 4, .int .i64 100] ∧ Blk wx p 23 #[.int .i64 2, .int .i64 3, .int .i64 40, .int .i64 4, .int .i64 100] ∧ Blk wx q 23 #[.int .i64 2, .int .i64 3, .int .i64 40, .int .i64 4, .int .i64 100] ∧ p ≠ q ∧ Below w.heap.size w wx ∧ w.heap.size < p ∧ w.heap.size < q)
  case first =>
    go_wp2_with fail
    refine wp_region_held_drew (S := (fun w' => Five w' w.heap.size 2 3 40 4 100)) (by kernel_rfl) ?_ (fun hHeld => ?_)
    · exact five_of A0
    have TX := five_of A0.drew
    have T := TX
    have BZ := Below.refl W.drew.heap.size W.drew
    have B0X : Below w.heap.size w W.drew := B0.drew
    have AX := A0.drew
    generalize W.drew = X0 at *
    refine wpAnyH_take (i := 0) (v := .agg #[.int .i64 2, .int .i64 3, .int .i64 40, .int .i64 4, .int .i64 100]) rfl (by kernel_rfl) (by kernel_rfl) (by kernel_rfl) (fun _ _ _ h => h) (Or.inl ⟨by first | rfl | go_simp, by intro w9 hSw; (try dsimp only at hSw); go_simp⟩) (by assumption) ?_
    simp only [List.getElem_toArray, List.getElem_cons_zero, List.getElem_cons_succ, Act.put, List.setIfInBounds_toArray, List.set_cons_zero, List.set_cons_succ]
    refine wpAnyH_take (i := 1) (v := .agg #[.int .i64 2, .int .i64 3, .int .i64 40, .int .i64 4, .int .i64 100]) rfl (by kernel_rfl) (by kernel_rfl) (by kernel_rfl) (fun _ _ _ h => h) (Or.inl ⟨by first | rfl | go_simp, by intro w9 hSw; (try dsimp only at hSw); go_simp⟩) (by assumption) ?_
    simp only [List.getElem_toArray, List.getElem_cons_zero, List.getElem_cons_succ, Act.put, List.setIfInBounds_toArray, List.set_cons_zero, List.set_cons_succ]
    refine wpAnyH_ready (rs := [2, 3]) (by kernel_rfl) (by simp) ?_
    refine AllReadyH.cons rfl (fun K hK => ?_) (AllReadyH.cons rfl (fun K hK => ?_) (AllReadyH.nil))
    · skip
      go_simp
      have b9 := (Below.refl X0.heap.size X0).alloc (Nat.le_refl _) (.cells #[.int .i64 0, .int .i64 0, .int .i64 0, .int .i64 0, .int .i64 0] 23)
      have N0 := Blk.fresh X0 23 #[.int .i64 0, .int .i64 0, .int .i64 0, .int .i64 0, .int .i64 0]
      have n0 : X0.heap.size ≤ X0.heap.size := BZ.size
      have BZ := BZ.alloc BZ.size (.cells #[.int .i64 0, .int .i64 0, .int .i64 0, .int .i64 0, .int .i64 0] 23)
      have T := five_below TX BZ
      generalize X0.alloc (.cells #[.int .i64 0, .int .i64 0, .int .i64 0, .int .i64 0, .int .i64 0] 23) = X1 at *
      refine hK.out _ _ T (fun hHeld => ?_)
      clear hK K
      try simp only [List.getElem_toArray, List.getElem_cons_zero, List.getElem_cons_succ, Act.put, List.setIfInBounds_toArray, List.set_cons_zero, List.set_cons_succ]
      refine wpAnyH_ready (rs := [3]) (by kernel_rfl) (by simp) ?_
      refine AllReadyH.cons rfl (fun K hK => ?_) (AllReadyH.nil)
      go_simp
      have b9 := (Below.refl X1.heap.size X1).alloc (Nat.le_refl _) (.cells #[.int .i64 0, .int .i64 0, .int .i64 0, .int .i64 0, .int .i64 0] 23)
      have N1 := Blk.fresh X1 23 #[.int .i64 0, .int .i64 0, .int .i64 0, .int .i64 0, .int .i64 0]
      have n1 : X0.heap.size ≤ X1.heap.size := BZ.size
      have BZ := BZ.alloc BZ.size (.cells #[.int .i64 0, .int .i64 0, .int .i64 0, .int .i64 0, .int .i64 0] 23)
      have dd : X1.heap.size ≠ X0.heap.size := Nat.ne_of_gt N0.lt
      have N0 := N0.below b9 N0.lt
      have T := five_below TX BZ
      generalize X1.alloc (.cells #[.int .i64 0, .int .i64 0, .int .i64 0, .int .i64 0, .int .i64 0] 23) = X2 at *
      refine hK.out _ _ T (fun hHeld => ?_)
      clear hK K
      try simp only [List.getElem_toArray, List.getElem_cons_zero, List.getElem_cons_succ, Act.put, List.setIfInBounds_toArray, List.set_cons_zero, List.set_cons_succ]
      refine wpAnyH_ready (rs := [4]) (by kernel_rfl) (by simp) ?_
      refine AllReadyH.cons rfl (fun K hK => ?_) (AllReadyH.nil)
      obtain ⟨c0, c1, c2, c3, c4⟩ := five_of N0
      have z0 := frz N0 0
      have z1 := frz N0 1
      have z2 := frz N0 2
      have z3 := frz N0 3
      have z4 := frz N0 4
      have BZ := upd_below' (g := X0.heap.size) (.int .i64 2) (.int .i64 3) (.int .i64 40) (.int .i64 4) (.int .i64 100) BZ n0
      have N1 := (blk_set_ne (i := 4) (blk_set_ne (i := 3) (blk_set_ne (i := 2) (blk_set_ne (i := 1) (blk_set_ne (i := 0) N1 (show X0.heap.size ≠ X1.heap.size by first | exact dd | exact (Ne.symm dd)) (.int .i64 2)) (show X0.heap.size ≠ X1.heap.size by first | exact dd | exact (Ne.symm dd)) (.int .i64 3)) (show X0.heap.size ≠ X1.heap.size by first | exact dd | exact (Ne.symm dd)) (.int .i64 40)) (show X0.heap.size ≠ X1.heap.size by first | exact dd | exact (Ne.symm dd)) (.int .i64 4)) (show X0.heap.size ≠ X1.heap.size by first | exact dd | exact (Ne.symm dd)) (.int .i64 100))
      have N0 := upd_set (.int .i64 2) (.int .i64 3) (.int .i64 40) (.int .i64 4) (.int .i64 100) N0
      go_simp
      clear c0 c1 c2 c3 c4 z0 z1 z2 z3 z4
      have T := five_below TX BZ
      generalize (((((X2.setCell ⟨X0.heap.size, 0, none⟩ (.int .i64 2)).setCell ⟨X0.heap.size, 1, none⟩ (.int .i64 3)).setCell ⟨X0.heap.size, 2, none⟩ (.int .i64 40)).setCell ⟨X0.heap.size, 3, none⟩ (.int .i64 4)).setCell ⟨X0.heap.size, 4, none⟩ (.int .i64 100)) = X3 at *
      refine hK.out _ _ T (fun hHeld => ?_)
      clear hK K
      try simp only [List.getElem_toArray, List.getElem_cons_zero, List.getElem_cons_succ, Act.put, List.setIfInBounds_toArray, List.set_cons_zero, List.set_cons_succ]
      refine wpAnyH_ready (rs := [5]) (by kernel_rfl) (by simp) ?_
      refine AllReadyH.cons rfl (fun K hK => ?_) (AllReadyH.nil)
      obtain ⟨c0, c1, c2, c3, c4⟩ := five_of N1
      have z0 := frz N1 0
      have z1 := frz N1 1
      have z2 := frz N1 2
      have z3 := frz N1 3
      have z4 := frz N1 4
      have BZ := upd_below' (g := X1.heap.size) (.int .i64 2) (.int .i64 3) (.int .i64 40) (.int .i64 4) (.int .i64 100) BZ n1
      have N0 := (blk_set_ne (i := 4) (blk_set_ne (i := 3) (blk_set_ne (i := 2) (blk_set_ne (i := 1) (blk_set_ne (i := 0) N0 (show X1.heap.size ≠ X0.heap.size by first | exact dd | exact (Ne.symm dd)) (.int .i64 2)) (show X1.heap.size ≠ X0.heap.size by first | exact dd | exact (Ne.symm dd)) (.int .i64 3)) (show X1.heap.size ≠ X0.heap.size by first | exact dd | exact (Ne.symm dd)) (.int .i64 40)) (show X1.heap.size ≠ X0.heap.size by first | exact dd | exact (Ne.symm dd)) (.int .i64 4)) (show X1.heap.size ≠ X0.heap.size by first | exact dd | exact (Ne.symm dd)) (.int .i64 100))
      have N1 := upd_set (.int .i64 2) (.int .i64 3) (.int .i64 40) (.int .i64 4) (.int .i64 100) N1
      go_simp
      clear c0 c1 c2 c3 c4 z0 z1 z2 z3 z4
      have T := five_below TX BZ
      generalize (((((X3.setCell ⟨X1.heap.size, 0, none⟩ (.int .i64 2)).setCell ⟨X1.heap.size, 1, none⟩ (.int .i64 3)).setCell ⟨X1.heap.size, 2, none⟩ (.int .i64 40)).setCell ⟨X1.heap.size, 3, none⟩ (.int .i64 4)).setCell ⟨X1.heap.size, 4, none⟩ (.int .i64 100)) = X4 at *
      refine hK.out _ _ T (fun hHeld => ?_)
      clear hK K
      try simp only [List.getElem_toArray, List.getElem_cons_zero, List.getElem_cons_succ, Act.put, List.setIfInBounds_toArray, List.set_cons_zero, List.set_cons_succ]
      refine wpAnyH_done (by kernel_rfl) ?_ _
      go_wp2_with fail
      go_meet
      exact ⟨_, _, rfl, rfl, AX.below BZ AX.lt, N0, N1, by first | exact dd | exact (Ne.symm dd), thenB (show Below w.heap.size w X0 from B0X) BZ, Nat.lt_of_lt_of_le AX.lt n0, Nat.lt_of_lt_of_le AX.lt n1⟩
    · skip
      go_simp
      have b9 := (Below.refl X0.heap.size X0).alloc (Nat.le_refl _) (.cells #[.int .i64 0, .int .i64 0, .int .i64 0, .int .i64 0, .int .i64 0] 23)
      have N1 := Blk.fresh X0 23 #[.int .i64 0, .int .i64 0, .int .i64 0, .int .i64 0, .int .i64 0]
      have n1 : X0.heap.size ≤ X0.heap.size := BZ.size
      have BZ := BZ.alloc BZ.size (.cells #[.int .i64 0, .int .i64 0, .int .i64 0, .int .i64 0, .int .i64 0] 23)
      have T := five_below TX BZ
      generalize X0.alloc (.cells #[.int .i64 0, .int .i64 0, .int .i64 0, .int .i64 0, .int .i64 0] 23) = X5 at *
      refine hK.out _ _ T (fun hHeld => ?_)
      clear hK K
      try simp only [List.getElem_toArray, List.getElem_cons_zero, List.getElem_cons_succ, Act.put, List.setIfInBounds_toArray, List.set_cons_zero, List.set_cons_succ]
      refine wpAnyH_ready (rs := [2]) (by kernel_rfl) (by simp) ?_
      refine AllReadyH.cons rfl (fun K hK => ?_) (AllReadyH.nil)
      go_simp
      have b9 := (Below.refl X5.heap.size X5).alloc (Nat.le_refl _) (.cells #[.int .i64 0, .int .i64 0, .int .i64 0, .int .i64 0, .int .i64 0] 23)
      have N0 := Blk.fresh X5 23 #[.int .i64 0, .int .i64 0, .int .i64 0, .int .i64 0, .int .i64 0]
      have n0 : X0.heap.size ≤ X5.heap.size := BZ.size
      have BZ := BZ.alloc BZ.size (.cells #[.int .i64 0, .int .i64 0, .int .i64 0, .int .i64 0, .int .i64 0] 23)
      have dd : X5.heap.size ≠ X0.heap.size := Nat.ne_of_gt N1.lt
      have N1 := N1.below b9 N1.lt
      have T := five_below TX BZ
      generalize X5.alloc (.cells #[.int .i64 0, .int .i64 0, .int .i64 0, .int .i64 0, .int .i64 0] 23) = X6 at *
      refine hK.out _ _ T (fun hHeld => ?_)
      clear hK K
      try simp only [List.getElem_toArray, List.getElem_cons_zero, List.getElem_cons_succ, Act.put, List.setIfInBounds_toArray, List.set_cons_zero, List.set_cons_succ]
      refine wpAnyH_ready (rs := [4]) (by kernel_rfl) (by simp) ?_
      refine AllReadyH.cons rfl (fun K hK => ?_) (AllReadyH.nil)
      obtain ⟨c0, c1, c2, c3, c4⟩ := five_of N0
      have z0 := frz N0 0
      have z1 := frz N0 1
      have z2 := frz N0 2
      have z3 := frz N0 3
      have z4 := frz N0 4
      have BZ := upd_below' (g := X5.heap.size) (.int .i64 2) (.int .i64 3) (.int .i64 40) (.int .i64 4) (.int .i64 100) BZ n0
      have N1 := (blk_set_ne (i := 4) (blk_set_ne (i := 3) (blk_set_ne (i := 2) (blk_set_ne (i := 1) (blk_set_ne (i := 0) N1 (show X5.heap.size ≠ X0.heap.size by first | exact dd | exact (Ne.symm dd)) (.int .i64 2)) (show X5.heap.size ≠ X0.heap.size by first | exact dd | exact (Ne.symm dd)) (.int .i64 3)) (show X5.heap.size ≠ X0.heap.size by first | exact dd | exact (Ne.symm dd)) (.int .i64 40)) (show X5.heap.size ≠ X0.heap.size by first | exact dd | exact (Ne.symm dd)) (.int .i64 4)) (show X5.heap.size ≠ X0.heap.size by first | exact dd | exact (Ne.symm dd)) (.int .i64 100))
      have N0 := upd_set (.int .i64 2) (.int .i64 3) (.int .i64 40) (.int .i64 4) (.int .i64 100) N0
      go_simp
      clear c0 c1 c2 c3 c4 z0 z1 z2 z3 z4
      have T := five_below TX BZ
      generalize (((((X6.setCell ⟨X5.heap.size, 0, none⟩ (.int .i64 2)).setCell ⟨X5.heap.size, 1, none⟩ (.int .i64 3)).setCell ⟨X5.heap.size, 2, none⟩ (.int .i64 40)).setCell ⟨X5.heap.size, 3, none⟩ (.int .i64 4)).setCell ⟨X5.heap.size, 4, none⟩ (.int .i64 100)) = X7 at *
      refine hK.out _ _ T (fun hHeld => ?_)
      clear hK K
      try simp only [List.getElem_toArray, List.getElem_cons_zero, List.getElem_cons_succ, Act.put, List.setIfInBounds_toArray, List.set_cons_zero, List.set_cons_succ]
      refine wpAnyH_ready (rs := [5]) (by kernel_rfl) (by simp) ?_
      refine AllReadyH.cons rfl (fun K hK => ?_) (AllReadyH.nil)
      obtain ⟨c0, c1, c2, c3, c4⟩ := five_of N1
      have z0 := frz N1 0
      have z1 := frz N1 1
      have z2 := frz N1 2
      have z3 := frz N1 3
      have z4 := frz N1 4
      have BZ := upd_below' (g := X0.heap.size) (.int .i64 2) (.int .i64 3) (.int .i64 40) (.int .i64 4) (.int .i64 100) BZ n1
      have N0 := (blk_set_ne (i := 4) (blk_set_ne (i := 3) (blk_set_ne (i := 2) (blk_set_ne (i := 1) (blk_set_ne (i := 0) N0 (show X0.heap.size ≠ X5.heap.size by first | exact dd | exact (Ne.symm dd)) (.int .i64 2)) (show X0.heap.size ≠ X5.heap.size by first | exact dd | exact (Ne.symm dd)) (.int .i64 3)) (show X0.heap.size ≠ X5.heap.size by first | exact dd | exact (Ne.symm dd)) (.int .i64 40)) (show X0.heap.size ≠ X5.heap.size by first | exact dd | exact (Ne.symm dd)) (.int .i64 4)) (show X0.heap.size ≠ X5.heap.size by first | exact dd | exact (Ne.symm dd)) (.int .i64 100))
      have N1 := upd_set (.int .i64 2) (.int .i64 3) (.int .i64 40) (.int .i64 4) (.int .i64 100) N1
      go_simp
      clear c0 c1 c2 c3 c4 z0 z1 z2 z3 z4
      have T := five_below TX BZ
      generalize (((((X7.setCell ⟨X0.heap.size, 0, none⟩ (.int .i64 2)).setCell ⟨X0.heap.size, 1, none⟩ (.int .i64 3)).setCell ⟨X0.heap.size, 2, none⟩ (.int .i64 40)).setCell ⟨X0.heap.size, 3, none⟩ (.int .i64 4)).setCell ⟨X0.heap.size, 4, none⟩ (.int .i64 100)) = X8 at *
      refine hK.out _ _ T (fun hHeld => ?_)
      clear hK K
      try simp only [List.getElem_toArray, List.getElem_cons_zero, List.getElem_cons_succ, Act.put, List.setIfInBounds_toArray, List.set_cons_zero, List.set_cons_succ]
      refine wpAnyH_done (by kernel_rfl) ?_ _
      go_wp2_with fail
      go_meet
      exact ⟨_, _, rfl, rfl, AX.below BZ AX.lt, N0, N1, by first | exact dd | exact (Ne.symm dd), thenB (show Below w.heap.size w X0 from B0X) BZ, Nat.lt_of_lt_of_le AX.lt n0, Nat.lt_of_lt_of_le AX.lt n1⟩
  case rest =>
    obtain ⟨p, q, rfl, rfl, A, B, C, hpq, BX, hp, hq⟩ := hcut
    clear A0 B0
    generalize wc = Y at *
    have np : p ≠ w.heap.size := by omega
    have nq : q ≠ w.heap.size := by omega
    have bp := frz B 3
    have bq := frz C 2
    have cp : Y.cell? ⟨p, 3, none⟩ = some (.int .i64 4) := B.cell 3
    have cq : (Y.setCell ⟨p, 3, none⟩ (.int .i64 9)).cell? ⟨q, 2, none⟩ = some (.int .i64 40) := (blk_set_ne (i := 3) C hpq (.int .i64 9)).cell 2
    have A := blk_set_ne (i := 2) (blk_set_ne (i := 3) A np (.int .i64 9)) nq (.int .i64 80)
    have C : Blk ((Y.setCell ⟨p, 3, none⟩ (.int .i64 9)).setCell ⟨q, 2, none⟩ (.int .i64 80)) q 23 #[.int .i64 2, .int .i64 3, .int .i64 80, .int .i64 4, .int .i64 100] := by
      have := blk_setc (blk_set_ne (i := 3) C hpq (.int .i64 9)) 2 (.int .i64 80)
      simpa using this
    have B : Blk ((Y.setCell ⟨p, 3, none⟩ (.int .i64 9)).setCell ⟨q, 2, none⟩ (.int .i64 80)) p 23 #[.int .i64 2, .int .i64 3, .int .i64 40, .int .i64 9, .int .i64 100] := by
      have := blk_set_ne (i := 2) (blk_setc B 3 (.int .i64 9)) (Ne.symm hpq) (.int .i64 80)
      simpa using this
    have BX : Below w.heap.size w ((Y.setCell ⟨p, 3, none⟩ (.int .i64 9)).setCell ⟨q, 2, none⟩ (.int .i64 80)) := (BX.setCell (p := ⟨p, 3, none⟩) (Nat.le_of_lt hp) _).setCell (p := ⟨q, 2, none⟩) (Nat.le_of_lt hq) _
    have bq' : (Y.setCell ⟨p, 3, none⟩ (.int .i64 9)).frozen? ⟨q, 2, none⟩ = false := by rw [World.frozen?_setCell]; exact bq
    go_upto_region 5 with fail
    clear bp bq cp cq bq' np nq hp hq hpq
    generalize (Y.setCell ⟨p, 3, none⟩ (.int .i64 9)).setCell ⟨q, 2, none⟩ (.int .i64 80) = V at *
    obtain ⟨a0, a1, a2, a3, a4⟩ := five_of A
    have P := Blk.fresh V 28 #[.int .u32 1, .int .u32 0, .int .i64 2, .int .i64 3, .int .i64 40, .int .i64 4, .int .i64 100, .int .u64 3, .int .i64 5, .int .i64 0, .int .i64 1]
    go_wp2_with (first
      | (go_at_call 16; refine (L1.out _).mono ?_; clear L1; rintro e w1 ⟨E, c, rfl, hc, IE, b1⟩; have b1' := Base.alloc1 _ _ b1; clear a0 a1 a2 a3 a4; have A := A.below b1' A.lt; have B := B.below b1' B.lt; have C := C.below b1' C.lt; have P := P.below b1 P.lt; have BX := thenB BX b1')
      | (go_at_call 18; refine (L2.out _ E c hc IE).mono ?_; clear L2; rintro e w2 ⟨rfl, b2⟩; have A := A.below b2 A.lt; have B := B.below b2 B.lt; have C := C.below b2 C.lt; have P := P.below b2 P.lt; have BX := (thenB BX b2); have BX := BX.alloc BX.size (.cells #[.int .u32 1, .int .u32 0, .int .i64 2, .int .i64 3, .int .i64 40, .int .i64 4, .int .i64 100, .int .u64 3, .int .i64 5, .int .i64 0, .int .i64 1] 28); have Q := Blk.fresh w2 28 #[.int .u32 1, .int .u32 0, .int .i64 2, .int .i64 3, .int .i64 40, .int .i64 4, .int .i64 100, .int .u64 3, .int .i64 5, .int .i64 0, .int .i64 1]; have A := A.alloc (.cells #[.int .u32 1, .int .u32 0, .int .i64 2, .int .i64 3, .int .i64 40, .int .i64 4, .int .i64 100, .int .u64 3, .int .i64 5, .int .i64 0, .int .i64 1] 28); have B := B.alloc (.cells #[.int .u32 1, .int .u32 0, .int .i64 2, .int .i64 3, .int .i64 40, .int .i64 4, .int .i64 100, .int .u64 3, .int .i64 5, .int .i64 0, .int .i64 1] 28); have C := C.alloc (.cells #[.int .u32 1, .int .u32 0, .int .i64 2, .int .i64 3, .int .i64 40, .int .i64 4, .int .i64 100, .int .u64 3, .int .i64 5, .int .i64 0, .int .i64 1] 28); have P := P.alloc (.cells #[.int .u32 1, .int .u32 0, .int .i64 2, .int .i64 3, .int .i64 40, .int .i64 4, .int .i64 100, .int .u64 3, .int .i64 5, .int .i64 0, .int .i64 1] 28); obtain ⟨a0, a1, a2, a3, a4⟩ := five_of A)
      | (go_at_call 12; refine (L3.out _).mono ?_; clear L3; rintro e w3 ⟨rfl, b3⟩; clear a0 a1 a2 a3 a4; have A := A.below b3 A.lt; have B := B.below b3 B.lt; have C := C.below b3 C.lt; have P := P.below b3 P.lt; have Q := Q.below b3 Q.lt; have BX := thenB BX b3; obtain ⟨a0, a1, a2, a3, a4⟩ := five_of B)
      | (go_at_call 12; refine (L4.out _).mono ?_; clear L4; rintro e w4 ⟨rfl, b4⟩; clear a0 a1 a2 a3 a4; have A := A.below b4 A.lt; have C := C.below b4 C.lt; have P := P.below b4 P.lt; have Q := Q.below b4 Q.lt; have BX := thenB BX b4; obtain ⟨a0, a1, a2, a3, a4⟩ := five_of A)
      | (go_at_call 21; refine (L5.out _).mono ?_; clear L5; rintro e w5 ⟨rfl, b5⟩; clear a0 a1 a2 a3 a4; have A := A.below b5 A.lt; have C := C.below b5 C.lt; have P := P.below b5 P.lt; have Q := Q.below b5 Q.lt; have BX := thenB BX b5; obtain ⟨a0, a1, a2, a3, a4⟩ := five_of A)
      | (go_at_call 23; refine (L6.out _).mono ?_; clear L6; rintro e w6 ⟨rfl, b6⟩; clear a0 a1 a2 a3 a4; have A := A.below b6 A.lt; have C := C.below b6 C.lt; have P := P.below b6 P.lt; have Q := Q.below b6 Q.lt; have BX := thenB BX b6; obtain ⟨a0, a1, a2, a3, a4⟩ := five_of A)
      | (go_at_call 25; refine (L7.out _).mono ?_; clear L7; rintro e w7 ⟨rfl, b7⟩; clear a0 a1 a2 a3 a4; have A := A.below b7 A.lt; have C := C.below b7 C.lt; have P := P.below b7 P.lt; have Q := Q.below b7 Q.lt; have BX := thenB BX b7; obtain ⟨a0, a1, a2, a3, a4⟩ := five_of A)
      | (go_at_call 27; refine (L8.out _).mono ?_; clear L8; rintro e w8 ⟨rfl, b8⟩; clear a0 a1 a2 a3 a4; have A := A.below b8 A.lt; have C := C.below b8 C.lt; have P := P.below b8 P.lt; have Q := Q.below b8 Q.lt; have BX := thenB BX b8; obtain ⟨a0, a1, a2, a3, a4⟩ := five_of A; obtain ⟨c0, c1, c2, c3, c4⟩ := five_of C)
      | (go_at_call 29; refine (L9.out _).mono ?_; clear L9; rintro e w9 ⟨rfl, b9⟩; clear a0 a1 a2 a3 a4 c0 c1 c2 c3 c4; have P := P.below b9 P.lt; have Q := Q.below b9 Q.lt; have BX := thenB BX b9; obtain ⟨p0, p1, p2, p3, p4, p5, p6, p7, p8, p9, p10⟩ := elv_of (m := 3) P)
      | (go_at_call 14; refine (L10.out _).mono ?_; clear L10; rintro e w10 ⟨rfl, b10⟩; clear p0 p1 p2 p3 p4 p5 p6 p7 p8 p9 p10; have P := P.below b10 P.lt; have Q := Q.below b10 Q.lt; have BX := thenB BX b10; obtain ⟨p0, p1, p2, p3, p4, p5, p6, p7, p8, p9, p10⟩ := elv_of (m := 3) P; obtain ⟨q0, q1, q2, q3, q4, q5, q6, q7, q8, q9, q10⟩ := elv_of (m := 3) Q))
    go_ret
    exact ⟨rfl, BX⟩
end Go.Proofs.Ytmcpgnmkjebbjaa.Cn
