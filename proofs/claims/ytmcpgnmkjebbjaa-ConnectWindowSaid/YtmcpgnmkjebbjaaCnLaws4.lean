/- The statement on moved windows, walked: it returns true. -/
import Derived.Test.YtmcpgnmkjebbjaaCnLaws3
import Derived.Deep.CutRange
set_option linter.unusedVariables false
set_option linter.unusedSimpArgs false
namespace Go.Proofs.Ytmcpgnmkjebbjaa.Cn
open Go.RowKit Mem Clk Rw

/-- Two updates in memory, one behind the other. -/
abbrev Ten (w : World) (g : Nat) (s o i l t s2 o2 i2 l2 t2 : Int) : Prop := w.cell? ⟨g, 0, none⟩ = some (.int .i64 s) ∧ w.cell? ⟨g, 1, none⟩ = some (.int .i64 o) ∧ w.cell? ⟨g, 2, none⟩ = some (.int .i64 i) ∧ w.cell? ⟨g, 3, none⟩ = some (.int .i64 l) ∧ w.cell? ⟨g, 4, none⟩ = some (.int .i64 t) ∧ w.cell? ⟨g, 5, none⟩ = some (.int .i64 s2) ∧ w.cell? ⟨g, 6, none⟩ = some (.int .i64 o2) ∧ w.cell? ⟨g, 7, none⟩ = some (.int .i64 i2) ∧ w.cell? ⟨g, 8, none⟩ = some (.int .i64 l2) ∧ w.cell? ⟨g, 9, none⟩ = some (.int .i64 t2)
theorem ten_of {w : World} {g : Nat} {s o i l t s2 o2 i2 l2 t2 : Int} {ty : TypeId} (h : Blk w g ty #[.int .i64 s, .int .i64 o, .int .i64 i, .int .i64 l, .int .i64 t, .int .i64 s2, .int .i64 o2, .int .i64 i2, .int .i64 l2, .int .i64 t2]) : Ten w g s o i l t s2 o2 i2 l2 t2 := ⟨h.cell 0, h.cell 1, h.cell 2, h.cell 3, h.cell 4, h.cell 5, h.cell 6, h.cell 7, h.cell 8, h.cell 9⟩
set_option maxRecDepth 100000 in
set_option maxHeartbeats 10000000 in
theorem moved_no0 (pa sa pb sb s o i l t s2 o2 i2 l2 t2 T n y x D ZZ EU : Int) (w : World) (HD : Hid (∀ w, Calls Try.prog 35 #[.int .i64 n, upd s o i l t, upd s2 o2 i2 l2 t2] w fun e w' => e = .returned (.tuple #[.int .i64 D, .int .i64 ZZ]) ∧ Below w.heap.size w w')) (HR : Hid (∀ w, Calls Try.prog 31 #[.agg #[.int .i64 pa, .int .i64 sa], .agg #[.int .i64 pb, .int .i64 sb], upd s o i l t, .agg #[.int .i64 T, .int .i64 n, .int .i64 y, .int .i64 x]] w fun e w' => e = .returned (.bool false) ∧ Below w.heap.size w w')) :
    Calls Try.prog 10 #[.agg #[.int .i64 pa, .int .i64 sa, .int .i64 pb, .int .i64 sb], .agg #[.int .i64 s, .int .i64 o, .int .i64 i, .int .i64 l, .int .i64 t, .int .i64 s2, .int .i64 o2, .int .i64 i2, .int .i64 l2, .int .i64 t2], .agg #[.int .i64 T, .int .i64 n, .int .i64 y, .int .i64 x]] w fun e w' => e = .returned (.bool true) ∧ Below w.heap.size w w' := by
  have F0 : Mem.Blk (((w.alloc (.cells #[.int .i64 pa, .int .i64 sa, .int .i64 pb, .int .i64 sb] 56)).alloc (.cells #[.int .i64 s, .int .i64 o, .int .i64 i, .int .i64 l, .int .i64 t, .int .i64 s2, .int .i64 o2, .int .i64 i2, .int .i64 l2, .int .i64 t2] 63)).alloc (.cells #[.int .i64 T, .int .i64 n, .int .i64 y, .int .i64 x] 58)) w.heap.size 56 #[.int .i64 pa, .int .i64 sa, .int .i64 pb, .int .i64 sb] := (((Blk.fresh w 56 #[.int .i64 pa, .int .i64 sa, .int .i64 pb, .int .i64 sb]).alloc (.cells #[.int .i64 s, .int .i64 o, .int .i64 i, .int .i64 l, .int .i64 t, .int .i64 s2, .int .i64 o2, .int .i64 i2, .int .i64 l2, .int .i64 t2] 63)).alloc (.cells #[.int .i64 T, .int .i64 n, .int .i64 y, .int .i64 x] 58))
  have F1 : Mem.Blk (((w.alloc (.cells #[.int .i64 pa, .int .i64 sa, .int .i64 pb, .int .i64 sb] 56)).alloc (.cells #[.int .i64 s, .int .i64 o, .int .i64 i, .int .i64 l, .int .i64 t, .int .i64 s2, .int .i64 o2, .int .i64 i2, .int .i64 l2, .int .i64 t2] 63)).alloc (.cells #[.int .i64 T, .int .i64 n, .int .i64 y, .int .i64 x] 58)) (w.heap.size + 1) 63 #[.int .i64 s, .int .i64 o, .int .i64 i, .int .i64 l, .int .i64 t, .int .i64 s2, .int .i64 o2, .int .i64 i2, .int .i64 l2, .int .i64 t2] := by
    have := ((Blk.fresh (w.alloc (.cells #[.int .i64 pa, .int .i64 sa, .int .i64 pb, .int .i64 sb] 56)) 63 #[.int .i64 s, .int .i64 o, .int .i64 i, .int .i64 l, .int .i64 t, .int .i64 s2, .int .i64 o2, .int .i64 i2, .int .i64 l2, .int .i64 t2]).alloc (.cells #[.int .i64 T, .int .i64 n, .int .i64 y, .int .i64 x] 58))
    rwa [World.size_alloc] at this
  have F2 : Mem.Blk (((w.alloc (.cells #[.int .i64 pa, .int .i64 sa, .int .i64 pb, .int .i64 sb] 56)).alloc (.cells #[.int .i64 s, .int .i64 o, .int .i64 i, .int .i64 l, .int .i64 t, .int .i64 s2, .int .i64 o2, .int .i64 i2, .int .i64 l2, .int .i64 t2] 63)).alloc (.cells #[.int .i64 T, .int .i64 n, .int .i64 y, .int .i64 x] 58)) (w.heap.size + 2) 58 #[.int .i64 T, .int .i64 n, .int .i64 y, .int .i64 x] := by
    have := (Blk.fresh ((w.alloc (.cells #[.int .i64 pa, .int .i64 sa, .int .i64 pb, .int .i64 sb] 56)).alloc (.cells #[.int .i64 s, .int .i64 o, .int .i64 i, .int .i64 l, .int .i64 t, .int .i64 s2, .int .i64 o2, .int .i64 i2, .int .i64 l2, .int .i64 t2] 63)) 58 #[.int .i64 T, .int .i64 n, .int .i64 y, .int .i64 x])
    rwa [World.size_alloc, World.size_alloc] at this
  have hbel : Below w.heap.size w (((w.alloc (.cells #[.int .i64 pa, .int .i64 sa, .int .i64 pb, .int .i64 sb] 56)).alloc (.cells #[.int .i64 s, .int .i64 o, .int .i64 i, .int .i64 l, .int .i64 t, .int .i64 s2, .int .i64 o2, .int .i64 i2, .int .i64 l2, .int .i64 t2] 63)).alloc (.cells #[.int .i64 T, .int .i64 n, .int .i64 y, .int .i64 x] 58)) := ((((Below.refl _ w).alloc (Nat.le_refl _) _).alloc (by simp) _).alloc (by simp; omega) _)
  have sz : w.heap.size + 3 ≤ (((w.alloc (.cells #[.int .i64 pa, .int .i64 sa, .int .i64 pb, .int .i64 sb] 56)).alloc (.cells #[.int .i64 s, .int .i64 o, .int .i64 i, .int .i64 l, .int .i64 t, .int .i64 s2, .int .i64 o2, .int .i64 i2, .int .i64 l2, .int .i64 t2] 63)).alloc (.cells #[.int .i64 T, .int .i64 n, .int .i64 y, .int .i64 x] 58)).heap.size := by simp
  have BX := hbel
  clear hbel
  have HL := Lib.hid lives_any
  go_enter Try.func10, Try.ntmps10
  go_wp2_with fail
  generalize (((w.alloc (.cells #[.int .i64 pa, .int .i64 sa, .int .i64 pb, .int .i64 sb] 56)).alloc (.cells #[.int .i64 s, .int .i64 o, .int .i64 i, .int .i64 l, .int .i64 t, .int .i64 s2, .int .i64 o2, .int .i64 i2, .int .i64 l2, .int .i64 t2] 63)).alloc (.cells #[.int .i64 T, .int .i64 n, .int .i64 y, .int .i64 x] 58)) = W at *
  go_wp2_with (go_at_call 11; refine (HL.out _).mono ?_; clear HL; rintro e w1 ⟨rfl, b9⟩; have F0 := F0.below b9 F0.lt; have F1 := F1.below b9 F1.lt; have F2 := F2.below b9 F2.lt; have BX := thenB BX b9; have sz : w.heap.size + 3 ≤ w1.heap.size := Nat.le_trans sz b9.size; clear b9)
  go_cut [7, 8] from 16 to 19 (fun s7 s8 wx => ∃ p q, s7 = .pointer (some ⟨p, 0, none⟩) ∧ s8 = .pointer (some ⟨q, 0, none⟩) ∧ Blk wx p 23 #[.int .i64 s, .int .i64 o, .int .i64 i, .int .i64 l, .int .i64 t] ∧ Blk wx q 23 #[.int .i64 s2, .int .i64 o2, .int .i64 i2, .int .i64 l2, .int .i64 t2] ∧ Blk wx w.heap.size 56 #[.int .i64 pa, .int .i64 sa, .int .i64 pb, .int .i64 sb] ∧ Blk wx (w.heap.size + 2) 58 #[.int .i64 T, .int .i64 n, .int .i64 y, .int .i64 x] ∧ p ≠ q ∧ Below w.heap.size w wx ∧ w.heap.size + 3 ≤ wx.heap.size)
  case first =>
    go_wp2_with fail
    refine wp_region_held_drew (S := (fun w' => Ten w' (w.heap.size + 1) s o i l t s2 o2 i2 l2 t2)) (by kernel_rfl) ?_ (fun hHeld => ?_)
    · exact ten_of F1
    have TT : Ten w1.drew (w.heap.size + 1) s o i l t s2 o2 i2 l2 t2 := ten_of F1.drew
    have F0 := F0.drew
    have F1 := F1.drew
    have F2 := F2.drew
    have BX := BX.drew
    have sz : w.heap.size + 3 ≤ w1.drew.heap.size := sz
    generalize w1.drew = V0 at *
    refine wpAnyH_take (i := 0) (v := .pointer (some ⟨w.heap.size + 1, 0, none⟩)) rfl (by kernel_rfl) (by kernel_rfl) (by kernel_rfl) (fun _ _ _ h => h) (Or.inl ⟨by first | rfl | go_simp, by intro w9 hSw; (try dsimp only at hSw); go_simp⟩) (by assumption) ?_
    simp only [List.getElem_toArray, List.getElem_cons_zero, List.getElem_cons_succ, Act.put, List.setIfInBounds_toArray, List.set_cons_zero, List.set_cons_succ]
    refine wpAnyH_take (i := 1) (v := .agg #[.int .i64 s, .int .i64 o, .int .i64 i, .int .i64 l, .int .i64 t]) rfl (by kernel_rfl) (by kernel_rfl) (by kernel_rfl) (fun _ _ _ h => h) (Or.inl ⟨by first | rfl | go_simp, by intro w9 hSw; (try dsimp only at hSw); go_simp⟩) (by assumption) ?_
    simp only [List.getElem_toArray, List.getElem_cons_zero, List.getElem_cons_succ, Act.put, List.setIfInBounds_toArray, List.set_cons_zero, List.set_cons_succ]
    refine wpAnyH_take (i := 2) (v := .pointer (some ⟨w.heap.size + 1, 5, none⟩)) rfl (by kernel_rfl) (by kernel_rfl) (by kernel_rfl) (fun _ _ _ h => h) (Or.inl ⟨by first | rfl | go_simp, by intro w9 hSw; (try dsimp only at hSw); go_simp⟩) (by assumption) ?_
    simp only [List.getElem_toArray, List.getElem_cons_zero, List.getElem_cons_succ, Act.put, List.setIfInBounds_toArray, List.set_cons_zero, List.set_cons_succ]
    refine wpAnyH_take (i := 3) (v := .agg #[.int .i64 s2, .int .i64 o2, .int .i64 i2, .int .i64 l2, .int .i64 t2]) rfl (by kernel_rfl) (by kernel_rfl) (by kernel_rfl) (fun _ _ _ h => h) (Or.inl ⟨by first | rfl | go_simp, by intro w9 hSw; (try dsimp only at hSw); go_simp⟩) (by assumption) ?_
    simp only [List.getElem_toArray, List.getElem_cons_zero, List.getElem_cons_succ, Act.put, List.setIfInBounds_toArray, List.set_cons_zero, List.set_cons_succ]
    refine wpAnyH_ready (rs := [4, 5]) (by kernel_rfl) (by simp) ?_
    refine AllReadyH.cons rfl (fun K hK => ?_) (AllReadyH.cons rfl (fun K hK => ?_) (AllReadyH.nil))
    · skip
      go_simp
      have b9 := (Below.refl V0.heap.size V0).alloc (Nat.le_refl _) (.cells #[.int .i64 0, .int .i64 0, .int .i64 0, .int .i64 0, .int .i64 0] 23)
      have N0 := Blk.fresh V0 23 #[.int .i64 0, .int .i64 0, .int .i64 0, .int .i64 0, .int .i64 0]
      have n0 : w.heap.size + 3 ≤ V0.heap.size := sz
      generalize V0.alloc (.cells #[.int .i64 0, .int .i64 0, .int .i64 0, .int .i64 0, .int .i64 0] 23) = V1 at *
      have F0 := F0.below b9 F0.lt
      have F1 := F1.below b9 F1.lt
      have F2 := F2.below b9 F2.lt
      have TT := ten_of F1
      have BX := thenB BX b9
      have sz := Nat.le_trans sz b9.size
      refine hK.out _ _ TT (fun hHeld => ?_)
      clear hK K
      try simp only [List.getElem_toArray, List.getElem_cons_zero, List.getElem_cons_succ, Act.put, List.setIfInBounds_toArray, List.set_cons_zero, List.set_cons_succ]
      refine wpAnyH_ready (rs := [5]) (by kernel_rfl) (by simp) ?_
      refine AllReadyH.cons rfl (fun K hK => ?_) (AllReadyH.nil)
      go_simp
      have b9 := (Below.refl V1.heap.size V1).alloc (Nat.le_refl _) (.cells #[.int .i64 0, .int .i64 0, .int .i64 0, .int .i64 0, .int .i64 0] 23)
      have N1 := Blk.fresh V1 23 #[.int .i64 0, .int .i64 0, .int .i64 0, .int .i64 0, .int .i64 0]
      have n1 : w.heap.size + 3 ≤ V1.heap.size := sz
      have dd : V1.heap.size ≠ V0.heap.size := Nat.ne_of_gt N0.lt
      generalize V1.alloc (.cells #[.int .i64 0, .int .i64 0, .int .i64 0, .int .i64 0, .int .i64 0] 23) = V2 at *
      have F0 := F0.below b9 F0.lt
      have F1 := F1.below b9 F1.lt
      have F2 := F2.below b9 F2.lt
      have TT := ten_of F1
      have BX := thenB BX b9
      have sz := Nat.le_trans sz b9.size
      have N0 := N0.below b9 N0.lt
      refine hK.out _ _ TT (fun hHeld => ?_)
      clear hK K
      try simp only [List.getElem_toArray, List.getElem_cons_zero, List.getElem_cons_succ, Act.put, List.setIfInBounds_toArray, List.set_cons_zero, List.set_cons_succ]
      refine wpAnyH_ready (rs := [6]) (by kernel_rfl) (by simp) ?_
      refine AllReadyH.cons rfl (fun K hK => ?_) (AllReadyH.nil)
      obtain ⟨c0, c1, c2, c3, c4⟩ := five_of N0
      have z0 := frz N0 0
      have z1 := frz N0 1
      have z2 := frz N0 2
      have z3 := frz N0 3
      have z4 := frz N0 4
      have F0 := (blk_set_ne (i := 4) (blk_set_ne (i := 3) (blk_set_ne (i := 2) (blk_set_ne (i := 1) (blk_set_ne (i := 0) F0 (show V0.heap.size ≠ _ by omega) (.int .i64 s)) (show V0.heap.size ≠ _ by omega) (.int .i64 o)) (show V0.heap.size ≠ _ by omega) (.int .i64 i)) (show V0.heap.size ≠ _ by omega) (.int .i64 l)) (show V0.heap.size ≠ _ by omega) (.int .i64 t))
      have F1 := (blk_set_ne (i := 4) (blk_set_ne (i := 3) (blk_set_ne (i := 2) (blk_set_ne (i := 1) (blk_set_ne (i := 0) F1 (show V0.heap.size ≠ _ by omega) (.int .i64 s)) (show V0.heap.size ≠ _ by omega) (.int .i64 o)) (show V0.heap.size ≠ _ by omega) (.int .i64 i)) (show V0.heap.size ≠ _ by omega) (.int .i64 l)) (show V0.heap.size ≠ _ by omega) (.int .i64 t))
      have F2 := (blk_set_ne (i := 4) (blk_set_ne (i := 3) (blk_set_ne (i := 2) (blk_set_ne (i := 1) (blk_set_ne (i := 0) F2 (show V0.heap.size ≠ _ by omega) (.int .i64 s)) (show V0.heap.size ≠ _ by omega) (.int .i64 o)) (show V0.heap.size ≠ _ by omega) (.int .i64 i)) (show V0.heap.size ≠ _ by omega) (.int .i64 l)) (show V0.heap.size ≠ _ by omega) (.int .i64 t))
      have N1 := (blk_set_ne (i := 4) (blk_set_ne (i := 3) (blk_set_ne (i := 2) (blk_set_ne (i := 1) (blk_set_ne (i := 0) N1 (show V0.heap.size ≠ V1.heap.size by first | exact dd | exact (Ne.symm dd)) (.int .i64 s)) (show V0.heap.size ≠ V1.heap.size by first | exact dd | exact (Ne.symm dd)) (.int .i64 o)) (show V0.heap.size ≠ V1.heap.size by first | exact dd | exact (Ne.symm dd)) (.int .i64 i)) (show V0.heap.size ≠ V1.heap.size by first | exact dd | exact (Ne.symm dd)) (.int .i64 l)) (show V0.heap.size ≠ V1.heap.size by first | exact dd | exact (Ne.symm dd)) (.int .i64 t))
      have BX := upd_below (g := V0.heap.size) (.int .i64 s) (.int .i64 o) (.int .i64 i) (.int .i64 l) (.int .i64 t) BX (by omega)
      have N0 := upd_set (.int .i64 s) (.int .i64 o) (.int .i64 i) (.int .i64 l) (.int .i64 t) N0
      have sz : w.heap.size + 3 ≤ (((((V2.setCell ⟨V0.heap.size, 0, none⟩ (.int .i64 s)).setCell ⟨V0.heap.size, 1, none⟩ (.int .i64 o)).setCell ⟨V0.heap.size, 2, none⟩ (.int .i64 i)).setCell ⟨V0.heap.size, 3, none⟩ (.int .i64 l)).setCell ⟨V0.heap.size, 4, none⟩ (.int .i64 t)).heap.size := by simpa using sz
      have TT := ten_of F1
      go_simp
      clear c0 c1 c2 c3 c4 z0 z1 z2 z3 z4
      generalize (((((V2.setCell ⟨V0.heap.size, 0, none⟩ (.int .i64 s)).setCell ⟨V0.heap.size, 1, none⟩ (.int .i64 o)).setCell ⟨V0.heap.size, 2, none⟩ (.int .i64 i)).setCell ⟨V0.heap.size, 3, none⟩ (.int .i64 l)).setCell ⟨V0.heap.size, 4, none⟩ (.int .i64 t)) = V3 at *
      refine hK.out _ _ TT (fun hHeld => ?_)
      clear hK K
      try simp only [List.getElem_toArray, List.getElem_cons_zero, List.getElem_cons_succ, Act.put, List.setIfInBounds_toArray, List.set_cons_zero, List.set_cons_succ]
      refine wpAnyH_ready (rs := [7]) (by kernel_rfl) (by simp) ?_
      refine AllReadyH.cons rfl (fun K hK => ?_) (AllReadyH.nil)
      obtain ⟨c0, c1, c2, c3, c4⟩ := five_of N1
      have z0 := frz N1 0
      have z1 := frz N1 1
      have z2 := frz N1 2
      have z3 := frz N1 3
      have z4 := frz N1 4
      have F0 := (blk_set_ne (i := 4) (blk_set_ne (i := 3) (blk_set_ne (i := 2) (blk_set_ne (i := 1) (blk_set_ne (i := 0) F0 (show V1.heap.size ≠ _ by omega) (.int .i64 s2)) (show V1.heap.size ≠ _ by omega) (.int .i64 o2)) (show V1.heap.size ≠ _ by omega) (.int .i64 i2)) (show V1.heap.size ≠ _ by omega) (.int .i64 l2)) (show V1.heap.size ≠ _ by omega) (.int .i64 t2))
      have F1 := (blk_set_ne (i := 4) (blk_set_ne (i := 3) (blk_set_ne (i := 2) (blk_set_ne (i := 1) (blk_set_ne (i := 0) F1 (show V1.heap.size ≠ _ by omega) (.int .i64 s2)) (show V1.heap.size ≠ _ by omega) (.int .i64 o2)) (show V1.heap.size ≠ _ by omega) (.int .i64 i2)) (show V1.heap.size ≠ _ by omega) (.int .i64 l2)) (show V1.heap.size ≠ _ by omega) (.int .i64 t2))
      have F2 := (blk_set_ne (i := 4) (blk_set_ne (i := 3) (blk_set_ne (i := 2) (blk_set_ne (i := 1) (blk_set_ne (i := 0) F2 (show V1.heap.size ≠ _ by omega) (.int .i64 s2)) (show V1.heap.size ≠ _ by omega) (.int .i64 o2)) (show V1.heap.size ≠ _ by omega) (.int .i64 i2)) (show V1.heap.size ≠ _ by omega) (.int .i64 l2)) (show V1.heap.size ≠ _ by omega) (.int .i64 t2))
      have N0 := (blk_set_ne (i := 4) (blk_set_ne (i := 3) (blk_set_ne (i := 2) (blk_set_ne (i := 1) (blk_set_ne (i := 0) N0 (show V1.heap.size ≠ V0.heap.size by first | exact dd | exact (Ne.symm dd)) (.int .i64 s2)) (show V1.heap.size ≠ V0.heap.size by first | exact dd | exact (Ne.symm dd)) (.int .i64 o2)) (show V1.heap.size ≠ V0.heap.size by first | exact dd | exact (Ne.symm dd)) (.int .i64 i2)) (show V1.heap.size ≠ V0.heap.size by first | exact dd | exact (Ne.symm dd)) (.int .i64 l2)) (show V1.heap.size ≠ V0.heap.size by first | exact dd | exact (Ne.symm dd)) (.int .i64 t2))
      have BX := upd_below (g := V1.heap.size) (.int .i64 s2) (.int .i64 o2) (.int .i64 i2) (.int .i64 l2) (.int .i64 t2) BX (by omega)
      have N1 := upd_set (.int .i64 s2) (.int .i64 o2) (.int .i64 i2) (.int .i64 l2) (.int .i64 t2) N1
      have sz : w.heap.size + 3 ≤ (((((V3.setCell ⟨V1.heap.size, 0, none⟩ (.int .i64 s2)).setCell ⟨V1.heap.size, 1, none⟩ (.int .i64 o2)).setCell ⟨V1.heap.size, 2, none⟩ (.int .i64 i2)).setCell ⟨V1.heap.size, 3, none⟩ (.int .i64 l2)).setCell ⟨V1.heap.size, 4, none⟩ (.int .i64 t2)).heap.size := by simpa using sz
      have TT := ten_of F1
      go_simp
      clear c0 c1 c2 c3 c4 z0 z1 z2 z3 z4
      generalize (((((V3.setCell ⟨V1.heap.size, 0, none⟩ (.int .i64 s2)).setCell ⟨V1.heap.size, 1, none⟩ (.int .i64 o2)).setCell ⟨V1.heap.size, 2, none⟩ (.int .i64 i2)).setCell ⟨V1.heap.size, 3, none⟩ (.int .i64 l2)).setCell ⟨V1.heap.size, 4, none⟩ (.int .i64 t2)) = V4 at *
      refine hK.out _ _ TT (fun hHeld => ?_)
      clear hK K
      try simp only [List.getElem_toArray, List.getElem_cons_zero, List.getElem_cons_succ, Act.put, List.setIfInBounds_toArray, List.set_cons_zero, List.set_cons_succ]
      refine wpAnyH_done (by kernel_rfl) ?_ _
      go_wp2_with fail
      go_meet
      exact ⟨_, _, rfl, rfl, N0, N1, F0, F2, by first | exact dd | exact (Ne.symm dd), BX, sz⟩
    · skip
      go_simp
      have b9 := (Below.refl V0.heap.size V0).alloc (Nat.le_refl _) (.cells #[.int .i64 0, .int .i64 0, .int .i64 0, .int .i64 0, .int .i64 0] 23)
      have N1 := Blk.fresh V0 23 #[.int .i64 0, .int .i64 0, .int .i64 0, .int .i64 0, .int .i64 0]
      have n1 : w.heap.size + 3 ≤ V0.heap.size := sz
      generalize V0.alloc (.cells #[.int .i64 0, .int .i64 0, .int .i64 0, .int .i64 0, .int .i64 0] 23) = V5 at *
      have F0 := F0.below b9 F0.lt
      have F1 := F1.below b9 F1.lt
      have F2 := F2.below b9 F2.lt
      have TT := ten_of F1
      have BX := thenB BX b9
      have sz := Nat.le_trans sz b9.size
      refine hK.out _ _ TT (fun hHeld => ?_)
      clear hK K
      try simp only [List.getElem_toArray, List.getElem_cons_zero, List.getElem_cons_succ, Act.put, List.setIfInBounds_toArray, List.set_cons_zero, List.set_cons_succ]
      refine wpAnyH_ready (rs := [4]) (by kernel_rfl) (by simp) ?_
      refine AllReadyH.cons rfl (fun K hK => ?_) (AllReadyH.nil)
      go_simp
      have b9 := (Below.refl V5.heap.size V5).alloc (Nat.le_refl _) (.cells #[.int .i64 0, .int .i64 0, .int .i64 0, .int .i64 0, .int .i64 0] 23)
      have N0 := Blk.fresh V5 23 #[.int .i64 0, .int .i64 0, .int .i64 0, .int .i64 0, .int .i64 0]
      have n0 : w.heap.size + 3 ≤ V5.heap.size := sz
      have dd : V5.heap.size ≠ V0.heap.size := Nat.ne_of_gt N1.lt
      generalize V5.alloc (.cells #[.int .i64 0, .int .i64 0, .int .i64 0, .int .i64 0, .int .i64 0] 23) = V6 at *
      have F0 := F0.below b9 F0.lt
      have F1 := F1.below b9 F1.lt
      have F2 := F2.below b9 F2.lt
      have TT := ten_of F1
      have BX := thenB BX b9
      have sz := Nat.le_trans sz b9.size
      have N1 := N1.below b9 N1.lt
      refine hK.out _ _ TT (fun hHeld => ?_)
      clear hK K
      try simp only [List.getElem_toArray, List.getElem_cons_zero, List.getElem_cons_succ, Act.put, List.setIfInBounds_toArray, List.set_cons_zero, List.set_cons_succ]
      refine wpAnyH_ready (rs := [6]) (by kernel_rfl) (by simp) ?_
      refine AllReadyH.cons rfl (fun K hK => ?_) (AllReadyH.nil)
      obtain ⟨c0, c1, c2, c3, c4⟩ := five_of N0
      have z0 := frz N0 0
      have z1 := frz N0 1
      have z2 := frz N0 2
      have z3 := frz N0 3
      have z4 := frz N0 4
      have F0 := (blk_set_ne (i := 4) (blk_set_ne (i := 3) (blk_set_ne (i := 2) (blk_set_ne (i := 1) (blk_set_ne (i := 0) F0 (show V5.heap.size ≠ _ by omega) (.int .i64 s)) (show V5.heap.size ≠ _ by omega) (.int .i64 o)) (show V5.heap.size ≠ _ by omega) (.int .i64 i)) (show V5.heap.size ≠ _ by omega) (.int .i64 l)) (show V5.heap.size ≠ _ by omega) (.int .i64 t))
      have F1 := (blk_set_ne (i := 4) (blk_set_ne (i := 3) (blk_set_ne (i := 2) (blk_set_ne (i := 1) (blk_set_ne (i := 0) F1 (show V5.heap.size ≠ _ by omega) (.int .i64 s)) (show V5.heap.size ≠ _ by omega) (.int .i64 o)) (show V5.heap.size ≠ _ by omega) (.int .i64 i)) (show V5.heap.size ≠ _ by omega) (.int .i64 l)) (show V5.heap.size ≠ _ by omega) (.int .i64 t))
      have F2 := (blk_set_ne (i := 4) (blk_set_ne (i := 3) (blk_set_ne (i := 2) (blk_set_ne (i := 1) (blk_set_ne (i := 0) F2 (show V5.heap.size ≠ _ by omega) (.int .i64 s)) (show V5.heap.size ≠ _ by omega) (.int .i64 o)) (show V5.heap.size ≠ _ by omega) (.int .i64 i)) (show V5.heap.size ≠ _ by omega) (.int .i64 l)) (show V5.heap.size ≠ _ by omega) (.int .i64 t))
      have N1 := (blk_set_ne (i := 4) (blk_set_ne (i := 3) (blk_set_ne (i := 2) (blk_set_ne (i := 1) (blk_set_ne (i := 0) N1 (show V5.heap.size ≠ V0.heap.size by first | exact dd | exact (Ne.symm dd)) (.int .i64 s)) (show V5.heap.size ≠ V0.heap.size by first | exact dd | exact (Ne.symm dd)) (.int .i64 o)) (show V5.heap.size ≠ V0.heap.size by first | exact dd | exact (Ne.symm dd)) (.int .i64 i)) (show V5.heap.size ≠ V0.heap.size by first | exact dd | exact (Ne.symm dd)) (.int .i64 l)) (show V5.heap.size ≠ V0.heap.size by first | exact dd | exact (Ne.symm dd)) (.int .i64 t))
      have BX := upd_below (g := V5.heap.size) (.int .i64 s) (.int .i64 o) (.int .i64 i) (.int .i64 l) (.int .i64 t) BX (by omega)
      have N0 := upd_set (.int .i64 s) (.int .i64 o) (.int .i64 i) (.int .i64 l) (.int .i64 t) N0
      have sz : w.heap.size + 3 ≤ (((((V6.setCell ⟨V5.heap.size, 0, none⟩ (.int .i64 s)).setCell ⟨V5.heap.size, 1, none⟩ (.int .i64 o)).setCell ⟨V5.heap.size, 2, none⟩ (.int .i64 i)).setCell ⟨V5.heap.size, 3, none⟩ (.int .i64 l)).setCell ⟨V5.heap.size, 4, none⟩ (.int .i64 t)).heap.size := by simpa using sz
      have TT := ten_of F1
      go_simp
      clear c0 c1 c2 c3 c4 z0 z1 z2 z3 z4
      generalize (((((V6.setCell ⟨V5.heap.size, 0, none⟩ (.int .i64 s)).setCell ⟨V5.heap.size, 1, none⟩ (.int .i64 o)).setCell ⟨V5.heap.size, 2, none⟩ (.int .i64 i)).setCell ⟨V5.heap.size, 3, none⟩ (.int .i64 l)).setCell ⟨V5.heap.size, 4, none⟩ (.int .i64 t)) = V7 at *
      refine hK.out _ _ TT (fun hHeld => ?_)
      clear hK K
      try simp only [List.getElem_toArray, List.getElem_cons_zero, List.getElem_cons_succ, Act.put, List.setIfInBounds_toArray, List.set_cons_zero, List.set_cons_succ]
      refine wpAnyH_ready (rs := [7]) (by kernel_rfl) (by simp) ?_
      refine AllReadyH.cons rfl (fun K hK => ?_) (AllReadyH.nil)
      obtain ⟨c0, c1, c2, c3, c4⟩ := five_of N1
      have z0 := frz N1 0
      have z1 := frz N1 1
      have z2 := frz N1 2
      have z3 := frz N1 3
      have z4 := frz N1 4
      have F0 := (blk_set_ne (i := 4) (blk_set_ne (i := 3) (blk_set_ne (i := 2) (blk_set_ne (i := 1) (blk_set_ne (i := 0) F0 (show V0.heap.size ≠ _ by omega) (.int .i64 s2)) (show V0.heap.size ≠ _ by omega) (.int .i64 o2)) (show V0.heap.size ≠ _ by omega) (.int .i64 i2)) (show V0.heap.size ≠ _ by omega) (.int .i64 l2)) (show V0.heap.size ≠ _ by omega) (.int .i64 t2))
      have F1 := (blk_set_ne (i := 4) (blk_set_ne (i := 3) (blk_set_ne (i := 2) (blk_set_ne (i := 1) (blk_set_ne (i := 0) F1 (show V0.heap.size ≠ _ by omega) (.int .i64 s2)) (show V0.heap.size ≠ _ by omega) (.int .i64 o2)) (show V0.heap.size ≠ _ by omega) (.int .i64 i2)) (show V0.heap.size ≠ _ by omega) (.int .i64 l2)) (show V0.heap.size ≠ _ by omega) (.int .i64 t2))
      have F2 := (blk_set_ne (i := 4) (blk_set_ne (i := 3) (blk_set_ne (i := 2) (blk_set_ne (i := 1) (blk_set_ne (i := 0) F2 (show V0.heap.size ≠ _ by omega) (.int .i64 s2)) (show V0.heap.size ≠ _ by omega) (.int .i64 o2)) (show V0.heap.size ≠ _ by omega) (.int .i64 i2)) (show V0.heap.size ≠ _ by omega) (.int .i64 l2)) (show V0.heap.size ≠ _ by omega) (.int .i64 t2))
      have N0 := (blk_set_ne (i := 4) (blk_set_ne (i := 3) (blk_set_ne (i := 2) (blk_set_ne (i := 1) (blk_set_ne (i := 0) N0 (show V0.heap.size ≠ V5.heap.size by first | exact dd | exact (Ne.symm dd)) (.int .i64 s2)) (show V0.heap.size ≠ V5.heap.size by first | exact dd | exact (Ne.symm dd)) (.int .i64 o2)) (show V0.heap.size ≠ V5.heap.size by first | exact dd | exact (Ne.symm dd)) (.int .i64 i2)) (show V0.heap.size ≠ V5.heap.size by first | exact dd | exact (Ne.symm dd)) (.int .i64 l2)) (show V0.heap.size ≠ V5.heap.size by first | exact dd | exact (Ne.symm dd)) (.int .i64 t2))
      have BX := upd_below (g := V0.heap.size) (.int .i64 s2) (.int .i64 o2) (.int .i64 i2) (.int .i64 l2) (.int .i64 t2) BX (by omega)
      have N1 := upd_set (.int .i64 s2) (.int .i64 o2) (.int .i64 i2) (.int .i64 l2) (.int .i64 t2) N1
      have sz : w.heap.size + 3 ≤ (((((V7.setCell ⟨V0.heap.size, 0, none⟩ (.int .i64 s2)).setCell ⟨V0.heap.size, 1, none⟩ (.int .i64 o2)).setCell ⟨V0.heap.size, 2, none⟩ (.int .i64 i2)).setCell ⟨V0.heap.size, 3, none⟩ (.int .i64 l2)).setCell ⟨V0.heap.size, 4, none⟩ (.int .i64 t2)).heap.size := by simpa using sz
      have TT := ten_of F1
      go_simp
      clear c0 c1 c2 c3 c4 z0 z1 z2 z3 z4
      generalize (((((V7.setCell ⟨V0.heap.size, 0, none⟩ (.int .i64 s2)).setCell ⟨V0.heap.size, 1, none⟩ (.int .i64 o2)).setCell ⟨V0.heap.size, 2, none⟩ (.int .i64 i2)).setCell ⟨V0.heap.size, 3, none⟩ (.int .i64 l2)).setCell ⟨V0.heap.size, 4, none⟩ (.int .i64 t2)) = V8 at *
      refine hK.out _ _ TT (fun hHeld => ?_)
      clear hK K
      try simp only [List.getElem_toArray, List.getElem_cons_zero, List.getElem_cons_succ, Act.put, List.setIfInBounds_toArray, List.set_cons_zero, List.set_cons_succ]
      refine wpAnyH_done (by kernel_rfl) ?_ _
      go_wp2_with fail
      go_meet
      exact ⟨_, _, rfl, rfl, N0, N1, F0, F2, by first | exact dd | exact (Ne.symm dd), BX, sz⟩
  case rest =>
    obtain ⟨p, q, rfl, rfl, FP, FQ, F0, F2, hpq, BX, sz⟩ := hcut
    clear F1
    generalize wc = Y at *
    obtain ⟨u0, u1, u2, u3⟩ := quad_of F0; obtain ⟨k0, k1, k2, k3, k4⟩ := five_of FP; obtain ⟨j0, j1, j2, j3, j4⟩ := five_of FQ; obtain ⟨h0, h1, h2, h3⟩ := quad_of F2
    go_wp2_with (first
      | (go_at_call 35; refine (HD.out _).mono ?_; clear HD; rintro e w2 ⟨rfl, b9⟩; clear u0 u1 u2 u3 k0 k1 k2 k3 k4 j0 j1 j2 j3 j4 h0 h1 h2 h3; have F0 := F0.below b9 F0.lt; have FP := FP.below b9 FP.lt; have FQ := FQ.below b9 FQ.lt; have F2 := F2.below b9 F2.lt; have BX := thenB BX b9; have sz : w.heap.size + 3 ≤ w2.heap.size := Nat.le_trans sz b9.size; clear b9; obtain ⟨u0, u1, u2, u3⟩ := quad_of F0; obtain ⟨k0, k1, k2, k3, k4⟩ := five_of FP; obtain ⟨j0, j1, j2, j3, j4⟩ := five_of FQ; obtain ⟨h0, h1, h2, h3⟩ := quad_of F2)
      | (go_at_call 31; refine (HR.out _).mono ?_; clear HR; rintro e w3 ⟨rfl, b9⟩; clear u0 u1 u2 u3 k0 k1 k2 k3 k4 j0 j1 j2 j3 j4 h0 h1 h2 h3; have F0 := F0.below b9 F0.lt; have FP := FP.below b9 FP.lt; have FQ := FQ.below b9 FQ.lt; have F2 := F2.below b9 F2.lt; have BX := thenB BX b9; have sz : w.heap.size + 3 ≤ w3.heap.size := Nat.le_trans sz b9.size; clear b9; obtain ⟨u0, u1, u2, u3⟩ := quad_of F0; obtain ⟨k0, k1, k2, k3, k4⟩ := five_of FP; obtain ⟨j0, j1, j2, j3, j4⟩ := five_of FQ; obtain ⟨h0, h1, h2, h3⟩ := quad_of F2))
    go_ret
    exact ⟨rfl, BX⟩
set_option maxRecDepth 100000 in
set_option maxHeartbeats 10000000 in
theorem moved_no1 (pa sa pb sb s o i l t s2 o2 i2 l2 t2 T n y x D ZZ EU : Int) (w : World) (HD : Hid (∀ w, Calls Try.prog 35 #[.int .i64 n, upd s o i l t, upd s2 o2 i2 l2 t2] w fun e w' => e = .returned (.tuple #[.int .i64 D, .int .i64 ZZ]) ∧ Below w.heap.size w w')) (HR : Hid (∀ w, Calls Try.prog 31 #[.agg #[.int .i64 pa, .int .i64 sa], .agg #[.int .i64 pb, .int .i64 sb], upd s o i l t, .agg #[.int .i64 T, .int .i64 n, .int .i64 y, .int .i64 x]] w fun e w' => e = .returned (.bool true) ∧ Below w.heap.size w w')) (HU : Hid (∀ w, Calls Try.prog 13 #[upd s2 o2 i2 l2 t2] w fun e w' => e = .returned (.int .i64 EU) ∧ Below w.heap.size w w')) (eu : (EU != 0) = true) :
    Calls Try.prog 10 #[.agg #[.int .i64 pa, .int .i64 sa, .int .i64 pb, .int .i64 sb], .agg #[.int .i64 s, .int .i64 o, .int .i64 i, .int .i64 l, .int .i64 t, .int .i64 s2, .int .i64 o2, .int .i64 i2, .int .i64 l2, .int .i64 t2], .agg #[.int .i64 T, .int .i64 n, .int .i64 y, .int .i64 x]] w fun e w' => e = .returned (.bool true) ∧ Below w.heap.size w w' := by
  have F0 : Mem.Blk (((w.alloc (.cells #[.int .i64 pa, .int .i64 sa, .int .i64 pb, .int .i64 sb] 56)).alloc (.cells #[.int .i64 s, .int .i64 o, .int .i64 i, .int .i64 l, .int .i64 t, .int .i64 s2, .int .i64 o2, .int .i64 i2, .int .i64 l2, .int .i64 t2] 63)).alloc (.cells #[.int .i64 T, .int .i64 n, .int .i64 y, .int .i64 x] 58)) w.heap.size 56 #[.int .i64 pa, .int .i64 sa, .int .i64 pb, .int .i64 sb] := (((Blk.fresh w 56 #[.int .i64 pa, .int .i64 sa, .int .i64 pb, .int .i64 sb]).alloc (.cells #[.int .i64 s, .int .i64 o, .int .i64 i, .int .i64 l, .int .i64 t, .int .i64 s2, .int .i64 o2, .int .i64 i2, .int .i64 l2, .int .i64 t2] 63)).alloc (.cells #[.int .i64 T, .int .i64 n, .int .i64 y, .int .i64 x] 58))
  have F1 : Mem.Blk (((w.alloc (.cells #[.int .i64 pa, .int .i64 sa, .int .i64 pb, .int .i64 sb] 56)).alloc (.cells #[.int .i64 s, .int .i64 o, .int .i64 i, .int .i64 l, .int .i64 t, .int .i64 s2, .int .i64 o2, .int .i64 i2, .int .i64 l2, .int .i64 t2] 63)).alloc (.cells #[.int .i64 T, .int .i64 n, .int .i64 y, .int .i64 x] 58)) (w.heap.size + 1) 63 #[.int .i64 s, .int .i64 o, .int .i64 i, .int .i64 l, .int .i64 t, .int .i64 s2, .int .i64 o2, .int .i64 i2, .int .i64 l2, .int .i64 t2] := by
    have := ((Blk.fresh (w.alloc (.cells #[.int .i64 pa, .int .i64 sa, .int .i64 pb, .int .i64 sb] 56)) 63 #[.int .i64 s, .int .i64 o, .int .i64 i, .int .i64 l, .int .i64 t, .int .i64 s2, .int .i64 o2, .int .i64 i2, .int .i64 l2, .int .i64 t2]).alloc (.cells #[.int .i64 T, .int .i64 n, .int .i64 y, .int .i64 x] 58))
    rwa [World.size_alloc] at this
  have F2 : Mem.Blk (((w.alloc (.cells #[.int .i64 pa, .int .i64 sa, .int .i64 pb, .int .i64 sb] 56)).alloc (.cells #[.int .i64 s, .int .i64 o, .int .i64 i, .int .i64 l, .int .i64 t, .int .i64 s2, .int .i64 o2, .int .i64 i2, .int .i64 l2, .int .i64 t2] 63)).alloc (.cells #[.int .i64 T, .int .i64 n, .int .i64 y, .int .i64 x] 58)) (w.heap.size + 2) 58 #[.int .i64 T, .int .i64 n, .int .i64 y, .int .i64 x] := by
    have := (Blk.fresh ((w.alloc (.cells #[.int .i64 pa, .int .i64 sa, .int .i64 pb, .int .i64 sb] 56)).alloc (.cells #[.int .i64 s, .int .i64 o, .int .i64 i, .int .i64 l, .int .i64 t, .int .i64 s2, .int .i64 o2, .int .i64 i2, .int .i64 l2, .int .i64 t2] 63)) 58 #[.int .i64 T, .int .i64 n, .int .i64 y, .int .i64 x])
    rwa [World.size_alloc, World.size_alloc] at this
  have hbel : Below w.heap.size w (((w.alloc (.cells #[.int .i64 pa, .int .i64 sa, .int .i64 pb, .int .i64 sb] 56)).alloc (.cells #[.int .i64 s, .int .i64 o, .int .i64 i, .int .i64 l, .int .i64 t, .int .i64 s2, .int .i64 o2, .int .i64 i2, .int .i64 l2, .int .i64 t2] 63)).alloc (.cells #[.int .i64 T, .int .i64 n, .int .i64 y, .int .i64 x] 58)) := ((((Below.refl _ w).alloc (Nat.le_refl _) _).alloc (by simp) _).alloc (by simp; omega) _)
  have sz : w.heap.size + 3 ≤ (((w.alloc (.cells #[.int .i64 pa, .int .i64 sa, .int .i64 pb, .int .i64 sb] 56)).alloc (.cells #[.int .i64 s, .int .i64 o, .int .i64 i, .int .i64 l, .int .i64 t, .int .i64 s2, .int .i64 o2, .int .i64 i2, .int .i64 l2, .int .i64 t2] 63)).alloc (.cells #[.int .i64 T, .int .i64 n, .int .i64 y, .int .i64 x] 58)).heap.size := by simp
  have BX := hbel
  clear hbel
  have HL := Lib.hid lives_any
  go_enter Try.func10, Try.ntmps10
  go_wp2_with fail
  generalize (((w.alloc (.cells #[.int .i64 pa, .int .i64 sa, .int .i64 pb, .int .i64 sb] 56)).alloc (.cells #[.int .i64 s, .int .i64 o, .int .i64 i, .int .i64 l, .int .i64 t, .int .i64 s2, .int .i64 o2, .int .i64 i2, .int .i64 l2, .int .i64 t2] 63)).alloc (.cells #[.int .i64 T, .int .i64 n, .int .i64 y, .int .i64 x] 58)) = W at *
  go_wp2_with (go_at_call 11; refine (HL.out _).mono ?_; clear HL; rintro e w1 ⟨rfl, b9⟩; have F0 := F0.below b9 F0.lt; have F1 := F1.below b9 F1.lt; have F2 := F2.below b9 F2.lt; have BX := thenB BX b9; have sz : w.heap.size + 3 ≤ w1.heap.size := Nat.le_trans sz b9.size; clear b9)
  go_cut [7, 8] from 16 to 19 (fun s7 s8 wx => ∃ p q, s7 = .pointer (some ⟨p, 0, none⟩) ∧ s8 = .pointer (some ⟨q, 0, none⟩) ∧ Blk wx p 23 #[.int .i64 s, .int .i64 o, .int .i64 i, .int .i64 l, .int .i64 t] ∧ Blk wx q 23 #[.int .i64 s2, .int .i64 o2, .int .i64 i2, .int .i64 l2, .int .i64 t2] ∧ Blk wx w.heap.size 56 #[.int .i64 pa, .int .i64 sa, .int .i64 pb, .int .i64 sb] ∧ Blk wx (w.heap.size + 2) 58 #[.int .i64 T, .int .i64 n, .int .i64 y, .int .i64 x] ∧ p ≠ q ∧ Below w.heap.size w wx ∧ w.heap.size + 3 ≤ wx.heap.size)
  case first =>
    go_wp2_with fail
    refine wp_region_held_drew (S := (fun w' => Ten w' (w.heap.size + 1) s o i l t s2 o2 i2 l2 t2)) (by kernel_rfl) ?_ (fun hHeld => ?_)
    · exact ten_of F1
    have TT : Ten w1.drew (w.heap.size + 1) s o i l t s2 o2 i2 l2 t2 := ten_of F1.drew
    have F0 := F0.drew
    have F1 := F1.drew
    have F2 := F2.drew
    have BX := BX.drew
    have sz : w.heap.size + 3 ≤ w1.drew.heap.size := sz
    generalize w1.drew = V0 at *
    refine wpAnyH_take (i := 0) (v := .pointer (some ⟨w.heap.size + 1, 0, none⟩)) rfl (by kernel_rfl) (by kernel_rfl) (by kernel_rfl) (fun _ _ _ h => h) (Or.inl ⟨by first | rfl | go_simp, by intro w9 hSw; (try dsimp only at hSw); go_simp⟩) (by assumption) ?_
    simp only [List.getElem_toArray, List.getElem_cons_zero, List.getElem_cons_succ, Act.put, List.setIfInBounds_toArray, List.set_cons_zero, List.set_cons_succ]
    refine wpAnyH_take (i := 1) (v := .agg #[.int .i64 s, .int .i64 o, .int .i64 i, .int .i64 l, .int .i64 t]) rfl (by kernel_rfl) (by kernel_rfl) (by kernel_rfl) (fun _ _ _ h => h) (Or.inl ⟨by first | rfl | go_simp, by intro w9 hSw; (try dsimp only at hSw); go_simp⟩) (by assumption) ?_
    simp only [List.getElem_toArray, List.getElem_cons_zero, List.getElem_cons_succ, Act.put, List.setIfInBounds_toArray, List.set_cons_zero, List.set_cons_succ]
    refine wpAnyH_take (i := 2) (v := .pointer (some ⟨w.heap.size + 1, 5, none⟩)) rfl (by kernel_rfl) (by kernel_rfl) (by kernel_rfl) (fun _ _ _ h => h) (Or.inl ⟨by first | rfl | go_simp, by intro w9 hSw; (try dsimp only at hSw); go_simp⟩) (by assumption) ?_
    simp only [List.getElem_toArray, List.getElem_cons_zero, List.getElem_cons_succ, Act.put, List.setIfInBounds_toArray, List.set_cons_zero, List.set_cons_succ]
    refine wpAnyH_take (i := 3) (v := .agg #[.int .i64 s2, .int .i64 o2, .int .i64 i2, .int .i64 l2, .int .i64 t2]) rfl (by kernel_rfl) (by kernel_rfl) (by kernel_rfl) (fun _ _ _ h => h) (Or.inl ⟨by first | rfl | go_simp, by intro w9 hSw; (try dsimp only at hSw); go_simp⟩) (by assumption) ?_
    simp only [List.getElem_toArray, List.getElem_cons_zero, List.getElem_cons_succ, Act.put, List.setIfInBounds_toArray, List.set_cons_zero, List.set_cons_succ]
    refine wpAnyH_ready (rs := [4, 5]) (by kernel_rfl) (by simp) ?_
    refine AllReadyH.cons rfl (fun K hK => ?_) (AllReadyH.cons rfl (fun K hK => ?_) (AllReadyH.nil))
    · skip
      go_simp
      have b9 := (Below.refl V0.heap.size V0).alloc (Nat.le_refl _) (.cells #[.int .i64 0, .int .i64 0, .int .i64 0, .int .i64 0, .int .i64 0] 23)
      have N0 := Blk.fresh V0 23 #[.int .i64 0, .int .i64 0, .int .i64 0, .int .i64 0, .int .i64 0]
      have n0 : w.heap.size + 3 ≤ V0.heap.size := sz
      generalize V0.alloc (.cells #[.int .i64 0, .int .i64 0, .int .i64 0, .int .i64 0, .int .i64 0] 23) = V1 at *
      have F0 := F0.below b9 F0.lt
      have F1 := F1.below b9 F1.lt
      have F2 := F2.below b9 F2.lt
      have TT := ten_of F1
      have BX := thenB BX b9
      have sz := Nat.le_trans sz b9.size
      refine hK.out _ _ TT (fun hHeld => ?_)
      clear hK K
      try simp only [List.getElem_toArray, List.getElem_cons_zero, List.getElem_cons_succ, Act.put, List.setIfInBounds_toArray, List.set_cons_zero, List.set_cons_succ]
      refine wpAnyH_ready (rs := [5]) (by kernel_rfl) (by simp) ?_
      refine AllReadyH.cons rfl (fun K hK => ?_) (AllReadyH.nil)
      go_simp
      have b9 := (Below.refl V1.heap.size V1).alloc (Nat.le_refl _) (.cells #[.int .i64 0, .int .i64 0, .int .i64 0, .int .i64 0, .int .i64 0] 23)
      have N1 := Blk.fresh V1 23 #[.int .i64 0, .int .i64 0, .int .i64 0, .int .i64 0, .int .i64 0]
      have n1 : w.heap.size + 3 ≤ V1.heap.size := sz
      have dd : V1.heap.size ≠ V0.heap.size := Nat.ne_of_gt N0.lt
      generalize V1.alloc (.cells #[.int .i64 0, .int .i64 0, .int .i64 0, .int .i64 0, .int .i64 0] 23) = V2 at *
      have F0 := F0.below b9 F0.lt
      have F1 := F1.below b9 F1.lt
      have F2 := F2.below b9 F2.lt
      have TT := ten_of F1
      have BX := thenB BX b9
      have sz := Nat.le_trans sz b9.size
      have N0 := N0.below b9 N0.lt
      refine hK.out _ _ TT (fun hHeld => ?_)
      clear hK K
      try simp only [List.getElem_toArray, List.getElem_cons_zero, List.getElem_cons_succ, Act.put, List.setIfInBounds_toArray, List.set_cons_zero, List.set_cons_succ]
      refine wpAnyH_ready (rs := [6]) (by kernel_rfl) (by simp) ?_
      refine AllReadyH.cons rfl (fun K hK => ?_) (AllReadyH.nil)
      obtain ⟨c0, c1, c2, c3, c4⟩ := five_of N0
      have z0 := frz N0 0
      have z1 := frz N0 1
      have z2 := frz N0 2
      have z3 := frz N0 3
      have z4 := frz N0 4
      have F0 := (blk_set_ne (i := 4) (blk_set_ne (i := 3) (blk_set_ne (i := 2) (blk_set_ne (i := 1) (blk_set_ne (i := 0) F0 (show V0.heap.size ≠ _ by omega) (.int .i64 s)) (show V0.heap.size ≠ _ by omega) (.int .i64 o)) (show V0.heap.size ≠ _ by omega) (.int .i64 i)) (show V0.heap.size ≠ _ by omega) (.int .i64 l)) (show V0.heap.size ≠ _ by omega) (.int .i64 t))
      have F1 := (blk_set_ne (i := 4) (blk_set_ne (i := 3) (blk_set_ne (i := 2) (blk_set_ne (i := 1) (blk_set_ne (i := 0) F1 (show V0.heap.size ≠ _ by omega) (.int .i64 s)) (show V0.heap.size ≠ _ by omega) (.int .i64 o)) (show V0.heap.size ≠ _ by omega) (.int .i64 i)) (show V0.heap.size ≠ _ by omega) (.int .i64 l)) (show V0.heap.size ≠ _ by omega) (.int .i64 t))
      have F2 := (blk_set_ne (i := 4) (blk_set_ne (i := 3) (blk_set_ne (i := 2) (blk_set_ne (i := 1) (blk_set_ne (i := 0) F2 (show V0.heap.size ≠ _ by omega) (.int .i64 s)) (show V0.heap.size ≠ _ by omega) (.int .i64 o)) (show V0.heap.size ≠ _ by omega) (.int .i64 i)) (show V0.heap.size ≠ _ by omega) (.int .i64 l)) (show V0.heap.size ≠ _ by omega) (.int .i64 t))
      have N1 := (blk_set_ne (i := 4) (blk_set_ne (i := 3) (blk_set_ne (i := 2) (blk_set_ne (i := 1) (blk_set_ne (i := 0) N1 (show V0.heap.size ≠ V1.heap.size by first | exact dd | exact (Ne.symm dd)) (.int .i64 s)) (show V0.heap.size ≠ V1.heap.size by first | exact dd | exact (Ne.symm dd)) (.int .i64 o)) (show V0.heap.size ≠ V1.heap.size by first | exact dd | exact (Ne.symm dd)) (.int .i64 i)) (show V0.heap.size ≠ V1.heap.size by first | exact dd | exact (Ne.symm dd)) (.int .i64 l)) (show V0.heap.size ≠ V1.heap.size by first | exact dd | exact (Ne.symm dd)) (.int .i64 t))
      have BX := upd_below (g := V0.heap.size) (.int .i64 s) (.int .i64 o) (.int .i64 i) (.int .i64 l) (.int .i64 t) BX (by omega)
      have N0 := upd_set (.int .i64 s) (.int .i64 o) (.int .i64 i) (.int .i64 l) (.int .i64 t) N0
      have sz : w.heap.size + 3 ≤ (((((V2.setCell ⟨V0.heap.size, 0, none⟩ (.int .i64 s)).setCell ⟨V0.heap.size, 1, none⟩ (.int .i64 o)).setCell ⟨V0.heap.size, 2, none⟩ (.int .i64 i)).setCell ⟨V0.heap.size, 3, none⟩ (.int .i64 l)).setCell ⟨V0.heap.size, 4, none⟩ (.int .i64 t)).heap.size := by simpa using sz
      have TT := ten_of F1
      go_simp
      clear c0 c1 c2 c3 c4 z0 z1 z2 z3 z4
      generalize (((((V2.setCell ⟨V0.heap.size, 0, none⟩ (.int .i64 s)).setCell ⟨V0.heap.size, 1, none⟩ (.int .i64 o)).setCell ⟨V0.heap.size, 2, none⟩ (.int .i64 i)).setCell ⟨V0.heap.size, 3, none⟩ (.int .i64 l)).setCell ⟨V0.heap.size, 4, none⟩ (.int .i64 t)) = V3 at *
      refine hK.out _ _ TT (fun hHeld => ?_)
      clear hK K
      try simp only [List.getElem_toArray, List.getElem_cons_zero, List.getElem_cons_succ, Act.put, List.setIfInBounds_toArray, List.set_cons_zero, List.set_cons_succ]
      refine wpAnyH_ready (rs := [7]) (by kernel_rfl) (by simp) ?_
      refine AllReadyH.cons rfl (fun K hK => ?_) (AllReadyH.nil)
      obtain ⟨c0, c1, c2, c3, c4⟩ := five_of N1
      have z0 := frz N1 0
      have z1 := frz N1 1
      have z2 := frz N1 2
      have z3 := frz N1 3
      have z4 := frz N1 4
      have F0 := (blk_set_ne (i := 4) (blk_set_ne (i := 3) (blk_set_ne (i := 2) (blk_set_ne (i := 1) (blk_set_ne (i := 0) F0 (show V1.heap.size ≠ _ by omega) (.int .i64 s2)) (show V1.heap.size ≠ _ by omega) (.int .i64 o2)) (show V1.heap.size ≠ _ by omega) (.int .i64 i2)) (show V1.heap.size ≠ _ by omega) (.int .i64 l2)) (show V1.heap.size ≠ _ by omega) (.int .i64 t2))
      have F1 := (blk_set_ne (i := 4) (blk_set_ne (i := 3) (blk_set_ne (i := 2) (blk_set_ne (i := 1) (blk_set_ne (i := 0) F1 (show V1.heap.size ≠ _ by omega) (.int .i64 s2)) (show V1.heap.size ≠ _ by omega) (.int .i64 o2)) (show V1.heap.size ≠ _ by omega) (.int .i64 i2)) (show V1.heap.size ≠ _ by omega) (.int .i64 l2)) (show V1.heap.size ≠ _ by omega) (.int .i64 t2))
      have F2 := (blk_set_ne (i := 4) (blk_set_ne (i := 3) (blk_set_ne (i := 2) (blk_set_ne (i := 1) (blk_set_ne (i := 0) F2 (show V1.heap.size ≠ _ by omega) (.int .i64 s2)) (show V1.heap.size ≠ _ by omega) (.int .i64 o2)) (show V1.heap.size ≠ _ by omega) (.int .i64 i2)) (show V1.heap.size ≠ _ by omega) (.int .i64 l2)) (show V1.heap.size ≠ _ by omega) (.int .i64 t2))
      have N0 := (blk_set_ne (i := 4) (blk_set_ne (i := 3) (blk_set_ne (i := 2) (blk_set_ne (i := 1) (blk_set_ne (i := 0) N0 (show V1.heap.size ≠ V0.heap.size by first | exact dd | exact (Ne.symm dd)) (.int .i64 s2)) (show V1.heap.size ≠ V0.heap.size by first | exact dd | exact (Ne.symm dd)) (.int .i64 o2)) (show V1.heap.size ≠ V0.heap.size by first | exact dd | exact (Ne.symm dd)) (.int .i64 i2)) (show V1.heap.size ≠ V0.heap.size by first | exact dd | exact (Ne.symm dd)) (.int .i64 l2)) (show V1.heap.size ≠ V0.heap.size by first | exact dd | exact (Ne.symm dd)) (.int .i64 t2))
      have BX := upd_below (g := V1.heap.size) (.int .i64 s2) (.int .i64 o2) (.int .i64 i2) (.int .i64 l2) (.int .i64 t2) BX (by omega)
      have N1 := upd_set (.int .i64 s2) (.int .i64 o2) (.int .i64 i2) (.int .i64 l2) (.int .i64 t2) N1
      have sz : w.heap.size + 3 ≤ (((((V3.setCell ⟨V1.heap.size, 0, none⟩ (.int .i64 s2)).setCell ⟨V1.heap.size, 1, none⟩ (.int .i64 o2)).setCell ⟨V1.heap.size, 2, none⟩ (.int .i64 i2)).setCell ⟨V1.heap.size, 3, none⟩ (.int .i64 l2)).setCell ⟨V1.heap.size, 4, none⟩ (.int .i64 t2)).heap.size := by simpa using sz
      have TT := ten_of F1
      go_simp
      clear c0 c1 c2 c3 c4 z0 z1 z2 z3 z4
      generalize (((((V3.setCell ⟨V1.heap.size, 0, none⟩ (.int .i64 s2)).setCell ⟨V1.heap.size, 1, none⟩ (.int .i64 o2)).setCell ⟨V1.heap.size, 2, none⟩ (.int .i64 i2)).setCell ⟨V1.heap.size, 3, none⟩ (.int .i64 l2)).setCell ⟨V1.heap.size, 4, none⟩ (.int .i64 t2)) = V4 at *
      refine hK.out _ _ TT (fun hHeld => ?_)
      clear hK K
      try simp only [List.getElem_toArray, List.getElem_cons_zero, List.getElem_cons_succ, Act.put, List.setIfInBounds_toArray, List.set_cons_zero, List.set_cons_succ]
      refine wpAnyH_done (by kernel_rfl) ?_ _
      go_wp2_with fail
      go_meet
      exact ⟨_, _, rfl, rfl, N0, N1, F0, F2, by first | exact dd | exact (Ne.symm dd), BX, sz⟩
    · skip
      go_simp
      have b9 := (Below.refl V0.heap.size V0).alloc (Nat.le_refl _) (.cells #[.int .i64 0, .int .i64 0, .int .i64 0, .int .i64 0, .int .i64 0] 23)
      have N1 := Blk.fresh V0 23 #[.int .i64 0, .int .i64 0, .int .i64 0, .int .i64 0, .int .i64 0]
      have n1 : w.heap.size + 3 ≤ V0.heap.size := sz
      generalize V0.alloc (.cells #[.int .i64 0, .int .i64 0, .int .i64 0, .int .i64 0, .int .i64 0] 23) = V5 at *
      have F0 := F0.below b9 F0.lt
      have F1 := F1.below b9 F1.lt
      have F2 := F2.below b9 F2.lt
      have TT := ten_of F1
      have BX := thenB BX b9
      have sz := Nat.le_trans sz b9.size
      refine hK.out _ _ TT (fun hHeld => ?_)
      clear hK K
      try simp only [List.getElem_toArray, List.getElem_cons_zero, List.getElem_cons_succ, Act.put, List.setIfInBounds_toArray, List.set_cons_zero, List.set_cons_succ]
      refine wpAnyH_ready (rs := [4]) (by kernel_rfl) (by simp) ?_
      refine AllReadyH.cons rfl (fun K hK => ?_) (AllReadyH.nil)
      go_simp
      have b9 := (Below.refl V5.heap.size V5).alloc (Nat.le_refl _) (.cells #[.int .i64 0, .int .i64 0, .int .i64 0, .int .i64 0, .int .i64 0] 23)
      have N0 := Blk.fresh V5 23 #[.int .i64 0, .int .i64 0, .int .i64 0, .int .i64 0, .int .i64 0]
      have n0 : w.heap.size + 3 ≤ V5.heap.size := sz
      have dd : V5.heap.size ≠ V0.heap.size := Nat.ne_of_gt N1.lt
      generalize V5.alloc (.cells #[.int .i64 0, .int .i64 0, .int .i64 0, .int .i64 0, .int .i64 0] 23) = V6 at *
      have F0 := F0.below b9 F0.lt
      have F1 := F1.below b9 F1.lt
      have F2 := F2.below b9 F2.lt
      have TT := ten_of F1
      have BX := thenB BX b9
      have sz := Nat.le_trans sz b9.size
      have N1 := N1.below b9 N1.lt
      refine hK.out _ _ TT (fun hHeld => ?_)
      clear hK K
      try simp only [List.getElem_toArray, List.getElem_cons_zero, List.getElem_cons_succ, Act.put, List.setIfInBounds_toArray, List.set_cons_zero, List.set_cons_succ]
      refine wpAnyH_ready (rs := [6]) (by kernel_rfl) (by simp) ?_
      refine AllReadyH.cons rfl (fun K hK => ?_) (AllReadyH.nil)
      obtain ⟨c0, c1, c2, c3, c4⟩ := five_of N0
      have z0 := frz N0 0
      have z1 := frz N0 1
      have z2 := frz N0 2
      have z3 := frz N0 3
      have z4 := frz N0 4
      have F0 := (blk_set_ne (i := 4) (blk_set_ne (i := 3) (blk_set_ne (i := 2) (blk_set_ne (i := 1) (blk_set_ne (i := 0) F0 (show V5.heap.size ≠ _ by omega) (.int .i64 s)) (show V5.heap.size ≠ _ by omega) (.int .i64 o)) (show V5.heap.size ≠ _ by omega) (.int .i64 i)) (show V5.heap.size ≠ _ by omega) (.int .i64 l)) (show V5.heap.size ≠ _ by omega) (.int .i64 t))
      have F1 := (blk_set_ne (i := 4) (blk_set_ne (i := 3) (blk_set_ne (i := 2) (blk_set_ne (i := 1) (blk_set_ne (i := 0) F1 (show V5.heap.size ≠ _ by omega) (.int .i64 s)) (show V5.heap.size ≠ _ by omega) (.int .i64 o)) (show V5.heap.size ≠ _ by omega) (.int .i64 i)) (show V5.heap.size ≠ _ by omega) (.int .i64 l)) (show V5.heap.size ≠ _ by omega) (.int .i64 t))
      have F2 := (blk_set_ne (i := 4) (blk_set_ne (i := 3) (blk_set_ne (i := 2) (blk_set_ne (i := 1) (blk_set_ne (i := 0) F2 (show V5.heap.size ≠ _ by omega) (.int .i64 s)) (show V5.heap.size ≠ _ by omega) (.int .i64 o)) (show V5.heap.size ≠ _ by omega) (.int .i64 i)) (show V5.heap.size ≠ _ by omega) (.int .i64 l)) (show V5.heap.size ≠ _ by omega) (.int .i64 t))
      have N1 := (blk_set_ne (i := 4) (blk_set_ne (i := 3) (blk_set_ne (i := 2) (blk_set_ne (i := 1) (blk_set_ne (i := 0) N1 (show V5.heap.size ≠ V0.heap.size by first | exact dd | exact (Ne.symm dd)) (.int .i64 s)) (show V5.heap.size ≠ V0.heap.size by first | exact dd | exact (Ne.symm dd)) (.int .i64 o)) (show V5.heap.size ≠ V0.heap.size by first | exact dd | exact (Ne.symm dd)) (.int .i64 i)) (show V5.heap.size ≠ V0.heap.size by first | exact dd | exact (Ne.symm dd)) (.int .i64 l)) (show V5.heap.size ≠ V0.heap.size by first | exact dd | exact (Ne.symm dd)) (.int .i64 t))
      have BX := upd_below (g := V5.heap.size) (.int .i64 s) (.int .i64 o) (.int .i64 i) (.int .i64 l) (.int .i64 t) BX (by omega)
      have N0 := upd_set (.int .i64 s) (.int .i64 o) (.int .i64 i) (.int .i64 l) (.int .i64 t) N0
      have sz : w.heap.size + 3 ≤ (((((V6.setCell ⟨V5.heap.size, 0, none⟩ (.int .i64 s)).setCell ⟨V5.heap.size, 1, none⟩ (.int .i64 o)).setCell ⟨V5.heap.size, 2, none⟩ (.int .i64 i)).setCell ⟨V5.heap.size, 3, none⟩ (.int .i64 l)).setCell ⟨V5.heap.size, 4, none⟩ (.int .i64 t)).heap.size := by simpa using sz
      have TT := ten_of F1
      go_simp
      clear c0 c1 c2 c3 c4 z0 z1 z2 z3 z4
      generalize (((((V6.setCell ⟨V5.heap.size, 0, none⟩ (.int .i64 s)).setCell ⟨V5.heap.size, 1, none⟩ (.int .i64 o)).setCell ⟨V5.heap.size, 2, none⟩ (.int .i64 i)).setCell ⟨V5.heap.size, 3, none⟩ (.int .i64 l)).setCell ⟨V5.heap.size, 4, none⟩ (.int .i64 t)) = V7 at *
      refine hK.out _ _ TT (fun hHeld => ?_)
      clear hK K
      try simp only [List.getElem_toArray, List.getElem_cons_zero, List.getElem_cons_succ, Act.put, List.setIfInBounds_toArray, List.set_cons_zero, List.set_cons_succ]
      refine wpAnyH_ready (rs := [7]) (by kernel_rfl) (by simp) ?_
      refine AllReadyH.cons rfl (fun K hK => ?_) (AllReadyH.nil)
      obtain ⟨c0, c1, c2, c3, c4⟩ := five_of N1
      have z0 := frz N1 0
      have z1 := frz N1 1
      have z2 := frz N1 2
      have z3 := frz N1 3
      have z4 := frz N1 4
      have F0 := (blk_set_ne (i := 4) (blk_set_ne (i := 3) (blk_set_ne (i := 2) (blk_set_ne (i := 1) (blk_set_ne (i := 0) F0 (show V0.heap.size ≠ _ by omega) (.int .i64 s2)) (show V0.heap.size ≠ _ by omega) (.int .i64 o2)) (show V0.heap.size ≠ _ by omega) (.int .i64 i2)) (show V0.heap.size ≠ _ by omega) (.int .i64 l2)) (show V0.heap.size ≠ _ by omega) (.int .i64 t2))
      have F1 := (blk_set_ne (i := 4) (blk_set_ne (i := 3) (blk_set_ne (i := 2) (blk_set_ne (i := 1) (blk_set_ne (i := 0) F1 (show V0.heap.size ≠ _ by omega) (.int .i64 s2)) (show V0.heap.size ≠ _ by omega) (.int .i64 o2)) (show V0.heap.size ≠ _ by omega) (.int .i64 i2)) (show V0.heap.size ≠ _ by omega) (.int .i64 l2)) (show V0.heap.size ≠ _ by omega) (.int .i64 t2))
      have F2 := (blk_set_ne (i := 4) (blk_set_ne (i := 3) (blk_set_ne (i := 2) (blk_set_ne (i := 1) (blk_set_ne (i := 0) F2 (show V0.heap.size ≠ _ by omega) (.int .i64 s2)) (show V0.heap.size ≠ _ by omega) (.int .i64 o2)) (show V0.heap.size ≠ _ by omega) (.int .i64 i2)) (show V0.heap.size ≠ _ by omega) (.int .i64 l2)) (show V0.heap.size ≠ _ by omega) (.int .i64 t2))
      have N0 := (blk_set_ne (i := 4) (blk_set_ne (i := 3) (blk_set_ne (i := 2) (blk_set_ne (i := 1) (blk_set_ne (i := 0) N0 (show V0.heap.size ≠ V5.heap.size by first | exact dd | exact (Ne.symm dd)) (.int .i64 s2)) (show V0.heap.size ≠ V5.heap.size by first | exact dd | exact (Ne.symm dd)) (.int .i64 o2)) (show V0.heap.size ≠ V5.heap.size by first | exact dd | exact (Ne.symm dd)) (.int .i64 i2)) (show V0.heap.size ≠ V5.heap.size by first | exact dd | exact (Ne.symm dd)) (.int .i64 l2)) (show V0.heap.size ≠ V5.heap.size by first | exact dd | exact (Ne.symm dd)) (.int .i64 t2))
      have BX := upd_below (g := V0.heap.size) (.int .i64 s2) (.int .i64 o2) (.int .i64 i2) (.int .i64 l2) (.int .i64 t2) BX (by omega)
      have N1 := upd_set (.int .i64 s2) (.int .i64 o2) (.int .i64 i2) (.int .i64 l2) (.int .i64 t2) N1
      have sz : w.heap.size + 3 ≤ (((((V7.setCell ⟨V0.heap.size, 0, none⟩ (.int .i64 s2)).setCell ⟨V0.heap.size, 1, none⟩ (.int .i64 o2)).setCell ⟨V0.heap.size, 2, none⟩ (.int .i64 i2)).setCell ⟨V0.heap.size, 3, none⟩ (.int .i64 l2)).setCell ⟨V0.heap.size, 4, none⟩ (.int .i64 t2)).heap.size := by simpa using sz
      have TT := ten_of F1
      go_simp
      clear c0 c1 c2 c3 c4 z0 z1 z2 z3 z4
      generalize (((((V7.setCell ⟨V0.heap.size, 0, none⟩ (.int .i64 s2)).setCell ⟨V0.heap.size, 1, none⟩ (.int .i64 o2)).setCell ⟨V0.heap.size, 2, none⟩ (.int .i64 i2)).setCell ⟨V0.heap.size, 3, none⟩ (.int .i64 l2)).setCell ⟨V0.heap.size, 4, none⟩ (.int .i64 t2)) = V8 at *
      refine hK.out _ _ TT (fun hHeld => ?_)
      clear hK K
      try simp only [List.getElem_toArray, List.getElem_cons_zero, List.getElem_cons_succ, Act.put, List.setIfInBounds_toArray, List.set_cons_zero, List.set_cons_succ]
      refine wpAnyH_done (by kernel_rfl) ?_ _
      go_wp2_with fail
      go_meet
      exact ⟨_, _, rfl, rfl, N0, N1, F0, F2, by first | exact dd | exact (Ne.symm dd), BX, sz⟩
  case rest =>
    obtain ⟨p, q, rfl, rfl, FP, FQ, F0, F2, hpq, BX, sz⟩ := hcut
    clear F1
    generalize wc = Y at *
    obtain ⟨u0, u1, u2, u3⟩ := quad_of F0; obtain ⟨k0, k1, k2, k3, k4⟩ := five_of FP; obtain ⟨j0, j1, j2, j3, j4⟩ := five_of FQ; obtain ⟨h0, h1, h2, h3⟩ := quad_of F2
    go_wp2_with (first
      | (go_at_call 35; refine (HD.out _).mono ?_; clear HD; rintro e w2 ⟨rfl, b9⟩; clear u0 u1 u2 u3 k0 k1 k2 k3 k4 j0 j1 j2 j3 j4 h0 h1 h2 h3; have F0 := F0.below b9 F0.lt; have FP := FP.below b9 FP.lt; have FQ := FQ.below b9 FQ.lt; have F2 := F2.below b9 F2.lt; have BX := thenB BX b9; have sz : w.heap.size + 3 ≤ w2.heap.size := Nat.le_trans sz b9.size; clear b9; obtain ⟨u0, u1, u2, u3⟩ := quad_of F0; obtain ⟨k0, k1, k2, k3, k4⟩ := five_of FP; obtain ⟨j0, j1, j2, j3, j4⟩ := five_of FQ; obtain ⟨h0, h1, h2, h3⟩ := quad_of F2)
      | (go_at_call 31; refine (HR.out _).mono ?_; clear HR; rintro e w3 ⟨rfl, b9⟩; clear u0 u1 u2 u3 k0 k1 k2 k3 k4 j0 j1 j2 j3 j4 h0 h1 h2 h3; have F0 := F0.below b9 F0.lt; have FP := FP.below b9 FP.lt; have FQ := FQ.below b9 FQ.lt; have F2 := F2.below b9 F2.lt; have BX := thenB BX b9; have sz : w.heap.size + 3 ≤ w3.heap.size := Nat.le_trans sz b9.size; clear b9; obtain ⟨u0, u1, u2, u3⟩ := quad_of F0; obtain ⟨k0, k1, k2, k3, k4⟩ := five_of FP; obtain ⟨j0, j1, j2, j3, j4⟩ := five_of FQ; obtain ⟨h0, h1, h2, h3⟩ := quad_of F2)
      | (go_at_call 13; refine (HU.out _).mono ?_; clear HU; rintro e w4 ⟨rfl, b9⟩; clear u0 u1 u2 u3 k0 k1 k2 k3 k4 j0 j1 j2 j3 j4 h0 h1 h2 h3; have F0 := F0.below b9 F0.lt; have FP := FP.below b9 FP.lt; have FQ := FQ.below b9 FQ.lt; have F2 := F2.below b9 F2.lt; have BX := thenB BX b9; have sz : w.heap.size + 3 ≤ w4.heap.size := Nat.le_trans sz b9.size; clear b9; obtain ⟨u0, u1, u2, u3⟩ := quad_of F0; obtain ⟨k0, k1, k2, k3, k4⟩ := five_of FP; obtain ⟨j0, j1, j2, j3, j4⟩ := five_of FQ; obtain ⟨h0, h1, h2, h3⟩ := quad_of F2))
    go_ret
    exact ⟨rfl, BX⟩
set_option maxRecDepth 100000 in
set_option maxHeartbeats 10000000 in
theorem moved_no2 (pa sa pb sb s o i l t s2 o2 i2 l2 t2 T n y x D ZZ EU : Int) (w : World) (HD : Hid (∀ w, Calls Try.prog 35 #[.int .i64 n, upd s o i l t, upd s2 o2 i2 l2 t2] w fun e w' => e = .returned (.tuple #[.int .i64 D, .int .i64 ZZ]) ∧ Below w.heap.size w w')) (HR : Hid (∀ w, Calls Try.prog 31 #[.agg #[.int .i64 pa, .int .i64 sa], .agg #[.int .i64 pb, .int .i64 sb], upd s o i l t, .agg #[.int .i64 T, .int .i64 n, .int .i64 y, .int .i64 x]] w fun e w' => e = .returned (.bool true) ∧ Below w.heap.size w w')) (HU : Hid (∀ w, Calls Try.prog 13 #[upd s2 o2 i2 l2 t2] w fun e w' => e = .returned (.int .i64 EU) ∧ Below w.heap.size w w')) (eu : (EU != 0) = false) (ex : decide (x < 0) = true) :
    Calls Try.prog 10 #[.agg #[.int .i64 pa, .int .i64 sa, .int .i64 pb, .int .i64 sb], .agg #[.int .i64 s, .int .i64 o, .int .i64 i, .int .i64 l, .int .i64 t, .int .i64 s2, .int .i64 o2, .int .i64 i2, .int .i64 l2, .int .i64 t2], .agg #[.int .i64 T, .int .i64 n, .int .i64 y, .int .i64 x]] w fun e w' => e = .returned (.bool true) ∧ Below w.heap.size w w' := by
  have F0 : Mem.Blk (((w.alloc (.cells #[.int .i64 pa, .int .i64 sa, .int .i64 pb, .int .i64 sb] 56)).alloc (.cells #[.int .i64 s, .int .i64 o, .int .i64 i, .int .i64 l, .int .i64 t, .int .i64 s2, .int .i64 o2, .int .i64 i2, .int .i64 l2, .int .i64 t2] 63)).alloc (.cells #[.int .i64 T, .int .i64 n, .int .i64 y, .int .i64 x] 58)) w.heap.size 56 #[.int .i64 pa, .int .i64 sa, .int .i64 pb, .int .i64 sb] := (((Blk.fresh w 56 #[.int .i64 pa, .int .i64 sa, .int .i64 pb, .int .i64 sb]).alloc (.cells #[.int .i64 s, .int .i64 o, .int .i64 i, .int .i64 l, .int .i64 t, .int .i64 s2, .int .i64 o2, .int .i64 i2, .int .i64 l2, .int .i64 t2] 63)).alloc (.cells #[.int .i64 T, .int .i64 n, .int .i64 y, .int .i64 x] 58))
  have F1 : Mem.Blk (((w.alloc (.cells #[.int .i64 pa, .int .i64 sa, .int .i64 pb, .int .i64 sb] 56)).alloc (.cells #[.int .i64 s, .int .i64 o, .int .i64 i, .int .i64 l, .int .i64 t, .int .i64 s2, .int .i64 o2, .int .i64 i2, .int .i64 l2, .int .i64 t2] 63)).alloc (.cells #[.int .i64 T, .int .i64 n, .int .i64 y, .int .i64 x] 58)) (w.heap.size + 1) 63 #[.int .i64 s, .int .i64 o, .int .i64 i, .int .i64 l, .int .i64 t, .int .i64 s2, .int .i64 o2, .int .i64 i2, .int .i64 l2, .int .i64 t2] := by
    have := ((Blk.fresh (w.alloc (.cells #[.int .i64 pa, .int .i64 sa, .int .i64 pb, .int .i64 sb] 56)) 63 #[.int .i64 s, .int .i64 o, .int .i64 i, .int .i64 l, .int .i64 t, .int .i64 s2, .int .i64 o2, .int .i64 i2, .int .i64 l2, .int .i64 t2]).alloc (.cells #[.int .i64 T, .int .i64 n, .int .i64 y, .int .i64 x] 58))
    rwa [World.size_alloc] at this
  have F2 : Mem.Blk (((w.alloc (.cells #[.int .i64 pa, .int .i64 sa, .int .i64 pb, .int .i64 sb] 56)).alloc (.cells #[.int .i64 s, .int .i64 o, .int .i64 i, .int .i64 l, .int .i64 t, .int .i64 s2, .int .i64 o2, .int .i64 i2, .int .i64 l2, .int .i64 t2] 63)).alloc (.cells #[.int .i64 T, .int .i64 n, .int .i64 y, .int .i64 x] 58)) (w.heap.size + 2) 58 #[.int .i64 T, .int .i64 n, .int .i64 y, .int .i64 x] := by
    have := (Blk.fresh ((w.alloc (.cells #[.int .i64 pa, .int .i64 sa, .int .i64 pb, .int .i64 sb] 56)).alloc (.cells #[.int .i64 s, .int .i64 o, .int .i64 i, .int .i64 l, .int .i64 t, .int .i64 s2, .int .i64 o2, .int .i64 i2, .int .i64 l2, .int .i64 t2] 63)) 58 #[.int .i64 T, .int .i64 n, .int .i64 y, .int .i64 x])
    rwa [World.size_alloc, World.size_alloc] at this
  have hbel : Below w.heap.size w (((w.alloc (.cells #[.int .i64 pa, .int .i64 sa, .int .i64 pb, .int .i64 sb] 56)).alloc (.cells #[.int .i64 s, .int .i64 o, .int .i64 i, .int .i64 l, .int .i64 t, .int .i64 s2, .int .i64 o2, .int .i64 i2, .int .i64 l2, .int .i64 t2] 63)).alloc (.cells #[.int .i64 T, .int .i64 n, .int .i64 y, .int .i64 x] 58)) := ((((Below.refl _ w).alloc (Nat.le_refl _) _).alloc (by simp) _).alloc (by simp; omega) _)
  have sz : w.heap.size + 3 ≤ (((w.alloc (.cells #[.int .i64 pa, .int .i64 sa, .int .i64 pb, .int .i64 sb] 56)).alloc (.cells #[.int .i64 s, .int .i64 o, .int .i64 i, .int .i64 l, .int .i64 t, .int .i64 s2, .int .i64 o2, .int .i64 i2, .int .i64 l2, .int .i64 t2] 63)).alloc (.cells #[.int .i64 T, .int .i64 n, .int .i64 y, .int .i64 x] 58)).heap.size := by simp
  have BX := hbel
  clear hbel
  have HL := Lib.hid lives_any
  go_enter Try.func10, Try.ntmps10
  go_wp2_with fail
  generalize (((w.alloc (.cells #[.int .i64 pa, .int .i64 sa, .int .i64 pb, .int .i64 sb] 56)).alloc (.cells #[.int .i64 s, .int .i64 o, .int .i64 i, .int .i64 l, .int .i64 t, .int .i64 s2, .int .i64 o2, .int .i64 i2, .int .i64 l2, .int .i64 t2] 63)).alloc (.cells #[.int .i64 T, .int .i64 n, .int .i64 y, .int .i64 x] 58)) = W at *
  go_wp2_with (go_at_call 11; refine (HL.out _).mono ?_; clear HL; rintro e w1 ⟨rfl, b9⟩; have F0 := F0.below b9 F0.lt; have F1 := F1.below b9 F1.lt; have F2 := F2.below b9 F2.lt; have BX := thenB BX b9; have sz : w.heap.size + 3 ≤ w1.heap.size := Nat.le_trans sz b9.size; clear b9)
  go_cut [7, 8] from 16 to 19 (fun s7 s8 wx => ∃ p q, s7 = .pointer (some ⟨p, 0, none⟩) ∧ s8 = .pointer (some ⟨q, 0, none⟩) ∧ Blk wx p 23 #[.int .i64 s, .int .i64 o, .int .i64 i, .int .i64 l, .int .i64 t] ∧ Blk wx q 23 #[.int .i64 s2, .int .i64 o2, .int .i64 i2, .int .i64 l2, .int .i64 t2] ∧ Blk wx w.heap.size 56 #[.int .i64 pa, .int .i64 sa, .int .i64 pb, .int .i64 sb] ∧ Blk wx (w.heap.size + 2) 58 #[.int .i64 T, .int .i64 n, .int .i64 y, .int .i64 x] ∧ p ≠ q ∧ Below w.heap.size w wx ∧ w.heap.size + 3 ≤ wx.heap.size)
  case first =>
    go_wp2_with fail
    refine wp_region_held_drew (S := (fun w' => Ten w' (w.heap.size + 1) s o i l t s2 o2 i2 l2 t2)) (by kernel_rfl) ?_ (fun hHeld => ?_)
    · exact ten_of F1
    have TT : Ten w1.drew (w.heap.size + 1) s o i l t s2 o2 i2 l2 t2 := ten_of F1.drew
    have F0 := F0.drew
    have F1 := F1.drew
    have F2 := F2.drew
    have BX := BX.drew
    have sz : w.heap.size + 3 ≤ w1.drew.heap.size := sz
    generalize w1.drew = V0 at *
    refine wpAnyH_take (i := 0) (v := .pointer (some ⟨w.heap.size + 1, 0, none⟩)) rfl (by kernel_rfl) (by kernel_rfl) (by kernel_rfl) (fun _ _ _ h => h) (Or.inl ⟨by first | rfl | go_simp, by intro w9 hSw; (try dsimp only at hSw); go_simp⟩) (by assumption) ?_
    simp only [List.getElem_toArray, List.getElem_cons_zero, List.getElem_cons_succ, Act.put, List.setIfInBounds_toArray, List.set_cons_zero, List.set_cons_succ]
    refine wpAnyH_take (i := 1) (v := .agg #[.int .i64 s, .int .i64 o, .int .i64 i, .int .i64 l, .int .i64 t]) rfl (by kernel_rfl) (by kernel_rfl) (by kernel_rfl) (fun _ _ _ h => h) (Or.inl ⟨by first | rfl | go_simp, by intro w9 hSw; (try dsimp only at hSw); go_simp⟩) (by assumption) ?_
    simp only [List.getElem_toArray, List.getElem_cons_zero, List.getElem_cons_succ, Act.put, List.setIfInBounds_toArray, List.set_cons_zero, List.set_cons_succ]
    refine wpAnyH_take (i := 2) (v := .pointer (some ⟨w.heap.size + 1, 5, none⟩)) rfl (by kernel_rfl) (by kernel_rfl) (by kernel_rfl) (fun _ _ _ h => h) (Or.inl ⟨by first | rfl | go_simp, by intro w9 hSw; (try dsimp only at hSw); go_simp⟩) (by assumption) ?_
    simp only [List.getElem_toArray, List.getElem_cons_zero, List.getElem_cons_succ, Act.put, List.setIfInBounds_toArray, List.set_cons_zero, List.set_cons_succ]
    refine wpAnyH_take (i := 3) (v := .agg #[.int .i64 s2, .int .i64 o2, .int .i64 i2, .int .i64 l2, .int .i64 t2]) rfl (by kernel_rfl) (by kernel_rfl) (by kernel_rfl) (fun _ _ _ h => h) (Or.inl ⟨by first | rfl | go_simp, by intro w9 hSw; (try dsimp only at hSw); go_simp⟩) (by assumption) ?_
    simp only [List.getElem_toArray, List.getElem_cons_zero, List.getElem_cons_succ, Act.put, List.setIfInBounds_toArray, List.set_cons_zero, List.set_cons_succ]
    refine wpAnyH_ready (rs := [4, 5]) (by kernel_rfl) (by simp) ?_
    refine AllReadyH.cons rfl (fun K hK => ?_) (AllReadyH.cons rfl (fun K hK => ?_) (AllReadyH.nil))
    · skip
      go_simp
      have b9 := (Below.refl V0.heap.size V0).alloc (Nat.le_refl _) (.cells #[.int .i64 0, .int .i64 0, .int .i64 0, .int .i64 0, .int .i64 0] 23)
      have N0 := Blk.fresh V0 23 #[.int .i64 0, .int .i64 0, .int .i64 0, .int .i64 0, .int .i64 0]
      have n0 : w.heap.size + 3 ≤ V0.heap.size := sz
      generalize V0.alloc (.cells #[.int .i64 0, .int .i64 0, .int .i64 0, .int .i64 0, .int .i64 0] 23) = V1 at *
      have F0 := F0.below b9 F0.lt
      have F1 := F1.below b9 F1.lt
      have F2 := F2.below b9 F2.lt
      have TT := ten_of F1
      have BX := thenB BX b9
      have sz := Nat.le_trans sz b9.size
      refine hK.out _ _ TT (fun hHeld => ?_)
      clear hK K
      try simp only [List.getElem_toArray, List.getElem_cons_zero, List.getElem_cons_succ, Act.put, List.setIfInBounds_toArray, List.set_cons_zero, List.set_cons_succ]
      refine wpAnyH_ready (rs := [5]) (by kernel_rfl) (by simp) ?_
      refine AllReadyH.cons rfl (fun K hK => ?_) (AllReadyH.nil)
      go_simp
      have b9 := (Below.refl V1.heap.size V1).alloc (Nat.le_refl _) (.cells #[.int .i64 0, .int .i64 0, .int .i64 0, .int .i64 0, .int .i64 0] 23)
      have N1 := Blk.fresh V1 23 #[.int .i64 0, .int .i64 0, .int .i64 0, .int .i64 0, .int .i64 0]
      have n1 : w.heap.size + 3 ≤ V1.heap.size := sz
      have dd : V1.heap.size ≠ V0.heap.size := Nat.ne_of_gt N0.lt
      generalize V1.alloc (.cells #[.int .i64 0, .int .i64 0, .int .i64 0, .int .i64 0, .int .i64 0] 23) = V2 at *
      have F0 := F0.below b9 F0.lt
      have F1 := F1.below b9 F1.lt
      have F2 := F2.below b9 F2.lt
      have TT := ten_of F1
      have BX := thenB BX b9
      have sz := Nat.le_trans sz b9.size
      have N0 := N0.below b9 N0.lt
      refine hK.out _ _ TT (fun hHeld => ?_)
      clear hK K
      try simp only [List.getElem_toArray, List.getElem_cons_zero, List.getElem_cons_succ, Act.put, List.setIfInBounds_toArray, List.set_cons_zero, List.set_cons_succ]
      refine wpAnyH_ready (rs := [6]) (by kernel_rfl) (by simp) ?_
      refine AllReadyH.cons rfl (fun K hK => ?_) (AllReadyH.nil)
      obtain ⟨c0, c1, c2, c3, c4⟩ := five_of N0
      have z0 := frz N0 0
      have z1 := frz N0 1
      have z2 := frz N0 2
      have z3 := frz N0 3
      have z4 := frz N0 4
      have F0 := (blk_set_ne (i := 4) (blk_set_ne (i := 3) (blk_set_ne (i := 2) (blk_set_ne (i := 1) (blk_set_ne (i := 0) F0 (show V0.heap.size ≠ _ by omega) (.int .i64 s)) (show V0.heap.size ≠ _ by omega) (.int .i64 o)) (show V0.heap.size ≠ _ by omega) (.int .i64 i)) (show V0.heap.size ≠ _ by omega) (.int .i64 l)) (show V0.heap.size ≠ _ by omega) (.int .i64 t))
      have F1 := (blk_set_ne (i := 4) (blk_set_ne (i := 3) (blk_set_ne (i := 2) (blk_set_ne (i := 1) (blk_set_ne (i := 0) F1 (show V0.heap.size ≠ _ by omega) (.int .i64 s)) (show V0.heap.size ≠ _ by omega) (.int .i64 o)) (show V0.heap.size ≠ _ by omega) (.int .i64 i)) (show V0.heap.size ≠ _ by omega) (.int .i64 l)) (show V0.heap.size ≠ _ by omega) (.int .i64 t))
      have F2 := (blk_set_ne (i := 4) (blk_set_ne (i := 3) (blk_set_ne (i := 2) (blk_set_ne (i := 1) (blk_set_ne (i := 0) F2 (show V0.heap.size ≠ _ by omega) (.int .i64 s)) (show V0.heap.size ≠ _ by omega) (.int .i64 o)) (show V0.heap.size ≠ _ by omega) (.int .i64 i)) (show V0.heap.size ≠ _ by omega) (.int .i64 l)) (show V0.heap.size ≠ _ by omega) (.int .i64 t))
      have N1 := (blk_set_ne (i := 4) (blk_set_ne (i := 3) (blk_set_ne (i := 2) (blk_set_ne (i := 1) (blk_set_ne (i := 0) N1 (show V0.heap.size ≠ V1.heap.size by first | exact dd | exact (Ne.symm dd)) (.int .i64 s)) (show V0.heap.size ≠ V1.heap.size by first | exact dd | exact (Ne.symm dd)) (.int .i64 o)) (show V0.heap.size ≠ V1.heap.size by first | exact dd | exact (Ne.symm dd)) (.int .i64 i)) (show V0.heap.size ≠ V1.heap.size by first | exact dd | exact (Ne.symm dd)) (.int .i64 l)) (show V0.heap.size ≠ V1.heap.size by first | exact dd | exact (Ne.symm dd)) (.int .i64 t))
      have BX := upd_below (g := V0.heap.size) (.int .i64 s) (.int .i64 o) (.int .i64 i) (.int .i64 l) (.int .i64 t) BX (by omega)
      have N0 := upd_set (.int .i64 s) (.int .i64 o) (.int .i64 i) (.int .i64 l) (.int .i64 t) N0
      have sz : w.heap.size + 3 ≤ (((((V2.setCell ⟨V0.heap.size, 0, none⟩ (.int .i64 s)).setCell ⟨V0.heap.size, 1, none⟩ (.int .i64 o)).setCell ⟨V0.heap.size, 2, none⟩ (.int .i64 i)).setCell ⟨V0.heap.size, 3, none⟩ (.int .i64 l)).setCell ⟨V0.heap.size, 4, none⟩ (.int .i64 t)).heap.size := by simpa using sz
      have TT := ten_of F1
      go_simp
      clear c0 c1 c2 c3 c4 z0 z1 z2 z3 z4
      generalize (((((V2.setCell ⟨V0.heap.size, 0, none⟩ (.int .i64 s)).setCell ⟨V0.heap.size, 1, none⟩ (.int .i64 o)).setCell ⟨V0.heap.size, 2, none⟩ (.int .i64 i)).setCell ⟨V0.heap.size, 3, none⟩ (.int .i64 l)).setCell ⟨V0.heap.size, 4, none⟩ (.int .i64 t)) = V3 at *
      refine hK.out _ _ TT (fun hHeld => ?_)
      clear hK K
      try simp only [List.getElem_toArray, List.getElem_cons_zero, List.getElem_cons_succ, Act.put, List.setIfInBounds_toArray, List.set_cons_zero, List.set_cons_succ]
      refine wpAnyH_ready (rs := [7]) (by kernel_rfl) (by simp) ?_
      refine AllReadyH.cons rfl (fun K hK => ?_) (AllReadyH.nil)
      obtain ⟨c0, c1, c2, c3, c4⟩ := five_of N1
      have z0 := frz N1 0
      have z1 := frz N1 1
      have z2 := frz N1 2
      have z3 := frz N1 3
      have z4 := frz N1 4
      have F0 := (blk_set_ne (i := 4) (blk_set_ne (i := 3) (blk_set_ne (i := 2) (blk_set_ne (i := 1) (blk_set_ne (i := 0) F0 (show V1.heap.size ≠ _ by omega) (.int .i64 s2)) (show V1.heap.size ≠ _ by omega) (.int .i64 o2)) (show V1.heap.size ≠ _ by omega) (.int .i64 i2)) (show V1.heap.size ≠ _ by omega) (.int .i64 l2)) (show V1.heap.size ≠ _ by omega) (.int .i64 t2))
      have F1 := (blk_set_ne (i := 4) (blk_set_ne (i := 3) (blk_set_ne (i := 2) (blk_set_ne (i := 1) (blk_set_ne (i := 0) F1 (show V1.heap.size ≠ _ by omega) (.int .i64 s2)) (show V1.heap.size ≠ _ by omega) (.int .i64 o2)) (show V1.heap.size ≠ _ by omega) (.int .i64 i2)) (show V1.heap.size ≠ _ by omega) (.int .i64 l2)) (show V1.heap.size ≠ _ by omega) (.int .i64 t2))
      have F2 := (blk_set_ne (i := 4) (blk_set_ne (i := 3) (blk_set_ne (i := 2) (blk_set_ne (i := 1) (blk_set_ne (i := 0) F2 (show V1.heap.size ≠ _ by omega) (.int .i64 s2)) (show V1.heap.size ≠ _ by omega) (.int .i64 o2)) (show V1.heap.size ≠ _ by omega) (.int .i64 i2)) (show V1.heap.size ≠ _ by omega) (.int .i64 l2)) (show V1.heap.size ≠ _ by omega) (.int .i64 t2))
      have N0 := (blk_set_ne (i := 4) (blk_set_ne (i := 3) (blk_set_ne (i := 2) (blk_set_ne (i := 1) (blk_set_ne (i := 0) N0 (show V1.heap.size ≠ V0.heap.size by first | exact dd | exact (Ne.symm dd)) (.int .i64 s2)) (show V1.heap.size ≠ V0.heap.size by first | exact dd | exact (Ne.symm dd)) (.int .i64 o2)) (show V1.heap.size ≠ V0.heap.size by first | exact dd | exact (Ne.symm dd)) (.int .i64 i2)) (show V1.heap.size ≠ V0.heap.size by first | exact dd | exact (Ne.symm dd)) (.int .i64 l2)) (show V1.heap.size ≠ V0.heap.size by first | exact dd | exact (Ne.symm dd)) (.int .i64 t2))
      have BX := upd_below (g := V1.heap.size) (.int .i64 s2) (.int .i64 o2) (.int .i64 i2) (.int .i64 l2) (.int .i64 t2) BX (by omega)
      have N1 := upd_set (.int .i64 s2) (.int .i64 o2) (.int .i64 i2) (.int .i64 l2) (.int .i64 t2) N1
      have sz : w.heap.size + 3 ≤ (((((V3.setCell ⟨V1.heap.size, 0, none⟩ (.int .i64 s2)).setCell ⟨V1.heap.size, 1, none⟩ (.int .i64 o2)).setCell ⟨V1.heap.size, 2, none⟩ (.int .i64 i2)).setCell ⟨V1.heap.size, 3, none⟩ (.int .i64 l2)).setCell ⟨V1.heap.size, 4, none⟩ (.int .i64 t2)).heap.size := by simpa using sz
      have TT := ten_of F1
      go_simp
      clear c0 c1 c2 c3 c4 z0 z1 z2 z3 z4
      generalize (((((V3.setCell ⟨V1.heap.size, 0, none⟩ (.int .i64 s2)).setCell ⟨V1.heap.size, 1, none⟩ (.int .i64 o2)).setCell ⟨V1.heap.size, 2, none⟩ (.int .i64 i2)).setCell ⟨V1.heap.size, 3, none⟩ (.int .i64 l2)).setCell ⟨V1.heap.size, 4, none⟩ (.int .i64 t2)) = V4 at *
      refine hK.out _ _ TT (fun hHeld => ?_)
      clear hK K
      try simp only [List.getElem_toArray, List.getElem_cons_zero, List.getElem_cons_succ, Act.put, List.setIfInBounds_toArray, List.set_cons_zero, List.set_cons_succ]
      refine wpAnyH_done (by kernel_rfl) ?_ _
      go_wp2_with fail
      go_meet
      exact ⟨_, _, rfl, rfl, N0, N1, F0, F2, by first | exact dd | exact (Ne.symm dd), BX, sz⟩
    · skip
      go_simp
      have b9 := (Below.refl V0.heap.size V0).alloc (Nat.le_refl _) (.cells #[.int .i64 0, .int .i64 0, .int .i64 0, .int .i64 0, .int .i64 0] 23)
      have N1 := Blk.fresh V0 23 #[.int .i64 0, .int .i64 0, .int .i64 0, .int .i64 0, .int .i64 0]
      have n1 : w.heap.size + 3 ≤ V0.heap.size := sz
      generalize V0.alloc (.cells #[.int .i64 0, .int .i64 0, .int .i64 0, .int .i64 0, .int .i64 0] 23) = V5 at *
      have F0 := F0.below b9 F0.lt
      have F1 := F1.below b9 F1.lt
      have F2 := F2.below b9 F2.lt
      have TT := ten_of F1
      have BX := thenB BX b9
      have sz := Nat.le_trans sz b9.size
      refine hK.out _ _ TT (fun hHeld => ?_)
      clear hK K
      try simp only [List.getElem_toArray, List.getElem_cons_zero, List.getElem_cons_succ, Act.put, List.setIfInBounds_toArray, List.set_cons_zero, List.set_cons_succ]
      refine wpAnyH_ready (rs := [4]) (by kernel_rfl) (by simp) ?_
      refine AllReadyH.cons rfl (fun K hK => ?_) (AllReadyH.nil)
      go_simp
      have b9 := (Below.refl V5.heap.size V5).alloc (Nat.le_refl _) (.cells #[.int .i64 0, .int .i64 0, .int .i64 0, .int .i64 0, .int .i64 0] 23)
      have N0 := Blk.fresh V5 23 #[.int .i64 0, .int .i64 0, .int .i64 0, .int .i64 0, .int .i64 0]
      have n0 : w.heap.size + 3 ≤ V5.heap.size := sz
      have dd : V5.heap.size ≠ V0.heap.size := Nat.ne_of_gt N1.lt
      generalize V5.alloc (.cells #[.int .i64 0, .int .i64 0, .int .i64 0, .int .i64 0, .int .i64 0] 23) = V6 at *
      have F0 := F0.below b9 F0.lt
      have F1 := F1.below b9 F1.lt
      have F2 := F2.below b9 F2.lt
      have TT := ten_of F1
      have BX := thenB BX b9
      have sz := Nat.le_trans sz b9.size
      have N1 := N1.below b9 N1.lt
      refine hK.out _ _ TT (fun hHeld => ?_)
      clear hK K
      try simp only [List.getElem_toArray, List.getElem_cons_zero, List.getElem_cons_succ, Act.put, List.setIfInBounds_toArray, List.set_cons_zero, List.set_cons_succ]
      refine wpAnyH_ready (rs := [6]) (by kernel_rfl) (by simp) ?_
      refine AllReadyH.cons rfl (fun K hK => ?_) (AllReadyH.nil)
      obtain ⟨c0, c1, c2, c3, c4⟩ := five_of N0
      have z0 := frz N0 0
      have z1 := frz N0 1
      have z2 := frz N0 2
      have z3 := frz N0 3
      have z4 := frz N0 4
      have F0 := (blk_set_ne (i := 4) (blk_set_ne (i := 3) (blk_set_ne (i := 2) (blk_set_ne (i := 1) (blk_set_ne (i := 0) F0 (show V5.heap.size ≠ _ by omega) (.int .i64 s)) (show V5.heap.size ≠ _ by omega) (.int .i64 o)) (show V5.heap.size ≠ _ by omega) (.int .i64 i)) (show V5.heap.size ≠ _ by omega) (.int .i64 l)) (show V5.heap.size ≠ _ by omega) (.int .i64 t))
      have F1 := (blk_set_ne (i := 4) (blk_set_ne (i := 3) (blk_set_ne (i := 2) (blk_set_ne (i := 1) (blk_set_ne (i := 0) F1 (show V5.heap.size ≠ _ by omega) (.int .i64 s)) (show V5.heap.size ≠ _ by omega) (.int .i64 o)) (show V5.heap.size ≠ _ by omega) (.int .i64 i)) (show V5.heap.size ≠ _ by omega) (.int .i64 l)) (show V5.heap.size ≠ _ by omega) (.int .i64 t))
      have F2 := (blk_set_ne (i := 4) (blk_set_ne (i := 3) (blk_set_ne (i := 2) (blk_set_ne (i := 1) (blk_set_ne (i := 0) F2 (show V5.heap.size ≠ _ by omega) (.int .i64 s)) (show V5.heap.size ≠ _ by omega) (.int .i64 o)) (show V5.heap.size ≠ _ by omega) (.int .i64 i)) (show V5.heap.size ≠ _ by omega) (.int .i64 l)) (show V5.heap.size ≠ _ by omega) (.int .i64 t))
      have N1 := (blk_set_ne (i := 4) (blk_set_ne (i := 3) (blk_set_ne (i := 2) (blk_set_ne (i := 1) (blk_set_ne (i := 0) N1 (show V5.heap.size ≠ V0.heap.size by first | exact dd | exact (Ne.symm dd)) (.int .i64 s)) (show V5.heap.size ≠ V0.heap.size by first | exact dd | exact (Ne.symm dd)) (.int .i64 o)) (show V5.heap.size ≠ V0.heap.size by first | exact dd | exact (Ne.symm dd)) (.int .i64 i)) (show V5.heap.size ≠ V0.heap.size by first | exact dd | exact (Ne.symm dd)) (.int .i64 l)) (show V5.heap.size ≠ V0.heap.size by first | exact dd | exact (Ne.symm dd)) (.int .i64 t))
      have BX := upd_below (g := V5.heap.size) (.int .i64 s) (.int .i64 o) (.int .i64 i) (.int .i64 l) (.int .i64 t) BX (by omega)
      have N0 := upd_set (.int .i64 s) (.int .i64 o) (.int .i64 i) (.int .i64 l) (.int .i64 t) N0
      have sz : w.heap.size + 3 ≤ (((((V6.setCell ⟨V5.heap.size, 0, none⟩ (.int .i64 s)).setCell ⟨V5.heap.size, 1, none⟩ (.int .i64 o)).setCell ⟨V5.heap.size, 2, none⟩ (.int .i64 i)).setCell ⟨V5.heap.size, 3, none⟩ (.int .i64 l)).setCell ⟨V5.heap.size, 4, none⟩ (.int .i64 t)).heap.size := by simpa using sz
      have TT := ten_of F1
      go_simp
      clear c0 c1 c2 c3 c4 z0 z1 z2 z3 z4
      generalize (((((V6.setCell ⟨V5.heap.size, 0, none⟩ (.int .i64 s)).setCell ⟨V5.heap.size, 1, none⟩ (.int .i64 o)).setCell ⟨V5.heap.size, 2, none⟩ (.int .i64 i)).setCell ⟨V5.heap.size, 3, none⟩ (.int .i64 l)).setCell ⟨V5.heap.size, 4, none⟩ (.int .i64 t)) = V7 at *
      refine hK.out _ _ TT (fun hHeld => ?_)
      clear hK K
      try simp only [List.getElem_toArray, List.getElem_cons_zero, List.getElem_cons_succ, Act.put, List.setIfInBounds_toArray, List.set_cons_zero, List.set_cons_succ]
      refine wpAnyH_ready (rs := [7]) (by kernel_rfl) (by simp) ?_
      refine AllReadyH.cons rfl (fun K hK => ?_) (AllReadyH.nil)
      obtain ⟨c0, c1, c2, c3, c4⟩ := five_of N1
      have z0 := frz N1 0
      have z1 := frz N1 1
      have z2 := frz N1 2
      have z3 := frz N1 3
      have z4 := frz N1 4
      have F0 := (blk_set_ne (i := 4) (blk_set_ne (i := 3) (blk_set_ne (i := 2) (blk_set_ne (i := 1) (blk_set_ne (i := 0) F0 (show V0.heap.size ≠ _ by omega) (.int .i64 s2)) (show V0.heap.size ≠ _ by omega) (.int .i64 o2)) (show V0.heap.size ≠ _ by omega) (.int .i64 i2)) (show V0.heap.size ≠ _ by omega) (.int .i64 l2)) (show V0.heap.size ≠ _ by omega) (.int .i64 t2))
      have F1 := (blk_set_ne (i := 4) (blk_set_ne (i := 3) (blk_set_ne (i := 2) (blk_set_ne (i := 1) (blk_set_ne (i := 0) F1 (show V0.heap.size ≠ _ by omega) (.int .i64 s2)) (show V0.heap.size ≠ _ by omega) (.int .i64 o2)) (show V0.heap.size ≠ _ by omega) (.int .i64 i2)) (show V0.heap.size ≠ _ by omega) (.int .i64 l2)) (show V0.heap.size ≠ _ by omega) (.int .i64 t2))
      have F2 := (blk_set_ne (i := 4) (blk_set_ne (i := 3) (blk_set_ne (i := 2) (blk_set_ne (i := 1) (blk_set_ne (i := 0) F2 (show V0.heap.size ≠ _ by omega) (.int .i64 s2)) (show V0.heap.size ≠ _ by omega) (.int .i64 o2)) (show V0.heap.size ≠ _ by omega) (.int .i64 i2)) (show V0.heap.size ≠ _ by omega) (.int .i64 l2)) (show V0.heap.size ≠ _ by omega) (.int .i64 t2))
      have N0 := (blk_set_ne (i := 4) (blk_set_ne (i := 3) (blk_set_ne (i := 2) (blk_set_ne (i := 1) (blk_set_ne (i := 0) N0 (show V0.heap.size ≠ V5.heap.size by first | exact dd | exact (Ne.symm dd)) (.int .i64 s2)) (show V0.heap.size ≠ V5.heap.size by first | exact dd | exact (Ne.symm dd)) (.int .i64 o2)) (show V0.heap.size ≠ V5.heap.size by first | exact dd | exact (Ne.symm dd)) (.int .i64 i2)) (show V0.heap.size ≠ V5.heap.size by first | exact dd | exact (Ne.symm dd)) (.int .i64 l2)) (show V0.heap.size ≠ V5.heap.size by first | exact dd | exact (Ne.symm dd)) (.int .i64 t2))
      have BX := upd_below (g := V0.heap.size) (.int .i64 s2) (.int .i64 o2) (.int .i64 i2) (.int .i64 l2) (.int .i64 t2) BX (by omega)
      have N1 := upd_set (.int .i64 s2) (.int .i64 o2) (.int .i64 i2) (.int .i64 l2) (.int .i64 t2) N1
      have sz : w.heap.size + 3 ≤ (((((V7.setCell ⟨V0.heap.size, 0, none⟩ (.int .i64 s2)).setCell ⟨V0.heap.size, 1, none⟩ (.int .i64 o2)).setCell ⟨V0.heap.size, 2, none⟩ (.int .i64 i2)).setCell ⟨V0.heap.size, 3, none⟩ (.int .i64 l2)).setCell ⟨V0.heap.size, 4, none⟩ (.int .i64 t2)).heap.size := by simpa using sz
      have TT := ten_of F1
      go_simp
      clear c0 c1 c2 c3 c4 z0 z1 z2 z3 z4
      generalize (((((V7.setCell ⟨V0.heap.size, 0, none⟩ (.int .i64 s2)).setCell ⟨V0.heap.size, 1, none⟩ (.int .i64 o2)).setCell ⟨V0.heap.size, 2, none⟩ (.int .i64 i2)).setCell ⟨V0.heap.size, 3, none⟩ (.int .i64 l2)).setCell ⟨V0.heap.size, 4, none⟩ (.int .i64 t2)) = V8 at *
      refine hK.out _ _ TT (fun hHeld => ?_)
      clear hK K
      try simp only [List.getElem_toArray, List.getElem_cons_zero, List.getElem_cons_succ, Act.put, List.setIfInBounds_toArray, List.set_cons_zero, List.set_cons_succ]
      refine wpAnyH_done (by kernel_rfl) ?_ _
      go_wp2_with fail
      go_meet
      exact ⟨_, _, rfl, rfl, N0, N1, F0, F2, by first | exact dd | exact (Ne.symm dd), BX, sz⟩
  case rest =>
    obtain ⟨p, q, rfl, rfl, FP, FQ, F0, F2, hpq, BX, sz⟩ := hcut
    clear F1
    generalize wc = Y at *
    obtain ⟨u0, u1, u2, u3⟩ := quad_of F0; obtain ⟨k0, k1, k2, k3, k4⟩ := five_of FP; obtain ⟨j0, j1, j2, j3, j4⟩ := five_of FQ; obtain ⟨h0, h1, h2, h3⟩ := quad_of F2
    go_wp2_with (first
      | (go_at_call 35; refine (HD.out _).mono ?_; clear HD; rintro e w2 ⟨rfl, b9⟩; clear u0 u1 u2 u3 k0 k1 k2 k3 k4 j0 j1 j2 j3 j4 h0 h1 h2 h3; have F0 := F0.below b9 F0.lt; have FP := FP.below b9 FP.lt; have FQ := FQ.below b9 FQ.lt; have F2 := F2.below b9 F2.lt; have BX := thenB BX b9; have sz : w.heap.size + 3 ≤ w2.heap.size := Nat.le_trans sz b9.size; clear b9; obtain ⟨u0, u1, u2, u3⟩ := quad_of F0; obtain ⟨k0, k1, k2, k3, k4⟩ := five_of FP; obtain ⟨j0, j1, j2, j3, j4⟩ := five_of FQ; obtain ⟨h0, h1, h2, h3⟩ := quad_of F2)
      | (go_at_call 31; refine (HR.out _).mono ?_; clear HR; rintro e w3 ⟨rfl, b9⟩; clear u0 u1 u2 u3 k0 k1 k2 k3 k4 j0 j1 j2 j3 j4 h0 h1 h2 h3; have F0 := F0.below b9 F0.lt; have FP := FP.below b9 FP.lt; have FQ := FQ.below b9 FQ.lt; have F2 := F2.below b9 F2.lt; have BX := thenB BX b9; have sz : w.heap.size + 3 ≤ w3.heap.size := Nat.le_trans sz b9.size; clear b9; obtain ⟨u0, u1, u2, u3⟩ := quad_of F0; obtain ⟨k0, k1, k2, k3, k4⟩ := five_of FP; obtain ⟨j0, j1, j2, j3, j4⟩ := five_of FQ; obtain ⟨h0, h1, h2, h3⟩ := quad_of F2)
      | (go_at_call 13; refine (HU.out _).mono ?_; clear HU; rintro e w4 ⟨rfl, b9⟩; clear u0 u1 u2 u3 k0 k1 k2 k3 k4 j0 j1 j2 j3 j4 h0 h1 h2 h3; have F0 := F0.below b9 F0.lt; have FP := FP.below b9 FP.lt; have FQ := FQ.below b9 FQ.lt; have F2 := F2.below b9 F2.lt; have BX := thenB BX b9; have sz : w.heap.size + 3 ≤ w4.heap.size := Nat.le_trans sz b9.size; clear b9; obtain ⟨u0, u1, u2, u3⟩ := quad_of F0; obtain ⟨k0, k1, k2, k3, k4⟩ := five_of FP; obtain ⟨j0, j1, j2, j3, j4⟩ := five_of FQ; obtain ⟨h0, h1, h2, h3⟩ := quad_of F2))
    go_ret
    exact ⟨rfl, BX⟩
set_option maxRecDepth 100000 in
set_option maxHeartbeats 10000000 in
theorem moved_no3 (pa sa pb sb s o i l t s2 o2 i2 l2 t2 T n y x D ZZ EU : Int) (w : World) (HD : Hid (∀ w, Calls Try.prog 35 #[.int .i64 n, upd s o i l t, upd s2 o2 i2 l2 t2] w fun e w' => e = .returned (.tuple #[.int .i64 D, .int .i64 ZZ]) ∧ Below w.heap.size w w')) (HR : Hid (∀ w, Calls Try.prog 31 #[.agg #[.int .i64 pa, .int .i64 sa], .agg #[.int .i64 pb, .int .i64 sb], upd s o i l t, .agg #[.int .i64 T, .int .i64 n, .int .i64 y, .int .i64 x]] w fun e w' => e = .returned (.bool true) ∧ Below w.heap.size w w')) (HU : Hid (∀ w, Calls Try.prog 13 #[upd s2 o2 i2 l2 t2] w fun e w' => e = .returned (.int .i64 EU) ∧ Below w.heap.size w w')) (eu : (EU != 0) = false) (ex : decide (x < 0) = false) (ez : decide (ZZ < x) = true) :
    Calls Try.prog 10 #[.agg #[.int .i64 pa, .int .i64 sa, .int .i64 pb, .int .i64 sb], .agg #[.int .i64 s, .int .i64 o, .int .i64 i, .int .i64 l, .int .i64 t, .int .i64 s2, .int .i64 o2, .int .i64 i2, .int .i64 l2, .int .i64 t2], .agg #[.int .i64 T, .int .i64 n, .int .i64 y, .int .i64 x]] w fun e w' => e = .returned (.bool true) ∧ Below w.heap.size w w' := by
  have F0 : Mem.Blk (((w.alloc (.cells #[.int .i64 pa, .int .i64 sa, .int .i64 pb, .int .i64 sb] 56)).alloc (.cells #[.int .i64 s, .int .i64 o, .int .i64 i, .int .i64 l, .int .i64 t, .int .i64 s2, .int .i64 o2, .int .i64 i2, .int .i64 l2, .int .i64 t2] 63)).alloc (.cells #[.int .i64 T, .int .i64 n, .int .i64 y, .int .i64 x] 58)) w.heap.size 56 #[.int .i64 pa, .int .i64 sa, .int .i64 pb, .int .i64 sb] := (((Blk.fresh w 56 #[.int .i64 pa, .int .i64 sa, .int .i64 pb, .int .i64 sb]).alloc (.cells #[.int .i64 s, .int .i64 o, .int .i64 i, .int .i64 l, .int .i64 t, .int .i64 s2, .int .i64 o2, .int .i64 i2, .int .i64 l2, .int .i64 t2] 63)).alloc (.cells #[.int .i64 T, .int .i64 n, .int .i64 y, .int .i64 x] 58))
  have F1 : Mem.Blk (((w.alloc (.cells #[.int .i64 pa, .int .i64 sa, .int .i64 pb, .int .i64 sb] 56)).alloc (.cells #[.int .i64 s, .int .i64 o, .int .i64 i, .int .i64 l, .int .i64 t, .int .i64 s2, .int .i64 o2, .int .i64 i2, .int .i64 l2, .int .i64 t2] 63)).alloc (.cells #[.int .i64 T, .int .i64 n, .int .i64 y, .int .i64 x] 58)) (w.heap.size + 1) 63 #[.int .i64 s, .int .i64 o, .int .i64 i, .int .i64 l, .int .i64 t, .int .i64 s2, .int .i64 o2, .int .i64 i2, .int .i64 l2, .int .i64 t2] := by
    have := ((Blk.fresh (w.alloc (.cells #[.int .i64 pa, .int .i64 sa, .int .i64 pb, .int .i64 sb] 56)) 63 #[.int .i64 s, .int .i64 o, .int .i64 i, .int .i64 l, .int .i64 t, .int .i64 s2, .int .i64 o2, .int .i64 i2, .int .i64 l2, .int .i64 t2]).alloc (.cells #[.int .i64 T, .int .i64 n, .int .i64 y, .int .i64 x] 58))
    rwa [World.size_alloc] at this
  have F2 : Mem.Blk (((w.alloc (.cells #[.int .i64 pa, .int .i64 sa, .int .i64 pb, .int .i64 sb] 56)).alloc (.cells #[.int .i64 s, .int .i64 o, .int .i64 i, .int .i64 l, .int .i64 t, .int .i64 s2, .int .i64 o2, .int .i64 i2, .int .i64 l2, .int .i64 t2] 63)).alloc (.cells #[.int .i64 T, .int .i64 n, .int .i64 y, .int .i64 x] 58)) (w.heap.size + 2) 58 #[.int .i64 T, .int .i64 n, .int .i64 y, .int .i64 x] := by
    have := (Blk.fresh ((w.alloc (.cells #[.int .i64 pa, .int .i64 sa, .int .i64 pb, .int .i64 sb] 56)).alloc (.cells #[.int .i64 s, .int .i64 o, .int .i64 i, .int .i64 l, .int .i64 t, .int .i64 s2, .int .i64 o2, .int .i64 i2, .int .i64 l2, .int .i64 t2] 63)) 58 #[.int .i64 T, .int .i64 n, .int .i64 y, .int .i64 x])
    rwa [World.size_alloc, World.size_alloc] at this
  have hbel : Below w.heap.size w (((w.alloc (.cells #[.int .i64 pa, .int .i64 sa, .int .i64 pb, .int .i64 sb] 56)).alloc (.cells #[.int .i64 s, .int .i64 o, .int .i64 i, .int .i64 l, .int .i64 t, .int .i64 s2, .int .i64 o2, .int .i64 i2, .int .i64 l2, .int .i64 t2] 63)).alloc (.cells #[.int .i64 T, .int .i64 n, .int .i64 y, .int .i64 x] 58)) := ((((Below.refl _ w).alloc (Nat.le_refl _) _).alloc (by simp) _).alloc (by simp; omega) _)
  have sz : w.heap.size + 3 ≤ (((w.alloc (.cells #[.int .i64 pa, .int .i64 sa, .int .i64 pb, .int .i64 sb] 56)).alloc (.cells #[.int .i64 s, .int .i64 o, .int .i64 i, .int .i64 l, .int .i64 t, .int .i64 s2, .int .i64 o2, .int .i64 i2, .int .i64 l2, .int .i64 t2] 63)).alloc (.cells #[.int .i64 T, .int .i64 n, .int .i64 y, .int .i64 x] 58)).heap.size := by simp
  have BX := hbel
  clear hbel
  have HL := Lib.hid lives_any
  go_enter Try.func10, Try.ntmps10
  go_wp2_with fail
  generalize (((w.alloc (.cells #[.int .i64 pa, .int .i64 sa, .int .i64 pb, .int .i64 sb] 56)).alloc (.cells #[.int .i64 s, .int .i64 o, .int .i64 i, .int .i64 l, .int .i64 t, .int .i64 s2, .int .i64 o2, .int .i64 i2, .int .i64 l2, .int .i64 t2] 63)).alloc (.cells #[.int .i64 T, .int .i64 n, .int .i64 y, .int .i64 x] 58)) = W at *
  go_wp2_with (go_at_call 11; refine (HL.out _).mono ?_; clear HL; rintro e w1 ⟨rfl, b9⟩; have F0 := F0.below b9 F0.lt; have F1 := F1.below b9 F1.lt; have F2 := F2.below b9 F2.lt; have BX := thenB BX b9; have sz : w.heap.size + 3 ≤ w1.heap.size := Nat.le_trans sz b9.size; clear b9)
  go_cut [7, 8] from 16 to 19 (fun s7 s8 wx => ∃ p q, s7 = .pointer (some ⟨p, 0, none⟩) ∧ s8 = .pointer (some ⟨q, 0, none⟩) ∧ Blk wx p 23 #[.int .i64 s, .int .i64 o, .int .i64 i, .int .i64 l, .int .i64 t] ∧ Blk wx q 23 #[.int .i64 s2, .int .i64 o2, .int .i64 i2, .int .i64 l2, .int .i64 t2] ∧ Blk wx w.heap.size 56 #[.int .i64 pa, .int .i64 sa, .int .i64 pb, .int .i64 sb] ∧ Blk wx (w.heap.size + 2) 58 #[.int .i64 T, .int .i64 n, .int .i64 y, .int .i64 x] ∧ p ≠ q ∧ Below w.heap.size w wx ∧ w.heap.size + 3 ≤ wx.heap.size)
  case first =>
    go_wp2_with fail
    refine wp_region_held_drew (S := (fun w' => Ten w' (w.heap.size + 1) s o i l t s2 o2 i2 l2 t2)) (by kernel_rfl) ?_ (fun hHeld => ?_)
    · exact ten_of F1
    have TT : Ten w1.drew (w.heap.size + 1) s o i l t s2 o2 i2 l2 t2 := ten_of F1.drew
    have F0 := F0.drew
    have F1 := F1.drew
    have F2 := F2.drew
    have BX := BX.drew
    have sz : w.heap.size + 3 ≤ w1.drew.heap.size := sz
    generalize w1.drew = V0 at *
    refine wpAnyH_take (i := 0) (v := .pointer (some ⟨w.heap.size + 1, 0, none⟩)) rfl (by kernel_rfl) (by kernel_rfl) (by kernel_rfl) (fun _ _ _ h => h) (Or.inl ⟨by first | rfl | go_simp, by intro w9 hSw; (try dsimp only at hSw); go_simp⟩) (by assumption) ?_
    simp only [List.getElem_toArray, List.getElem_cons_zero, List.getElem_cons_succ, Act.put, List.setIfInBounds_toArray, List.set_cons_zero, List.set_cons_succ]
    refine wpAnyH_take (i := 1) (v := .agg #[.int .i64 s, .int .i64 o, .int .i64 i, .int .i64 l, .int .i64 t]) rfl (by kernel_rfl) (by kernel_rfl) (by kernel_rfl) (fun _ _ _ h => h) (Or.inl ⟨by first | rfl | go_simp, by intro w9 hSw; (try dsimp only at hSw); go_simp⟩) (by assumption) ?_
    simp only [List.getElem_toArray, List.getElem_cons_zero, List.getElem_cons_succ, Act.put, List.setIfInBounds_toArray, List.set_cons_zero, List.set_cons_succ]
    refine wpAnyH_take (i := 2) (v := .pointer (some ⟨w.heap.size + 1, 5, none⟩)) rfl (by kernel_rfl) (by kernel_rfl) (by kernel_rfl) (fun _ _ _ h => h) (Or.inl ⟨by first | rfl | go_simp, by intro w9 hSw; (try dsimp only at hSw); go_simp⟩) (by assumption) ?_
    simp only [List.getElem_toArray, List.getElem_cons_zero, List.getElem_cons_succ, Act.put, List.setIfInBounds_toArray, List.set_cons_zero, List.set_cons_succ]
    refine wpAnyH_take (i := 3) (v := .agg #[.int .i64 s2, .int .i64 o2, .int .i64 i2, .int .i64 l2, .int .i64 t2]) rfl (by kernel_rfl) (by kernel_rfl) (by kernel_rfl) (fun _ _ _ h => h) (Or.inl ⟨by first | rfl | go_simp, by intro w9 hSw; (try dsimp only at hSw); go_simp⟩) (by assumption) ?_
    simp only [List.getElem_toArray, List.getElem_cons_zero, List.getElem_cons_succ, Act.put, List.setIfInBounds_toArray, List.set_cons_zero, List.set_cons_succ]
    refine wpAnyH_ready (rs := [4, 5]) (by kernel_rfl) (by simp) ?_
    refine AllReadyH.cons rfl (fun K hK => ?_) (AllReadyH.cons rfl (fun K hK => ?_) (AllReadyH.nil))
    · skip
      go_simp
      have b9 := (Below.refl V0.heap.size V0).alloc (Nat.le_refl _) (.cells #[.int .i64 0, .int .i64 0, .int .i64 0, .int .i64 0, .int .i64 0] 23)
      have N0 := Blk.fresh V0 23 #[.int .i64 0, .int .i64 0, .int .i64 0, .int .i64 0, .int .i64 0]
      have n0 : w.heap.size + 3 ≤ V0.heap.size := sz
      generalize V0.alloc (.cells #[.int .i64 0, .int .i64 0, .int .i64 0, .int .i64 0, .int .i64 0] 23) = V1 at *
      have F0 := F0.below b9 F0.lt
      have F1 := F1.below b9 F1.lt
      have F2 := F2.below b9 F2.lt
      have TT := ten_of F1
      have BX := thenB BX b9
      have sz := Nat.le_trans sz b9.size
      refine hK.out _ _ TT (fun hHeld => ?_)
      clear hK K
      try simp only [List.getElem_toArray, List.getElem_cons_zero, List.getElem_cons_succ, Act.put, List.setIfInBounds_toArray, List.set_cons_zero, List.set_cons_succ]
      refine wpAnyH_ready (rs := [5]) (by kernel_rfl) (by simp) ?_
      refine AllReadyH.cons rfl (fun K hK => ?_) (AllReadyH.nil)
      go_simp
      have b9 := (Below.refl V1.heap.size V1).alloc (Nat.le_refl _) (.cells #[.int .i64 0, .int .i64 0, .int .i64 0, .int .i64 0, .int .i64 0] 23)
      have N1 := Blk.fresh V1 23 #[.int .i64 0, .int .i64 0, .int .i64 0, .int .i64 0, .int .i64 0]
      have n1 : w.heap.size + 3 ≤ V1.heap.size := sz
      have dd : V1.heap.size ≠ V0.heap.size := Nat.ne_of_gt N0.lt
      generalize V1.alloc (.cells #[.int .i64 0, .int .i64 0, .int .i64 0, .int .i64 0, .int .i64 0] 23) = V2 at *
      have F0 := F0.below b9 F0.lt
      have F1 := F1.below b9 F1.lt
      have F2 := F2.below b9 F2.lt
      have TT := ten_of F1
      have BX := thenB BX b9
      have sz := Nat.le_trans sz b9.size
      have N0 := N0.below b9 N0.lt
      refine hK.out _ _ TT (fun hHeld => ?_)
      clear hK K
      try simp only [List.getElem_toArray, List.getElem_cons_zero, List.getElem_cons_succ, Act.put, List.setIfInBounds_toArray, List.set_cons_zero, List.set_cons_succ]
      refine wpAnyH_ready (rs := [6]) (by kernel_rfl) (by simp) ?_
      refine AllReadyH.cons rfl (fun K hK => ?_) (AllReadyH.nil)
      obtain ⟨c0, c1, c2, c3, c4⟩ := five_of N0
      have z0 := frz N0 0
      have z1 := frz N0 1
      have z2 := frz N0 2
      have z3 := frz N0 3
      have z4 := frz N0 4
      have F0 := (blk_set_ne (i := 4) (blk_set_ne (i := 3) (blk_set_ne (i := 2) (blk_set_ne (i := 1) (blk_set_ne (i := 0) F0 (show V0.heap.size ≠ _ by omega) (.int .i64 s)) (show V0.heap.size ≠ _ by omega) (.int .i64 o)) (show V0.heap.size ≠ _ by omega) (.int .i64 i)) (show V0.heap.size ≠ _ by omega) (.int .i64 l)) (show V0.heap.size ≠ _ by omega) (.int .i64 t))
      have F1 := (blk_set_ne (i := 4) (blk_set_ne (i := 3) (blk_set_ne (i := 2) (blk_set_ne (i := 1) (blk_set_ne (i := 0) F1 (show V0.heap.size ≠ _ by omega) (.int .i64 s)) (show V0.heap.size ≠ _ by omega) (.int .i64 o)) (show V0.heap.size ≠ _ by omega) (.int .i64 i)) (show V0.heap.size ≠ _ by omega) (.int .i64 l)) (show V0.heap.size ≠ _ by omega) (.int .i64 t))
      have F2 := (blk_set_ne (i := 4) (blk_set_ne (i := 3) (blk_set_ne (i := 2) (blk_set_ne (i := 1) (blk_set_ne (i := 0) F2 (show V0.heap.size ≠ _ by omega) (.int .i64 s)) (show V0.heap.size ≠ _ by omega) (.int .i64 o)) (show V0.heap.size ≠ _ by omega) (.int .i64 i)) (show V0.heap.size ≠ _ by omega) (.int .i64 l)) (show V0.heap.size ≠ _ by omega) (.int .i64 t))
      have N1 := (blk_set_ne (i := 4) (blk_set_ne (i := 3) (blk_set_ne (i := 2) (blk_set_ne (i := 1) (blk_set_ne (i := 0) N1 (show V0.heap.size ≠ V1.heap.size by first | exact dd | exact (Ne.symm dd)) (.int .i64 s)) (show V0.heap.size ≠ V1.heap.size by first | exact dd | exact (Ne.symm dd)) (.int .i64 o)) (show V0.heap.size ≠ V1.heap.size by first | exact dd | exact (Ne.symm dd)) (.int .i64 i)) (show V0.heap.size ≠ V1.heap.size by first | exact dd | exact (Ne.symm dd)) (.int .i64 l)) (show V0.heap.size ≠ V1.heap.size by first | exact dd | exact (Ne.symm dd)) (.int .i64 t))
      have BX := upd_below (g := V0.heap.size) (.int .i64 s) (.int .i64 o) (.int .i64 i) (.int .i64 l) (.int .i64 t) BX (by omega)
      have N0 := upd_set (.int .i64 s) (.int .i64 o) (.int .i64 i) (.int .i64 l) (.int .i64 t) N0
      have sz : w.heap.size + 3 ≤ (((((V2.setCell ⟨V0.heap.size, 0, none⟩ (.int .i64 s)).setCell ⟨V0.heap.size, 1, none⟩ (.int .i64 o)).setCell ⟨V0.heap.size, 2, none⟩ (.int .i64 i)).setCell ⟨V0.heap.size, 3, none⟩ (.int .i64 l)).setCell ⟨V0.heap.size, 4, none⟩ (.int .i64 t)).heap.size := by simpa using sz
      have TT := ten_of F1
      go_simp
      clear c0 c1 c2 c3 c4 z0 z1 z2 z3 z4
      generalize (((((V2.setCell ⟨V0.heap.size, 0, none⟩ (.int .i64 s)).setCell ⟨V0.heap.size, 1, none⟩ (.int .i64 o)).setCell ⟨V0.heap.size, 2, none⟩ (.int .i64 i)).setCell ⟨V0.heap.size, 3, none⟩ (.int .i64 l)).setCell ⟨V0.heap.size, 4, none⟩ (.int .i64 t)) = V3 at *
      refine hK.out _ _ TT (fun hHeld => ?_)
      clear hK K
      try simp only [List.getElem_toArray, List.getElem_cons_zero, List.getElem_cons_succ, Act.put, List.setIfInBounds_toArray, List.set_cons_zero, List.set_cons_succ]
      refine wpAnyH_ready (rs := [7]) (by kernel_rfl) (by simp) ?_
      refine AllReadyH.cons rfl (fun K hK => ?_) (AllReadyH.nil)
      obtain ⟨c0, c1, c2, c3, c4⟩ := five_of N1
      have z0 := frz N1 0
      have z1 := frz N1 1
      have z2 := frz N1 2
      have z3 := frz N1 3
      have z4 := frz N1 4
      have F0 := (blk_set_ne (i := 4) (blk_set_ne (i := 3) (blk_set_ne (i := 2) (blk_set_ne (i := 1) (blk_set_ne (i := 0) F0 (show V1.heap.size ≠ _ by omega) (.int .i64 s2)) (show V1.heap.size ≠ _ by omega) (.int .i64 o2)) (show V1.heap.size ≠ _ by omega) (.int .i64 i2)) (show V1.heap.size ≠ _ by omega) (.int .i64 l2)) (show V1.heap.size ≠ _ by omega) (.int .i64 t2))
      have F1 := (blk_set_ne (i := 4) (blk_set_ne (i := 3) (blk_set_ne (i := 2) (blk_set_ne (i := 1) (blk_set_ne (i := 0) F1 (show V1.heap.size ≠ _ by omega) (.int .i64 s2)) (show V1.heap.size ≠ _ by omega) (.int .i64 o2)) (show V1.heap.size ≠ _ by omega) (.int .i64 i2)) (show V1.heap.size ≠ _ by omega) (.int .i64 l2)) (show V1.heap.size ≠ _ by omega) (.int .i64 t2))
      have F2 := (blk_set_ne (i := 4) (blk_set_ne (i := 3) (blk_set_ne (i := 2) (blk_set_ne (i := 1) (blk_set_ne (i := 0) F2 (show V1.heap.size ≠ _ by omega) (.int .i64 s2)) (show V1.heap.size ≠ _ by omega) (.int .i64 o2)) (show V1.heap.size ≠ _ by omega) (.int .i64 i2)) (show V1.heap.size ≠ _ by omega) (.int .i64 l2)) (show V1.heap.size ≠ _ by omega) (.int .i64 t2))
      have N0 := (blk_set_ne (i := 4) (blk_set_ne (i := 3) (blk_set_ne (i := 2) (blk_set_ne (i := 1) (blk_set_ne (i := 0) N0 (show V1.heap.size ≠ V0.heap.size by first | exact dd | exact (Ne.symm dd)) (.int .i64 s2)) (show V1.heap.size ≠ V0.heap.size by first | exact dd | exact (Ne.symm dd)) (.int .i64 o2)) (show V1.heap.size ≠ V0.heap.size by first | exact dd | exact (Ne.symm dd)) (.int .i64 i2)) (show V1.heap.size ≠ V0.heap.size by first | exact dd | exact (Ne.symm dd)) (.int .i64 l2)) (show V1.heap.size ≠ V0.heap.size by first | exact dd | exact (Ne.symm dd)) (.int .i64 t2))
      have BX := upd_below (g := V1.heap.size) (.int .i64 s2) (.int .i64 o2) (.int .i64 i2) (.int .i64 l2) (.int .i64 t2) BX (by omega)
      have N1 := upd_set (.int .i64 s2) (.int .i64 o2) (.int .i64 i2) (.int .i64 l2) (.int .i64 t2) N1
      have sz : w.heap.size + 3 ≤ (((((V3.setCell ⟨V1.heap.size, 0, none⟩ (.int .i64 s2)).setCell ⟨V1.heap.size, 1, none⟩ (.int .i64 o2)).setCell ⟨V1.heap.size, 2, none⟩ (.int .i64 i2)).setCell ⟨V1.heap.size, 3, none⟩ (.int .i64 l2)).setCell ⟨V1.heap.size, 4, none⟩ (.int .i64 t2)).heap.size := by simpa using sz
      have TT := ten_of F1
      go_simp
      clear c0 c1 c2 c3 c4 z0 z1 z2 z3 z4
      generalize (((((V3.setCell ⟨V1.heap.size, 0, none⟩ (.int .i64 s2)).setCell ⟨V1.heap.size, 1, none⟩ (.int .i64 o2)).setCell ⟨V1.heap.size, 2, none⟩ (.int .i64 i2)).setCell ⟨V1.heap.size, 3, none⟩ (.int .i64 l2)).setCell ⟨V1.heap.size, 4, none⟩ (.int .i64 t2)) = V4 at *
      refine hK.out _ _ TT (fun hHeld => ?_)
      clear hK K
      try simp only [List.getElem_toArray, List.getElem_cons_zero, List.getElem_cons_succ, Act.put, List.setIfInBounds_toArray, List.set_cons_zero, List.set_cons_succ]
      refine wpAnyH_done (by kernel_rfl) ?_ _
      go_wp2_with fail
      go_meet
      exact ⟨_, _, rfl, rfl, N0, N1, F0, F2, by first | exact dd | exact (Ne.symm dd), BX, sz⟩
    · skip
      go_simp
      have b9 := (Below.refl V0.heap.size V0).alloc (Nat.le_refl _) (.cells #[.int .i64 0, .int .i64 0, .int .i64 0, .int .i64 0, .int .i64 0] 23)
      have N1 := Blk.fresh V0 23 #[.int .i64 0, .int .i64 0, .int .i64 0, .int .i64 0, .int .i64 0]
      have n1 : w.heap.size + 3 ≤ V0.heap.size := sz
      generalize V0.alloc (.cells #[.int .i64 0, .int .i64 0, .int .i64 0, .int .i64 0, .int .i64 0] 23) = V5 at *
      have F0 := F0.below b9 F0.lt
      have F1 := F1.below b9 F1.lt
      have F2 := F2.below b9 F2.lt
      have TT := ten_of F1
      have BX := thenB BX b9
      have sz := Nat.le_trans sz b9.size
      refine hK.out _ _ TT (fun hHeld => ?_)
      clear hK K
      try simp only [List.getElem_toArray, List.getElem_cons_zero, List.getElem_cons_succ, Act.put, List.setIfInBounds_toArray, List.set_cons_zero, List.set_cons_succ]
      refine wpAnyH_ready (rs := [4]) (by kernel_rfl) (by simp) ?_
      refine AllReadyH.cons rfl (fun K hK => ?_) (AllReadyH.nil)
      go_simp
      have b9 := (Below.refl V5.heap.size V5).alloc (Nat.le_refl _) (.cells #[.int .i64 0, .int .i64 0, .int .i64 0, .int .i64 0, .int .i64 0] 23)
      have N0 := Blk.fresh V5 23 #[.int .i64 0, .int .i64 0, .int .i64 0, .int .i64 0, .int .i64 0]
      have n0 : w.heap.size + 3 ≤ V5.heap.size := sz
      have dd : V5.heap.size ≠ V0.heap.size := Nat.ne_of_gt N1.lt
      generalize V5.alloc (.cells #[.int .i64 0, .int .i64 0, .int .i64 0, .int .i64 0, .int .i64 0] 23) = V6 at *
      have F0 := F0.below b9 F0.lt
      have F1 := F1.below b9 F1.lt
      have F2 := F2.below b9 F2.lt
      have TT := ten_of F1
      have BX := thenB BX b9
      have sz := Nat.le_trans sz b9.size
      have N1 := N1.below b9 N1.lt
      refine hK.out _ _ TT (fun hHeld => ?_)
      clear hK K
      try simp only [List.getElem_toArray, List.getElem_cons_zero, List.getElem_cons_succ, Act.put, List.setIfInBounds_toArray, List.set_cons_zero, List.set_cons_succ]
      refine wpAnyH_ready (rs := [6]) (by kernel_rfl) (by simp) ?_
      refine AllReadyH.cons rfl (fun K hK => ?_) (AllReadyH.nil)
      obtain ⟨c0, c1, c2, c3, c4⟩ := five_of N0
      have z0 := frz N0 0
      have z1 := frz N0 1
      have z2 := frz N0 2
      have z3 := frz N0 3
      have z4 := frz N0 4
      have F0 := (blk_set_ne (i := 4) (blk_set_ne (i := 3) (blk_set_ne (i := 2) (blk_set_ne (i := 1) (blk_set_ne (i := 0) F0 (show V5.heap.size ≠ _ by omega) (.int .i64 s)) (show V5.heap.size ≠ _ by omega) (.int .i64 o)) (show V5.heap.size ≠ _ by omega) (.int .i64 i)) (show V5.heap.size ≠ _ by omega) (.int .i64 l)) (show V5.heap.size ≠ _ by omega) (.int .i64 t))
      have F1 := (blk_set_ne (i := 4) (blk_set_ne (i := 3) (blk_set_ne (i := 2) (blk_set_ne (i := 1) (blk_set_ne (i := 0) F1 (show V5.heap.size ≠ _ by omega) (.int .i64 s)) (show V5.heap.size ≠ _ by omega) (.int .i64 o)) (show V5.heap.size ≠ _ by omega) (.int .i64 i)) (show V5.heap.size ≠ _ by omega) (.int .i64 l)) (show V5.heap.size ≠ _ by omega) (.int .i64 t))
      have F2 := (blk_set_ne (i := 4) (blk_set_ne (i := 3) (blk_set_ne (i := 2) (blk_set_ne (i := 1) (blk_set_ne (i := 0) F2 (show V5.heap.size ≠ _ by omega) (.int .i64 s)) (show V5.heap.size ≠ _ by omega) (.int .i64 o)) (show V5.heap.size ≠ _ by omega) (.int .i64 i)) (show V5.heap.size ≠ _ by omega) (.int .i64 l)) (show V5.heap.size ≠ _ by omega) (.int .i64 t))
      have N1 := (blk_set_ne (i := 4) (blk_set_ne (i := 3) (blk_set_ne (i := 2) (blk_set_ne (i := 1) (blk_set_ne (i := 0) N1 (show V5.heap.size ≠ V0.heap.size by first | exact dd | exact (Ne.symm dd)) (.int .i64 s)) (show V5.heap.size ≠ V0.heap.size by first | exact dd | exact (Ne.symm dd)) (.int .i64 o)) (show V5.heap.size ≠ V0.heap.size by first | exact dd | exact (Ne.symm dd)) (.int .i64 i)) (show V5.heap.size ≠ V0.heap.size by first | exact dd | exact (Ne.symm dd)) (.int .i64 l)) (show V5.heap.size ≠ V0.heap.size by first | exact dd | exact (Ne.symm dd)) (.int .i64 t))
      have BX := upd_below (g := V5.heap.size) (.int .i64 s) (.int .i64 o) (.int .i64 i) (.int .i64 l) (.int .i64 t) BX (by omega)
      have N0 := upd_set (.int .i64 s) (.int .i64 o) (.int .i64 i) (.int .i64 l) (.int .i64 t) N0
      have sz : w.heap.size + 3 ≤ (((((V6.setCell ⟨V5.heap.size, 0, none⟩ (.int .i64 s)).setCell ⟨V5.heap.size, 1, none⟩ (.int .i64 o)).setCell ⟨V5.heap.size, 2, none⟩ (.int .i64 i)).setCell ⟨V5.heap.size, 3, none⟩ (.int .i64 l)).setCell ⟨V5.heap.size, 4, none⟩ (.int .i64 t)).heap.size := by simpa using sz
      have TT := ten_of F1
      go_simp
      clear c0 c1 c2 c3 c4 z0 z1 z2 z3 z4
      generalize (((((V6.setCell ⟨V5.heap.size, 0, none⟩ (.int .i64 s)).setCell ⟨V5.heap.size, 1, none⟩ (.int .i64 o)).setCell ⟨V5.heap.size, 2, none⟩ (.int .i64 i)).setCell ⟨V5.heap.size, 3, none⟩ (.int .i64 l)).setCell ⟨V5.heap.size, 4, none⟩ (.int .i64 t)) = V7 at *
      refine hK.out _ _ TT (fun hHeld => ?_)
      clear hK K
      try simp only [List.getElem_toArray, List.getElem_cons_zero, List.getElem_cons_succ, Act.put, List.setIfInBounds_toArray, List.set_cons_zero, List.set_cons_succ]
      refine wpAnyH_ready (rs := [7]) (by kernel_rfl) (by simp) ?_
      refine AllReadyH.cons rfl (fun K hK => ?_) (AllReadyH.nil)
      obtain ⟨c0, c1, c2, c3, c4⟩ := five_of N1
      have z0 := frz N1 0
      have z1 := frz N1 1
      have z2 := frz N1 2
      have z3 := frz N1 3
      have z4 := frz N1 4
      have F0 := (blk_set_ne (i := 4) (blk_set_ne (i := 3) (blk_set_ne (i := 2) (blk_set_ne (i := 1) (blk_set_ne (i := 0) F0 (show V0.heap.size ≠ _ by omega) (.int .i64 s2)) (show V0.heap.size ≠ _ by omega) (.int .i64 o2)) (show V0.heap.size ≠ _ by omega) (.int .i64 i2)) (show V0.heap.size ≠ _ by omega) (.int .i64 l2)) (show V0.heap.size ≠ _ by omega) (.int .i64 t2))
      have F1 := (blk_set_ne (i := 4) (blk_set_ne (i := 3) (blk_set_ne (i := 2) (blk_set_ne (i := 1) (blk_set_ne (i := 0) F1 (show V0.heap.size ≠ _ by omega) (.int .i64 s2)) (show V0.heap.size ≠ _ by omega) (.int .i64 o2)) (show V0.heap.size ≠ _ by omega) (.int .i64 i2)) (show V0.heap.size ≠ _ by omega) (.int .i64 l2)) (show V0.heap.size ≠ _ by omega) (.int .i64 t2))
      have F2 := (blk_set_ne (i := 4) (blk_set_ne (i := 3) (blk_set_ne (i := 2) (blk_set_ne (i := 1) (blk_set_ne (i := 0) F2 (show V0.heap.size ≠ _ by omega) (.int .i64 s2)) (show V0.heap.size ≠ _ by omega) (.int .i64 o2)) (show V0.heap.size ≠ _ by omega) (.int .i64 i2)) (show V0.heap.size ≠ _ by omega) (.int .i64 l2)) (show V0.heap.size ≠ _ by omega) (.int .i64 t2))
      have N0 := (blk_set_ne (i := 4) (blk_set_ne (i := 3) (blk_set_ne (i := 2) (blk_set_ne (i := 1) (blk_set_ne (i := 0) N0 (show V0.heap.size ≠ V5.heap.size by first | exact dd | exact (Ne.symm dd)) (.int .i64 s2)) (show V0.heap.size ≠ V5.heap.size by first | exact dd | exact (Ne.symm dd)) (.int .i64 o2)) (show V0.heap.size ≠ V5.heap.size by first | exact dd | exact (Ne.symm dd)) (.int .i64 i2)) (show V0.heap.size ≠ V5.heap.size by first | exact dd | exact (Ne.symm dd)) (.int .i64 l2)) (show V0.heap.size ≠ V5.heap.size by first | exact dd | exact (Ne.symm dd)) (.int .i64 t2))
      have BX := upd_below (g := V0.heap.size) (.int .i64 s2) (.int .i64 o2) (.int .i64 i2) (.int .i64 l2) (.int .i64 t2) BX (by omega)
      have N1 := upd_set (.int .i64 s2) (.int .i64 o2) (.int .i64 i2) (.int .i64 l2) (.int .i64 t2) N1
      have sz : w.heap.size + 3 ≤ (((((V7.setCell ⟨V0.heap.size, 0, none⟩ (.int .i64 s2)).setCell ⟨V0.heap.size, 1, none⟩ (.int .i64 o2)).setCell ⟨V0.heap.size, 2, none⟩ (.int .i64 i2)).setCell ⟨V0.heap.size, 3, none⟩ (.int .i64 l2)).setCell ⟨V0.heap.size, 4, none⟩ (.int .i64 t2)).heap.size := by simpa using sz
      have TT := ten_of F1
      go_simp
      clear c0 c1 c2 c3 c4 z0 z1 z2 z3 z4
      generalize (((((V7.setCell ⟨V0.heap.size, 0, none⟩ (.int .i64 s2)).setCell ⟨V0.heap.size, 1, none⟩ (.int .i64 o2)).setCell ⟨V0.heap.size, 2, none⟩ (.int .i64 i2)).setCell ⟨V0.heap.size, 3, none⟩ (.int .i64 l2)).setCell ⟨V0.heap.size, 4, none⟩ (.int .i64 t2)) = V8 at *
      refine hK.out _ _ TT (fun hHeld => ?_)
      clear hK K
      try simp only [List.getElem_toArray, List.getElem_cons_zero, List.getElem_cons_succ, Act.put, List.setIfInBounds_toArray, List.set_cons_zero, List.set_cons_succ]
      refine wpAnyH_done (by kernel_rfl) ?_ _
      go_wp2_with fail
      go_meet
      exact ⟨_, _, rfl, rfl, N0, N1, F0, F2, by first | exact dd | exact (Ne.symm dd), BX, sz⟩
  case rest =>
    obtain ⟨p, q, rfl, rfl, FP, FQ, F0, F2, hpq, BX, sz⟩ := hcut
    clear F1
    generalize wc = Y at *
    obtain ⟨u0, u1, u2, u3⟩ := quad_of F0; obtain ⟨k0, k1, k2, k3, k4⟩ := five_of FP; obtain ⟨j0, j1, j2, j3, j4⟩ := five_of FQ; obtain ⟨h0, h1, h2, h3⟩ := quad_of F2
    go_wp2_with (first
      | (go_at_call 35; refine (HD.out _).mono ?_; clear HD; rintro e w2 ⟨rfl, b9⟩; clear u0 u1 u2 u3 k0 k1 k2 k3 k4 j0 j1 j2 j3 j4 h0 h1 h2 h3; have F0 := F0.below b9 F0.lt; have FP := FP.below b9 FP.lt; have FQ := FQ.below b9 FQ.lt; have F2 := F2.below b9 F2.lt; have BX := thenB BX b9; have sz : w.heap.size + 3 ≤ w2.heap.size := Nat.le_trans sz b9.size; clear b9; obtain ⟨u0, u1, u2, u3⟩ := quad_of F0; obtain ⟨k0, k1, k2, k3, k4⟩ := five_of FP; obtain ⟨j0, j1, j2, j3, j4⟩ := five_of FQ; obtain ⟨h0, h1, h2, h3⟩ := quad_of F2)
      | (go_at_call 31; refine (HR.out _).mono ?_; clear HR; rintro e w3 ⟨rfl, b9⟩; clear u0 u1 u2 u3 k0 k1 k2 k3 k4 j0 j1 j2 j3 j4 h0 h1 h2 h3; have F0 := F0.below b9 F0.lt; have FP := FP.below b9 FP.lt; have FQ := FQ.below b9 FQ.lt; have F2 := F2.below b9 F2.lt; have BX := thenB BX b9; have sz : w.heap.size + 3 ≤ w3.heap.size := Nat.le_trans sz b9.size; clear b9; obtain ⟨u0, u1, u2, u3⟩ := quad_of F0; obtain ⟨k0, k1, k2, k3, k4⟩ := five_of FP; obtain ⟨j0, j1, j2, j3, j4⟩ := five_of FQ; obtain ⟨h0, h1, h2, h3⟩ := quad_of F2)
      | (go_at_call 13; refine (HU.out _).mono ?_; clear HU; rintro e w4 ⟨rfl, b9⟩; clear u0 u1 u2 u3 k0 k1 k2 k3 k4 j0 j1 j2 j3 j4 h0 h1 h2 h3; have F0 := F0.below b9 F0.lt; have FP := FP.below b9 FP.lt; have FQ := FQ.below b9 FQ.lt; have F2 := F2.below b9 F2.lt; have BX := thenB BX b9; have sz : w.heap.size + 3 ≤ w4.heap.size := Nat.le_trans sz b9.size; clear b9; obtain ⟨u0, u1, u2, u3⟩ := quad_of F0; obtain ⟨k0, k1, k2, k3, k4⟩ := five_of FP; obtain ⟨j0, j1, j2, j3, j4⟩ := five_of FQ; obtain ⟨h0, h1, h2, h3⟩ := quad_of F2))
    go_ret
    exact ⟨rfl, BX⟩
set_option maxRecDepth 100000 in
set_option maxHeartbeats 10000000 in
theorem moved_late (pa sa pb sb s o i l t s2 o2 i2 l2 t2 T n y x D ZZ EU r V0 V1 M1 : Int) (w : World) (HD : Hid (∀ w, Calls Try.prog 35 #[.int .i64 n, upd s o i l t, upd s2 o2 i2 l2 t2] w fun e w' => e = .returned (.tuple #[.int .i64 D, .int .i64 ZZ]) ∧ Below w.heap.size w w')) (HR : Hid (∀ w, Calls Try.prog 31 #[.agg #[.int .i64 pa, .int .i64 sa], .agg #[.int .i64 pb, .int .i64 sb], upd s o i l t, .agg #[.int .i64 T, .int .i64 n, .int .i64 y, .int .i64 x]] w fun e w' => e = .returned (.bool true) ∧ Below w.heap.size w w')) (HU : Hid (∀ w, Calls Try.prog 13 #[upd s2 o2 i2 l2 t2] w fun e w' => e = .returned (.int .i64 EU) ∧ Below w.heap.size w w')) (eu : (EU != 0) = false) (ex : decide (x < 0) = false) (ez : decide (ZZ < x) = false) (H1 : Hid (∀ w, Calls Try.prog 33 #[.agg #[.int .i64 pa, .int .i64 sa], .int .i64 T] w fun e w' => e = .returned (.int .i64 V0) ∧ Below w.heap.size w w')) (e1 : IntKind.i64.wrap (V0 + D) = M1) (e2 : IntKind.i64.wrap (M1 + x) = V1) (H3 : Hid (∀ w, Calls Try.prog 32 #[.agg #[.int .i64 pa, .int .i64 sa], .int .i64 V1] w fun e w' => e = .returned (.int .i64 r) ∧ Below w.heap.size w w')) (hr : decide (1099511627776 ≤ r) = true) :
    Calls Try.prog 10 #[.agg #[.int .i64 pa, .int .i64 sa, .int .i64 pb, .int .i64 sb], .agg #[.int .i64 s, .int .i64 o, .int .i64 i, .int .i64 l, .int .i64 t, .int .i64 s2, .int .i64 o2, .int .i64 i2, .int .i64 l2, .int .i64 t2], .agg #[.int .i64 T, .int .i64 n, .int .i64 y, .int .i64 x]] w fun e w' => e = .returned (.bool true) ∧ Below w.heap.size w w' := by
  have F0 : Mem.Blk (((w.alloc (.cells #[.int .i64 pa, .int .i64 sa, .int .i64 pb, .int .i64 sb] 56)).alloc (.cells #[.int .i64 s, .int .i64 o, .int .i64 i, .int .i64 l, .int .i64 t, .int .i64 s2, .int .i64 o2, .int .i64 i2, .int .i64 l2, .int .i64 t2] 63)).alloc (.cells #[.int .i64 T, .int .i64 n, .int .i64 y, .int .i64 x] 58)) w.heap.size 56 #[.int .i64 pa, .int .i64 sa, .int .i64 pb, .int .i64 sb] := (((Blk.fresh w 56 #[.int .i64 pa, .int .i64 sa, .int .i64 pb, .int .i64 sb]).alloc (.cells #[.int .i64 s, .int .i64 o, .int .i64 i, .int .i64 l, .int .i64 t, .int .i64 s2, .int .i64 o2, .int .i64 i2, .int .i64 l2, .int .i64 t2] 63)).alloc (.cells #[.int .i64 T, .int .i64 n, .int .i64 y, .int .i64 x] 58))
  have F1 : Mem.Blk (((w.alloc (.cells #[.int .i64 pa, .int .i64 sa, .int .i64 pb, .int .i64 sb] 56)).alloc (.cells #[.int .i64 s, .int .i64 o, .int .i64 i, .int .i64 l, .int .i64 t, .int .i64 s2, .int .i64 o2, .int .i64 i2, .int .i64 l2, .int .i64 t2] 63)).alloc (.cells #[.int .i64 T, .int .i64 n, .int .i64 y, .int .i64 x] 58)) (w.heap.size + 1) 63 #[.int .i64 s, .int .i64 o, .int .i64 i, .int .i64 l, .int .i64 t, .int .i64 s2, .int .i64 o2, .int .i64 i2, .int .i64 l2, .int .i64 t2] := by
    have := ((Blk.fresh (w.alloc (.cells #[.int .i64 pa, .int .i64 sa, .int .i64 pb, .int .i64 sb] 56)) 63 #[.int .i64 s, .int .i64 o, .int .i64 i, .int .i64 l, .int .i64 t, .int .i64 s2, .int .i64 o2, .int .i64 i2, .int .i64 l2, .int .i64 t2]).alloc (.cells #[.int .i64 T, .int .i64 n, .int .i64 y, .int .i64 x] 58))
    rwa [World.size_alloc] at this
  have F2 : Mem.Blk (((w.alloc (.cells #[.int .i64 pa, .int .i64 sa, .int .i64 pb, .int .i64 sb] 56)).alloc (.cells #[.int .i64 s, .int .i64 o, .int .i64 i, .int .i64 l, .int .i64 t, .int .i64 s2, .int .i64 o2, .int .i64 i2, .int .i64 l2, .int .i64 t2] 63)).alloc (.cells #[.int .i64 T, .int .i64 n, .int .i64 y, .int .i64 x] 58)) (w.heap.size + 2) 58 #[.int .i64 T, .int .i64 n, .int .i64 y, .int .i64 x] := by
    have := (Blk.fresh ((w.alloc (.cells #[.int .i64 pa, .int .i64 sa, .int .i64 pb, .int .i64 sb] 56)).alloc (.cells #[.int .i64 s, .int .i64 o, .int .i64 i, .int .i64 l, .int .i64 t, .int .i64 s2, .int .i64 o2, .int .i64 i2, .int .i64 l2, .int .i64 t2] 63)) 58 #[.int .i64 T, .int .i64 n, .int .i64 y, .int .i64 x])
    rwa [World.size_alloc, World.size_alloc] at this
  have hbel : Below w.heap.size w (((w.alloc (.cells #[.int .i64 pa, .int .i64 sa, .int .i64 pb, .int .i64 sb] 56)).alloc (.cells #[.int .i64 s, .int .i64 o, .int .i64 i, .int .i64 l, .int .i64 t, .int .i64 s2, .int .i64 o2, .int .i64 i2, .int .i64 l2, .int .i64 t2] 63)).alloc (.cells #[.int .i64 T, .int .i64 n, .int .i64 y, .int .i64 x] 58)) := ((((Below.refl _ w).alloc (Nat.le_refl _) _).alloc (by simp) _).alloc (by simp; omega) _)
  have sz : w.heap.size + 3 ≤ (((w.alloc (.cells #[.int .i64 pa, .int .i64 sa, .int .i64 pb, .int .i64 sb] 56)).alloc (.cells #[.int .i64 s, .int .i64 o, .int .i64 i, .int .i64 l, .int .i64 t, .int .i64 s2, .int .i64 o2, .int .i64 i2, .int .i64 l2, .int .i64 t2] 63)).alloc (.cells #[.int .i64 T, .int .i64 n, .int .i64 y, .int .i64 x] 58)).heap.size := by simp
  have BX := hbel
  clear hbel
  have HL := Lib.hid lives_any
  go_enter Try.func10, Try.ntmps10
  go_wp2_with fail
  generalize (((w.alloc (.cells #[.int .i64 pa, .int .i64 sa, .int .i64 pb, .int .i64 sb] 56)).alloc (.cells #[.int .i64 s, .int .i64 o, .int .i64 i, .int .i64 l, .int .i64 t, .int .i64 s2, .int .i64 o2, .int .i64 i2, .int .i64 l2, .int .i64 t2] 63)).alloc (.cells #[.int .i64 T, .int .i64 n, .int .i64 y, .int .i64 x] 58)) = W at *
  go_wp2_with (go_at_call 11; refine (HL.out _).mono ?_; clear HL; rintro e w1 ⟨rfl, b9⟩; have F0 := F0.below b9 F0.lt; have F1 := F1.below b9 F1.lt; have F2 := F2.below b9 F2.lt; have BX := thenB BX b9; have sz : w.heap.size + 3 ≤ w1.heap.size := Nat.le_trans sz b9.size; clear b9)
  go_cut [7, 8] from 16 to 19 (fun s7 s8 wx => ∃ p q, s7 = .pointer (some ⟨p, 0, none⟩) ∧ s8 = .pointer (some ⟨q, 0, none⟩) ∧ Blk wx p 23 #[.int .i64 s, .int .i64 o, .int .i64 i, .int .i64 l, .int .i64 t] ∧ Blk wx q 23 #[.int .i64 s2, .int .i64 o2, .int .i64 i2, .int .i64 l2, .int .i64 t2] ∧ Blk wx w.heap.size 56 #[.int .i64 pa, .int .i64 sa, .int .i64 pb, .int .i64 sb] ∧ Blk wx (w.heap.size + 2) 58 #[.int .i64 T, .int .i64 n, .int .i64 y, .int .i64 x] ∧ p ≠ q ∧ Below w.heap.size w wx ∧ w.heap.size + 3 ≤ wx.heap.size)
  case first =>
    go_wp2_with fail
    refine wp_region_held_drew (S := (fun w' => Ten w' (w.heap.size + 1) s o i l t s2 o2 i2 l2 t2)) (by kernel_rfl) ?_ (fun hHeld => ?_)
    · exact ten_of F1
    have TT : Ten w1.drew (w.heap.size + 1) s o i l t s2 o2 i2 l2 t2 := ten_of F1.drew
    have F0 := F0.drew
    have F1 := F1.drew
    have F2 := F2.drew
    have BX := BX.drew
    have sz : w.heap.size + 3 ≤ w1.drew.heap.size := sz
    generalize w1.drew = V0 at *
    refine wpAnyH_take (i := 0) (v := .pointer (some ⟨w.heap.size + 1, 0, none⟩)) rfl (by kernel_rfl) (by kernel_rfl) (by kernel_rfl) (fun _ _ _ h => h) (Or.inl ⟨by first | rfl | go_simp, by intro w9 hSw; (try dsimp only at hSw); go_simp⟩) (by assumption) ?_
    simp only [List.getElem_toArray, List.getElem_cons_zero, List.getElem_cons_succ, Act.put, List.setIfInBounds_toArray, List.set_cons_zero, List.set_cons_succ]
    refine wpAnyH_take (i := 1) (v := .agg #[.int .i64 s, .int .i64 o, .int .i64 i, .int .i64 l, .int .i64 t]) rfl (by kernel_rfl) (by kernel_rfl) (by kernel_rfl) (fun _ _ _ h => h) (Or.inl ⟨by first | rfl | go_simp, by intro w9 hSw; (try dsimp only at hSw); go_simp⟩) (by assumption) ?_
    simp only [List.getElem_toArray, List.getElem_cons_zero, List.getElem_cons_succ, Act.put, List.setIfInBounds_toArray, List.set_cons_zero, List.set_cons_succ]
    refine wpAnyH_take (i := 2) (v := .pointer (some ⟨w.heap.size + 1, 5, none⟩)) rfl (by kernel_rfl) (by kernel_rfl) (by kernel_rfl) (fun _ _ _ h => h) (Or.inl ⟨by first | rfl | go_simp, by intro w9 hSw; (try dsimp only at hSw); go_simp⟩) (by assumption) ?_
    simp only [List.getElem_toArray, List.getElem_cons_zero, List.getElem_cons_succ, Act.put, List.setIfInBounds_toArray, List.set_cons_zero, List.set_cons_succ]
    refine wpAnyH_take (i := 3) (v := .agg #[.int .i64 s2, .int .i64 o2, .int .i64 i2, .int .i64 l2, .int .i64 t2]) rfl (by kernel_rfl) (by kernel_rfl) (by kernel_rfl) (fun _ _ _ h => h) (Or.inl ⟨by first | rfl | go_simp, by intro w9 hSw; (try dsimp only at hSw); go_simp⟩) (by assumption) ?_
    simp only [List.getElem_toArray, List.getElem_cons_zero, List.getElem_cons_succ, Act.put, List.setIfInBounds_toArray, List.set_cons_zero, List.set_cons_succ]
    refine wpAnyH_ready (rs := [4, 5]) (by kernel_rfl) (by simp) ?_
    refine AllReadyH.cons rfl (fun K hK => ?_) (AllReadyH.cons rfl (fun K hK => ?_) (AllReadyH.nil))
    · skip
      go_simp
      have b9 := (Below.refl V0.heap.size V0).alloc (Nat.le_refl _) (.cells #[.int .i64 0, .int .i64 0, .int .i64 0, .int .i64 0, .int .i64 0] 23)
      have N0 := Blk.fresh V0 23 #[.int .i64 0, .int .i64 0, .int .i64 0, .int .i64 0, .int .i64 0]
      have n0 : w.heap.size + 3 ≤ V0.heap.size := sz
      generalize V0.alloc (.cells #[.int .i64 0, .int .i64 0, .int .i64 0, .int .i64 0, .int .i64 0] 23) = V1 at *
      have F0 := F0.below b9 F0.lt
      have F1 := F1.below b9 F1.lt
      have F2 := F2.below b9 F2.lt
      have TT := ten_of F1
      have BX := thenB BX b9
      have sz := Nat.le_trans sz b9.size
      refine hK.out _ _ TT (fun hHeld => ?_)
      clear hK K
      try simp only [List.getElem_toArray, List.getElem_cons_zero, List.getElem_cons_succ, Act.put, List.setIfInBounds_toArray, List.set_cons_zero, List.set_cons_succ]
      refine wpAnyH_ready (rs := [5]) (by kernel_rfl) (by simp) ?_
      refine AllReadyH.cons rfl (fun K hK => ?_) (AllReadyH.nil)
      go_simp
      have b9 := (Below.refl V1.heap.size V1).alloc (Nat.le_refl _) (.cells #[.int .i64 0, .int .i64 0, .int .i64 0, .int .i64 0, .int .i64 0] 23)
      have N1 := Blk.fresh V1 23 #[.int .i64 0, .int .i64 0, .int .i64 0, .int .i64 0, .int .i64 0]
      have n1 : w.heap.size + 3 ≤ V1.heap.size := sz
      have dd : V1.heap.size ≠ V0.heap.size := Nat.ne_of_gt N0.lt
      generalize V1.alloc (.cells #[.int .i64 0, .int .i64 0, .int .i64 0, .int .i64 0, .int .i64 0] 23) = V2 at *
      have F0 := F0.below b9 F0.lt
      have F1 := F1.below b9 F1.lt
      have F2 := F2.below b9 F2.lt
      have TT := ten_of F1
      have BX := thenB BX b9
      have sz := Nat.le_trans sz b9.size
      have N0 := N0.below b9 N0.lt
      refine hK.out _ _ TT (fun hHeld => ?_)
      clear hK K
      try simp only [List.getElem_toArray, List.getElem_cons_zero, List.getElem_cons_succ, Act.put, List.setIfInBounds_toArray, List.set_cons_zero, List.set_cons_succ]
      refine wpAnyH_ready (rs := [6]) (by kernel_rfl) (by simp) ?_
      refine AllReadyH.cons rfl (fun K hK => ?_) (AllReadyH.nil)
      obtain ⟨c0, c1, c2, c3, c4⟩ := five_of N0
      have z0 := frz N0 0
      have z1 := frz N0 1
      have z2 := frz N0 2
      have z3 := frz N0 3
      have z4 := frz N0 4
      have F0 := (blk_set_ne (i := 4) (blk_set_ne (i := 3) (blk_set_ne (i := 2) (blk_set_ne (i := 1) (blk_set_ne (i := 0) F0 (show V0.heap.size ≠ _ by omega) (.int .i64 s)) (show V0.heap.size ≠ _ by omega) (.int .i64 o)) (show V0.heap.size ≠ _ by omega) (.int .i64 i)) (show V0.heap.size ≠ _ by omega) (.int .i64 l)) (show V0.heap.size ≠ _ by omega) (.int .i64 t))
      have F1 := (blk_set_ne (i := 4) (blk_set_ne (i := 3) (blk_set_ne (i := 2) (blk_set_ne (i := 1) (blk_set_ne (i := 0) F1 (show V0.heap.size ≠ _ by omega) (.int .i64 s)) (show V0.heap.size ≠ _ by omega) (.int .i64 o)) (show V0.heap.size ≠ _ by omega) (.int .i64 i)) (show V0.heap.size ≠ _ by omega) (.int .i64 l)) (show V0.heap.size ≠ _ by omega) (.int .i64 t))
      have F2 := (blk_set_ne (i := 4) (blk_set_ne (i := 3) (blk_set_ne (i := 2) (blk_set_ne (i := 1) (blk_set_ne (i := 0) F2 (show V0.heap.size ≠ _ by omega) (.int .i64 s)) (show V0.heap.size ≠ _ by omega) (.int .i64 o)) (show V0.heap.size ≠ _ by omega) (.int .i64 i)) (show V0.heap.size ≠ _ by omega) (.int .i64 l)) (show V0.heap.size ≠ _ by omega) (.int .i64 t))
      have N1 := (blk_set_ne (i := 4) (blk_set_ne (i := 3) (blk_set_ne (i := 2) (blk_set_ne (i := 1) (blk_set_ne (i := 0) N1 (show V0.heap.size ≠ V1.heap.size by first | exact dd | exact (Ne.symm dd)) (.int .i64 s)) (show V0.heap.size ≠ V1.heap.size by first | exact dd | exact (Ne.symm dd)) (.int .i64 o)) (show V0.heap.size ≠ V1.heap.size by first | exact dd | exact (Ne.symm dd)) (.int .i64 i)) (show V0.heap.size ≠ V1.heap.size by first | exact dd | exact (Ne.symm dd)) (.int .i64 l)) (show V0.heap.size ≠ V1.heap.size by first | exact dd | exact (Ne.symm dd)) (.int .i64 t))
      have BX := upd_below (g := V0.heap.size) (.int .i64 s) (.int .i64 o) (.int .i64 i) (.int .i64 l) (.int .i64 t) BX (by omega)
      have N0 := upd_set (.int .i64 s) (.int .i64 o) (.int .i64 i) (.int .i64 l) (.int .i64 t) N0
      have sz : w.heap.size + 3 ≤ (((((V2.setCell ⟨V0.heap.size, 0, none⟩ (.int .i64 s)).setCell ⟨V0.heap.size, 1, none⟩ (.int .i64 o)).setCell ⟨V0.heap.size, 2, none⟩ (.int .i64 i)).setCell ⟨V0.heap.size, 3, none⟩ (.int .i64 l)).setCell ⟨V0.heap.size, 4, none⟩ (.int .i64 t)).heap.size := by simpa using sz
      have TT := ten_of F1
      go_simp
      clear c0 c1 c2 c3 c4 z0 z1 z2 z3 z4
      generalize (((((V2.setCell ⟨V0.heap.size, 0, none⟩ (.int .i64 s)).setCell ⟨V0.heap.size, 1, none⟩ (.int .i64 o)).setCell ⟨V0.heap.size, 2, none⟩ (.int .i64 i)).setCell ⟨V0.heap.size, 3, none⟩ (.int .i64 l)).setCell ⟨V0.heap.size, 4, none⟩ (.int .i64 t)) = V3 at *
      refine hK.out _ _ TT (fun hHeld => ?_)
      clear hK K
      try simp only [List.getElem_toArray, List.getElem_cons_zero, List.getElem_cons_succ, Act.put, List.setIfInBounds_toArray, List.set_cons_zero, List.set_cons_succ]
      refine wpAnyH_ready (rs := [7]) (by kernel_rfl) (by simp) ?_
      refine AllReadyH.cons rfl (fun K hK => ?_) (AllReadyH.nil)
      obtain ⟨c0, c1, c2, c3, c4⟩ := five_of N1
      have z0 := frz N1 0
      have z1 := frz N1 1
      have z2 := frz N1 2
      have z3 := frz N1 3
      have z4 := frz N1 4
      have F0 := (blk_set_ne (i := 4) (blk_set_ne (i := 3) (blk_set_ne (i := 2) (blk_set_ne (i := 1) (blk_set_ne (i := 0) F0 (show V1.heap.size ≠ _ by omega) (.int .i64 s2)) (show V1.heap.size ≠ _ by omega) (.int .i64 o2)) (show V1.heap.size ≠ _ by omega) (.int .i64 i2)) (show V1.heap.size ≠ _ by omega) (.int .i64 l2)) (show V1.heap.size ≠ _ by omega) (.int .i64 t2))
      have F1 := (blk_set_ne (i := 4) (blk_set_ne (i := 3) (blk_set_ne (i := 2) (blk_set_ne (i := 1) (blk_set_ne (i := 0) F1 (show V1.heap.size ≠ _ by omega) (.int .i64 s2)) (show V1.heap.size ≠ _ by omega) (.int .i64 o2)) (show V1.heap.size ≠ _ by omega) (.int .i64 i2)) (show V1.heap.size ≠ _ by omega) (.int .i64 l2)) (show V1.heap.size ≠ _ by omega) (.int .i64 t2))
      have F2 := (blk_set_ne (i := 4) (blk_set_ne (i := 3) (blk_set_ne (i := 2) (blk_set_ne (i := 1) (blk_set_ne (i := 0) F2 (show V1.heap.size ≠ _ by omega) (.int .i64 s2)) (show V1.heap.size ≠ _ by omega) (.int .i64 o2)) (show V1.heap.size ≠ _ by omega) (.int .i64 i2)) (show V1.heap.size ≠ _ by omega) (.int .i64 l2)) (show V1.heap.size ≠ _ by omega) (.int .i64 t2))
      have N0 := (blk_set_ne (i := 4) (blk_set_ne (i := 3) (blk_set_ne (i := 2) (blk_set_ne (i := 1) (blk_set_ne (i := 0) N0 (show V1.heap.size ≠ V0.heap.size by first | exact dd | exact (Ne.symm dd)) (.int .i64 s2)) (show V1.heap.size ≠ V0.heap.size by first | exact dd | exact (Ne.symm dd)) (.int .i64 o2)) (show V1.heap.size ≠ V0.heap.size by first | exact dd | exact (Ne.symm dd)) (.int .i64 i2)) (show V1.heap.size ≠ V0.heap.size by first | exact dd | exact (Ne.symm dd)) (.int .i64 l2)) (show V1.heap.size ≠ V0.heap.size by first | exact dd | exact (Ne.symm dd)) (.int .i64 t2))
      have BX := upd_below (g := V1.heap.size) (.int .i64 s2) (.int .i64 o2) (.int .i64 i2) (.int .i64 l2) (.int .i64 t2) BX (by omega)
      have N1 := upd_set (.int .i64 s2) (.int .i64 o2) (.int .i64 i2) (.int .i64 l2) (.int .i64 t2) N1
      have sz : w.heap.size + 3 ≤ (((((V3.setCell ⟨V1.heap.size, 0, none⟩ (.int .i64 s2)).setCell ⟨V1.heap.size, 1, none⟩ (.int .i64 o2)).setCell ⟨V1.heap.size, 2, none⟩ (.int .i64 i2)).setCell ⟨V1.heap.size, 3, none⟩ (.int .i64 l2)).setCell ⟨V1.heap.size, 4, none⟩ (.int .i64 t2)).heap.size := by simpa using sz
      have TT := ten_of F1
      go_simp
      clear c0 c1 c2 c3 c4 z0 z1 z2 z3 z4
      generalize (((((V3.setCell ⟨V1.heap.size, 0, none⟩ (.int .i64 s2)).setCell ⟨V1.heap.size, 1, none⟩ (.int .i64 o2)).setCell ⟨V1.heap.size, 2, none⟩ (.int .i64 i2)).setCell ⟨V1.heap.size, 3, none⟩ (.int .i64 l2)).setCell ⟨V1.heap.size, 4, none⟩ (.int .i64 t2)) = V4 at *
      refine hK.out _ _ TT (fun hHeld => ?_)
      clear hK K
      try simp only [List.getElem_toArray, List.getElem_cons_zero, List.getElem_cons_succ, Act.put, List.setIfInBounds_toArray, List.set_cons_zero, List.set_cons_succ]
      refine wpAnyH_done (by kernel_rfl) ?_ _
      go_wp2_with fail
      go_meet
      exact ⟨_, _, rfl, rfl, N0, N1, F0, F2, by first | exact dd | exact (Ne.symm dd), BX, sz⟩
    · skip
      go_simp
      have b9 := (Below.refl V0.heap.size V0).alloc (Nat.le_refl _) (.cells #[.int .i64 0, .int .i64 0, .int .i64 0, .int .i64 0, .int .i64 0] 23)
      have N1 := Blk.fresh V0 23 #[.int .i64 0, .int .i64 0, .int .i64 0, .int .i64 0, .int .i64 0]
      have n1 : w.heap.size + 3 ≤ V0.heap.size := sz
      generalize V0.alloc (.cells #[.int .i64 0, .int .i64 0, .int .i64 0, .int .i64 0, .int .i64 0] 23) = V5 at *
      have F0 := F0.below b9 F0.lt
      have F1 := F1.below b9 F1.lt
      have F2 := F2.below b9 F2.lt
      have TT := ten_of F1
      have BX := thenB BX b9
      have sz := Nat.le_trans sz b9.size
      refine hK.out _ _ TT (fun hHeld => ?_)
      clear hK K
      try simp only [List.getElem_toArray, List.getElem_cons_zero, List.getElem_cons_succ, Act.put, List.setIfInBounds_toArray, List.set_cons_zero, List.set_cons_succ]
      refine wpAnyH_ready (rs := [4]) (by kernel_rfl) (by simp) ?_
      refine AllReadyH.cons rfl (fun K hK => ?_) (AllReadyH.nil)
      go_simp
      have b9 := (Below.refl V5.heap.size V5).alloc (Nat.le_refl _) (.cells #[.int .i64 0, .int .i64 0, .int .i64 0, .int .i64 0, .int .i64 0] 23)
      have N0 := Blk.fresh V5 23 #[.int .i64 0, .int .i64 0, .int .i64 0, .int .i64 0, .int .i64 0]
      have n0 : w.heap.size + 3 ≤ V5.heap.size := sz
      have dd : V5.heap.size ≠ V0.heap.size := Nat.ne_of_gt N1.lt
      generalize V5.alloc (.cells #[.int .i64 0, .int .i64 0, .int .i64 0, .int .i64 0, .int .i64 0] 23) = V6 at *
      have F0 := F0.below b9 F0.lt
      have F1 := F1.below b9 F1.lt
      have F2 := F2.below b9 F2.lt
      have TT := ten_of F1
      have BX := thenB BX b9
      have sz := Nat.le_trans sz b9.size
      have N1 := N1.below b9 N1.lt
      refine hK.out _ _ TT (fun hHeld => ?_)
      clear hK K
      try simp only [List.getElem_toArray, List.getElem_cons_zero, List.getElem_cons_succ, Act.put, List.setIfInBounds_toArray, List.set_cons_zero, List.set_cons_succ]
      refine wpAnyH_ready (rs := [6]) (by kernel_rfl) (by simp) ?_
      refine AllReadyH.cons rfl (fun K hK => ?_) (AllReadyH.nil)
      obtain ⟨c0, c1, c2, c3, c4⟩ := five_of N0
      have z0 := frz N0 0
      have z1 := frz N0 1
      have z2 := frz N0 2
      have z3 := frz N0 3
      have z4 := frz N0 4
      have F0 := (blk_set_ne (i := 4) (blk_set_ne (i := 3) (blk_set_ne (i := 2) (blk_set_ne (i := 1) (blk_set_ne (i := 0) F0 (show V5.heap.size ≠ _ by omega) (.int .i64 s)) (show V5.heap.size ≠ _ by omega) (.int .i64 o)) (show V5.heap.size ≠ _ by omega) (.int .i64 i)) (show V5.heap.size ≠ _ by omega) (.int .i64 l)) (show V5.heap.size ≠ _ by omega) (.int .i64 t))
      have F1 := (blk_set_ne (i := 4) (blk_set_ne (i := 3) (blk_set_ne (i := 2) (blk_set_ne (i := 1) (blk_set_ne (i := 0) F1 (show V5.heap.size ≠ _ by omega) (.int .i64 s)) (show V5.heap.size ≠ _ by omega) (.int .i64 o)) (show V5.heap.size ≠ _ by omega) (.int .i64 i)) (show V5.heap.size ≠ _ by omega) (.int .i64 l)) (show V5.heap.size ≠ _ by omega) (.int .i64 t))
      have F2 := (blk_set_ne (i := 4) (blk_set_ne (i := 3) (blk_set_ne (i := 2) (blk_set_ne (i := 1) (blk_set_ne (i := 0) F2 (show V5.heap.size ≠ _ by omega) (.int .i64 s)) (show V5.heap.size ≠ _ by omega) (.int .i64 o)) (show V5.heap.size ≠ _ by omega) (.int .i64 i)) (show V5.heap.size ≠ _ by omega) (.int .i64 l)) (show V5.heap.size ≠ _ by omega) (.int .i64 t))
      have N1 := (blk_set_ne (i := 4) (blk_set_ne (i := 3) (blk_set_ne (i := 2) (blk_set_ne (i := 1) (blk_set_ne (i := 0) N1 (show V5.heap.size ≠ V0.heap.size by first | exact dd | exact (Ne.symm dd)) (.int .i64 s)) (show V5.heap.size ≠ V0.heap.size by first | exact dd | exact (Ne.symm dd)) (.int .i64 o)) (show V5.heap.size ≠ V0.heap.size by first | exact dd | exact (Ne.symm dd)) (.int .i64 i)) (show V5.heap.size ≠ V0.heap.size by first | exact dd | exact (Ne.symm dd)) (.int .i64 l)) (show V5.heap.size ≠ V0.heap.size by first | exact dd | exact (Ne.symm dd)) (.int .i64 t))
      have BX := upd_below (g := V5.heap.size) (.int .i64 s) (.int .i64 o) (.int .i64 i) (.int .i64 l) (.int .i64 t) BX (by omega)
      have N0 := upd_set (.int .i64 s) (.int .i64 o) (.int .i64 i) (.int .i64 l) (.int .i64 t) N0
      have sz : w.heap.size + 3 ≤ (((((V6.setCell ⟨V5.heap.size, 0, none⟩ (.int .i64 s)).setCell ⟨V5.heap.size, 1, none⟩ (.int .i64 o)).setCell ⟨V5.heap.size, 2, none⟩ (.int .i64 i)).setCell ⟨V5.heap.size, 3, none⟩ (.int .i64 l)).setCell ⟨V5.heap.size, 4, none⟩ (.int .i64 t)).heap.size := by simpa using sz
      have TT := ten_of F1
      go_simp
      clear c0 c1 c2 c3 c4 z0 z1 z2 z3 z4
      generalize (((((V6.setCell ⟨V5.heap.size, 0, none⟩ (.int .i64 s)).setCell ⟨V5.heap.size, 1, none⟩ (.int .i64 o)).setCell ⟨V5.heap.size, 2, none⟩ (.int .i64 i)).setCell ⟨V5.heap.size, 3, none⟩ (.int .i64 l)).setCell ⟨V5.heap.size, 4, none⟩ (.int .i64 t)) = V7 at *
      refine hK.out _ _ TT (fun hHeld => ?_)
      clear hK K
      try simp only [List.getElem_toArray, List.getElem_cons_zero, List.getElem_cons_succ, Act.put, List.setIfInBounds_toArray, List.set_cons_zero, List.set_cons_succ]
      refine wpAnyH_ready (rs := [7]) (by kernel_rfl) (by simp) ?_
      refine AllReadyH.cons rfl (fun K hK => ?_) (AllReadyH.nil)
      obtain ⟨c0, c1, c2, c3, c4⟩ := five_of N1
      have z0 := frz N1 0
      have z1 := frz N1 1
      have z2 := frz N1 2
      have z3 := frz N1 3
      have z4 := frz N1 4
      have F0 := (blk_set_ne (i := 4) (blk_set_ne (i := 3) (blk_set_ne (i := 2) (blk_set_ne (i := 1) (blk_set_ne (i := 0) F0 (show V0.heap.size ≠ _ by omega) (.int .i64 s2)) (show V0.heap.size ≠ _ by omega) (.int .i64 o2)) (show V0.heap.size ≠ _ by omega) (.int .i64 i2)) (show V0.heap.size ≠ _ by omega) (.int .i64 l2)) (show V0.heap.size ≠ _ by omega) (.int .i64 t2))
      have F1 := (blk_set_ne (i := 4) (blk_set_ne (i := 3) (blk_set_ne (i := 2) (blk_set_ne (i := 1) (blk_set_ne (i := 0) F1 (show V0.heap.size ≠ _ by omega) (.int .i64 s2)) (show V0.heap.size ≠ _ by omega) (.int .i64 o2)) (show V0.heap.size ≠ _ by omega) (.int .i64 i2)) (show V0.heap.size ≠ _ by omega) (.int .i64 l2)) (show V0.heap.size ≠ _ by omega) (.int .i64 t2))
      have F2 := (blk_set_ne (i := 4) (blk_set_ne (i := 3) (blk_set_ne (i := 2) (blk_set_ne (i := 1) (blk_set_ne (i := 0) F2 (show V0.heap.size ≠ _ by omega) (.int .i64 s2)) (show V0.heap.size ≠ _ by omega) (.int .i64 o2)) (show V0.heap.size ≠ _ by omega) (.int .i64 i2)) (show V0.heap.size ≠ _ by omega) (.int .i64 l2)) (show V0.heap.size ≠ _ by omega) (.int .i64 t2))
      have N0 := (blk_set_ne (i := 4) (blk_set_ne (i := 3) (blk_set_ne (i := 2) (blk_set_ne (i := 1) (blk_set_ne (i := 0) N0 (show V0.heap.size ≠ V5.heap.size by first | exact dd | exact (Ne.symm dd)) (.int .i64 s2)) (show V0.heap.size ≠ V5.heap.size by first | exact dd | exact (Ne.symm dd)) (.int .i64 o2)) (show V0.heap.size ≠ V5.heap.size by first | exact dd | exact (Ne.symm dd)) (.int .i64 i2)) (show V0.heap.size ≠ V5.heap.size by first | exact dd | exact (Ne.symm dd)) (.int .i64 l2)) (show V0.heap.size ≠ V5.heap.size by first | exact dd | exact (Ne.symm dd)) (.int .i64 t2))
      have BX := upd_below (g := V0.heap.size) (.int .i64 s2) (.int .i64 o2) (.int .i64 i2) (.int .i64 l2) (.int .i64 t2) BX (by omega)
      have N1 := upd_set (.int .i64 s2) (.int .i64 o2) (.int .i64 i2) (.int .i64 l2) (.int .i64 t2) N1
      have sz : w.heap.size + 3 ≤ (((((V7.setCell ⟨V0.heap.size, 0, none⟩ (.int .i64 s2)).setCell ⟨V0.heap.size, 1, none⟩ (.int .i64 o2)).setCell ⟨V0.heap.size, 2, none⟩ (.int .i64 i2)).setCell ⟨V0.heap.size, 3, none⟩ (.int .i64 l2)).setCell ⟨V0.heap.size, 4, none⟩ (.int .i64 t2)).heap.size := by simpa using sz
      have TT := ten_of F1
      go_simp
      clear c0 c1 c2 c3 c4 z0 z1 z2 z3 z4
      generalize (((((V7.setCell ⟨V0.heap.size, 0, none⟩ (.int .i64 s2)).setCell ⟨V0.heap.size, 1, none⟩ (.int .i64 o2)).setCell ⟨V0.heap.size, 2, none⟩ (.int .i64 i2)).setCell ⟨V0.heap.size, 3, none⟩ (.int .i64 l2)).setCell ⟨V0.heap.size, 4, none⟩ (.int .i64 t2)) = V8 at *
      refine hK.out _ _ TT (fun hHeld => ?_)
      clear hK K
      try simp only [List.getElem_toArray, List.getElem_cons_zero, List.getElem_cons_succ, Act.put, List.setIfInBounds_toArray, List.set_cons_zero, List.set_cons_succ]
      refine wpAnyH_done (by kernel_rfl) ?_ _
      go_wp2_with fail
      go_meet
      exact ⟨_, _, rfl, rfl, N0, N1, F0, F2, by first | exact dd | exact (Ne.symm dd), BX, sz⟩
  case rest =>
    obtain ⟨p, q, rfl, rfl, FP, FQ, F0, F2, hpq, BX, sz⟩ := hcut
    clear F1
    generalize wc = Y at *
    obtain ⟨u0, u1, u2, u3⟩ := quad_of F0; obtain ⟨k0, k1, k2, k3, k4⟩ := five_of FP; obtain ⟨j0, j1, j2, j3, j4⟩ := five_of FQ; obtain ⟨h0, h1, h2, h3⟩ := quad_of F2
    go_wp2_with (first
      | (go_at_call 35; refine (HD.out _).mono ?_; clear HD; rintro e w2 ⟨rfl, b9⟩; clear u0 u1 u2 u3 k0 k1 k2 k3 k4 j0 j1 j2 j3 j4 h0 h1 h2 h3; have F0 := F0.below b9 F0.lt; have FP := FP.below b9 FP.lt; have FQ := FQ.below b9 FQ.lt; have F2 := F2.below b9 F2.lt; have BX := thenB BX b9; have sz : w.heap.size + 3 ≤ w2.heap.size := Nat.le_trans sz b9.size; clear b9; obtain ⟨u0, u1, u2, u3⟩ := quad_of F0; obtain ⟨k0, k1, k2, k3, k4⟩ := five_of FP; obtain ⟨j0, j1, j2, j3, j4⟩ := five_of FQ; obtain ⟨h0, h1, h2, h3⟩ := quad_of F2)
      | (go_at_call 31; refine (HR.out _).mono ?_; clear HR; rintro e w3 ⟨rfl, b9⟩; clear u0 u1 u2 u3 k0 k1 k2 k3 k4 j0 j1 j2 j3 j4 h0 h1 h2 h3; have F0 := F0.below b9 F0.lt; have FP := FP.below b9 FP.lt; have FQ := FQ.below b9 FQ.lt; have F2 := F2.below b9 F2.lt; have BX := thenB BX b9; have sz : w.heap.size + 3 ≤ w3.heap.size := Nat.le_trans sz b9.size; clear b9; obtain ⟨u0, u1, u2, u3⟩ := quad_of F0; obtain ⟨k0, k1, k2, k3, k4⟩ := five_of FP; obtain ⟨j0, j1, j2, j3, j4⟩ := five_of FQ; obtain ⟨h0, h1, h2, h3⟩ := quad_of F2)
      | (go_at_call 13; refine (HU.out _).mono ?_; clear HU; rintro e w4 ⟨rfl, b9⟩; clear u0 u1 u2 u3 k0 k1 k2 k3 k4 j0 j1 j2 j3 j4 h0 h1 h2 h3; have F0 := F0.below b9 F0.lt; have FP := FP.below b9 FP.lt; have FQ := FQ.below b9 FQ.lt; have F2 := F2.below b9 F2.lt; have BX := thenB BX b9; have sz : w.heap.size + 3 ≤ w4.heap.size := Nat.le_trans sz b9.size; clear b9; obtain ⟨h0, h1, h2, h3⟩ := quad_of F2))
    clear h0 h1 h2 h3
    refine wp_region_held_drew (S := (fun w' => Quad w' (w.heap.size) pa sa pb sb ∧ Five w' p s o i l t ∧ Five w' q s2 o2 i2 l2 t2 ∧ Quad w' (w.heap.size + 2) T n y x)) (by kernel_rfl) ?_ (fun hHeld => ?_)
    · exact And.intro (quad_of F0) (And.intro (five_of FP) (And.intro (five_of FQ) (quad_of F2)))
    have TT : Quad w4.drew (w.heap.size) pa sa pb sb ∧ Five w4.drew p s o i l t ∧ Five w4.drew q s2 o2 i2 l2 t2 ∧ Quad w4.drew (w.heap.size + 2) T n y x := ⟨quad_of F0.drew, five_of FP.drew, five_of FQ.drew, quad_of F2.drew⟩
    have F0 := F0.drew
    have FP := FP.drew
    have FQ := FQ.drew
    have F2 := F2.drew
    have BX := BX.drew
    have sz : w.heap.size + 3 ≤ w4.drew.heap.size := sz
    generalize w4.drew = X0 at *
    refine wpAnyH_take (i := 0) (v := .pointer (some ⟨w.heap.size, 0, none⟩)) rfl (by kernel_rfl) (by kernel_rfl) (by kernel_rfl) (fun _ _ _ h => h) (Or.inl ⟨by first | rfl | go_simp, by intro w9 hSw; (try dsimp only at hSw); go_simp⟩) (by assumption) ?_
    simp only [List.getElem_toArray, List.getElem_cons_zero, List.getElem_cons_succ, Act.put, List.setIfInBounds_toArray, List.set_cons_zero, List.set_cons_succ]
    refine wpAnyH_take (i := 1) (v := .agg #[.int .i64 pa, .int .i64 sa]) rfl (by kernel_rfl) (by kernel_rfl) (by kernel_rfl) (fun _ _ _ h => h) (Or.inl ⟨by first | rfl | go_simp, by intro w9 hSw; (try dsimp only at hSw); go_simp⟩) (by assumption) ?_
    simp only [List.getElem_toArray, List.getElem_cons_zero, List.getElem_cons_succ, Act.put, List.setIfInBounds_toArray, List.set_cons_zero, List.set_cons_succ]
    refine wpAnyH_take (i := 2) (v := .pointer (some ⟨w.heap.size, 0, none⟩)) rfl (by kernel_rfl) (by kernel_rfl) (by kernel_rfl) (fun _ _ _ h => h) (Or.inl ⟨by first | rfl | go_simp, by intro w9 hSw; (try dsimp only at hSw); go_simp⟩) (by assumption) ?_
    simp only [List.getElem_toArray, List.getElem_cons_zero, List.getElem_cons_succ, Act.put, List.setIfInBounds_toArray, List.set_cons_zero, List.set_cons_succ]
    refine wpAnyH_take (i := 3) (v := .agg #[.int .i64 pa, .int .i64 sa]) rfl (by kernel_rfl) (by kernel_rfl) (by kernel_rfl) (fun _ _ _ h => h) (Or.inl ⟨by first | rfl | go_simp, by intro w9 hSw; (try dsimp only at hSw); go_simp⟩) (by assumption) ?_
    simp only [List.getElem_toArray, List.getElem_cons_zero, List.getElem_cons_succ, Act.put, List.setIfInBounds_toArray, List.set_cons_zero, List.set_cons_succ]
    refine wpAnyH_take (i := 4) (v := .pointer (some ⟨w.heap.size + 2, 0, none⟩)) rfl (by kernel_rfl) (by kernel_rfl) (by kernel_rfl) (fun _ _ _ h => h) (Or.inl ⟨by first | rfl | go_simp, by intro w9 hSw; (try dsimp only at hSw); go_simp⟩) (by assumption) ?_
    simp only [List.getElem_toArray, List.getElem_cons_zero, List.getElem_cons_succ, Act.put, List.setIfInBounds_toArray, List.set_cons_zero, List.set_cons_succ]
    refine wpAnyH_take (i := 5) (v := .int .i64 T) rfl (by kernel_rfl) (by kernel_rfl) (by kernel_rfl) (fun _ _ _ h => h) (Or.inl ⟨by first | rfl | go_simp, by intro w9 hSw; (try dsimp only at hSw); go_simp⟩) (by assumption) ?_
    simp only [List.getElem_toArray, List.getElem_cons_zero, List.getElem_cons_succ, Act.put, List.setIfInBounds_toArray, List.set_cons_zero, List.set_cons_succ]
    refine wpAnyH_take (i := 7) (v := .int .i64 D) rfl (by kernel_rfl) (by kernel_rfl) (by kernel_rfl) (fun _ _ _ h => h) (Or.inl ⟨by first | rfl | go_simp, by intro w9 hSw; (try dsimp only at hSw); go_simp⟩) (by assumption) ?_
    simp only [List.getElem_toArray, List.getElem_cons_zero, List.getElem_cons_succ, Act.put, List.setIfInBounds_toArray, List.set_cons_zero, List.set_cons_succ]
    refine wpAnyH_take (i := 9) (v := .pointer (some ⟨w.heap.size + 2, 3, none⟩)) rfl (by kernel_rfl) (by kernel_rfl) (by kernel_rfl) (fun _ _ _ h => h) (Or.inl ⟨by first | rfl | go_simp, by intro w9 hSw; (try dsimp only at hSw); go_simp⟩) (by assumption) ?_
    simp only [List.getElem_toArray, List.getElem_cons_zero, List.getElem_cons_succ, Act.put, List.setIfInBounds_toArray, List.set_cons_zero, List.set_cons_succ]
    refine wpAnyH_take (i := 10) (v := .int .i64 x) rfl (by kernel_rfl) (by kernel_rfl) (by kernel_rfl) (fun _ _ _ h => h) (Or.inl ⟨by first | rfl | go_simp, by intro w9 hSw; (try dsimp only at hSw); go_simp⟩) (by assumption) ?_
    simp only [List.getElem_toArray, List.getElem_cons_zero, List.getElem_cons_succ, Act.put, List.setIfInBounds_toArray, List.set_cons_zero, List.set_cons_succ]
    refine wpAnyH_ready (rs := [6]) (by kernel_rfl) (by simp) ?_
    refine AllReadyH.cons rfl (fun K hK => ?_) (AllReadyH.nil)
    go_simp
    refine (H1.out _).mono ?_
    rintro e X1 ⟨rfl, b9⟩
    clear H1
    have F0 := F0.below b9 F0.lt
    have FP := FP.below b9 FP.lt
    have FQ := FQ.below b9 FQ.lt
    have F2 := F2.below b9 F2.lt
    have TT := And.intro (quad_of F0) (And.intro (five_of FP) (And.intro (five_of FQ) (quad_of F2)))
    have BX := thenB BX b9
    have sz := Nat.le_trans sz b9.size
    refine hK.out _ _ TT (fun hHeld => ?_)
    clear hK K
    try simp only [List.getElem_toArray, List.getElem_cons_zero, List.getElem_cons_succ, Act.put, List.setIfInBounds_toArray, List.set_cons_zero, List.set_cons_succ]
    refine wpAnyH_take (i := 8) (v := .int .i64 M1) rfl (by kernel_rfl) (by kernel_rfl) (by kernel_rfl) (fun _ _ _ h => h) (Or.inl ⟨by first | rfl | go_simp, by intro w9 hSw; (try dsimp only at hSw); go_simp⟩) (by assumption) ?_
    simp only [List.getElem_toArray, List.getElem_cons_zero, List.getElem_cons_succ, Act.put, List.setIfInBounds_toArray, List.set_cons_zero, List.set_cons_succ]
    refine wpAnyH_take (i := 11) (v := .int .i64 V1) rfl (by kernel_rfl) (by kernel_rfl) (by kernel_rfl) (fun _ _ _ h => h) (Or.inl ⟨by first | rfl | go_simp, by intro w9 hSw; (try dsimp only at hSw); go_simp⟩) (by assumption) ?_
    simp only [List.getElem_toArray, List.getElem_cons_zero, List.getElem_cons_succ, Act.put, List.setIfInBounds_toArray, List.set_cons_zero, List.set_cons_succ]
    refine wpAnyH_ready (rs := [12]) (by kernel_rfl) (by simp) ?_
    refine AllReadyH.cons rfl (fun K hK => ?_) (AllReadyH.nil)
    go_simp
    refine (H3.out _).mono ?_
    rintro e X2 ⟨rfl, b9⟩
    clear H3
    have F0 := F0.below b9 F0.lt
    have FP := FP.below b9 FP.lt
    have FQ := FQ.below b9 FQ.lt
    have F2 := F2.below b9 F2.lt
    have TT := And.intro (quad_of F0) (And.intro (five_of FP) (And.intro (five_of FQ) (quad_of F2)))
    have BX := thenB BX b9
    have sz := Nat.le_trans sz b9.size
    refine hK.out _ _ TT (fun hHeld => ?_)
    clear hK K
    try simp only [List.getElem_toArray, List.getElem_cons_zero, List.getElem_cons_succ, Act.put, List.setIfInBounds_toArray, List.set_cons_zero, List.set_cons_succ]
    refine wpAnyH_take (i := 13) (v := .int .i64 r) rfl (by kernel_rfl) (by kernel_rfl) (by kernel_rfl) (fun _ _ _ h => h) (Or.inl ⟨by first | rfl | go_simp, by intro w9 hSw; (try dsimp only at hSw); go_simp⟩) (by assumption) ?_
    simp only [List.getElem_toArray, List.getElem_cons_zero, List.getElem_cons_succ, Act.put, List.setIfInBounds_toArray, List.set_cons_zero, List.set_cons_succ]
    refine wpAnyH_done (by kernel_rfl) ?_ _
    go_wp2_with fail
    go_ret
    exact ⟨rfl, BX⟩
set_option maxRecDepth 100000 in
set_option maxHeartbeats 10000000 in
theorem moved_in (pa sa pb sb s o i l t s2 o2 i2 l2 t2 T n y x D ZZ EU r V0 V1 M1 V2 V3 dv P1 P2 : Int) (w : World) (HD : Hid (∀ w, Calls Try.prog 35 #[.int .i64 n, upd s o i l t, upd s2 o2 i2 l2 t2] w fun e w' => e = .returned (.tuple #[.int .i64 D, .int .i64 ZZ]) ∧ Below w.heap.size w w')) (HR : Hid (∀ w, Calls Try.prog 31 #[.agg #[.int .i64 pa, .int .i64 sa], .agg #[.int .i64 pb, .int .i64 sb], upd s o i l t, .agg #[.int .i64 T, .int .i64 n, .int .i64 y, .int .i64 x]] w fun e w' => e = .returned (.bool true) ∧ Below w.heap.size w w')) (HU : Hid (∀ w, Calls Try.prog 13 #[upd s2 o2 i2 l2 t2] w fun e w' => e = .returned (.int .i64 EU) ∧ Below w.heap.size w w')) (eu : (EU != 0) = false) (ex : decide (x < 0) = false) (ez : decide (ZZ < x) = false) (H1 : Hid (∀ w, Calls Try.prog 33 #[.agg #[.int .i64 pa, .int .i64 sa], .int .i64 T] w fun e w' => e = .returned (.int .i64 V0) ∧ Below w.heap.size w w')) (e1 : IntKind.i64.wrap (V0 + D) = M1) (e2 : IntKind.i64.wrap (M1 + x) = V1) (H3 : Hid (∀ w, Calls Try.prog 32 #[.agg #[.int .i64 pa, .int .i64 sa], .int .i64 V1] w fun e w' => e = .returned (.int .i64 r) ∧ Below w.heap.size w w')) (H4 : Hid (∀ w, Calls Try.prog 33 #[.agg #[.int .i64 pb, .int .i64 sb], .int .i64 T] w fun e w' => e = .returned (.int .i64 V2) ∧ Below w.heap.size w w')) (H5 : Hid (∀ w, Calls Try.prog 34 #[.agg #[.int .i64 pa, .int .i64 sa], .agg #[.int .i64 pb, .int .i64 sb], .int .i64 y] w fun e w' => e = .returned (.int .i64 dv) ∧ Below w.heap.size w w')) (H6 : Hid (∀ w, Calls Try.prog 29 #[.int .i64 V2, .int .i64 n, upd s o i l t, upd s2 o2 i2 l2 t2, .int .i64 dv] w fun e w' => e = .returned (.agg #[.int .i64 P1, .int .i64 P2]) ∧ Below w.heap.size w w')) (H7 : Hid (∀ w, Calls Try.prog 33 #[.agg #[.int .i64 pb, .int .i64 sb], .int .i64 r] w fun e w' => e = .returned (.int .i64 V3) ∧ Below w.heap.size w w')) (hr : decide (1099511627776 ≤ r) = false) (m1 : decide (P1 ≤ V3) = true) (m2 : decide (V3 < P2) = true) :
    Calls Try.prog 10 #[.agg #[.int .i64 pa, .int .i64 sa, .int .i64 pb, .int .i64 sb], .agg #[.int .i64 s, .int .i64 o, .int .i64 i, .int .i64 l, .int .i64 t, .int .i64 s2, .int .i64 o2, .int .i64 i2, .int .i64 l2, .int .i64 t2], .agg #[.int .i64 T, .int .i64 n, .int .i64 y, .int .i64 x]] w fun e w' => e = .returned (.bool true) ∧ Below w.heap.size w w' := by
  have F0 : Mem.Blk (((w.alloc (.cells #[.int .i64 pa, .int .i64 sa, .int .i64 pb, .int .i64 sb] 56)).alloc (.cells #[.int .i64 s, .int .i64 o, .int .i64 i, .int .i64 l, .int .i64 t, .int .i64 s2, .int .i64 o2, .int .i64 i2, .int .i64 l2, .int .i64 t2] 63)).alloc (.cells #[.int .i64 T, .int .i64 n, .int .i64 y, .int .i64 x] 58)) w.heap.size 56 #[.int .i64 pa, .int .i64 sa, .int .i64 pb, .int .i64 sb] := (((Blk.fresh w 56 #[.int .i64 pa, .int .i64 sa, .int .i64 pb, .int .i64 sb]).alloc (.cells #[.int .i64 s, .int .i64 o, .int .i64 i, .int .i64 l, .int .i64 t, .int .i64 s2, .int .i64 o2, .int .i64 i2, .int .i64 l2, .int .i64 t2] 63)).alloc (.cells #[.int .i64 T, .int .i64 n, .int .i64 y, .int .i64 x] 58))
  have F1 : Mem.Blk (((w.alloc (.cells #[.int .i64 pa, .int .i64 sa, .int .i64 pb, .int .i64 sb] 56)).alloc (.cells #[.int .i64 s, .int .i64 o, .int .i64 i, .int .i64 l, .int .i64 t, .int .i64 s2, .int .i64 o2, .int .i64 i2, .int .i64 l2, .int .i64 t2] 63)).alloc (.cells #[.int .i64 T, .int .i64 n, .int .i64 y, .int .i64 x] 58)) (w.heap.size + 1) 63 #[.int .i64 s, .int .i64 o, .int .i64 i, .int .i64 l, .int .i64 t, .int .i64 s2, .int .i64 o2, .int .i64 i2, .int .i64 l2, .int .i64 t2] := by
    have := ((Blk.fresh (w.alloc (.cells #[.int .i64 pa, .int .i64 sa, .int .i64 pb, .int .i64 sb] 56)) 63 #[.int .i64 s, .int .i64 o, .int .i64 i, .int .i64 l, .int .i64 t, .int .i64 s2, .int .i64 o2, .int .i64 i2, .int .i64 l2, .int .i64 t2]).alloc (.cells #[.int .i64 T, .int .i64 n, .int .i64 y, .int .i64 x] 58))
    rwa [World.size_alloc] at this
  have F2 : Mem.Blk (((w.alloc (.cells #[.int .i64 pa, .int .i64 sa, .int .i64 pb, .int .i64 sb] 56)).alloc (.cells #[.int .i64 s, .int .i64 o, .int .i64 i, .int .i64 l, .int .i64 t, .int .i64 s2, .int .i64 o2, .int .i64 i2, .int .i64 l2, .int .i64 t2] 63)).alloc (.cells #[.int .i64 T, .int .i64 n, .int .i64 y, .int .i64 x] 58)) (w.heap.size + 2) 58 #[.int .i64 T, .int .i64 n, .int .i64 y, .int .i64 x] := by
    have := (Blk.fresh ((w.alloc (.cells #[.int .i64 pa, .int .i64 sa, .int .i64 pb, .int .i64 sb] 56)).alloc (.cells #[.int .i64 s, .int .i64 o, .int .i64 i, .int .i64 l, .int .i64 t, .int .i64 s2, .int .i64 o2, .int .i64 i2, .int .i64 l2, .int .i64 t2] 63)) 58 #[.int .i64 T, .int .i64 n, .int .i64 y, .int .i64 x])
    rwa [World.size_alloc, World.size_alloc] at this
  have hbel : Below w.heap.size w (((w.alloc (.cells #[.int .i64 pa, .int .i64 sa, .int .i64 pb, .int .i64 sb] 56)).alloc (.cells #[.int .i64 s, .int .i64 o, .int .i64 i, .int .i64 l, .int .i64 t, .int .i64 s2, .int .i64 o2, .int .i64 i2, .int .i64 l2, .int .i64 t2] 63)).alloc (.cells #[.int .i64 T, .int .i64 n, .int .i64 y, .int .i64 x] 58)) := ((((Below.refl _ w).alloc (Nat.le_refl _) _).alloc (by simp) _).alloc (by simp; omega) _)
  have sz : w.heap.size + 3 ≤ (((w.alloc (.cells #[.int .i64 pa, .int .i64 sa, .int .i64 pb, .int .i64 sb] 56)).alloc (.cells #[.int .i64 s, .int .i64 o, .int .i64 i, .int .i64 l, .int .i64 t, .int .i64 s2, .int .i64 o2, .int .i64 i2, .int .i64 l2, .int .i64 t2] 63)).alloc (.cells #[.int .i64 T, .int .i64 n, .int .i64 y, .int .i64 x] 58)).heap.size := by simp
  have BX := hbel
  clear hbel
  have HL := Lib.hid lives_any
  go_enter Try.func10, Try.ntmps10
  go_wp2_with fail
  generalize (((w.alloc (.cells #[.int .i64 pa, .int .i64 sa, .int .i64 pb, .int .i64 sb] 56)).alloc (.cells #[.int .i64 s, .int .i64 o, .int .i64 i, .int .i64 l, .int .i64 t, .int .i64 s2, .int .i64 o2, .int .i64 i2, .int .i64 l2, .int .i64 t2] 63)).alloc (.cells #[.int .i64 T, .int .i64 n, .int .i64 y, .int .i64 x] 58)) = W at *
  go_wp2_with (go_at_call 11; refine (HL.out _).mono ?_; clear HL; rintro e w1 ⟨rfl, b9⟩; have F0 := F0.below b9 F0.lt; have F1 := F1.below b9 F1.lt; have F2 := F2.below b9 F2.lt; have BX := thenB BX b9; have sz : w.heap.size + 3 ≤ w1.heap.size := Nat.le_trans sz b9.size; clear b9)
  go_cut [7, 8] from 16 to 19 (fun s7 s8 wx => ∃ p q, s7 = .pointer (some ⟨p, 0, none⟩) ∧ s8 = .pointer (some ⟨q, 0, none⟩) ∧ Blk wx p 23 #[.int .i64 s, .int .i64 o, .int .i64 i, .int .i64 l, .int .i64 t] ∧ Blk wx q 23 #[.int .i64 s2, .int .i64 o2, .int .i64 i2, .int .i64 l2, .int .i64 t2] ∧ Blk wx w.heap.size 56 #[.int .i64 pa, .int .i64 sa, .int .i64 pb, .int .i64 sb] ∧ Blk wx (w.heap.size + 2) 58 #[.int .i64 T, .int .i64 n, .int .i64 y, .int .i64 x] ∧ p ≠ q ∧ Below w.heap.size w wx ∧ w.heap.size + 3 ≤ wx.heap.size)
  case first =>
    go_wp2_with fail
    refine wp_region_held_drew (S := (fun w' => Ten w' (w.heap.size + 1) s o i l t s2 o2 i2 l2 t2)) (by kernel_rfl) ?_ (fun hHeld => ?_)
    · exact ten_of F1
    have TT : Ten w1.drew (w.heap.size + 1) s o i l t s2 o2 i2 l2 t2 := ten_of F1.drew
    have F0 := F0.drew
    have F1 := F1.drew
    have F2 := F2.drew
    have BX := BX.drew
    have sz : w.heap.size + 3 ≤ w1.drew.heap.size := sz
    generalize w1.drew = V0 at *
    refine wpAnyH_take (i := 0) (v := .pointer (some ⟨w.heap.size + 1, 0, none⟩)) rfl (by kernel_rfl) (by kernel_rfl) (by kernel_rfl) (fun _ _ _ h => h) (Or.inl ⟨by first | rfl | go_simp, by intro w9 hSw; (try dsimp only at hSw); go_simp⟩) (by assumption) ?_
    simp only [List.getElem_toArray, List.getElem_cons_zero, List.getElem_cons_succ, Act.put, List.setIfInBounds_toArray, List.set_cons_zero, List.set_cons_succ]
    refine wpAnyH_take (i := 1) (v := .agg #[.int .i64 s, .int .i64 o, .int .i64 i, .int .i64 l, .int .i64 t]) rfl (by kernel_rfl) (by kernel_rfl) (by kernel_rfl) (fun _ _ _ h => h) (Or.inl ⟨by first | rfl | go_simp, by intro w9 hSw; (try dsimp only at hSw); go_simp⟩) (by assumption) ?_
    simp only [List.getElem_toArray, List.getElem_cons_zero, List.getElem_cons_succ, Act.put, List.setIfInBounds_toArray, List.set_cons_zero, List.set_cons_succ]
    refine wpAnyH_take (i := 2) (v := .pointer (some ⟨w.heap.size + 1, 5, none⟩)) rfl (by kernel_rfl) (by kernel_rfl) (by kernel_rfl) (fun _ _ _ h => h) (Or.inl ⟨by first | rfl | go_simp, by intro w9 hSw; (try dsimp only at hSw); go_simp⟩) (by assumption) ?_
    simp only [List.getElem_toArray, List.getElem_cons_zero, List.getElem_cons_succ, Act.put, List.setIfInBounds_toArray, List.set_cons_zero, List.set_cons_succ]
    refine wpAnyH_take (i := 3) (v := .agg #[.int .i64 s2, .int .i64 o2, .int .i64 i2, .int .i64 l2, .int .i64 t2]) rfl (by kernel_rfl) (by kernel_rfl) (by kernel_rfl) (fun _ _ _ h => h) (Or.inl ⟨by first | rfl | go_simp, by intro w9 hSw; (try dsimp only at hSw); go_simp⟩) (by assumption) ?_
    simp only [List.getElem_toArray, List.getElem_cons_zero, List.getElem_cons_succ, Act.put, List.setIfInBounds_toArray, List.set_cons_zero, List.set_cons_succ]
    refine wpAnyH_ready (rs := [4, 5]) (by kernel_rfl) (by simp) ?_
    refine AllReadyH.cons rfl (fun K hK => ?_) (AllReadyH.cons rfl (fun K hK => ?_) (AllReadyH.nil))
    · skip
      go_simp
      have b9 := (Below.refl V0.heap.size V0).alloc (Nat.le_refl _) (.cells #[.int .i64 0, .int .i64 0, .int .i64 0, .int .i64 0, .int .i64 0] 23)
      have N0 := Blk.fresh V0 23 #[.int .i64 0, .int .i64 0, .int .i64 0, .int .i64 0, .int .i64 0]
      have n0 : w.heap.size + 3 ≤ V0.heap.size := sz
      generalize V0.alloc (.cells #[.int .i64 0, .int .i64 0, .int .i64 0, .int .i64 0, .int .i64 0] 23) = V1 at *
      have F0 := F0.below b9 F0.lt
      have F1 := F1.below b9 F1.lt
      have F2 := F2.below b9 F2.lt
      have TT := ten_of F1
      have BX := thenB BX b9
      have sz := Nat.le_trans sz b9.size
      refine hK.out _ _ TT (fun hHeld => ?_)
      clear hK K
      try simp only [List.getElem_toArray, List.getElem_cons_zero, List.getElem_cons_succ, Act.put, List.setIfInBounds_toArray, List.set_cons_zero, List.set_cons_succ]
      refine wpAnyH_ready (rs := [5]) (by kernel_rfl) (by simp) ?_
      refine AllReadyH.cons rfl (fun K hK => ?_) (AllReadyH.nil)
      go_simp
      have b9 := (Below.refl V1.heap.size V1).alloc (Nat.le_refl _) (.cells #[.int .i64 0, .int .i64 0, .int .i64 0, .int .i64 0, .int .i64 0] 23)
      have N1 := Blk.fresh V1 23 #[.int .i64 0, .int .i64 0, .int .i64 0, .int .i64 0, .int .i64 0]
      have n1 : w.heap.size + 3 ≤ V1.heap.size := sz
      have dd : V1.heap.size ≠ V0.heap.size := Nat.ne_of_gt N0.lt
      generalize V1.alloc (.cells #[.int .i64 0, .int .i64 0, .int .i64 0, .int .i64 0, .int .i64 0] 23) = V2 at *
      have F0 := F0.below b9 F0.lt
      have F1 := F1.below b9 F1.lt
      have F2 := F2.below b9 F2.lt
      have TT := ten_of F1
      have BX := thenB BX b9
      have sz := Nat.le_trans sz b9.size
      have N0 := N0.below b9 N0.lt
      refine hK.out _ _ TT (fun hHeld => ?_)
      clear hK K
      try simp only [List.getElem_toArray, List.getElem_cons_zero, List.getElem_cons_succ, Act.put, List.setIfInBounds_toArray, List.set_cons_zero, List.set_cons_succ]
      refine wpAnyH_ready (rs := [6]) (by kernel_rfl) (by simp) ?_
      refine AllReadyH.cons rfl (fun K hK => ?_) (AllReadyH.nil)
      obtain ⟨c0, c1, c2, c3, c4⟩ := five_of N0
      have z0 := frz N0 0
      have z1 := frz N0 1
      have z2 := frz N0 2
      have z3 := frz N0 3
      have z4 := frz N0 4
      have F0 := (blk_set_ne (i := 4) (blk_set_ne (i := 3) (blk_set_ne (i := 2) (blk_set_ne (i := 1) (blk_set_ne (i := 0) F0 (show V0.heap.size ≠ _ by omega) (.int .i64 s)) (show V0.heap.size ≠ _ by omega) (.int .i64 o)) (show V0.heap.size ≠ _ by omega) (.int .i64 i)) (show V0.heap.size ≠ _ by omega) (.int .i64 l)) (show V0.heap.size ≠ _ by omega) (.int .i64 t))
      have F1 := (blk_set_ne (i := 4) (blk_set_ne (i := 3) (blk_set_ne (i := 2) (blk_set_ne (i := 1) (blk_set_ne (i := 0) F1 (show V0.heap.size ≠ _ by omega) (.int .i64 s)) (show V0.heap.size ≠ _ by omega) (.int .i64 o)) (show V0.heap.size ≠ _ by omega) (.int .i64 i)) (show V0.heap.size ≠ _ by omega) (.int .i64 l)) (show V0.heap.size ≠ _ by omega) (.int .i64 t))
      have F2 := (blk_set_ne (i := 4) (blk_set_ne (i := 3) (blk_set_ne (i := 2) (blk_set_ne (i := 1) (blk_set_ne (i := 0) F2 (show V0.heap.size ≠ _ by omega) (.int .i64 s)) (show V0.heap.size ≠ _ by omega) (.int .i64 o)) (show V0.heap.size ≠ _ by omega) (.int .i64 i)) (show V0.heap.size ≠ _ by omega) (.int .i64 l)) (show V0.heap.size ≠ _ by omega) (.int .i64 t))
      have N1 := (blk_set_ne (i := 4) (blk_set_ne (i := 3) (blk_set_ne (i := 2) (blk_set_ne (i := 1) (blk_set_ne (i := 0) N1 (show V0.heap.size ≠ V1.heap.size by first | exact dd | exact (Ne.symm dd)) (.int .i64 s)) (show V0.heap.size ≠ V1.heap.size by first | exact dd | exact (Ne.symm dd)) (.int .i64 o)) (show V0.heap.size ≠ V1.heap.size by first | exact dd | exact (Ne.symm dd)) (.int .i64 i)) (show V0.heap.size ≠ V1.heap.size by first | exact dd | exact (Ne.symm dd)) (.int .i64 l)) (show V0.heap.size ≠ V1.heap.size by first | exact dd | exact (Ne.symm dd)) (.int .i64 t))
      have BX := upd_below (g := V0.heap.size) (.int .i64 s) (.int .i64 o) (.int .i64 i) (.int .i64 l) (.int .i64 t) BX (by omega)
      have N0 := upd_set (.int .i64 s) (.int .i64 o) (.int .i64 i) (.int .i64 l) (.int .i64 t) N0
      have sz : w.heap.size + 3 ≤ (((((V2.setCell ⟨V0.heap.size, 0, none⟩ (.int .i64 s)).setCell ⟨V0.heap.size, 1, none⟩ (.int .i64 o)).setCell ⟨V0.heap.size, 2, none⟩ (.int .i64 i)).setCell ⟨V0.heap.size, 3, none⟩ (.int .i64 l)).setCell ⟨V0.heap.size, 4, none⟩ (.int .i64 t)).heap.size := by simpa using sz
      have TT := ten_of F1
      go_simp
      clear c0 c1 c2 c3 c4 z0 z1 z2 z3 z4
      generalize (((((V2.setCell ⟨V0.heap.size, 0, none⟩ (.int .i64 s)).setCell ⟨V0.heap.size, 1, none⟩ (.int .i64 o)).setCell ⟨V0.heap.size, 2, none⟩ (.int .i64 i)).setCell ⟨V0.heap.size, 3, none⟩ (.int .i64 l)).setCell ⟨V0.heap.size, 4, none⟩ (.int .i64 t)) = V3 at *
      refine hK.out _ _ TT (fun hHeld => ?_)
      clear hK K
      try simp only [List.getElem_toArray, List.getElem_cons_zero, List.getElem_cons_succ, Act.put, List.setIfInBounds_toArray, List.set_cons_zero, List.set_cons_succ]
      refine wpAnyH_ready (rs := [7]) (by kernel_rfl) (by simp) ?_
      refine AllReadyH.cons rfl (fun K hK => ?_) (AllReadyH.nil)
      obtain ⟨c0, c1, c2, c3, c4⟩ := five_of N1
      have z0 := frz N1 0
      have z1 := frz N1 1
      have z2 := frz N1 2
      have z3 := frz N1 3
      have z4 := frz N1 4
      have F0 := (blk_set_ne (i := 4) (blk_set_ne (i := 3) (blk_set_ne (i := 2) (blk_set_ne (i := 1) (blk_set_ne (i := 0) F0 (show V1.heap.size ≠ _ by omega) (.int .i64 s2)) (show V1.heap.size ≠ _ by omega) (.int .i64 o2)) (show V1.heap.size ≠ _ by omega) (.int .i64 i2)) (show V1.heap.size ≠ _ by omega) (.int .i64 l2)) (show V1.heap.size ≠ _ by omega) (.int .i64 t2))
      have F1 := (blk_set_ne (i := 4) (blk_set_ne (i := 3) (blk_set_ne (i := 2) (blk_set_ne (i := 1) (blk_set_ne (i := 0) F1 (show V1.heap.size ≠ _ by omega) (.int .i64 s2)) (show V1.heap.size ≠ _ by omega) (.int .i64 o2)) (show V1.heap.size ≠ _ by omega) (.int .i64 i2)) (show V1.heap.size ≠ _ by omega) (.int .i64 l2)) (show V1.heap.size ≠ _ by omega) (.int .i64 t2))
      have F2 := (blk_set_ne (i := 4) (blk_set_ne (i := 3) (blk_set_ne (i := 2) (blk_set_ne (i := 1) (blk_set_ne (i := 0) F2 (show V1.heap.size ≠ _ by omega) (.int .i64 s2)) (show V1.heap.size ≠ _ by omega) (.int .i64 o2)) (show V1.heap.size ≠ _ by omega) (.int .i64 i2)) (show V1.heap.size ≠ _ by omega) (.int .i64 l2)) (show V1.heap.size ≠ _ by omega) (.int .i64 t2))
      have N0 := (blk_set_ne (i := 4) (blk_set_ne (i := 3) (blk_set_ne (i := 2) (blk_set_ne (i := 1) (blk_set_ne (i := 0) N0 (show V1.heap.size ≠ V0.heap.size by first | exact dd | exact (Ne.symm dd)) (.int .i64 s2)) (show V1.heap.size ≠ V0.heap.size by first | exact dd | exact (Ne.symm dd)) (.int .i64 o2)) (show V1.heap.size ≠ V0.heap.size by first | exact dd | exact (Ne.symm dd)) (.int .i64 i2)) (show V1.heap.size ≠ V0.heap.size by first | exact dd | exact (Ne.symm dd)) (.int .i64 l2)) (show V1.heap.size ≠ V0.heap.size by first | exact dd | exact (Ne.symm dd)) (.int .i64 t2))
      have BX := upd_below (g := V1.heap.size) (.int .i64 s2) (.int .i64 o2) (.int .i64 i2) (.int .i64 l2) (.int .i64 t2) BX (by omega)
      have N1 := upd_set (.int .i64 s2) (.int .i64 o2) (.int .i64 i2) (.int .i64 l2) (.int .i64 t2) N1
      have sz : w.heap.size + 3 ≤ (((((V3.setCell ⟨V1.heap.size, 0, none⟩ (.int .i64 s2)).setCell ⟨V1.heap.size, 1, none⟩ (.int .i64 o2)).setCell ⟨V1.heap.size, 2, none⟩ (.int .i64 i2)).setCell ⟨V1.heap.size, 3, none⟩ (.int .i64 l2)).setCell ⟨V1.heap.size, 4, none⟩ (.int .i64 t2)).heap.size := by simpa using sz
      have TT := ten_of F1
      go_simp
      clear c0 c1 c2 c3 c4 z0 z1 z2 z3 z4
      generalize (((((V3.setCell ⟨V1.heap.size, 0, none⟩ (.int .i64 s2)).setCell ⟨V1.heap.size, 1, none⟩ (.int .i64 o2)).setCell ⟨V1.heap.size, 2, none⟩ (.int .i64 i2)).setCell ⟨V1.heap.size, 3, none⟩ (.int .i64 l2)).setCell ⟨V1.heap.size, 4, none⟩ (.int .i64 t2)) = V4 at *
      refine hK.out _ _ TT (fun hHeld => ?_)
      clear hK K
      try simp only [List.getElem_toArray, List.getElem_cons_zero, List.getElem_cons_succ, Act.put, List.setIfInBounds_toArray, List.set_cons_zero, List.set_cons_succ]
      refine wpAnyH_done (by kernel_rfl) ?_ _
      go_wp2_with fail
      go_meet
      exact ⟨_, _, rfl, rfl, N0, N1, F0, F2, by first | exact dd | exact (Ne.symm dd), BX, sz⟩
    · skip
      go_simp
      have b9 := (Below.refl V0.heap.size V0).alloc (Nat.le_refl _) (.cells #[.int .i64 0, .int .i64 0, .int .i64 0, .int .i64 0, .int .i64 0] 23)
      have N1 := Blk.fresh V0 23 #[.int .i64 0, .int .i64 0, .int .i64 0, .int .i64 0, .int .i64 0]
      have n1 : w.heap.size + 3 ≤ V0.heap.size := sz
      generalize V0.alloc (.cells #[.int .i64 0, .int .i64 0, .int .i64 0, .int .i64 0, .int .i64 0] 23) = V5 at *
      have F0 := F0.below b9 F0.lt
      have F1 := F1.below b9 F1.lt
      have F2 := F2.below b9 F2.lt
      have TT := ten_of F1
      have BX := thenB BX b9
      have sz := Nat.le_trans sz b9.size
      refine hK.out _ _ TT (fun hHeld => ?_)
      clear hK K
      try simp only [List.getElem_toArray, List.getElem_cons_zero, List.getElem_cons_succ, Act.put, List.setIfInBounds_toArray, List.set_cons_zero, List.set_cons_succ]
      refine wpAnyH_ready (rs := [4]) (by kernel_rfl) (by simp) ?_
      refine AllReadyH.cons rfl (fun K hK => ?_) (AllReadyH.nil)
      go_simp
      have b9 := (Below.refl V5.heap.size V5).alloc (Nat.le_refl _) (.cells #[.int .i64 0, .int .i64 0, .int .i64 0, .int .i64 0, .int .i64 0] 23)
      have N0 := Blk.fresh V5 23 #[.int .i64 0, .int .i64 0, .int .i64 0, .int .i64 0, .int .i64 0]
      have n0 : w.heap.size + 3 ≤ V5.heap.size := sz
      have dd : V5.heap.size ≠ V0.heap.size := Nat.ne_of_gt N1.lt
      generalize V5.alloc (.cells #[.int .i64 0, .int .i64 0, .int .i64 0, .int .i64 0, .int .i64 0] 23) = V6 at *
      have F0 := F0.below b9 F0.lt
      have F1 := F1.below b9 F1.lt
      have F2 := F2.below b9 F2.lt
      have TT := ten_of F1
      have BX := thenB BX b9
      have sz := Nat.le_trans sz b9.size
      have N1 := N1.below b9 N1.lt
      refine hK.out _ _ TT (fun hHeld => ?_)
      clear hK K
      try simp only [List.getElem_toArray, List.getElem_cons_zero, List.getElem_cons_succ, Act.put, List.setIfInBounds_toArray, List.set_cons_zero, List.set_cons_succ]
      refine wpAnyH_ready (rs := [6]) (by kernel_rfl) (by simp) ?_
      refine AllReadyH.cons rfl (fun K hK => ?_) (AllReadyH.nil)
      obtain ⟨c0, c1, c2, c3, c4⟩ := five_of N0
      have z0 := frz N0 0
      have z1 := frz N0 1
      have z2 := frz N0 2
      have z3 := frz N0 3
      have z4 := frz N0 4
      have F0 := (blk_set_ne (i := 4) (blk_set_ne (i := 3) (blk_set_ne (i := 2) (blk_set_ne (i := 1) (blk_set_ne (i := 0) F0 (show V5.heap.size ≠ _ by omega) (.int .i64 s)) (show V5.heap.size ≠ _ by omega) (.int .i64 o)) (show V5.heap.size ≠ _ by omega) (.int .i64 i)) (show V5.heap.size ≠ _ by omega) (.int .i64 l)) (show V5.heap.size ≠ _ by omega) (.int .i64 t))
      have F1 := (blk_set_ne (i := 4) (blk_set_ne (i := 3) (blk_set_ne (i := 2) (blk_set_ne (i := 1) (blk_set_ne (i := 0) F1 (show V5.heap.size ≠ _ by omega) (.int .i64 s)) (show V5.heap.size ≠ _ by omega) (.int .i64 o)) (show V5.heap.size ≠ _ by omega) (.int .i64 i)) (show V5.heap.size ≠ _ by omega) (.int .i64 l)) (show V5.heap.size ≠ _ by omega) (.int .i64 t))
      have F2 := (blk_set_ne (i := 4) (blk_set_ne (i := 3) (blk_set_ne (i := 2) (blk_set_ne (i := 1) (blk_set_ne (i := 0) F2 (show V5.heap.size ≠ _ by omega) (.int .i64 s)) (show V5.heap.size ≠ _ by omega) (.int .i64 o)) (show V5.heap.size ≠ _ by omega) (.int .i64 i)) (show V5.heap.size ≠ _ by omega) (.int .i64 l)) (show V5.heap.size ≠ _ by omega) (.int .i64 t))
      have N1 := (blk_set_ne (i := 4) (blk_set_ne (i := 3) (blk_set_ne (i := 2) (blk_set_ne (i := 1) (blk_set_ne (i := 0) N1 (show V5.heap.size ≠ V0.heap.size by first | exact dd | exact (Ne.symm dd)) (.int .i64 s)) (show V5.heap.size ≠ V0.heap.size by first | exact dd | exact (Ne.symm dd)) (.int .i64 o)) (show V5.heap.size ≠ V0.heap.size by first | exact dd | exact (Ne.symm dd)) (.int .i64 i)) (show V5.heap.size ≠ V0.heap.size by first | exact dd | exact (Ne.symm dd)) (.int .i64 l)) (show V5.heap.size ≠ V0.heap.size by first | exact dd | exact (Ne.symm dd)) (.int .i64 t))
      have BX := upd_below (g := V5.heap.size) (.int .i64 s) (.int .i64 o) (.int .i64 i) (.int .i64 l) (.int .i64 t) BX (by omega)
      have N0 := upd_set (.int .i64 s) (.int .i64 o) (.int .i64 i) (.int .i64 l) (.int .i64 t) N0
      have sz : w.heap.size + 3 ≤ (((((V6.setCell ⟨V5.heap.size, 0, none⟩ (.int .i64 s)).setCell ⟨V5.heap.size, 1, none⟩ (.int .i64 o)).setCell ⟨V5.heap.size, 2, none⟩ (.int .i64 i)).setCell ⟨V5.heap.size, 3, none⟩ (.int .i64 l)).setCell ⟨V5.heap.size, 4, none⟩ (.int .i64 t)).heap.size := by simpa using sz
      have TT := ten_of F1
      go_simp
      clear c0 c1 c2 c3 c4 z0 z1 z2 z3 z4
      generalize (((((V6.setCell ⟨V5.heap.size, 0, none⟩ (.int .i64 s)).setCell ⟨V5.heap.size, 1, none⟩ (.int .i64 o)).setCell ⟨V5.heap.size, 2, none⟩ (.int .i64 i)).setCell ⟨V5.heap.size, 3, none⟩ (.int .i64 l)).setCell ⟨V5.heap.size, 4, none⟩ (.int .i64 t)) = V7 at *
      refine hK.out _ _ TT (fun hHeld => ?_)
      clear hK K
      try simp only [List.getElem_toArray, List.getElem_cons_zero, List.getElem_cons_succ, Act.put, List.setIfInBounds_toArray, List.set_cons_zero, List.set_cons_succ]
      refine wpAnyH_ready (rs := [7]) (by kernel_rfl) (by simp) ?_
      refine AllReadyH.cons rfl (fun K hK => ?_) (AllReadyH.nil)
      obtain ⟨c0, c1, c2, c3, c4⟩ := five_of N1
      have z0 := frz N1 0
      have z1 := frz N1 1
      have z2 := frz N1 2
      have z3 := frz N1 3
      have z4 := frz N1 4
      have F0 := (blk_set_ne (i := 4) (blk_set_ne (i := 3) (blk_set_ne (i := 2) (blk_set_ne (i := 1) (blk_set_ne (i := 0) F0 (show V0.heap.size ≠ _ by omega) (.int .i64 s2)) (show V0.heap.size ≠ _ by omega) (.int .i64 o2)) (show V0.heap.size ≠ _ by omega) (.int .i64 i2)) (show V0.heap.size ≠ _ by omega) (.int .i64 l2)) (show V0.heap.size ≠ _ by omega) (.int .i64 t2))
      have F1 := (blk_set_ne (i := 4) (blk_set_ne (i := 3) (blk_set_ne (i := 2) (blk_set_ne (i := 1) (blk_set_ne (i := 0) F1 (show V0.heap.size ≠ _ by omega) (.int .i64 s2)) (show V0.heap.size ≠ _ by omega) (.int .i64 o2)) (show V0.heap.size ≠ _ by omega) (.int .i64 i2)) (show V0.heap.size ≠ _ by omega) (.int .i64 l2)) (show V0.heap.size ≠ _ by omega) (.int .i64 t2))
      have F2 := (blk_set_ne (i := 4) (blk_set_ne (i := 3) (blk_set_ne (i := 2) (blk_set_ne (i := 1) (blk_set_ne (i := 0) F2 (show V0.heap.size ≠ _ by omega) (.int .i64 s2)) (show V0.heap.size ≠ _ by omega) (.int .i64 o2)) (show V0.heap.size ≠ _ by omega) (.int .i64 i2)) (show V0.heap.size ≠ _ by omega) (.int .i64 l2)) (show V0.heap.size ≠ _ by omega) (.int .i64 t2))
      have N0 := (blk_set_ne (i := 4) (blk_set_ne (i := 3) (blk_set_ne (i := 2) (blk_set_ne (i := 1) (blk_set_ne (i := 0) N0 (show V0.heap.size ≠ V5.heap.size by first | exact dd | exact (Ne.symm dd)) (.int .i64 s2)) (show V0.heap.size ≠ V5.heap.size by first | exact dd | exact (Ne.symm dd)) (.int .i64 o2)) (show V0.heap.size ≠ V5.heap.size by first | exact dd | exact (Ne.symm dd)) (.int .i64 i2)) (show V0.heap.size ≠ V5.heap.size by first | exact dd | exact (Ne.symm dd)) (.int .i64 l2)) (show V0.heap.size ≠ V5.heap.size by first | exact dd | exact (Ne.symm dd)) (.int .i64 t2))
      have BX := upd_below (g := V0.heap.size) (.int .i64 s2) (.int .i64 o2) (.int .i64 i2) (.int .i64 l2) (.int .i64 t2) BX (by omega)
      have N1 := upd_set (.int .i64 s2) (.int .i64 o2) (.int .i64 i2) (.int .i64 l2) (.int .i64 t2) N1
      have sz : w.heap.size + 3 ≤ (((((V7.setCell ⟨V0.heap.size, 0, none⟩ (.int .i64 s2)).setCell ⟨V0.heap.size, 1, none⟩ (.int .i64 o2)).setCell ⟨V0.heap.size, 2, none⟩ (.int .i64 i2)).setCell ⟨V0.heap.size, 3, none⟩ (.int .i64 l2)).setCell ⟨V0.heap.size, 4, none⟩ (.int .i64 t2)).heap.size := by simpa using sz
      have TT := ten_of F1
      go_simp
      clear c0 c1 c2 c3 c4 z0 z1 z2 z3 z4
      generalize (((((V7.setCell ⟨V0.heap.size, 0, none⟩ (.int .i64 s2)).setCell ⟨V0.heap.size, 1, none⟩ (.int .i64 o2)).setCell ⟨V0.heap.size, 2, none⟩ (.int .i64 i2)).setCell ⟨V0.heap.size, 3, none⟩ (.int .i64 l2)).setCell ⟨V0.heap.size, 4, none⟩ (.int .i64 t2)) = V8 at *
      refine hK.out _ _ TT (fun hHeld => ?_)
      clear hK K
      try simp only [List.getElem_toArray, List.getElem_cons_zero, List.getElem_cons_succ, Act.put, List.setIfInBounds_toArray, List.set_cons_zero, List.set_cons_succ]
      refine wpAnyH_done (by kernel_rfl) ?_ _
      go_wp2_with fail
      go_meet
      exact ⟨_, _, rfl, rfl, N0, N1, F0, F2, by first | exact dd | exact (Ne.symm dd), BX, sz⟩
  case rest =>
    obtain ⟨p, q, rfl, rfl, FP, FQ, F0, F2, hpq, BX, sz⟩ := hcut
    clear F1
    generalize wc = Y at *
    obtain ⟨u0, u1, u2, u3⟩ := quad_of F0; obtain ⟨k0, k1, k2, k3, k4⟩ := five_of FP; obtain ⟨j0, j1, j2, j3, j4⟩ := five_of FQ; obtain ⟨h0, h1, h2, h3⟩ := quad_of F2
    go_wp2_with (first
      | (go_at_call 35; refine (HD.out _).mono ?_; clear HD; rintro e w2 ⟨rfl, b9⟩; clear u0 u1 u2 u3 k0 k1 k2 k3 k4 j0 j1 j2 j3 j4 h0 h1 h2 h3; have F0 := F0.below b9 F0.lt; have FP := FP.below b9 FP.lt; have FQ := FQ.below b9 FQ.lt; have F2 := F2.below b9 F2.lt; have BX := thenB BX b9; have sz : w.heap.size + 3 ≤ w2.heap.size := Nat.le_trans sz b9.size; clear b9; obtain ⟨u0, u1, u2, u3⟩ := quad_of F0; obtain ⟨k0, k1, k2, k3, k4⟩ := five_of FP; obtain ⟨j0, j1, j2, j3, j4⟩ := five_of FQ; obtain ⟨h0, h1, h2, h3⟩ := quad_of F2)
      | (go_at_call 31; refine (HR.out _).mono ?_; clear HR; rintro e w3 ⟨rfl, b9⟩; clear u0 u1 u2 u3 k0 k1 k2 k3 k4 j0 j1 j2 j3 j4 h0 h1 h2 h3; have F0 := F0.below b9 F0.lt; have FP := FP.below b9 FP.lt; have FQ := FQ.below b9 FQ.lt; have F2 := F2.below b9 F2.lt; have BX := thenB BX b9; have sz : w.heap.size + 3 ≤ w3.heap.size := Nat.le_trans sz b9.size; clear b9; obtain ⟨u0, u1, u2, u3⟩ := quad_of F0; obtain ⟨k0, k1, k2, k3, k4⟩ := five_of FP; obtain ⟨j0, j1, j2, j3, j4⟩ := five_of FQ; obtain ⟨h0, h1, h2, h3⟩ := quad_of F2)
      | (go_at_call 13; refine (HU.out _).mono ?_; clear HU; rintro e w4 ⟨rfl, b9⟩; clear u0 u1 u2 u3 k0 k1 k2 k3 k4 j0 j1 j2 j3 j4 h0 h1 h2 h3; have F0 := F0.below b9 F0.lt; have FP := FP.below b9 FP.lt; have FQ := FQ.below b9 FQ.lt; have F2 := F2.below b9 F2.lt; have BX := thenB BX b9; have sz : w.heap.size + 3 ≤ w4.heap.size := Nat.le_trans sz b9.size; clear b9; obtain ⟨h0, h1, h2, h3⟩ := quad_of F2))
    clear h0 h1 h2 h3
    refine wp_region_held_drew (S := (fun w' => Quad w' (w.heap.size) pa sa pb sb ∧ Five w' p s o i l t ∧ Five w' q s2 o2 i2 l2 t2 ∧ Quad w' (w.heap.size + 2) T n y x)) (by kernel_rfl) ?_ (fun hHeld => ?_)
    · exact And.intro (quad_of F0) (And.intro (five_of FP) (And.intro (five_of FQ) (quad_of F2)))
    have TT : Quad w4.drew (w.heap.size) pa sa pb sb ∧ Five w4.drew p s o i l t ∧ Five w4.drew q s2 o2 i2 l2 t2 ∧ Quad w4.drew (w.heap.size + 2) T n y x := ⟨quad_of F0.drew, five_of FP.drew, five_of FQ.drew, quad_of F2.drew⟩
    have F0 := F0.drew
    have FP := FP.drew
    have FQ := FQ.drew
    have F2 := F2.drew
    have BX := BX.drew
    have sz : w.heap.size + 3 ≤ w4.drew.heap.size := sz
    generalize w4.drew = X0 at *
    refine wpAnyH_take (i := 0) (v := .pointer (some ⟨w.heap.size, 0, none⟩)) rfl (by kernel_rfl) (by kernel_rfl) (by kernel_rfl) (fun _ _ _ h => h) (Or.inl ⟨by first | rfl | go_simp, by intro w9 hSw; (try dsimp only at hSw); go_simp⟩) (by assumption) ?_
    simp only [List.getElem_toArray, List.getElem_cons_zero, List.getElem_cons_succ, Act.put, List.setIfInBounds_toArray, List.set_cons_zero, List.set_cons_succ]
    refine wpAnyH_take (i := 1) (v := .agg #[.int .i64 pa, .int .i64 sa]) rfl (by kernel_rfl) (by kernel_rfl) (by kernel_rfl) (fun _ _ _ h => h) (Or.inl ⟨by first | rfl | go_simp, by intro w9 hSw; (try dsimp only at hSw); go_simp⟩) (by assumption) ?_
    simp only [List.getElem_toArray, List.getElem_cons_zero, List.getElem_cons_succ, Act.put, List.setIfInBounds_toArray, List.set_cons_zero, List.set_cons_succ]
    refine wpAnyH_take (i := 2) (v := .pointer (some ⟨w.heap.size, 0, none⟩)) rfl (by kernel_rfl) (by kernel_rfl) (by kernel_rfl) (fun _ _ _ h => h) (Or.inl ⟨by first | rfl | go_simp, by intro w9 hSw; (try dsimp only at hSw); go_simp⟩) (by assumption) ?_
    simp only [List.getElem_toArray, List.getElem_cons_zero, List.getElem_cons_succ, Act.put, List.setIfInBounds_toArray, List.set_cons_zero, List.set_cons_succ]
    refine wpAnyH_take (i := 3) (v := .agg #[.int .i64 pa, .int .i64 sa]) rfl (by kernel_rfl) (by kernel_rfl) (by kernel_rfl) (fun _ _ _ h => h) (Or.inl ⟨by first | rfl | go_simp, by intro w9 hSw; (try dsimp only at hSw); go_simp⟩) (by assumption) ?_
    simp only [List.getElem_toArray, List.getElem_cons_zero, List.getElem_cons_succ, Act.put, List.setIfInBounds_toArray, List.set_cons_zero, List.set_cons_succ]
    refine wpAnyH_take (i := 4) (v := .pointer (some ⟨w.heap.size + 2, 0, none⟩)) rfl (by kernel_rfl) (by kernel_rfl) (by kernel_rfl) (fun _ _ _ h => h) (Or.inl ⟨by first | rfl | go_simp, by intro w9 hSw; (try dsimp only at hSw); go_simp⟩) (by assumption) ?_
    simp only [List.getElem_toArray, List.getElem_cons_zero, List.getElem_cons_succ, Act.put, List.setIfInBounds_toArray, List.set_cons_zero, List.set_cons_succ]
    refine wpAnyH_take (i := 5) (v := .int .i64 T) rfl (by kernel_rfl) (by kernel_rfl) (by kernel_rfl) (fun _ _ _ h => h) (Or.inl ⟨by first | rfl | go_simp, by intro w9 hSw; (try dsimp only at hSw); go_simp⟩) (by assumption) ?_
    simp only [List.getElem_toArray, List.getElem_cons_zero, List.getElem_cons_succ, Act.put, List.setIfInBounds_toArray, List.set_cons_zero, List.set_cons_succ]
    refine wpAnyH_take (i := 7) (v := .int .i64 D) rfl (by kernel_rfl) (by kernel_rfl) (by kernel_rfl) (fun _ _ _ h => h) (Or.inl ⟨by first | rfl | go_simp, by intro w9 hSw; (try dsimp only at hSw); go_simp⟩) (by assumption) ?_
    simp only [List.getElem_toArray, List.getElem_cons_zero, List.getElem_cons_succ, Act.put, List.setIfInBounds_toArray, List.set_cons_zero, List.set_cons_succ]
    refine wpAnyH_take (i := 9) (v := .pointer (some ⟨w.heap.size + 2, 3, none⟩)) rfl (by kernel_rfl) (by kernel_rfl) (by kernel_rfl) (fun _ _ _ h => h) (Or.inl ⟨by first | rfl | go_simp, by intro w9 hSw; (try dsimp only at hSw); go_simp⟩) (by assumption) ?_
    simp only [List.getElem_toArray, List.getElem_cons_zero, List.getElem_cons_succ, Act.put, List.setIfInBounds_toArray, List.set_cons_zero, List.set_cons_succ]
    refine wpAnyH_take (i := 10) (v := .int .i64 x) rfl (by kernel_rfl) (by kernel_rfl) (by kernel_rfl) (fun _ _ _ h => h) (Or.inl ⟨by first | rfl | go_simp, by intro w9 hSw; (try dsimp only at hSw); go_simp⟩) (by assumption) ?_
    simp only [List.getElem_toArray, List.getElem_cons_zero, List.getElem_cons_succ, Act.put, List.setIfInBounds_toArray, List.set_cons_zero, List.set_cons_succ]
    refine wpAnyH_ready (rs := [6]) (by kernel_rfl) (by simp) ?_
    refine AllReadyH.cons rfl (fun K hK => ?_) (AllReadyH.nil)
    go_simp
    refine (H1.out _).mono ?_
    rintro e X1 ⟨rfl, b9⟩
    clear H1
    have F0 := F0.below b9 F0.lt
    have FP := FP.below b9 FP.lt
    have FQ := FQ.below b9 FQ.lt
    have F2 := F2.below b9 F2.lt
    have TT := And.intro (quad_of F0) (And.intro (five_of FP) (And.intro (five_of FQ) (quad_of F2)))
    have BX := thenB BX b9
    have sz := Nat.le_trans sz b9.size
    refine hK.out _ _ TT (fun hHeld => ?_)
    clear hK K
    try simp only [List.getElem_toArray, List.getElem_cons_zero, List.getElem_cons_succ, Act.put, List.setIfInBounds_toArray, List.set_cons_zero, List.set_cons_succ]
    refine wpAnyH_take (i := 8) (v := .int .i64 M1) rfl (by kernel_rfl) (by kernel_rfl) (by kernel_rfl) (fun _ _ _ h => h) (Or.inl ⟨by first | rfl | go_simp, by intro w9 hSw; (try dsimp only at hSw); go_simp⟩) (by assumption) ?_
    simp only [List.getElem_toArray, List.getElem_cons_zero, List.getElem_cons_succ, Act.put, List.setIfInBounds_toArray, List.set_cons_zero, List.set_cons_succ]
    refine wpAnyH_take (i := 11) (v := .int .i64 V1) rfl (by kernel_rfl) (by kernel_rfl) (by kernel_rfl) (fun _ _ _ h => h) (Or.inl ⟨by first | rfl | go_simp, by intro w9 hSw; (try dsimp only at hSw); go_simp⟩) (by assumption) ?_
    simp only [List.getElem_toArray, List.getElem_cons_zero, List.getElem_cons_succ, Act.put, List.setIfInBounds_toArray, List.set_cons_zero, List.set_cons_succ]
    refine wpAnyH_ready (rs := [12]) (by kernel_rfl) (by simp) ?_
    refine AllReadyH.cons rfl (fun K hK => ?_) (AllReadyH.nil)
    go_simp
    refine (H3.out _).mono ?_
    rintro e X2 ⟨rfl, b9⟩
    clear H3
    have F0 := F0.below b9 F0.lt
    have FP := FP.below b9 FP.lt
    have FQ := FQ.below b9 FQ.lt
    have F2 := F2.below b9 F2.lt
    have TT := And.intro (quad_of F0) (And.intro (five_of FP) (And.intro (five_of FQ) (quad_of F2)))
    have BX := thenB BX b9
    have sz := Nat.le_trans sz b9.size
    refine hK.out _ _ TT (fun hHeld => ?_)
    clear hK K
    try simp only [List.getElem_toArray, List.getElem_cons_zero, List.getElem_cons_succ, Act.put, List.setIfInBounds_toArray, List.set_cons_zero, List.set_cons_succ]
    refine wpAnyH_take (i := 13) (v := .int .i64 r) rfl (by kernel_rfl) (by kernel_rfl) (by kernel_rfl) (fun _ _ _ h => h) (Or.inl ⟨by first | rfl | go_simp, by intro w9 hSw; (try dsimp only at hSw); go_simp⟩) (by assumption) ?_
    simp only [List.getElem_toArray, List.getElem_cons_zero, List.getElem_cons_succ, Act.put, List.setIfInBounds_toArray, List.set_cons_zero, List.set_cons_succ]
    refine wpAnyH_done (by kernel_rfl) ?_ _
    go_wp2_with fail
    go_cut [12] from 67 to 83 (fun s12 wx => ∃ G, s12 = .pointer (some ⟨G, 0, none⟩) ∧ wx.cell? ⟨G, 0, none⟩ = some (.int .i64 P1) ∧ wx.cell? ⟨G, 1, none⟩ = some (.int .i64 P2) ∧ Quad wx w.heap.size pa sa pb sb ∧ Below w.heap.size w wx)
    case first =>
      go_wp2_with fail
      refine wp_region_held_drew (S := (fun w' => Quad w' (w.heap.size) pa sa pb sb ∧ Five w' p s o i l t ∧ Five w' q s2 o2 i2 l2 t2 ∧ Quad w' (w.heap.size + 2) T n y x)) (by kernel_rfl) ?_ (fun hHeld => ?_)
      · exact And.intro (quad_of F0) (And.intro (five_of FP) (And.intro (five_of FQ) (quad_of F2)))
      have TT : Quad X2.drew (w.heap.size) pa sa pb sb ∧ Five X2.drew p s o i l t ∧ Five X2.drew q s2 o2 i2 l2 t2 ∧ Quad X2.drew (w.heap.size + 2) T n y x := ⟨quad_of F0.drew, five_of FP.drew, five_of FQ.drew, quad_of F2.drew⟩
      have F0 := F0.drew
      have FP := FP.drew
      have FQ := FQ.drew
      have F2 := F2.drew
      have BX := BX.drew
      have sz : w.heap.size + 3 ≤ X2.drew.heap.size := sz
      generalize X2.drew = Z0 at *
      refine wpAnyH_take (i := 0) (v := .pointer (some ⟨w.heap.size, 2, none⟩)) rfl (by kernel_rfl) (by kernel_rfl) (by kernel_rfl) (fun _ _ _ h => h) (Or.inl ⟨by first | rfl | go_simp, by intro w9 hSw; (try dsimp only at hSw); go_simp⟩) (by assumption) ?_
      simp only [List.getElem_toArray, List.getElem_cons_zero, List.getElem_cons_succ, Act.put, List.setIfInBounds_toArray, List.set_cons_zero, List.set_cons_succ]
      refine wpAnyH_take (i := 1) (v := .agg #[.int .i64 pb, .int .i64 sb]) rfl (by kernel_rfl) (by kernel_rfl) (by kernel_rfl) (fun _ _ _ h => h) (Or.inl ⟨by first | rfl | go_simp, by intro w9 hSw; (try dsimp only at hSw); go_simp⟩) (by assumption) ?_
      simp only [List.getElem_toArray, List.getElem_cons_zero, List.getElem_cons_succ, Act.put, List.setIfInBounds_toArray, List.set_cons_zero, List.set_cons_succ]
      refine wpAnyH_take (i := 2) (v := .pointer (some ⟨w.heap.size + 2, 0, none⟩)) rfl (by kernel_rfl) (by kernel_rfl) (by kernel_rfl) (fun _ _ _ h => h) (Or.inl ⟨by first | rfl | go_simp, by intro w9 hSw; (try dsimp only at hSw); go_simp⟩) (by assumption) ?_
      simp only [List.getElem_toArray, List.getElem_cons_zero, List.getElem_cons_succ, Act.put, List.setIfInBounds_toArray, List.set_cons_zero, List.set_cons_succ]
      refine wpAnyH_take (i := 3) (v := .int .i64 T) rfl (by kernel_rfl) (by kernel_rfl) (by kernel_rfl) (fun _ _ _ h => h) (Or.inl ⟨by first | rfl | go_simp, by intro w9 hSw; (try dsimp only at hSw); go_simp⟩) (by assumption) ?_
      simp only [List.getElem_toArray, List.getElem_cons_zero, List.getElem_cons_succ, Act.put, List.setIfInBounds_toArray, List.set_cons_zero, List.set_cons_succ]
      refine wpAnyH_take (i := 5) (v := .pointer (some ⟨w.heap.size + 2, 1, none⟩)) rfl (by kernel_rfl) (by kernel_rfl) (by kernel_rfl) (fun _ _ _ h => h) (Or.inl ⟨by first | rfl | go_simp, by intro w9 hSw; (try dsimp only at hSw); go_simp⟩) (by assumption) ?_
      simp only [List.getElem_toArray, List.getElem_cons_zero, List.getElem_cons_succ, Act.put, List.setIfInBounds_toArray, List.set_cons_zero, List.set_cons_succ]
      refine wpAnyH_take (i := 6) (v := .int .i64 n) rfl (by kernel_rfl) (by kernel_rfl) (by kernel_rfl) (fun _ _ _ h => h) (Or.inl ⟨by first | rfl | go_simp, by intro w9 hSw; (try dsimp only at hSw); go_simp⟩) (by assumption) ?_
      simp only [List.getElem_toArray, List.getElem_cons_zero, List.getElem_cons_succ, Act.put, List.setIfInBounds_toArray, List.set_cons_zero, List.set_cons_succ]
      refine wpAnyH_take (i := 7) (v := .agg #[.int .i64 s, .int .i64 o, .int .i64 i, .int .i64 l, .int .i64 t]) rfl (by kernel_rfl) (by kernel_rfl) (by kernel_rfl) (fun _ _ _ h => h) (Or.inl ⟨by first | rfl | go_simp, by intro w9 hSw; (try dsimp only at hSw); go_simp⟩) (by assumption) ?_
      simp only [List.getElem_toArray, List.getElem_cons_zero, List.getElem_cons_succ, Act.put, List.setIfInBounds_toArray, List.set_cons_zero, List.set_cons_succ]
      refine wpAnyH_take (i := 8) (v := .agg #[.int .i64 s2, .int .i64 o2, .int .i64 i2, .int .i64 l2, .int .i64 t2]) rfl (by kernel_rfl) (by kernel_rfl) (by kernel_rfl) (fun _ _ _ h => h) (Or.inl ⟨by first | rfl | go_simp, by intro w9 hSw; (try dsimp only at hSw); go_simp⟩) (by assumption) ?_
      simp only [List.getElem_toArray, List.getElem_cons_zero, List.getElem_cons_succ, Act.put, List.setIfInBounds_toArray, List.set_cons_zero, List.set_cons_succ]
      refine wpAnyH_take (i := 9) (v := .pointer (some ⟨w.heap.size, 0, none⟩)) rfl (by kernel_rfl) (by kernel_rfl) (by kernel_rfl) (fun _ _ _ h => h) (Or.inl ⟨by first | rfl | go_simp, by intro w9 hSw; (try dsimp only at hSw); go_simp⟩) (by assumption) ?_
      simp only [List.getElem_toArray, List.getElem_cons_zero, List.getElem_cons_succ, Act.put, List.setIfInBounds_toArray, List.set_cons_zero, List.set_cons_succ]
      refine wpAnyH_take (i := 10) (v := .agg #[.int .i64 pa, .int .i64 sa]) rfl (by kernel_rfl) (by kernel_rfl) (by kernel_rfl) (fun _ _ _ h => h) (Or.inl ⟨by first | rfl | go_simp, by intro w9 hSw; (try dsimp only at hSw); go_simp⟩) (by assumption) ?_
      simp only [List.getElem_toArray, List.getElem_cons_zero, List.getElem_cons_succ, Act.put, List.setIfInBounds_toArray, List.set_cons_zero, List.set_cons_succ]
      refine wpAnyH_take (i := 11) (v := .pointer (some ⟨w.heap.size, 2, none⟩)) rfl (by kernel_rfl) (by kernel_rfl) (by kernel_rfl) (fun _ _ _ h => h) (Or.inl ⟨by first | rfl | go_simp, by intro w9 hSw; (try dsimp only at hSw); go_simp⟩) (by assumption) ?_
      simp only [List.getElem_toArray, List.getElem_cons_zero, List.getElem_cons_succ, Act.put, List.setIfInBounds_toArray, List.set_cons_zero, List.set_cons_succ]
      refine wpAnyH_take (i := 12) (v := .agg #[.int .i64 pb, .int .i64 sb]) rfl (by kernel_rfl) (by kernel_rfl) (by kernel_rfl) (fun _ _ _ h => h) (Or.inl ⟨by first | rfl | go_simp, by intro w9 hSw; (try dsimp only at hSw); go_simp⟩) (by assumption) ?_
      simp only [List.getElem_toArray, List.getElem_cons_zero, List.getElem_cons_succ, Act.put, List.setIfInBounds_toArray, List.set_cons_zero, List.set_cons_succ]
      refine wpAnyH_take (i := 13) (v := .pointer (some ⟨w.heap.size + 2, 2, none⟩)) rfl (by kernel_rfl) (by kernel_rfl) (by kernel_rfl) (fun _ _ _ h => h) (Or.inl ⟨by first | rfl | go_simp, by intro w9 hSw; (try dsimp only at hSw); go_simp⟩) (by assumption) ?_
      simp only [List.getElem_toArray, List.getElem_cons_zero, List.getElem_cons_succ, Act.put, List.setIfInBounds_toArray, List.set_cons_zero, List.set_cons_succ]
      refine wpAnyH_take (i := 14) (v := .int .i64 y) rfl (by kernel_rfl) (by kernel_rfl) (by kernel_rfl) (fun _ _ _ h => h) (Or.inl ⟨by first | rfl | go_simp, by intro w9 hSw; (try dsimp only at hSw); go_simp⟩) (by assumption) ?_
      simp only [List.getElem_toArray, List.getElem_cons_zero, List.getElem_cons_succ, Act.put, List.setIfInBounds_toArray, List.set_cons_zero, List.set_cons_succ]
      refine wpAnyH_ready (rs := [4, 17]) (by kernel_rfl) (by simp) ?_
      refine AllReadyH.cons rfl (fun K hK => ?_) (AllReadyH.cons rfl (fun K hK => ?_) (AllReadyH.nil))
      · skip
        go_simp
        refine (H4.out _).mono ?_
        rintro e Z1 ⟨rfl, b9⟩
        have F0 := F0.below b9 F0.lt
        have FP := FP.below b9 FP.lt
        have FQ := FQ.below b9 FQ.lt
        have F2 := F2.below b9 F2.lt
        have TT := And.intro (quad_of F0) (And.intro (five_of FP) (And.intro (five_of FQ) (quad_of F2)))
        have BX := thenB BX b9
        have sz := Nat.le_trans sz b9.size
        refine hK.out _ _ TT (fun hHeld => ?_)
        clear hK K
        try simp only [List.getElem_toArray, List.getElem_cons_zero, List.getElem_cons_succ, Act.put, List.setIfInBounds_toArray, List.set_cons_zero, List.set_cons_succ]
        refine wpAnyH_ready (rs := [15, 17]) (by kernel_rfl) (by simp) ?_
        refine AllReadyH.cons rfl (fun K hK => ?_) (AllReadyH.cons rfl (fun K hK => ?_) (AllReadyH.nil))
        · skip
          go_simp
          refine (H5.out _).mono ?_
          rintro e Z2 ⟨rfl, b9⟩
          have F0 := F0.below b9 F0.lt
          have FP := FP.below b9 FP.lt
          have FQ := FQ.below b9 FQ.lt
          have F2 := F2.below b9 F2.lt
          have TT := And.intro (quad_of F0) (And.intro (five_of FP) (And.intro (five_of FQ) (quad_of F2)))
          have BX := thenB BX b9
          have sz := Nat.le_trans sz b9.size
          refine hK.out _ _ TT (fun hHeld => ?_)
          clear hK K
          try simp only [List.getElem_toArray, List.getElem_cons_zero, List.getElem_cons_succ, Act.put, List.setIfInBounds_toArray, List.set_cons_zero, List.set_cons_succ]
          refine wpAnyH_ready (rs := [16, 17]) (by kernel_rfl) (by simp) ?_
          refine AllReadyH.cons rfl (fun K hK => ?_) (AllReadyH.cons rfl (fun K hK => ?_) (AllReadyH.nil))
          · skip
            go_simp
            refine (H6.out _).mono ?_
            rintro e Z3 ⟨rfl, b9⟩
            have F0 := F0.below b9 F0.lt
            have FP := FP.below b9 FP.lt
            have FQ := FQ.below b9 FQ.lt
            have F2 := F2.below b9 F2.lt
            have TT := And.intro (quad_of F0) (And.intro (five_of FP) (And.intro (five_of FQ) (quad_of F2)))
            have BX := thenB BX b9
            have sz := Nat.le_trans sz b9.size
            refine hK.out _ _ TT (fun hHeld => ?_)
            clear hK K
            try simp only [List.getElem_toArray, List.getElem_cons_zero, List.getElem_cons_succ, Act.put, List.setIfInBounds_toArray, List.set_cons_zero, List.set_cons_succ]
            refine wpAnyH_ready (rs := [17]) (by kernel_rfl) (by simp) ?_
            refine AllReadyH.cons rfl (fun K hK => ?_) (AllReadyH.nil)
            go_simp
            have b9 := (Below.refl Z3.heap.size Z3).alloc (Nat.le_refl _) (.cells #[.int .i64 0, .int .i64 0] 42)
            have PW := Blk.fresh Z3 42 #[.int .i64 0, .int .i64 0]
            have gW : w.heap.size + 3 ≤ Z3.heap.size := sz
            have gp : p < Z3.heap.size := FP.lt
            have gq : q < Z3.heap.size := FQ.lt
            generalize Z3.alloc (.cells #[.int .i64 0, .int .i64 0] 42) = Z4 at *
            have F0 := F0.below b9 F0.lt
            have FP := FP.below b9 FP.lt
            have FQ := FQ.below b9 FQ.lt
            have F2 := F2.below b9 F2.lt
            have TT := And.intro (quad_of F0) (And.intro (five_of FP) (And.intro (five_of FQ) (quad_of F2)))
            have BX := thenB BX b9
            have sz := Nat.le_trans sz b9.size
            refine hK.out _ _ TT (fun hHeld => ?_)
            clear hK K
            try simp only [List.getElem_toArray, List.getElem_cons_zero, List.getElem_cons_succ, Act.put, List.setIfInBounds_toArray, List.set_cons_zero, List.set_cons_succ]
            refine wpAnyH_ready (rs := [18]) (by kernel_rfl) (by simp) ?_
            refine AllReadyH.cons rfl (fun K hK => ?_) (AllReadyH.nil)
            obtain ⟨c0, c1⟩ := win_of PW
            have z0 := frz PW 0
            have z1 := frz PW 1
            have F0 := (blk_set_ne (i := 1) (blk_set_ne (i := 0) F0 (show Z3.heap.size ≠ _ by omega) (.int .i64 P1)) (show Z3.heap.size ≠ _ by omega) (.int .i64 P2))
            have FP := (blk_set_ne (i := 1) (blk_set_ne (i := 0) FP (show Z3.heap.size ≠ _ by omega) (.int .i64 P1)) (show Z3.heap.size ≠ _ by omega) (.int .i64 P2))
            have FQ := (blk_set_ne (i := 1) (blk_set_ne (i := 0) FQ (show Z3.heap.size ≠ _ by omega) (.int .i64 P1)) (show Z3.heap.size ≠ _ by omega) (.int .i64 P2))
            have F2 := (blk_set_ne (i := 1) (blk_set_ne (i := 0) F2 (show Z3.heap.size ≠ _ by omega) (.int .i64 P1)) (show Z3.heap.size ≠ _ by omega) (.int .i64 P2))
            have BX := win_below (g := Z3.heap.size) (.int .i64 P1) (.int .i64 P2) BX (by omega)
            have PW := win_set (.int .i64 P1) (.int .i64 P2) PW
            have TT := And.intro (quad_of F0) (And.intro (five_of FP) (And.intro (five_of FQ) (quad_of F2)))
            go_simp
            clear c0 c1 z0 z1
            generalize (Z4.setCell ⟨Z3.heap.size, 0, none⟩ (.int .i64 P1)).setCell ⟨Z3.heap.size, 1, none⟩ (.int .i64 P2) = Z5 at *
            refine hK.out _ _ TT (fun hHeld => ?_)
            clear hK K
            try simp only [List.getElem_toArray, List.getElem_cons_zero, List.getElem_cons_succ, Act.put, List.setIfInBounds_toArray, List.set_cons_zero, List.set_cons_succ]
            refine wpAnyH_done (by kernel_rfl) ?_ _
            go_wp2_with fail
            go_meet
            obtain ⟨p0, p1⟩ := win_of PW
            exact ⟨_, rfl, p0, p1, quad_of F0, BX⟩
          · skip
            go_simp
            have b9 := (Below.refl Z2.heap.size Z2).alloc (Nat.le_refl _) (.cells #[.int .i64 0, .int .i64 0] 42)
            have PW := Blk.fresh Z2 42 #[.int .i64 0, .int .i64 0]
            have gW : w.heap.size + 3 ≤ Z2.heap.size := sz
            have gp : p < Z2.heap.size := FP.lt
            have gq : q < Z2.heap.size := FQ.lt
            generalize Z2.alloc (.cells #[.int .i64 0, .int .i64 0] 42) = Z6 at *
            have F0 := F0.below b9 F0.lt
            have FP := FP.below b9 FP.lt
            have FQ := FQ.below b9 FQ.lt
            have F2 := F2.below b9 F2.lt
            have TT := And.intro (quad_of F0) (And.intro (five_of FP) (And.intro (five_of FQ) (quad_of F2)))
            have BX := thenB BX b9
            have sz := Nat.le_trans sz b9.size
            refine hK.out _ _ TT (fun hHeld => ?_)
            clear hK K
            try simp only [List.getElem_toArray, List.getElem_cons_zero, List.getElem_cons_succ, Act.put, List.setIfInBounds_toArray, List.set_cons_zero, List.set_cons_succ]
            refine wpAnyH_ready (rs := [16]) (by kernel_rfl) (by simp) ?_
            refine AllReadyH.cons rfl (fun K hK => ?_) (AllReadyH.nil)
            go_simp
            refine (H6.out _).mono ?_
            rintro e Z7 ⟨rfl, b9⟩
            have F0 := F0.below b9 F0.lt
            have FP := FP.below b9 FP.lt
            have FQ := FQ.below b9 FQ.lt
            have F2 := F2.below b9 F2.lt
            have TT := And.intro (quad_of F0) (And.intro (five_of FP) (And.intro (five_of FQ) (quad_of F2)))
            have BX := thenB BX b9
            have sz := Nat.le_trans sz b9.size
            have PW := PW.below b9 PW.lt
            refine hK.out _ _ TT (fun hHeld => ?_)
            clear hK K
            try simp only [List.getElem_toArray, List.getElem_cons_zero, List.getElem_cons_succ, Act.put, List.setIfInBounds_toArray, List.set_cons_zero, List.set_cons_succ]
            refine wpAnyH_ready (rs := [18]) (by kernel_rfl) (by simp) ?_
            refine AllReadyH.cons rfl (fun K hK => ?_) (AllReadyH.nil)
            obtain ⟨c0, c1⟩ := win_of PW
            have z0 := frz PW 0
            have z1 := frz PW 1
            have F0 := (blk_set_ne (i := 1) (blk_set_ne (i := 0) F0 (show Z2.heap.size ≠ _ by omega) (.int .i64 P1)) (show Z2.heap.size ≠ _ by omega) (.int .i64 P2))
            have FP := (blk_set_ne (i := 1) (blk_set_ne (i := 0) FP (show Z2.heap.size ≠ _ by omega) (.int .i64 P1)) (show Z2.heap.size ≠ _ by omega) (.int .i64 P2))
            have FQ := (blk_set_ne (i := 1) (blk_set_ne (i := 0) FQ (show Z2.heap.size ≠ _ by omega) (.int .i64 P1)) (show Z2.heap.size ≠ _ by omega) (.int .i64 P2))
            have F2 := (blk_set_ne (i := 1) (blk_set_ne (i := 0) F2 (show Z2.heap.size ≠ _ by omega) (.int .i64 P1)) (show Z2.heap.size ≠ _ by omega) (.int .i64 P2))
            have BX := win_below (g := Z2.heap.size) (.int .i64 P1) (.int .i64 P2) BX (by omega)
            have PW := win_set (.int .i64 P1) (.int .i64 P2) PW
            have TT := And.intro (quad_of F0) (And.intro (five_of FP) (And.intro (five_of FQ) (quad_of F2)))
            go_simp
            clear c0 c1 z0 z1
            generalize (Z7.setCell ⟨Z2.heap.size, 0, none⟩ (.int .i64 P1)).setCell ⟨Z2.heap.size, 1, none⟩ (.int .i64 P2) = Z8 at *
            refine hK.out _ _ TT (fun hHeld => ?_)
            clear hK K
            try simp only [List.getElem_toArray, List.getElem_cons_zero, List.getElem_cons_succ, Act.put, List.setIfInBounds_toArray, List.set_cons_zero, List.set_cons_succ]
            refine wpAnyH_done (by kernel_rfl) ?_ _
            go_wp2_with fail
            go_meet
            obtain ⟨p0, p1⟩ := win_of PW
            exact ⟨_, rfl, p0, p1, quad_of F0, BX⟩
        · skip
          go_simp
          have b9 := (Below.refl Z1.heap.size Z1).alloc (Nat.le_refl _) (.cells #[.int .i64 0, .int .i64 0] 42)
          have PW := Blk.fresh Z1 42 #[.int .i64 0, .int .i64 0]
          have gW : w.heap.size + 3 ≤ Z1.heap.size := sz
          have gp : p < Z1.heap.size := FP.lt
          have gq : q < Z1.heap.size := FQ.lt
          generalize Z1.alloc (.cells #[.int .i64 0, .int .i64 0] 42) = Z9 at *
          have F0 := F0.below b9 F0.lt
          have FP := FP.below b9 FP.lt
          have FQ := FQ.below b9 FQ.lt
          have F2 := F2.below b9 F2.lt
          have TT := And.intro (quad_of F0) (And.intro (five_of FP) (And.intro (five_of FQ) (quad_of F2)))
          have BX := thenB BX b9
          have sz := Nat.le_trans sz b9.size
          refine hK.out _ _ TT (fun hHeld => ?_)
          clear hK K
          try simp only [List.getElem_toArray, List.getElem_cons_zero, List.getElem_cons_succ, Act.put, List.setIfInBounds_toArray, List.set_cons_zero, List.set_cons_succ]
          refine wpAnyH_ready (rs := [15]) (by kernel_rfl) (by simp) ?_
          refine AllReadyH.cons rfl (fun K hK => ?_) (AllReadyH.nil)
          go_simp
          refine (H5.out _).mono ?_
          rintro e Z10 ⟨rfl, b9⟩
          have F0 := F0.below b9 F0.lt
          have FP := FP.below b9 FP.lt
          have FQ := FQ.below b9 FQ.lt
          have F2 := F2.below b9 F2.lt
          have TT := And.intro (quad_of F0) (And.intro (five_of FP) (And.intro (five_of FQ) (quad_of F2)))
          have BX := thenB BX b9
          have sz := Nat.le_trans sz b9.size
          have PW := PW.below b9 PW.lt
          refine hK.out _ _ TT (fun hHeld => ?_)
          clear hK K
          try simp only [List.getElem_toArray, List.getElem_cons_zero, List.getElem_cons_succ, Act.put, List.setIfInBounds_toArray, List.set_cons_zero, List.set_cons_succ]
          refine wpAnyH_ready (rs := [16]) (by kernel_rfl) (by simp) ?_
          refine AllReadyH.cons rfl (fun K hK => ?_) (AllReadyH.nil)
          go_simp
          refine (H6.out _).mono ?_
          rintro e Z11 ⟨rfl, b9⟩
          have F0 := F0.below b9 F0.lt
          have FP := FP.below b9 FP.lt
          have FQ := FQ.below b9 FQ.lt
          have F2 := F2.below b9 F2.lt
          have TT := And.intro (quad_of F0) (And.intro (five_of FP) (And.intro (five_of FQ) (quad_of F2)))
          have BX := thenB BX b9
          have sz := Nat.le_trans sz b9.size
          have PW := PW.below b9 PW.lt
          refine hK.out _ _ TT (fun hHeld => ?_)
          clear hK K
          try simp only [List.getElem_toArray, List.getElem_cons_zero, List.getElem_cons_succ, Act.put, List.setIfInBounds_toArray, List.set_cons_zero, List.set_cons_succ]
          refine wpAnyH_ready (rs := [18]) (by kernel_rfl) (by simp) ?_
          refine AllReadyH.cons rfl (fun K hK => ?_) (AllReadyH.nil)
          obtain ⟨c0, c1⟩ := win_of PW
          have z0 := frz PW 0
          have z1 := frz PW 1
          have F0 := (blk_set_ne (i := 1) (blk_set_ne (i := 0) F0 (show Z1.heap.size ≠ _ by omega) (.int .i64 P1)) (show Z1.heap.size ≠ _ by omega) (.int .i64 P2))
          have FP := (blk_set_ne (i := 1) (blk_set_ne (i := 0) FP (show Z1.heap.size ≠ _ by omega) (.int .i64 P1)) (show Z1.heap.size ≠ _ by omega) (.int .i64 P2))
          have FQ := (blk_set_ne (i := 1) (blk_set_ne (i := 0) FQ (show Z1.heap.size ≠ _ by omega) (.int .i64 P1)) (show Z1.heap.size ≠ _ by omega) (.int .i64 P2))
          have F2 := (blk_set_ne (i := 1) (blk_set_ne (i := 0) F2 (show Z1.heap.size ≠ _ by omega) (.int .i64 P1)) (show Z1.heap.size ≠ _ by omega) (.int .i64 P2))
          have BX := win_below (g := Z1.heap.size) (.int .i64 P1) (.int .i64 P2) BX (by omega)
          have PW := win_set (.int .i64 P1) (.int .i64 P2) PW
          have TT := And.intro (quad_of F0) (And.intro (five_of FP) (And.intro (five_of FQ) (quad_of F2)))
          go_simp
          clear c0 c1 z0 z1
          generalize (Z11.setCell ⟨Z1.heap.size, 0, none⟩ (.int .i64 P1)).setCell ⟨Z1.heap.size, 1, none⟩ (.int .i64 P2) = Z12 at *
          refine hK.out _ _ TT (fun hHeld => ?_)
          clear hK K
          try simp only [List.getElem_toArray, List.getElem_cons_zero, List.getElem_cons_succ, Act.put, List.setIfInBounds_toArray, List.set_cons_zero, List.set_cons_succ]
          refine wpAnyH_done (by kernel_rfl) ?_ _
          go_wp2_with fail
          go_meet
          obtain ⟨p0, p1⟩ := win_of PW
          exact ⟨_, rfl, p0, p1, quad_of F0, BX⟩
      · skip
        go_simp
        have b9 := (Below.refl Z0.heap.size Z0).alloc (Nat.le_refl _) (.cells #[.int .i64 0, .int .i64 0] 42)
        have PW := Blk.fresh Z0 42 #[.int .i64 0, .int .i64 0]
        have gW : w.heap.size + 3 ≤ Z0.heap.size := sz
        have gp : p < Z0.heap.size := FP.lt
        have gq : q < Z0.heap.size := FQ.lt
        generalize Z0.alloc (.cells #[.int .i64 0, .int .i64 0] 42) = Z13 at *
        have F0 := F0.below b9 F0.lt
        have FP := FP.below b9 FP.lt
        have FQ := FQ.below b9 FQ.lt
        have F2 := F2.below b9 F2.lt
        have TT := And.intro (quad_of F0) (And.intro (five_of FP) (And.intro (five_of FQ) (quad_of F2)))
        have BX := thenB BX b9
        have sz := Nat.le_trans sz b9.size
        refine hK.out _ _ TT (fun hHeld => ?_)
        clear hK K
        try simp only [List.getElem_toArray, List.getElem_cons_zero, List.getElem_cons_succ, Act.put, List.setIfInBounds_toArray, List.set_cons_zero, List.set_cons_succ]
        refine wpAnyH_ready (rs := [4]) (by kernel_rfl) (by simp) ?_
        refine AllReadyH.cons rfl (fun K hK => ?_) (AllReadyH.nil)
        go_simp
        refine (H4.out _).mono ?_
        rintro e Z14 ⟨rfl, b9⟩
        have F0 := F0.below b9 F0.lt
        have FP := FP.below b9 FP.lt
        have FQ := FQ.below b9 FQ.lt
        have F2 := F2.below b9 F2.lt
        have TT := And.intro (quad_of F0) (And.intro (five_of FP) (And.intro (five_of FQ) (quad_of F2)))
        have BX := thenB BX b9
        have sz := Nat.le_trans sz b9.size
        have PW := PW.below b9 PW.lt
        refine hK.out _ _ TT (fun hHeld => ?_)
        clear hK K
        try simp only [List.getElem_toArray, List.getElem_cons_zero, List.getElem_cons_succ, Act.put, List.setIfInBounds_toArray, List.set_cons_zero, List.set_cons_succ]
        refine wpAnyH_ready (rs := [15]) (by kernel_rfl) (by simp) ?_
        refine AllReadyH.cons rfl (fun K hK => ?_) (AllReadyH.nil)
        go_simp
        refine (H5.out _).mono ?_
        rintro e Z15 ⟨rfl, b9⟩
        have F0 := F0.below b9 F0.lt
        have FP := FP.below b9 FP.lt
        have FQ := FQ.below b9 FQ.lt
        have F2 := F2.below b9 F2.lt
        have TT := And.intro (quad_of F0) (And.intro (five_of FP) (And.intro (five_of FQ) (quad_of F2)))
        have BX := thenB BX b9
        have sz := Nat.le_trans sz b9.size
        have PW := PW.below b9 PW.lt
        refine hK.out _ _ TT (fun hHeld => ?_)
        clear hK K
        try simp only [List.getElem_toArray, List.getElem_cons_zero, List.getElem_cons_succ, Act.put, List.setIfInBounds_toArray, List.set_cons_zero, List.set_cons_succ]
        refine wpAnyH_ready (rs := [16]) (by kernel_rfl) (by simp) ?_
        refine AllReadyH.cons rfl (fun K hK => ?_) (AllReadyH.nil)
        go_simp
        refine (H6.out _).mono ?_
        rintro e Z16 ⟨rfl, b9⟩
        have F0 := F0.below b9 F0.lt
        have FP := FP.below b9 FP.lt
        have FQ := FQ.below b9 FQ.lt
        have F2 := F2.below b9 F2.lt
        have TT := And.intro (quad_of F0) (And.intro (five_of FP) (And.intro (five_of FQ) (quad_of F2)))
        have BX := thenB BX b9
        have sz := Nat.le_trans sz b9.size
        have PW := PW.below b9 PW.lt
        refine hK.out _ _ TT (fun hHeld => ?_)
        clear hK K
        try simp only [List.getElem_toArray, List.getElem_cons_zero, List.getElem_cons_succ, Act.put, List.setIfInBounds_toArray, List.set_cons_zero, List.set_cons_succ]
        refine wpAnyH_ready (rs := [18]) (by kernel_rfl) (by simp) ?_
        refine AllReadyH.cons rfl (fun K hK => ?_) (AllReadyH.nil)
        obtain ⟨c0, c1⟩ := win_of PW
        have z0 := frz PW 0
        have z1 := frz PW 1
        have F0 := (blk_set_ne (i := 1) (blk_set_ne (i := 0) F0 (show Z0.heap.size ≠ _ by omega) (.int .i64 P1)) (show Z0.heap.size ≠ _ by omega) (.int .i64 P2))
        have FP := (blk_set_ne (i := 1) (blk_set_ne (i := 0) FP (show Z0.heap.size ≠ _ by omega) (.int .i64 P1)) (show Z0.heap.size ≠ _ by omega) (.int .i64 P2))
        have FQ := (blk_set_ne (i := 1) (blk_set_ne (i := 0) FQ (show Z0.heap.size ≠ _ by omega) (.int .i64 P1)) (show Z0.heap.size ≠ _ by omega) (.int .i64 P2))
        have F2 := (blk_set_ne (i := 1) (blk_set_ne (i := 0) F2 (show Z0.heap.size ≠ _ by omega) (.int .i64 P1)) (show Z0.heap.size ≠ _ by omega) (.int .i64 P2))
        have BX := win_below (g := Z0.heap.size) (.int .i64 P1) (.int .i64 P2) BX (by omega)
        have PW := win_set (.int .i64 P1) (.int .i64 P2) PW
        have TT := And.intro (quad_of F0) (And.intro (five_of FP) (And.intro (five_of FQ) (quad_of F2)))
        go_simp
        clear c0 c1 z0 z1
        generalize (Z16.setCell ⟨Z0.heap.size, 0, none⟩ (.int .i64 P1)).setCell ⟨Z0.heap.size, 1, none⟩ (.int .i64 P2) = Z17 at *
        refine hK.out _ _ TT (fun hHeld => ?_)
        clear hK K
        try simp only [List.getElem_toArray, List.getElem_cons_zero, List.getElem_cons_succ, Act.put, List.setIfInBounds_toArray, List.set_cons_zero, List.set_cons_succ]
        refine wpAnyH_done (by kernel_rfl) ?_ _
        go_wp2_with fail
        go_meet
        obtain ⟨p0, p1⟩ := win_of PW
        exact ⟨_, rfl, p0, p1, quad_of F0, BX⟩
    case rest =>
      obtain ⟨G, rfl, p0, p1, ⟨u0, u1, u2, u3⟩, BX⟩ := hcut
      generalize wc = ZW at *
      have g0 := World.block_lt_of_cell? _ _ p0
      go_wp2_with (go_at_call 33; refine (H7.out _).mono ?_; clear H7; rintro e w9 ⟨rfl, b9⟩; have BX := thenB BX b9; have q0 := (b9.cell (p := ⟨G, 0, none⟩) g0).trans p0; have q1 := (b9.cell (p := ⟨G, 1, none⟩) g0).trans p1)
      go_ret
      exact ⟨rfl, BX⟩
theorem law_moved (pa sa pb sb s o i l t s2 o2 i2 l2 t2 T n y x : Int) (w : World) :
    Calls Try.prog 10 #[.agg #[.int .i64 pa, .int .i64 sa, .int .i64 pb, .int .i64 sb], .agg #[.int .i64 s, .int .i64 o, .int .i64 i, .int .i64 l, .int .i64 t, .int .i64 s2, .int .i64 o2, .int .i64 i2, .int .i64 l2, .int .i64 t2], .agg #[.int .i64 T, .int .i64 n, .int .i64 y, .int .i64 x]] w fun e w' => e = .returned (.bool true) ∧ Below w.heap.size w w' := by
  have HD := Lib.hid (rdue_any n s o i l t s2 o2 i2 l2 t2)
  have HU := Lib.hid (rcheckUpdate_any s2 o2 i2 l2 t2)
  by_cases hy : Rdy pa sa pb sb s o i l t T n
  case neg =>
    have HR : Hid (∀ w, Calls Try.prog 31 #[.agg #[.int .i64 pa, .int .i64 sa], .agg #[.int .i64 pb, .int .i64 sb], upd s o i l t, .agg #[.int .i64 T, .int .i64 n, .int .i64 y, .int .i64 x]] w fun e w' => e = .returned (.bool false) ∧ Below w.heap.size w w') := Lib.hid fun w => (ready_any pa sa pb sb s o i l t T n y x w).mono fun e w' h => by obtain ⟨⟨c, hc, hi⟩, hb⟩ := h; refine ⟨?_, hb⟩; rw [hc]; cases c <;> simp_all
    exact moved_no0 pa sa pb sb s o i l t s2 o2 i2 l2 t2 T n y x _ _ 0 w HD HR
  have HR : Hid (∀ w, Calls Try.prog 31 #[.agg #[.int .i64 pa, .int .i64 sa], .agg #[.int .i64 pb, .int .i64 sb], upd s o i l t, .agg #[.int .i64 T, .int .i64 n, .int .i64 y, .int .i64 x]] w fun e w' => e = .returned (.bool true) ∧ Below w.heap.size w w') := Lib.hid fun w => (ready_any pa sa pb sb s o i l t T n y x w).mono fun e w' h => by obtain ⟨⟨c, hc, hi⟩, hb⟩ := h; refine ⟨?_, hb⟩; rw [hc]; cases c <;> simp_all
  by_cases hu : okU s2 o2 i2 l2 t2 = 0
  case neg => exact moved_no1 pa sa pb sb s o i l t s2 o2 i2 l2 t2 T n y x _ _ _ w HD HR HU (by simpa using hu)
  by_cases hx : x < 0
  · exact moved_no2 pa sa pb sb s o i l t s2 o2 i2 l2 t2 T n y x _ _ _ w HD HR HU (by simpa using hu) (decide_eq_true hx)
  by_cases hz : lim s2 1 8 * 1250 < x
  · exact moved_no3 pa sa pb sb s o i l t s2 o2 i2 l2 t2 T n y x _ _ _ w HD HR HU (by simpa using hu) (decide_eq_false hx) (decide_eq_true hz)
  obtain ⟨c1, c2, c3, c4, c5, c6, c7, c8⟩ := hy
  have ha := okC_in c1
  have hb := okC_in c2
  have hi := okU_in c5
  have hl := loc_bd pa sa T
  have hd := due_bd n i o2
  have hs := lim_bd s2 1 8 (by decide)
  obtain ⟨r, hF⟩ := first_ex pa sa (loc pa sa T + due n i o2 + x)
  have H1 := Lib.hid (local_any pa sa T)
  have H3 := real_to hF
  have e1 : IntKind.i64.wrap (loc pa sa T + due n i o2) = loc pa sa T + due n i o2 := i64_in _ (by omega)
  have e2 : IntKind.i64.wrap (loc pa sa T + due n i o2 + x) = loc pa sa T + due n i o2 + x := i64_in _ (by omega)
  by_cases hr : r < 1099511627776
  · have HM := meet_moved (sb := sb) (more := y) (s := s2) (o := o2) ha hb c3 ⟨c6, c7⟩ hi c8 ⟨by omega, by omega⟩ hF hr
    exact moved_in pa sa pb sb s o i l t s2 o2 i2 l2 t2 T n y x _ _ _ r _ _ _ _ _ _ _ _ w HD HR HU (by simpa using hu) (decide_eq_false hx) (decide_eq_false hz) H1 e1 e2 H3 (Lib.hid (local_any pb sb T)) (Lib.hid fun w => deviation_any pa sa pb sb y w ha hb) (Lib.hid (moved_any (loc pb sb T) n s o i l t s2 o2 i2 l2 t2 (dev pa pb y))) (Lib.hid (local_any pb sb r)) (decide_eq_false (by omega)) (decide_eq_true HM.1) (decide_eq_true HM.2)
  · exact moved_late pa sa pb sb s o i l t s2 o2 i2 l2 t2 T n y x _ _ _ r _ _ _ w HD HR HU (by simpa using hu) (decide_eq_false hx) (decide_eq_false hz) H1 e1 e2 H3 (decide_eq_true (by omega))
end Go.Proofs.Ytmcpgnmkjebbjaa.Cn
