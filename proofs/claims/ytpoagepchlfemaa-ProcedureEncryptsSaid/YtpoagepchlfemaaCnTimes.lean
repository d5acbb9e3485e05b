/- When events take place: contracts over the program and the document. -/
import Derived.Test.YtpoagepchlfemaaClkLaws
import Derived.Test.YtpoagepchlfemaaCnMath
set_option linter.unusedVariables false
set_option linter.unusedSimpArgs false
namespace Go.Proofs.Ytpoagepchlfemaa.Cn
open Go.RowKit Mem Clk

theorem blk_setc {w : World} {g : Nat} {t : TypeId} {cs : Array Value} (h : Blk w g t cs) (i : Nat) (v : Value) : Blk (w.setCell ⟨g, i, none⟩ v) g t (cs.setIfInBounds i v) := by
  have hg : g < w.heap.size := h.lt
  unfold Blk at h ⊢
  unfold World.setCell
  simp only [Array.getElem?_modify, if_true, h]
  simp
theorem blk_set_ne {w : World} {g b i : Nat} {t : TypeId} {cs : Array Value} (h : Blk w g t cs) (hb : b ≠ g) (v : Value) : Blk (w.setCell ⟨b, i, none⟩ v) g t cs := by
  unfold Blk at h ⊢
  unfold World.setCell
  simp only [Array.getElem?_modify, h]
  simp [hb]
/-- An update in memory. -/
abbrev Five (w : World) (g : Nat) (s o i l t : Int) : Prop := w.cell? ⟨g, 0, none⟩ = some (.int .i64 s) ∧ w.cell? ⟨g, 1, none⟩ = some (.int .i64 o) ∧ w.cell? ⟨g, 2, none⟩ = some (.int .i64 i) ∧ w.cell? ⟨g, 3, none⟩ = some (.int .i64 l) ∧ w.cell? ⟨g, 4, none⟩ = some (.int .i64 t)
theorem five_of {w : World} {g : Nat} {s o i l t : Int} {ty : TypeId} (h : Blk w g ty #[.int .i64 s, .int .i64 o, .int .i64 i, .int .i64 l, .int .i64 t]) : Five w g s o i l t := ⟨h.cell 0, h.cell 1, h.cell 2, h.cell 3, h.cell 4⟩
theorem five_below {w w' : World} {g : Nat} {s o i l t : Int} (h : Five w g s o i l t) (b : Below w.heap.size w w') : Five w' g s o i l t := by
  have hg := World.block_lt_of_cell? _ _ h.1
  exact ⟨(b.cell (p := ⟨g, 0, none⟩) hg).trans h.1, (b.cell (p := ⟨g, 1, none⟩) hg).trans h.2.1, (b.cell (p := ⟨g, 2, none⟩) hg).trans h.2.2.1, (b.cell (p := ⟨g, 3, none⟩) hg).trans h.2.2.2.1, (b.cell (p := ⟨g, 4, none⟩) hg).trans h.2.2.2.2⟩
theorem upd_set {X : World} {g : Nat} {t : TypeId} {z0 z1 z2 z3 z4 : Value} (v0 v1 v2 v3 v4 : Value) (h : Blk X g t #[z0, z1, z2, z3, z4]) :
    Blk (((((X.setCell ⟨g, 0, none⟩ v0).setCell ⟨g, 1, none⟩ v1).setCell ⟨g, 2, none⟩ v2).setCell ⟨g, 3, none⟩ v3).setCell ⟨g, 4, none⟩ v4) g t #[v0, v1, v2, v3, v4] := by
  have := blk_setc (blk_setc (blk_setc (blk_setc (blk_setc h 0 v0) 1 v1) 2 v2) 3 v3) 4 v4
  simpa using this
theorem upd_below {W X : World} {g : Nat} (v0 v1 v2 v3 v4 : Value) (b : Below W.heap.size W X) (hg : W.heap.size ≤ g) :
    Below W.heap.size W (((((X.setCell ⟨g, 0, none⟩ v0).setCell ⟨g, 1, none⟩ v1).setCell ⟨g, 2, none⟩ v2).setCell ⟨g, 3, none⟩ v3).setCell ⟨g, 4, none⟩ v4) :=
  ((((b.setCell (p := ⟨g, 0, none⟩) hg _).setCell (p := ⟨g, 1, none⟩) hg _).setCell (p := ⟨g, 2, none⟩) hg _).setCell (p := ⟨g, 3, none⟩) hg _).setCell (p := ⟨g, 4, none⟩) hg _
theorem win_set {X : World} {g : Nat} {t : TypeId} {z0 z1 : Value} (v0 v1 : Value) (h : Blk X g t #[z0, z1]) : Blk ((X.setCell ⟨g, 0, none⟩ v0).setCell ⟨g, 1, none⟩ v1) g t #[v0, v1] := by
  have := blk_setc (blk_setc h 0 v0) 1 v1
  simpa using this
theorem win_below {W X : World} {g : Nat} (v0 v1 : Value) (b : Below W.heap.size W X) (hg : W.heap.size ≤ g) : Below W.heap.size W ((X.setCell ⟨g, 0, none⟩ v0).setCell ⟨g, 1, none⟩ v1) :=
  (b.setCell (p := ⟨g, 0, none⟩) hg _).setCell (p := ⟨g, 1, none⟩) hg _
abbrev upd (s o i l t : Int) : Value := .agg #[.int .i64 s, .int .i64 o, .int .i64 i, .int .i64 l, .int .i64 t]
theorem climit_any (n lo hi : Int) (w : World) :
    Calls Try.prog 104 #[.int .i64 n, .int .i64 lo, .int .i64 hi] w fun e w' => e = .returned (.int .i64 (lim n lo hi)) ∧ w = w' := by
  go_enter Try.func104, Try.ntmps104
  go_wp2
  go_ret
  exact ⟨rfl, rfl⟩
set_option maxRecDepth 100000 in
set_option maxHeartbeats 2000000 in
theorem climited_any (s o i l t : Int) (w : World) :
    Calls Try.prog 102 #[upd s o i l t] w fun e w' => e = .returned (.agg #[.int .i64 (lim s 1 8), .int .i64 (lim o 0 3200), .int .i64 (lim i 6 3200), .int .i64 (lim l 0 499), .int .i64 (lim t 10 3200)]) ∧ Below w.heap.size w w' := by
  have F0 : Mem.Blk ((w.alloc (.cells #[.int .i64 s, .int .i64 o, .int .i64 i, .int .i64 l, .int .i64 t] 46)).alloc (.cells #[.int .i64 0, .int .i64 0, .int .i64 0, .int .i64 0, .int .i64 0] 46)) w.heap.size 46 #[.int .i64 s, .int .i64 o, .int .i64 i, .int .i64 l, .int .i64 t] := (Blk.fresh w _ #[.int .i64 s, .int .i64 o, .int .i64 i, .int .i64 l, .int .i64 t]).alloc _
  have G0 : Mem.Blk ((w.alloc (.cells #[.int .i64 s, .int .i64 o, .int .i64 i, .int .i64 l, .int .i64 t] 46)).alloc (.cells #[.int .i64 0, .int .i64 0, .int .i64 0, .int .i64 0, .int .i64 0] 46)) (w.heap.size + 1) 46 #[.int .i64 0, .int .i64 0, .int .i64 0, .int .i64 0, .int .i64 0] := by
    have := Blk.fresh (w.alloc (.cells #[.int .i64 s, .int .i64 o, .int .i64 i, .int .i64 l, .int .i64 t] 46)) 46 #[.int .i64 0, .int .i64 0, .int .i64 0, .int .i64 0, .int .i64 0]
    rwa [World.size_alloc] at this
  have hbel : Below w.heap.size w ((w.alloc (.cells #[.int .i64 s, .int .i64 o, .int .i64 i, .int .i64 l, .int .i64 t] 46)).alloc (.cells #[.int .i64 0, .int .i64 0, .int .i64 0, .int .i64 0, .int .i64 0] 46)) := ((Below.refl _ w).alloc (Nat.le_refl _) _).alloc (by simp) _
  have K1 := Lib.hid (climit_any s 1 8)
  have K2 := Lib.hid (climit_any o 0 3200)
  have K3 := Lib.hid (climit_any i 6 3200)
  have K4 := Lib.hid (climit_any l 0 499)
  have K5 := Lib.hid (climit_any t 10 3200)
  generalize lim s 1 8 = s' at *
  generalize lim o 0 3200 = o' at *
  generalize lim i 6 3200 = i' at *
  generalize lim l 0 499 = l' at *
  generalize lim t 10 3200 = t' at *
  go_enter Try.func102, Try.ntmps102
  go_wp2_with fail
  generalize (w.alloc (.cells #[.int .i64 s, .int .i64 o, .int .i64 i, .int .i64 l, .int .i64 t] 46)).alloc (.cells #[.int .i64 0, .int .i64 0, .int .i64 0, .int .i64 0, .int .i64 0] 46) = W at *
  refine wp_region_held_drew (S := (fun w' => Five w' w.heap.size s o i l t)) (by kernel_rfl) ?_ (fun hHeld => ?_)
  · exact five_of F0.drew
  have T := five_of F0.drew
  have FX := F0.drew
  have GX := G0.drew
  have BX := hbel.drew
  clear F0 G0 hbel
  generalize W.drew = X0 at *
  refine wpAnyH_take (i := 0) (v := .pointer (some ⟨w.heap.size, 0, none⟩)) rfl (by kernel_rfl) (by kernel_rfl) (by kernel_rfl) (fun _ _ _ h => h) (Or.inl ⟨by first | rfl | go_simp, by intro w9 hSw; (try dsimp only at hSw); go_simp⟩) (by assumption) ?_
  simp only [List.getElem_toArray, List.getElem_cons_zero, List.getElem_cons_succ, Act.put, List.setIfInBounds_toArray, List.set_cons_zero, List.set_cons_succ]
  refine wpAnyH_take (i := 1) (v := .int .i64 s) rfl (by kernel_rfl) (by kernel_rfl) (by kernel_rfl) (fun _ _ _ h => h) (Or.inl ⟨by first | rfl | go_simp, by intro w9 hSw; (try dsimp only at hSw); go_simp⟩) (by assumption) ?_
  simp only [List.getElem_toArray, List.getElem_cons_zero, List.getElem_cons_succ, Act.put, List.setIfInBounds_toArray, List.set_cons_zero, List.set_cons_succ]
  refine wpAnyH_take (i := 3) (v := .pointer (some ⟨w.heap.size, 1, none⟩)) rfl (by kernel_rfl) (by kernel_rfl) (by kernel_rfl) (fun _ _ _ h => h) (Or.inl ⟨by first | rfl | go_simp, by intro w9 hSw; (try dsimp only at hSw); go_simp⟩) (by assumption) ?_
  simp only [List.getElem_toArray, List.getElem_cons_zero, List.getElem_cons_succ, Act.put, List.setIfInBounds_toArray, List.set_cons_zero, List.set_cons_succ]
  refine wpAnyH_take (i := 4) (v := .int .i64 o) rfl (by kernel_rfl) (by kernel_rfl) (by kernel_rfl) (fun _ _ _ h => h) (Or.inl ⟨by first | rfl | go_simp, by intro w9 hSw; (try dsimp only at hSw); go_simp⟩) (by assumption) ?_
  simp only [List.getElem_toArray, List.getElem_cons_zero, List.getElem_cons_succ, Act.put, List.setIfInBounds_toArray, List.set_cons_zero, List.set_cons_succ]
  refine wpAnyH_take (i := 6) (v := .pointer (some ⟨w.heap.size, 2, none⟩)) rfl (by kernel_rfl) (by kernel_rfl) (by kernel_rfl) (fun _ _ _ h => h) (Or.inl ⟨by first | rfl | go_simp, by intro w9 hSw; (try dsimp only at hSw); go_simp⟩) (by assumption) ?_
  simp only [List.getElem_toArray, List.getElem_cons_zero, List.getElem_cons_succ, Act.put, List.setIfInBounds_toArray, List.set_cons_zero, List.set_cons_succ]
  refine wpAnyH_take (i := 7) (v := .int .i64 i) rfl (by kernel_rfl) (by kernel_rfl) (by kernel_rfl) (fun _ _ _ h => h) (Or.inl ⟨by first | rfl | go_simp, by intro w9 hSw; (try dsimp only at hSw); go_simp⟩) (by assumption) ?_
  simp only [List.getElem_toArray, List.getElem_cons_zero, List.getElem_cons_succ, Act.put, List.setIfInBounds_toArray, List.set_cons_zero, List.set_cons_succ]
  refine wpAnyH_take (i := 9) (v := .pointer (some ⟨w.heap.size, 3, none⟩)) rfl (by kernel_rfl) (by kernel_rfl) (by kernel_rfl) (fun _ _ _ h => h) (Or.inl ⟨by first | rfl | go_simp, by intro w9 hSw; (try dsimp only at hSw); go_simp⟩) (by assumption) ?_
  simp only [List.getElem_toArray, List.getElem_cons_zero, List.getElem_cons_succ, Act.put, List.setIfInBounds_toArray, List.set_cons_zero, List.set_cons_succ]
  refine wpAnyH_take (i := 10) (v := .int .i64 l) rfl (by kernel_rfl) (by kernel_rfl) (by kernel_rfl) (fun _ _ _ h => h) (Or.inl ⟨by first | rfl | go_simp, by intro w9 hSw; (try dsimp only at hSw); go_simp⟩) (by assumption) ?_
  simp only [List.getElem_toArray, List.getElem_cons_zero, List.getElem_cons_succ, Act.put, List.setIfInBounds_toArray, List.set_cons_zero, List.set_cons_succ]
  refine wpAnyH_take (i := 12) (v := .pointer (some ⟨w.heap.size, 4, none⟩)) rfl (by kernel_rfl) (by kernel_rfl) (by kernel_rfl) (fun _ _ _ h => h) (Or.inl ⟨by first | rfl | go_simp, by intro w9 hSw; (try dsimp only at hSw); go_simp⟩) (by assumption) ?_
  simp only [List.getElem_toArray, List.getElem_cons_zero, List.getElem_cons_succ, Act.put, List.setIfInBounds_toArray, List.set_cons_zero, List.set_cons_succ]
  refine wpAnyH_take (i := 13) (v := .int .i64 t) rfl (by kernel_rfl) (by kernel_rfl) (by kernel_rfl) (fun _ _ _ h => h) (Or.inl ⟨by first | rfl | go_simp, by intro w9 hSw; (try dsimp only at hSw); go_simp⟩) (by assumption) ?_
  simp only [List.getElem_toArray, List.getElem_cons_zero, List.getElem_cons_succ, Act.put, List.setIfInBounds_toArray, List.set_cons_zero, List.set_cons_succ]
  refine wpAnyH_ready (rs := [2]) (by kernel_rfl) (by simp) ?_
  refine AllReadyH.cons rfl (fun K hK => ?_) (AllReadyH.nil)
  go_simp
  refine (K1.out _).mono ?_
  rintro e w9 ⟨rfl, rfl⟩
  refine hK.out _ _ T (fun hHeld => ?_)
  clear hK K
  try simp only [List.getElem_toArray, List.getElem_cons_zero, List.getElem_cons_succ, Act.put, List.setIfInBounds_toArray, List.set_cons_zero, List.set_cons_succ]
  refine wpAnyH_ready (rs := [5]) (by kernel_rfl) (by simp) ?_
  refine AllReadyH.cons rfl (fun K hK => ?_) (AllReadyH.nil)
  go_simp
  refine (K2.out _).mono ?_
  rintro e w9 ⟨rfl, rfl⟩
  refine hK.out _ _ T (fun hHeld => ?_)
  clear hK K
  try simp only [List.getElem_toArray, List.getElem_cons_zero, List.getElem_cons_succ, Act.put, List.setIfInBounds_toArray, List.set_cons_zero, List.set_cons_succ]
  refine wpAnyH_ready (rs := [8]) (by kernel_rfl) (by simp) ?_
  refine AllReadyH.cons rfl (fun K hK => ?_) (AllReadyH.nil)
  go_simp
  refine (K3.out _).mono ?_
  rintro e w9 ⟨rfl, rfl⟩
  refine hK.out _ _ T (fun hHeld => ?_)
  clear hK K
  try simp only [List.getElem_toArray, List.getElem_cons_zero, List.getElem_cons_succ, Act.put, List.setIfInBounds_toArray, List.set_cons_zero, List.set_cons_succ]
  refine wpAnyH_ready (rs := [11]) (by kernel_rfl) (by simp) ?_
  refine AllReadyH.cons rfl (fun K hK => ?_) (AllReadyH.nil)
  go_simp
  refine (K4.out _).mono ?_
  rintro e w9 ⟨rfl, rfl⟩
  refine hK.out _ _ T (fun hHeld => ?_)
  clear hK K
  try simp only [List.getElem_toArray, List.getElem_cons_zero, List.getElem_cons_succ, Act.put, List.setIfInBounds_toArray, List.set_cons_zero, List.set_cons_succ]
  refine wpAnyH_ready (rs := [14]) (by kernel_rfl) (by simp) ?_
  refine AllReadyH.cons rfl (fun K hK => ?_) (AllReadyH.nil)
  go_simp
  refine (K5.out _).mono ?_
  rintro e w9 ⟨rfl, rfl⟩
  refine hK.out _ _ T (fun hHeld => ?_)
  clear hK K
  try simp only [List.getElem_toArray, List.getElem_cons_zero, List.getElem_cons_succ, Act.put, List.setIfInBounds_toArray, List.set_cons_zero, List.set_cons_succ]
  refine wpAnyH_take (i := 15) (v := .agg #[.int .i64 s', .int .i64 o', .int .i64 i', .int .i64 l', .int .i64 t']) rfl (by kernel_rfl) (by kernel_rfl) (by kernel_rfl) (fun _ _ _ h => h) (Or.inl ⟨by first | rfl | go_simp, by intro w9 hSw; (try dsimp only at hSw); go_simp⟩) (by assumption) ?_
  simp only [List.getElem_toArray, List.getElem_cons_zero, List.getElem_cons_succ, Act.put, List.setIfInBounds_toArray, List.set_cons_zero, List.set_cons_succ]
  refine wpAnyH_ready (rs := [16]) (by kernel_rfl) (by simp) ?_
  refine AllReadyH.cons rfl (fun K hK => ?_) (AllReadyH.nil)
  obtain ⟨c0, c1, c2, c3, c4⟩ := five_of GX
  have z0 : X0.frozen? ⟨w.heap.size + 1, 0, none⟩ = false := frz GX 0
  have z1 : X0.frozen? ⟨w.heap.size + 1, 1, none⟩ = false := frz GX 1
  have z2 : X0.frozen? ⟨w.heap.size + 1, 2, none⟩ = false := frz GX 2
  have z3 : X0.frozen? ⟨w.heap.size + 1, 3, none⟩ = false := frz GX 3
  have z4 : X0.frozen? ⟨w.heap.size + 1, 4, none⟩ = false := frz GX 4
  have FX := (blk_set_ne (i := 4) (blk_set_ne (i := 3) (blk_set_ne (i := 2) (blk_set_ne (i := 1) (blk_set_ne (i := 0) FX (show w.heap.size + 1 ≠ w.heap.size by omega) (.int .i64 s')) (show w.heap.size + 1 ≠ w.heap.size by omega) (.int .i64 o')) (show w.heap.size + 1 ≠ w.heap.size by omega) (.int .i64 i')) (show w.heap.size + 1 ≠ w.heap.size by omega) (.int .i64 l')) (show w.heap.size + 1 ≠ w.heap.size by omega) (.int .i64 t'))
  have BX := upd_below (g := w.heap.size + 1) (.int .i64 s') (.int .i64 o') (.int .i64 i') (.int .i64 l') (.int .i64 t') BX (Nat.le_succ _)
  have GX := upd_set (.int .i64 s') (.int .i64 o') (.int .i64 i') (.int .i64 l') (.int .i64 t') GX
  have T := five_of FX
  go_simp
  clear c0 c1 c2 c3 c4 z0 z1 z2 z3 z4
  generalize (((((X0.setCell ⟨w.heap.size + 1, 0, none⟩ (.int .i64 s')).setCell ⟨w.heap.size + 1, 1, none⟩ (.int .i64 o')).setCell ⟨w.heap.size + 1, 2, none⟩ (.int .i64 i')).setCell ⟨w.heap.size + 1, 3, none⟩ (.int .i64 l')).setCell ⟨w.heap.size + 1, 4, none⟩ (.int .i64 t')) = X6 at *
  refine hK.out _ _ T (fun hHeld => ?_)
  clear hK K
  try simp only [List.getElem_toArray, List.getElem_cons_zero, List.getElem_cons_succ, Act.put, List.setIfInBounds_toArray, List.set_cons_zero, List.set_cons_succ]
  refine wpAnyH_done (by kernel_rfl) ?_ _
  obtain ⟨r0, r1, r2, r3, r4⟩ := five_of GX
  go_wp2_with fail
  refine bodyPost_ret (v := .agg #[.int .i64 s', .int .i64 o', .int .i64 i', .int .i64 l', .int .i64 t']) ?_ rfl ⟨rfl, BX⟩
  simp [results, Try.f102, go_sem, r0, r1, r2, r3, r4]
end Go.Proofs.Ytpoagepchlfemaa.Cn
