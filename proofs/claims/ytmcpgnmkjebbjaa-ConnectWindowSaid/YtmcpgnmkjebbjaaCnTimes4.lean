/- The first window: the layer's function and the document's. -/
import Derived.Test.YtmcpgnmkjebbjaaCnTimes3
set_option linter.unusedVariables false
set_option linter.unusedSimpArgs false
namespace Go.Proofs.Ytmcpgnmkjebbjaa.Cn
open Go.RowKit Mem Clk

set_option maxRecDepth 100000 in
theorem first_any (a s o i l t : Int) (w : World) :
    Calls Try.prog 21 #[.int .i64 a, upd s o i l t] w fun e w' => e = .returned (.agg #[.int .i64 (mom a + (1 + lim o 0 3200) * 1250), .int .i64 (mom a + (1 + lim o 0 3200) * 1250 + lim s 1 8 * 1250)]) ∧ Below w.heap.size w w' := by
  have F0 : Mem.Blk ((w.alloc (updC s o i l t)).alloc win0) w.heap.size 23 _ := (Blk.fresh w _ _).alloc _
  have G0 : Mem.Blk ((w.alloc (updC s o i l t)).alloc win0) (w.heap.size + 1) 42 #[.int .i64 0, .int .i64 0] := by
    have := Blk.fresh (w.alloc (updC s o i l t)) 42 #[.int .i64 0, .int .i64 0]
    rwa [World.size_alloc] at this
  have hbel : Below w.heap.size w ((w.alloc (updC s o i l t)).alloc win0) := ((Below.refl _ w).alloc (Nat.le_refl _) _).alloc (by simp) _
  have K1 := Lib.hid (climited_any s o i l t)
  have K2 := Lib.hid (moment_any a)
  have hm := mom_bd a
  have hs := lim_bd s 1 8 (by decide)
  have ho := lim_bd o 0 3200 (by decide)
  generalize mom a = A at *
  generalize lim s 1 8 = s' at *
  generalize lim o 0 3200 = o' at *
  generalize lim i 6 3200 = i' at *
  generalize lim l 0 499 = l' at *
  generalize lim t 10 3200 = t' at *
  have e0 := i64_in (1 + o') (by omega)
  have e1 := i64_in ((1 + o') * 1250) (by omega)
  have e2 := i64_in (s' * 1250) (by omega)
  have e3 := i64_in (A + (1 + o') * 1250) (by omega)
  have e4 := i64_in (A + (1 + o') * 1250 + s' * 1250) (by omega)
  go_enter Try.func21, Try.ntmps21
  go_wp2_with fail
  generalize (w.alloc (updC s o i l t)).alloc win0 = W at *
  obtain ⟨h0, h1, h2, h3, h4⟩ := five_of F0
  have hg := G0.lt
  have hg0 := F0.lt
  go_wp2_with (first
    | (go_at_call 38; refine (K1.out _).mono ?_; rintro e w1 ⟨rfl, b1⟩; have B1 := thenB hbel b1; have G1 := G0.below b1 hg; have FA := F0.below b1 hg0; obtain ⟨k0, k1, k2, k3, k4⟩ := five_of FA; have z0 := frz FA 0; have z1 := frz FA 1; have z2 := frz FA 2; have z3 := frz FA 3; have z4 := frz FA 4))
  have ne2 : w.heap.size ≠ w.heap.size + 1 := by omega
  have GA2 := (blk_set_ne (i := 4) (blk_set_ne (i := 3) (blk_set_ne (i := 2) (blk_set_ne (i := 1) (blk_set_ne (i := 0) G1 ne2 (.int .i64 s')) ne2 (.int .i64 o')) ne2 (.int .i64 i')) ne2 (.int .i64 l')) ne2 (.int .i64 t'))
  have FA2 := upd_set (.int .i64 s') (.int .i64 o') (.int .i64 i') (.int .i64 l') (.int .i64 t') FA
  have BX := upd_below (g := w.heap.size) (.int .i64 s') (.int .i64 o') (.int .i64 i') (.int .i64 l') (.int .i64 t') B1 (Nat.le_refl _)
  clear h0 h1 h2 h3 h4 k0 k1 k2 k3 k4 z0 z1 z2 z3 z4 FA G1 G0 F0 hg hg0 hbel b1 B1
  generalize (((((w1.setCell ⟨w.heap.size, 0, none⟩ (.int .i64 s')).setCell ⟨w.heap.size, 1, none⟩ (.int .i64 o')).setCell ⟨w.heap.size, 2, none⟩ (.int .i64 i')).setCell ⟨w.heap.size, 3, none⟩ (.int .i64 l')).setCell ⟨w.heap.size, 4, none⟩ (.int .i64 t')) = Y at *
  have T := five_of FA2.drew
  have G2 := GA2.drew
  have B2 := BX.drew
  clear FA2 GA2 BX
  go_region_held3 (fun w' => Five w' w.heap.size s' o' i' l' t') (with_reducible exact T) (first
    | (go_at_call 49; refine (K2.out _).mono ?_; rintro e w2 ⟨rfl, rfl⟩))
  generalize Y.drew = Z at *
  obtain ⟨h0, h1, h2, h3, h4⟩ := T
  have z0 := frz G2 0
  have z1 := frz G2 1
  obtain ⟨c0, c1⟩ := win_of G2
  go_wp2_with fail
  have R := win_set (.int .i64 (A + (1 + o') * 1250)) (.int .i64 (A + (1 + o') * 1250 + s' * 1250)) G2
  have BX := win_below (.int .i64 (A + (1 + o') * 1250)) (.int .i64 (A + (1 + o') * 1250 + s' * 1250)) B2 (show w.heap.size ≤ w.heap.size + 1 by omega)
  obtain ⟨r0, r1⟩ := win_of R
  refine bodyPost_ret (v := .agg #[.int .i64 (A + (1 + o') * 1250), .int .i64 (A + (1 + o') * 1250 + s' * 1250)]) ?_ rfl ⟨rfl, BX⟩
  simp [results, Try.f21, go_sem, r0, r1]
set_option maxRecDepth 100000 in
theorem rfirst_any (a s o i l t : Int) (w : World) :
    Calls Try.prog 22 #[.int .i64 a, upd s o i l t] w fun e w' => e = .returned (.agg #[.int .i64 (mom a + (1 + lim o 0 3200) * 1250), .int .i64 (mom a + (1 + lim o 0 3200) * 1250 + lim s 1 8 * 1250)]) ∧ Below w.heap.size w w' := by
  have F0 : Mem.Blk ((w.alloc (updC s o i l t)).alloc win0) w.heap.size 23 _ := (Blk.fresh w _ _).alloc _
  have G0 : Mem.Blk ((w.alloc (updC s o i l t)).alloc win0) (w.heap.size + 1) 42 #[.int .i64 0, .int .i64 0] := by
    have := Blk.fresh (w.alloc (updC s o i l t)) 42 #[.int .i64 0, .int .i64 0]
    rwa [World.size_alloc] at this
  have hbel : Below w.heap.size w ((w.alloc (updC s o i l t)).alloc win0).drew := (((Below.refl _ w).alloc (Nat.le_refl _) _).alloc (by simp) _).drew
  have K1 := Lib.hid (roffset_any s o i l t)
  have K2 := Lib.hid (place_any a)
  have K3 := Lib.hid (rsize_any s o i l t)
  have hm := mom_bd a
  have hs := lim_bd s 1 8 (by decide)
  have ho := lim_bd o 0 3200 (by decide)
  have ea : mom a + (1 + lim o 0 3200) * 1250 = mom a + 1250 + lim o 0 3200 * 1250 := by omega
  rw [ea]
  clear ea
  generalize mom a = A at *
  generalize lim s 1 8 = s' at *
  generalize lim o 0 3200 = o' at *
  have e0 := i64_in (A + 1250) (by omega)
  have e1 := i64_in (A + 1250 + o' * 1250) (by omega)
  have e2 := i64_in (A + 1250 + o' * 1250 + s' * 1250) (by omega)
  go_enter Try.func22, Try.ntmps22
  go_wp2_with fail
  generalize (w.alloc (updC s o i l t)).alloc win0 = W at *
  have T := five_of F0.drew
  have GW := G0.drew
  have hg := G0.drew.lt
  clear F0 G0
  go_region_held3 (fun w' => Five w' w.heap.size s o i l t) (first | (with_reducible exact T1) | (with_reducible exact T)) (first
    | (go_at_call 50; refine (K2.out _).mono ?_; rintro e w1 ⟨rfl, rfl⟩)
    | (go_at_call 51; refine (K1.out _).mono ?_; rintro e w1 ⟨rfl, b1⟩; have T1 := five_below T b1; have B1 := thenB hbel b1; have G1 := GW.below b1 hg))
  obtain ⟨h0, h1, h2, h3, h4⟩ := T1
  have hg1 := G1.lt
  clear T
  go_wp2_with (first
    | (go_at_call 52; refine (K3.out _).mono ?_; rintro e w2 ⟨rfl, b2⟩; have G2 := G1.below b2 hg1; have B2 := thenB B1 b2; have z0 := frz G2 0; have z1 := frz G2 1; obtain ⟨c0, c1⟩ := win_of G2))
  have R := win_set (.int .i64 (A + 1250 + o' * 1250)) (.int .i64 (A + 1250 + o' * 1250 + s' * 1250)) G2
  have BX := win_below (.int .i64 (A + 1250 + o' * 1250)) (.int .i64 (A + 1250 + o' * 1250 + s' * 1250)) B2 (show w.heap.size ≤ w.heap.size + 1 by omega)
  obtain ⟨r0, r1⟩ := win_of R
  refine bodyPost_ret (v := .agg #[.int .i64 (A + 1250 + o' * 1250), .int .i64 (A + 1250 + o' * 1250 + s' * 1250)]) ?_ rfl ⟨rfl, BX⟩
  simp [results, Try.f22, go_sem, r0, r1]
end Go.Proofs.Ytmcpgnmkjebbjaa.Cn
