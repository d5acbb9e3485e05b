/- When events take place: windows, the layer's functions and the document's. -/
import Derived.Test.YtmcpgnmkjebbjaaCnTimes2
set_option linter.unusedVariables false
set_option linter.unusedSimpArgs false
namespace Go.Proofs.Ytmcpgnmkjebbjaa.Cn
open Go.RowKit Mem Clk

abbrev win0 : Obj := .cells #[.int .i64 0, .int .i64 0] 42
theorem win_of {w : World} {g : Nat} {ty : TypeId} {a b : Value} (h : Blk w g ty #[a, b]) : w.cell? ⟨g, 0, none⟩ = some a ∧ w.cell? ⟨g, 1, none⟩ = some b := ⟨h.cell 0, h.cell 1⟩
set_option maxRecDepth 100000 in
theorem widened_any (a d z p : Int) (w : World) (hd : 0 ≤ d ∧ d ≤ 262148000000) (hz : 0 ≤ z ∧ z ≤ 10000) :
    Calls Try.prog 56 #[.int .i64 a, .int .i64 d, .int .i64 z, .int .i64 p] w fun e w' => e = .returned (.agg #[.int .i64 (wst a d z p), .int .i64 (wen a d z p)]) ∧ Below w.heap.size w w' := by
  have G0 : Mem.Blk (w.alloc win0) w.heap.size 42 _ := Blk.fresh w _ _
  have hbel : Below w.heap.size w (w.alloc win0) := (Below.refl _ w).alloc (Nat.le_refl _) _
  have K1 := Lib.hid (moment_any a)
  have K2 := Lib.hid (widening_any p (d + z))
  have hm := mom_bd a
  have hw := wid_bd p (d + z)
  have h1 : wst a d z p = mom a + d - wid p (d + z) := rfl
  have h2 : wen a d z p = mom a + d + z + wid p (d + z) := rfl
  rw [h1, h2]
  clear h1 h2
  generalize wid p (d + z) = V at *
  generalize mom a = A at *
  have e1 := i64_in (A + d) (by omega)
  have e2 := i64_in (d + z) (by omega)
  have e3 := i64_in (A + d - V) (by omega)
  have e4 := i64_in (A + d + z) (by omega)
  have e5 := i64_in (A + d + z + V) (by omega)
  go_enter Try.func56, Try.ntmps56
  go_wp2_with fail
  generalize w.alloc win0 = W at *
  obtain ⟨c0, c1⟩ := win_of G0
  have z0 := frz G0 0
  have z1 := frz G0 1
  have R := win_set (.int .i64 (A + d - V)) (.int .i64 (A + d + z + V)) G0
  have BX := win_below (.int .i64 (A + d - V)) (.int .i64 (A + d + z + V)) hbel (Nat.le_refl w.heap.size)
  obtain ⟨r0, r1⟩ := win_of R
  clear R G0
  go_wp2_with (first
    | (go_at_call 49; refine (K1.out _).mono ?_; rintro e w1 ⟨rfl, rfl⟩)
    | (go_at_call 75; refine (K2.out _).mono ?_; rintro e w1 ⟨rfl, rfl⟩))
  refine bodyPost_ret (v := .agg #[.int .i64 (A + d - V), .int .i64 (A + d + z + V)]) ?_ rfl ⟨rfl, BX⟩
  simp [results, Try.f56, go_sem, r0, r1]
set_option maxRecDepth 100000 in
theorem expect_any (a n s o i l t p : Int) (w : World) :
    Calls Try.prog 27 #[.int .i64 a, .int .i64 n, upd s o i l t, .int .i64 p] w fun e w' => e = .returned (.agg #[.int .i64 (wst a (spn (max n 1) i) 0 p), .int .i64 (wen a (spn (max n 1) i) 0 p)]) ∧ Below w.heap.size w w' := by
  have F0 : Mem.Blk ((w.alloc (updC s o i l t)).alloc win0) w.heap.size 23 _ := (Blk.fresh w _ _).alloc _
  have G0 : Mem.Blk ((w.alloc (updC s o i l t)).alloc win0) (w.heap.size + 1) 42 #[.int .i64 0, .int .i64 0] := by
    have := Blk.fresh (w.alloc (updC s o i l t)) 42 #[.int .i64 0, .int .i64 0]
    rwa [World.size_alloc] at this
  have hbel : Below w.heap.size w ((w.alloc (updC s o i l t)).alloc win0) := ((Below.refl _ w).alloc (Nat.le_refl _) _).alloc (by simp) _
  have K1 := Lib.hid (span_any (max n 1) s o i l t)
  have hb := spn_bd (max n 1) i
  have K2 := Lib.hid fun w => widened_any a (spn (max n 1) i) 0 p w (by omega) (by omega)
  generalize spn (max n 1) i = S at *
  generalize wst a S 0 p = P at *
  generalize wen a S 0 p = Q at *
  go_enter Try.func27, Try.ntmps27
  go_wp2_with fail
  generalize (w.alloc (updC s o i l t)).alloc win0 = W at *
  obtain ⟨f0, f1, f2, f3, f4⟩ := five_of F0
  have hg := G0.lt
  clear F0 hb
  go_wp2_with (first
    | (go_at_call 53; refine (K1.out _).mono ?_; rintro e w1 ⟨rfl, b1⟩; have G1 := G0.below b1 hg; have B1 := thenB hbel b1; have hg1 := G1.lt)
    | (go_at_call 56; refine (K2.out _).mono ?_; rintro e w2 ⟨rfl, b2⟩; have G2 := G1.below b2 hg1; have B2 := thenB B1 b2; have z0 := frz G2 0; have z1 := frz G2 1; obtain ⟨c0, c1⟩ := win_of G2))
  have R := win_set (.int .i64 P) (.int .i64 Q) G2
  have BX := win_below (.int .i64 P) (.int .i64 Q) B2 (Nat.le_succ w.heap.size)
  obtain ⟨r0, r1⟩ := win_of R
  clear R G0 G1 G2 c0 c1 z0 z1
  refine bodyPost_ret (v := .agg #[.int .i64 P, .int .i64 Q]) ?_ rfl ⟨rfl, BX⟩
  simp [results, Try.f27, go_sem, r0, r1]
set_option maxRecDepth 100000 in
theorem rexpect_any (a n s o i l t p : Int) (w : World) :
    Calls Try.prog 28 #[.int .i64 a, .int .i64 n, upd s o i l t, .int .i64 p] w fun e w' => e = .returned (.agg #[.int .i64 (wst a (spn (max n 1) i) 0 p), .int .i64 (wen a (spn (max n 1) i) 0 p)]) ∧ Below w.heap.size w w' := by
  have F0 : Mem.Blk ((w.alloc (updC s o i l t)).alloc win0) w.heap.size 23 _ := (Blk.fresh w _ _).alloc _
  have G0 : Mem.Blk ((w.alloc (updC s o i l t)).alloc win0) (w.heap.size + 1) 42 #[.int .i64 0, .int .i64 0] := by
    have := Blk.fresh (w.alloc (updC s o i l t)) 42 #[.int .i64 0, .int .i64 0]
    rwa [World.size_alloc] at this
  have hbel : Below w.heap.size w ((w.alloc (updC s o i l t)).alloc win0).drew := (((Below.refl _ w).alloc (Nat.le_refl _) _).alloc (by simp) _).drew
  have K1 := Lib.hid (r7limited_any n 1 65536)
  have K2 := Lib.hid (rinterval_any s o i l t)
  have K3 := Lib.hid (place_any a)
  have hb := spn_bd (max n 1) i
  have hm := mom_bd a
  have h1 : wst a (spn (max n 1) i) 0 p = mom a + spn (max n 1) i - wid p (spn (max n 1) i) := by unfold wst; rw [Int.add_zero]
  have h2 : wen a (spn (max n 1) i) 0 p = mom a + spn (max n 1) i + wid p (spn (max n 1) i) := by unfold wen; rw [Int.add_zero, Int.add_zero]
  rw [h1, h2]
  have hS := spn_one n i
  have K4 := Lib.hid (rwidening_any p (spn (max n 1) i))
  have hw := wid_bd p (spn (max n 1) i)
  clear h1 h2
  generalize wid p (spn (max n 1) i) = V at *
  generalize spn (max n 1) i = S at *
  generalize lim n 1 65536 = n' at *
  generalize lim i 6 3200 * 1250 = i' at *
  generalize mom a = A at *
  have e0 : IntKind.i64.wrap (n' * i') = S := by rw [hS]; exact i64_in _ (by omega)
  have e1 := i64_in (A + S) (by omega)
  have e2 := i64_in (A + S - V) (by omega)
  have e3 := i64_in (A + S + V) (by omega)
  clear hS
  go_enter Try.func28, Try.ntmps28
  go_wp2_with fail
  generalize (w.alloc (updC s o i l t)).alloc win0 = W at *
  have T := five_of F0.drew
  have GW := G0.drew
  have hg := G0.drew.lt
  clear F0 G0
  go_region_held3 (fun w' => Five w' w.heap.size s o i l t) (first | (with_reducible exact T1) | (with_reducible exact T)) (first
    | (go_at_call 54; refine (K1.out _).mono ?_; rintro e w1 ⟨rfl, rfl⟩)
    | (go_at_call 55; refine (K2.out _).mono ?_; rintro e w1 ⟨rfl, b1⟩; have T1 := five_below T b1; have B1 := thenB hbel b1; have G1 := GW.below b1 hg))
  have z0 := frz G1 0
  have z1 := frz G1 1
  obtain ⟨c0, c1⟩ := win_of G1
  go_wp2_with (first
    | (go_at_call 57; refine (K4.out _).mono ?_; rintro e w2 ⟨rfl, rfl⟩)
    | (go_at_call 50; refine (K3.out _).mono ?_; rintro e w2 ⟨rfl, rfl⟩))
  have R := win_set (.int .i64 (A + S - V)) (.int .i64 (A + S + V)) G1
  have BX := win_below (.int .i64 (A + S - V)) (.int .i64 (A + S + V)) B1 (Nat.le_succ w.heap.size)
  obtain ⟨r0, r1⟩ := win_of R
  refine bodyPost_ret (v := .agg #[.int .i64 (A + S - V), .int .i64 (A + S + V)]) ?_ rfl ⟨rfl, BX⟩
  simp [results, Try.f28, go_sem, r0, r1]
set_option maxRecDepth 100000 in
theorem rmoved_any (a n s o i l t s2 o2 i2 l2 t2 p : Int) (w : World) :
    Calls Try.prog 30 #[.int .i64 a, .int .i64 n, upd s o i l t, upd s2 o2 i2 l2 t2, .int .i64 p] w fun e w' => e = .returned (.agg #[.int .i64 (wst a (due n i o2) (lim s2 1 8 * 1250) p), .int .i64 (wen a (due n i o2) (lim s2 1 8 * 1250) p)]) ∧ Below w.heap.size w w' := by
  have F0 : Mem.Blk (((w.alloc (updC s o i l t)).alloc (updC s2 o2 i2 l2 t2)).alloc win0) w.heap.size 23 _ := ((Blk.fresh w _ _).alloc _).alloc _
  have F1 : Mem.Blk (((w.alloc (updC s o i l t)).alloc (updC s2 o2 i2 l2 t2)).alloc win0) (w.heap.size + 1) 23 #[.int .i64 s2, .int .i64 o2, .int .i64 i2, .int .i64 l2, .int .i64 t2] := by
    have := (Blk.fresh (w.alloc (updC s o i l t)) 23 #[.int .i64 s2, .int .i64 o2, .int .i64 i2, .int .i64 l2, .int .i64 t2]).alloc win0
    rwa [World.size_alloc] at this
  have G0 : Mem.Blk (((w.alloc (updC s o i l t)).alloc (updC s2 o2 i2 l2 t2)).alloc win0) (w.heap.size + 2) 42 #[.int .i64 0, .int .i64 0] := by
    have := Blk.fresh ((w.alloc (updC s o i l t)).alloc (updC s2 o2 i2 l2 t2)) 42 #[.int .i64 0, .int .i64 0]
    rwa [World.size_alloc, World.size_alloc] at this
  have hbel : Below w.heap.size w (((w.alloc (updC s o i l t)).alloc (updC s2 o2 i2 l2 t2)).alloc win0) := (((Below.refl _ w).alloc (Nat.le_refl _) _).alloc (by simp) _).alloc (by simp; omega) _
  have K1 := Lib.hid (rdue_any n s o i l t s2 o2 i2 l2 t2)
  have K3 := Lib.hid (place_any a)
  have hb := due_bd n i o2
  have hm := mom_bd a
  have hs := lim_bd s2 1 8 (by decide)
  have h1 : wst a (due n i o2) (lim s2 1 8 * 1250) p = mom a + due n i o2 - wid p (due n i o2 + lim s2 1 8 * 1250) := rfl
  have h2 : wen a (due n i o2) (lim s2 1 8 * 1250) p = mom a + due n i o2 + lim s2 1 8 * 1250 + wid p (due n i o2 + lim s2 1 8 * 1250) := rfl
  rw [h1, h2]
  have K4 := Lib.hid (rwidening_any p (due n i o2 + lim s2 1 8 * 1250))
  have hw := wid_bd p (due n i o2 + lim s2 1 8 * 1250)
  clear h1 h2
  have hz : 1250 ≤ lim s2 1 8 * 1250 ∧ lim s2 1 8 * 1250 ≤ 10000 := by omega
  generalize wid p (due n i o2 + lim s2 1 8 * 1250) = V at *
  generalize lim s2 1 8 * 1250 = Z at *
  generalize due n i o2 = S at *
  generalize mom a = A at *
  have e0 := i64_in (S + Z) (by omega)
  have e1 := i64_in (A + S) (by omega)
  have e2 := i64_in (A + S - V) (by omega)
  have e3 := i64_in (A + S + Z) (by omega)
  have e4 := i64_in (A + S + Z + V) (by omega)
  go_enter Try.func30, Try.ntmps30
  go_wp2_with fail
  generalize ((w.alloc (updC s o i l t)).alloc (updC s2 o2 i2 l2 t2)).alloc win0 = W at *
  obtain ⟨f0, f1, f2, f3, f4⟩ := five_of F0
  obtain ⟨h0, h1, h2, h3, h4⟩ := five_of F1
  have hg := G0.lt
  clear F0 F1
  go_wp2_with (first
    | (go_at_call 35; refine (K1.out _).mono ?_; rintro e w1 ⟨rfl, b1⟩; have B1 := thenB hbel b1; have G1 := G0.below b1 hg; have z0 := frz G1 0; have z1 := frz G1 1; obtain ⟨c0, c1⟩ := win_of G1)
    | (go_at_call 57; refine (K4.out _).mono ?_; rintro e w2 ⟨rfl, rfl⟩)
    | (go_at_call 50; refine (K3.out _).mono ?_; rintro e w2 ⟨rfl, rfl⟩))
  have R := win_set (.int .i64 (A + S - V)) (.int .i64 (A + S + Z + V)) G1
  have BX := win_below (.int .i64 (A + S - V)) (.int .i64 (A + S + Z + V)) B1 (show w.heap.size ≤ w.heap.size + 2 by omega)
  obtain ⟨r0, r1⟩ := win_of R
  refine bodyPost_ret (v := .agg #[.int .i64 (A + S - V), .int .i64 (A + S + Z + V)]) ?_ rfl ⟨rfl, BX⟩
  simp [results, Try.f30, go_sem, r0, r1]
set_option maxRecDepth 100000 in
theorem moved_any (a n s o i l t s2 o2 i2 l2 t2 p : Int) (w : World) :
    Calls Try.prog 29 #[.int .i64 a, .int .i64 n, upd s o i l t, upd s2 o2 i2 l2 t2, .int .i64 p] w fun e w' => e = .returned (.agg #[.int .i64 (wst a (due n i o2) (lim s2 1 8 * 1250) p), .int .i64 (wen a (due n i o2) (lim s2 1 8 * 1250) p)]) ∧ Below w.heap.size w w' := by
  have F0 : Mem.Blk (((w.alloc (updC s o i l t)).alloc (updC s2 o2 i2 l2 t2)).alloc win0) w.heap.size 23 _ := ((Blk.fresh w _ _).alloc _).alloc _
  have F1 : Mem.Blk (((w.alloc (updC s o i l t)).alloc (updC s2 o2 i2 l2 t2)).alloc win0) (w.heap.size + 1) 23 #[.int .i64 s2, .int .i64 o2, .int .i64 i2, .int .i64 l2, .int .i64 t2] := by
    have := (Blk.fresh (w.alloc (updC s o i l t)) 23 #[.int .i64 s2, .int .i64 o2, .int .i64 i2, .int .i64 l2, .int .i64 t2]).alloc win0
    rwa [World.size_alloc] at this
  have G0 : Mem.Blk (((w.alloc (updC s o i l t)).alloc (updC s2 o2 i2 l2 t2)).alloc win0) (w.heap.size + 2) 42 #[.int .i64 0, .int .i64 0] := by
    have := Blk.fresh ((w.alloc (updC s o i l t)).alloc (updC s2 o2 i2 l2 t2)) 42 #[.int .i64 0, .int .i64 0]
    rwa [World.size_alloc, World.size_alloc] at this
  have hbel : Below w.heap.size w (((w.alloc (updC s o i l t)).alloc (updC s2 o2 i2 l2 t2)).alloc win0) := (((Below.refl _ w).alloc (Nat.le_refl _) _).alloc (by simp) _).alloc (by simp; omega) _
  have K1 := Lib.hid (climited_any s2 o2 i2 l2 t2)
  have K2 := Lib.hid (span_any (max n 1) s o i l t)
  have hb := due_bd n i o2
  have hb2 := spn_bd (max n 1) i
  have hs := lim_bd s2 1 8 (by decide)
  have ho := lim_bd o2 0 3200 (by decide)
  have hd : due n i o2 = spn (max n 1) i + lim o2 0 3200 * 1250 := rfl
  have K3 := Lib.hid fun w => widened_any a (due n i o2) (lim s2 1 8 * 1250) p w (by omega) (by omega)
  generalize wst a (due n i o2) (lim s2 1 8 * 1250) p = P at *
  generalize wen a (due n i o2) (lim s2 1 8 * 1250) p = Q at *
  rw [hd] at K3 hb
  clear hd
  generalize spn (max n 1) i = S at *
  generalize lim s2 1 8 = s' at *
  generalize lim o2 0 3200 = o' at *
  generalize lim i2 6 3200 = i' at *
  generalize lim l2 0 499 = l' at *
  generalize lim t2 10 3200 = t' at *
  have e0 := i64_in (o' * 1250) (by omega)
  have e1 := i64_in (S + o' * 1250) (by omega)
  have e2 := i64_in (s' * 1250) (by omega)
  go_enter Try.func29, Try.ntmps29
  go_wp2_with fail
  generalize ((w.alloc (updC s o i l t)).alloc (updC s2 o2 i2 l2 t2)).alloc win0 = W at *
  obtain ⟨h0, h1, h2, h3, h4⟩ := five_of F1
  have hg := G0.lt
  have hg1 := F1.lt
  have hg0 := F0.lt
  go_wp2_with (first
    | (go_at_call 38; refine (K1.out _).mono ?_; rintro e w1 ⟨rfl, b1⟩; have B1 := thenB hbel b1; have G1 := G0.below b1 hg; have FA := F0.below b1 hg0; have FB := F1.below b1 hg1; obtain ⟨k0, k1, k2, k3, k4⟩ := five_of FB; have z0 := frz FB 0; have z1 := frz FB 1; have z2 := frz FB 2; have z3 := frz FB 3; have z4 := frz FB 4))
  have ne1 : w.heap.size + 1 ≠ w.heap.size := by omega
  have ne2 : w.heap.size + 1 ≠ w.heap.size + 2 := by omega
  have FA2 := (blk_set_ne (i := 4) (blk_set_ne (i := 3) (blk_set_ne (i := 2) (blk_set_ne (i := 1) (blk_set_ne (i := 0) FA ne1 (.int .i64 s')) ne1 (.int .i64 o')) ne1 (.int .i64 i')) ne1 (.int .i64 l')) ne1 (.int .i64 t'))
  have GA2 := (blk_set_ne (i := 4) (blk_set_ne (i := 3) (blk_set_ne (i := 2) (blk_set_ne (i := 1) (blk_set_ne (i := 0) G1 ne2 (.int .i64 s')) ne2 (.int .i64 o')) ne2 (.int .i64 i')) ne2 (.int .i64 l')) ne2 (.int .i64 t'))
  have FB2 := upd_set (.int .i64 s') (.int .i64 o') (.int .i64 i') (.int .i64 l') (.int .i64 t') FB
  have BX := upd_below (g := w.heap.size + 1) (.int .i64 s') (.int .i64 o') (.int .i64 i') (.int .i64 l') (.int .i64 t') B1 (Nat.le_succ _)
  clear h0 h1 h2 h3 h4 k0 k1 k2 k3 k4 z0 z1 z2 z3 z4 FA FB G1 G0 F0 F1 hg hg1 hg0 hbel b1 B1
  generalize (((((w1.setCell ⟨w.heap.size + 1, 0, none⟩ (.int .i64 s')).setCell ⟨w.heap.size + 1, 1, none⟩ (.int .i64 o')).setCell ⟨w.heap.size + 1, 2, none⟩ (.int .i64 i')).setCell ⟨w.heap.size + 1, 3, none⟩ (.int .i64 l')).setCell ⟨w.heap.size + 1, 4, none⟩ (.int .i64 t')) = Y at *
  have T := And.intro (five_of FA2.drew) (five_of FB2.drew)
  have GW := GA2.drew
  have hg := GA2.drew.lt
  have BY := BX.drew
  clear FA2 FB2 GA2 BX
  go_region_held3 (fun w' => Five w' w.heap.size s o i l t ∧ Five w' (w.heap.size + 1) s' o' i' l' t') (first | (with_reducible exact T1) | (with_reducible exact T)) (first
    | (go_at_call 53; refine (K2.out _).mono ?_; rintro e w2 ⟨rfl, b2⟩; have T1 := And.intro (five_below T.1 b2) (five_below T.2 b2); have B2 := thenB BY b2; have G2 := GW.below b2 hg))
  have hg2 := G2.lt
  obtain ⟨⟨k0, k1, k2, k3, k4⟩, ⟨h0, h1, h2, h3, h4⟩⟩ := T1
  clear T GW BY
  go_wp2_with (first
    | (go_at_call 56; refine (K3.out _).mono ?_; rintro e w3 ⟨rfl, b3⟩; have B3 := thenB B2 b3; have G3 := G2.below b3 hg2; have z0 := frz G3 0; have z1 := frz G3 1; obtain ⟨c0, c1⟩ := win_of G3))
  have R := win_set (.int .i64 P) (.int .i64 Q) G3
  have BX := win_below (.int .i64 P) (.int .i64 Q) B3 (show w.heap.size ≤ w.heap.size + 2 by omega)
  obtain ⟨r0, r1⟩ := win_of R
  refine bodyPost_ret (v := .agg #[.int .i64 P, .int .i64 Q]) ?_ rfl ⟨rfl, BX⟩
  simp [results, Try.f29, go_sem, r0, r1]
end Go.Proofs.Ytmcpgnmkjebbjaa.Cn
