/- When events take place: the layer's functions and the document's. -/
import Derived.Test.YtmcpgnmkjebbjaaCnTimes
set_option linter.unusedVariables false
set_option linter.unusedSimpArgs false
namespace Go.Proofs.Ytmcpgnmkjebbjaa.Cn
open Go.RowKit Mem Clk

abbrev updC (s o i l t : Int) : Obj := .cells #[.int .i64 s, .int .i64 o, .int .i64 i, .int .i64 l, .int .i64 t] 23
set_option maxRecDepth 100000 in
theorem span_any (n s o i l t : Int) (w : World) :
    Calls Try.prog 53 #[.int .i64 n, upd s o i l t] w fun e w' => e = .returned (.int .i64 (spn n i)) ∧ Below w.heap.size w w' := by
  have F0 : Mem.Blk (w.alloc (updC s o i l t)) w.heap.size 23 _ := Blk.fresh w _ _
  have hbel : Below w.heap.size w (w.alloc (updC s o i l t)).drew := ((Below.refl _ w).alloc (Nat.le_refl _) _).drew
  have K1 := Lib.hid (climit_any n 0 65536)
  have K2 := Lib.hid (climited_any s o i l t)
  have hb := spn_bd n i
  have hs : spn n i = lim n 0 65536 * lim i 6 3200 * 1250 := rfl
  rw [hs] at hb ⊢
  generalize lim n 0 65536 = n' at *
  generalize lim i 6 3200 = i' at *
  generalize lim s 1 8 = s' at *
  generalize lim o 0 3200 = o' at *
  generalize lim l 0 499 = l' at *
  generalize lim t 10 3200 = t' at *
  have e1 := i64_in (n' * i') (by omega)
  have e2 := i64_in (n' * i' * 1250) (by omega)
  clear hs hb
  have hf : ∀ w : World, (Instr.field 23 (.agg #[.int .i64 s', .int .i64 o', .int .i64 i', .int .i64 l', .int .i64 t']) 2).run Try.prog w = .ok (.int .i64 i') w := fun w => by kernel_rfl
  go_enter Try.func53, Try.ntmps53
  go_wp2_with fail
  generalize w.alloc (updC s o i l t) = W at *
  have T := five_of F0.drew
  have hg := F0.lt
  clear F0
  go_region_held3 (fun w' => Five w' w.heap.size s o i l t) (first | (with_reducible exact T1) | (with_reducible exact T)) (first
    | (go_at_call 64; refine (K1.out _).mono ?_; rintro e w1 ⟨rfl, rfl⟩)
    | (go_at_call 38; refine (K2.out _).mono ?_; rintro e w1 ⟨rfl, b1⟩; have T1 := five_below T b1; have B1 := thenB hbel b1))
  go_wp2
  go_ret
  exact ⟨rfl, B1⟩
set_option maxRecDepth 100000 in
theorem anchor_any (a s o i l t n : Int) (w : World) :
    Calls Try.prog 23 #[.int .i64 a, upd s o i l t, .int .i64 n] w fun e w' => e = .returned (.int .i64 (mom a + spn n i)) ∧ Below w.heap.size w w' := by
  have F0 : Mem.Blk (w.alloc (updC s o i l t)) w.heap.size 23 _ := Blk.fresh w _ _
  have hbel : Below w.heap.size w (w.alloc (updC s o i l t)).drew := ((Below.refl _ w).alloc (Nat.le_refl _) _).drew
  have K1 := Lib.hid (moment_any a)
  have K2 := Lib.hid (span_any n s o i l t)
  have hb := spn_bd n i
  have hm := mom_bd a
  generalize spn n i = S at *
  generalize mom a = A at *
  have e1 := i64_in (A + S) (by omega)
  clear hm hb
  go_enter Try.func23, Try.ntmps23
  go_wp2_with fail
  generalize w.alloc (updC s o i l t) = W at *
  have T := five_of F0.drew
  have hg := F0.lt
  clear F0
  go_region_held3 (fun w' => Five w' w.heap.size s o i l t) (first | (with_reducible exact T1) | (with_reducible exact T)) (first
    | (go_at_call 49; refine (K1.out _).mono ?_; rintro e w1 ⟨rfl, rfl⟩)
    | (go_at_call 53; refine (K2.out _).mono ?_; rintro e w1 ⟨rfl, b1⟩; have T1 := five_below T b1; have B1 := thenB hbel b1))
  go_wp2
  go_ret
  exact ⟨rfl, B1⟩
set_option maxRecDepth 100000 in
theorem timeout_any (s o i l t : Int) (w : World) :
    Calls Try.prog 25 #[upd s o i l t] w fun e w' => e = .returned (.int .i64 (lim t 10 3200 * 10000)) ∧ Below w.heap.size w w' := by
  have F0 : Mem.Blk (w.alloc (updC s o i l t)) w.heap.size 23 _ := Blk.fresh w _ _
  have hbel : Below w.heap.size w (w.alloc (updC s o i l t)) := (Below.refl _ w).alloc (Nat.le_refl _) _
  have K2 := Lib.hid (climited_any s o i l t)
  have hb := lim_bd t 10 3200 (by decide)
  generalize lim i 6 3200 = i' at *
  generalize lim s 1 8 = s' at *
  generalize lim o 0 3200 = o' at *
  generalize lim l 0 499 = l' at *
  generalize lim t 10 3200 = t' at *
  have e1 := i64_in (t' * 10000) (by omega)
  have hf : ∀ w : World, (Instr.field 23 (.agg #[.int .i64 s', .int .i64 o', .int .i64 i', .int .i64 l', .int .i64 t']) 4).run Try.prog w = .ok (.int .i64 t') w := fun w => by kernel_rfl
  go_enter Try.func25, Try.ntmps25
  go_wp2_with fail
  generalize w.alloc (updC s o i l t) = W at *
  obtain ⟨c0, c1, c2, c3, c4⟩ := five_of F0
  clear F0
  go_wp2_with (go_at_call 38; refine (K2.out _).mono ?_; rintro e w1 ⟨rfl, b1⟩; have B1 := thenB hbel b1)
  go_ret
  exact ⟨rfl, B1⟩
theorem rinterval_any (s o i l t : Int) (w : World) :
    Calls Try.prog 55 #[upd s o i l t] w fun e w' => e = .returned (.int .i64 (lim i 6 3200 * 1250)) ∧ Below w.heap.size w w' := by
  have F0 : Mem.Blk (w.alloc (updC s o i l t)) w.heap.size 23 _ := Blk.fresh w _ _
  have hbel : Below w.heap.size w (w.alloc (updC s o i l t)) := (Below.refl _ w).alloc (Nat.le_refl _) _
  have K := Lib.hid (r7limited_any i 6 3200)
  have hb := lim_bd i 6 3200 (by decide)
  generalize lim i 6 3200 = i' at *
  have e1 := i64_in (i' * 1250) (by omega)
  go_enter Try.func55, Try.ntmps55
  go_wp2_with fail
  generalize w.alloc (updC s o i l t) = W at *
  obtain ⟨c0, c1, c2, c3, c4⟩ := five_of F0
  clear F0
  go_wp2_with (go_at_call 54; refine (K.out _).mono ?_; rintro e w1 ⟨rfl, rfl⟩)
  go_ret
  exact ⟨rfl, hbel⟩
theorem roffset_any (s o i l t : Int) (w : World) :
    Calls Try.prog 51 #[upd s o i l t] w fun e w' => e = .returned (.int .i64 (lim o 0 3200 * 1250)) ∧ Below w.heap.size w w' := by
  have F0 : Mem.Blk (w.alloc (updC s o i l t)) w.heap.size 23 _ := Blk.fresh w _ _
  have hbel : Below w.heap.size w (w.alloc (updC s o i l t)) := (Below.refl _ w).alloc (Nat.le_refl _) _
  have K := Lib.hid (r7limited_any o 0 3200)
  have hb := lim_bd o 0 3200 (by decide)
  generalize lim o 0 3200 = i' at *
  have e1 := i64_in (i' * 1250) (by omega)
  go_enter Try.func51, Try.ntmps51
  go_wp2_with fail
  generalize w.alloc (updC s o i l t) = W at *
  obtain ⟨c0, c1, c2, c3, c4⟩ := five_of F0
  clear F0
  go_wp2_with (go_at_call 54; refine (K.out _).mono ?_; rintro e w1 ⟨rfl, rfl⟩)
  go_ret
  exact ⟨rfl, hbel⟩
theorem rsize_any (s o i l t : Int) (w : World) :
    Calls Try.prog 52 #[upd s o i l t] w fun e w' => e = .returned (.int .i64 (lim s 1 8 * 1250)) ∧ Below w.heap.size w w' := by
  have F0 : Mem.Blk (w.alloc (updC s o i l t)) w.heap.size 23 _ := Blk.fresh w _ _
  have hbel : Below w.heap.size w (w.alloc (updC s o i l t)) := (Below.refl _ w).alloc (Nat.le_refl _) _
  have K := Lib.hid (r7limited_any s 1 8)
  have hb := lim_bd s 1 8 (by decide)
  generalize lim s 1 8 = i' at *
  have e1 := i64_in (i' * 1250) (by omega)
  go_enter Try.func52, Try.ntmps52
  go_wp2_with fail
  generalize w.alloc (updC s o i l t) = W at *
  obtain ⟨c0, c1, c2, c3, c4⟩ := five_of F0
  clear F0
  go_wp2_with (go_at_call 54; refine (K.out _).mono ?_; rintro e w1 ⟨rfl, rfl⟩)
  go_ret
  exact ⟨rfl, hbel⟩
theorem rtimeout_any (s o i l t : Int) (w : World) :
    Calls Try.prog 26 #[upd s o i l t] w fun e w' => e = .returned (.int .i64 (lim t 10 3200 * 10000)) ∧ Below w.heap.size w w' := by
  have F0 : Mem.Blk (w.alloc (updC s o i l t)) w.heap.size 23 _ := Blk.fresh w _ _
  have hbel : Below w.heap.size w (w.alloc (updC s o i l t)) := (Below.refl _ w).alloc (Nat.le_refl _) _
  have K := Lib.hid (r7limited_any t 10 3200)
  have hb := lim_bd t 10 3200 (by decide)
  generalize lim t 10 3200 = i' at *
  have e1 := i64_in (i' * 10000) (by omega)
  go_enter Try.func26, Try.ntmps26
  go_wp2_with fail
  generalize w.alloc (updC s o i l t) = W at *
  obtain ⟨c0, c1, c2, c3, c4⟩ := five_of F0
  clear F0
  go_wp2_with (go_at_call 54; refine (K.out _).mono ?_; rintro e w1 ⟨rfl, rfl⟩)
  go_ret
  exact ⟨rfl, hbel⟩
set_option maxRecDepth 100000 in
theorem ranchor_any (a s o i l t n : Int) (w : World) :
    Calls Try.prog 24 #[.int .i64 a, upd s o i l t, .int .i64 n] w fun e w' => e = .returned (.int .i64 (mom a + spn n i)) ∧ Below w.heap.size w w' := by
  have F0 : Mem.Blk (w.alloc (updC s o i l t)) w.heap.size 23 _ := Blk.fresh w _ _
  have hbel : Below w.heap.size w (w.alloc (updC s o i l t)).drew := ((Below.refl _ w).alloc (Nat.le_refl _) _).drew
  have K1 := Lib.hid (place_any a)
  have K2 := Lib.hid (rinterval_any s o i l t)
  have K3 := Lib.hid (r7limited_any n 0 65536)
  have hb := spn_bd n i
  have hm := mom_bd a
  rw [spn_zero] at hb ⊢
  generalize lim n 0 65536 = n' at *
  generalize lim i 6 3200 * 1250 = i' at *
  generalize mom a = A at *
  have e1 := i64_in (n' * i') (by omega)
  have e2 := i64_in (A + n' * i') (by omega)
  clear hm hb
  go_enter Try.func24, Try.ntmps24
  go_wp2_with fail
  generalize w.alloc (updC s o i l t) = W at *
  have T := five_of F0.drew
  have hg := F0.lt
  clear F0
  go_region_held3 (fun w' => Five w' w.heap.size s o i l t) (first | (with_reducible exact T1) | (with_reducible exact T)) (first
    | (go_at_call 50; refine (K1.out _).mono ?_; rintro e w1 ⟨rfl, rfl⟩)
    | (go_at_call 54; refine (K3.out _).mono ?_; rintro e w1 ⟨rfl, rfl⟩)
    | (go_at_call 55; refine (K2.out _).mono ?_; rintro e w1 ⟨rfl, b1⟩; have T1 := five_below T b1; have B1 := thenB hbel b1))
  go_wp2
  go_ret
  exact ⟨rfl, B1⟩
set_option maxRecDepth 100000 in
theorem rdue_any (n s o i l t s2 o2 i2 l2 t2 : Int) (w : World) :
    Calls Try.prog 35 #[.int .i64 n, upd s o i l t, upd s2 o2 i2 l2 t2] w fun e w' => e = .returned (.tuple #[.int .i64 (due n i o2), .int .i64 (lim s2 1 8 * 1250)]) ∧ Below w.heap.size w w' := by
  have F0 : Mem.Blk ((w.alloc (updC s o i l t)).alloc (updC s2 o2 i2 l2 t2)) w.heap.size 23 _ := (Blk.fresh w _ _).alloc _
  have G0 : Mem.Blk ((w.alloc (updC s o i l t)).alloc (updC s2 o2 i2 l2 t2)) (w.heap.size + 1) 23 #[.int .i64 s2, .int .i64 o2, .int .i64 i2, .int .i64 l2, .int .i64 t2] := by
    have := Blk.fresh (w.alloc (updC s o i l t)) 23 #[.int .i64 s2, .int .i64 o2, .int .i64 i2, .int .i64 l2, .int .i64 t2]
    rwa [World.size_alloc] at this
  have hbel : Below w.heap.size w ((w.alloc (updC s o i l t)).alloc (updC s2 o2 i2 l2 t2)).drew := (((Below.refl _ w).alloc (Nat.le_refl _) _).alloc (by simp) _).drew
  have K1 := Lib.hid (r7limited_any n 1 65536)
  have K2 := Lib.hid (rinterval_any s o i l t)
  have K3 := Lib.hid (roffset_any s2 o2 i2 l2 t2)
  have K4 := Lib.hid (rsize_any s2 o2 i2 l2 t2)
  have hb := spn_bd (max n 1) i
  have hm := lim_bd o2 0 3200 (by decide)
  have hd : due n i o2 = spn (max n 1) i + lim o2 0 3200 * 1250 := rfl
  rw [hd]
  rw [spn_one] at hb ⊢
  generalize lim n 1 65536 = n' at *
  generalize lim i 6 3200 * 1250 = i' at *
  generalize lim o2 0 3200 = o' at *
  generalize lim s2 1 8 * 1250 = s' at *
  have e1 := i64_in (n' * i') (by omega)
  have e2 := i64_in (n' * i' + o' * 1250) (by omega)
  generalize o' * 1250 = O at *
  clear hm hb hd
  go_enter Try.func35, Try.ntmps35
  go_wp2_with fail
  generalize (w.alloc (updC s o i l t)).alloc (updC s2 o2 i2 l2 t2) = W at *
  have T := And.intro (five_of F0.drew) (five_of G0.drew)
  clear F0 G0
  go_region_held3 (fun w' => Five w' w.heap.size s o i l t ∧ Five w' (w.heap.size + 1) s2 o2 i2 l2 t2) (first | (with_reducible exact T3) | (with_reducible exact T2) | (with_reducible exact T1) | (with_reducible exact T)) (first
    | (go_at_call 54; refine (K1.out _).mono ?_; rintro e w1 ⟨rfl, rfl⟩)
    | (go_at_call 55; refine (K2.out _).mono ?_; rintro e w1 ⟨rfl, b1⟩; have T1 := And.intro (five_below T.1 b1) (five_below T.2 b1); have B1 := thenB hbel b1)
    | (go_at_call 51; refine (K3.out _).mono ?_; rintro e w2 ⟨rfl, b2⟩; have T2 := And.intro (five_below T1.1 b2) (five_below T1.2 b2); have B2 := thenB B1 b2)
    | (go_at_call 52; refine (K4.out _).mono ?_; rintro e w3 ⟨rfl, b3⟩; have T3 := And.intro (five_below T2.1 b3) (five_below T2.2 b3); have B3 := thenB B2 b3))
  go_wp2
  go_ret2
  exact ⟨rfl, B3⟩
end Go.Proofs.Ytmcpgnmkjebbjaa.Cn
