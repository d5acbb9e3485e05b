/- Control procedures: the handlers: contracts over the program. -/
import Derived.Test.YtpoagepchlfemaaPcW2
set_option linter.unusedVariables false
set_option linter.unusedSimpArgs false
namespace Go.Proofs.Ytpoagepchlfemaa.Pc
open Go.RowKit Mem Rw Cp
open Base (thenB)
open Av (Row)

set_option maxRecDepth 100000 in
set_option maxHeartbeats 8000000 in
theorem conc_any (g : Nat) (x : Pr) (ev now k : Int) (Q R : Value) (c : Ct) (w : World) (K1 : Blk w g 80 (sdC x ev now Q R)) : Calls Try.prog 77 #[.pointer (some ⟨g, 0, none⟩), .agg (encC c), .int .i64 k] w fun e w' => e = .returned (.bool (decide (c.k = k ∨ x.o = k))) ∧ Below w.heap.size w w' := by
  obtain ⟨xr, xo, xs, V1, xq, xt, V2, xd, xf, xc, xk, xw, xv, xl, xm, xa, xp, xy, xz, xn⟩ := x
  obtain ⟨ck, u1, u2, u3, u4, u5, cm, ci, cr, cj, cs, cy, cf, cv, cl⟩ := c
  dsimp only [sdC, nilV, encC] at *
  have hg := K1.lt
  have hg2 : g ≠ w.heap.size := by omega
  replace K1 := K1.alloc (.cells #[.int .i64 ck, .int .i64 u1, .int .i64 u2, .int .i64 u3, .int .i64 u4, .int .i64 u5, .int .u64 (cm : Int), .int .u16 ci, .int .i64 cr, .int .i64 cj, .int .u64 cs, .int .u64 cy, .int .u64 cf, .int .i64 cv, .int .i64 cl] 57)
  have K2 : Blk (w.alloc (.cells #[.int .i64 ck, .int .i64 u1, .int .i64 u2, .int .i64 u3, .int .i64 u4, .int .i64 u5, .int .u64 (cm : Int), .int .u16 ci, .int .i64 cr, .int .i64 cj, .int .u64 cs, .int .u64 cy, .int .u64 cf, .int .i64 cv, .int .i64 cl] 57)) w.heap.size 57 #[.int .i64 ck, .int .i64 u1, .int .i64 u2, .int .i64 u3, .int .i64 u4, .int .i64 u5, .int .u64 (cm : Int), .int .u16 ci, .int .i64 cr, .int .i64 cj, .int .u64 cs, .int .u64 cy, .int .u64 cf, .int .i64 cv, .int .i64 cl] := Blk.fresh _ _ _
  have BX := (Grw.refl g w).alloc (.cells #[.int .i64 ck, .int .i64 u1, .int .i64 u2, .int .i64 u3, .int .i64 u4, .int .i64 u5, .int .u64 (cm : Int), .int .u16 ci, .int .i64 cr, .int .i64 cj, .int .u64 cs, .int .u64 cy, .int .u64 cf, .int .i64 cv, .int .i64 cl] 57)
  have B9 : Below w.heap.size w (w.alloc (.cells #[.int .i64 ck, .int .i64 u1, .int .i64 u2, .int .i64 u3, .int .i64 u4, .int .i64 u5, .int .u64 (cm : Int), .int .u16 ci, .int .i64 cr, .int .i64 cj, .int .u64 cs, .int .u64 cy, .int .u64 cf, .int .i64 cv, .int .i64 cl] 57)) := (Below.refl _ _).alloc (Nat.le_refl _) _
  have k0 := K2.cell 0
  have k1 := K1.cell 1
  have hl := K1.lt
  clear BX
  by_cases h : ck = k
  · subst h
    rw [decide_eq_true (.inl rfl)]
    go_enter Try.func77, Try.ntmps77
    go_upto_region 1 with (fail)
    generalize w.alloc (.cells #[.int .i64 ck, .int .i64 u1, .int .i64 u2, .int .i64 u3, .int .i64 u4, .int .i64 u5, .int .u64 (cm : Int), .int .u16 ci, .int .i64 cr, .int .i64 cj, .int .u64 cs, .int .u64 cy, .int .u64 cf, .int .i64 cv, .int .i64 cl] 57) = W0 at *
    go_wp2_with fail
    go_ret
    exact ⟨rfl, B9⟩
  · have h0 : (ck == k) = false := by simpa using h
    by_cases h2 : xo = k
    · subst h2
      rw [decide_eq_true (.inr rfl)]
      go_enter Try.func77, Try.ntmps77
      go_upto_region 1 with (fail)
      generalize w.alloc (.cells #[.int .i64 ck, .int .i64 u1, .int .i64 u2, .int .i64 u3, .int .i64 u4, .int .i64 u5, .int .u64 (cm : Int), .int .u16 ci, .int .i64 cr, .int .i64 cj, .int .u64 cs, .int .u64 cy, .int .u64 cf, .int .i64 cv, .int .i64 cl] 57) = W0 at *
      go_wp2_with fail
      go_ret
      exact ⟨rfl, B9⟩
    · have h3 : (xo == k) = false := by simpa using h2
      rw [decide_eq_false (by rintro (q | q); exact h q; exact h2 q)]
      go_enter Try.func77, Try.ntmps77
      go_upto_region 1 with (fail)
      generalize w.alloc (.cells #[.int .i64 ck, .int .i64 u1, .int .i64 u2, .int .i64 u3, .int .i64 u4, .int .i64 u5, .int .u64 (cm : Int), .int .u16 ci, .int .i64 cr, .int .i64 cj, .int .u64 cs, .int .u64 cy, .int .u64 cf, .int .i64 cv, .int .i64 cl] 57) = W0 at *
      go_wp2_with fail
      go_ret
      exact ⟨rfl, B9⟩
set_option maxRecDepth 100000 in
set_option maxHeartbeats 8000000 in
theorem closes_eq (g : Nat) (x : Pr) (ev now : Int) (Q R : Value) (c d : Ct) (w : World) (K1 : Blk w g 80 (sdC x ev now Q R)) (hk : c.k = d.k) : Calls Try.prog 78 #[.pointer (some ⟨g, 0, none⟩), .agg (encC c), .agg (encC d)] w fun e w' => e = .returned (.tuple #[]) ∧ Blk w' g 80 (sdC { x with o := -1 } ev now Q R) ∧ Grw g w w' := by
  obtain ⟨xr, xo, xs, V1, xq, xt, V2, xd, xf, xc, xk, xw, xv, xl, xm, xa, xp, xy, xz, xn⟩ := x
  obtain ⟨ck, u1, u2, u3, u4, u5, cm, ci, cr, cj, cs, cy, cf, cv, cl⟩ := c
  obtain ⟨dk, d1, d2, d3, d4, d5, dm, di, dr, dj, ds, dy, df, dv, dl⟩ := d
  dsimp only [sdC, nilV, encC, ctL] at *
  subst hk
  have hg := K1.lt
  have hg2 : g ≠ w.heap.size := by omega
  replace K1 := (K1.alloc (.cells #[.int .i64 ck, .int .i64 u1, .int .i64 u2, .int .i64 u3, .int .i64 u4, .int .i64 u5, .int .u64 (cm : Int), .int .u16 ci, .int .i64 cr, .int .i64 cj, .int .u64 cs, .int .u64 cy, .int .u64 cf, .int .i64 cv, .int .i64 cl] 57)).alloc (.cells #[.int .i64 ck, .int .i64 d1, .int .i64 d2, .int .i64 d3, .int .i64 d4, .int .i64 d5, .int .u64 (dm : Int), .int .u16 di, .int .i64 dr, .int .i64 dj, .int .u64 ds, .int .u64 dy, .int .u64 df, .int .i64 dv, .int .i64 dl] 57)
  have K2 : Blk ((w.alloc (.cells #[.int .i64 ck, .int .i64 u1, .int .i64 u2, .int .i64 u3, .int .i64 u4, .int .i64 u5, .int .u64 (cm : Int), .int .u16 ci, .int .i64 cr, .int .i64 cj, .int .u64 cs, .int .u64 cy, .int .u64 cf, .int .i64 cv, .int .i64 cl] 57)).alloc (.cells #[.int .i64 ck, .int .i64 d1, .int .i64 d2, .int .i64 d3, .int .i64 d4, .int .i64 d5, .int .u64 (dm : Int), .int .u16 di, .int .i64 dr, .int .i64 dj, .int .u64 ds, .int .u64 dy, .int .u64 df, .int .i64 dv, .int .i64 dl] 57)) w.heap.size 57 #[.int .i64 ck, .int .i64 u1, .int .i64 u2, .int .i64 u3, .int .i64 u4, .int .i64 u5, .int .u64 (cm : Int), .int .u16 ci, .int .i64 cr, .int .i64 cj, .int .u64 cs, .int .u64 cy, .int .u64 cf, .int .i64 cv, .int .i64 cl] := (Blk.fresh _ _ _).alloc _
  have K3 : Blk ((w.alloc (.cells #[.int .i64 ck, .int .i64 u1, .int .i64 u2, .int .i64 u3, .int .i64 u4, .int .i64 u5, .int .u64 (cm : Int), .int .u16 ci, .int .i64 cr, .int .i64 cj, .int .u64 cs, .int .u64 cy, .int .u64 cf, .int .i64 cv, .int .i64 cl] 57)).alloc (.cells #[.int .i64 ck, .int .i64 d1, .int .i64 d2, .int .i64 d3, .int .i64 d4, .int .i64 d5, .int .u64 (dm : Int), .int .u16 di, .int .i64 dr, .int .i64 dj, .int .u64 ds, .int .u64 dy, .int .u64 df, .int .i64 dv, .int .i64 dl] 57)) (w.heap.size + 1) 57 #[.int .i64 ck, .int .i64 d1, .int .i64 d2, .int .i64 d3, .int .i64 d4, .int .i64 d5, .int .u64 (dm : Int), .int .u16 di, .int .i64 dr, .int .i64 dj, .int .u64 ds, .int .u64 dy, .int .u64 df, .int .i64 dv, .int .i64 dl] := Av.Blk.next
  have BX := ((Grw.refl g w).alloc (.cells #[.int .i64 ck, .int .i64 u1, .int .i64 u2, .int .i64 u3, .int .i64 u4, .int .i64 u5, .int .u64 (cm : Int), .int .u16 ci, .int .i64 cr, .int .i64 cj, .int .u64 cs, .int .u64 cy, .int .u64 cf, .int .i64 cv, .int .i64 cl] 57)).alloc (.cells #[.int .i64 ck, .int .i64 d1, .int .i64 d2, .int .i64 d3, .int .i64 d4, .int .i64 d5, .int .u64 (dm : Int), .int .u16 di, .int .i64 dr, .int .i64 dj, .int .u64 ds, .int .u64 dy, .int .u64 df, .int .i64 dv, .int .i64 dl] 57)
  have k0 := K2.cell 0
  have k3 := K3.cell 0
  skip
  go_enter Try.func78, Try.ntmps78
  go_upto_region 1 with (fail)
  generalize (w.alloc (.cells #[.int .i64 ck, .int .i64 u1, .int .i64 u2, .int .i64 u3, .int .i64 u4, .int .i64 u5, .int .u64 (cm : Int), .int .u16 ci, .int .i64 cr, .int .i64 cj, .int .u64 cs, .int .u64 cy, .int .u64 cf, .int .i64 cv, .int .i64 cl] 57)).alloc (.cells #[.int .i64 ck, .int .i64 d1, .int .i64 d2, .int .i64 d3, .int .i64 d4, .int .i64 d5, .int .u64 (dm : Int), .int .u16 di, .int .i64 dr, .int .i64 dj, .int .u64 ds, .int .u64 dy, .int .u64 df, .int .i64 dv, .int .i64 dl] 57) = W0 at *
  go_wp2_with (refine wpList_set rfl _ _ _ rfl g 1 (.int .i64 (-1)) rfl rfl 80 _ K1 (by show 1 < 24; decide) (by kernel_rfl) rfl #[.int .i64 xr, .int .i64 (-1), .int .i64 xs, V1, .int .i64 xq, .int .i64 xt, V2, .bool xd, .int .u64 xf, .int .u64 xc, .bool xk, .bool xw, .int .i64 xv, .int .i64 xl, .int .i64 xm, .int .u64 xa, .int .u64 xp, .int .u64 xy, .int .i64 xz, .int .i64 xn, .int .u16 ev, .int .i64 now, Q, R] rfl ?_; intro X9 K9 G9; replace K1 := K9; replace K2 := G9.blk K2 (Ne.symm hg2); replace BX := BX.trans G9; clear K9 G9)
  go_end0
  exact ⟨rfl, K1, BX⟩
set_option maxRecDepth 100000 in
set_option maxHeartbeats 8000000 in
theorem closes_ne (g : Nat) (x : Pr) (ev now : Int) (R : Value) (c d : Ct) (w : World) (K1 : Blk w g 80 (sdC x ev now nilV R)) (hk : ¬ c.k = d.k) : Calls Try.prog 78 #[.pointer (some ⟨g, 0, none⟩), .agg (encC c), .agg (encC d)] w fun e w' => e = .returned (.tuple #[]) ∧ ∃ A k, Blk w' g 80 (sdC x ev now (.slice A 1 k) R) ∧ Row w' (g + 1) (.slice A 1 k) 1 (ctL d) ∧ Grw g w w' := by
  have HE : Hid (∀ X, Blk X g 80 (sdC x ev now nilV R) → Calls Try.prog 30 #[.pointer (some ⟨g, 0, none⟩), .agg (encC d)] X fun e w' => e = .returned (.tuple #[]) ∧ ∃ A k, Blk w' g 80 (sdC x ev now (.slice A 1 k) R) ∧ Row w' (g + 1) (.slice A 1 k) 1 (ctL d) ∧ Grw g X w') := Lib.hid fun X K => enq_any g x ev now R d X K
  obtain ⟨xr, xo, xs, V1, xq, xt, V2, xd, xf, xc, xk, xw, xv, xl, xm, xa, xp, xy, xz, xn⟩ := x
  obtain ⟨ck, u1, u2, u3, u4, u5, cm, ci, cr, cj, cs, cy, cf, cv, cl⟩ := c
  obtain ⟨dk, d1, d2, d3, d4, d5, dm, di, dr, dj, ds, dy, df, dv, dl⟩ := d
  dsimp only [sdC, nilV, encC, ctL] at *
  skip
  have hg := K1.lt
  have hg2 : g ≠ w.heap.size := by omega
  replace K1 := (K1.alloc (.cells #[.int .i64 ck, .int .i64 u1, .int .i64 u2, .int .i64 u3, .int .i64 u4, .int .i64 u5, .int .u64 (cm : Int), .int .u16 ci, .int .i64 cr, .int .i64 cj, .int .u64 cs, .int .u64 cy, .int .u64 cf, .int .i64 cv, .int .i64 cl] 57)).alloc (.cells #[.int .i64 dk, .int .i64 d1, .int .i64 d2, .int .i64 d3, .int .i64 d4, .int .i64 d5, .int .u64 (dm : Int), .int .u16 di, .int .i64 dr, .int .i64 dj, .int .u64 ds, .int .u64 dy, .int .u64 df, .int .i64 dv, .int .i64 dl] 57)
  have K2 : Blk ((w.alloc (.cells #[.int .i64 ck, .int .i64 u1, .int .i64 u2, .int .i64 u3, .int .i64 u4, .int .i64 u5, .int .u64 (cm : Int), .int .u16 ci, .int .i64 cr, .int .i64 cj, .int .u64 cs, .int .u64 cy, .int .u64 cf, .int .i64 cv, .int .i64 cl] 57)).alloc (.cells #[.int .i64 dk, .int .i64 d1, .int .i64 d2, .int .i64 d3, .int .i64 d4, .int .i64 d5, .int .u64 (dm : Int), .int .u16 di, .int .i64 dr, .int .i64 dj, .int .u64 ds, .int .u64 dy, .int .u64 df, .int .i64 dv, .int .i64 dl] 57)) w.heap.size 57 #[.int .i64 ck, .int .i64 u1, .int .i64 u2, .int .i64 u3, .int .i64 u4, .int .i64 u5, .int .u64 (cm : Int), .int .u16 ci, .int .i64 cr, .int .i64 cj, .int .u64 cs, .int .u64 cy, .int .u64 cf, .int .i64 cv, .int .i64 cl] := (Blk.fresh _ _ _).alloc _
  have K3 : Blk ((w.alloc (.cells #[.int .i64 ck, .int .i64 u1, .int .i64 u2, .int .i64 u3, .int .i64 u4, .int .i64 u5, .int .u64 (cm : Int), .int .u16 ci, .int .i64 cr, .int .i64 cj, .int .u64 cs, .int .u64 cy, .int .u64 cf, .int .i64 cv, .int .i64 cl] 57)).alloc (.cells #[.int .i64 dk, .int .i64 d1, .int .i64 d2, .int .i64 d3, .int .i64 d4, .int .i64 d5, .int .u64 (dm : Int), .int .u16 di, .int .i64 dr, .int .i64 dj, .int .u64 ds, .int .u64 dy, .int .u64 df, .int .i64 dv, .int .i64 dl] 57)) (w.heap.size + 1) 57 #[.int .i64 dk, .int .i64 d1, .int .i64 d2, .int .i64 d3, .int .i64 d4, .int .i64 d5, .int .u64 (dm : Int), .int .u16 di, .int .i64 dr, .int .i64 dj, .int .u64 ds, .int .u64 dy, .int .u64 df, .int .i64 dv, .int .i64 dl] := Av.Blk.next
  have BX := ((Grw.refl g w).alloc (.cells #[.int .i64 ck, .int .i64 u1, .int .i64 u2, .int .i64 u3, .int .i64 u4, .int .i64 u5, .int .u64 (cm : Int), .int .u16 ci, .int .i64 cr, .int .i64 cj, .int .u64 cs, .int .u64 cy, .int .u64 cf, .int .i64 cv, .int .i64 cl] 57)).alloc (.cells #[.int .i64 dk, .int .i64 d1, .int .i64 d2, .int .i64 d3, .int .i64 d4, .int .i64 d5, .int .u64 (dm : Int), .int .u16 di, .int .i64 dr, .int .i64 dj, .int .u64 ds, .int .u64 dy, .int .u64 df, .int .i64 dv, .int .i64 dl] 57)
  have k0 := K2.cell 0
  have k3 := K3.cell 0
  have g0 : (ck == dk) = false := by simpa using hk
  go_enter Try.func78, Try.ntmps78
  go_upto_region 1 with (fail)
  generalize (w.alloc (.cells #[.int .i64 ck, .int .i64 u1, .int .i64 u2, .int .i64 u3, .int .i64 u4, .int .i64 u5, .int .u64 (cm : Int), .int .u16 ci, .int .i64 cr, .int .i64 cj, .int .u64 cs, .int .u64 cy, .int .u64 cf, .int .i64 cv, .int .i64 cl] 57)).alloc (.cells #[.int .i64 dk, .int .i64 d1, .int .i64 d2, .int .i64 d3, .int .i64 d4, .int .i64 d5, .int .u64 (dm : Int), .int .u16 di, .int .i64 dr, .int .i64 dj, .int .u64 ds, .int .u64 dy, .int .u64 df, .int .i64 dv, .int .i64 dl] 57) = W0 at *
  go_wp2_with (first | (refine wpList_load_row_w rfl 57 (.tmp 5) rfl (w.heap.size + 1) rfl 57 _ (0, 0) _ K3 Try.underlying57 rfl (by kernel_rfl) ?_) | (go_at_call 30; refine (HE.out W0 K1).mono ?_; rintro e X2 ⟨rfl, A9, c9, K9, R9, G9⟩))
  go_end0
  exact ⟨rfl, A9, c9, K9, R9, BX.trans G9⟩
set_option maxRecDepth 100000 in
set_option maxHeartbeats 8000000 in
theorem len_ans (g : Nat) (x : Pr) (ev now : Int) (c : Ct) (w : World) (K1 : Blk w g 80 (sdC x ev now nilV nilV)) (hk : c.k = 21) (ho : x.o = 20) : Calls Try.prog 55 #[.pointer (some ⟨g, 0, none⟩), .agg (encC c)] w fun e w' => e = .returned (.tuple #[]) ∧ ∃ A k n, n = (min c.ln x.m) % 18446744073709551616 ∧ Blk w' g 80 (sdC { x with l := min c.ln x.m, o := -1 } ev now nilV (.slice A 1 k)) ∧ Row w' (g + 1) (.slice A 1 k) 1 (inC 11 n) ∧ Grw g w w' := by
  have HCo : Hid (∀ X, Blk X g 80 (sdC x ev now nilV nilV) → Calls Try.prog 77 #[.pointer (some ⟨g, 0, none⟩), .agg (encC c), .int .i64 20] X fun e w' => e = .returned (.bool true) ∧ Below X.heap.size X w') := Lib.hid fun X K => by
    have := conc_any g x ev now 20 nilV nilV c X K
    rwa [decide_eq_true (.inr ho)] at this
  have HRp : Hid (∀ n X, Blk X g 80 (sdC { x with l := min c.ln x.m } ev now nilV nilV) → Calls Try.prog 76 #[.pointer (some ⟨g, 0, none⟩), .int .i64 11, .int .u64 n] X fun e w' => e = .returned (.tuple #[]) ∧ ∃ A k, Blk w' g 80 (sdC { x with l := min c.ln x.m } ev now nilV (.slice A 1 k)) ∧ Row w' (g + 1) (.slice A 1 k) 1 (inC 11 n) ∧ Grw g X w') := Lib.hid fun n X K => rep_any g _ ev now 11 n nilV X K
  have HCl : Hid (∀ X A k, Blk X g 80 (sdC { x with l := min c.ln x.m } ev now nilV (.slice A 1 k)) → Calls Try.prog 78 #[.pointer (some ⟨g, 0, none⟩), .agg (encC c), .agg (encC { onlyK 21 with ln := x.m })] X fun e w' => e = .returned (.tuple #[]) ∧ Blk w' g 80 (sdC { x with l := min c.ln x.m, o := -1 } ev now nilV (.slice A 1 k)) ∧ Grw g X w') := Lib.hid fun X A k K => closes_eq g _ ev now nilV (.slice A 1 k) c { onlyK 21 with ln := x.m } X K hk
  obtain ⟨xr, xo, xs, V1, xq, xt, V2, xd, xf, xc, xk, xw, xv, xl, xm, xa, xp, xy, xz, xn⟩ := x
  obtain ⟨ck, u1, u2, u3, u4, u5, cm, ci, cr, cj, cs, cy, cf, cv, cl⟩ := c
  dsimp only [sdC, nilV, encC, onlyK, zeroC] at *
  subst hk; subst ho
  have hg := K1.lt
  have hg2 : g ≠ w.heap.size := by omega
  replace K1 := K1.alloc (.cells #[.int .i64 21, .int .i64 u1, .int .i64 u2, .int .i64 u3, .int .i64 u4, .int .i64 u5, .int .u64 (cm : Int), .int .u16 ci, .int .i64 cr, .int .i64 cj, .int .u64 cs, .int .u64 cy, .int .u64 cf, .int .i64 cv, .int .i64 cl] 57)
  have K2 : Blk (w.alloc (.cells #[.int .i64 21, .int .i64 u1, .int .i64 u2, .int .i64 u3, .int .i64 u4, .int .i64 u5, .int .u64 (cm : Int), .int .u16 ci, .int .i64 cr, .int .i64 cj, .int .u64 cs, .int .u64 cy, .int .u64 cf, .int .i64 cv, .int .i64 cl] 57)) w.heap.size 57 #[.int .i64 21, .int .i64 u1, .int .i64 u2, .int .i64 u3, .int .i64 u4, .int .i64 u5, .int .u64 (cm : Int), .int .u16 ci, .int .i64 cr, .int .i64 cj, .int .u64 cs, .int .u64 cy, .int .u64 cf, .int .i64 cv, .int .i64 cl] := Blk.fresh _ _ _
  have BX := (Grw.refl g w).alloc (.cells #[.int .i64 21, .int .i64 u1, .int .i64 u2, .int .i64 u3, .int .i64 u4, .int .i64 u5, .int .u64 (cm : Int), .int .u16 ci, .int .i64 cr, .int .i64 cj, .int .u64 cs, .int .u64 cy, .int .u64 cf, .int .i64 cv, .int .i64 cl] 57)
  go_enter Try.func55, Try.ntmps55
  go_upto_region 1 with (fail)
  generalize w.alloc (.cells #[.int .i64 21, .int .i64 u1, .int .i64 u2, .int .i64 u3, .int .i64 u4, .int .i64 u5, .int .u64 (cm : Int), .int .u16 ci, .int .i64 cr, .int .i64 cj, .int .u64 cs, .int .u64 cy, .int .u64 cf, .int .i64 cv, .int .i64 cl] 57) = W0 at *
  go_upto_region 3 with (first | (refine wpList_load_row_w rfl 57 (.tmp 3) rfl w.heap.size rfl 57 _ (0, 0) _ K2 Try.underlying57 rfl (by kernel_rfl) ?_) | (go_at_call 77; refine (HCo.out W0 K1).mono ?_; rintro e W1 ⟨rfl, b9⟩; replace K1 := K1.below b9 K1.lt; replace K2 := K2.below b9 K2.lt; replace BX := BX.thenB b9; clear b9))
  have K1' : Blk W1.drew (g) 80 #[.int .i64 xr, .int .i64 20, .int .i64 xs, V1, .int .i64 xq, .int .i64 xt, V2, .bool xd, .int .u64 xf, .int .u64 xc, .bool xk, .bool xw, .int .i64 xv, .int .i64 xl, .int .i64 xm, .int .u64 xa, .int .u64 xp, .int .u64 xy, .int .i64 xz, .int .i64 xn, .int .u16 ev, .int .i64 now, .slice none 0 0, .slice none 0 0] := Mem.Blk.drew K1
  have K2' : Blk W1.drew (w.heap.size) 57 #[.int .i64 21, .int .i64 u1, .int .i64 u2, .int .i64 u3, .int .i64 u4, .int .i64 u5, .int .u64 (cm : Int), .int .u16 ci, .int .i64 cr, .int .i64 cj, .int .u64 cs, .int .u64 cy, .int .u64 cf, .int .i64 cv, .int .i64 cl] := Mem.Blk.drew K2
  refine wp_region_held_drew (S := (fun w' => Blk w' (w.heap.size) 57 #[.int .i64 21, .int .i64 u1, .int .i64 u2, .int .i64 u3, .int .i64 u4, .int .i64 u5, .int .u64 (cm : Int), .int .u16 ci, .int .i64 cr, .int .i64 cj, .int .u64 cs, .int .u64 cy, .int .u64 cf, .int .i64 cv, .int .i64 cl] ∧ w'.cell? ⟨g, 14, none⟩ = some (.int .i64 xm))) (by kernel_rfl) ?_ (fun hHeld => ?_)
  · exact ⟨K2', K1'.cell 14⟩
  replace K1 := K1'
  clear K1'
  replace K2 := K2'
  clear K2'
  replace BX : Grw g w W1.drew := BX.drew
  generalize W1.drew = X0 at *
  refine wpAnyH_take (i := 0) (v := .pointer (some ⟨g, 0, none⟩)) rfl (by kernel_rfl) (by kernel_rfl) (by kernel_rfl) (fun _ _ _ h => h) (Or.inl ⟨by first | rfl | go_simp, by intro w9 hSw; (try dsimp only at hSw); go_simp⟩) (by assumption) ?_
  simp only [List.getElem_toArray, List.getElem_cons_zero, List.getElem_cons_succ, Act.put, List.setIfInBounds_toArray, List.set_cons_zero, List.set_cons_succ]
  refine wpAnyH_take (i := 1) (v := .pointer (some ⟨w.heap.size, 14, none⟩)) rfl (by kernel_rfl) (by kernel_rfl) (by kernel_rfl) (fun _ _ _ h => h) (Or.inl ⟨by first | rfl | go_simp, by intro w9 hSw; (try dsimp only at hSw); go_simp⟩) (by assumption) ?_
  simp only [List.getElem_toArray, List.getElem_cons_zero, List.getElem_cons_succ, Act.put, List.setIfInBounds_toArray, List.set_cons_zero, List.set_cons_succ]
  refine wpAnyH_take (i := 2) (v := .int .i64 cl) rfl (by kernel_rfl) (by kernel_rfl) (by kernel_rfl) (fun _ _ _ h => h) (Or.inl ⟨by first | rfl | go_simp, by intro w9 hSw; (try dsimp only at hSw); have c9 := hSw.1.cell 14; clear hSw; go_simp⟩) (by assumption) ?_
  simp only [List.getElem_toArray, List.getElem_cons_zero, List.getElem_cons_succ, Act.put, List.setIfInBounds_toArray, List.set_cons_zero, List.set_cons_succ]
  refine wpAnyH_take (i := 3) (v := .pointer (some ⟨g, 0, none⟩)) rfl (by kernel_rfl) (by kernel_rfl) (by kernel_rfl) (fun _ _ _ h => h) (Or.inl ⟨by first | rfl | go_simp, by intro w9 hSw; (try dsimp only at hSw); go_simp⟩) (by assumption) ?_
  simp only [List.getElem_toArray, List.getElem_cons_zero, List.getElem_cons_succ, Act.put, List.setIfInBounds_toArray, List.set_cons_zero, List.set_cons_succ]
  refine wpAnyH_take (i := 4) (v := .pointer (some ⟨g, 0, none⟩)) rfl (by kernel_rfl) (by kernel_rfl) (by kernel_rfl) (fun _ _ _ h => h) (Or.inl ⟨by first | rfl | go_simp, by intro w9 hSw; (try dsimp only at hSw); go_simp⟩) (by assumption) ?_
  simp only [List.getElem_toArray, List.getElem_cons_zero, List.getElem_cons_succ, Act.put, List.setIfInBounds_toArray, List.set_cons_zero, List.set_cons_succ]
  refine wpAnyH_take (i := 5) (v := .pointer (some ⟨g, 14, none⟩)) rfl (by kernel_rfl) (by kernel_rfl) (by kernel_rfl) (fun _ _ _ h => h) (Or.inl ⟨by first | rfl | go_simp, by intro w9 hSw; (try dsimp only at hSw); go_simp⟩) (by assumption) ?_
  simp only [List.getElem_toArray, List.getElem_cons_zero, List.getElem_cons_succ, Act.put, List.setIfInBounds_toArray, List.set_cons_zero, List.set_cons_succ]
  refine wpAnyH_take (i := 6) (v := .int .i64 xm) rfl (by kernel_rfl) (by kernel_rfl) (by kernel_rfl) (fun _ _ _ h => h) (Or.inl ⟨by first | rfl | go_simp, by intro w9 hSw; (try dsimp only at hSw); go_simp⟩) (by assumption) ?_
  simp only [List.getElem_toArray, List.getElem_cons_zero, List.getElem_cons_succ, Act.put, List.setIfInBounds_toArray, List.set_cons_zero, List.set_cons_succ]
  refine wpAnyH_take (i := 7) (v := .int .i64 (min cl xm)) rfl (by kernel_rfl) (by kernel_rfl) (by kernel_rfl) (fun _ _ _ h => h) (Or.inl ⟨by first | rfl | go_simp, by intro w9 hSw; (try dsimp only at hSw); go_simp⟩) (by assumption) ?_
  simp only [List.getElem_toArray, List.getElem_cons_zero, List.getElem_cons_succ, Act.put, List.setIfInBounds_toArray, List.set_cons_zero, List.set_cons_succ]
  refine wpAnyH_take (i := 8) (v := .pointer (some ⟨g, 0, none⟩)) rfl (by kernel_rfl) (by kernel_rfl) (by kernel_rfl) (fun _ _ _ h => h) (Or.inl ⟨by first | rfl | go_simp, by intro w9 hSw; (try dsimp only at hSw); go_simp⟩) (by assumption) ?_
  simp only [List.getElem_toArray, List.getElem_cons_zero, List.getElem_cons_succ, Act.put, List.setIfInBounds_toArray, List.set_cons_zero, List.set_cons_succ]
  refine wpAnyH_take (i := 9) (v := .pointer (some ⟨g, 13, none⟩)) rfl (by kernel_rfl) (by kernel_rfl) (by kernel_rfl) (fun _ _ _ h => h) (Or.inl ⟨by first | rfl | go_simp, by intro w9 hSw; (try dsimp only at hSw); go_simp⟩) (by assumption) ?_
  simp only [List.getElem_toArray, List.getElem_cons_zero, List.getElem_cons_succ, Act.put, List.setIfInBounds_toArray, List.set_cons_zero, List.set_cons_succ]
  refine wpAnyH_ready (rs := [10]) (by kernel_rfl) (by simp) ?_
  refine AllReadyH.cons rfl (fun K hK => ?_) (AllReadyH.nil)
  refine Av.step_store_cell rfl _ _ _ rfl (g) 13 (.int .i64 (min cl xm)) rfl rfl 80 _ K1 (by show 13 < 24; decide) (by kernel_rfl) rfl ?_
  replace K1 : Blk (X0.setCell ⟨g, 13, none⟩ (.int .i64 (min cl xm))) (g) 80 #[.int .i64 xr, .int .i64 20, .int .i64 xs, V1, .int .i64 xq, .int .i64 xt, V2, .bool xd, .int .u64 xf, .int .u64 xc, .bool xk, .bool xw, .int .i64 xv, .int .i64 (min cl xm), .int .i64 xm, .int .u64 xa, .int .u64 xp, .int .u64 xy, .int .i64 xz, .int .i64 xn, .int .u16 ev, .int .i64 now, .slice none 0 0, .slice none 0 0] := (Av.bset K1 13 (.int .i64 (min cl xm)) rfl)
  replace K2 : Blk (X0.setCell ⟨g, 13, none⟩ (.int .i64 (min cl xm))) (w.heap.size) 57 #[.int .i64 21, .int .i64 u1, .int .i64 u2, .int .i64 u3, .int .i64 u4, .int .i64 u5, .int .u64 (cm : Int), .int .u16 ci, .int .i64 cr, .int .i64 cj, .int .u64 cs, .int .u64 cy, .int .u64 cf, .int .i64 cv, .int .i64 cl] := Av.bother (K2) (by omega) _
  replace BX : Grw g w (X0.setCell ⟨g, 13, none⟩ (.int .i64 (min cl xm))) := (BX.setCell (p := ⟨g, 13, none⟩) (by simp only; omega) _)
  generalize (X0.setCell ⟨g, 13, none⟩ (.int .i64 (min cl xm))) = X1 at *
  refine hK.out _ _ ⟨K2, K1.cell 14⟩ (fun hHeld => ?_)
  clear hK K
  try simp only [List.getElem_toArray, List.getElem_cons_zero, List.getElem_cons_succ, Act.put, List.setIfInBounds_toArray, List.set_cons_zero, List.set_cons_succ]
  refine wpAnyH_done (by kernel_rfl) ?_ _
  have k13 := K1.cell 13
  go_upto_region 5 with (go_at_call 76; refine (HRp.out _ X1 K1).mono ?_; rintro e X9 ⟨rfl, A9, c9, K9, R9, G9⟩; replace K2 := G9.blk K2 (Ne.symm hg2); replace BX := BX.trans G9; replace K1 := K9; clear K9 G9 k13)
  have K1' : Blk X9.drew (g) 80 #[.int .i64 xr, .int .i64 20, .int .i64 xs, V1, .int .i64 xq, .int .i64 xt, V2, .bool xd, .int .u64 xf, .int .u64 xc, .bool xk, .bool xw, .int .i64 xv, .int .i64 (min cl xm), .int .i64 xm, .int .u64 xa, .int .u64 xp, .int .u64 xy, .int .i64 xz, .int .i64 xn, .int .u16 ev, .int .i64 now, .slice none 0 0, .slice A9 1 c9] := Mem.Blk.drew K1
  have K2' : Blk X9.drew (w.heap.size) 57 #[.int .i64 21, .int .i64 u1, .int .i64 u2, .int .i64 u3, .int .i64 u4, .int .i64 u5, .int .u64 (cm : Int), .int .u16 ci, .int .i64 cr, .int .i64 cj, .int .u64 cs, .int .u64 cy, .int .u64 cf, .int .i64 cv, .int .i64 cl] := Mem.Blk.drew K2
  refine wp_region_held_drew (S := (fun w' => Blk w' (w.heap.size) 57 #[.int .i64 21, .int .i64 u1, .int .i64 u2, .int .i64 u3, .int .i64 u4, .int .i64 u5, .int .u64 (cm : Int), .int .u16 ci, .int .i64 cr, .int .i64 cj, .int .u64 cs, .int .u64 cy, .int .u64 cf, .int .i64 cv, .int .i64 cl] ∧ w'.cell? ⟨g, 14, none⟩ = some (.int .i64 xm))) (by kernel_rfl) ?_ (fun hHeld => ?_)
  · exact ⟨K2', K1'.cell 14⟩
  replace K1 := K1'
  clear K1'
  replace K2 := K2'
  clear K2'
  replace BX : Grw g w X9.drew := BX.drew
  replace R9 := Row.drew R9
  generalize X9.drew = Y0 at *
  refine wpAnyH_take (i := 0) (v := .pointer (some ⟨g, 0, none⟩)) rfl (by kernel_rfl) (by kernel_rfl) (by kernel_rfl) (fun _ _ _ h => h) (Or.inl ⟨by first | rfl | go_simp, by intro w9 hSw; (try dsimp only at hSw); go_simp⟩) (by assumption) ?_
  simp only [List.getElem_toArray, List.getElem_cons_zero, List.getElem_cons_succ, Act.put, List.setIfInBounds_toArray, List.set_cons_zero, List.set_cons_succ]
  refine wpAnyH_take (i := 1) (v := .agg #[.int .i64 21, .int .i64 u1, .int .i64 u2, .int .i64 u3, .int .i64 u4, .int .i64 u5, .int .u64 (cm : Int), .int .u16 ci, .int .i64 cr, .int .i64 cj, .int .u64 cs, .int .u64 cy, .int .u64 cf, .int .i64 cv, .int .i64 cl]) rfl (by kernel_rfl) (by kernel_rfl) (by kernel_rfl) (fun _ _ _ h => h) (Av.yields_part (by first | rfl | go_simp) _ _ rfl (w.heap.size) 0 rfl #[.int .i64 21, .int .i64 u1, .int .i64 u2, .int .i64 u3, .int .i64 u4, .int .i64 u5, .int .u64 (cm : Int), .int .u16 ci, .int .i64 cr, .int .i64 cj, .int .u64 cs, .int .u64 cy, .int .u64 cf, .int .i64 cv, .int .i64 cl] _ 57 #[.int .i64 21, .int .i64 u1, .int .i64 u2, .int .i64 u3, .int .i64 u4, .int .i64 u5, .int .u64 (cm : Int), .int .u16 ci, .int .i64 cr, .int .i64 cj, .int .u64 cs, .int .u64 cy, .int .u64 cf, .int .i64 cv, .int .i64 cl] (fun w9 hSw => hSw.1) rfl Try.underlying57 rfl (by kernel_rfl)) (by assumption) ?_
  simp only [List.getElem_toArray, List.getElem_cons_zero, List.getElem_cons_succ, Act.put, List.setIfInBounds_toArray, List.set_cons_zero, List.set_cons_succ]
  refine wpAnyH_take (i := 2) (v := .pointer (some ⟨g, 0, none⟩)) rfl (by kernel_rfl) (by kernel_rfl) (by kernel_rfl) (fun _ _ _ h => h) (Or.inl ⟨by first | rfl | go_simp, by intro w9 hSw; (try dsimp only at hSw); go_simp⟩) (by assumption) ?_
  simp only [List.getElem_toArray, List.getElem_cons_zero, List.getElem_cons_succ, Act.put, List.setIfInBounds_toArray, List.set_cons_zero, List.set_cons_succ]
  refine wpAnyH_take (i := 3) (v := .pointer (some ⟨g, 0, none⟩)) rfl (by kernel_rfl) (by kernel_rfl) (by kernel_rfl) (fun _ _ _ h => h) (Or.inl ⟨by first | rfl | go_simp, by intro w9 hSw; (try dsimp only at hSw); go_simp⟩) (by assumption) ?_
  simp only [List.getElem_toArray, List.getElem_cons_zero, List.getElem_cons_succ, Act.put, List.setIfInBounds_toArray, List.set_cons_zero, List.set_cons_succ]
  refine wpAnyH_take (i := 4) (v := .pointer (some ⟨g, 14, none⟩)) rfl (by kernel_rfl) (by kernel_rfl) (by kernel_rfl) (fun _ _ _ h => h) (Or.inl ⟨by first | rfl | go_simp, by intro w9 hSw; (try dsimp only at hSw); go_simp⟩) (by assumption) ?_
  simp only [List.getElem_toArray, List.getElem_cons_zero, List.getElem_cons_succ, Act.put, List.setIfInBounds_toArray, List.set_cons_zero, List.set_cons_succ]
  refine wpAnyH_take (i := 5) (v := .int .i64 xm) rfl (by kernel_rfl) (by kernel_rfl) (by kernel_rfl) (fun _ _ _ h => h) (Or.inl ⟨by first | rfl | go_simp, by intro w9 hSw; (try dsimp only at hSw); go_simp⟩) (by assumption) ?_
  simp only [List.getElem_toArray, List.getElem_cons_zero, List.getElem_cons_succ, Act.put, List.setIfInBounds_toArray, List.set_cons_zero, List.set_cons_succ]
  refine wpAnyH_take (i := 6) (v := .agg #[.int .i64 21, .int .i64 0, .int .i64 0, .int .i64 0, .int .i64 0, .int .i64 0, .int .u64 0, .int .u16 0, .int .i64 0, .int .i64 0, .int .u64 0, .int .u64 0, .int .u64 0, .int .i64 0, .int .i64 xm]) rfl (by kernel_rfl) (by kernel_rfl) (by kernel_rfl) (fun _ _ _ h => h) (Av.yields_build (by first | rfl | go_simp) _ _ rfl #[.int .i64 21, .int .i64 0, .int .i64 0, .int .i64 0, .int .i64 0, .int .i64 0, .int .u64 0, .int .u16 0, .int .i64 0, .int .i64 0, .int .u64 0, .int .u64 0, .int .u64 0, .int .i64 0, .int .i64 xm] (by kernel_rfl)) (by assumption) ?_
  simp only [List.getElem_toArray, List.getElem_cons_zero, List.getElem_cons_succ, Act.put, List.setIfInBounds_toArray, List.set_cons_zero, List.set_cons_succ]
  refine wpAnyH_ready (rs := [7]) (by kernel_rfl) (by simp) ?_
  refine AllReadyH.cons rfl (fun K hK => ?_) (AllReadyH.nil)
  go_simp
  refine (HCl.out Y0 A9 c9 K1).mono ?_
  rintro e Y1 ⟨rfl, K9, G9⟩
  replace R9 := G9.row R9 (by omega)
  replace BX := BX.trans G9
  replace K2 := G9.blk K2 (Ne.symm hg2)
  replace K1 := K9
  clear K9 G9
  refine hK.out _ _ ⟨K2, K1.cell 14⟩ (fun hHeld => ?_)
  clear hK K
  try simp only [List.getElem_toArray, List.getElem_cons_zero, List.getElem_cons_succ, Act.put, List.setIfInBounds_toArray, List.set_cons_zero, List.set_cons_succ]
  refine wpAnyH_done (by kernel_rfl) ?_ _
  go_wp2_with fail
  go_end0
  exact ⟨rfl, A9, c9, _, by first | rfl | exact IntKind.wrap_u64 _, K1, R9, BX⟩
end Go.Proofs.Ytpoagepchlfemaa.Pc
