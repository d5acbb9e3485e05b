/- Control procedures: whether a request can be made, and how it begins: contracts over the program. -/
import Derived.Test.YtpoagepchlfemaaPcW7
import Derived.Test.YtpoagepchlfemaaPcProc
set_option linter.unusedVariables false
set_option linter.unusedSimpArgs false
namespace Go.Proofs.Ytpoagepchlfemaa.Pc
open Go.RowKit Mem Rw Cp
open Base (thenB)
open Av (Row)

set_option maxRecDepth 100000 in
set_option maxHeartbeats 8000000 in
theorem comp20_any (x : Pr) (c : Ct) (w : World) (hk : c.k = 20) : Calls Try.prog 24 #[.agg (prC x), .agg (encC c)] w fun e w' => e = .returned (.agg (encC c)) ∧ Below w.heap.size w w' := by
  obtain ⟨xr, xo, xs, V1, xq, xt, V2, xd, xf, xc, xk, xw, xv, xl, xm, xa, xp, xy, xz, xn⟩ := x
  obtain ⟨ck, u1, u2, u3, u4, u5, cm, ci, cr, cj, cs, cy, cf, cv, cl⟩ := c
  simp only at hk
  subst hk
  dsimp only [prC, encC] at *
  have BX : Below w.heap.size w (((w.alloc (.cells #[.int .i64 xr, .int .i64 xo, .int .i64 xs, V1, .int .i64 xq, .int .i64 xt, V2, .bool xd, .int .u64 xf, .int .u64 xc, .bool xk, .bool xw, .int .i64 xv, .int .i64 xl, .int .i64 xm, .int .u64 xa, .int .u64 xp, .int .u64 xy, .int .i64 xz, .int .i64 xn] 27)).alloc (.cells #[.int .i64 20, .int .i64 u1, .int .i64 u2, .int .i64 u3, .int .i64 u4, .int .i64 u5, .int .u64 (cm : Int), .int .u16 ci, .int .i64 cr, .int .i64 cj, .int .u64 cs, .int .u64 cy, .int .u64 cf, .int .i64 cv, .int .i64 cl] 57)).alloc (.cells #[.int .i64 0, .int .i64 0, .int .i64 0, .int .i64 0, .int .i64 0, .int .i64 0, .int .u64 0, .int .u16 0, .int .i64 0, .int .i64 0, .int .u64 0, .int .u64 0, .int .u64 0, .int .i64 0, .int .i64 0] 57)) := (((Below.refl _ _).alloc (Nat.le_refl _) _).alloc (by simp) _).alloc (by simp; omega) _
  have K2 : Blk (((w.alloc (.cells #[.int .i64 xr, .int .i64 xo, .int .i64 xs, V1, .int .i64 xq, .int .i64 xt, V2, .bool xd, .int .u64 xf, .int .u64 xc, .bool xk, .bool xw, .int .i64 xv, .int .i64 xl, .int .i64 xm, .int .u64 xa, .int .u64 xp, .int .u64 xy, .int .i64 xz, .int .i64 xn] 27)).alloc (.cells #[.int .i64 20, .int .i64 u1, .int .i64 u2, .int .i64 u3, .int .i64 u4, .int .i64 u5, .int .u64 (cm : Int), .int .u16 ci, .int .i64 cr, .int .i64 cj, .int .u64 cs, .int .u64 cy, .int .u64 cf, .int .i64 cv, .int .i64 cl] 57)).alloc (.cells #[.int .i64 0, .int .i64 0, .int .i64 0, .int .i64 0, .int .i64 0, .int .i64 0, .int .u64 0, .int .u16 0, .int .i64 0, .int .i64 0, .int .u64 0, .int .u64 0, .int .u64 0, .int .i64 0, .int .i64 0] 57)) (w.heap.size + 1) 57 #[.int .i64 20, .int .i64 u1, .int .i64 u2, .int .i64 u3, .int .i64 u4, .int .i64 u5, .int .u64 (cm : Int), .int .u16 ci, .int .i64 cr, .int .i64 cj, .int .u64 cs, .int .u64 cy, .int .u64 cf, .int .i64 cv, .int .i64 cl] := (Av.Blk.next).alloc _
  have K3 : Blk (((w.alloc (.cells #[.int .i64 xr, .int .i64 xo, .int .i64 xs, V1, .int .i64 xq, .int .i64 xt, V2, .bool xd, .int .u64 xf, .int .u64 xc, .bool xk, .bool xw, .int .i64 xv, .int .i64 xl, .int .i64 xm, .int .u64 xa, .int .u64 xp, .int .u64 xy, .int .i64 xz, .int .i64 xn] 27)).alloc (.cells #[.int .i64 20, .int .i64 u1, .int .i64 u2, .int .i64 u3, .int .i64 u4, .int .i64 u5, .int .u64 (cm : Int), .int .u16 ci, .int .i64 cr, .int .i64 cj, .int .u64 cs, .int .u64 cy, .int .u64 cf, .int .i64 cv, .int .i64 cl] 57)).alloc (.cells #[.int .i64 0, .int .i64 0, .int .i64 0, .int .i64 0, .int .i64 0, .int .i64 0, .int .u64 0, .int .u16 0, .int .i64 0, .int .i64 0, .int .u64 0, .int .u64 0, .int .u64 0, .int .i64 0, .int .i64 0] 57)) (w.heap.size + 2) 57 #[.int .i64 0, .int .i64 0, .int .i64 0, .int .i64 0, .int .i64 0, .int .i64 0, .int .u64 0, .int .u16 0, .int .i64 0, .int .i64 0, .int .u64 0, .int .u64 0, .int .u64 0, .int .i64 0, .int .i64 0] := by
    have := Blk.fresh ((w.alloc (.cells #[.int .i64 xr, .int .i64 xo, .int .i64 xs, V1, .int .i64 xq, .int .i64 xt, V2, .bool xd, .int .u64 xf, .int .u64 xc, .bool xk, .bool xw, .int .i64 xv, .int .i64 xl, .int .i64 xm, .int .u64 xa, .int .u64 xp, .int .u64 xy, .int .i64 xz, .int .i64 xn] 27)).alloc (.cells #[.int .i64 20, .int .i64 u1, .int .i64 u2, .int .i64 u3, .int .i64 u4, .int .i64 u5, .int .u64 (cm : Int), .int .u16 ci, .int .i64 cr, .int .i64 cj, .int .u64 cs, .int .u64 cy, .int .u64 cf, .int .i64 cv, .int .i64 cl] 57)) 57 #[.int .i64 0, .int .i64 0, .int .i64 0, .int .i64 0, .int .i64 0, .int .i64 0, .int .u64 0, .int .u16 0, .int .i64 0, .int .i64 0, .int .u64 0, .int .u64 0, .int .u64 0, .int .i64 0, .int .i64 0]
    simpa using this
  have H1 : (#[.int .i64 20, .int .i64 u1, .int .i64 u2, .int .i64 u3, .int .i64 u4, .int .i64 u5, .int .u64 (cm : Int), .int .u16 ci, .int .i64 cr, .int .i64 cj, .int .u64 cs, .int .u64 cy, .int .u64 cf, .int .i64 cv, .int .i64 cl] : Array Value).all (·.oneCell') = true := by rw [← Array.all_toList]; rfl
  go_enter Try.func24, Try.ntmps24
  go_upto_region 1 with (fail)
  generalize ((w.alloc (.cells #[.int .i64 xr, .int .i64 xo, .int .i64 xs, V1, .int .i64 xq, .int .i64 xt, V2, .bool xd, .int .u64 xf, .int .u64 xc, .bool xk, .bool xw, .int .i64 xv, .int .i64 xl, .int .i64 xm, .int .u64 xa, .int .u64 xp, .int .u64 xy, .int .i64 xz, .int .i64 xn] 27)).alloc (.cells #[.int .i64 20, .int .i64 u1, .int .i64 u2, .int .i64 u3, .int .i64 u4, .int .i64 u5, .int .u64 (cm : Int), .int .u16 ci, .int .i64 cr, .int .i64 cj, .int .u64 cs, .int .u64 cy, .int .u64 cf, .int .i64 cv, .int .i64 cl] 57)).alloc (.cells #[.int .i64 0, .int .i64 0, .int .i64 0, .int .i64 0, .int .i64 0, .int .i64 0, .int .u64 0, .int .u16 0, .int .i64 0, .int .i64 0, .int .u64 0, .int .u64 0, .int .u64 0, .int .i64 0, .int .i64 0] 57) = W0 at *
  have k0 := K2.cell 0
  go_wp2_with (first | (refine wpList_load_row_w rfl 57 (.tmp 3) rfl (w.heap.size + 1) rfl 57 _ (0, 0) _ K2 Try.underlying57 rfl (by kernel_rfl) ?_) | (refine wpList_setR rfl 57 (.tmp 4) _ rfl (w.heap.size + 2) #[.int .i64 20, .int .i64 u1, .int .i64 u2, .int .i64 u3, .int .i64 u4, .int .i64 u5, .int .u64 (cm : Int), .int .u16 ci, .int .i64 cr, .int .i64 cj, .int .u64 cs, .int .u64 cy, .int .u64 cf, .int .i64 cv, .int .i64 cl] rfl rfl 57 _ K3 (by kernel_rfl) rfl H1 ?_; intro Y KR GR))
  refine bodyPost_ret (v := .agg #[.int .i64 20, .int .i64 u1, .int .i64 u2, .int .i64 u3, .int .i64 u4, .int .i64 u5, .int .u64 (cm : Int), .int .u16 ci, .int .i64 cr, .int .i64 cj, .int .u64 cs, .int .u64 cy, .int .u64 cf, .int .i64 cv, .int .i64 cl]) ?_ rfl ⟨rfl, BX.trans (GR.below (by omega) BX.size)⟩
  clear K2 K3 k0
  have HL := run_loadVar_row (P := Try.prog) Y (w.heap.size + 2) 57 57 #[.int .i64 20, .int .i64 u1, .int .i64 u2, .int .i64 u3, .int .i64 u4, .int .i64 u5, .int .u64 (cm : Int), .int .u16 ci, .int .i64 cr, .int .i64 cj, .int .u64 cs, .int .u64 cy, .int .u64 cf, .int .i64 cv, .int .i64 cl] (0, 0) _ KR Try.underlying57 rfl (by kernel_rfl)
  generalize (#[.int .i64 20, .int .i64 u1, .int .i64 u2, .int .i64 u3, .int .i64 u4, .int .i64 u5, .int .u64 (cm : Int), .int .u16 ci, .int .i64 cr, .int .i64 cj, .int .u64 cs, .int .u64 cy, .int .u64 cf, .int .i64 cv, .int .i64 cl] : Array Value) = CS at *
  simp [results, show (Try.f24).results = #[.cell 4 57] from rfl, asAddr, HL, Act.put]
set_option maxRecDepth 100000 in
set_option maxHeartbeats 8000000 in
theorem comp3_any (x : Pr) (c : Ct) (w : World) (hk : c.k = 3) : Calls Try.prog 24 #[.agg (prC x), .agg (encC c)] w fun e w' => e = .returned (.agg (encC c)) ∧ Below w.heap.size w w' := by
  obtain ⟨xr, xo, xs, V1, xq, xt, V2, xd, xf, xc, xk, xw, xv, xl, xm, xa, xp, xy, xz, xn⟩ := x
  obtain ⟨ck, u1, u2, u3, u4, u5, cm, ci, cr, cj, cs, cy, cf, cv, cl⟩ := c
  simp only at hk
  subst hk
  dsimp only [prC, encC] at *
  have BX : Below w.heap.size w (((w.alloc (.cells #[.int .i64 xr, .int .i64 xo, .int .i64 xs, V1, .int .i64 xq, .int .i64 xt, V2, .bool xd, .int .u64 xf, .int .u64 xc, .bool xk, .bool xw, .int .i64 xv, .int .i64 xl, .int .i64 xm, .int .u64 xa, .int .u64 xp, .int .u64 xy, .int .i64 xz, .int .i64 xn] 27)).alloc (.cells #[.int .i64 3, .int .i64 u1, .int .i64 u2, .int .i64 u3, .int .i64 u4, .int .i64 u5, .int .u64 (cm : Int), .int .u16 ci, .int .i64 cr, .int .i64 cj, .int .u64 cs, .int .u64 cy, .int .u64 cf, .int .i64 cv, .int .i64 cl] 57)).alloc (.cells #[.int .i64 0, .int .i64 0, .int .i64 0, .int .i64 0, .int .i64 0, .int .i64 0, .int .u64 0, .int .u16 0, .int .i64 0, .int .i64 0, .int .u64 0, .int .u64 0, .int .u64 0, .int .i64 0, .int .i64 0] 57)) := (((Below.refl _ _).alloc (Nat.le_refl _) _).alloc (by simp) _).alloc (by simp; omega) _
  have K2 : Blk (((w.alloc (.cells #[.int .i64 xr, .int .i64 xo, .int .i64 xs, V1, .int .i64 xq, .int .i64 xt, V2, .bool xd, .int .u64 xf, .int .u64 xc, .bool xk, .bool xw, .int .i64 xv, .int .i64 xl, .int .i64 xm, .int .u64 xa, .int .u64 xp, .int .u64 xy, .int .i64 xz, .int .i64 xn] 27)).alloc (.cells #[.int .i64 3, .int .i64 u1, .int .i64 u2, .int .i64 u3, .int .i64 u4, .int .i64 u5, .int .u64 (cm : Int), .int .u16 ci, .int .i64 cr, .int .i64 cj, .int .u64 cs, .int .u64 cy, .int .u64 cf, .int .i64 cv, .int .i64 cl] 57)).alloc (.cells #[.int .i64 0, .int .i64 0, .int .i64 0, .int .i64 0, .int .i64 0, .int .i64 0, .int .u64 0, .int .u16 0, .int .i64 0, .int .i64 0, .int .u64 0, .int .u64 0, .int .u64 0, .int .i64 0, .int .i64 0] 57)) (w.heap.size + 1) 57 #[.int .i64 3, .int .i64 u1, .int .i64 u2, .int .i64 u3, .int .i64 u4, .int .i64 u5, .int .u64 (cm : Int), .int .u16 ci, .int .i64 cr, .int .i64 cj, .int .u64 cs, .int .u64 cy, .int .u64 cf, .int .i64 cv, .int .i64 cl] := (Av.Blk.next).alloc _
  have K3 : Blk (((w.alloc (.cells #[.int .i64 xr, .int .i64 xo, .int .i64 xs, V1, .int .i64 xq, .int .i64 xt, V2, .bool xd, .int .u64 xf, .int .u64 xc, .bool xk, .bool xw, .int .i64 xv, .int .i64 xl, .int .i64 xm, .int .u64 xa, .int .u64 xp, .int .u64 xy, .int .i64 xz, .int .i64 xn] 27)).alloc (.cells #[.int .i64 3, .int .i64 u1, .int .i64 u2, .int .i64 u3, .int .i64 u4, .int .i64 u5, .int .u64 (cm : Int), .int .u16 ci, .int .i64 cr, .int .i64 cj, .int .u64 cs, .int .u64 cy, .int .u64 cf, .int .i64 cv, .int .i64 cl] 57)).alloc (.cells #[.int .i64 0, .int .i64 0, .int .i64 0, .int .i64 0, .int .i64 0, .int .i64 0, .int .u64 0, .int .u16 0, .int .i64 0, .int .i64 0, .int .u64 0, .int .u64 0, .int .u64 0, .int .i64 0, .int .i64 0] 57)) (w.heap.size + 2) 57 #[.int .i64 0, .int .i64 0, .int .i64 0, .int .i64 0, .int .i64 0, .int .i64 0, .int .u64 0, .int .u16 0, .int .i64 0, .int .i64 0, .int .u64 0, .int .u64 0, .int .u64 0, .int .i64 0, .int .i64 0] := by
    have := Blk.fresh ((w.alloc (.cells #[.int .i64 xr, .int .i64 xo, .int .i64 xs, V1, .int .i64 xq, .int .i64 xt, V2, .bool xd, .int .u64 xf, .int .u64 xc, .bool xk, .bool xw, .int .i64 xv, .int .i64 xl, .int .i64 xm, .int .u64 xa, .int .u64 xp, .int .u64 xy, .int .i64 xz, .int .i64 xn] 27)).alloc (.cells #[.int .i64 3, .int .i64 u1, .int .i64 u2, .int .i64 u3, .int .i64 u4, .int .i64 u5, .int .u64 (cm : Int), .int .u16 ci, .int .i64 cr, .int .i64 cj, .int .u64 cs, .int .u64 cy, .int .u64 cf, .int .i64 cv, .int .i64 cl] 57)) 57 #[.int .i64 0, .int .i64 0, .int .i64 0, .int .i64 0, .int .i64 0, .int .i64 0, .int .u64 0, .int .u16 0, .int .i64 0, .int .i64 0, .int .u64 0, .int .u64 0, .int .u64 0, .int .i64 0, .int .i64 0]
    simpa using this
  have H1 : (#[.int .i64 3, .int .i64 u1, .int .i64 u2, .int .i64 u3, .int .i64 u4, .int .i64 u5, .int .u64 (cm : Int), .int .u16 ci, .int .i64 cr, .int .i64 cj, .int .u64 cs, .int .u64 cy, .int .u64 cf, .int .i64 cv, .int .i64 cl] : Array Value).all (·.oneCell') = true := by rw [← Array.all_toList]; rfl
  go_enter Try.func24, Try.ntmps24
  go_upto_region 1 with (fail)
  generalize ((w.alloc (.cells #[.int .i64 xr, .int .i64 xo, .int .i64 xs, V1, .int .i64 xq, .int .i64 xt, V2, .bool xd, .int .u64 xf, .int .u64 xc, .bool xk, .bool xw, .int .i64 xv, .int .i64 xl, .int .i64 xm, .int .u64 xa, .int .u64 xp, .int .u64 xy, .int .i64 xz, .int .i64 xn] 27)).alloc (.cells #[.int .i64 3, .int .i64 u1, .int .i64 u2, .int .i64 u3, .int .i64 u4, .int .i64 u5, .int .u64 (cm : Int), .int .u16 ci, .int .i64 cr, .int .i64 cj, .int .u64 cs, .int .u64 cy, .int .u64 cf, .int .i64 cv, .int .i64 cl] 57)).alloc (.cells #[.int .i64 0, .int .i64 0, .int .i64 0, .int .i64 0, .int .i64 0, .int .i64 0, .int .u64 0, .int .u16 0, .int .i64 0, .int .i64 0, .int .u64 0, .int .u64 0, .int .u64 0, .int .i64 0, .int .i64 0] 57) = W0 at *
  have k0 := K2.cell 0
  go_wp2_with (first | (refine wpList_load_row_w rfl 57 (.tmp 3) rfl (w.heap.size + 1) rfl 57 _ (0, 0) _ K2 Try.underlying57 rfl (by kernel_rfl) ?_) | (refine wpList_setR rfl 57 (.tmp 4) _ rfl (w.heap.size + 2) #[.int .i64 3, .int .i64 u1, .int .i64 u2, .int .i64 u3, .int .i64 u4, .int .i64 u5, .int .u64 (cm : Int), .int .u16 ci, .int .i64 cr, .int .i64 cj, .int .u64 cs, .int .u64 cy, .int .u64 cf, .int .i64 cv, .int .i64 cl] rfl rfl 57 _ K3 (by kernel_rfl) rfl H1 ?_; intro Y KR GR))
  refine bodyPost_ret (v := .agg #[.int .i64 3, .int .i64 u1, .int .i64 u2, .int .i64 u3, .int .i64 u4, .int .i64 u5, .int .u64 (cm : Int), .int .u16 ci, .int .i64 cr, .int .i64 cj, .int .u64 cs, .int .u64 cy, .int .u64 cf, .int .i64 cv, .int .i64 cl]) ?_ rfl ⟨rfl, BX.trans (GR.below (by omega) BX.size)⟩
  clear K2 K3 k0
  have HL := run_loadVar_row (P := Try.prog) Y (w.heap.size + 2) 57 57 #[.int .i64 3, .int .i64 u1, .int .i64 u2, .int .i64 u3, .int .i64 u4, .int .i64 u5, .int .u64 (cm : Int), .int .u16 ci, .int .i64 cr, .int .i64 cj, .int .u64 cs, .int .u64 cy, .int .u64 cf, .int .i64 cv, .int .i64 cl] (0, 0) _ KR Try.underlying57 rfl (by kernel_rfl)
  generalize (#[.int .i64 3, .int .i64 u1, .int .i64 u2, .int .i64 u3, .int .i64 u4, .int .i64 u5, .int .u64 (cm : Int), .int .u16 ci, .int .i64 cr, .int .i64 cj, .int .u64 cs, .int .u64 cy, .int .u64 cf, .int .i64 cv, .int .i64 cl] : Array Value) = CS at *
  simp [results, show (Try.f24).results = #[.cell 4 57] from rfl, asAddr, HL, Act.put]
set_option maxRecDepth 100000 in
set_option maxHeartbeats 8000000 in
theorem comp1_any (x : Pr) (c : Ct) (w : World) (hk : c.k = 1) : Calls Try.prog 24 #[.agg (prC x), .agg (encC c)] w fun e w' => e = .returned (.agg (encC { c with ins := 0 })) ∧ Below w.heap.size w w' := by
  obtain ⟨xr, xo, xs, V1, xq, xt, V2, xd, xf, xc, xk, xw, xv, xl, xm, xa, xp, xy, xz, xn⟩ := x
  obtain ⟨ck, u1, u2, u3, u4, u5, cm, ci, cr, cj, cs, cy, cf, cv, cl⟩ := c
  simp only at hk
  subst hk
  dsimp only [prC, encC] at *
  have BX : Below w.heap.size w (((w.alloc (.cells #[.int .i64 xr, .int .i64 xo, .int .i64 xs, V1, .int .i64 xq, .int .i64 xt, V2, .bool xd, .int .u64 xf, .int .u64 xc, .bool xk, .bool xw, .int .i64 xv, .int .i64 xl, .int .i64 xm, .int .u64 xa, .int .u64 xp, .int .u64 xy, .int .i64 xz, .int .i64 xn] 27)).alloc (.cells #[.int .i64 1, .int .i64 u1, .int .i64 u2, .int .i64 u3, .int .i64 u4, .int .i64 u5, .int .u64 (cm : Int), .int .u16 ci, .int .i64 cr, .int .i64 cj, .int .u64 cs, .int .u64 cy, .int .u64 cf, .int .i64 cv, .int .i64 cl] 57)).alloc (.cells #[.int .i64 0, .int .i64 0, .int .i64 0, .int .i64 0, .int .i64 0, .int .i64 0, .int .u64 0, .int .u16 0, .int .i64 0, .int .i64 0, .int .u64 0, .int .u64 0, .int .u64 0, .int .i64 0, .int .i64 0] 57)) := (((Below.refl _ _).alloc (Nat.le_refl _) _).alloc (by simp) _).alloc (by simp; omega) _
  have K2 : Blk (((w.alloc (.cells #[.int .i64 xr, .int .i64 xo, .int .i64 xs, V1, .int .i64 xq, .int .i64 xt, V2, .bool xd, .int .u64 xf, .int .u64 xc, .bool xk, .bool xw, .int .i64 xv, .int .i64 xl, .int .i64 xm, .int .u64 xa, .int .u64 xp, .int .u64 xy, .int .i64 xz, .int .i64 xn] 27)).alloc (.cells #[.int .i64 1, .int .i64 u1, .int .i64 u2, .int .i64 u3, .int .i64 u4, .int .i64 u5, .int .u64 (cm : Int), .int .u16 ci, .int .i64 cr, .int .i64 cj, .int .u64 cs, .int .u64 cy, .int .u64 cf, .int .i64 cv, .int .i64 cl] 57)).alloc (.cells #[.int .i64 0, .int .i64 0, .int .i64 0, .int .i64 0, .int .i64 0, .int .i64 0, .int .u64 0, .int .u16 0, .int .i64 0, .int .i64 0, .int .u64 0, .int .u64 0, .int .u64 0, .int .i64 0, .int .i64 0] 57)) (w.heap.size + 1) 57 #[.int .i64 1, .int .i64 u1, .int .i64 u2, .int .i64 u3, .int .i64 u4, .int .i64 u5, .int .u64 (cm : Int), .int .u16 ci, .int .i64 cr, .int .i64 cj, .int .u64 cs, .int .u64 cy, .int .u64 cf, .int .i64 cv, .int .i64 cl] := (Av.Blk.next).alloc _
  have K3 : Blk (((w.alloc (.cells #[.int .i64 xr, .int .i64 xo, .int .i64 xs, V1, .int .i64 xq, .int .i64 xt, V2, .bool xd, .int .u64 xf, .int .u64 xc, .bool xk, .bool xw, .int .i64 xv, .int .i64 xl, .int .i64 xm, .int .u64 xa, .int .u64 xp, .int .u64 xy, .int .i64 xz, .int .i64 xn] 27)).alloc (.cells #[.int .i64 1, .int .i64 u1, .int .i64 u2, .int .i64 u3, .int .i64 u4, .int .i64 u5, .int .u64 (cm : Int), .int .u16 ci, .int .i64 cr, .int .i64 cj, .int .u64 cs, .int .u64 cy, .int .u64 cf, .int .i64 cv, .int .i64 cl] 57)).alloc (.cells #[.int .i64 0, .int .i64 0, .int .i64 0, .int .i64 0, .int .i64 0, .int .i64 0, .int .u64 0, .int .u16 0, .int .i64 0, .int .i64 0, .int .u64 0, .int .u64 0, .int .u64 0, .int .i64 0, .int .i64 0] 57)) (w.heap.size + 2) 57 #[.int .i64 0, .int .i64 0, .int .i64 0, .int .i64 0, .int .i64 0, .int .i64 0, .int .u64 0, .int .u16 0, .int .i64 0, .int .i64 0, .int .u64 0, .int .u64 0, .int .u64 0, .int .i64 0, .int .i64 0] := by
    have := Blk.fresh ((w.alloc (.cells #[.int .i64 xr, .int .i64 xo, .int .i64 xs, V1, .int .i64 xq, .int .i64 xt, V2, .bool xd, .int .u64 xf, .int .u64 xc, .bool xk, .bool xw, .int .i64 xv, .int .i64 xl, .int .i64 xm, .int .u64 xa, .int .u64 xp, .int .u64 xy, .int .i64 xz, .int .i64 xn] 27)).alloc (.cells #[.int .i64 1, .int .i64 u1, .int .i64 u2, .int .i64 u3, .int .i64 u4, .int .i64 u5, .int .u64 (cm : Int), .int .u16 ci, .int .i64 cr, .int .i64 cj, .int .u64 cs, .int .u64 cy, .int .u64 cf, .int .i64 cv, .int .i64 cl] 57)) 57 #[.int .i64 0, .int .i64 0, .int .i64 0, .int .i64 0, .int .i64 0, .int .i64 0, .int .u64 0, .int .u16 0, .int .i64 0, .int .i64 0, .int .u64 0, .int .u64 0, .int .u64 0, .int .i64 0, .int .i64 0]
    simpa using this
  have H1 : (#[.int .i64 1, .int .i64 u1, .int .i64 u2, .int .i64 u3, .int .i64 u4, .int .i64 u5, .int .u64 (cm : Int), .int .u16 0, .int .i64 cr, .int .i64 cj, .int .u64 cs, .int .u64 cy, .int .u64 cf, .int .i64 cv, .int .i64 cl] : Array Value).all (·.oneCell') = true := by rw [← Array.all_toList]; rfl
  go_enter Try.func24, Try.ntmps24
  go_upto_region 1 with (fail)
  generalize ((w.alloc (.cells #[.int .i64 xr, .int .i64 xo, .int .i64 xs, V1, .int .i64 xq, .int .i64 xt, V2, .bool xd, .int .u64 xf, .int .u64 xc, .bool xk, .bool xw, .int .i64 xv, .int .i64 xl, .int .i64 xm, .int .u64 xa, .int .u64 xp, .int .u64 xy, .int .i64 xz, .int .i64 xn] 27)).alloc (.cells #[.int .i64 1, .int .i64 u1, .int .i64 u2, .int .i64 u3, .int .i64 u4, .int .i64 u5, .int .u64 (cm : Int), .int .u16 ci, .int .i64 cr, .int .i64 cj, .int .u64 cs, .int .u64 cy, .int .u64 cf, .int .i64 cv, .int .i64 cl] 57)).alloc (.cells #[.int .i64 0, .int .i64 0, .int .i64 0, .int .i64 0, .int .i64 0, .int .i64 0, .int .u64 0, .int .u16 0, .int .i64 0, .int .i64 0, .int .u64 0, .int .u64 0, .int .u64 0, .int .i64 0, .int .i64 0] 57) = W0 at *
  have k0 := K2.cell 0
  go_upto_region 9 with (refine wpList_set rfl _ _ _ rfl (w.heap.size + 1) 7 (.int .u16 0) rfl rfl 57 _ K2 (by show 7 < 15; decide) (by kernel_rfl) rfl #[.int .i64 1, .int .i64 u1, .int .i64 u2, .int .i64 u3, .int .i64 u4, .int .i64 u5, .int .u64 (cm : Int), .int .u16 0, .int .i64 cr, .int .i64 cj, .int .u64 cs, .int .u64 cy, .int .u64 cf, .int .i64 cv, .int .i64 cl] rfl ?_; intro X9 K9 G9; replace K2 := K9; replace K3 := G9.blk K3 (by omega); replace BX := BX.trans (G9.below (Nat.le_succ _) BX.size); clear K9 G9)
  go_wp2_with (first | (refine wpList_load_row_w rfl 57 (.tmp 3) rfl (w.heap.size + 1) rfl 57 _ (0, 0) _ K2 Try.underlying57 rfl (by kernel_rfl) ?_) | (refine wpList_setR rfl 57 (.tmp 4) _ rfl (w.heap.size + 2) #[.int .i64 1, .int .i64 u1, .int .i64 u2, .int .i64 u3, .int .i64 u4, .int .i64 u5, .int .u64 (cm : Int), .int .u16 0, .int .i64 cr, .int .i64 cj, .int .u64 cs, .int .u64 cy, .int .u64 cf, .int .i64 cv, .int .i64 cl] rfl rfl 57 _ K3 (by kernel_rfl) rfl H1 ?_; intro Y KR GR))
  refine bodyPost_ret (v := .agg #[.int .i64 1, .int .i64 u1, .int .i64 u2, .int .i64 u3, .int .i64 u4, .int .i64 u5, .int .u64 (cm : Int), .int .u16 0, .int .i64 cr, .int .i64 cj, .int .u64 cs, .int .u64 cy, .int .u64 cf, .int .i64 cv, .int .i64 cl]) ?_ rfl ⟨rfl, BX.trans (GR.below (by omega) BX.size)⟩
  clear K2 K3 k0
  have HL := run_loadVar_row (P := Try.prog) Y (w.heap.size + 2) 57 57 #[.int .i64 1, .int .i64 u1, .int .i64 u2, .int .i64 u3, .int .i64 u4, .int .i64 u5, .int .u64 (cm : Int), .int .u16 0, .int .i64 cr, .int .i64 cj, .int .u64 cs, .int .u64 cy, .int .u64 cf, .int .i64 cv, .int .i64 cl] (0, 0) _ KR Try.underlying57 rfl (by kernel_rfl)
  generalize (#[.int .i64 1, .int .i64 u1, .int .i64 u2, .int .i64 u3, .int .i64 u4, .int .i64 u5, .int .u64 (cm : Int), .int .u16 0, .int .i64 cr, .int .i64 cj, .int .u64 cs, .int .u64 cy, .int .u64 cf, .int .i64 cv, .int .i64 cl] : Array Value) = CS at *
  simp [results, show (Try.f24).results = #[.cell 4 57] from rfl, asAddr, HL, Act.put]
theorem isreq20_any (w : World) : Calls Try.prog 36 #[.int .i64 20] w fun e w' => e = .returned (.bool true) ∧ w = w' := by
  have HP : Hid (∀ X, Calls Try.prog 58 #[.int .i64 20] X fun e w' => e = .returned (.int .i64 20) ∧ X = w') := Lib.hid fun X => by have := proc_any 20 X; rwa [show procZ 20 = 20 from by decide] at this
  go_enter Try.func36, Try.ntmps36
  go_wp2_with (go_at_call 58; refine (HP.out _).mono ?_; rintro e X9 ⟨rfl, rfl⟩)
  go_ret
  exact ⟨rfl, rfl⟩
theorem isreq3_any (w : World) : Calls Try.prog 36 #[.int .i64 3] w fun e w' => e = .returned (.bool true) ∧ w = w' := by
  have HP : Hid (∀ X, Calls Try.prog 58 #[.int .i64 3] X fun e w' => e = .returned (.int .i64 3) ∧ X = w') := Lib.hid fun X => by have := proc_any 3 X; rwa [show procZ 3 = 3 from by decide] at this
  go_enter Try.func36, Try.ntmps36
  go_wp2_with (go_at_call 58; refine (HP.out _).mono ?_; rintro e X9 ⟨rfl, rfl⟩)
  go_ret
  exact ⟨rfl, rfl⟩
theorem isreq1_any (w : World) : Calls Try.prog 36 #[.int .i64 1] w fun e w' => e = .returned (.bool true) ∧ w = w' := by
  have HP : Hid (∀ X, Calls Try.prog 58 #[.int .i64 1] X fun e w' => e = .returned (.int .i64 1) ∧ X = w') := Lib.hid fun X => by have := proc_any 1 X; rwa [show procZ 1 = 1 from by decide] at this
  go_enter Try.func36, Try.ntmps36
  go_wp2_with (go_at_call 58; refine (HP.out _).mono ?_; rintro e X9 ⟨rfl, rfl⟩)
  go_ret
  exact ⟨rfl, rfl⟩
theorem index_nil (V : Value) (w : World) : Calls Try.prog 99 #[.slice none 0 0, V] w fun e w' => e = .returned (.int .i64 (-1)) ∧ w = w' := by
  go_enter Try.func99, Try.ntmps99
  go_wp2_with fail
  go_loopw [5, 8] (fun s5 s8 wr => s8 = .int .i64 0 ∧ wr = w) (fun _ _ _ => 0)
  case atStart => exact ⟨rfl, rfl⟩
  case round =>
    obtain ⟨rfl, rfl⟩ := hrel
    go_wp2_with fail
    go_ret
    exact ⟨rfl, rfl⟩
theorem cont_nil (V : Value) (w : World) : Calls Try.prog 80 #[.slice none 0 0, V] w fun e w' => e = .returned (.bool false) ∧ w = w' := by
  go_enter Try.func80, Try.ntmps80
  go_wp2_with (go_at_call 99; refine (index_nil _ _).mono ?_; rintro e X9 ⟨rfl, rfl⟩)
  go_ret
  exact ⟨rfl, rfl⟩
set_option maxRecDepth 100000 in
set_option maxHeartbeats 8000000 in
theorem waits_nil (x : Pr) (k : Int) (w : World) (h1 : x.V1 = nilV) : Calls Try.prog 59 #[.agg (prC x), .int .i64 k] w fun e w' => e = .returned (.bool false) ∧ Below w.heap.size w w' := by
  obtain ⟨xr, xo, xs, V1, xq, xt, V2, xd, xf, xc, xk, xw, xv, xl, xm, xa, xp, xy, xz, xn⟩ := x
  simp only [nilV] at h1
  subst h1
  dsimp only [prC] at *
  have BX : Below w.heap.size w ((w.alloc (.cells #[.int .i64 xr, .int .i64 xo, .int .i64 xs, .slice none 0 0, .int .i64 xq, .int .i64 xt, V2, .bool xd, .int .u64 xf, .int .u64 xc, .bool xk, .bool xw, .int .i64 xv, .int .i64 xl, .int .i64 xm, .int .u64 xa, .int .u64 xp, .int .u64 xy, .int .i64 xz, .int .i64 xn] 27)).alloc (.cells #[.int .i64 k] 3)) := ((Below.refl _ _).alloc (Nat.le_refl _) _).alloc (by simp) _
  have K1 : Blk ((w.alloc (.cells #[.int .i64 xr, .int .i64 xo, .int .i64 xs, .slice none 0 0, .int .i64 xq, .int .i64 xt, V2, .bool xd, .int .u64 xf, .int .u64 xc, .bool xk, .bool xw, .int .i64 xv, .int .i64 xl, .int .i64 xm, .int .u64 xa, .int .u64 xp, .int .u64 xy, .int .i64 xz, .int .i64 xn] 27)).alloc (.cells #[.int .i64 k] 3)) w.heap.size 27 #[.int .i64 xr, .int .i64 xo, .int .i64 xs, .slice none 0 0, .int .i64 xq, .int .i64 xt, V2, .bool xd, .int .u64 xf, .int .u64 xc, .bool xk, .bool xw, .int .i64 xv, .int .i64 xl, .int .i64 xm, .int .u64 xa, .int .u64 xp, .int .u64 xy, .int .i64 xz, .int .i64 xn] := (Blk.fresh _ _ _).alloc _
  have k3 := K1.cell 3
  go_enter Try.func59, Try.ntmps59
  go_upto_region 1 with (fail)
  generalize (w.alloc (.cells #[.int .i64 xr, .int .i64 xo, .int .i64 xs, .slice none 0 0, .int .i64 xq, .int .i64 xt, V2, .bool xd, .int .u64 xf, .int .u64 xc, .bool xk, .bool xw, .int .i64 xv, .int .i64 xl, .int .i64 xm, .int .u64 xa, .int .u64 xp, .int .u64 xy, .int .i64 xz, .int .i64 xn] 27)).alloc (.cells #[.int .i64 k] 3) = W0 at *
  go_wp2_with (go_at_call 80; refine (cont_nil _ _).mono ?_; rintro e X9 ⟨rfl, rfl⟩)
  go_ret
  exact ⟨rfl, BX⟩
set_option maxRecDepth 100000 in
set_option maxHeartbeats 8000000 in
theorem mayreq20_any (x : Pr) (w : World)  : Calls Try.prog 37 #[.agg (prC x), .int .i64 20] w fun e w' => e = .returned (.bool true) ∧ Below w.heap.size w w' := by
  obtain ⟨xr, xo, xs, V1, xq, xt, V2, xd, xf, xc, xk, xw, xv, xl, xm, xa, xp, xy, xz, xn⟩ := x
  try simp only [nilV] at *
  dsimp only [prC] at *
  have BX : Below w.heap.size w (w.alloc (.cells #[.int .i64 xr, .int .i64 xo, .int .i64 xs, V1, .int .i64 xq, .int .i64 xt, V2, .bool xd, .int .u64 xf, .int .u64 xc, .bool xk, .bool xw, .int .i64 xv, .int .i64 xl, .int .i64 xm, .int .u64 xa, .int .u64 xp, .int .u64 xy, .int .i64 xz, .int .i64 xn] 27)) := (Below.refl _ _).alloc (Nat.le_refl _) _
  have K1 : Blk (w.alloc (.cells #[.int .i64 xr, .int .i64 xo, .int .i64 xs, V1, .int .i64 xq, .int .i64 xt, V2, .bool xd, .int .u64 xf, .int .u64 xc, .bool xk, .bool xw, .int .i64 xv, .int .i64 xl, .int .i64 xm, .int .u64 xa, .int .u64 xp, .int .u64 xy, .int .i64 xz, .int .i64 xn] 27)) w.heap.size 27 #[.int .i64 xr, .int .i64 xo, .int .i64 xs, V1, .int .i64 xq, .int .i64 xt, V2, .bool xd, .int .u64 xf, .int .u64 xc, .bool xk, .bool xw, .int .i64 xv, .int .i64 xl, .int .i64 xm, .int .u64 xa, .int .u64 xp, .int .u64 xy, .int .i64 xz, .int .i64 xn] := Blk.fresh _ _ _
  have k0 := K1.cell 0
  have k18 := K1.cell 18
  go_enter Try.func37, Try.ntmps37
  go_upto_region 1 with (fail)
  generalize w.alloc (.cells #[.int .i64 xr, .int .i64 xo, .int .i64 xs, V1, .int .i64 xq, .int .i64 xt, V2, .bool xd, .int .u64 xf, .int .u64 xc, .bool xk, .bool xw, .int .i64 xv, .int .i64 xl, .int .i64 xm, .int .u64 xa, .int .u64 xp, .int .u64 xy, .int .i64 xz, .int .i64 xn] 27) = W0 at *
  go_wp2_with fail
  go_ret
  exact ⟨rfl, BX⟩
set_option maxRecDepth 100000 in
set_option maxHeartbeats 8000000 in
theorem mayreq1_any (x : Pr) (w : World) (hr : x.r = 1) : Calls Try.prog 37 #[.agg (prC x), .int .i64 1] w fun e w' => e = .returned (.bool false) ∧ Below w.heap.size w w' := by
  obtain ⟨xr, xo, xs, V1, xq, xt, V2, xd, xf, xc, xk, xw, xv, xl, xm, xa, xp, xy, xz, xn⟩ := x
  try simp only [nilV] at *
  subst hr
  dsimp only [prC] at *
  have BX : Below w.heap.size w (w.alloc (.cells #[.int .i64 1, .int .i64 xo, .int .i64 xs, V1, .int .i64 xq, .int .i64 xt, V2, .bool xd, .int .u64 xf, .int .u64 xc, .bool xk, .bool xw, .int .i64 xv, .int .i64 xl, .int .i64 xm, .int .u64 xa, .int .u64 xp, .int .u64 xy, .int .i64 xz, .int .i64 xn] 27)) := (Below.refl _ _).alloc (Nat.le_refl _) _
  have K1 : Blk (w.alloc (.cells #[.int .i64 1, .int .i64 xo, .int .i64 xs, V1, .int .i64 xq, .int .i64 xt, V2, .bool xd, .int .u64 xf, .int .u64 xc, .bool xk, .bool xw, .int .i64 xv, .int .i64 xl, .int .i64 xm, .int .u64 xa, .int .u64 xp, .int .u64 xy, .int .i64 xz, .int .i64 xn] 27)) w.heap.size 27 #[.int .i64 1, .int .i64 xo, .int .i64 xs, V1, .int .i64 xq, .int .i64 xt, V2, .bool xd, .int .u64 xf, .int .u64 xc, .bool xk, .bool xw, .int .i64 xv, .int .i64 xl, .int .i64 xm, .int .u64 xa, .int .u64 xp, .int .u64 xy, .int .i64 xz, .int .i64 xn] := Blk.fresh _ _ _
  have k0 := K1.cell 0
  have k18 := K1.cell 18
  go_enter Try.func37, Try.ntmps37
  go_upto_region 1 with (fail)
  generalize w.alloc (.cells #[.int .i64 1, .int .i64 xo, .int .i64 xs, V1, .int .i64 xq, .int .i64 xt, V2, .bool xd, .int .u64 xf, .int .u64 xc, .bool xk, .bool xw, .int .i64 xv, .int .i64 xl, .int .i64 xm, .int .u64 xa, .int .u64 xp, .int .u64 xy, .int .i64 xz, .int .i64 xn] 27) = W0 at *
  go_wp2_with fail
  go_ret
  exact ⟨rfl, BX⟩
set_option maxRecDepth 100000 in
set_option maxHeartbeats 8000000 in
theorem mayreq3_any (x : Pr) (w : World) (hr : x.r = 0) (hc : x.cr = 0) (h1 : x.V1 = nilV) : Calls Try.prog 37 #[.agg (prC x), .int .i64 3] w fun e w' => e = .returned (.bool true) ∧ Below w.heap.size w w' := by
  have HW : Hid (∀ X, Calls Try.prog 59 #[.agg (prC x), .int .i64 3] X fun e w' => e = .returned (.bool false) ∧ Below X.heap.size X w') := Lib.hid fun X => waits_nil x 3 X h1
  obtain ⟨xr, xo, xs, V1, xq, xt, V2, xd, xf, xc, xk, xw, xv, xl, xm, xa, xp, xy, xz, xn⟩ := x
  try simp only [nilV] at *
  subst hr; subst hc; subst h1
  dsimp only [prC] at *
  have BX : Below w.heap.size w (w.alloc (.cells #[.int .i64 0, .int .i64 xo, .int .i64 xs, .slice none 0 0, .int .i64 xq, .int .i64 xt, V2, .bool xd, .int .u64 xf, .int .u64 xc, .bool xk, .bool xw, .int .i64 xv, .int .i64 xl, .int .i64 xm, .int .u64 xa, .int .u64 xp, .int .u64 xy, .int .i64 0, .int .i64 xn] 27)) := (Below.refl _ _).alloc (Nat.le_refl _) _
  have K1 : Blk (w.alloc (.cells #[.int .i64 0, .int .i64 xo, .int .i64 xs, .slice none 0 0, .int .i64 xq, .int .i64 xt, V2, .bool xd, .int .u64 xf, .int .u64 xc, .bool xk, .bool xw, .int .i64 xv, .int .i64 xl, .int .i64 xm, .int .u64 xa, .int .u64 xp, .int .u64 xy, .int .i64 0, .int .i64 xn] 27)) w.heap.size 27 #[.int .i64 0, .int .i64 xo, .int .i64 xs, .slice none 0 0, .int .i64 xq, .int .i64 xt, V2, .bool xd, .int .u64 xf, .int .u64 xc, .bool xk, .bool xw, .int .i64 xv, .int .i64 xl, .int .i64 xm, .int .u64 xa, .int .u64 xp, .int .u64 xy, .int .i64 0, .int .i64 xn] := Blk.fresh _ _ _
  have k0 := K1.cell 0
  have k18 := K1.cell 18
  go_enter Try.func37, Try.ntmps37
  go_upto_region 1 with (fail)
  generalize w.alloc (.cells #[.int .i64 0, .int .i64 xo, .int .i64 xs, .slice none 0 0, .int .i64 xq, .int .i64 xt, V2, .bool xd, .int .u64 xf, .int .u64 xc, .bool xk, .bool xw, .int .i64 xv, .int .i64 xl, .int .i64 xm, .int .u64 xa, .int .u64 xp, .int .u64 xy, .int .i64 0, .int .i64 xn] 27) = W0 at *
  go_wp2_with (first | (refine wpList_load_row_w rfl 27 (.tmp 2) rfl w.heap.size rfl 27 _ (0, 0) _ K1 Try.underlying27 rfl (by kernel_rfl) ?_) | (go_at_call 59; refine (HW.out _).mono ?_; rintro e X9 ⟨rfl, b9⟩; replace BX := thenB BX b9))
  go_ret
  exact ⟨rfl, BX⟩
set_option maxRecDepth 100000 in
set_option maxHeartbeats 8000000 in
theorem refus20_any (x : Pr) (c : Ct) (w : World) (hk : c.k = 20) (hgc : GoodC c) (hck : chkC c = 0) (he : x.en = 0) (ho : x.o = -1)  : Calls Try.prog 25 #[.agg (prC x), .agg (encC c)] w fun e w' => e = .returned (.int .i64 0) ∧ Below w.heap.size w w' := by
  have HCk : Hid (∀ X, Calls Try.prog 28 #[.agg (encC c)] X fun e w' => e = .returned (.int .i64 0) ∧ Below X.heap.size X w') := Lib.hid fun X => by have := check_any c X hgc; rwa [hck] at this
  have HM : Hid (∀ X, Calls Try.prog 37 #[.agg (prC x), .int .i64 20] X fun e w' => e = .returned (.bool true) ∧ Below X.heap.size X w') := Lib.hid fun X => mayreq20_any x X 
  clear hgc hck
  obtain ⟨xr, xo, xs, V1, xq, xt, V2, xd, xf, xc, xk, xw, xv, xl, xm, xa, xp, xy, xz, xn⟩ := x
  obtain ⟨ck, u1, u2, u3, u4, u5, cm, ci, cr, cj, cs, cy, cf, cv, cl⟩ := c
  try simp only [nilV] at *
  subst hk; subst he; subst ho
  dsimp only [prC, encC] at *
  have BX : Below w.heap.size w ((w.alloc (.cells #[.int .i64 xr, .int .i64 (-1), .int .i64 xs, V1, .int .i64 xq, .int .i64 xt, V2, .bool xd, .int .u64 xf, .int .u64 xc, .bool xk, .bool xw, .int .i64 xv, .int .i64 xl, .int .i64 xm, .int .u64 xa, .int .u64 xp, .int .u64 xy, .int .i64 xz, .int .i64 0] 27)).alloc (.cells #[.int .i64 20, .int .i64 u1, .int .i64 u2, .int .i64 u3, .int .i64 u4, .int .i64 u5, .int .u64 (cm : Int), .int .u16 ci, .int .i64 cr, .int .i64 cj, .int .u64 cs, .int .u64 cy, .int .u64 cf, .int .i64 cv, .int .i64 cl] 57)) := ((Below.refl _ _).alloc (Nat.le_refl _) _).alloc (by simp) _
  have K1 : Blk ((w.alloc (.cells #[.int .i64 xr, .int .i64 (-1), .int .i64 xs, V1, .int .i64 xq, .int .i64 xt, V2, .bool xd, .int .u64 xf, .int .u64 xc, .bool xk, .bool xw, .int .i64 xv, .int .i64 xl, .int .i64 xm, .int .u64 xa, .int .u64 xp, .int .u64 xy, .int .i64 xz, .int .i64 0] 27)).alloc (.cells #[.int .i64 20, .int .i64 u1, .int .i64 u2, .int .i64 u3, .int .i64 u4, .int .i64 u5, .int .u64 (cm : Int), .int .u16 ci, .int .i64 cr, .int .i64 cj, .int .u64 cs, .int .u64 cy, .int .u64 cf, .int .i64 cv, .int .i64 cl] 57)) w.heap.size 27 #[.int .i64 xr, .int .i64 (-1), .int .i64 xs, V1, .int .i64 xq, .int .i64 xt, V2, .bool xd, .int .u64 xf, .int .u64 xc, .bool xk, .bool xw, .int .i64 xv, .int .i64 xl, .int .i64 xm, .int .u64 xa, .int .u64 xp, .int .u64 xy, .int .i64 xz, .int .i64 0] := (Blk.fresh _ _ _).alloc _
  have K2 : Blk ((w.alloc (.cells #[.int .i64 xr, .int .i64 (-1), .int .i64 xs, V1, .int .i64 xq, .int .i64 xt, V2, .bool xd, .int .u64 xf, .int .u64 xc, .bool xk, .bool xw, .int .i64 xv, .int .i64 xl, .int .i64 xm, .int .u64 xa, .int .u64 xp, .int .u64 xy, .int .i64 xz, .int .i64 0] 27)).alloc (.cells #[.int .i64 20, .int .i64 u1, .int .i64 u2, .int .i64 u3, .int .i64 u4, .int .i64 u5, .int .u64 (cm : Int), .int .u16 ci, .int .i64 cr, .int .i64 cj, .int .u64 cs, .int .u64 cy, .int .u64 cf, .int .i64 cv, .int .i64 cl] 57)) (w.heap.size + 1) 57 #[.int .i64 20, .int .i64 u1, .int .i64 u2, .int .i64 u3, .int .i64 u4, .int .i64 u5, .int .u64 (cm : Int), .int .u16 ci, .int .i64 cr, .int .i64 cj, .int .u64 cs, .int .u64 cy, .int .u64 cf, .int .i64 cv, .int .i64 cl] := Av.Blk.next
  have k0 := K2.cell 0
  go_enter Try.func25, Try.ntmps25
  go_upto_region 1 with (fail)
  generalize (w.alloc (.cells #[.int .i64 xr, .int .i64 (-1), .int .i64 xs, V1, .int .i64 xq, .int .i64 xt, V2, .bool xd, .int .u64 xf, .int .u64 xc, .bool xk, .bool xw, .int .i64 xv, .int .i64 xl, .int .i64 xm, .int .u64 xa, .int .u64 xp, .int .u64 xy, .int .i64 xz, .int .i64 0] 27)).alloc (.cells #[.int .i64 20, .int .i64 u1, .int .i64 u2, .int .i64 u3, .int .i64 u4, .int .i64 u5, .int .u64 (cm : Int), .int .u16 ci, .int .i64 cr, .int .i64 cj, .int .u64 cs, .int .u64 cy, .int .u64 cf, .int .i64 cv, .int .i64 cl] 57) = W0 at *
  go_upto_region 6 with (first | (go_at_call 36; refine (isreq20_any _).mono ?_; rintro e X9 ⟨rfl, rfl⟩) | (go_at_call 28; refine (HCk.out W0).mono ?_; rintro e W1 ⟨rfl, b9⟩; replace K1 := K1.below b9 K1.lt; replace K2 := K2.below b9 K2.lt; replace BX := thenB BX b9; clear b9 k0) | (refine wpList_load_row_w rfl 57 (.tmp 3) rfl (w.heap.size + 1) rfl 57 _ (0, 0) _ K2 Try.underlying57 rfl (by kernel_rfl) ?_))
  have k0 := K2.cell 0
  have k19 := K1.cell 19
  have k1 := K1.cell 1
  go_wp2_with (first | (refine wpList_load_row_w rfl 27 (.tmp 2) rfl w.heap.size rfl 27 _ (0, 0) _ K1 Try.underlying27 rfl (by kernel_rfl) ?_) | (go_at_call 37; refine (HM.out _).mono ?_; rintro e X9 ⟨rfl, b9⟩; replace BX := thenB BX b9))
  go_ret
  exact ⟨rfl, BX⟩
set_option maxRecDepth 100000 in
set_option maxHeartbeats 8000000 in
theorem refus1_any (x : Pr) (c : Ct) (w : World) (hk : c.k = 1) (hgc : GoodC c) (hck : chkC c = 0) (he : x.en = 0) (ho : x.o = -1) (hr : x.r = 1) : Calls Try.prog 25 #[.agg (prC x), .agg (encC c)] w fun e w' => e = .returned (.int .i64 9) ∧ Below w.heap.size w w' := by
  have HCk : Hid (∀ X, Calls Try.prog 28 #[.agg (encC c)] X fun e w' => e = .returned (.int .i64 0) ∧ Below X.heap.size X w') := Lib.hid fun X => by have := check_any c X hgc; rwa [hck] at this
  have HM : Hid (∀ X, Calls Try.prog 37 #[.agg (prC x), .int .i64 1] X fun e w' => e = .returned (.bool false) ∧ Below X.heap.size X w') := Lib.hid fun X => mayreq1_any x X hr
  clear hgc hck
  obtain ⟨xr, xo, xs, V1, xq, xt, V2, xd, xf, xc, xk, xw, xv, xl, xm, xa, xp, xy, xz, xn⟩ := x
  obtain ⟨ck, u1, u2, u3, u4, u5, cm, ci, cr, cj, cs, cy, cf, cv, cl⟩ := c
  try simp only [nilV] at *
  subst hk; subst he; subst ho
  subst hr
  dsimp only [prC, encC] at *
  have BX : Below w.heap.size w ((w.alloc (.cells #[.int .i64 1, .int .i64 (-1), .int .i64 xs, V1, .int .i64 xq, .int .i64 xt, V2, .bool xd, .int .u64 xf, .int .u64 xc, .bool xk, .bool xw, .int .i64 xv, .int .i64 xl, .int .i64 xm, .int .u64 xa, .int .u64 xp, .int .u64 xy, .int .i64 xz, .int .i64 0] 27)).alloc (.cells #[.int .i64 1, .int .i64 u1, .int .i64 u2, .int .i64 u3, .int .i64 u4, .int .i64 u5, .int .u64 (cm : Int), .int .u16 ci, .int .i64 cr, .int .i64 cj, .int .u64 cs, .int .u64 cy, .int .u64 cf, .int .i64 cv, .int .i64 cl] 57)) := ((Below.refl _ _).alloc (Nat.le_refl _) _).alloc (by simp) _
  have K1 : Blk ((w.alloc (.cells #[.int .i64 1, .int .i64 (-1), .int .i64 xs, V1, .int .i64 xq, .int .i64 xt, V2, .bool xd, .int .u64 xf, .int .u64 xc, .bool xk, .bool xw, .int .i64 xv, .int .i64 xl, .int .i64 xm, .int .u64 xa, .int .u64 xp, .int .u64 xy, .int .i64 xz, .int .i64 0] 27)).alloc (.cells #[.int .i64 1, .int .i64 u1, .int .i64 u2, .int .i64 u3, .int .i64 u4, .int .i64 u5, .int .u64 (cm : Int), .int .u16 ci, .int .i64 cr, .int .i64 cj, .int .u64 cs, .int .u64 cy, .int .u64 cf, .int .i64 cv, .int .i64 cl] 57)) w.heap.size 27 #[.int .i64 1, .int .i64 (-1), .int .i64 xs, V1, .int .i64 xq, .int .i64 xt, V2, .bool xd, .int .u64 xf, .int .u64 xc, .bool xk, .bool xw, .int .i64 xv, .int .i64 xl, .int .i64 xm, .int .u64 xa, .int .u64 xp, .int .u64 xy, .int .i64 xz, .int .i64 0] := (Blk.fresh _ _ _).alloc _
  have K2 : Blk ((w.alloc (.cells #[.int .i64 1, .int .i64 (-1), .int .i64 xs, V1, .int .i64 xq, .int .i64 xt, V2, .bool xd, .int .u64 xf, .int .u64 xc, .bool xk, .bool xw, .int .i64 xv, .int .i64 xl, .int .i64 xm, .int .u64 xa, .int .u64 xp, .int .u64 xy, .int .i64 xz, .int .i64 0] 27)).alloc (.cells #[.int .i64 1, .int .i64 u1, .int .i64 u2, .int .i64 u3, .int .i64 u4, .int .i64 u5, .int .u64 (cm : Int), .int .u16 ci, .int .i64 cr, .int .i64 cj, .int .u64 cs, .int .u64 cy, .int .u64 cf, .int .i64 cv, .int .i64 cl] 57)) (w.heap.size + 1) 57 #[.int .i64 1, .int .i64 u1, .int .i64 u2, .int .i64 u3, .int .i64 u4, .int .i64 u5, .int .u64 (cm : Int), .int .u16 ci, .int .i64 cr, .int .i64 cj, .int .u64 cs, .int .u64 cy, .int .u64 cf, .int .i64 cv, .int .i64 cl] := Av.Blk.next
  have k0 := K2.cell 0
  go_enter Try.func25, Try.ntmps25
  go_upto_region 1 with (fail)
  generalize (w.alloc (.cells #[.int .i64 1, .int .i64 (-1), .int .i64 xs, V1, .int .i64 xq, .int .i64 xt, V2, .bool xd, .int .u64 xf, .int .u64 xc, .bool xk, .bool xw, .int .i64 xv, .int .i64 xl, .int .i64 xm, .int .u64 xa, .int .u64 xp, .int .u64 xy, .int .i64 xz, .int .i64 0] 27)).alloc (.cells #[.int .i64 1, .int .i64 u1, .int .i64 u2, .int .i64 u3, .int .i64 u4, .int .i64 u5, .int .u64 (cm : Int), .int .u16 ci, .int .i64 cr, .int .i64 cj, .int .u64 cs, .int .u64 cy, .int .u64 cf, .int .i64 cv, .int .i64 cl] 57) = W0 at *
  go_upto_region 6 with (first | (go_at_call 36; refine (isreq1_any _).mono ?_; rintro e X9 ⟨rfl, rfl⟩) | (go_at_call 28; refine (HCk.out W0).mono ?_; rintro e W1 ⟨rfl, b9⟩; replace K1 := K1.below b9 K1.lt; replace K2 := K2.below b9 K2.lt; replace BX := thenB BX b9; clear b9 k0) | (refine wpList_load_row_w rfl 57 (.tmp 3) rfl (w.heap.size + 1) rfl 57 _ (0, 0) _ K2 Try.underlying57 rfl (by kernel_rfl) ?_))
  have k0 := K2.cell 0
  have k19 := K1.cell 19
  have k1 := K1.cell 1
  go_wp2_with (first | (refine wpList_load_row_w rfl 27 (.tmp 2) rfl w.heap.size rfl 27 _ (0, 0) _ K1 Try.underlying27 rfl (by kernel_rfl) ?_) | (go_at_call 37; refine (HM.out _).mono ?_; rintro e X9 ⟨rfl, b9⟩; replace BX := thenB BX b9))
  go_ret
  exact ⟨rfl, BX⟩
set_option maxRecDepth 100000 in
set_option maxHeartbeats 8000000 in
theorem refus3_any (x : Pr) (c : Ct) (w : World) (hk : c.k = 3) (hgc : GoodC c) (hck : chkC c = 0) (he : x.en = 0) (ho : x.o = -1) (hr : x.r = 0) (hc : x.cr = 0) (h1 : x.V1 = nilV) : Calls Try.prog 25 #[.agg (prC x), .agg (encC c)] w fun e w' => e = .returned (.int .i64 0) ∧ Below w.heap.size w w' := by
  have HCk : Hid (∀ X, Calls Try.prog 28 #[.agg (encC c)] X fun e w' => e = .returned (.int .i64 0) ∧ Below X.heap.size X w') := Lib.hid fun X => by have := check_any c X hgc; rwa [hck] at this
  have HM : Hid (∀ X, Calls Try.prog 37 #[.agg (prC x), .int .i64 3] X fun e w' => e = .returned (.bool true) ∧ Below X.heap.size X w') := Lib.hid fun X => mayreq3_any x X hr hc h1
  clear hgc hck
  obtain ⟨xr, xo, xs, V1, xq, xt, V2, xd, xf, xc, xk, xw, xv, xl, xm, xa, xp, xy, xz, xn⟩ := x
  obtain ⟨ck, u1, u2, u3, u4, u5, cm, ci, cr, cj, cs, cy, cf, cv, cl⟩ := c
  try simp only [nilV] at *
  subst hk; subst he; subst ho
  subst hr; subst hc; subst h1
  dsimp only [prC, encC] at *
  have BX : Below w.heap.size w ((w.alloc (.cells #[.int .i64 0, .int .i64 (-1), .int .i64 xs, .slice none 0 0, .int .i64 xq, .int .i64 xt, V2, .bool xd, .int .u64 xf, .int .u64 xc, .bool xk, .bool xw, .int .i64 xv, .int .i64 xl, .int .i64 xm, .int .u64 xa, .int .u64 xp, .int .u64 xy, .int .i64 0, .int .i64 0] 27)).alloc (.cells #[.int .i64 3, .int .i64 u1, .int .i64 u2, .int .i64 u3, .int .i64 u4, .int .i64 u5, .int .u64 (cm : Int), .int .u16 ci, .int .i64 cr, .int .i64 cj, .int .u64 cs, .int .u64 cy, .int .u64 cf, .int .i64 cv, .int .i64 cl] 57)) := ((Below.refl _ _).alloc (Nat.le_refl _) _).alloc (by simp) _
  have K1 : Blk ((w.alloc (.cells #[.int .i64 0, .int .i64 (-1), .int .i64 xs, .slice none 0 0, .int .i64 xq, .int .i64 xt, V2, .bool xd, .int .u64 xf, .int .u64 xc, .bool xk, .bool xw, .int .i64 xv, .int .i64 xl, .int .i64 xm, .int .u64 xa, .int .u64 xp, .int .u64 xy, .int .i64 0, .int .i64 0] 27)).alloc (.cells #[.int .i64 3, .int .i64 u1, .int .i64 u2, .int .i64 u3, .int .i64 u4, .int .i64 u5, .int .u64 (cm : Int), .int .u16 ci, .int .i64 cr, .int .i64 cj, .int .u64 cs, .int .u64 cy, .int .u64 cf, .int .i64 cv, .int .i64 cl] 57)) w.heap.size 27 #[.int .i64 0, .int .i64 (-1), .int .i64 xs, .slice none 0 0, .int .i64 xq, .int .i64 xt, V2, .bool xd, .int .u64 xf, .int .u64 xc, .bool xk, .bool xw, .int .i64 xv, .int .i64 xl, .int .i64 xm, .int .u64 xa, .int .u64 xp, .int .u64 xy, .int .i64 0, .int .i64 0] := (Blk.fresh _ _ _).alloc _
  have K2 : Blk ((w.alloc (.cells #[.int .i64 0, .int .i64 (-1), .int .i64 xs, .slice none 0 0, .int .i64 xq, .int .i64 xt, V2, .bool xd, .int .u64 xf, .int .u64 xc, .bool xk, .bool xw, .int .i64 xv, .int .i64 xl, .int .i64 xm, .int .u64 xa, .int .u64 xp, .int .u64 xy, .int .i64 0, .int .i64 0] 27)).alloc (.cells #[.int .i64 3, .int .i64 u1, .int .i64 u2, .int .i64 u3, .int .i64 u4, .int .i64 u5, .int .u64 (cm : Int), .int .u16 ci, .int .i64 cr, .int .i64 cj, .int .u64 cs, .int .u64 cy, .int .u64 cf, .int .i64 cv, .int .i64 cl] 57)) (w.heap.size + 1) 57 #[.int .i64 3, .int .i64 u1, .int .i64 u2, .int .i64 u3, .int .i64 u4, .int .i64 u5, .int .u64 (cm : Int), .int .u16 ci, .int .i64 cr, .int .i64 cj, .int .u64 cs, .int .u64 cy, .int .u64 cf, .int .i64 cv, .int .i64 cl] := Av.Blk.next
  have k0 := K2.cell 0
  go_enter Try.func25, Try.ntmps25
  go_upto_region 1 with (fail)
  generalize (w.alloc (.cells #[.int .i64 0, .int .i64 (-1), .int .i64 xs, .slice none 0 0, .int .i64 xq, .int .i64 xt, V2, .bool xd, .int .u64 xf, .int .u64 xc, .bool xk, .bool xw, .int .i64 xv, .int .i64 xl, .int .i64 xm, .int .u64 xa, .int .u64 xp, .int .u64 xy, .int .i64 0, .int .i64 0] 27)).alloc (.cells #[.int .i64 3, .int .i64 u1, .int .i64 u2, .int .i64 u3, .int .i64 u4, .int .i64 u5, .int .u64 (cm : Int), .int .u16 ci, .int .i64 cr, .int .i64 cj, .int .u64 cs, .int .u64 cy, .int .u64 cf, .int .i64 cv, .int .i64 cl] 57) = W0 at *
  go_upto_region 6 with (first | (go_at_call 36; refine (isreq3_any _).mono ?_; rintro e X9 ⟨rfl, rfl⟩) | (go_at_call 28; refine (HCk.out W0).mono ?_; rintro e W1 ⟨rfl, b9⟩; replace K1 := K1.below b9 K1.lt; replace K2 := K2.below b9 K2.lt; replace BX := thenB BX b9; clear b9 k0) | (refine wpList_load_row_w rfl 57 (.tmp 3) rfl (w.heap.size + 1) rfl 57 _ (0, 0) _ K2 Try.underlying57 rfl (by kernel_rfl) ?_))
  have k0 := K2.cell 0
  have k19 := K1.cell 19
  have k1 := K1.cell 1
  go_wp2_with (first | (refine wpList_load_row_w rfl 27 (.tmp 2) rfl w.heap.size rfl 27 _ (0, 0) _ K1 Try.underlying27 rfl (by kernel_rfl) ?_) | (go_at_call 37; refine (HM.out _).mono ?_; rintro e X9 ⟨rfl, b9⟩; replace BX := thenB BX b9))
  go_ret
  exact ⟨rfl, BX⟩
end Go.Proofs.Ytpoagepchlfemaa.Pc
