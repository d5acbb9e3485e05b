/- Control procedures: more handlers: contracts over the program. -/
import Derived.Test.YtpoagepchlfemaaPcW3
set_option linter.unusedVariables false
set_option linter.unusedSimpArgs false
namespace Go.Proofs.Ytpoagepchlfemaa.Pc
open Go.RowKit Mem Rw Cp
open Base (thenB)
open Av (Row)

set_option maxRecDepth 100000 in
set_option maxHeartbeats 8000000 in
theorem enca_any (g : Nat) (x : Pr) (ev now : Int) (c : Ct) (w : World) (K1 : Blk w g 80 (sdC x ev now nilV nilV)) (hr : x.r = 0) (hc : x.cr = 1) : Calls Try.prog 46 #[.pointer (some ⟨g, 0, none⟩), .agg (encC c)] w fun e w' => e = .returned (.tuple #[]) ∧ Blk w' g 80 (sdC { x with pe := c.st, cr := 2 } ev now nilV nilV) ∧ Grw g w w' := by
  have HCe : Hid (∀ X, Blk X g 80 (sdC x ev now nilV nilV) → Calls Try.prog 74 #[.pointer (some ⟨g, 0, none⟩)] X fun e w' => e = .returned (.bool true) ∧ X = w') := Lib.hid fun X K => (cent_any g _ ev now _ _ X K).mono fun e w' ⟨h1, h2⟩ => ⟨by rw [h1]; simp [hr], h2⟩
  obtain ⟨xr, xo, xs, V1, xq, xt, V2, xd, xf, xc, xk, xw, xv, xl, xm, xa, xp, xy, xz, xn⟩ := x
  obtain ⟨ck, u1, u2, u3, u4, u5, cm, ci, cr, cj, cs, cy, cf, cv, cl⟩ := c
  dsimp only [sdC, nilV, encC, ctL, inC, onlyK, zeroC] at *
  subst hr
  subst hc
  have hg := K1.lt
  have hg2 : g ≠ w.heap.size := by omega
  replace K1 := K1.alloc (.cells #[.int .i64 ck, .int .i64 u1, .int .i64 u2, .int .i64 u3, .int .i64 u4, .int .i64 u5, .int .u64 (cm : Int), .int .u16 ci, .int .i64 cr, .int .i64 cj, .int .u64 cs, .int .u64 cy, .int .u64 cf, .int .i64 cv, .int .i64 cl] 57)
  have K2 : Blk (w.alloc (.cells #[.int .i64 ck, .int .i64 u1, .int .i64 u2, .int .i64 u3, .int .i64 u4, .int .i64 u5, .int .u64 (cm : Int), .int .u16 ci, .int .i64 cr, .int .i64 cj, .int .u64 cs, .int .u64 cy, .int .u64 cf, .int .i64 cv, .int .i64 cl] 57)) w.heap.size 57 #[.int .i64 ck, .int .i64 u1, .int .i64 u2, .int .i64 u3, .int .i64 u4, .int .i64 u5, .int .u64 (cm : Int), .int .u16 ci, .int .i64 cr, .int .i64 cj, .int .u64 cs, .int .u64 cy, .int .u64 cf, .int .i64 cv, .int .i64 cl] := Blk.fresh _ _ _
  have BX := (Grw.refl g w).alloc (.cells #[.int .i64 ck, .int .i64 u1, .int .i64 u2, .int .i64 u3, .int .i64 u4, .int .i64 u5, .int .u64 (cm : Int), .int .u16 ci, .int .i64 cr, .int .i64 cj, .int .u64 cs, .int .u64 cy, .int .u64 cf, .int .i64 cv, .int .i64 cl] 57)
  have k18 := K1.cell 18
  have k6 := K2.cell 10
  go_enter Try.func46, Try.ntmps46
  go_upto_region 1 with (fail)
  generalize w.alloc (.cells #[.int .i64 ck, .int .i64 u1, .int .i64 u2, .int .i64 u3, .int .i64 u4, .int .i64 u5, .int .u64 (cm : Int), .int .u16 ci, .int .i64 cr, .int .i64 cj, .int .u64 cs, .int .u64 cy, .int .u64 cf, .int .i64 cv, .int .i64 cl] 57) = W0 at *
  go_upto_region 2 with (go_at_call 74; refine (HCe.out _ K1).mono ?_; rintro e X9 ⟨rfl, rfl⟩)
  clear k18
  go_wp2_with (first | (refine wpList_set rfl _ _ _ rfl g 16 (.int .u64 cs) rfl rfl 80 _ K1 (by show 16 < 24; decide) (by kernel_rfl) rfl #[.int .i64 0, .int .i64 xo, .int .i64 xs, V1, .int .i64 xq, .int .i64 xt, V2, .bool xd, .int .u64 xf, .int .u64 xc, .bool xk, .bool xw, .int .i64 xv, .int .i64 xl, .int .i64 xm, .int .u64 xa, .int .u64 cs, .int .u64 xy, .int .i64 1, .int .i64 xn, .int .u16 ev, .int .i64 now, .slice none 0 0, .slice none 0 0] rfl ?_; intro X9 K9 G9; replace K1 := K9; replace K2 := G9.blk K2 (Ne.symm hg2); replace BX := BX.trans G9; clear K9 G9) | (refine wpList_set rfl _ _ _ rfl g 18 (.int .i64 2) rfl rfl 80 _ K1 (by show 18 < 24; decide) (by kernel_rfl) rfl #[.int .i64 0, .int .i64 xo, .int .i64 xs, V1, .int .i64 xq, .int .i64 xt, V2, .bool xd, .int .u64 xf, .int .u64 xc, .bool xk, .bool xw, .int .i64 xv, .int .i64 xl, .int .i64 xm, .int .u64 xa, .int .u64 cs, .int .u64 xy, .int .i64 2, .int .i64 xn, .int .u16 ev, .int .i64 now, .slice none 0 0, .slice none 0 0] rfl ?_; intro X9 K9 G9; replace K1 := K9; replace K2 := G9.blk K2 (Ne.symm hg2); replace BX := BX.trans G9; clear K9 G9))
  go_end0
  exact ⟨rfl, K1, BX⟩
set_option maxRecDepth 100000 in
set_option maxHeartbeats 8000000 in
theorem start_any (g : Nat) (x : Pr) (ev now : Int) (c : Ct) (w : World) (K1 : Blk w g 80 (sdC x ev now nilV nilV)) (hr : x.r = 0) (hc : x.cr = 2) : Calls Try.prog 47 #[.pointer (some ⟨g, 0, none⟩), .agg (encC c)] w fun e w' => e = .returned (.tuple #[]) ∧ ∃ A k, Blk w' g 80 (sdC { x with cr := 3 } ev now (.slice A 1 k) nilV) ∧ Row w' (g + 1) (.slice A 1 k) 1 (ctL (onlyK 6)) ∧ Grw g w w' := by
  have HCe : Hid (∀ X, Blk X g 80 (sdC x ev now nilV nilV) → Calls Try.prog 74 #[.pointer (some ⟨g, 0, none⟩)] X fun e w' => e = .returned (.bool true) ∧ X = w') := Lib.hid fun X K => (cent_any g _ ev now _ _ X K).mono fun e w' ⟨h1, h2⟩ => ⟨by rw [h1]; simp [hr], h2⟩
  have HEn : Hid (∀ X, Blk X g 80 (sdC { x with cr := 3 } ev now nilV nilV) → Calls Try.prog 30 #[.pointer (some ⟨g, 0, none⟩), .agg (encC (onlyK 6))] X fun e w' => e = .returned (.tuple #[]) ∧ ∃ A k, Blk w' g 80 (sdC { x with cr := 3 } ev now (.slice A 1 k) nilV) ∧ Row w' (g + 1) (.slice A 1 k) 1 (ctL (onlyK 6)) ∧ Grw g X w') := Lib.hid fun X K => enq_any g _ ev now _ (onlyK 6) X K
  obtain ⟨xr, xo, xs, V1, xq, xt, V2, xd, xf, xc, xk, xw, xv, xl, xm, xa, xp, xy, xz, xn⟩ := x
  obtain ⟨ck, u1, u2, u3, u4, u5, cm, ci, cr, cj, cs, cy, cf, cv, cl⟩ := c
  dsimp only [sdC, nilV, encC, ctL, inC, onlyK, zeroC] at *
  subst hr
  subst hc
  have hg := K1.lt
  have hg2 : g ≠ w.heap.size := by omega
  replace K1 := K1.alloc (.cells #[.int .i64 ck, .int .i64 u1, .int .i64 u2, .int .i64 u3, .int .i64 u4, .int .i64 u5, .int .u64 (cm : Int), .int .u16 ci, .int .i64 cr, .int .i64 cj, .int .u64 cs, .int .u64 cy, .int .u64 cf, .int .i64 cv, .int .i64 cl] 57)
  have K2 : Blk (w.alloc (.cells #[.int .i64 ck, .int .i64 u1, .int .i64 u2, .int .i64 u3, .int .i64 u4, .int .i64 u5, .int .u64 (cm : Int), .int .u16 ci, .int .i64 cr, .int .i64 cj, .int .u64 cs, .int .u64 cy, .int .u64 cf, .int .i64 cv, .int .i64 cl] 57)) w.heap.size 57 #[.int .i64 ck, .int .i64 u1, .int .i64 u2, .int .i64 u3, .int .i64 u4, .int .i64 u5, .int .u64 (cm : Int), .int .u16 ci, .int .i64 cr, .int .i64 cj, .int .u64 cs, .int .u64 cy, .int .u64 cf, .int .i64 cv, .int .i64 cl] := Blk.fresh _ _ _
  have BX := (Grw.refl g w).alloc (.cells #[.int .i64 ck, .int .i64 u1, .int .i64 u2, .int .i64 u3, .int .i64 u4, .int .i64 u5, .int .u64 (cm : Int), .int .u16 ci, .int .i64 cr, .int .i64 cj, .int .u64 cs, .int .u64 cy, .int .u64 cf, .int .i64 cv, .int .i64 cl] 57)
  have k18 := K1.cell 18
  go_enter Try.func47, Try.ntmps47
  go_upto_region 1 with (fail)
  generalize w.alloc (.cells #[.int .i64 ck, .int .i64 u1, .int .i64 u2, .int .i64 u3, .int .i64 u4, .int .i64 u5, .int .u64 (cm : Int), .int .u16 ci, .int .i64 cr, .int .i64 cj, .int .u64 cs, .int .u64 cy, .int .u64 cf, .int .i64 cv, .int .i64 cl] 57) = W0 at *
  go_upto_region 2 with (go_at_call 74; refine (HCe.out _ K1).mono ?_; rintro e X9 ⟨rfl, rfl⟩)
  clear k18
  go_wp2_with (first | (refine wpList_set rfl _ _ _ rfl g 18 (.int .i64 3) rfl rfl 80 _ K1 (by show 18 < 24; decide) (by kernel_rfl) rfl #[.int .i64 0, .int .i64 xo, .int .i64 xs, V1, .int .i64 xq, .int .i64 xt, V2, .bool xd, .int .u64 xf, .int .u64 xc, .bool xk, .bool xw, .int .i64 xv, .int .i64 xl, .int .i64 xm, .int .u64 xa, .int .u64 xp, .int .u64 xy, .int .i64 3, .int .i64 xn, .int .u16 ev, .int .i64 now, .slice none 0 0, .slice none 0 0] rfl ?_; intro X9 K9 G9; replace K1 := K9; replace K2 := G9.blk K2 (Ne.symm hg2); replace BX := BX.trans G9; clear K9 G9) | (go_at_call 30; refine (HEn.out _ K1).mono ?_; rintro e X9 ⟨rfl, A8, c8, K9, R8, G9⟩; replace K2 := G9.blk K2 (Ne.symm hg2); replace BX := BX.trans G9; replace K1 := K9; clear K9 G9))
  go_end0
  exact ⟨rfl, A8, c8, K1, R8, BX⟩
set_option maxRecDepth 100000 in
set_option maxHeartbeats 8000000 in
theorem stac_any (g : Nat) (x : Pr) (ev now : Int) (c : Ct) (w : World) (K1 : Blk w g 80 (sdC x ev now nilV nilV)) (hr : x.r = 0) (hc : x.cr = 3) : Calls Try.prog 48 #[.pointer (some ⟨g, 0, none⟩), .agg (encC c)] w fun e w' => e = .returned (.tuple #[]) ∧ ∃ A k, Blk w' g 80 (sdC { x with cr := 4, o := -1 } ev now nilV (.slice A 1 k)) ∧ Row w' (g + 1) (.slice A 1 k) 1 (inC 3 0) ∧ Grw g w w' := by
  have HRp : Hid (∀ X, Blk X g 80 (sdC { x with cr := 4 } ev now nilV nilV) → Calls Try.prog 76 #[.pointer (some ⟨g, 0, none⟩), .int .i64 3, .int .u64 0] X fun e w' => e = .returned (.tuple #[]) ∧ ∃ A k, Blk w' g 80 (sdC { x with cr := 4 } ev now nilV (.slice A 1 k)) ∧ Row w' (g + 1) (.slice A 1 k) 1 (inC 3 0) ∧ Grw g X w') := Lib.hid fun X K => rep_any g _ ev now 3 0 nilV X K
  have HCe : Hid (∀ X A k, Blk X g 80 (sdC { x with cr := 4 } ev now nilV (.slice A 1 k)) → Calls Try.prog 74 #[.pointer (some ⟨g, 0, none⟩)] X fun e w' => e = .returned (.bool true) ∧ X = w') := Lib.hid fun X A k K => (cent_any g _ ev now _ _ X K).mono fun e w' ⟨h1, h2⟩ => ⟨by rw [h1]; simp [hr], h2⟩
  obtain ⟨xr, xo, xs, V1, xq, xt, V2, xd, xf, xc, xk, xw, xv, xl, xm, xa, xp, xy, xz, xn⟩ := x
  obtain ⟨ck, u1, u2, u3, u4, u5, cm, ci, cr, cj, cs, cy, cf, cv, cl⟩ := c
  dsimp only [sdC, nilV, encC, ctL, inC, onlyK, zeroC] at *
  subst hr
  subst hc
  have hg := K1.lt
  have hg2 : g ≠ w.heap.size := by omega
  replace K1 := K1.alloc (.cells #[.int .i64 ck, .int .i64 u1, .int .i64 u2, .int .i64 u3, .int .i64 u4, .int .i64 u5, .int .u64 (cm : Int), .int .u16 ci, .int .i64 cr, .int .i64 cj, .int .u64 cs, .int .u64 cy, .int .u64 cf, .int .i64 cv, .int .i64 cl] 57)
  have K2 : Blk (w.alloc (.cells #[.int .i64 ck, .int .i64 u1, .int .i64 u2, .int .i64 u3, .int .i64 u4, .int .i64 u5, .int .u64 (cm : Int), .int .u16 ci, .int .i64 cr, .int .i64 cj, .int .u64 cs, .int .u64 cy, .int .u64 cf, .int .i64 cv, .int .i64 cl] 57)) w.heap.size 57 #[.int .i64 ck, .int .i64 u1, .int .i64 u2, .int .i64 u3, .int .i64 u4, .int .i64 u5, .int .u64 (cm : Int), .int .u16 ci, .int .i64 cr, .int .i64 cj, .int .u64 cs, .int .u64 cy, .int .u64 cf, .int .i64 cv, .int .i64 cl] := Blk.fresh _ _ _
  have BX := (Grw.refl g w).alloc (.cells #[.int .i64 ck, .int .i64 u1, .int .i64 u2, .int .i64 u3, .int .i64 u4, .int .i64 u5, .int .u64 (cm : Int), .int .u16 ci, .int .i64 cr, .int .i64 cj, .int .u64 cs, .int .u64 cy, .int .u64 cf, .int .i64 cv, .int .i64 cl] 57)
  have k18 := K1.cell 18
  go_enter Try.func48, Try.ntmps48
  go_upto_region 1 with (fail)
  generalize w.alloc (.cells #[.int .i64 ck, .int .i64 u1, .int .i64 u2, .int .i64 u3, .int .i64 u4, .int .i64 u5, .int .u64 (cm : Int), .int .u16 ci, .int .i64 cr, .int .i64 cj, .int .u64 cs, .int .u64 cy, .int .u64 cf, .int .i64 cv, .int .i64 cl] 57) = W0 at *
  go_upto_region 3 with (fail)
  clear k18
  go_wp2_with (first | (refine wpList_set rfl _ _ _ rfl g 18 (.int .i64 4) rfl rfl 80 _ K1 (by show 18 < 24; decide) (by kernel_rfl) rfl #[.int .i64 0, .int .i64 xo, .int .i64 xs, V1, .int .i64 xq, .int .i64 xt, V2, .bool xd, .int .u64 xf, .int .u64 xc, .bool xk, .bool xw, .int .i64 xv, .int .i64 xl, .int .i64 xm, .int .u64 xa, .int .u64 xp, .int .u64 xy, .int .i64 4, .int .i64 xn, .int .u16 ev, .int .i64 now, .slice none 0 0, .slice none 0 0] rfl ?_; intro X9 K9 G9; replace K1 := K9; replace K2 := G9.blk K2 (Ne.symm hg2); replace BX := BX.trans G9; clear K9 G9) | (go_at_call 76; refine (HRp.out _ K1).mono ?_; rintro e X9 ⟨rfl, A9, c9, K9, R9, G9⟩; replace K2 := G9.blk K2 (Ne.symm hg2); replace BX := BX.trans G9; replace K1 := K9; clear K9 G9) | (go_at_call 74; refine (HCe.out _ A9 c9 K1).mono ?_; rintro e X9 ⟨rfl, rfl⟩) | (refine wpList_set rfl _ _ _ rfl g 1 (.int .i64 (-1)) rfl rfl 80 _ K1 (by show 1 < 24; decide) (by kernel_rfl) rfl #[.int .i64 0, .int .i64 (-1), .int .i64 xs, V1, .int .i64 xq, .int .i64 xt, V2, .bool xd, .int .u64 xf, .int .u64 xc, .bool xk, .bool xw, .int .i64 xv, .int .i64 xl, .int .i64 xm, .int .u64 xa, .int .u64 xp, .int .u64 xy, .int .i64 4, .int .i64 xn, .int .u16 ev, .int .i64 now, .slice none 0 0, .slice A9 1 c9] rfl ?_; intro X9 K9 G9; replace K1 := K9; replace K2 := G9.blk K2 (Ne.symm hg2); replace R9 := G9.row R9 (by omega); replace BX := BX.trans G9; clear K9 G9))
  refine bodyPost_ret (results_none rfl _ _ _) rfl ?_
  exact ⟨rfl, A9, c9, K1, R9, BX⟩
set_option maxRecDepth 100000 in
set_option maxHeartbeats 8000000 in
theorem stap_any (g : Nat) (x : Pr) (ev now : Int) (c : Ct) (w : World) (K1 : Blk w g 80 (sdC x ev now nilV nilV)) (hr : x.r = 1) (hc : x.cr = 3) : Calls Try.prog 48 #[.pointer (some ⟨g, 0, none⟩), .agg (encC c)] w fun e w' => e = .returned (.tuple #[]) ∧ ∃ A k A' k', Blk w' g 80 (sdC { x with cr := 4, q := -1 } ev now (.slice A' 1 k') (.slice A 1 k)) ∧ Row w' (g + 1) (.slice A 1 k) 1 (inC 3 0) ∧ Row w' (g + 1) (.slice A' 1 k') 1 (ctL (onlyK 6)) ∧ Grw g w w' := by
  have HRp : Hid (∀ X, Blk X g 80 (sdC { x with cr := 4 } ev now nilV nilV) → Calls Try.prog 76 #[.pointer (some ⟨g, 0, none⟩), .int .i64 3, .int .u64 0] X fun e w' => e = .returned (.tuple #[]) ∧ ∃ A k, Blk w' g 80 (sdC { x with cr := 4 } ev now nilV (.slice A 1 k)) ∧ Row w' (g + 1) (.slice A 1 k) 1 (inC 3 0) ∧ Grw g X w') := Lib.hid fun X K => rep_any g _ ev now 3 0 nilV X K
  have HCe : Hid (∀ X A k, Blk X g 80 (sdC { x with cr := 4 } ev now nilV (.slice A 1 k)) → Calls Try.prog 74 #[.pointer (some ⟨g, 0, none⟩)] X fun e w' => e = .returned (.bool false) ∧ X = w') := Lib.hid fun X A k K => (cent_any g _ ev now _ _ X K).mono fun e w' ⟨h1, h2⟩ => ⟨by rw [h1]; simp [hr], h2⟩
  have HEn : Hid (∀ X A1 k1, Blk X g 80 (sdC { x with cr := 4, q := -1 } ev now nilV (.slice A1 1 k1)) → Calls Try.prog 30 #[.pointer (some ⟨g, 0, none⟩), .agg (encC (onlyK 6))] X fun e w' => e = .returned (.tuple #[]) ∧ ∃ A k, Blk w' g 80 (sdC { x with cr := 4, q := -1 } ev now (.slice A 1 k) (.slice A1 1 k1)) ∧ Row w' (g + 1) (.slice A 1 k) 1 (ctL (onlyK 6)) ∧ Grw g X w') := Lib.hid fun X A1 k1 K => enq_any g _ ev now _ (onlyK 6) X K
  obtain ⟨xr, xo, xs, V1, xq, xt, V2, xd, xf, xc, xk, xw, xv, xl, xm, xa, xp, xy, xz, xn⟩ := x
  obtain ⟨ck, u1, u2, u3, u4, u5, cm, ci, cr, cj, cs, cy, cf, cv, cl⟩ := c
  dsimp only [sdC, nilV, encC, ctL, inC, onlyK, zeroC] at *
  subst hr
  subst hc
  have hg := K1.lt
  have hg2 : g ≠ w.heap.size := by omega
  replace K1 := K1.alloc (.cells #[.int .i64 ck, .int .i64 u1, .int .i64 u2, .int .i64 u3, .int .i64 u4, .int .i64 u5, .int .u64 (cm : Int), .int .u16 ci, .int .i64 cr, .int .i64 cj, .int .u64 cs, .int .u64 cy, .int .u64 cf, .int .i64 cv, .int .i64 cl] 57)
  have K2 : Blk (w.alloc (.cells #[.int .i64 ck, .int .i64 u1, .int .i64 u2, .int .i64 u3, .int .i64 u4, .int .i64 u5, .int .u64 (cm : Int), .int .u16 ci, .int .i64 cr, .int .i64 cj, .int .u64 cs, .int .u64 cy, .int .u64 cf, .int .i64 cv, .int .i64 cl] 57)) w.heap.size 57 #[.int .i64 ck, .int .i64 u1, .int .i64 u2, .int .i64 u3, .int .i64 u4, .int .i64 u5, .int .u64 (cm : Int), .int .u16 ci, .int .i64 cr, .int .i64 cj, .int .u64 cs, .int .u64 cy, .int .u64 cf, .int .i64 cv, .int .i64 cl] := Blk.fresh _ _ _
  have BX := (Grw.refl g w).alloc (.cells #[.int .i64 ck, .int .i64 u1, .int .i64 u2, .int .i64 u3, .int .i64 u4, .int .i64 u5, .int .u64 (cm : Int), .int .u16 ci, .int .i64 cr, .int .i64 cj, .int .u64 cs, .int .u64 cy, .int .u64 cf, .int .i64 cv, .int .i64 cl] 57)
  have k18 := K1.cell 18
  go_enter Try.func48, Try.ntmps48
  go_upto_region 1 with (fail)
  generalize w.alloc (.cells #[.int .i64 ck, .int .i64 u1, .int .i64 u2, .int .i64 u3, .int .i64 u4, .int .i64 u5, .int .u64 (cm : Int), .int .u16 ci, .int .i64 cr, .int .i64 cj, .int .u64 cs, .int .u64 cy, .int .u64 cf, .int .i64 cv, .int .i64 cl] 57) = W0 at *
  go_upto_region 3 with (fail)
  clear k18
  go_wp2_with (first | (refine wpList_set rfl _ _ _ rfl g 18 (.int .i64 4) rfl rfl 80 _ K1 (by show 18 < 24; decide) (by kernel_rfl) rfl #[.int .i64 1, .int .i64 xo, .int .i64 xs, V1, .int .i64 xq, .int .i64 xt, V2, .bool xd, .int .u64 xf, .int .u64 xc, .bool xk, .bool xw, .int .i64 xv, .int .i64 xl, .int .i64 xm, .int .u64 xa, .int .u64 xp, .int .u64 xy, .int .i64 4, .int .i64 xn, .int .u16 ev, .int .i64 now, .slice none 0 0, .slice none 0 0] rfl ?_; intro X9 K9 G9; replace K1 := K9; replace K2 := G9.blk K2 (Ne.symm hg2); replace BX := BX.trans G9; clear K9 G9) | (go_at_call 76; refine (HRp.out _ K1).mono ?_; rintro e X9 ⟨rfl, A9, c9, K9, R9, G9⟩; replace K2 := G9.blk K2 (Ne.symm hg2); replace BX := BX.trans G9; replace K1 := K9; clear K9 G9) | (go_at_call 74; refine (HCe.out _ A9 c9 K1).mono ?_; rintro e X9 ⟨rfl, rfl⟩) | (refine wpList_set rfl _ _ _ rfl g 4 (.int .i64 (-1)) rfl rfl 80 _ K1 (by show 4 < 24; decide) (by kernel_rfl) rfl #[.int .i64 1, .int .i64 xo, .int .i64 xs, V1, .int .i64 (-1), .int .i64 xt, V2, .bool xd, .int .u64 xf, .int .u64 xc, .bool xk, .bool xw, .int .i64 xv, .int .i64 xl, .int .i64 xm, .int .u64 xa, .int .u64 xp, .int .u64 xy, .int .i64 4, .int .i64 xn, .int .u16 ev, .int .i64 now, .slice none 0 0, .slice A9 1 c9] rfl ?_; intro X9 K9 G9; replace K1 := K9; replace K2 := G9.blk K2 (Ne.symm hg2); replace R9 := G9.row R9 (by omega); replace BX := BX.trans G9; clear K9 G9) | (go_at_call 30; refine (HEn.out _ A9 c9 K1).mono ?_; rintro e X9 ⟨rfl, A8, c8, K9, R8, G9⟩; replace R9 := G9.row R9 (by omega); replace K2 := G9.blk K2 (Ne.symm hg2); replace BX := BX.trans G9; replace K1 := K9; clear K9 G9))
  go_end0
  exact ⟨rfl, A9, c9, A8, c8, K1, R9, R8, BX⟩
end Go.Proofs.Ytpoagepchlfemaa.Pc
