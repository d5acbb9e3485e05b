/- Control procedures: the handlers with assignments of several fields: contracts over the program. -/
import Derived.Test.YtpoagepchlfemaaPcW4
set_option linter.unusedVariables false
set_option linter.unusedSimpArgs false
namespace Go.Proofs.Ytpoagepchlfemaa.Pc
open Go.RowKit Mem Rw Cp
open Base (thenB)
open Av (Row)

set_option maxRecDepth 100000 in
set_option maxHeartbeats 8000000 in
theorem rej_any (g : Nat) (x : Pr) (ev now : Int) (c : Ct) (w : World) (K1 : Blk w g 80 (sdC x ev now nilV nilV)) (ho : x.o = 3) (hj : c.rj = 3) : Calls Try.prog 49 #[.pointer (some ⟨g, 0, none⟩), .agg (encC c)] w fun e w' => e = .returned (.tuple #[]) ∧ ∃ A k, Blk w' g 80 (sdC { x with cr := 0, o := -1 } ev now nilV (.slice A 1 k)) ∧ Row w' (g + 1) (.slice A 1 k) 1 (inC 9 3) ∧ Grw g w w' := by
  have HRp : Hid (∀ X, Blk X g 80 (sdC { x with cr := 0, o := -1 } ev now nilV nilV) → Calls Try.prog 76 #[.pointer (some ⟨g, 0, none⟩), .int .i64 9, .int .u64 3] X fun e w' => e = .returned (.tuple #[]) ∧ ∃ A k, Blk w' g 80 (sdC { x with cr := 0, o := -1 } ev now nilV (.slice A 1 k)) ∧ Row w' (g + 1) (.slice A 1 k) 1 (inC 9 3) ∧ Grw g X w') := Lib.hid fun X K => rep_any g _ ev now 9 3 nilV X K
  have HIs : Hid (∀ X, Calls Try.prog 41 #[.int .i64 3] X fun e w' => e = .returned (.bool false) ∧ X = w') := Lib.hid fun X => isch_any 3 X
  obtain ⟨xr, xo, xs, V1, xq, xt, V2, xd, xf, xc, xk, xw, xv, xl, xm, xa, xp, xy, xz, xn⟩ := x
  obtain ⟨ck, u1, u2, u3, u4, u5, cm, ci, cr, cj, cs, cy, cf, cv, cl⟩ := c
  dsimp only [sdC, nilV, encC, ctL, inC, onlyK, zeroC] at *
  subst ho
  subst hj
  have hg := K1.lt
  have hg2 : g ≠ w.heap.size := by omega
  replace K1 := K1.alloc (.cells #[.int .i64 ck, .int .i64 u1, .int .i64 u2, .int .i64 u3, .int .i64 u4, .int .i64 u5, .int .u64 (cm : Int), .int .u16 ci, .int .i64 cr, .int .i64 3, .int .u64 cs, .int .u64 cy, .int .u64 cf, .int .i64 cv, .int .i64 cl] 57)
  have K2 : Blk (w.alloc (.cells #[.int .i64 ck, .int .i64 u1, .int .i64 u2, .int .i64 u3, .int .i64 u4, .int .i64 u5, .int .u64 (cm : Int), .int .u16 ci, .int .i64 cr, .int .i64 3, .int .u64 cs, .int .u64 cy, .int .u64 cf, .int .i64 cv, .int .i64 cl] 57)) w.heap.size 57 #[.int .i64 ck, .int .i64 u1, .int .i64 u2, .int .i64 u3, .int .i64 u4, .int .i64 u5, .int .u64 (cm : Int), .int .u16 ci, .int .i64 cr, .int .i64 3, .int .u64 cs, .int .u64 cy, .int .u64 cf, .int .i64 cv, .int .i64 cl] := Blk.fresh _ _ _
  have BX := (Grw.refl g w).alloc (.cells #[.int .i64 ck, .int .i64 u1, .int .i64 u2, .int .i64 u3, .int .i64 u4, .int .i64 u5, .int .u64 (cm : Int), .int .u16 ci, .int .i64 cr, .int .i64 3, .int .u64 cs, .int .u64 cy, .int .u64 cf, .int .i64 cv, .int .i64 cl] 57)
  go_enter Try.func49, Try.ntmps49
  go_upto_region 1 with (fail)
  generalize w.alloc (.cells #[.int .i64 ck, .int .i64 u1, .int .i64 u2, .int .i64 u3, .int .i64 u4, .int .i64 u5, .int .u64 (cm : Int), .int .u16 ci, .int .i64 cr, .int .i64 3, .int .u64 cs, .int .u64 cy, .int .u64 cf, .int .i64 cv, .int .i64 cl] 57) = W0 at *
  go_upto_region 2 with (fail)
  have K1' : Blk W0.drew (g) 80 #[.int .i64 xr, .int .i64 3, .int .i64 xs, V1, .int .i64 xq, .int .i64 xt, V2, .bool xd, .int .u64 xf, .int .u64 xc, .bool xk, .bool xw, .int .i64 xv, .int .i64 xl, .int .i64 xm, .int .u64 xa, .int .u64 xp, .int .u64 xy, .int .i64 xz, .int .i64 xn, .int .u16 ev, .int .i64 now, .slice none 0 0, .slice none 0 0] := Mem.Blk.drew K1
  have K2' : Blk W0.drew (w.heap.size) 57 #[.int .i64 ck, .int .i64 u1, .int .i64 u2, .int .i64 u3, .int .i64 u4, .int .i64 u5, .int .u64 (cm : Int), .int .u16 ci, .int .i64 cr, .int .i64 3, .int .u64 cs, .int .u64 cy, .int .u64 cf, .int .i64 cv, .int .i64 cl] := Mem.Blk.drew K2
  refine wp_region_held_drew (S := (fun w' => Blk w' (g) 80 #[.int .i64 xr, .int .i64 3, .int .i64 xs, V1, .int .i64 xq, .int .i64 xt, V2, .bool xd, .int .u64 xf, .int .u64 xc, .bool xk, .bool xw, .int .i64 xv, .int .i64 xl, .int .i64 xm, .int .u64 xa, .int .u64 xp, .int .u64 xy, .int .i64 xz, .int .i64 xn, .int .u16 ev, .int .i64 now, .slice none 0 0, .slice none 0 0] ∧ Blk w' (w.heap.size) 57 #[.int .i64 ck, .int .i64 u1, .int .i64 u2, .int .i64 u3, .int .i64 u4, .int .i64 u5, .int .u64 (cm : Int), .int .u16 ci, .int .i64 cr, .int .i64 3, .int .u64 cs, .int .u64 cy, .int .u64 cf, .int .i64 cv, .int .i64 cl])) (by kernel_rfl) ?_ (fun hHeld => ?_)
  · exact ⟨K1', K2'⟩
  replace K1 := K1'
  clear K1'
  replace K2 := K2'
  clear K2'
  replace BX : Grw g w W0.drew := BX.drew
  generalize W0.drew = X0 at *
  refine wpAnyH_take (i := 0) (v := .pointer (some ⟨g, 0, none⟩)) rfl (by kernel_rfl) (by kernel_rfl) (by kernel_rfl) (fun _ _ _ h => h) (Or.inl ⟨by first | rfl | go_simp, by intro w9 hSw; (try dsimp only at hSw); go_simp⟩) (by assumption) ?_
  simp only [List.getElem_toArray, List.getElem_cons_zero, List.getElem_cons_succ, Act.put, List.setIfInBounds_toArray, List.set_cons_zero, List.set_cons_succ]
  refine wpAnyH_take (i := 1) (v := .pointer (some ⟨g, 0, none⟩)) rfl (by kernel_rfl) (by kernel_rfl) (by kernel_rfl) (fun _ _ _ h => h) (Or.inl ⟨by first | rfl | go_simp, by intro w9 hSw; (try dsimp only at hSw); go_simp⟩) (by assumption) ?_
  simp only [List.getElem_toArray, List.getElem_cons_zero, List.getElem_cons_succ, Act.put, List.setIfInBounds_toArray, List.set_cons_zero, List.set_cons_succ]
  refine wpAnyH_take (i := 2) (v := .pointer (some ⟨g, 1, none⟩)) rfl (by kernel_rfl) (by kernel_rfl) (by kernel_rfl) (fun _ _ _ h => h) (Or.inl ⟨by first | rfl | go_simp, by intro w9 hSw; (try dsimp only at hSw); go_simp⟩) (by assumption) ?_
  simp only [List.getElem_toArray, List.getElem_cons_zero, List.getElem_cons_succ, Act.put, List.setIfInBounds_toArray, List.set_cons_zero, List.set_cons_succ]
  refine wpAnyH_take (i := 3) (v := .int .i64 3) rfl (by kernel_rfl) (by kernel_rfl) (by kernel_rfl) (fun _ _ _ h => h) (Or.inl ⟨by first | rfl | go_simp, by intro w9 hSw; (try dsimp only at hSw); have c9 := hSw.1.cell 1; clear hSw; go_simp⟩) (by assumption) ?_
  simp only [List.getElem_toArray, List.getElem_cons_zero, List.getElem_cons_succ, Act.put, List.setIfInBounds_toArray, List.set_cons_zero, List.set_cons_succ]
  refine wpAnyH_take (i := 4) (v := .pointer (some ⟨w.heap.size, 9, none⟩)) rfl (by kernel_rfl) (by kernel_rfl) (by kernel_rfl) (fun _ _ _ h => h) (Or.inl ⟨by first | rfl | go_simp, by intro w9 hSw; (try dsimp only at hSw); go_simp⟩) (by assumption) ?_
  simp only [List.getElem_toArray, List.getElem_cons_zero, List.getElem_cons_succ, Act.put, List.setIfInBounds_toArray, List.set_cons_zero, List.set_cons_succ]
  refine wpAnyH_take (i := 5) (v := .int .i64 3) rfl (by kernel_rfl) (by kernel_rfl) (by kernel_rfl) (fun _ _ _ h => h) (Or.inl ⟨by first | rfl | go_simp, by intro w9 hSw; (try dsimp only at hSw); have c9 := hSw.2.cell 9; clear hSw; go_simp⟩) (by assumption) ?_
  simp only [List.getElem_toArray, List.getElem_cons_zero, List.getElem_cons_succ, Act.put, List.setIfInBounds_toArray, List.set_cons_zero, List.set_cons_succ]
  refine wpAnyH_take (i := 6) (v := .bool false) rfl (by kernel_rfl) (by kernel_rfl) (by kernel_rfl) (fun _ _ _ h => h) (Or.inl ⟨by first | rfl | go_simp, by intro w9 hSw; (try dsimp only at hSw); go_simp⟩) (by assumption) ?_
  simp only [List.getElem_toArray, List.getElem_cons_zero, List.getElem_cons_succ, Act.put, List.setIfInBounds_toArray, List.set_cons_zero, List.set_cons_succ]
  refine wpAnyH_take (i := 7) (v := .bool false) rfl (by kernel_rfl) (by kernel_rfl) (by kernel_rfl) (fun _ _ _ h => h) (Or.inl ⟨by first | rfl | go_simp, by intro w9 hSw; (try dsimp only at hSw); go_simp⟩) (by assumption) ?_
  simp only [List.getElem_toArray, List.getElem_cons_zero, List.getElem_cons_succ, Act.put, List.setIfInBounds_toArray, List.set_cons_zero, List.set_cons_succ]
  refine wpAnyH_take (i := 8) (v := .pointer (some ⟨g, 0, none⟩)) rfl (by kernel_rfl) (by kernel_rfl) (by kernel_rfl) (fun _ _ _ h => h) (Or.inl ⟨by first | rfl | go_simp, by intro w9 hSw; (try dsimp only at hSw); go_simp⟩) (by assumption) ?_
  simp only [List.getElem_toArray, List.getElem_cons_zero, List.getElem_cons_succ, Act.put, List.setIfInBounds_toArray, List.set_cons_zero, List.set_cons_succ]
  refine wpAnyH_take (i := 9) (v := .pointer (some ⟨g, 0, none⟩)) rfl (by kernel_rfl) (by kernel_rfl) (by kernel_rfl) (fun _ _ _ h => h) (Or.inl ⟨by first | rfl | go_simp, by intro w9 hSw; (try dsimp only at hSw); go_simp⟩) (by assumption) ?_
  simp only [List.getElem_toArray, List.getElem_cons_zero, List.getElem_cons_succ, Act.put, List.setIfInBounds_toArray, List.set_cons_zero, List.set_cons_succ]
  refine wpAnyH_take (i := 10) (v := .pointer (some ⟨g, 1, none⟩)) rfl (by kernel_rfl) (by kernel_rfl) (by kernel_rfl) (fun _ _ _ h => h) (Or.inl ⟨by first | rfl | go_simp, by intro w9 hSw; (try dsimp only at hSw); go_simp⟩) (by assumption) ?_
  simp only [List.getElem_toArray, List.getElem_cons_zero, List.getElem_cons_succ, Act.put, List.setIfInBounds_toArray, List.set_cons_zero, List.set_cons_succ]
  refine wpAnyH_take (i := 11) (v := .int .i64 3) rfl (by kernel_rfl) (by kernel_rfl) (by kernel_rfl) (fun _ _ _ h => h) (Or.inl ⟨by first | rfl | go_simp, by intro w9 hSw; (try dsimp only at hSw); have c9 := hSw.1.cell 1; clear hSw; go_simp⟩) (by assumption) ?_
  simp only [List.getElem_toArray, List.getElem_cons_zero, List.getElem_cons_succ, Act.put, List.setIfInBounds_toArray, List.set_cons_zero, List.set_cons_succ]
  refine wpAnyH_ready (rs := [12]) (by kernel_rfl) (by simp) ?_
  refine AllReadyH.cons rfl (fun K hK => ?_) (AllReadyH.nil)
  go_simp
  refine (HIs.out X0).mono ?_
  rintro e X9 ⟨rfl, rfl⟩
  refine hK.out _ _ ⟨K1, K2⟩ (fun hHeld => ?_)
  clear hK K
  try simp only [List.getElem_toArray, List.getElem_cons_zero, List.getElem_cons_succ, Act.put, List.setIfInBounds_toArray, List.set_cons_zero, List.set_cons_succ]
  refine wpAnyH_take (i := 13) (v := .bool false) rfl (by kernel_rfl) (by kernel_rfl) (by kernel_rfl) (fun _ _ _ h => h) (Or.inl ⟨by first | rfl | go_simp, by intro w9 hSw; (try dsimp only at hSw); go_simp⟩) (by assumption) ?_
  simp only [List.getElem_toArray, List.getElem_cons_zero, List.getElem_cons_succ, Act.put, List.setIfInBounds_toArray, List.set_cons_zero, List.set_cons_succ]
  refine wpAnyH_take (i := 14) (v := .bool false) rfl (by kernel_rfl) (by kernel_rfl) (by kernel_rfl) (fun _ _ _ h => h) (Or.inl ⟨by first | rfl | go_simp, by intro w9 hSw; (try dsimp only at hSw); go_simp⟩) (by assumption) ?_
  simp only [List.getElem_toArray, List.getElem_cons_zero, List.getElem_cons_succ, Act.put, List.setIfInBounds_toArray, List.set_cons_zero, List.set_cons_succ]
  refine wpAnyH_take (i := 15) (v := .pointer (some ⟨g, 0, none⟩)) rfl (by kernel_rfl) (by kernel_rfl) (by kernel_rfl) (fun _ _ _ h => h) (Or.inl ⟨by first | rfl | go_simp, by intro w9 hSw; (try dsimp only at hSw); go_simp⟩) (by assumption) ?_
  simp only [List.getElem_toArray, List.getElem_cons_zero, List.getElem_cons_succ, Act.put, List.setIfInBounds_toArray, List.set_cons_zero, List.set_cons_succ]
  refine wpAnyH_take (i := 16) (v := .pointer (some ⟨g, 0, none⟩)) rfl (by kernel_rfl) (by kernel_rfl) (by kernel_rfl) (fun _ _ _ h => h) (Or.inl ⟨by first | rfl | go_simp, by intro w9 hSw; (try dsimp only at hSw); go_simp⟩) (by assumption) ?_
  simp only [List.getElem_toArray, List.getElem_cons_zero, List.getElem_cons_succ, Act.put, List.setIfInBounds_toArray, List.set_cons_zero, List.set_cons_succ]
  refine wpAnyH_take (i := 17) (v := .pointer (some ⟨g, 1, none⟩)) rfl (by kernel_rfl) (by kernel_rfl) (by kernel_rfl) (fun _ _ _ h => h) (Or.inl ⟨by first | rfl | go_simp, by intro w9 hSw; (try dsimp only at hSw); go_simp⟩) (by assumption) ?_
  simp only [List.getElem_toArray, List.getElem_cons_zero, List.getElem_cons_succ, Act.put, List.setIfInBounds_toArray, List.set_cons_zero, List.set_cons_succ]
  refine wpAnyH_take (i := 18) (v := .int .i64 3) rfl (by kernel_rfl) (by kernel_rfl) (by kernel_rfl) (fun _ _ _ h => h) (Or.inl ⟨by first | rfl | go_simp, by intro w9 hSw; (try dsimp only at hSw); have c9 := hSw.1.cell 1; clear hSw; go_simp⟩) (by assumption) ?_
  simp only [List.getElem_toArray, List.getElem_cons_zero, List.getElem_cons_succ, Act.put, List.setIfInBounds_toArray, List.set_cons_zero, List.set_cons_succ]
  refine wpAnyH_take (i := 19) (v := .bool false) rfl (by kernel_rfl) (by kernel_rfl) (by kernel_rfl) (fun _ _ _ h => h) (Or.inl ⟨by first | rfl | go_simp, by intro w9 hSw; (try dsimp only at hSw); go_simp⟩) (by assumption) ?_
  simp only [List.getElem_toArray, List.getElem_cons_zero, List.getElem_cons_succ, Act.put, List.setIfInBounds_toArray, List.set_cons_zero, List.set_cons_succ]
  refine wpAnyH_take (i := 20) (v := .bool false) rfl (by kernel_rfl) (by kernel_rfl) (by kernel_rfl) (fun _ _ _ h => h) (Or.inl ⟨by first | rfl | go_simp, by intro w9 hSw; (try dsimp only at hSw); go_simp⟩) (by assumption) ?_
  simp only [List.getElem_toArray, List.getElem_cons_zero, List.getElem_cons_succ, Act.put, List.setIfInBounds_toArray, List.set_cons_zero, List.set_cons_succ]
  refine wpAnyH_done (by kernel_rfl) ?_ _
  have k1 := K1.cell 1
  go_upto_region 4 with (fail)
  clear k1
  have k5 := K2.cell 9
  go_wp2_with (first | (refine wpList_set rfl _ _ _ rfl g 18 (.int .i64 0) rfl rfl 80 _ K1 (by show 18 < 24; decide) (by kernel_rfl) rfl #[.int .i64 xr, .int .i64 3, .int .i64 xs, V1, .int .i64 xq, .int .i64 xt, V2, .bool xd, .int .u64 xf, .int .u64 xc, .bool xk, .bool xw, .int .i64 xv, .int .i64 xl, .int .i64 xm, .int .u64 xa, .int .u64 xp, .int .u64 xy, .int .i64 0, .int .i64 xn, .int .u16 ev, .int .i64 now, .slice none 0 0, .slice none 0 0] rfl ?_; intro X9 K9 G9; replace K1 := K9; replace K2 := G9.blk K2 (Ne.symm hg2); replace BX := BX.trans G9; clear K9 G9; replace k5 := K2.cell 9) | (refine wpList_set rfl _ _ _ rfl g 1 (.int .i64 (-1)) rfl rfl 80 _ K1 (by show 1 < 24; decide) (by kernel_rfl) rfl #[.int .i64 xr, .int .i64 (-1), .int .i64 xs, V1, .int .i64 xq, .int .i64 xt, V2, .bool xd, .int .u64 xf, .int .u64 xc, .bool xk, .bool xw, .int .i64 xv, .int .i64 xl, .int .i64 xm, .int .u64 xa, .int .u64 xp, .int .u64 xy, .int .i64 0, .int .i64 xn, .int .u16 ev, .int .i64 now, .slice none 0 0, .slice none 0 0] rfl ?_; intro X9 K9 G9; replace K1 := K9; replace K2 := G9.blk K2 (Ne.symm hg2); replace BX := BX.trans G9; clear K9 G9; replace k5 := K2.cell 9) | (go_at_call 76; refine (HRp.out _ K1).mono ?_; rintro e X9 ⟨rfl, A9, c9, K9, R9, G9⟩; replace K2 := G9.blk K2 (Ne.symm hg2); replace BX := BX.trans G9; replace K1 := K9; clear K9 G9))
  go_end0
  exact ⟨rfl, A9, c9, K1, R9, BX⟩
set_option maxRecDepth 100000 in
set_option maxHeartbeats 8000000 in
theorem encr_any (g : Nat) (x : Pr) (ev now : Int) (c : Ct) (w : World) (K1 : Blk w g 80 (sdC x ev now nilV nilV)) (hr : x.r = 1) (hc : x.cr = 0) : Calls Try.prog 45 #[.pointer (some ⟨g, 0, none⟩), .agg (encC c)] w fun e w' => e = .returned (.tuple #[]) ∧ ∃ A k, Blk w' g 80 (sdC { x with pe := c.st, mr := c.mr, cr := 1, q := 3, t := now } ev now nilV (.slice A 1 k)) ∧ Row w' (g + 1) (.slice A 1 k) 1 (inC 8 c.mr) ∧ Grw g w w' := by
  have HCe : Hid (∀ X, Blk X g 80 (sdC x ev now nilV nilV) → Calls Try.prog 74 #[.pointer (some ⟨g, 0, none⟩)] X fun e w' => e = .returned (.bool false) ∧ X = w') := Lib.hid fun X K => (cent_any g _ ev now _ _ X K).mono fun e w' ⟨h1, h2⟩ => ⟨by rw [h1]; simp [hr], h2⟩
  have HRp : Hid (∀ X, Blk X g 80 (sdC { x with pe := c.st, mr := c.mr, cr := 1, q := 3, t := now } ev now nilV nilV) → Calls Try.prog 76 #[.pointer (some ⟨g, 0, none⟩), .int .i64 8, .int .u64 c.mr] X fun e w' => e = .returned (.tuple #[]) ∧ ∃ A k, Blk w' g 80 (sdC { x with pe := c.st, mr := c.mr, cr := 1, q := 3, t := now } ev now nilV (.slice A 1 k)) ∧ Row w' (g + 1) (.slice A 1 k) 1 (inC 8 c.mr) ∧ Grw g X w') := Lib.hid fun X K => rep_any g _ ev now 8 c.mr nilV X K
  have HJo : Hid (∀ X, Blk X g 80 (sdC { x with pe := c.st, mr := c.mr, cr := 1 } ev now nilV nilV) → Calls Try.prog 75 #[.pointer (some ⟨g, 0, none⟩), .int .i64 3] X fun e w' => e = .returned (.tuple #[]) ∧ Blk w' g 80 (sdC { x with pe := c.st, mr := c.mr, cr := 1, q := 3, t := now } ev now nilV nilV) ∧ Grw g X w') := Lib.hid fun X K => joins_any g _ ev now 3 _ _ X K
  obtain ⟨xr, xo, xs, V1, xq, xt, V2, xd, xf, xc, xk, xw, xv, xl, xm, xa, xp, xy, xz, xn⟩ := x
  obtain ⟨ck, u1, u2, u3, u4, u5, cm, ci, cr, cj, cs, cy, cf, cv, cl⟩ := c
  dsimp only [sdC, nilV, encC, ctL, inC, onlyK, zeroC] at *
  subst hr
  subst hc
  have hg := K1.lt
  have hg2 : g ≠ w.heap.size := by omega
  replace K1 := K1.alloc (.cells #[.int .i64 ck, .int .i64 u1, .int .i64 u2, .int .i64 u3, .int .i64 u4, .int .i64 u5, .int .u64 (cm : Int), .int .u16 ci, .int .i64 cr, .int .i64 cj, .int .u64 cs, .int .u64 cy, .int .u64 cf, .int .i64 cv, .int .i64 cl] 57)
  have K2 : Blk (w.alloc (.cells #[.int .i64 ck, .int .i64 u1, .int .i64 u2, .int .i64 u3, .int .i64 u4, .int .i64 u5, .int .u64 (cm : Int), .int .u16 ci, .int .i64 cr, .int .i64 cj, .int .u64 cs, .int .u64 cy, .int .u64 cf, .int .i64 cv, .int .i64 cl] 57)) w.heap.size 57 #[.int .i64 ck, .int .i64 u1, .int .i64 u2, .int .i64 u3, .int .i64 u4, .int .i64 u5, .int .u64 (cm : Int), .int .u16 ci, .int .i64 cr, .int .i64 cj, .int .u64 cs, .int .u64 cy, .int .u64 cf, .int .i64 cv, .int .i64 cl] := Blk.fresh _ _ _
  have BX := (Grw.refl g w).alloc (.cells #[.int .i64 ck, .int .i64 u1, .int .i64 u2, .int .i64 u3, .int .i64 u4, .int .i64 u5, .int .u64 (cm : Int), .int .u16 ci, .int .i64 cr, .int .i64 cj, .int .u64 cs, .int .u64 cy, .int .u64 cf, .int .i64 cv, .int .i64 cl] 57)
  have k18 := K1.cell 18
  go_enter Try.func45, Try.ntmps45
  go_upto_region 1 with (fail)
  generalize w.alloc (.cells #[.int .i64 ck, .int .i64 u1, .int .i64 u2, .int .i64 u3, .int .i64 u4, .int .i64 u5, .int .u64 (cm : Int), .int .u16 ci, .int .i64 cr, .int .i64 cj, .int .u64 cs, .int .u64 cy, .int .u64 cf, .int .i64 cv, .int .i64 cl] 57) = W0 at *
  go_upto_region 3 with (go_at_call 74; refine (HCe.out _ K1).mono ?_; rintro e X9 ⟨rfl, rfl⟩)
  clear k18
  have K1' : Blk W0.drew (g) 80 #[.int .i64 1, .int .i64 xo, .int .i64 xs, V1, .int .i64 xq, .int .i64 xt, V2, .bool xd, .int .u64 xf, .int .u64 xc, .bool xk, .bool xw, .int .i64 xv, .int .i64 xl, .int .i64 xm, .int .u64 xa, .int .u64 xp, .int .u64 xy, .int .i64 0, .int .i64 xn, .int .u16 ev, .int .i64 now, .slice none 0 0, .slice none 0 0] := Mem.Blk.drew K1
  have K2' : Blk W0.drew (w.heap.size) 57 #[.int .i64 ck, .int .i64 u1, .int .i64 u2, .int .i64 u3, .int .i64 u4, .int .i64 u5, .int .u64 (cm : Int), .int .u16 ci, .int .i64 cr, .int .i64 cj, .int .u64 cs, .int .u64 cy, .int .u64 cf, .int .i64 cv, .int .i64 cl] := Mem.Blk.drew K2
  refine wp_region_held_drew (S := (fun w' => Blk w' (w.heap.size) 57 #[.int .i64 ck, .int .i64 u1, .int .i64 u2, .int .i64 u3, .int .i64 u4, .int .i64 u5, .int .u64 (cm : Int), .int .u16 ci, .int .i64 cr, .int .i64 cj, .int .u64 cs, .int .u64 cy, .int .u64 cf, .int .i64 cv, .int .i64 cl])) (by kernel_rfl) ?_ (fun hHeld => ?_)
  · exact K2'
  replace K1 := K1'
  clear K1'
  replace K2 := K2'
  clear K2'
  replace BX : Grw g w W0.drew := BX.drew
  generalize W0.drew = X0 at *
  refine wpAnyH_take (i := 0) (v := .pointer (some ⟨g, 0, none⟩)) rfl (by kernel_rfl) (by kernel_rfl) (by kernel_rfl) (fun _ _ _ h => h) (Or.inl ⟨by first | rfl | go_simp, by intro w9 hSw; (try dsimp only at hSw); go_simp⟩) (by assumption) ?_
  simp only [List.getElem_toArray, List.getElem_cons_zero, List.getElem_cons_succ, Act.put, List.setIfInBounds_toArray, List.set_cons_zero, List.set_cons_succ]
  refine wpAnyH_take (i := 1) (v := .pointer (some ⟨g, 0, none⟩)) rfl (by kernel_rfl) (by kernel_rfl) (by kernel_rfl) (fun _ _ _ h => h) (Or.inl ⟨by first | rfl | go_simp, by intro w9 hSw; (try dsimp only at hSw); go_simp⟩) (by assumption) ?_
  simp only [List.getElem_toArray, List.getElem_cons_zero, List.getElem_cons_succ, Act.put, List.setIfInBounds_toArray, List.set_cons_zero, List.set_cons_succ]
  refine wpAnyH_take (i := 2) (v := .pointer (some ⟨g, 0, none⟩)) rfl (by kernel_rfl) (by kernel_rfl) (by kernel_rfl) (fun _ _ _ h => h) (Or.inl ⟨by first | rfl | go_simp, by intro w9 hSw; (try dsimp only at hSw); go_simp⟩) (by assumption) ?_
  simp only [List.getElem_toArray, List.getElem_cons_zero, List.getElem_cons_succ, Act.put, List.setIfInBounds_toArray, List.set_cons_zero, List.set_cons_succ]
  refine wpAnyH_take (i := 3) (v := .pointer (some ⟨w.heap.size, 10, none⟩)) rfl (by kernel_rfl) (by kernel_rfl) (by kernel_rfl) (fun _ _ _ h => h) (Or.inl ⟨by first | rfl | go_simp, by intro w9 hSw; (try dsimp only at hSw); go_simp⟩) (by assumption) ?_
  simp only [List.getElem_toArray, List.getElem_cons_zero, List.getElem_cons_succ, Act.put, List.setIfInBounds_toArray, List.set_cons_zero, List.set_cons_succ]
  refine wpAnyH_take (i := 4) (v := .int .u64 cs) rfl (by kernel_rfl) (by kernel_rfl) (by kernel_rfl) (fun _ _ _ h => h) (Or.inl ⟨by first | rfl | go_simp, by intro w9 hSw; (try dsimp only at hSw); have c9 := hSw.cell 10; clear hSw; go_simp⟩) (by assumption) ?_
  simp only [List.getElem_toArray, List.getElem_cons_zero, List.getElem_cons_succ, Act.put, List.setIfInBounds_toArray, List.set_cons_zero, List.set_cons_succ]
  refine wpAnyH_take (i := 5) (v := .pointer (some ⟨w.heap.size, 11, none⟩)) rfl (by kernel_rfl) (by kernel_rfl) (by kernel_rfl) (fun _ _ _ h => h) (Or.inl ⟨by first | rfl | go_simp, by intro w9 hSw; (try dsimp only at hSw); go_simp⟩) (by assumption) ?_
  simp only [List.getElem_toArray, List.getElem_cons_zero, List.getElem_cons_succ, Act.put, List.setIfInBounds_toArray, List.set_cons_zero, List.set_cons_succ]
  refine wpAnyH_take (i := 6) (v := .int .u64 cy) rfl (by kernel_rfl) (by kernel_rfl) (by kernel_rfl) (fun _ _ _ h => h) (Or.inl ⟨by first | rfl | go_simp, by intro w9 hSw; (try dsimp only at hSw); have c9 := hSw.cell 11; clear hSw; go_simp⟩) (by assumption) ?_
  simp only [List.getElem_toArray, List.getElem_cons_zero, List.getElem_cons_succ, Act.put, List.setIfInBounds_toArray, List.set_cons_zero, List.set_cons_succ]
  refine wpAnyH_take (i := 7) (v := .pointer (some ⟨g, 0, none⟩)) rfl (by kernel_rfl) (by kernel_rfl) (by kernel_rfl) (fun _ _ _ h => h) (Or.inl ⟨by first | rfl | go_simp, by intro w9 hSw; (try dsimp only at hSw); go_simp⟩) (by assumption) ?_
  simp only [List.getElem_toArray, List.getElem_cons_zero, List.getElem_cons_succ, Act.put, List.setIfInBounds_toArray, List.set_cons_zero, List.set_cons_succ]
  refine wpAnyH_take (i := 8) (v := .pointer (some ⟨g, 16, none⟩)) rfl (by kernel_rfl) (by kernel_rfl) (by kernel_rfl) (fun _ _ _ h => h) (Or.inl ⟨by first | rfl | go_simp, by intro w9 hSw; (try dsimp only at hSw); go_simp⟩) (by assumption) ?_
  simp only [List.getElem_toArray, List.getElem_cons_zero, List.getElem_cons_succ, Act.put, List.setIfInBounds_toArray, List.set_cons_zero, List.set_cons_succ]
  refine wpAnyH_ready (rs := [9]) (by kernel_rfl) (by simp) ?_
  refine AllReadyH.cons rfl (fun K hK => ?_) (AllReadyH.nil)
  refine Av.step_store_cell rfl _ _ _ rfl (g) 16 (.int .u64 cs) rfl rfl 80 _ K1 (by show 16 < 24; decide) (by kernel_rfl) rfl ?_
  replace K1 : Blk (X0.setCell ⟨g, 16, none⟩ (.int .u64 cs)) (g) 80 #[.int .i64 1, .int .i64 xo, .int .i64 xs, V1, .int .i64 xq, .int .i64 xt, V2, .bool xd, .int .u64 xf, .int .u64 xc, .bool xk, .bool xw, .int .i64 xv, .int .i64 xl, .int .i64 xm, .int .u64 xa, .int .u64 cs, .int .u64 xy, .int .i64 0, .int .i64 xn, .int .u16 ev, .int .i64 now, .slice none 0 0, .slice none 0 0] := (Av.bset K1 16 (.int .u64 cs) rfl)
  replace K2 : Blk (X0.setCell ⟨g, 16, none⟩ (.int .u64 cs)) (w.heap.size) 57 #[.int .i64 ck, .int .i64 u1, .int .i64 u2, .int .i64 u3, .int .i64 u4, .int .i64 u5, .int .u64 (cm : Int), .int .u16 ci, .int .i64 cr, .int .i64 cj, .int .u64 cs, .int .u64 cy, .int .u64 cf, .int .i64 cv, .int .i64 cl] := Av.bother (K2) (by omega) _
  replace BX : Grw g w (X0.setCell ⟨g, 16, none⟩ (.int .u64 cs)) := (BX.setCell (p := ⟨g, 16, none⟩) (by simp only; omega) _)
  generalize (X0.setCell ⟨g, 16, none⟩ (.int .u64 cs)) = X1 at *
  refine hK.out _ _ K2 (fun hHeld => ?_)
  clear hK K
  try simp only [List.getElem_toArray, List.getElem_cons_zero, List.getElem_cons_succ, Act.put, List.setIfInBounds_toArray, List.set_cons_zero, List.set_cons_succ]
  refine wpAnyH_take (i := 10) (v := .pointer (some ⟨g, 0, none⟩)) rfl (by kernel_rfl) (by kernel_rfl) (by kernel_rfl) (fun _ _ _ h => h) (Or.inl ⟨by first | rfl | go_simp, by intro w9 hSw; (try dsimp only at hSw); go_simp⟩) (by assumption) ?_
  simp only [List.getElem_toArray, List.getElem_cons_zero, List.getElem_cons_succ, Act.put, List.setIfInBounds_toArray, List.set_cons_zero, List.set_cons_succ]
  refine wpAnyH_take (i := 11) (v := .pointer (some ⟨g, 17, none⟩)) rfl (by kernel_rfl) (by kernel_rfl) (by kernel_rfl) (fun _ _ _ h => h) (Or.inl ⟨by first | rfl | go_simp, by intro w9 hSw; (try dsimp only at hSw); go_simp⟩) (by assumption) ?_
  simp only [List.getElem_toArray, List.getElem_cons_zero, List.getElem_cons_succ, Act.put, List.setIfInBounds_toArray, List.set_cons_zero, List.set_cons_succ]
  refine wpAnyH_ready (rs := [12]) (by kernel_rfl) (by simp) ?_
  refine AllReadyH.cons rfl (fun K hK => ?_) (AllReadyH.nil)
  refine Av.step_store_cell rfl _ _ _ rfl (g) 17 (.int .u64 cy) rfl rfl 80 _ K1 (by show 17 < 24; decide) (by kernel_rfl) rfl ?_
  replace K1 : Blk (X1.setCell ⟨g, 17, none⟩ (.int .u64 cy)) (g) 80 #[.int .i64 1, .int .i64 xo, .int .i64 xs, V1, .int .i64 xq, .int .i64 xt, V2, .bool xd, .int .u64 xf, .int .u64 xc, .bool xk, .bool xw, .int .i64 xv, .int .i64 xl, .int .i64 xm, .int .u64 xa, .int .u64 cs, .int .u64 cy, .int .i64 0, .int .i64 xn, .int .u16 ev, .int .i64 now, .slice none 0 0, .slice none 0 0] := (Av.bset K1 17 (.int .u64 cy) rfl)
  replace K2 : Blk (X1.setCell ⟨g, 17, none⟩ (.int .u64 cy)) (w.heap.size) 57 #[.int .i64 ck, .int .i64 u1, .int .i64 u2, .int .i64 u3, .int .i64 u4, .int .i64 u5, .int .u64 (cm : Int), .int .u16 ci, .int .i64 cr, .int .i64 cj, .int .u64 cs, .int .u64 cy, .int .u64 cf, .int .i64 cv, .int .i64 cl] := Av.bother (K2) (by omega) _
  replace BX : Grw g w (X1.setCell ⟨g, 17, none⟩ (.int .u64 cy)) := (BX.setCell (p := ⟨g, 17, none⟩) (by simp only; omega) _)
  generalize (X1.setCell ⟨g, 17, none⟩ (.int .u64 cy)) = X2 at *
  refine hK.out _ _ K2 (fun hHeld => ?_)
  clear hK K
  try simp only [List.getElem_toArray, List.getElem_cons_zero, List.getElem_cons_succ, Act.put, List.setIfInBounds_toArray, List.set_cons_zero, List.set_cons_succ]
  refine wpAnyH_take (i := 13) (v := .pointer (some ⟨g, 0, none⟩)) rfl (by kernel_rfl) (by kernel_rfl) (by kernel_rfl) (fun _ _ _ h => h) (Or.inl ⟨by first | rfl | go_simp, by intro w9 hSw; (try dsimp only at hSw); go_simp⟩) (by assumption) ?_
  simp only [List.getElem_toArray, List.getElem_cons_zero, List.getElem_cons_succ, Act.put, List.setIfInBounds_toArray, List.set_cons_zero, List.set_cons_succ]
  refine wpAnyH_take (i := 14) (v := .pointer (some ⟨g, 18, none⟩)) rfl (by kernel_rfl) (by kernel_rfl) (by kernel_rfl) (fun _ _ _ h => h) (Or.inl ⟨by first | rfl | go_simp, by intro w9 hSw; (try dsimp only at hSw); go_simp⟩) (by assumption) ?_
  simp only [List.getElem_toArray, List.getElem_cons_zero, List.getElem_cons_succ, Act.put, List.setIfInBounds_toArray, List.set_cons_zero, List.set_cons_succ]
  refine wpAnyH_ready (rs := [15]) (by kernel_rfl) (by simp) ?_
  refine AllReadyH.cons rfl (fun K hK => ?_) (AllReadyH.nil)
  refine Av.step_store_cell rfl _ _ _ rfl (g) 18 (.int .i64 1) rfl rfl 80 _ K1 (by show 18 < 24; decide) (by kernel_rfl) rfl ?_
  replace K1 : Blk (X2.setCell ⟨g, 18, none⟩ (.int .i64 1)) (g) 80 #[.int .i64 1, .int .i64 xo, .int .i64 xs, V1, .int .i64 xq, .int .i64 xt, V2, .bool xd, .int .u64 xf, .int .u64 xc, .bool xk, .bool xw, .int .i64 xv, .int .i64 xl, .int .i64 xm, .int .u64 xa, .int .u64 cs, .int .u64 cy, .int .i64 1, .int .i64 xn, .int .u16 ev, .int .i64 now, .slice none 0 0, .slice none 0 0] := (Av.bset K1 18 (.int .i64 1) rfl)
  replace K2 : Blk (X2.setCell ⟨g, 18, none⟩ (.int .i64 1)) (w.heap.size) 57 #[.int .i64 ck, .int .i64 u1, .int .i64 u2, .int .i64 u3, .int .i64 u4, .int .i64 u5, .int .u64 (cm : Int), .int .u16 ci, .int .i64 cr, .int .i64 cj, .int .u64 cs, .int .u64 cy, .int .u64 cf, .int .i64 cv, .int .i64 cl] := Av.bother (K2) (by omega) _
  replace BX : Grw g w (X2.setCell ⟨g, 18, none⟩ (.int .i64 1)) := (BX.setCell (p := ⟨g, 18, none⟩) (by simp only; omega) _)
  generalize (X2.setCell ⟨g, 18, none⟩ (.int .i64 1)) = X3 at *
  refine hK.out _ _ K2 (fun hHeld => ?_)
  clear hK K
  try simp only [List.getElem_toArray, List.getElem_cons_zero, List.getElem_cons_succ, Act.put, List.setIfInBounds_toArray, List.set_cons_zero, List.set_cons_succ]
  refine wpAnyH_done (by kernel_rfl) ?_ _
  have k7 := K2.cell 11
  go_wp2_with (first | (go_at_call 75; refine (HJo.out X3 K1).mono ?_; rintro e X9 ⟨rfl, K9, G9⟩; replace K2 := G9.blk K2 (Ne.symm hg2); replace k7 := K2.cell 11; replace BX := BX.trans G9; replace K1 := K9; clear K9 G9) | (go_at_call 76; refine (HRp.out _ K1).mono ?_; rintro e X9 ⟨rfl, A9, c9, K9, R9, G9⟩; replace K2 := G9.blk K2 (Ne.symm hg2); replace BX := BX.trans G9; replace K1 := K9; clear K9 G9))
  go_end0
  exact ⟨rfl, A9, c9, K1, R9, BX⟩
set_option maxRecDepth 100000 in
set_option maxHeartbeats 8000000 in
theorem feat_req (g : Nat) (x : Pr) (ev now : Int) (c : Ct) (za : Int) (w : World) (K1 : Blk w g 80 (sdC x ev now nilV nilV)) (hk : c.k = 8) (hza : bits BinOp.and IntKind.u64 x.f c.ft = za) : Calls Try.prog 50 #[.pointer (some ⟨g, 0, none⟩), .agg (encC c)] w fun e w' => e = .returned (.tuple #[]) ∧ ∃ A' k' A k, Blk w' g 80 (sdC { x with c := za, kn := true } ev now (.slice A' 1 k') (.slice A 1 k)) ∧ Row w' (g + 1) (.slice A' 1 k') 1 (ctL { onlyK 9 with ft := x.f }) ∧ Row w' (g + 1) (.slice A 1 k) 1 (inC 5 za) ∧ Grw g w w' := by
  have HCo : Hid (∀ X, Blk X g 80 (sdC x ev now nilV nilV) → Calls Try.prog 77 #[.pointer (some ⟨g, 0, none⟩), .agg (encC c), .int .i64 8] X fun e w' => e = .returned (.bool true) ∧ Below X.heap.size X w') := Lib.hid fun X K => by
    have := conc_any g x ev now 8 nilV nilV c X K
    rwa [decide_eq_true (.inl hk)] at this
  have HRp : Hid (∀ X, Blk X g 80 (sdC { x with c := za, kn := true } ev now nilV nilV) → Calls Try.prog 76 #[.pointer (some ⟨g, 0, none⟩), .int .i64 5, .int .u64 za] X fun e w' => e = .returned (.tuple #[]) ∧ ∃ A k, Blk w' g 80 (sdC { x with c := za, kn := true } ev now nilV (.slice A 1 k)) ∧ Row w' (g + 1) (.slice A 1 k) 1 (inC 5 za) ∧ Grw g X w') := Lib.hid fun X K => rep_any g _ ev now 5 za nilV X K
  have HCl : Hid (∀ X A1 k1, Blk X g 80 (sdC { x with c := za, kn := true } ev now nilV (.slice A1 1 k1)) → Calls Try.prog 78 #[.pointer (some ⟨g, 0, none⟩), .agg (encC c), .agg (encC { onlyK 9 with ft := x.f })] X fun e w' => e = .returned (.tuple #[]) ∧ ∃ A k, Blk w' g 80 (sdC { x with c := za, kn := true } ev now (.slice A 1 k) (.slice A1 1 k1)) ∧ Row w' (g + 1) (.slice A 1 k) 1 (ctL { onlyK 9 with ft := x.f }) ∧ Grw g X w') := Lib.hid fun X A1 k1 K => closes_ne g _ ev now (.slice A1 1 k1) c { onlyK 9 with ft := x.f } X K (by rw [hk]; show ¬ (8 : Int) = 9; decide)
  obtain ⟨xr, xo, xs, V1, xq, xt, V2, xd, xf, xc, xk, xw, xv, xl, xm, xa, xp, xy, xz, xn⟩ := x
  obtain ⟨ck, u1, u2, u3, u4, u5, cm, ci, cr, cj, cs, cy, cf, cv, cl⟩ := c
  dsimp only [sdC, nilV, encC, ctL, inC, onlyK, zeroC] at *
  subst hk
  have hg := K1.lt
  have hg2 : g ≠ w.heap.size := by omega
  replace K1 := K1.alloc (.cells #[.int .i64 8, .int .i64 u1, .int .i64 u2, .int .i64 u3, .int .i64 u4, .int .i64 u5, .int .u64 (cm : Int), .int .u16 ci, .int .i64 cr, .int .i64 cj, .int .u64 cs, .int .u64 cy, .int .u64 cf, .int .i64 cv, .int .i64 cl] 57)
  have K2 : Blk (w.alloc (.cells #[.int .i64 8, .int .i64 u1, .int .i64 u2, .int .i64 u3, .int .i64 u4, .int .i64 u5, .int .u64 (cm : Int), .int .u16 ci, .int .i64 cr, .int .i64 cj, .int .u64 cs, .int .u64 cy, .int .u64 cf, .int .i64 cv, .int .i64 cl] 57)) w.heap.size 57 #[.int .i64 8, .int .i64 u1, .int .i64 u2, .int .i64 u3, .int .i64 u4, .int .i64 u5, .int .u64 (cm : Int), .int .u16 ci, .int .i64 cr, .int .i64 cj, .int .u64 cs, .int .u64 cy, .int .u64 cf, .int .i64 cv, .int .i64 cl] := Blk.fresh _ _ _
  have BX := (Grw.refl g w).alloc (.cells #[.int .i64 8, .int .i64 u1, .int .i64 u2, .int .i64 u3, .int .i64 u4, .int .i64 u5, .int .u64 (cm : Int), .int .u16 ci, .int .i64 cr, .int .i64 cj, .int .u64 cs, .int .u64 cy, .int .u64 cf, .int .i64 cv, .int .i64 cl] 57)
  go_enter Try.func50, Try.ntmps50
  go_upto_region 1 with (fail)
  generalize w.alloc (.cells #[.int .i64 8, .int .i64 u1, .int .i64 u2, .int .i64 u3, .int .i64 u4, .int .i64 u5, .int .u64 (cm : Int), .int .u16 ci, .int .i64 cr, .int .i64 cj, .int .u64 cs, .int .u64 cy, .int .u64 cf, .int .i64 cv, .int .i64 cl] 57) = W0 at *
  go_upto_region 3 with (first | (refine wpList_load_row_w rfl 57 (.tmp 3) rfl w.heap.size rfl 57 _ (0, 0) _ K2 Try.underlying57 rfl (by kernel_rfl) ?_) | (go_at_call 77; refine (HCo.out W0 K1).mono ?_; rintro e W1 ⟨rfl, b9⟩; replace K1 := K1.below b9 K1.lt; replace K2 := K2.below b9 K2.lt; replace BX := BX.thenB b9; clear b9))
  have K1' : Blk W1.drew (g) 80 #[.int .i64 xr, .int .i64 xo, .int .i64 xs, V1, .int .i64 xq, .int .i64 xt, V2, .bool xd, .int .u64 xf, .int .u64 xc, .bool xk, .bool xw, .int .i64 xv, .int .i64 xl, .int .i64 xm, .int .u64 xa, .int .u64 xp, .int .u64 xy, .int .i64 xz, .int .i64 xn, .int .u16 ev, .int .i64 now, .slice none 0 0, .slice none 0 0] := Mem.Blk.drew K1
  have K2' : Blk W1.drew (w.heap.size) 57 #[.int .i64 8, .int .i64 u1, .int .i64 u2, .int .i64 u3, .int .i64 u4, .int .i64 u5, .int .u64 (cm : Int), .int .u16 ci, .int .i64 cr, .int .i64 cj, .int .u64 cs, .int .u64 cy, .int .u64 cf, .int .i64 cv, .int .i64 cl] := Mem.Blk.drew K2
  refine wp_region_held_drew (S := (fun w' => Blk w' (w.heap.size) 57 #[.int .i64 8, .int .i64 u1, .int .i64 u2, .int .i64 u3, .int .i64 u4, .int .i64 u5, .int .u64 (cm : Int), .int .u16 ci, .int .i64 cr, .int .i64 cj, .int .u64 cs, .int .u64 cy, .int .u64 cf, .int .i64 cv, .int .i64 cl] ∧ w'.cell? ⟨g, 8, none⟩ = some (.int .u64 xf))) (by kernel_rfl) ?_ (fun hHeld => ?_)
  · exact ⟨K2', K1'.cell 8⟩
  replace K1 := K1'
  clear K1'
  replace K2 := K2'
  clear K2'
  replace BX : Grw g w W1.drew := BX.drew
  generalize W1.drew = X0 at *
  refine wpAnyH_take (i := 0) (v := .pointer (some ⟨g, 0, none⟩)) rfl (by kernel_rfl) (by kernel_rfl) (by kernel_rfl) (fun _ _ _ h => h) (Or.inl ⟨by first | rfl | go_simp, by intro w9 hSw; (try dsimp only at hSw); go_simp⟩) (by assumption) ?_
  simp only [List.getElem_toArray, List.getElem_cons_zero, List.getElem_cons_succ, Act.put, List.setIfInBounds_toArray, List.set_cons_zero, List.set_cons_succ]
  refine wpAnyH_take (i := 1) (v := .pointer (some ⟨g, 0, none⟩)) rfl (by kernel_rfl) (by kernel_rfl) (by kernel_rfl) (fun _ _ _ h => h) (Or.inl ⟨by first | rfl | go_simp, by intro w9 hSw; (try dsimp only at hSw); go_simp⟩) (by assumption) ?_
  simp only [List.getElem_toArray, List.getElem_cons_zero, List.getElem_cons_succ, Act.put, List.setIfInBounds_toArray, List.set_cons_zero, List.set_cons_succ]
  refine wpAnyH_take (i := 2) (v := .pointer (some ⟨g, 0, none⟩)) rfl (by kernel_rfl) (by kernel_rfl) (by kernel_rfl) (fun _ _ _ h => h) (Or.inl ⟨by first | rfl | go_simp, by intro w9 hSw; (try dsimp only at hSw); go_simp⟩) (by assumption) ?_
  simp only [List.getElem_toArray, List.getElem_cons_zero, List.getElem_cons_succ, Act.put, List.setIfInBounds_toArray, List.set_cons_zero, List.set_cons_succ]
  refine wpAnyH_take (i := 3) (v := .pointer (some ⟨g, 0, none⟩)) rfl (by kernel_rfl) (by kernel_rfl) (by kernel_rfl) (fun _ _ _ h => h) (Or.inl ⟨by first | rfl | go_simp, by intro w9 hSw; (try dsimp only at hSw); go_simp⟩) (by assumption) ?_
  simp only [List.getElem_toArray, List.getElem_cons_zero, List.getElem_cons_succ, Act.put, List.setIfInBounds_toArray, List.set_cons_zero, List.set_cons_succ]
  refine wpAnyH_take (i := 4) (v := .pointer (some ⟨g, 8, none⟩)) rfl (by kernel_rfl) (by kernel_rfl) (by kernel_rfl) (fun _ _ _ h => h) (Or.inl ⟨by first | rfl | go_simp, by intro w9 hSw; (try dsimp only at hSw); go_simp⟩) (by assumption) ?_
  simp only [List.getElem_toArray, List.getElem_cons_zero, List.getElem_cons_succ, Act.put, List.setIfInBounds_toArray, List.set_cons_zero, List.set_cons_succ]
  refine wpAnyH_take (i := 5) (v := .int .u64 xf) rfl (by kernel_rfl) (by kernel_rfl) (by kernel_rfl) (fun _ _ _ h => h) (Or.inl ⟨by first | rfl | go_simp, by intro w9 hSw; (try dsimp only at hSw); go_simp⟩) (by assumption) ?_
  simp only [List.getElem_toArray, List.getElem_cons_zero, List.getElem_cons_succ, Act.put, List.setIfInBounds_toArray, List.set_cons_zero, List.set_cons_succ]
  refine wpAnyH_take (i := 6) (v := .pointer (some ⟨w.heap.size, 12, none⟩)) rfl (by kernel_rfl) (by kernel_rfl) (by kernel_rfl) (fun _ _ _ h => h) (Or.inl ⟨by first | rfl | go_simp, by intro w9 hSw; (try dsimp only at hSw); go_simp⟩) (by assumption) ?_
  simp only [List.getElem_toArray, List.getElem_cons_zero, List.getElem_cons_succ, Act.put, List.setIfInBounds_toArray, List.set_cons_zero, List.set_cons_succ]
  refine wpAnyH_take (i := 7) (v := .int .u64 cf) rfl (by kernel_rfl) (by kernel_rfl) (by kernel_rfl) (fun _ _ _ h => h) (Or.inl ⟨by first | rfl | go_simp, by intro w9 hSw; (try dsimp only at hSw); have c9 := hSw.1.cell 12; clear hSw; go_simp⟩) (by assumption) ?_
  simp only [List.getElem_toArray, List.getElem_cons_zero, List.getElem_cons_succ, Act.put, List.setIfInBounds_toArray, List.set_cons_zero, List.set_cons_succ]
  refine wpAnyH_take (i := 8) (v := .int .u64 za) rfl (by kernel_rfl) (by kernel_rfl) (by kernel_rfl) (fun _ _ _ h => h) (Or.inl ⟨by first | rfl | go_simp, by intro w9 hSw; (try dsimp only at hSw); go_simp⟩) (by assumption) ?_
  simp only [List.getElem_toArray, List.getElem_cons_zero, List.getElem_cons_succ, Act.put, List.setIfInBounds_toArray, List.set_cons_zero, List.set_cons_succ]
  refine wpAnyH_take (i := 9) (v := .pointer (some ⟨g, 0, none⟩)) rfl (by kernel_rfl) (by kernel_rfl) (by kernel_rfl) (fun _ _ _ h => h) (Or.inl ⟨by first | rfl | go_simp, by intro w9 hSw; (try dsimp only at hSw); go_simp⟩) (by assumption) ?_
  simp only [List.getElem_toArray, List.getElem_cons_zero, List.getElem_cons_succ, Act.put, List.setIfInBounds_toArray, List.set_cons_zero, List.set_cons_succ]
  refine wpAnyH_take (i := 10) (v := .pointer (some ⟨g, 9, none⟩)) rfl (by kernel_rfl) (by kernel_rfl) (by kernel_rfl) (fun _ _ _ h => h) (Or.inl ⟨by first | rfl | go_simp, by intro w9 hSw; (try dsimp only at hSw); go_simp⟩) (by assumption) ?_
  simp only [List.getElem_toArray, List.getElem_cons_zero, List.getElem_cons_succ, Act.put, List.setIfInBounds_toArray, List.set_cons_zero, List.set_cons_succ]
  refine wpAnyH_ready (rs := [11]) (by kernel_rfl) (by simp) ?_
  refine AllReadyH.cons rfl (fun K hK => ?_) (AllReadyH.nil)
  refine Av.step_store_cell rfl _ _ _ rfl (g) 9 (.int .u64 za) rfl rfl 80 _ K1 (by show 9 < 24; decide) (by kernel_rfl) rfl ?_
  replace K1 : Blk (X0.setCell ⟨g, 9, none⟩ (.int .u64 za)) (g) 80 #[.int .i64 xr, .int .i64 xo, .int .i64 xs, V1, .int .i64 xq, .int .i64 xt, V2, .bool xd, .int .u64 xf, .int .u64 za, .bool xk, .bool xw, .int .i64 xv, .int .i64 xl, .int .i64 xm, .int .u64 xa, .int .u64 xp, .int .u64 xy, .int .i64 xz, .int .i64 xn, .int .u16 ev, .int .i64 now, .slice none 0 0, .slice none 0 0] := (Av.bset K1 9 (.int .u64 za) rfl)
  replace K2 : Blk (X0.setCell ⟨g, 9, none⟩ (.int .u64 za)) (w.heap.size) 57 #[.int .i64 8, .int .i64 u1, .int .i64 u2, .int .i64 u3, .int .i64 u4, .int .i64 u5, .int .u64 (cm : Int), .int .u16 ci, .int .i64 cr, .int .i64 cj, .int .u64 cs, .int .u64 cy, .int .u64 cf, .int .i64 cv, .int .i64 cl] := Av.bother (K2) (by omega) _
  replace BX : Grw g w (X0.setCell ⟨g, 9, none⟩ (.int .u64 za)) := (BX.setCell (p := ⟨g, 9, none⟩) (by simp only; omega) _)
  generalize (X0.setCell ⟨g, 9, none⟩ (.int .u64 za)) = X1 at *
  refine hK.out _ _ ⟨K2, K1.cell 8⟩ (fun hHeld => ?_)
  clear hK K
  try simp only [List.getElem_toArray, List.getElem_cons_zero, List.getElem_cons_succ, Act.put, List.setIfInBounds_toArray, List.set_cons_zero, List.set_cons_succ]
  refine wpAnyH_take (i := 12) (v := .pointer (some ⟨g, 0, none⟩)) rfl (by kernel_rfl) (by kernel_rfl) (by kernel_rfl) (fun _ _ _ h => h) (Or.inl ⟨by first | rfl | go_simp, by intro w9 hSw; (try dsimp only at hSw); go_simp⟩) (by assumption) ?_
  simp only [List.getElem_toArray, List.getElem_cons_zero, List.getElem_cons_succ, Act.put, List.setIfInBounds_toArray, List.set_cons_zero, List.set_cons_succ]
  refine wpAnyH_take (i := 13) (v := .pointer (some ⟨g, 10, none⟩)) rfl (by kernel_rfl) (by kernel_rfl) (by kernel_rfl) (fun _ _ _ h => h) (Or.inl ⟨by first | rfl | go_simp, by intro w9 hSw; (try dsimp only at hSw); go_simp⟩) (by assumption) ?_
  simp only [List.getElem_toArray, List.getElem_cons_zero, List.getElem_cons_succ, Act.put, List.setIfInBounds_toArray, List.set_cons_zero, List.set_cons_succ]
  refine wpAnyH_ready (rs := [14]) (by kernel_rfl) (by simp) ?_
  refine AllReadyH.cons rfl (fun K hK => ?_) (AllReadyH.nil)
  refine Av.step_store_cell rfl _ _ _ rfl (g) 10 (.bool true) rfl rfl 80 _ K1 (by show 10 < 24; decide) (by kernel_rfl) rfl ?_
  replace K1 : Blk (X1.setCell ⟨g, 10, none⟩ (.bool true)) (g) 80 #[.int .i64 xr, .int .i64 xo, .int .i64 xs, V1, .int .i64 xq, .int .i64 xt, V2, .bool xd, .int .u64 xf, .int .u64 za, .bool true, .bool xw, .int .i64 xv, .int .i64 xl, .int .i64 xm, .int .u64 xa, .int .u64 xp, .int .u64 xy, .int .i64 xz, .int .i64 xn, .int .u16 ev, .int .i64 now, .slice none 0 0, .slice none 0 0] := (Av.bset K1 10 (.bool true) rfl)
  replace K2 : Blk (X1.setCell ⟨g, 10, none⟩ (.bool true)) (w.heap.size) 57 #[.int .i64 8, .int .i64 u1, .int .i64 u2, .int .i64 u3, .int .i64 u4, .int .i64 u5, .int .u64 (cm : Int), .int .u16 ci, .int .i64 cr, .int .i64 cj, .int .u64 cs, .int .u64 cy, .int .u64 cf, .int .i64 cv, .int .i64 cl] := Av.bother (K2) (by omega) _
  replace BX : Grw g w (X1.setCell ⟨g, 10, none⟩ (.bool true)) := (BX.setCell (p := ⟨g, 10, none⟩) (by simp only; omega) _)
  generalize (X1.setCell ⟨g, 10, none⟩ (.bool true)) = X2 at *
  refine hK.out _ _ ⟨K2, K1.cell 8⟩ (fun hHeld => ?_)
  clear hK K
  try simp only [List.getElem_toArray, List.getElem_cons_zero, List.getElem_cons_succ, Act.put, List.setIfInBounds_toArray, List.set_cons_zero, List.set_cons_succ]
  refine wpAnyH_done (by kernel_rfl) ?_ _
  have k9 := K1.cell 9
  go_upto_region 5 with (go_at_call 76; refine (HRp.out X2 K1).mono ?_; rintro e X9 ⟨rfl, A9, c9, K9, R9, G9⟩; replace K2 := G9.blk K2 (Ne.symm hg2); replace BX := BX.trans G9; replace K1 := K9; clear K9 G9 k9)
  have K1' : Blk X9.drew (g) 80 #[.int .i64 xr, .int .i64 xo, .int .i64 xs, V1, .int .i64 xq, .int .i64 xt, V2, .bool xd, .int .u64 xf, .int .u64 za, .bool true, .bool xw, .int .i64 xv, .int .i64 xl, .int .i64 xm, .int .u64 xa, .int .u64 xp, .int .u64 xy, .int .i64 xz, .int .i64 xn, .int .u16 ev, .int .i64 now, .slice none 0 0, .slice A9 1 c9] := Mem.Blk.drew K1
  have K2' : Blk X9.drew (w.heap.size) 57 #[.int .i64 8, .int .i64 u1, .int .i64 u2, .int .i64 u3, .int .i64 u4, .int .i64 u5, .int .u64 (cm : Int), .int .u16 ci, .int .i64 cr, .int .i64 cj, .int .u64 cs, .int .u64 cy, .int .u64 cf, .int .i64 cv, .int .i64 cl] := Mem.Blk.drew K2
  refine wp_region_held_drew (S := (fun w' => Blk w' (w.heap.size) 57 #[.int .i64 8, .int .i64 u1, .int .i64 u2, .int .i64 u3, .int .i64 u4, .int .i64 u5, .int .u64 (cm : Int), .int .u16 ci, .int .i64 cr, .int .i64 cj, .int .u64 cs, .int .u64 cy, .int .u64 cf, .int .i64 cv, .int .i64 cl] ∧ w'.cell? ⟨g, 8, none⟩ = some (.int .u64 xf))) (by kernel_rfl) ?_ (fun hHeld => ?_)
  · exact ⟨K2', K1'.cell 8⟩
  replace K1 := K1'
  clear K1'
  replace K2 := K2'
  clear K2'
  replace BX : Grw g w X9.drew := BX.drew
  replace R9 := Row.drew R9
  generalize X9.drew = Y0 at *
  refine wpAnyH_take (i := 0) (v := .pointer (some ⟨g, 0, none⟩)) rfl (by kernel_rfl) (by kernel_rfl) (by kernel_rfl) (fun _ _ _ h => h) (Or.inl ⟨by first | rfl | go_simp, by intro w9 hSw; (try dsimp only at hSw); go_simp⟩) (by assumption) ?_
  simp only [List.getElem_toArray, List.getElem_cons_zero, List.getElem_cons_succ, Act.put, List.setIfInBounds_toArray, List.set_cons_zero, List.set_cons_succ]
  refine wpAnyH_take (i := 1) (v := .agg #[.int .i64 8, .int .i64 u1, .int .i64 u2, .int .i64 u3, .int .i64 u4, .int .i64 u5, .int .u64 (cm : Int), .int .u16 ci, .int .i64 cr, .int .i64 cj, .int .u64 cs, .int .u64 cy, .int .u64 cf, .int .i64 cv, .int .i64 cl]) rfl (by kernel_rfl) (by kernel_rfl) (by kernel_rfl) (fun _ _ _ h => h) (Av.yields_part (by first | rfl | go_simp) _ _ rfl (w.heap.size) 0 rfl #[.int .i64 8, .int .i64 u1, .int .i64 u2, .int .i64 u3, .int .i64 u4, .int .i64 u5, .int .u64 (cm : Int), .int .u16 ci, .int .i64 cr, .int .i64 cj, .int .u64 cs, .int .u64 cy, .int .u64 cf, .int .i64 cv, .int .i64 cl] _ 57 #[.int .i64 8, .int .i64 u1, .int .i64 u2, .int .i64 u3, .int .i64 u4, .int .i64 u5, .int .u64 (cm : Int), .int .u16 ci, .int .i64 cr, .int .i64 cj, .int .u64 cs, .int .u64 cy, .int .u64 cf, .int .i64 cv, .int .i64 cl] (fun w9 hSw => hSw.1) rfl Try.underlying57 rfl (by kernel_rfl)) (by assumption) ?_
  simp only [List.getElem_toArray, List.getElem_cons_zero, List.getElem_cons_succ, Act.put, List.setIfInBounds_toArray, List.set_cons_zero, List.set_cons_succ]
  refine wpAnyH_take (i := 2) (v := .pointer (some ⟨g, 0, none⟩)) rfl (by kernel_rfl) (by kernel_rfl) (by kernel_rfl) (fun _ _ _ h => h) (Or.inl ⟨by first | rfl | go_simp, by intro w9 hSw; (try dsimp only at hSw); go_simp⟩) (by assumption) ?_
  simp only [List.getElem_toArray, List.getElem_cons_zero, List.getElem_cons_succ, Act.put, List.setIfInBounds_toArray, List.set_cons_zero, List.set_cons_succ]
  refine wpAnyH_take (i := 3) (v := .pointer (some ⟨g, 0, none⟩)) rfl (by kernel_rfl) (by kernel_rfl) (by kernel_rfl) (fun _ _ _ h => h) (Or.inl ⟨by first | rfl | go_simp, by intro w9 hSw; (try dsimp only at hSw); go_simp⟩) (by assumption) ?_
  simp only [List.getElem_toArray, List.getElem_cons_zero, List.getElem_cons_succ, Act.put, List.setIfInBounds_toArray, List.set_cons_zero, List.set_cons_succ]
  refine wpAnyH_take (i := 4) (v := .pointer (some ⟨g, 8, none⟩)) rfl (by kernel_rfl) (by kernel_rfl) (by kernel_rfl) (fun _ _ _ h => h) (Or.inl ⟨by first | rfl | go_simp, by intro w9 hSw; (try dsimp only at hSw); go_simp⟩) (by assumption) ?_
  simp only [List.getElem_toArray, List.getElem_cons_zero, List.getElem_cons_succ, Act.put, List.setIfInBounds_toArray, List.set_cons_zero, List.set_cons_succ]
  refine wpAnyH_take (i := 5) (v := .int .u64 xf) rfl (by kernel_rfl) (by kernel_rfl) (by kernel_rfl) (fun _ _ _ h => h) (Or.inl ⟨by first | rfl | go_simp, by intro w9 hSw; (try dsimp only at hSw); go_simp⟩) (by assumption) ?_
  simp only [List.getElem_toArray, List.getElem_cons_zero, List.getElem_cons_succ, Act.put, List.setIfInBounds_toArray, List.set_cons_zero, List.set_cons_succ]
  refine wpAnyH_take (i := 6) (v := .agg #[.int .i64 9, .int .i64 0, .int .i64 0, .int .i64 0, .int .i64 0, .int .i64 0, .int .u64 0, .int .u16 0, .int .i64 0, .int .i64 0, .int .u64 0, .int .u64 0, .int .u64 xf, .int .i64 0, .int .i64 0]) rfl (by kernel_rfl) (by kernel_rfl) (by kernel_rfl) (fun _ _ _ h => h) (Av.yields_build (by first | rfl | go_simp) _ _ rfl #[.int .i64 9, .int .i64 0, .int .i64 0, .int .i64 0, .int .i64 0, .int .i64 0, .int .u64 0, .int .u16 0, .int .i64 0, .int .i64 0, .int .u64 0, .int .u64 0, .int .u64 xf, .int .i64 0, .int .i64 0] (by kernel_rfl)) (by assumption) ?_
  simp only [List.getElem_toArray, List.getElem_cons_zero, List.getElem_cons_succ, Act.put, List.setIfInBounds_toArray, List.set_cons_zero, List.set_cons_succ]
  refine wpAnyH_ready (rs := [7]) (by kernel_rfl) (by simp) ?_
  refine AllReadyH.cons rfl (fun K hK => ?_) (AllReadyH.nil)
  go_simp
  refine (HCl.out Y0 A9 c9 K1).mono ?_
  rintro e Y1 ⟨rfl, A8, c8, K9, R8, G9⟩
  replace R9 := G9.row R9 (by omega)
  replace BX := BX.trans G9
  replace K2 := G9.blk K2 (Ne.symm hg2)
  replace K1 := K9
  clear K9 G9
  refine hK.out _ _ ⟨K2, K1.cell 8⟩ (fun hHeld => ?_)
  clear hK K
  try simp only [List.getElem_toArray, List.getElem_cons_zero, List.getElem_cons_succ, Act.put, List.setIfInBounds_toArray, List.set_cons_zero, List.set_cons_succ]
  refine wpAnyH_done (by kernel_rfl) ?_ _
  go_wp2_with fail
  go_end0
  exact ⟨rfl, A8, c8, A9, c9, K1, R8, R9, BX⟩
end Go.Proofs.Ytpoagepchlfemaa.Pc
