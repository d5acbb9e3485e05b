/- Control procedures: what is queued and reported: contracts over the program. -/
import Derived.Test.YtpoagepchlfemaaPcW1
set_option linter.unusedVariables false
set_option linter.unusedSimpArgs false
namespace Go.Proofs.Ytpoagepchlfemaa.Pc
open Go.RowKit Mem Rw Cp
open Base (thenB)
open Av (Row)

theorem oneQ {A : Option Addr} {n c : Nat} : (Value.slice A n c).oneCell' = true := rfl
set_option maxRecDepth 100000 in
set_option maxHeartbeats 8000000 in
theorem rep_any (g : Nat) (x : Pr) (ev now k n : Int) (Q : Value) (w : World) (K1 : Blk w g 80 (sdC x ev now Q nilV)) : Calls Try.prog 76 #[.pointer (some ⟨g, 0, none⟩), .int .i64 k, .int .u64 n] w fun e w' => e = .returned (.tuple #[]) ∧ ∃ A c, Blk w' g 80 (sdC x ev now Q (.slice A 1 c)) ∧ Av.Row w' (g + 1) (.slice A 1 c) 1 (inC k n) ∧ Grw g w w' := by
  obtain ⟨iE, hi, hz, hs, hb, hc0⟩ := info_parts2 info_in rfl
  have hone := inC_one k n
  obtain ⟨xr, xo, xs, V1, xq, xt, V2, xd, xf, xc, xk, xw, xv, xl, xm, xa, xp, xy, xz, xn⟩ := x
  dsimp only [sdC, nilV, inC] at *
  have k23 := K1.cell 23
  have hg := K1.lt
  have K2 := K1.alloc (.cells #[.int .i64 k, .int .u16 0, .int .i64 0, .slice none 0 0, .int .i64 0, .int .u16 0, .int .i64 0, .int .i64 0, .int .i64 0, .int .i64 0, .int .i64 0, .int .u64 0, .int .u64 n, .int .i64 0, .int .i64 0, .int .i64 0, .int .i64 0, .int .i64 0] 66)
  have G2 := (Grw.refl g w).alloc (.cells #[.int .i64 k, .int .u16 0, .int .i64 0, .slice none 0 0, .int .i64 0, .int .u16 0, .int .i64 0, .int .i64 0, .int .i64 0, .int .i64 0, .int .i64 0, .int .u64 0, .int .u64 n, .int .i64 0, .int .i64 0, .int .i64 0, .int .i64 0, .int .i64 0] 66)
  have CA := CellsAt.lit w [.int .i64 k, .int .u16 0, .int .i64 0, .slice none 0 0, .int .i64 0, .int .u16 0, .int .i64 0, .int .i64 0, .int .i64 0, .int .i64 0, .int .i64 0, .int .u64 0, .int .u64 n, .int .i64 0, .int .i64 0, .int .i64 0, .int .i64 0, .int .i64 0] #[.int .i64 k, .int .u16 0, .int .i64 0, .slice none 0 0, .int .i64 0, .int .u16 0, .int .i64 0, .int .i64 0, .int .i64 0, .int .i64 0, .int .i64 0, .int .u64 0, .int .u64 n, .int .i64 0, .int .i64 0, .int .i64 0, .int .i64 0, .int .i64 0] 66 rfl
  go_enter Try.func76, Try.ntmps76
  go_wp2_with (first
    | (at_builtin; refine wpList_append_empty rfl (.tmp 10) (.tmp 14) 59 rfl 66 iE _ 18 160 Try.underlying59 hi hz hs hb hc0 (by decide) none rfl _ (some ⟨w.heap.size, 0, none⟩) 1 1 [.int .i64 k, .int .u16 0, .int .i64 0, .slice none 0 0, .int .i64 0, .int .u16 0, .int .i64 0, .int .i64 0, .int .i64 0, .int .i64 0, .int .i64 0, .int .u64 0, .int .u64 n, .int .i64 0, .int .i64 0, .int .i64 0, .int .i64 0, .int .i64 0] rfl rfl hone CA (by unfold maxLen; omega) (by omega) ?_; intro A9 c9 X5 hc9 N9 b9; replace K2 := K2.below b9 K2.lt; have R5 := of_new (m := g + 1) N9 hc9 (by simp; omega); have G5 := G2.thenB b9)
    | (refine wpList_set rfl _ _ _ rfl g 23 (.slice A9 1 c9) rfl rfl 80 _ K2 (by show 23 < 24; decide) (by kernel_rfl) rfl #[.int .i64 xr, .int .i64 xo, .int .i64 xs, V1, .int .i64 xq, .int .i64 xt, V2, .bool xd, .int .u64 xf, .int .u64 xc, .bool xk, .bool xw, .int .i64 xv, .int .i64 xl, .int .i64 xm, .int .u64 xa, .int .u64 xp, .int .u64 xy, .int .i64 xz, .int .i64 xn, .int .u16 ev, .int .i64 now, Q, .slice A9 1 c9] rfl ?_; intro X6 K6 G6))
  go_end0
  exact ⟨rfl, A9, c9, K6, G6.row R5 (by omega), G5.trans G6⟩
set_option maxRecDepth 100000 in
set_option maxHeartbeats 8000000 in
theorem enq_any (g : Nat) (x : Pr) (ev now : Int) (R : Value) (c : Ct) (w : World) (K1 : Blk w g 80 (sdC x ev now nilV R)) : Calls Try.prog 30 #[.pointer (some ⟨g, 0, none⟩), .agg (encC c)] w fun e w' => e = .returned (.tuple #[]) ∧ ∃ A k, Blk w' g 80 (sdC x ev now (.slice A 1 k) R) ∧ Av.Row w' (g + 1) (.slice A 1 k) 1 (ctL c) ∧ Grw g w w' := by
  obtain ⟨iE, hi, hz, hs, hb, hc0⟩ := info_parts2 info_ct rfl
  have hone := ctL_one c
  obtain ⟨xr, xo, xs, V1, xq, xt, V2, xd, xf, xc, xk, xw, xv, xl, xm, xa, xp, xy, xz, xn⟩ := x
  obtain ⟨ck, u1, u2, u3, u4, u5, cm, ci, cr, cj, cs, cy, cf, cv, cl⟩ := c
  dsimp only [sdC, nilV, ctL, encC] at *
  have hg := K1.lt
  replace K1 := K1.alloc (.cells #[.int .i64 ck, .int .i64 u1, .int .i64 u2, .int .i64 u3, .int .i64 u4, .int .i64 u5, .int .u64 (cm : Int), .int .u16 ci, .int .i64 cr, .int .i64 cj, .int .u64 cs, .int .u64 cy, .int .u64 cf, .int .i64 cv, .int .i64 cl] 57)
  have K2 : Blk (w.alloc (.cells #[.int .i64 ck, .int .i64 u1, .int .i64 u2, .int .i64 u3, .int .i64 u4, .int .i64 u5, .int .u64 (cm : Int), .int .u16 ci, .int .i64 cr, .int .i64 cj, .int .u64 cs, .int .u64 cy, .int .u64 cf, .int .i64 cv, .int .i64 cl] 57)) w.heap.size 57 #[.int .i64 ck, .int .i64 u1, .int .i64 u2, .int .i64 u3, .int .i64 u4, .int .i64 u5, .int .u64 (cm : Int), .int .u16 ci, .int .i64 cr, .int .i64 cj, .int .u64 cs, .int .u64 cy, .int .u64 cf, .int .i64 cv, .int .i64 cl] := Blk.fresh _ _ _
  have BX := (Grw.refl g w).alloc (.cells #[.int .i64 ck, .int .i64 u1, .int .i64 u2, .int .i64 u3, .int .i64 u4, .int .i64 u5, .int .u64 (cm : Int), .int .u16 ci, .int .i64 cr, .int .i64 cj, .int .u64 cs, .int .u64 cy, .int .u64 cf, .int .i64 cv, .int .i64 cl] 57)
  go_enter Try.func30, Try.ntmps30
  go_upto_region 1 with (fail)
  generalize w.alloc (.cells #[.int .i64 ck, .int .i64 u1, .int .i64 u2, .int .i64 u3, .int .i64 u4, .int .i64 u5, .int .u64 (cm : Int), .int .u16 ci, .int .i64 cr, .int .i64 cj, .int .u64 cs, .int .u64 cy, .int .u64 cf, .int .i64 cv, .int .i64 cl] 57) = W0 at *
  have K1' : Blk W0.drew (g) 80 #[.int .i64 xr, .int .i64 xo, .int .i64 xs, V1, .int .i64 xq, .int .i64 xt, V2, .bool xd, .int .u64 xf, .int .u64 xc, .bool xk, .bool xw, .int .i64 xv, .int .i64 xl, .int .i64 xm, .int .u64 xa, .int .u64 xp, .int .u64 xy, .int .i64 xz, .int .i64 xn, .int .u16 ev, .int .i64 now, .slice none 0 0, R] := Mem.Blk.drew K1
  have K2' : Blk W0.drew (w.heap.size) 57 #[.int .i64 ck, .int .i64 u1, .int .i64 u2, .int .i64 u3, .int .i64 u4, .int .i64 u5, .int .u64 (cm : Int), .int .u16 ci, .int .i64 cr, .int .i64 cj, .int .u64 cs, .int .u64 cy, .int .u64 cf, .int .i64 cv, .int .i64 cl] := Mem.Blk.drew K2
  refine wp_region_held_drew (S := (fun w' => Blk w' (w.heap.size) 57 #[.int .i64 ck, .int .i64 u1, .int .i64 u2, .int .i64 u3, .int .i64 u4, .int .i64 u5, .int .u64 (cm : Int), .int .u16 ci, .int .i64 cr, .int .i64 cj, .int .u64 cs, .int .u64 cy, .int .u64 cf, .int .i64 cv, .int .i64 cl])) (by kernel_rfl) ?_ (fun hHeld => ?_)
  · exact K2'
  replace K1 := K1'
  clear K1'
  replace K2 := K2'
  clear K2'
  replace BX : Grw g w W0.drew := BX.drew
  generalize W0.drew = X0 at *
  refine wpAnyH_take (i := 0) (v := .pointer (some ⟨g, 0, none⟩)) rfl (by kernel_rfl) (by kernel_rfl) (by kernel_rfl) (fun _ _ _ h => h) (Or.inl ⟨by first | rfl | go_simp, by intro w9 hSw; (try dsimp only at hSw); go_simp⟩) (by assumption) ?_
  simp only [List.getElem_toArray, List.getElem_cons_zero, List.getElem_cons_succ, Act.put, List.setIfInBounds_toArray, List.set_cons_zero, List.set_cons_succ]
  refine wpAnyH_take (i := 1) (v := .pointer (some ⟨g, 0, none⟩)) rfl (by kernel_rfl) (by kernel_rfl) (by kernel_rfl) (fun _ _ _ h => h) (Or.inl ⟨by first | rfl | go_simp, by intro w9 hSw; (try dsimp only at hSw); go_simp⟩) (by assumption) ?_
  simp only [List.getElem_toArray, List.getElem_cons_zero, List.getElem_cons_succ, Act.put, List.setIfInBounds_toArray, List.set_cons_zero, List.set_cons_succ]
  refine wpAnyH_take (i := 2) (v := .pointer (some ⟨g, 0, none⟩)) rfl (by kernel_rfl) (by kernel_rfl) (by kernel_rfl) (fun _ _ _ h => h) (Or.inl ⟨by first | rfl | go_simp, by intro w9 hSw; (try dsimp only at hSw); go_simp⟩) (by assumption) ?_
  simp only [List.getElem_toArray, List.getElem_cons_zero, List.getElem_cons_succ, Act.put, List.setIfInBounds_toArray, List.set_cons_zero, List.set_cons_succ]
  refine wpAnyH_take (i := 3) (v := .pointer (some ⟨g, 22, none⟩)) rfl (by kernel_rfl) (by kernel_rfl) (by kernel_rfl) (fun _ _ _ h => h) (Or.inl ⟨by first | rfl | go_simp, by intro w9 hSw; (try dsimp only at hSw); go_simp⟩) (by assumption) ?_
  simp only [List.getElem_toArray, List.getElem_cons_zero, List.getElem_cons_succ, Act.put, List.setIfInBounds_toArray, List.set_cons_zero, List.set_cons_succ]
  refine wpAnyH_take (i := 5) (v := .agg #[.int .i64 ck, .int .i64 u1, .int .i64 u2, .int .i64 u3, .int .i64 u4, .int .i64 u5, .int .u64 (cm : Int), .int .u16 ci, .int .i64 cr, .int .i64 cj, .int .u64 cs, .int .u64 cy, .int .u64 cf, .int .i64 cv, .int .i64 cl]) rfl (by kernel_rfl) (by kernel_rfl) (by kernel_rfl) (fun _ _ _ h => h) (Av.yields_part (by first | rfl | go_simp) _ _ rfl (w.heap.size) 0 rfl #[.int .i64 ck, .int .i64 u1, .int .i64 u2, .int .i64 u3, .int .i64 u4, .int .i64 u5, .int .u64 (cm : Int), .int .u16 ci, .int .i64 cr, .int .i64 cj, .int .u64 cs, .int .u64 cy, .int .u64 cf, .int .i64 cv, .int .i64 cl] _ 57 #[.int .i64 ck, .int .i64 u1, .int .i64 u2, .int .i64 u3, .int .i64 u4, .int .i64 u5, .int .u64 (cm : Int), .int .u16 ci, .int .i64 cr, .int .i64 cj, .int .u64 cs, .int .u64 cy, .int .u64 cf, .int .i64 cv, .int .i64 cl] (fun w9 hSw => hSw) rfl Try.underlying57 rfl (by kernel_rfl)) (by assumption) ?_
  simp only [List.getElem_toArray, List.getElem_cons_zero, List.getElem_cons_succ, Act.put, List.setIfInBounds_toArray, List.set_cons_zero, List.set_cons_succ]
  refine wpAnyH_ready (rs := [4, 6]) (by kernel_rfl) (by simp) ?_
  refine AllReadyH.cons rfl (fun K hK => ?_) (AllReadyH.cons rfl (fun K hK => ?_) (AllReadyH.nil))
  · skip
    have c90 := K1.cell 22
    go_simp
    clear c90
    refine hK.out _ _ K2 (fun hHeld => ?_)
    clear hK K
    try simp only [List.getElem_toArray, List.getElem_cons_zero, List.getElem_cons_succ, Act.put, List.setIfInBounds_toArray, List.set_cons_zero, List.set_cons_succ]
    refine wpAnyH_ready (rs := [6]) (by kernel_rfl) (by simp) ?_
    refine AllReadyH.cons rfl (fun K hK => ?_) (AllReadyH.nil)
    go_simp
    have b9 := (Below.refl X0.heap.size X0).alloc (Nat.le_refl _) (.cells #[.int .i64 ck, .int .i64 u1, .int .i64 u2, .int .i64 u3, .int .i64 u4, .int .i64 u5, .int .u64 (cm : Int), .int .u16 ci, .int .i64 cr, .int .i64 cj, .int .u64 cs, .int .u64 cy, .int .u64 cf, .int .i64 cv, .int .i64 cl] 57)
    have CA := CellsAt.lit X0 [.int .i64 ck, .int .i64 u1, .int .i64 u2, .int .i64 u3, .int .i64 u4, .int .i64 u5, .int .u64 (cm : Int), .int .u16 ci, .int .i64 cr, .int .i64 cj, .int .u64 cs, .int .u64 cy, .int .u64 cf, .int .i64 cv, .int .i64 cl] #[.int .i64 ck, .int .i64 u1, .int .i64 u2, .int .i64 u3, .int .i64 u4, .int .i64 u5, .int .u64 (cm : Int), .int .u16 ci, .int .i64 cr, .int .i64 cj, .int .u64 cs, .int .u64 cy, .int .u64 cf, .int .i64 cv, .int .i64 cl] 57 rfl
    have hX9 := K1.lt
    obtain ⟨h9, eh9⟩ : ∃ h, X0.heap.size = h := ⟨_, rfl⟩
    rw [eh9] at CA hX9
    try simp only [eh9]
    generalize X0.alloc (.cells #[.int .i64 ck, .int .i64 u1, .int .i64 u2, .int .i64 u3, .int .i64 u4, .int .i64 u5, .int .u64 (cm : Int), .int .u16 ci, .int .i64 cr, .int .i64 cj, .int .u64 cs, .int .u64 cy, .int .u64 cf, .int .i64 cv, .int .i64 cl] 57) = X1 at *
    clear eh9
    replace K1 := K1.below b9 K1.lt
    replace K2 := K2.below b9 K2.lt
    replace BX := Grw.thenB BX b9
    clear b9
    refine hK.out _ _ K2 (fun hHeld => ?_)
    clear hK K
    try simp only [List.getElem_toArray, List.getElem_cons_zero, List.getElem_cons_succ, Act.put, List.setIfInBounds_toArray, List.set_cons_zero, List.set_cons_succ]
    refine wpAnyH_ready (rs := [7]) (by kernel_rfl) (by simp) ?_
    refine AllReadyH.cons rfl (fun K hK => ?_) (AllReadyH.nil)
    refine step_append_empty rfl (.tmp 8) (.tmp 10) 24 rfl 57 iE _ 15 120 Try.underlying24 hi hz hs hb hc0 (by decide) none rfl _ (some ⟨h9, 0, none⟩) 1 1 [.int .i64 ck, .int .i64 u1, .int .i64 u2, .int .i64 u3, .int .i64 u4, .int .i64 u5, .int .u64 (cm : Int), .int .u16 ci, .int .i64 cr, .int .i64 cj, .int .u64 cs, .int .u64 cy, .int .u64 cf, .int .i64 cv, .int .i64 cl] rfl rfl hone CA (by unfold maxLen; omega) (by omega) ?_
    intro A9 c9 X2 hc9 N9 b9
    have R9 := of_new (m := g + 1) N9 hc9 (by have := K1.lt; omega)
    clear N9
    replace K1 := K1.below b9 K1.lt
    replace K2 := K2.below b9 K2.lt
    replace BX := Grw.thenB BX b9
    clear b9
    refine hK.out _ _ K2 (fun hHeld => ?_)
    clear hK K
    try simp only [List.getElem_toArray, List.getElem_cons_zero, List.getElem_cons_succ, Act.put, List.setIfInBounds_toArray, List.set_cons_zero, List.set_cons_succ]
    refine wpAnyH_take (i := 8) (v := .pointer (some ⟨g, 0, none⟩)) rfl (by kernel_rfl) (by kernel_rfl) (by kernel_rfl) (fun _ _ _ h => h) (Or.inl ⟨by first | rfl | go_simp, by intro w9 hSw; (try dsimp only at hSw); go_simp⟩) (by assumption) ?_
    simp only [List.getElem_toArray, List.getElem_cons_zero, List.getElem_cons_succ, Act.put, List.setIfInBounds_toArray, List.set_cons_zero, List.set_cons_succ]
    refine wpAnyH_take (i := 9) (v := .pointer (some ⟨g, 22, none⟩)) rfl (by kernel_rfl) (by kernel_rfl) (by kernel_rfl) (fun _ _ _ h => h) (Or.inl ⟨by first | rfl | go_simp, by intro w9 hSw; (try dsimp only at hSw); go_simp⟩) (by assumption) ?_
    simp only [List.getElem_toArray, List.getElem_cons_zero, List.getElem_cons_succ, Act.put, List.setIfInBounds_toArray, List.set_cons_zero, List.set_cons_succ]
    refine wpAnyH_ready (rs := [10]) (by kernel_rfl) (by simp) ?_
    refine AllReadyH.cons rfl (fun K hK => ?_) (AllReadyH.nil)
    refine Av.step_store_cell rfl _ _ _ rfl (g) 22 (.slice A9 1 c9) rfl rfl 80 _ K1 (by show 22 < 24; decide) (by kernel_rfl) rfl ?_
    replace R9 := Row.far (i := 22) (x := .slice A9 1 c9) R9 (show g < g + 1 by omega)
    replace K1 : Blk (X2.setCell ⟨g, 22, none⟩ (.slice A9 1 c9)) (g) 80 #[.int .i64 xr, .int .i64 xo, .int .i64 xs, V1, .int .i64 xq, .int .i64 xt, V2, .bool xd, .int .u64 xf, .int .u64 xc, .bool xk, .bool xw, .int .i64 xv, .int .i64 xl, .int .i64 xm, .int .u64 xa, .int .u64 xp, .int .u64 xy, .int .i64 xz, .int .i64 xn, .int .u16 ev, .int .i64 now, .slice A9 1 c9, R] := (Av.bset K1 22 (.slice A9 1 c9) rfl)
    replace K2 : Blk (X2.setCell ⟨g, 22, none⟩ (.slice A9 1 c9)) (w.heap.size) 57 #[.int .i64 ck, .int .i64 u1, .int .i64 u2, .int .i64 u3, .int .i64 u4, .int .i64 u5, .int .u64 (cm : Int), .int .u16 ci, .int .i64 cr, .int .i64 cj, .int .u64 cs, .int .u64 cy, .int .u64 cf, .int .i64 cv, .int .i64 cl] := Av.bother (K2) (by omega) _
    replace BX : Grw g w (X2.setCell ⟨g, 22, none⟩ (.slice A9 1 c9)) := (BX.setCell (p := ⟨g, 22, none⟩) (by simp only; omega) _)
    generalize (X2.setCell ⟨g, 22, none⟩ (.slice A9 1 c9)) = X3 at *
    refine hK.out _ _ K2 (fun hHeld => ?_)
    clear hK K
    try simp only [List.getElem_toArray, List.getElem_cons_zero, List.getElem_cons_succ, Act.put, List.setIfInBounds_toArray, List.set_cons_zero, List.set_cons_succ]
    refine wpAnyH_done (by kernel_rfl) ?_ _
    go_wp2_with fail
    go_end0
    exact ⟨rfl, A9, c9, K1, R9, BX⟩
  · skip
    go_simp
    have b9 := (Below.refl X0.heap.size X0).alloc (Nat.le_refl _) (.cells #[.int .i64 ck, .int .i64 u1, .int .i64 u2, .int .i64 u3, .int .i64 u4, .int .i64 u5, .int .u64 (cm : Int), .int .u16 ci, .int .i64 cr, .int .i64 cj, .int .u64 cs, .int .u64 cy, .int .u64 cf, .int .i64 cv, .int .i64 cl] 57)
    have CA := CellsAt.lit X0 [.int .i64 ck, .int .i64 u1, .int .i64 u2, .int .i64 u3, .int .i64 u4, .int .i64 u5, .int .u64 (cm : Int), .int .u16 ci, .int .i64 cr, .int .i64 cj, .int .u64 cs, .int .u64 cy, .int .u64 cf, .int .i64 cv, .int .i64 cl] #[.int .i64 ck, .int .i64 u1, .int .i64 u2, .int .i64 u3, .int .i64 u4, .int .i64 u5, .int .u64 (cm : Int), .int .u16 ci, .int .i64 cr, .int .i64 cj, .int .u64 cs, .int .u64 cy, .int .u64 cf, .int .i64 cv, .int .i64 cl] 57 rfl
    have hX9 := K1.lt
    obtain ⟨h9, eh9⟩ : ∃ h, X0.heap.size = h := ⟨_, rfl⟩
    rw [eh9] at CA hX9
    try simp only [eh9]
    generalize X0.alloc (.cells #[.int .i64 ck, .int .i64 u1, .int .i64 u2, .int .i64 u3, .int .i64 u4, .int .i64 u5, .int .u64 (cm : Int), .int .u16 ci, .int .i64 cr, .int .i64 cj, .int .u64 cs, .int .u64 cy, .int .u64 cf, .int .i64 cv, .int .i64 cl] 57) = X4 at *
    clear eh9
    replace K1 := K1.below b9 K1.lt
    replace K2 := K2.below b9 K2.lt
    replace BX := Grw.thenB BX b9
    clear b9
    refine hK.out _ _ K2 (fun hHeld => ?_)
    clear hK K
    try simp only [List.getElem_toArray, List.getElem_cons_zero, List.getElem_cons_succ, Act.put, List.setIfInBounds_toArray, List.set_cons_zero, List.set_cons_succ]
    refine wpAnyH_ready (rs := [4]) (by kernel_rfl) (by simp) ?_
    refine AllReadyH.cons rfl (fun K hK => ?_) (AllReadyH.nil)
    have c90 := K1.cell 22
    go_simp
    clear c90
    refine hK.out _ _ K2 (fun hHeld => ?_)
    clear hK K
    try simp only [List.getElem_toArray, List.getElem_cons_zero, List.getElem_cons_succ, Act.put, List.setIfInBounds_toArray, List.set_cons_zero, List.set_cons_succ]
    refine wpAnyH_ready (rs := [7]) (by kernel_rfl) (by simp) ?_
    refine AllReadyH.cons rfl (fun K hK => ?_) (AllReadyH.nil)
    refine step_append_empty rfl (.tmp 8) (.tmp 10) 24 rfl 57 iE _ 15 120 Try.underlying24 hi hz hs hb hc0 (by decide) none rfl _ (some ⟨h9, 0, none⟩) 1 1 [.int .i64 ck, .int .i64 u1, .int .i64 u2, .int .i64 u3, .int .i64 u4, .int .i64 u5, .int .u64 (cm : Int), .int .u16 ci, .int .i64 cr, .int .i64 cj, .int .u64 cs, .int .u64 cy, .int .u64 cf, .int .i64 cv, .int .i64 cl] rfl rfl hone CA (by unfold maxLen; omega) (by omega) ?_
    intro A9 c9 X5 hc9 N9 b9
    have R9 := of_new (m := g + 1) N9 hc9 (by have := K1.lt; omega)
    clear N9
    replace K1 := K1.below b9 K1.lt
    replace K2 := K2.below b9 K2.lt
    replace BX := Grw.thenB BX b9
    clear b9
    refine hK.out _ _ K2 (fun hHeld => ?_)
    clear hK K
    try simp only [List.getElem_toArray, List.getElem_cons_zero, List.getElem_cons_succ, Act.put, List.setIfInBounds_toArray, List.set_cons_zero, List.set_cons_succ]
    refine wpAnyH_take (i := 8) (v := .pointer (some ⟨g, 0, none⟩)) rfl (by kernel_rfl) (by kernel_rfl) (by kernel_rfl) (fun _ _ _ h => h) (Or.inl ⟨by first | rfl | go_simp, by intro w9 hSw; (try dsimp only at hSw); go_simp⟩) (by assumption) ?_
    simp only [List.getElem_toArray, List.getElem_cons_zero, List.getElem_cons_succ, Act.put, List.setIfInBounds_toArray, List.set_cons_zero, List.set_cons_succ]
    refine wpAnyH_take (i := 9) (v := .pointer (some ⟨g, 22, none⟩)) rfl (by kernel_rfl) (by kernel_rfl) (by kernel_rfl) (fun _ _ _ h => h) (Or.inl ⟨by first | rfl | go_simp, by intro w9 hSw; (try dsimp only at hSw); go_simp⟩) (by assumption) ?_
    simp only [List.getElem_toArray, List.getElem_cons_zero, List.getElem_cons_succ, Act.put, List.setIfInBounds_toArray, List.set_cons_zero, List.set_cons_succ]
    refine wpAnyH_ready (rs := [10]) (by kernel_rfl) (by simp) ?_
    refine AllReadyH.cons rfl (fun K hK => ?_) (AllReadyH.nil)
    refine Av.step_store_cell rfl _ _ _ rfl (g) 22 (.slice A9 1 c9) rfl rfl 80 _ K1 (by show 22 < 24; decide) (by kernel_rfl) rfl ?_
    replace R9 := Row.far (i := 22) (x := .slice A9 1 c9) R9 (show g < g + 1 by omega)
    replace K1 : Blk (X5.setCell ⟨g, 22, none⟩ (.slice A9 1 c9)) (g) 80 #[.int .i64 xr, .int .i64 xo, .int .i64 xs, V1, .int .i64 xq, .int .i64 xt, V2, .bool xd, .int .u64 xf, .int .u64 xc, .bool xk, .bool xw, .int .i64 xv, .int .i64 xl, .int .i64 xm, .int .u64 xa, .int .u64 xp, .int .u64 xy, .int .i64 xz, .int .i64 xn, .int .u16 ev, .int .i64 now, .slice A9 1 c9, R] := (Av.bset K1 22 (.slice A9 1 c9) rfl)
    replace K2 : Blk (X5.setCell ⟨g, 22, none⟩ (.slice A9 1 c9)) (w.heap.size) 57 #[.int .i64 ck, .int .i64 u1, .int .i64 u2, .int .i64 u3, .int .i64 u4, .int .i64 u5, .int .u64 (cm : Int), .int .u16 ci, .int .i64 cr, .int .i64 cj, .int .u64 cs, .int .u64 cy, .int .u64 cf, .int .i64 cv, .int .i64 cl] := Av.bother (K2) (by omega) _
    replace BX : Grw g w (X5.setCell ⟨g, 22, none⟩ (.slice A9 1 c9)) := (BX.setCell (p := ⟨g, 22, none⟩) (by simp only; omega) _)
    generalize (X5.setCell ⟨g, 22, none⟩ (.slice A9 1 c9)) = X6 at *
    refine hK.out _ _ K2 (fun hHeld => ?_)
    clear hK K
    try simp only [List.getElem_toArray, List.getElem_cons_zero, List.getElem_cons_succ, Act.put, List.setIfInBounds_toArray, List.set_cons_zero, List.set_cons_succ]
    refine wpAnyH_done (by kernel_rfl) ?_ _
    go_wp2_with fail
    go_end0
    exact ⟨rfl, A9, c9, K1, R9, BX⟩
end Go.Proofs.Ytpoagepchlfemaa.Pc
