/- Decode: the document's. -/
import Derived.Test.YtcjlliilfecmnaaDoorKM6
set_option linter.unusedVariables false
set_option linter.unusedSimpArgs false
namespace Go.Proofs.YtcjlliilfecmnaaDoor.Cn
open Go.RowKit Mem Clk Rw

set_option maxRecDepth 100000 in
set_option maxHeartbeats 2000000 in
theorem rdecode_any_short (A : Option Addr) (n c : Nat) (xs : List Int) (w : World) (hx : xs.length = n) (hnc : n ≤ c) (hn : n ≤ 140737488351232) (bxs : Bytes xs) (hr : Ints .u8 w w.heap.size A xs) (hs : n < 25) :
    Calls Tryd.prog 44 #[.slice A n c] w fun e w' => e = .returned (.tuple #[parN (decR xs).1, .int .i64 (decR xs).2]) ∧ Below w.heap.size w w' := by
  have hsz : (w.alloc (.cells #[.int .u32 0, .int .u32 0, .int .i64 0, .int .i64 0, .int .i64 0, .int .i64 0, .int .i64 0, .int .u64 0, .int .i64 0, .int .i64 0, .int .i64 0] 31)).heap.size = w.heap.size + 1 := by simp
  have G0 : Mem.Blk (w.alloc (.cells #[.int .u32 0, .int .u32 0, .int .i64 0, .int .i64 0, .int .i64 0, .int .i64 0, .int .i64 0, .int .u64 0, .int .i64 0, .int .i64 0, .int .i64 0] 31)) w.heap.size 31 _ := Blk.fresh w _ _
  have hbel : Below w.heap.size w (w.alloc (.cells #[.int .u32 0, .int .u32 0, .int .i64 0, .int .i64 0, .int .i64 0, .int .i64 0, .int .i64 0, .int .u64 0, .int .i64 0, .int .i64 0, .int .i64 0] 31)) := (Below.refl _ w).alloc (Nat.le_refl _) _
  have hr1 := Base.kept hr (.cells #[.int .u32 0, .int .u32 0, .int .i64 0, .int .i64 0, .int .i64 0, .int .i64 0, .int .i64 0, .int .u64 0, .int .i64 0, .int .i64 0, .int .i64 0] 31)
  have HD : Hid (decR xs = (zrL, 3)) := Lib.hid (by unfold decR; rw [if_pos (by omega)])
  go_enter Tryd.func44, Tryd.ntmps44
  go_wp2_with fail
  generalize w.alloc (.cells #[.int .u32 0, .int .u32 0, .int .i64 0, .int .i64 0, .int .i64 0, .int .i64 0, .int .i64 0, .int .u64 0, .int .i64 0, .int .i64 0, .int .i64 0] 31) = W at *
  have hg0 := G0.lt
  have hr2 := Base.kept hr1 (.cells #[.int .i64 4, .int .i64 3, .int .i64 1, .int .i64 2, .int .i64 2, .int .i64 2, .int .i64 2, .int .i64 5, .int .i64 1, .int .i64 2, .int .i64 1] 3)
  have L := Base.litg .i64 W szL #[.int .i64 4, .int .i64 3, .int .i64 1, .int .i64 2, .int .i64 2, .int .i64 2, .int .i64 2, .int .i64 5, .int .i64 1, .int .i64 2, .int .i64 1] 3 (w.heap.size + 1) hsz.symm rfl
  have b0 : Below W.heap.size W (W.alloc (.cells #[.int .i64 4, .int .i64 3, .int .i64 1, .int .i64 2, .int .i64 2, .int .i64 2, .int .i64 2, .int .i64 5, .int .i64 1, .int .i64 2, .int .i64 1] 3)) := (Below.refl _ W).alloc (Nat.le_refl _) _
  go_wp2_with (first
    | (go_at_call 61; refine (rtake_short A _ _ c 11 xs _ hx hnc hn bxs hr2 L hs).mono ?_; rintro e w1 ⟨⟨A1, c1, A2, c2, rfl⟩, b1⟩; have b2 := Base.alloc1 _ _ b1; have B1 := thenB hbel b2; have G1 := G0.below b2 hg0; obtain ⟨c0, c1, c2, c3, c4, c5, c6, c7, c8, c9, c10⟩ := elv_of (m := 0) G1; obtain ⟨z0, z1, z2, z3, z4, z5, z6, z7, z8, z9, z10⟩ := par_frz G1))
  have RR := par_set (.int .u32 0) (.int .u32 0) (.int .i64 0) (.int .i64 0) (.int .i64 0) (.int .i64 0) (.int .i64 0) (.int .u64 0) (.int .i64 0) (.int .i64 0) (.int .i64 0) G1
  have BE := par_below (g := w.heap.size) (.int .u32 0) (.int .u32 0) (.int .i64 0) (.int .i64 0) (.int .i64 0) (.int .i64 0) (.int .i64 0) (.int .u64 0) (.int .i64 0) (.int .i64 0) (.int .i64 0) B1 (Nat.le_refl _)
  obtain ⟨r0, r1, r2, r3, r4, r5, r6, r7, r8, r9, r10⟩ := elv_of (m := 0) RR
  refine bodyPost_ret (v := .tuple #[.agg #[.int .u32 0, .int .u32 0, .int .i64 0, .int .i64 0, .int .i64 0, .int .i64 0, .int .i64 0, .int .u64 0, .int .i64 0, .int .i64 0, .int .i64 0], .int .i64 3]) ?_ rfl ⟨by rw [HD.out]; first | rfl | (rw [parN_nm]; rfl), BE⟩
  simp [results, Tryd.f44, go_sem, r0, r1, r2, r3, r4, r5, r6, r7, r8, r9, r10]
set_option maxRecDepth 100000 in
set_option maxHeartbeats 2000000 in
theorem rdecode_any_long (A : Option Addr) (n c : Nat) (xs : List Int) (w : World) (hx : xs.length = n) (hnc : n ≤ c) (hn : n ≤ 140737488351232) (bxs : Bytes xs) (hr : Ints .u8 w w.heap.size A xs) (hl : 25 < n) :
    Calls Tryd.prog 44 #[.slice A n c] w fun e w' => e = .returned (.tuple #[parN (decR xs).1, .int .i64 (decR xs).2]) ∧ Below w.heap.size w w' := by
  have hsz : (w.alloc (.cells #[.int .u32 0, .int .u32 0, .int .i64 0, .int .i64 0, .int .i64 0, .int .i64 0, .int .i64 0, .int .u64 0, .int .i64 0, .int .i64 0, .int .i64 0] 31)).heap.size = w.heap.size + 1 := by simp
  have G0 : Mem.Blk (w.alloc (.cells #[.int .u32 0, .int .u32 0, .int .i64 0, .int .i64 0, .int .i64 0, .int .i64 0, .int .i64 0, .int .u64 0, .int .i64 0, .int .i64 0, .int .i64 0] 31)) w.heap.size 31 _ := Blk.fresh w _ _
  have hbel : Below w.heap.size w (w.alloc (.cells #[.int .u32 0, .int .u32 0, .int .i64 0, .int .i64 0, .int .i64 0, .int .i64 0, .int .i64 0, .int .u64 0, .int .i64 0, .int .i64 0, .int .i64 0] 31)) := (Below.refl _ w).alloc (Nat.le_refl _) _
  have hr1 := Base.kept hr (.cells #[.int .u32 0, .int .u32 0, .int .i64 0, .int .i64 0, .int .i64 0, .int .i64 0, .int .i64 0, .int .u64 0, .int .i64 0, .int .i64 0, .int .i64 0] 31)
  have HD : Hid (decR xs = (zrL, 2)) := Lib.hid (by unfold decR; rw [if_neg (by omega), if_pos (by omega)])
  have hs : 25 ≤ n := by omega
  have q1 : decide ((0 : Int) < ((n - 25 : Nat) : Int)) = true := by simp; omega
  have q2 : decide (0 < n - 25) = true := by simp; omega
  have HS := Lib.hid hs
  clear hl hs
  generalize hk : n - 25 = k at *
  have HK := Lib.hid hk
  clear hk
  go_enter Tryd.func44, Tryd.ntmps44
  go_wp2_with fail
  generalize w.alloc (.cells #[.int .u32 0, .int .u32 0, .int .i64 0, .int .i64 0, .int .i64 0, .int .i64 0, .int .i64 0, .int .u64 0, .int .i64 0, .int .i64 0, .int .i64 0] 31) = W at *
  have hg0 := G0.lt
  have hr2 := Base.kept hr1 (.cells #[.int .i64 4, .int .i64 3, .int .i64 1, .int .i64 2, .int .i64 2, .int .i64 2, .int .i64 2, .int .i64 5, .int .i64 1, .int .i64 2, .int .i64 1] 3)
  have L := Base.litg .i64 W szL #[.int .i64 4, .int .i64 3, .int .i64 1, .int .i64 2, .int .i64 2, .int .i64 2, .int .i64 2, .int .i64 5, .int .i64 1, .int .i64 2, .int .i64 1] 3 (w.heap.size + 1) hsz.symm rfl
  have b0 : Below W.heap.size W (W.alloc (.cells #[.int .i64 4, .int .i64 3, .int .i64 1, .int .i64 2, .int .i64 2, .int .i64 2, .int .i64 2, .int .i64 5, .int .i64 1, .int .i64 2, .int .i64 1] 3)) := (Below.refl _ W).alloc (Nat.le_refl _) _
  go_wp2_with (first
    | (go_at_call 61; refine (rtake_good A _ _ c 11 xs _ hx hnc hn bxs hr2 L HS.out).mono ?_; rw [HK.out]; rintro e w1 ⟨⟨q, qc, A2, c2, rfl, hq, hqc, HN⟩, b1⟩; have b2 := Base.alloc1 _ _ b1; have B1 := thenB hbel b2; have G1 := G0.below b2 hg0; obtain ⟨c0, c1, c2, c3, c4, c5, c6, c7, c8, c9, c10⟩ := elv_of (m := 0) G1; obtain ⟨z0, z1, z2, z3, z4, z5, z6, z7, z8, z9, z10⟩ := par_frz G1))
  have RR := par_set (.int .u32 0) (.int .u32 0) (.int .i64 0) (.int .i64 0) (.int .i64 0) (.int .i64 0) (.int .i64 0) (.int .u64 0) (.int .i64 0) (.int .i64 0) (.int .i64 0) G1
  have BE := par_below (g := w.heap.size) (.int .u32 0) (.int .u32 0) (.int .i64 0) (.int .i64 0) (.int .i64 0) (.int .i64 0) (.int .i64 0) (.int .u64 0) (.int .i64 0) (.int .i64 0) (.int .i64 0) B1 (Nat.le_refl _)
  obtain ⟨r0, r1, r2, r3, r4, r5, r6, r7, r8, r9, r10⟩ := elv_of (m := 0) RR
  refine bodyPost_ret (v := .tuple #[.agg #[.int .u32 0, .int .u32 0, .int .i64 0, .int .i64 0, .int .i64 0, .int .i64 0, .int .i64 0, .int .u64 0, .int .i64 0, .int .i64 0, .int .i64 0], .int .i64 2]) ?_ rfl ⟨by rw [HD.out]; first | rfl | (rw [parN_nm]; rfl), BE⟩
  simp [results, Tryd.f44, go_sem, r0, r1, r2, r3, r4, r5, r6, r7, r8, r9, r10]
set_option maxRecDepth 100000 in
set_option maxHeartbeats 20000000 in
theorem rdecode_any_exact (A : Option Addr) (n c : Nat) (xs : List Int) (w : World) (hx : xs.length = n) (hnc : n ≤ c) (hn : n ≤ 140737488351232) (bxs : Bytes xs) (hr : Ints .u8 w w.heap.size A xs) (hl : n = 25) :
    Calls Tryd.prog 44 #[.slice A n c] w fun e w' => e = .returned (.tuple #[parN (decR xs).1, .int .i64 (decR xs).2]) ∧ Below w.heap.size w w' := by
  subst hl
  have hsz : (w.alloc (.cells #[.int .u32 0, .int .u32 0, .int .i64 0, .int .i64 0, .int .i64 0, .int .i64 0, .int .i64 0, .int .u64 0, .int .i64 0, .int .i64 0, .int .i64 0] 31)).heap.size = w.heap.size + 1 := by simp
  have G0 : Mem.Blk (w.alloc (.cells #[.int .u32 0, .int .u32 0, .int .i64 0, .int .i64 0, .int .i64 0, .int .i64 0, .int .i64 0, .int .u64 0, .int .i64 0, .int .i64 0, .int .i64 0] 31)) w.heap.size 31 _ := Blk.fresh w _ _
  have hbel : Below w.heap.size w (w.alloc (.cells #[.int .u32 0, .int .u32 0, .int .i64 0, .int .i64 0, .int .i64 0, .int .i64 0, .int .i64 0, .int .u64 0, .int .i64 0, .int .i64 0, .int .i64 0] 31)) := (Below.refl _ w).alloc (Nat.le_refl _) _
  have hr1 := Base.kept hr (.cells #[.int .u32 0, .int .u32 0, .int .i64 0, .int .i64 0, .int .i64 0, .int .i64 0, .int .i64 0, .int .u64 0, .int .i64 0, .int .i64 0, .int .i64 0] 31)
  obtain ⟨a, b, s, o, i, l, t, m, h, d, g, hN, hW, hP⟩ := form_of bxs hx
  have HNM := Lib.hid hN
  obtain ⟨R, hR⟩ : ∃ R, okP a b s o i l t m h d g = R := ⟨_, rfl⟩
  have HD0 : Hid (R = 0 → decR xs = (nmL a b s o i l t m h d g, 0)) := Lib.hid fun k => by
    unfold decR; rw [if_neg (by omega), if_neg (by omega), hN, okN_nm, hR, if_pos k]
  have HD1 : Hid (R ≠ 0 → decR xs = (zrL, R)) := Lib.hid fun k => by
    unfold decR; rw [if_neg (by omega), if_neg (by omega), hN, okN_nm, hR, if_neg k]
  have HC := Lib.hid fun w => rcheck_any a b s o i l t h d g m w (by have := hW.hm; omega)
  rw [hR] at HC
  obtain ⟨wa, wb, ws, wo, wi, wl, wt, wm, wh, wd, wg⟩ := hW
  have v0 : IntKind.u32.wrap a = a := by rw [IntKind.wrap_u32]; omega
  have v1 : IntKind.u32.wrap b = b := by rw [IntKind.wrap_u32]; omega
  have v2 : IntKind.i64.wrap s = s := i64_in _ (by omega)
  have v3 : IntKind.i64.wrap o = o := i64_in _ (by omega)
  have v4 : IntKind.i64.wrap i = i := i64_in _ (by omega)
  have v5 : IntKind.i64.wrap l = l := i64_in _ (by omega)
  have v6 : IntKind.i64.wrap t = t := i64_in _ (by omega)
  have v8 : IntKind.i64.wrap h = h := i64_in _ (by omega)
  have v9 : IntKind.i64.wrap d = d := i64_in _ (by omega)
  have v10 : IntKind.i64.wrap g = g := i64_in _ (by omega)
  clear hR hN hP wa wb ws wo wi wl wt wm wh wd wg
  go_enter Tryd.func44, Tryd.ntmps44
  go_wp2_with fail
  generalize w.alloc (.cells #[.int .u32 0, .int .u32 0, .int .i64 0, .int .i64 0, .int .i64 0, .int .i64 0, .int .i64 0, .int .u64 0, .int .i64 0, .int .i64 0, .int .i64 0] 31) = W at *
  have hg0 := G0.lt
  have hr2 := Base.kept hr1 (.cells #[.int .i64 4, .int .i64 3, .int .i64 1, .int .i64 2, .int .i64 2, .int .i64 2, .int .i64 2, .int .i64 5, .int .i64 1, .int .i64 2, .int .i64 1] 3)
  have L := Base.litg .i64 W szL #[.int .i64 4, .int .i64 3, .int .i64 1, .int .i64 2, .int .i64 2, .int .i64 2, .int .i64 2, .int .i64 5, .int .i64 1, .int .i64 2, .int .i64 1] 3 (w.heap.size + 1) hsz.symm rfl
  have b0 : Below W.heap.size W (W.alloc (.cells #[.int .i64 4, .int .i64 3, .int .i64 1, .int .i64 2, .int .i64 2, .int .i64 2, .int .i64 2, .int .i64 5, .int .i64 1, .int .i64 2, .int .i64 1] 3)) := (Below.refl _ W).alloc (Nat.le_refl _) _
  go_wp2_with (first
    | (go_at_call 61; refine (rtake_good A _ _ c 11 xs _ hx hnc hn bxs hr2 L (Nat.le_refl 25)).mono ?_; rintro e w1 ⟨⟨q, qc, A2, c2, rfl, hq, hqc, HN⟩, b1⟩; have b2 := Base.alloc1 _ _ b1; have B1 := thenB hbel b2; have G1 := G0.below b2 hg0; have hg1 := G1.lt; have NW := HN _ _ _ _ _ _ _ _ _ _ _ HNM.out))
  refine wp_region_held_drew (S := (fun w' => Nums w' q a b s o i l t m h d g)) (by kernel_rfl) ?_ (fun hHeld => ?_)
  · exact NW
  have NX : Nums w1.drew q a b s o i l t m h d g := NW
  have NU := NX
  have BX0 : Below w1.heap.size w1 w1.drew := (Below.refl _ w1).drew
  have BZ := Below.refl w1.drew.heap.size w1.drew
  have BZs := BZ.size
  clear NW
  generalize w1.drew = X0 at *
  refine wpAnyH_take (i := 0) (v := .slice (some ⟨q, 0, none⟩) 11 qc) rfl (by kernel_rfl) (by kernel_rfl) (by kernel_rfl) (fun _ _ _ h => h) (Or.inl ⟨by first | rfl | go_simp, by intro w9 hSw; (try dsimp only at hSw); go_simp⟩) (by assumption) ?_
  simp only [List.getElem_toArray, List.getElem_cons_zero, List.getElem_cons_succ, Act.put, List.setIfInBounds_toArray, List.set_cons_zero, List.set_cons_succ]
  refine wpAnyH_take (i := 1) (v := .pointer (some ⟨q, 2, none⟩)) rfl (by kernel_rfl) (by kernel_rfl) (by kernel_rfl) (fun _ _ _ h => h) (Or.inl ⟨by first | rfl | go_simp, by intro w9 hSw; (try dsimp only at hSw); go_simp⟩) (by assumption) ?_
  simp only [List.getElem_toArray, List.getElem_cons_zero, List.getElem_cons_succ, Act.put, List.setIfInBounds_toArray, List.set_cons_zero, List.set_cons_succ]
  refine wpAnyH_take (i := 2) (v := .int .u64 s) rfl (by kernel_rfl) (by kernel_rfl) (by kernel_rfl) (fun _ _ _ h => h) (Or.inl ⟨by first | rfl | go_simp, by intro w9 hSw; (try dsimp only at hSw); go_simp⟩) (by assumption) ?_
  simp only [List.getElem_toArray, List.getElem_cons_zero, List.getElem_cons_succ, Act.put, List.setIfInBounds_toArray, List.set_cons_zero, List.set_cons_succ]
  refine wpAnyH_take (i := 3) (v := .int .i64 s) rfl (by kernel_rfl) (by kernel_rfl) (by kernel_rfl) (fun _ _ _ h => h) (Or.inl ⟨by first | rfl | go_simp, by intro w9 hSw; (try dsimp only at hSw); go_simp⟩) (by assumption) ?_
  simp only [List.getElem_toArray, List.getElem_cons_zero, List.getElem_cons_succ, Act.put, List.setIfInBounds_toArray, List.set_cons_zero, List.set_cons_succ]
  refine wpAnyH_take (i := 4) (v := .slice (some ⟨q, 0, none⟩) 11 qc) rfl (by kernel_rfl) (by kernel_rfl) (by kernel_rfl) (fun _ _ _ h => h) (Or.inl ⟨by first | rfl | go_simp, by intro w9 hSw; (try dsimp only at hSw); go_simp⟩) (by assumption) ?_
  simp only [List.getElem_toArray, List.getElem_cons_zero, List.getElem_cons_succ, Act.put, List.setIfInBounds_toArray, List.set_cons_zero, List.set_cons_succ]
  refine wpAnyH_take (i := 5) (v := .pointer (some ⟨q, 3, none⟩)) rfl (by kernel_rfl) (by kernel_rfl) (by kernel_rfl) (fun _ _ _ h => h) (Or.inl ⟨by first | rfl | go_simp, by intro w9 hSw; (try dsimp only at hSw); go_simp⟩) (by assumption) ?_
  simp only [List.getElem_toArray, List.getElem_cons_zero, List.getElem_cons_succ, Act.put, List.setIfInBounds_toArray, List.set_cons_zero, List.set_cons_succ]
  refine wpAnyH_take (i := 6) (v := .int .u64 o) rfl (by kernel_rfl) (by kernel_rfl) (by kernel_rfl) (fun _ _ _ h => h) (Or.inl ⟨by first | rfl | go_simp, by intro w9 hSw; (try dsimp only at hSw); go_simp⟩) (by assumption) ?_
  simp only [List.getElem_toArray, List.getElem_cons_zero, List.getElem_cons_succ, Act.put, List.setIfInBounds_toArray, List.set_cons_zero, List.set_cons_succ]
  refine wpAnyH_take (i := 7) (v := .int .i64 o) rfl (by kernel_rfl) (by kernel_rfl) (by kernel_rfl) (fun _ _ _ h => h) (Or.inl ⟨by first | rfl | go_simp, by intro w9 hSw; (try dsimp only at hSw); go_simp⟩) (by assumption) ?_
  simp only [List.getElem_toArray, List.getElem_cons_zero, List.getElem_cons_succ, Act.put, List.setIfInBounds_toArray, List.set_cons_zero, List.set_cons_succ]
  refine wpAnyH_take (i := 8) (v := .slice (some ⟨q, 0, none⟩) 11 qc) rfl (by kernel_rfl) (by kernel_rfl) (by kernel_rfl) (fun _ _ _ h => h) (Or.inl ⟨by first | rfl | go_simp, by intro w9 hSw; (try dsimp only at hSw); go_simp⟩) (by assumption) ?_
  simp only [List.getElem_toArray, List.getElem_cons_zero, List.getElem_cons_succ, Act.put, List.setIfInBounds_toArray, List.set_cons_zero, List.set_cons_succ]
  refine wpAnyH_take (i := 9) (v := .pointer (some ⟨q, 4, none⟩)) rfl (by kernel_rfl) (by kernel_rfl) (by kernel_rfl) (fun _ _ _ h => h) (Or.inl ⟨by first | rfl | go_simp, by intro w9 hSw; (try dsimp only at hSw); go_simp⟩) (by assumption) ?_
  simp only [List.getElem_toArray, List.getElem_cons_zero, List.getElem_cons_succ, Act.put, List.setIfInBounds_toArray, List.set_cons_zero, List.set_cons_succ]
  refine wpAnyH_take (i := 10) (v := .int .u64 i) rfl (by kernel_rfl) (by kernel_rfl) (by kernel_rfl) (fun _ _ _ h => h) (Or.inl ⟨by first | rfl | go_simp, by intro w9 hSw; (try dsimp only at hSw); go_simp⟩) (by assumption) ?_
  simp only [List.getElem_toArray, List.getElem_cons_zero, List.getElem_cons_succ, Act.put, List.setIfInBounds_toArray, List.set_cons_zero, List.set_cons_succ]
  refine wpAnyH_take (i := 11) (v := .int .i64 i) rfl (by kernel_rfl) (by kernel_rfl) (by kernel_rfl) (fun _ _ _ h => h) (Or.inl ⟨by first | rfl | go_simp, by intro w9 hSw; (try dsimp only at hSw); go_simp⟩) (by assumption) ?_
  simp only [List.getElem_toArray, List.getElem_cons_zero, List.getElem_cons_succ, Act.put, List.setIfInBounds_toArray, List.set_cons_zero, List.set_cons_succ]
  refine wpAnyH_take (i := 12) (v := .slice (some ⟨q, 0, none⟩) 11 qc) rfl (by kernel_rfl) (by kernel_rfl) (by kernel_rfl) (fun _ _ _ h => h) (Or.inl ⟨by first | rfl | go_simp, by intro w9 hSw; (try dsimp only at hSw); go_simp⟩) (by assumption) ?_
  simp only [List.getElem_toArray, List.getElem_cons_zero, List.getElem_cons_succ, Act.put, List.setIfInBounds_toArray, List.set_cons_zero, List.set_cons_succ]
  refine wpAnyH_take (i := 13) (v := .pointer (some ⟨q, 5, none⟩)) rfl (by kernel_rfl) (by kernel_rfl) (by kernel_rfl) (fun _ _ _ h => h) (Or.inl ⟨by first | rfl | go_simp, by intro w9 hSw; (try dsimp only at hSw); go_simp⟩) (by assumption) ?_
  simp only [List.getElem_toArray, List.getElem_cons_zero, List.getElem_cons_succ, Act.put, List.setIfInBounds_toArray, List.set_cons_zero, List.set_cons_succ]
  refine wpAnyH_take (i := 14) (v := .int .u64 l) rfl (by kernel_rfl) (by kernel_rfl) (by kernel_rfl) (fun _ _ _ h => h) (Or.inl ⟨by first | rfl | go_simp, by intro w9 hSw; (try dsimp only at hSw); go_simp⟩) (by assumption) ?_
  simp only [List.getElem_toArray, List.getElem_cons_zero, List.getElem_cons_succ, Act.put, List.setIfInBounds_toArray, List.set_cons_zero, List.set_cons_succ]
  refine wpAnyH_take (i := 15) (v := .int .i64 l) rfl (by kernel_rfl) (by kernel_rfl) (by kernel_rfl) (fun _ _ _ h => h) (Or.inl ⟨by first | rfl | go_simp, by intro w9 hSw; (try dsimp only at hSw); go_simp⟩) (by assumption) ?_
  simp only [List.getElem_toArray, List.getElem_cons_zero, List.getElem_cons_succ, Act.put, List.setIfInBounds_toArray, List.set_cons_zero, List.set_cons_succ]
  refine wpAnyH_take (i := 16) (v := .slice (some ⟨q, 0, none⟩) 11 qc) rfl (by kernel_rfl) (by kernel_rfl) (by kernel_rfl) (fun _ _ _ h => h) (Or.inl ⟨by first | rfl | go_simp, by intro w9 hSw; (try dsimp only at hSw); go_simp⟩) (by assumption) ?_
  simp only [List.getElem_toArray, List.getElem_cons_zero, List.getElem_cons_succ, Act.put, List.setIfInBounds_toArray, List.set_cons_zero, List.set_cons_succ]
  refine wpAnyH_take (i := 17) (v := .pointer (some ⟨q, 6, none⟩)) rfl (by kernel_rfl) (by kernel_rfl) (by kernel_rfl) (fun _ _ _ h => h) (Or.inl ⟨by first | rfl | go_simp, by intro w9 hSw; (try dsimp only at hSw); go_simp⟩) (by assumption) ?_
  simp only [List.getElem_toArray, List.getElem_cons_zero, List.getElem_cons_succ, Act.put, List.setIfInBounds_toArray, List.set_cons_zero, List.set_cons_succ]
  refine wpAnyH_take (i := 18) (v := .int .u64 t) rfl (by kernel_rfl) (by kernel_rfl) (by kernel_rfl) (fun _ _ _ h => h) (Or.inl ⟨by first | rfl | go_simp, by intro w9 hSw; (try dsimp only at hSw); go_simp⟩) (by assumption) ?_
  simp only [List.getElem_toArray, List.getElem_cons_zero, List.getElem_cons_succ, Act.put, List.setIfInBounds_toArray, List.set_cons_zero, List.set_cons_succ]
  refine wpAnyH_take (i := 19) (v := .int .i64 t) rfl (by kernel_rfl) (by kernel_rfl) (by kernel_rfl) (fun _ _ _ h => h) (Or.inl ⟨by first | rfl | go_simp, by intro w9 hSw; (try dsimp only at hSw); go_simp⟩) (by assumption) ?_
  simp only [List.getElem_toArray, List.getElem_cons_zero, List.getElem_cons_succ, Act.put, List.setIfInBounds_toArray, List.set_cons_zero, List.set_cons_succ]
  refine wpAnyH_take (i := 20) (v := .agg #[.int .i64 s, .int .i64 o, .int .i64 i, .int .i64 l, .int .i64 t]) rfl (by kernel_rfl) (by kernel_rfl) (by kernel_rfl) (fun _ _ _ h => h) (Or.inl ⟨by first | rfl | go_simp, by intro w9 hSw; (try dsimp only at hSw); go_simp⟩) (by assumption) ?_
  simp only [List.getElem_toArray, List.getElem_cons_zero, List.getElem_cons_succ, Act.put, List.setIfInBounds_toArray, List.set_cons_zero, List.set_cons_succ]
  refine wpAnyH_ready (rs := [21]) (by kernel_rfl) (by simp) ?_
  refine AllReadyH.cons rfl (fun K hK => ?_) (AllReadyH.nil)
  go_simp
  have PU := Blk.fresh X0 28 #[.int .i64 0, .int .i64 0, .int .i64 0, .int .i64 0, .int .i64 0]
  have BZ := BZ.alloc BZ.size (.cells #[.int .i64 0, .int .i64 0, .int .i64 0, .int .i64 0, .int .i64 0] 28)
  have gPU : X0.heap.size ≤ X0.heap.size := BZs
  have BZs := BZ.size
  have NU := nums_below NX BZ
  generalize X0.alloc (.cells #[.int .i64 0, .int .i64 0, .int .i64 0, .int .i64 0, .int .i64 0] 28) = X1 at *
  refine hK.out _ _ NU (fun hHeld => ?_)
  clear hK K
  try simp only [List.getElem_toArray, List.getElem_cons_zero, List.getElem_cons_succ, Act.put, List.setIfInBounds_toArray, List.set_cons_zero, List.set_cons_succ]
  refine wpAnyH_ready (rs := [22]) (by kernel_rfl) (by simp) ?_
  refine AllReadyH.cons rfl (fun K hK => ?_) (AllReadyH.nil)
  obtain ⟨c0, c1, c2, c3, c4⟩ := five_of PU
  have z0 := frz PU 0
  have z1 := frz PU 1
  have z2 := frz PU 2
  have z3 := frz PU 3
  have z4 := frz PU 4
  have BZ := upd_below' (g := X0.heap.size) (.int .i64 s) (.int .i64 o) (.int .i64 i) (.int .i64 l) (.int .i64 t) BZ gPU
  have BZs := BZ.size
  have PU := upd_set (.int .i64 s) (.int .i64 o) (.int .i64 i) (.int .i64 l) (.int .i64 t) PU
  go_simp
  clear c0 c1 c2 c3 c4 z0 z1 z2 z3 z4
  have NU := nums_below NX BZ
  generalize (((((X1.setCell ⟨X0.heap.size, 0, none⟩ (.int .i64 s)).setCell ⟨X0.heap.size, 1, none⟩ (.int .i64 o)).setCell ⟨X0.heap.size, 2, none⟩ (.int .i64 i)).setCell ⟨X0.heap.size, 3, none⟩ (.int .i64 l)).setCell ⟨X0.heap.size, 4, none⟩ (.int .i64 t)) = X2 at *
  refine hK.out _ _ NU (fun hHeld => ?_)
  clear hK K
  try simp only [List.getElem_toArray, List.getElem_cons_zero, List.getElem_cons_succ, Act.put, List.setIfInBounds_toArray, List.set_cons_zero, List.set_cons_succ]
  refine wpAnyH_done (by kernel_rfl) ?_ _
  go_wp2_with fail
  refine wp_region_held_drew (S := (fun w' => Nums w' q a b s o i l t m h d g ∧ Five w' X0.heap.size s o i l t)) (by kernel_rfl) ?_ (fun hHeld => ?_)
  · exact ⟨NU, five_of PU⟩
  have NX : Nums X2.drew q a b s o i l t m h d g := NU
  have NU := NX
  have FX : Five X2.drew X0.heap.size s o i l t := five_of PU
  have FU := FX
  have BZY : Below X0.heap.size X0 X2.drew := BZ.drew
  have BZ2 := Below.refl X2.drew.heap.size X2.drew
  have BZs := BZ2.size
  clear BZ PU
  generalize X2.drew = Y0 at *
  refine wpAnyH_take (i := 0) (v := .slice (some ⟨q, 0, none⟩) 11 qc) rfl (by kernel_rfl) (by kernel_rfl) (by kernel_rfl) (fun _ _ _ h => h) (Or.inl ⟨by first | rfl | go_simp, by intro w9 hSw; (try dsimp only at hSw); go_simp⟩) (by assumption) ?_
  simp only [List.getElem_toArray, List.getElem_cons_zero, List.getElem_cons_succ, Act.put, List.setIfInBounds_toArray, List.set_cons_zero, List.set_cons_succ]
  refine wpAnyH_take (i := 1) (v := .pointer (some ⟨q, 0, none⟩)) rfl (by kernel_rfl) (by kernel_rfl) (by kernel_rfl) (fun _ _ _ h => h) (Or.inl ⟨by first | rfl | go_simp, by intro w9 hSw; (try dsimp only at hSw); go_simp⟩) (by assumption) ?_
  simp only [List.getElem_toArray, List.getElem_cons_zero, List.getElem_cons_succ, Act.put, List.setIfInBounds_toArray, List.set_cons_zero, List.set_cons_succ]
  refine wpAnyH_take (i := 2) (v := .int .u64 a) rfl (by kernel_rfl) (by kernel_rfl) (by kernel_rfl) (fun _ _ _ h => h) (Or.inl ⟨by first | rfl | go_simp, by intro w9 hSw; (try dsimp only at hSw); go_simp⟩) (by assumption) ?_
  simp only [List.getElem_toArray, List.getElem_cons_zero, List.getElem_cons_succ, Act.put, List.setIfInBounds_toArray, List.set_cons_zero, List.set_cons_succ]
  refine wpAnyH_take (i := 3) (v := .int .u32 a) rfl (by kernel_rfl) (by kernel_rfl) (by kernel_rfl) (fun _ _ _ h => h) (Or.inl ⟨by first | rfl | go_simp, by intro w9 hSw; (try dsimp only at hSw); go_simp⟩) (by assumption) ?_
  simp only [List.getElem_toArray, List.getElem_cons_zero, List.getElem_cons_succ, Act.put, List.setIfInBounds_toArray, List.set_cons_zero, List.set_cons_succ]
  refine wpAnyH_take (i := 4) (v := .slice (some ⟨q, 0, none⟩) 11 qc) rfl (by kernel_rfl) (by kernel_rfl) (by kernel_rfl) (fun _ _ _ h => h) (Or.inl ⟨by first | rfl | go_simp, by intro w9 hSw; (try dsimp only at hSw); go_simp⟩) (by assumption) ?_
  simp only [List.getElem_toArray, List.getElem_cons_zero, List.getElem_cons_succ, Act.put, List.setIfInBounds_toArray, List.set_cons_zero, List.set_cons_succ]
  refine wpAnyH_take (i := 5) (v := .pointer (some ⟨q, 1, none⟩)) rfl (by kernel_rfl) (by kernel_rfl) (by kernel_rfl) (fun _ _ _ h => h) (Or.inl ⟨by first | rfl | go_simp, by intro w9 hSw; (try dsimp only at hSw); go_simp⟩) (by assumption) ?_
  simp only [List.getElem_toArray, List.getElem_cons_zero, List.getElem_cons_succ, Act.put, List.setIfInBounds_toArray, List.set_cons_zero, List.set_cons_succ]
  refine wpAnyH_take (i := 6) (v := .int .u64 b) rfl (by kernel_rfl) (by kernel_rfl) (by kernel_rfl) (fun _ _ _ h => h) (Or.inl ⟨by first | rfl | go_simp, by intro w9 hSw; (try dsimp only at hSw); go_simp⟩) (by assumption) ?_
  simp only [List.getElem_toArray, List.getElem_cons_zero, List.getElem_cons_succ, Act.put, List.setIfInBounds_toArray, List.set_cons_zero, List.set_cons_succ]
  refine wpAnyH_take (i := 7) (v := .int .u32 b) rfl (by kernel_rfl) (by kernel_rfl) (by kernel_rfl) (fun _ _ _ h => h) (Or.inl ⟨by first | rfl | go_simp, by intro w9 hSw; (try dsimp only at hSw); go_simp⟩) (by assumption) ?_
  simp only [List.getElem_toArray, List.getElem_cons_zero, List.getElem_cons_succ, Act.put, List.setIfInBounds_toArray, List.set_cons_zero, List.set_cons_succ]
  refine wpAnyH_take (i := 8) (v := .agg #[.int .i64 s, .int .i64 o, .int .i64 i, .int .i64 l, .int .i64 t]) rfl (by kernel_rfl) (by kernel_rfl) (by kernel_rfl) (fun _ _ _ h => h) (Or.inl ⟨by first | rfl | go_simp, by intro w9 hSw; (try dsimp only at hSw); go_simp⟩) (by assumption) ?_
  simp only [List.getElem_toArray, List.getElem_cons_zero, List.getElem_cons_succ, Act.put, List.setIfInBounds_toArray, List.set_cons_zero, List.set_cons_succ]
  refine wpAnyH_take (i := 9) (v := .slice (some ⟨q, 0, none⟩) 11 qc) rfl (by kernel_rfl) (by kernel_rfl) (by kernel_rfl) (fun _ _ _ h => h) (Or.inl ⟨by first | rfl | go_simp, by intro w9 hSw; (try dsimp only at hSw); go_simp⟩) (by assumption) ?_
  simp only [List.getElem_toArray, List.getElem_cons_zero, List.getElem_cons_succ, Act.put, List.setIfInBounds_toArray, List.set_cons_zero, List.set_cons_succ]
  refine wpAnyH_take (i := 10) (v := .pointer (some ⟨q, 7, none⟩)) rfl (by kernel_rfl) (by kernel_rfl) (by kernel_rfl) (fun _ _ _ h => h) (Or.inl ⟨by first | rfl | go_simp, by intro w9 hSw; (try dsimp only at hSw); go_simp⟩) (by assumption) ?_
  simp only [List.getElem_toArray, List.getElem_cons_zero, List.getElem_cons_succ, Act.put, List.setIfInBounds_toArray, List.set_cons_zero, List.set_cons_succ]
  refine wpAnyH_take (i := 11) (v := .int .u64 (m : Int)) rfl (by kernel_rfl) (by kernel_rfl) (by kernel_rfl) (fun _ _ _ h => h) (Or.inl ⟨by first | rfl | go_simp, by intro w9 hSw; (try dsimp only at hSw); go_simp⟩) (by assumption) ?_
  simp only [List.getElem_toArray, List.getElem_cons_zero, List.getElem_cons_succ, Act.put, List.setIfInBounds_toArray, List.set_cons_zero, List.set_cons_succ]
  refine wpAnyH_take (i := 12) (v := .slice (some ⟨q, 0, none⟩) 11 qc) rfl (by kernel_rfl) (by kernel_rfl) (by kernel_rfl) (fun _ _ _ h => h) (Or.inl ⟨by first | rfl | go_simp, by intro w9 hSw; (try dsimp only at hSw); go_simp⟩) (by assumption) ?_
  simp only [List.getElem_toArray, List.getElem_cons_zero, List.getElem_cons_succ, Act.put, List.setIfInBounds_toArray, List.set_cons_zero, List.set_cons_succ]
  refine wpAnyH_take (i := 13) (v := .pointer (some ⟨q, 8, none⟩)) rfl (by kernel_rfl) (by kernel_rfl) (by kernel_rfl) (fun _ _ _ h => h) (Or.inl ⟨by first | rfl | go_simp, by intro w9 hSw; (try dsimp only at hSw); go_simp⟩) (by assumption) ?_
  simp only [List.getElem_toArray, List.getElem_cons_zero, List.getElem_cons_succ, Act.put, List.setIfInBounds_toArray, List.set_cons_zero, List.set_cons_succ]
  refine wpAnyH_take (i := 14) (v := .int .u64 h) rfl (by kernel_rfl) (by kernel_rfl) (by kernel_rfl) (fun _ _ _ h => h) (Or.inl ⟨by first | rfl | go_simp, by intro w9 hSw; (try dsimp only at hSw); go_simp⟩) (by assumption) ?_
  simp only [List.getElem_toArray, List.getElem_cons_zero, List.getElem_cons_succ, Act.put, List.setIfInBounds_toArray, List.set_cons_zero, List.set_cons_succ]
  refine wpAnyH_take (i := 15) (v := .int .i64 h) rfl (by kernel_rfl) (by kernel_rfl) (by kernel_rfl) (fun _ _ _ h => h) (Or.inl ⟨by first | rfl | go_simp, by intro w9 hSw; (try dsimp only at hSw); go_simp⟩) (by assumption) ?_
  simp only [List.getElem_toArray, List.getElem_cons_zero, List.getElem_cons_succ, Act.put, List.setIfInBounds_toArray, List.set_cons_zero, List.set_cons_succ]
  refine wpAnyH_take (i := 16) (v := .slice (some ⟨q, 0, none⟩) 11 qc) rfl (by kernel_rfl) (by kernel_rfl) (by kernel_rfl) (fun _ _ _ h => h) (Or.inl ⟨by first | rfl | go_simp, by intro w9 hSw; (try dsimp only at hSw); go_simp⟩) (by assumption) ?_
  simp only [List.getElem_toArray, List.getElem_cons_zero, List.getElem_cons_succ, Act.put, List.setIfInBounds_toArray, List.set_cons_zero, List.set_cons_succ]
  refine wpAnyH_take (i := 17) (v := .pointer (some ⟨q, 9, none⟩)) rfl (by kernel_rfl) (by kernel_rfl) (by kernel_rfl) (fun _ _ _ h => h) (Or.inl ⟨by first | rfl | go_simp, by intro w9 hSw; (try dsimp only at hSw); go_simp⟩) (by assumption) ?_
  simp only [List.getElem_toArray, List.getElem_cons_zero, List.getElem_cons_succ, Act.put, List.setIfInBounds_toArray, List.set_cons_zero, List.set_cons_succ]
  refine wpAnyH_take (i := 18) (v := .int .u64 d) rfl (by kernel_rfl) (by kernel_rfl) (by kernel_rfl) (fun _ _ _ h => h) (Or.inl ⟨by first | rfl | go_simp, by intro w9 hSw; (try dsimp only at hSw); go_simp⟩) (by assumption) ?_
  simp only [List.getElem_toArray, List.getElem_cons_zero, List.getElem_cons_succ, Act.put, List.setIfInBounds_toArray, List.set_cons_zero, List.set_cons_succ]
  refine wpAnyH_take (i := 19) (v := .int .i64 d) rfl (by kernel_rfl) (by kernel_rfl) (by kernel_rfl) (fun _ _ _ h => h) (Or.inl ⟨by first | rfl | go_simp, by intro w9 hSw; (try dsimp only at hSw); go_simp⟩) (by assumption) ?_
  simp only [List.getElem_toArray, List.getElem_cons_zero, List.getElem_cons_succ, Act.put, List.setIfInBounds_toArray, List.set_cons_zero, List.set_cons_succ]
  refine wpAnyH_take (i := 20) (v := .slice (some ⟨q, 0, none⟩) 11 qc) rfl (by kernel_rfl) (by kernel_rfl) (by kernel_rfl) (fun _ _ _ h => h) (Or.inl ⟨by first | rfl | go_simp, by intro w9 hSw; (try dsimp only at hSw); go_simp⟩) (by assumption) ?_
  simp only [List.getElem_toArray, List.getElem_cons_zero, List.getElem_cons_succ, Act.put, List.setIfInBounds_toArray, List.set_cons_zero, List.set_cons_succ]
  refine wpAnyH_take (i := 21) (v := .pointer (some ⟨q, 10, none⟩)) rfl (by kernel_rfl) (by kernel_rfl) (by kernel_rfl) (fun _ _ _ h => h) (Or.inl ⟨by first | rfl | go_simp, by intro w9 hSw; (try dsimp only at hSw); go_simp⟩) (by assumption) ?_
  simp only [List.getElem_toArray, List.getElem_cons_zero, List.getElem_cons_succ, Act.put, List.setIfInBounds_toArray, List.set_cons_zero, List.set_cons_succ]
  refine wpAnyH_take (i := 22) (v := .int .u64 g) rfl (by kernel_rfl) (by kernel_rfl) (by kernel_rfl) (fun _ _ _ h => h) (Or.inl ⟨by first | rfl | go_simp, by intro w9 hSw; (try dsimp only at hSw); go_simp⟩) (by assumption) ?_
  simp only [List.getElem_toArray, List.getElem_cons_zero, List.getElem_cons_succ, Act.put, List.setIfInBounds_toArray, List.set_cons_zero, List.set_cons_succ]
  refine wpAnyH_take (i := 23) (v := .int .i64 g) rfl (by kernel_rfl) (by kernel_rfl) (by kernel_rfl) (fun _ _ _ h => h) (Or.inl ⟨by first | rfl | go_simp, by intro w9 hSw; (try dsimp only at hSw); go_simp⟩) (by assumption) ?_
  simp only [List.getElem_toArray, List.getElem_cons_zero, List.getElem_cons_succ, Act.put, List.setIfInBounds_toArray, List.set_cons_zero, List.set_cons_succ]
  refine wpAnyH_take (i := 24) (v := .agg #[.int .u32 a, .int .u32 b, .int .i64 s, .int .i64 o, .int .i64 i, .int .i64 l, .int .i64 t, .int .u64 (m : Int), .int .i64 h, .int .i64 d, .int .i64 g]) rfl (by kernel_rfl) (by kernel_rfl) (by kernel_rfl) (fun _ _ _ h => h) (Or.inl ⟨by first | rfl | go_simp, by intro w9 hSw; (try dsimp only at hSw); go_simp⟩) (by assumption) ?_
  simp only [List.getElem_toArray, List.getElem_cons_zero, List.getElem_cons_succ, Act.put, List.setIfInBounds_toArray, List.set_cons_zero, List.set_cons_succ]
  refine wpAnyH_ready (rs := [25]) (by kernel_rfl) (by simp) ?_
  refine AllReadyH.cons rfl (fun K hK => ?_) (AllReadyH.nil)
  go_simp
  have PB := Blk.fresh Y0 31 #[.int .u32 0, .int .u32 0, .int .i64 0, .int .i64 0, .int .i64 0, .int .i64 0, .int .i64 0, .int .u64 0, .int .i64 0, .int .i64 0, .int .i64 0]
  have BZ2 := BZ2.alloc BZ2.size (.cells #[.int .u32 0, .int .u32 0, .int .i64 0, .int .i64 0, .int .i64 0, .int .i64 0, .int .i64 0, .int .u64 0, .int .i64 0, .int .i64 0, .int .i64 0] 31)
  have gPB : Y0.heap.size ≤ Y0.heap.size := BZs
  have BZs := BZ2.size
  have NU := nums_below NX BZ2
  have FU := five_below FX BZ2
  generalize Y0.alloc (.cells #[.int .u32 0, .int .u32 0, .int .i64 0, .int .i64 0, .int .i64 0, .int .i64 0, .int .i64 0, .int .u64 0, .int .i64 0, .int .i64 0, .int .i64 0] 31) = Y1 at *
  refine hK.out _ _ ⟨NU, FU⟩ (fun hHeld => ?_)
  clear hK K
  try simp only [List.getElem_toArray, List.getElem_cons_zero, List.getElem_cons_succ, Act.put, List.setIfInBounds_toArray, List.set_cons_zero, List.set_cons_succ]
  refine wpAnyH_ready (rs := [26]) (by kernel_rfl) (by simp) ?_
  refine AllReadyH.cons rfl (fun K hK => ?_) (AllReadyH.nil)
  obtain ⟨c0, c1, c2, c3, c4, c5, c6, c7, c8, c9, c10⟩ := elv_of (m := 0) PB
  have z0 := frz PB 0
  have z1 := frz PB 1
  have z2 := frz PB 2
  have z3 := frz PB 3
  have z4 := frz PB 4
  have z5 := frz PB 5
  have z6 := frz PB 6
  have z7 := frz PB 7
  have z8 := frz PB 8
  have z9 := frz PB 9
  have z10 := frz PB 10
  have BZ2 := par_below (g := Y0.heap.size) (.int .u32 a) (.int .u32 b) (.int .i64 s) (.int .i64 o) (.int .i64 i) (.int .i64 l) (.int .i64 t) (.int .u64 (m : Int)) (.int .i64 h) (.int .i64 d) (.int .i64 g) BZ2 gPB
  have BZs := BZ2.size
  have PB := par_set (.int .u32 a) (.int .u32 b) (.int .i64 s) (.int .i64 o) (.int .i64 i) (.int .i64 l) (.int .i64 t) (.int .u64 (m : Int)) (.int .i64 h) (.int .i64 d) (.int .i64 g) PB
  go_simp
  clear c0 c1 c2 c3 c4 c5 c6 c7 c8 c9 c10 z0 z1 z2 z3 z4 z5 z6 z7 z8 z9 z10
  have NU := nums_below NX BZ2
  have FU := five_below FX BZ2
  generalize (((((((((((Y1.setCell ⟨Y0.heap.size, 0, none⟩ (.int .u32 a)).setCell ⟨Y0.heap.size, 1, none⟩ (.int .u32 b)).setCell ⟨Y0.heap.size, 2, none⟩ (.int .i64 s)).setCell ⟨Y0.heap.size, 3, none⟩ (.int .i64 o)).setCell ⟨Y0.heap.size, 4, none⟩ (.int .i64 i)).setCell ⟨Y0.heap.size, 5, none⟩ (.int .i64 l)).setCell ⟨Y0.heap.size, 6, none⟩ (.int .i64 t)).setCell ⟨Y0.heap.size, 7, none⟩ (.int .u64 (m : Int))).setCell ⟨Y0.heap.size, 8, none⟩ (.int .i64 h)).setCell ⟨Y0.heap.size, 9, none⟩ (.int .i64 d)).setCell ⟨Y0.heap.size, 10, none⟩ (.int .i64 g)) = Y2 at *
  refine hK.out _ _ ⟨NU, FU⟩ (fun hHeld => ?_)
  clear hK K
  try simp only [List.getElem_toArray, List.getElem_cons_zero, List.getElem_cons_succ, Act.put, List.setIfInBounds_toArray, List.set_cons_zero, List.set_cons_succ]
  refine wpAnyH_done (by kernel_rfl) ?_ _
  have BZ := thenB (show Below X0.heap.size X0 Y0 from BZY) BZ2
  have PBl := PB.lt
  have GX := (G1.below BX0 hg1).below BZ (by have := BX0.size; omega)
  have hgX := GX.lt
  have BB := thenB (thenB B1 BX0) BZ
  obtain ⟨p0, p1, p2, p3, p4, p5, p6, p7, p8, p9, p10⟩ := elv_of PB
  clear NU NX hHeld
  by_cases hR : R = 0
  · have q0 : (R != 0) = false := by simp [hR]
    have HD : Hid (decR xs = (nmL a b s o i l t m h d g, 0)) := Lib.hid (HD0.out hR)
    clear HD0 HD1
    subst hR
    go_wp2_with (go_at_call 33; refine (HC.out _).mono ?_; rintro e w4 ⟨rfl, b4⟩; have GY := GX.below b4 hgX; have PY := PB.below b4 PBl; have BY := thenB BB b4; clear p0 p1 p2 p3 p4 p5 p6 p7 p8 p9 p10; obtain ⟨p0, p1, p2, p3, p4, p5, p6, p7, p8, p9, p10⟩ := elv_of PY; obtain ⟨c0, c1, c2, c3, c4, c5, c6, c7, c8, c9, c10⟩ := elv_of (m := 0) GY; obtain ⟨z0, z1, z2, z3, z4, z5, z6, z7, z8, z9, z10⟩ := par_frz GY)
    have RR := par_set (.int .u32 a) (.int .u32 b) (.int .i64 s) (.int .i64 o) (.int .i64 i) (.int .i64 l) (.int .i64 t) (.int .u64 (m : Int)) (.int .i64 h) (.int .i64 d) (.int .i64 g) GY
    have BE := par_below (g := w.heap.size) (.int .u32 a) (.int .u32 b) (.int .i64 s) (.int .i64 o) (.int .i64 i) (.int .i64 l) (.int .i64 t) (.int .u64 (m : Int)) (.int .i64 h) (.int .i64 d) (.int .i64 g) BY (Nat.le_refl _)
    obtain ⟨r0, r1, r2, r3, r4, r5, r6, r7, r8, r9, r10⟩ := elv_of (m := m) RR
    refine bodyPost_ret (v := .tuple #[.agg #[.int .u32 a, .int .u32 b, .int .i64 s, .int .i64 o, .int .i64 i, .int .i64 l, .int .i64 t, .int .u64 (m : Int), .int .i64 h, .int .i64 d, .int .i64 g], .int .i64 0]) ?_ rfl ⟨by rw [HD.out]; first | rfl | (rw [parN_nm]; rfl), BE⟩
    simp [results, Tryd.f44, go_sem, r0, r1, r2, r3, r4, r5, r6, r7, r8, r9, r10]
  · have q0 : (R != 0) = true := by simp [hR]
    have HD : Hid (decR xs = (zrL, R)) := Lib.hid (HD1.out hR)
    clear HD0 HD1 hR
    go_wp2_with (go_at_call 33; refine (HC.out _).mono ?_; rintro e w4 ⟨rfl, b4⟩; have GY := GX.below b4 hgX; have BY := thenB BB b4; clear p0 p1 p2 p3 p4 p5 p6 p7 p8 p9 p10; obtain ⟨c0, c1, c2, c3, c4, c5, c6, c7, c8, c9, c10⟩ := elv_of (m := 0) GY; obtain ⟨z0, z1, z2, z3, z4, z5, z6, z7, z8, z9, z10⟩ := par_frz GY)
    have RR := par_set (.int .u32 0) (.int .u32 0) (.int .i64 0) (.int .i64 0) (.int .i64 0) (.int .i64 0) (.int .i64 0) (.int .u64 0) (.int .i64 0) (.int .i64 0) (.int .i64 0) GY
    have BE := par_below (g := w.heap.size) (.int .u32 0) (.int .u32 0) (.int .i64 0) (.int .i64 0) (.int .i64 0) (.int .i64 0) (.int .i64 0) (.int .u64 0) (.int .i64 0) (.int .i64 0) (.int .i64 0) BY (Nat.le_refl _)
    obtain ⟨r0, r1, r2, r3, r4, r5, r6, r7, r8, r9, r10⟩ := elv_of (m := 0) RR
    refine bodyPost_ret (v := .tuple #[.agg #[.int .u32 0, .int .u32 0, .int .i64 0, .int .i64 0, .int .i64 0, .int .i64 0, .int .i64 0, .int .u64 0, .int .i64 0, .int .i64 0, .int .i64 0], .int .i64 R]) ?_ rfl ⟨by rw [HD.out]; first | rfl | (rw [parN_nm]; rfl), BE⟩
    simp [results, Tryd.f44, go_sem, r0, r1, r2, r3, r4, r5, r6, r7, r8, r9, r10]
theorem rdecode_any (A : Option Addr) (n c : Nat) (xs : List Int) (w : World) (hx : xs.length = n) (hnc : n ≤ c) (hn : n ≤ 140737488351232) (bxs : Bytes xs) (hr : Ints .u8 w w.heap.size A xs) :
    Calls Tryd.prog 44 #[.slice A n c] w fun e w' => e = .returned (.tuple #[parN (decR xs).1, .int .i64 (decR xs).2]) ∧ Below w.heap.size w w' := by
  rcases Nat.lt_trichotomy n 25 with h | h | h
  · exact rdecode_any_short A n c xs w hx hnc hn bxs hr h
  · exact rdecode_any_exact A n c xs w hx hnc hn bxs hr h
  · exact rdecode_any_long A n c xs w hx hnc hn bxs hr h
end Go.Proofs.YtcjlliilfecmnaaDoor.Cn
