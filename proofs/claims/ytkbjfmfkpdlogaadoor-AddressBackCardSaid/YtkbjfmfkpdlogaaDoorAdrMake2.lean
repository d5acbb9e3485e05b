/- Making an address of a number in the reference; comparing; checking what was read: contracts over the program. -/
import Derived.Test.YtkbjfmfkpdlogaaDoorAdrCheck
import Derived.Test.YtkbjfmfkpdlogaaDoorAdrCmp
set_option linter.unusedVariables false
set_option linter.unusedSimpArgs false
namespace Go.Proofs.YtkbjfmfkpdlogaaDoor.Adr
open Go.RowKit Mem Oct Base

/-- What is known when two numbers are laid into a box. -/
theorem wrote2 {w W : World} {B g : Nat} {x y u v : Value} {t : TypeId} (hbel : Below B w W) (hg : B ≤ g) (F : Mem.Blk W g t #[u, v]) :
    W.cell? ⟨g, 0, none⟩ = some u ∧ W.cell? ⟨g, 1, none⟩ = some v ∧ W.frozen? ⟨g, 0, none⟩ = false ∧ W.frozen? ⟨g, 1, none⟩ = false ∧
    ((W.setCell ⟨g, 0, none⟩ x).setCell ⟨g, 1, none⟩ y).cell? ⟨g, 0, none⟩ = some x ∧ ((W.setCell ⟨g, 0, none⟩ x).setCell ⟨g, 1, none⟩ y).cell? ⟨g, 1, none⟩ = some y ∧
    Below B w ((W.setCell ⟨g, 0, none⟩ x).setCell ⟨g, 1, none⟩ y) := by
  have h0 : W.cell? ⟨g, 0, none⟩ = some u := F.cell 0
  have h1 : W.cell? ⟨g, 1, none⟩ = some v := F.cell 1
  have e0 : (W.setCell ⟨g, 0, none⟩ x).cell? ⟨g, 0, none⟩ = some x := World.cell?_setCell_same' _ _ _ (by rw [h0]; rfl)
  have e1 : (W.setCell ⟨g, 0, none⟩ x).cell? ⟨g, 1, none⟩ = some v := (World.cell?_setCell_other _ _ _ _ (by simp)).trans h1
  exact ⟨h0, h1, frozen_of_row W g 0 _ t F, frozen_of_row W g 1 _ t F, (World.cell?_setCell_other _ _ _ _ (by simp)).trans e0, World.cell?_setCell_same' _ _ _ (by rw [e1]; rfl),
    hbel.trans ((((Below.refl B W).setCell (p := ⟨g, 0, none⟩) hg _).setCell (p := ⟨g, 1, none⟩) hg _))⟩
theorem checked_any (k b : Int) (w : World) (hk : -9223372036854775808 ≤ k ∧ k ≤ 9223372036854775807) (hb : 0 ≤ b ∧ b ≤ 18446744073709551615) (hT : Tab w) :
    Calls Tryd.prog 36 #[.int .i64 k, .int .u64 b] w fun e w' => e = .returned (.tuple #[.agg #[.int .i64 (if chk k b = 0 then k else 0), .int .u64 (if chk k b = 0 then b else 0)], .int .i64 (chk k b)]) ∧ Below w.heap.size w w' := by
  have hB : Below w.heap.size w ((w.alloc (.cells #[.int .i64 0, .int .u64 0] 26)).alloc (.cells #[.int .i64 k, .int .u64 b] 26)) := ((Below.refl _ _).alloc (Nat.le_refl _) _).alloc (by simp) _
  have F := (Blk.fresh w 26 #[.int .i64 0, .int .u64 0]).alloc (.cells #[.int .i64 k, .int .u64 b] 26)
  have G : Mem.Blk ((w.alloc (.cells #[.int .i64 0, .int .u64 0] 26)).alloc (.cells #[.int .i64 k, .int .u64 b] 26)) (w.heap.size + 1) 26 #[.int .i64 k, .int .u64 b] := by
    have := Blk.fresh (w.alloc (.cells #[.int .i64 0, .int .u64 0] 26)) 26 #[.int .i64 k, .int .u64 b]
    rwa [World.size_alloc] at this
  have T1 := hT.below hB
  have hc := check_any k b ((w.alloc (.cells #[.int .i64 0, .int .u64 0] 26)).alloc (.cells #[.int .i64 k, .int .u64 b] 26)) hk hb T1
  have C0 : ((w.alloc (.cells #[.int .i64 0, .int .u64 0] 26)).alloc (.cells #[.int .i64 k, .int .u64 b] 26)).cell? ⟨w.heap.size + 1, 0, none⟩ = some (.int .i64 k) := G.cell 0
  have C1 : ((w.alloc (.cells #[.int .i64 0, .int .u64 0] 26)).alloc (.cells #[.int .i64 k, .int .u64 b] 26)).cell? ⟨w.heap.size + 1, 1, none⟩ = some (.int .u64 b) := G.cell 1
  by_cases h0 : chk k b = 0
  · rw [if_pos h0, if_pos h0, h0]
    rw [h0] at hc
    go_enter Tryd.func36, Tryd.ntmps36
    go_wp2_with fail
    refine hc.mono ?_
    rintro e w1 ⟨rfl, hb1⟩
    have G1 := G.below hb1 G.lt
    have g0 : w1.cell? ⟨w.heap.size + 1, 0, none⟩ = some (.int .i64 k) := G1.cell 0
    have g1 : w1.cell? ⟨w.heap.size + 1, 1, none⟩ = some (.int .u64 b) := G1.cell 1
    have hg := G1.lt
    obtain ⟨x0, x1, f0, f1, r0, r1, hB2⟩ := wrote2 (x := .int .i64 k) (y := .int .u64 b) (thenB hB hb1) (Nat.le_refl _) (F.below hb1 F.lt)
    go_wp2_with fail
    refine bodyPost_ret (v := .tuple #[.agg #[.int .i64 k, .int .u64 b], .int .i64 0]) ?_ rfl ⟨rfl, hB2⟩
    simp [results, Tryd.f36, go_sem, r0, r1]
  · rw [if_neg h0, if_neg h0]
    have hbd := chk_bd k b
    generalize chk k b = c at *
    have hne : (c != 0) = true := by simpa using h0
    go_enter Tryd.func36, Tryd.ntmps36
    go_wp2_with fail
    refine hc.mono ?_
    rintro e w1 ⟨rfl, hb1⟩
    obtain ⟨x0, x1, f0, f1, r0, r1, hB2⟩ := wrote2 (x := .int .i64 0) (y := .int .u64 0) (thenB hB hb1) (Nat.le_refl _) (F.below hb1 F.lt)
    have hg := (F.below hb1 F.lt).lt
    go_wp2_with fail
    refine bodyPost_ret (v := .tuple #[.agg #[.int .i64 0, .int .u64 0], .int .i64 c]) ?_ rfl ⟨rfl, hB2⟩
    simp [results, Tryd.f36, go_sem, r0, r1]
theorem compare_any (k b k' b' : Int) (w : World) (hk : -9223372036854775808 ≤ k ∧ k ≤ 9223372036854775807) (hb : 0 ≤ b ∧ b ≤ 18446744073709551615) (hk' : -9223372036854775808 ≤ k' ∧ k' ≤ 9223372036854775807) (hb' : 0 ≤ b' ∧ b' ≤ 18446744073709551615) :
    Calls Tryd.prog 34 #[.agg #[.int .i64 k, .int .u64 b], .agg #[.int .i64 k', .int .u64 b']] w fun e w' => e = .returned (.int .i64 (cmpA k b k' b')) ∧ Below w.heap.size w w' := by
  have hB : Below w.heap.size w ((w.alloc (.cells #[.int .i64 k, .int .u64 b] 26)).alloc (.cells #[.int .i64 k', .int .u64 b'] 26)) := ((Below.refl _ _).alloc (Nat.le_refl _) _).alloc (by simp) _
  have F := (Blk.fresh w 26 #[.int .i64 k, .int .u64 b]).alloc (.cells #[.int .i64 k', .int .u64 b'] 26)
  have G : Mem.Blk ((w.alloc (.cells #[.int .i64 k, .int .u64 b] 26)).alloc (.cells #[.int .i64 k', .int .u64 b'] 26)) (w.heap.size + 1) 26 #[.int .i64 k', .int .u64 b'] := by
    have := Blk.fresh (w.alloc (.cells #[.int .i64 k, .int .u64 b] 26)) 26 #[.int .i64 k', .int .u64 b']
    rwa [World.size_alloc] at this
  have HX : Hid (orZ (cmpZ k k') (cmpZ b b') = cmpA k b k' b') := Lib.hid rfl
  have HI : Hid (∀ w, Calls Tryd.prog 53 #[.int .i64 k, .int .i64 k'] w fun e w' => e = .returned (.int .i64 (cmpZ k k')) ∧ w = w') := Lib.hid fun w => cmpI_any k k' w hk hk'
  have HU : Hid (∀ w, Calls Tryd.prog 54 #[.int .u64 b, .int .u64 b'] w fun e w' => e = .returned (.int .i64 (cmpZ b b')) ∧ w = w') := Lib.hid fun w => cmpU_any b b' w hb hb'
  have bx := cmpZ_bd k k'
  have by_ := cmpZ_bd b b'
  generalize cmpZ k k' = x at *
  generalize cmpZ b b' = y at *
  go_enter Tryd.func34, Tryd.ntmps34
  go_wp2_with fail
  generalize (w.alloc (.cells #[.int .i64 k, .int .u64 b] 26)).alloc (.cells #[.int .i64 k', .int .u64 b'] 26) = W at *
  have c0 : W.drew.cell? ⟨w.heap.size, 0, none⟩ = some (.int .i64 k) := F.cell 0
  have c1 : W.drew.cell? ⟨w.heap.size, 1, none⟩ = some (.int .u64 b) := F.cell 1
  have d0 : W.drew.cell? ⟨w.heap.size + 1, 0, none⟩ = some (.int .i64 k') := G.cell 0
  have d1 : W.drew.cell? ⟨w.heap.size + 1, 1, none⟩ = some (.int .u64 b') := G.cell 1
  have hg := G.lt
  have L := Ints.lit .i64 W.drew [x, y] #[.int .i64 x, .int .i64 y] 3 rfl
  have l0 : (W.drew.alloc (.cells #[.int .i64 x, .int .i64 y] 3)).cell? ⟨W.drew.heap.size, 0, none⟩ = some (.int .i64 x) := (Blk.fresh W.drew 3 #[.int .i64 x, .int .i64 y]).cell 0
  have l1 : (W.drew.alloc (.cells #[.int .i64 x, .int .i64 y] 3)).cell? ⟨W.drew.heap.size, 1, none⟩ = some (.int .i64 y) := (Blk.fresh W.drew 3 #[.int .i64 x, .int .i64 y]).cell 1
  have hB2 : Below w.heap.size w (W.drew.alloc (.cells #[.int .i64 x, .int .i64 y] 3)) := hB.drew.alloc (by show w.heap.size ≤ W.heap.size; omega) _
  have m0 : (W.drew.alloc (.cells #[.int .i64 x, .int .i64 y] 3)).cell? ⟨w.heap.size, 0, none⟩ = some (.int .i64 k) := (F.alloc _).cell 0
  have m1 : (W.drew.alloc (.cells #[.int .i64 x, .int .i64 y] 3)).cell? ⟨w.heap.size, 1, none⟩ = some (.int .u64 b) := (F.alloc _).cell 1
  have n0 : (W.drew.alloc (.cells #[.int .i64 x, .int .i64 y] 3)).cell? ⟨w.heap.size + 1, 0, none⟩ = some (.int .i64 k') := (G.alloc _).cell 0
  have n1 : (W.drew.alloc (.cells #[.int .i64 x, .int .i64 y] 3)).cell? ⟨w.heap.size + 1, 1, none⟩ = some (.int .u64 b') := (G.alloc _).cell 1
  go_region_held3 (fun w' => w'.cell? ⟨w.heap.size, 0, none⟩ = some (.int .i64 k) ∧ w'.cell? ⟨w.heap.size, 1, none⟩ = some (.int .u64 b) ∧ w'.cell? ⟨w.heap.size + 1, 0, none⟩ = some (.int .i64 k') ∧ w'.cell? ⟨w.heap.size + 1, 1, none⟩ = some (.int .u64 b')) (first | exact ⟨c0, c1, d0, d1⟩ | exact ⟨m0, m1, n0, n1⟩) (first
    | (go_at_call 53; refine (HI.out _).mono ?_; rintro e w' ⟨rfl, rfl⟩)
    | (go_at_call 54; refine (HU.out _).mono ?_; rintro e w' ⟨rfl, rfl⟩)
    | (go_at_call 52; refine (or_any _ _ x y _ (by omega) (by omega) l0 l1).mono ?_; rintro e w' ⟨rfl, rfl⟩))
  all_goals go_wp2_with fail
  all_goals go_ret
  all_goals exact ⟨Ser.ret_int HX.out, hB2⟩
end Go.Proofs.YtkbjfmfkpdlogaaDoor.Adr
