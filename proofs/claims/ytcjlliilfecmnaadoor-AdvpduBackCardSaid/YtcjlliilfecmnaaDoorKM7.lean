/- Checking an address: the program's and the reference's: contracts over the program. Making an address of a number in the reference; comparing; checking what was read: contracts over the program. -/
import Derived.Test.YtcjlliilfecmnaaDoorKM6
section
set_option linter.unusedVariables false
set_option linter.unusedSimpArgs false
namespace Go.Proofs.YtcjlliilfecmnaaDoor.Adr
open Go.RowKit Mem Oct Base

theorem check_any (k b : Int) (w : World) (hk : -9223372036854775808 ≤ k ∧ k ≤ 9223372036854775807) (hb : 0 ≤ b ∧ b ≤ 18446744073709551615) (hT : Tab w) :
    Calls Tryd.prog 26 #[.agg #[.int .i64 k, .int .u64 b]] w fun e w' => e = .returned (.int .i64 (chk k b)) ∧ Below w.heap.size w w' := by
  have hW0 := box_new w k b
  have hB : Below w.heap.size w (w.alloc (.cells #[.int .i64 k, .int .u64 b] 24)) := (Below.refl _ _).alloc (Nat.le_refl _) _
  have T1 := hT.below hB
  have c0 := hW0.c0
  have c1 := hW0.c1
  by_cases h1 : 1 ≤ k ∧ k ≤ 4
  · have hn : (decide (1 ≤ k ∧ k ≤ 4)) = true := decide_eq_true h1
    by_cases h2 : b < 281474976710656
    · have g2 : b / 281474976710656 = 0 := by omega
      by_cases h3 : k = 1
      · have HX := Lib.hid (chk_public h2)
        subst h3
        go_enter Tryd.func26, Tryd.ntmps26
        go_wp2_with (go_at_call 46; refine (known_any _ _ (by omega)).mono ?_; rw [hn]; rintro e w' ⟨rfl, rfl⟩)
        go_ret
        exact ⟨Ser.ret_int HX.out.symm, hB⟩
      · have g3 : (k != 1) = true := by simpa using h3
        have hw := well_any k b (w.alloc (.cells #[.int .i64 k, .int .u64 b] 24)) (by omega) (by omega) T1
        cases hf : wf k b with
        | true =>
          have HX := Lib.hid (chk_wf (by omega) h2 hf)
          rw [hf] at hw
          go_enter Tryd.func26, Tryd.ntmps26
          go_wp2_with (first
            | (go_at_call 46; refine (known_any _ _ (by omega)).mono ?_; rw [hn]; rintro e w' ⟨rfl, rfl⟩)
            | (go_at_call 47; refine hw.mono ?_; rintro e w' ⟨rfl, hb1⟩))
          go_ret
          exact ⟨Ser.ret_int HX.out.symm, thenB hB hb1⟩
        | false =>
          have HX := Lib.hid (chk_bad (by omega) h2 hf)
          rw [hf] at hw
          go_enter Tryd.func26, Tryd.ntmps26
          go_wp2_with (first
            | (go_at_call 46; refine (known_any _ _ (by omega)).mono ?_; rw [hn]; rintro e w' ⟨rfl, rfl⟩)
            | (go_at_call 47; refine hw.mono ?_; rintro e w' ⟨rfl, hb1⟩))
          go_ret
          exact ⟨Ser.ret_int HX.out.symm, thenB hB hb1⟩
    · have HX := Lib.hid (chk_range h1 (show 281474976710656 ≤ b by omega))
      have g2 : ¬ b / 281474976710656 = 0 := by omega
      go_enter Tryd.func26, Tryd.ntmps26
      go_wp2_with (go_at_call 46; refine (known_any _ _ (by omega)).mono ?_; rw [hn]; rintro e w' ⟨rfl, rfl⟩)
      go_ret
      exact ⟨Ser.ret_int HX.out.symm, hB⟩
  · have HX := Lib.hid (chk_kind (b := b) (show k < 1 ∨ 4 < k by omega))
    have hn : (decide (1 ≤ k ∧ k ≤ 4)) = false := decide_eq_false h1
    go_enter Tryd.func26, Tryd.ntmps26
    go_wp2_with (go_at_call 46; refine (known_any _ _ (by omega)).mono ?_; rw [hn]; rintro e w' ⟨rfl, rfl⟩)
    go_ret
    exact ⟨Ser.ret_int HX.out.symm, hB⟩
theorem rprefix_any (k : Int) (w : World) (hk : -9223372036854775808 ≤ k ∧ k ≤ 9223372036854775807) :
    Calls Tryd.prog 49 #[.int .i64 k] w fun e w' => e = .returned (.int .u64 (pre k)) ∧ w = w' := by
  by_cases h2 : k = 2
  · subst h2
    go_enter Tryd.func49, Tryd.ntmps49
    go_wp2
    go_ret
    exact ⟨rfl, rfl⟩
  · by_cases h3 : k = 3
    · subst h3
      go_enter Tryd.func49, Tryd.ntmps49
      go_wp2
      go_ret
      exact ⟨rfl, rfl⟩
    · have HX : Hid (pre k = 0) := Lib.hid (by unfold pre; rw [if_neg h2, if_neg h3])
      go_enter Tryd.func49, Tryd.ntmps49
      go_wp2
      go_ret
      exact ⟨Ser.ret_int HX.out.symm, rfl⟩
end Go.Proofs.YtcjlliilfecmnaaDoor.Adr

end
section
set_option linter.unusedVariables false
set_option linter.unusedSimpArgs false
namespace Go.Proofs.YtcjlliilfecmnaaDoor.Adr
open Go.RowKit Mem Oct Base

/-- What is known when two numbers are laid into a box. -/
theorem wrote2 {w W : World} {B g : Nat} {x y u v : Value} {t : TypeId} (hbel : Below B w W) (hg : B ≤ g) (F : Mem.Blk W g t #[u, v]) :
    W.cell? ⟨g, 0, none⟩ = some u ∧ W.cell? ⟨g, 1, none⟩ = some v ∧ W.frozen? ⟨g, 0, none⟩ = false ∧ W.frozen? ⟨g, 1, none⟩ = false ∧
    ((W.setCell ⟨g, 0, none⟩ x).setCell ⟨g, 1, none⟩ y).cell? ⟨g, 0, none⟩ = some x ∧ ((W.setCell ⟨g, 0, none⟩ x).setCell ⟨g, 1, none⟩ y).cell? ⟨g, 1, none⟩ = some y ∧
    Below B w ((W.setCell ⟨g, 0, none⟩ x).setCell ⟨g, 1, none⟩ y) := by
  have h0 : W.cell? ⟨g, 0, none⟩ = some u := F.cell 0
  have h1 : W.cell? ⟨g, 1, none⟩ = some v := F.cell 1
  have e0 : (W.setCell ⟨g, 0, none⟩ x).cell? ⟨g, 0, none⟩ = some x := World.cell?_setCell_same' _ _ _ (by rw [h0]; rfl)
  have e1 : (W.setCell ⟨g, 0, none⟩ x).cell? ⟨g, 1, none⟩ = some v := (World.cell?_setCell_other _ _ _ _ (by simp)).trans h1
  exact ⟨h0, h1, frozen_of_row W g 0 _ t F, frozen_of_row W g 1 _ t F, (World.cell?_setCell_other _ _ _ _ (by simp)).trans e0, World.cell?_setCell_same' _ _ _ (by rw [e1]; rfl),
    hbel.trans ((((Below.refl B W).setCell (p := ⟨g, 0, none⟩) hg _).setCell (p := ⟨g, 1, none⟩) hg _))⟩
theorem checked_any (k b : Int) (w : World) (hk : -9223372036854775808 ≤ k ∧ k ≤ 9223372036854775807) (hb : 0 ≤ b ∧ b ≤ 18446744073709551615) (hT : Tab w) :
    Calls Tryd.prog 75 #[.int .i64 k, .int .u64 b] w fun e w' => e = .returned (.tuple #[.agg #[.int .i64 (if chk k b = 0 then k else 0), .int .u64 (if chk k b = 0 then b else 0)], .int .i64 (chk k b)]) ∧ Below w.heap.size w w' := by
  have hB : Below w.heap.size w ((w.alloc (.cells #[.int .i64 0, .int .u64 0] 24)).alloc (.cells #[.int .i64 k, .int .u64 b] 24)) := ((Below.refl _ _).alloc (Nat.le_refl _) _).alloc (by simp) _
  have F := (Blk.fresh w 24 #[.int .i64 0, .int .u64 0]).alloc (.cells #[.int .i64 k, .int .u64 b] 24)
  have G : Mem.Blk ((w.alloc (.cells #[.int .i64 0, .int .u64 0] 24)).alloc (.cells #[.int .i64 k, .int .u64 b] 24)) (w.heap.size + 1) 24 #[.int .i64 k, .int .u64 b] := by
    have := Blk.fresh (w.alloc (.cells #[.int .i64 0, .int .u64 0] 24)) 24 #[.int .i64 k, .int .u64 b]
    rwa [World.size_alloc] at this
  have T1 := hT.below hB
  have hc := check_any k b ((w.alloc (.cells #[.int .i64 0, .int .u64 0] 24)).alloc (.cells #[.int .i64 k, .int .u64 b] 24)) hk hb T1
  have C0 : ((w.alloc (.cells #[.int .i64 0, .int .u64 0] 24)).alloc (.cells #[.int .i64 k, .int .u64 b] 24)).cell? ⟨w.heap.size + 1, 0, none⟩ = some (.int .i64 k) := G.cell 0
  have C1 : ((w.alloc (.cells #[.int .i64 0, .int .u64 0] 24)).alloc (.cells #[.int .i64 k, .int .u64 b] 24)).cell? ⟨w.heap.size + 1, 1, none⟩ = some (.int .u64 b) := G.cell 1
  by_cases h0 : chk k b = 0
  · rw [if_pos h0, if_pos h0, h0]
    rw [h0] at hc
    go_enter Tryd.func75, Tryd.ntmps75
    go_wp2_with fail
    refine hc.mono ?_
    rintro e w1 ⟨rfl, hb1⟩
    have G1 := G.below hb1 G.lt
    have g0 : w1.cell? ⟨w.heap.size + 1, 0, none⟩ = some (.int .i64 k) := G1.cell 0
    have g1 : w1.cell? ⟨w.heap.size + 1, 1, none⟩ = some (.int .u64 b) := G1.cell 1
    have hg := G1.lt
    obtain ⟨x0, x1, f0, f1, r0, r1, hB2⟩ := wrote2 (x := .int .i64 k) (y := .int .u64 b) (thenB hB hb1) (Nat.le_refl _) (F.below hb1 F.lt)
    go_wp2_with fail
    refine bodyPost_ret (v := .tuple #[.agg #[.int .i64 k, .int .u64 b], .int .i64 0]) ?_ rfl ⟨rfl, hB2⟩
    simp [results, Tryd.f75, go_sem, r0, r1]
  · rw [if_neg h0, if_neg h0]
    have hbd := chk_bd k b
    generalize chk k b = c at *
    have hne : (c != 0) = true := by simpa using h0
    go_enter Tryd.func75, Tryd.ntmps75
    go_wp2_with fail
    refine hc.mono ?_
    rintro e w1 ⟨rfl, hb1⟩
    obtain ⟨x0, x1, f0, f1, r0, r1, hB2⟩ := wrote2 (x := .int .i64 0) (y := .int .u64 0) (thenB hB hb1) (Nat.le_refl _) (F.below hb1 F.lt)
    have hg := (F.below hb1 F.lt).lt
    go_wp2_with fail
    refine bodyPost_ret (v := .tuple #[.agg #[.int .i64 0, .int .u64 0], .int .i64 c]) ?_ rfl ⟨rfl, hB2⟩
    simp [results, Tryd.f75, go_sem, r0, r1]
end Go.Proofs.YtcjlliilfecmnaaDoor.Adr

end
