/- Whether parameters are valid: the layer's function, where the algorithm is the first. -/
import Derived.Test.YtcbliliinmfnjaaDoorKM4
set_option linter.unusedVariables false
set_option linter.unusedSimpArgs false
namespace Go.Proofs.YtcbliliinmfnjaaDoor.Cn
open Go.RowKit Mem Clk

set_option maxRecDepth 100000 in
set_option maxHeartbeats 20000000 in
theorem check_one (a b s o i l t h d g R : Int) (m : Nat) (w : World) (hm : m ≤ 18446744073709551615) (D1 D2 : Bool) (d1 : decide (5 ≤ h ∧ h ≤ 16) = D1) (d2 : decide (0 ≤ d ∧ d ≤ 500) = D2) (q : (g == 1) = true)
    (hR : fst0 [unl 1 [a != 0, a != 2391391958], unl 5 [decide (b ≤ 16777215)], okU s o i l t, Chm.okM m, unl 5 [D1, D2], unl 12 [true]] = R) :
    Calls Tryd.prog 110 #[.agg #[.int .u32 a, .int .u32 b, .int .i64 s, .int .i64 o, .int .i64 i, .int .i64 l, .int .i64 t, .int .u64 (m : Int), .int .i64 h, .int .i64 d, .int .i64 g]] w fun e w' => e = .returned (.int .i64 R) ∧ Below w.heap.size w w' := by
  have F0 : Mem.Blk (w.alloc (.cells #[.int .u32 a, .int .u32 b, .int .i64 s, .int .i64 o, .int .i64 i, .int .i64 l, .int .i64 t, .int .u64 (m : Int), .int .i64 h, .int .i64 d, .int .i64 g] 50)) w.heap.size 50 _ := Blk.fresh w _ _
  have hbel : Below w.heap.size w (w.alloc (.cells #[.int .u32 a, .int .u32 b, .int .i64 s, .int .i64 o, .int .i64 i, .int .i64 l, .int .i64 t, .int .u64 (m : Int), .int .i64 h, .int .i64 d, .int .i64 g] 50)) := (Below.refl _ w).alloc (Nat.le_refl _) _
  have HU := Lib.hid (checkUpdate_any s o i l t)
  have HM := Lib.hid fun w => Chm.check_any m w hm
  have HW1 := Lib.hid fun w => within_to d1 (by decide) w
  have HW2 := Lib.hid fun w => within_to d2 (by decide) w
  have HR := Lib.hid hR
  clear hR hm d1 d2
  go_enter Tryd.func110, Tryd.ntmps110
  go_wp2_with fail
  generalize w.alloc (.cells #[.int .u32 a, .int .u32 b, .int .i64 s, .int .i64 o, .int .i64 i, .int .i64 l, .int .i64 t, .int .u64 (m : Int), .int .i64 h, .int .i64 d, .int .i64 g] 50) = W at *
  refine wp_region_held_drew (S := (fun w' => Elv w' w.heap.size a b s o i l t m h d g)) (by kernel_rfl) ?_ (fun hHeld => ?_)
  · exact elv_of F0.drew
  have T := elv_of F0.drew
  have BX := hbel.drew
  clear F0 hbel
  generalize W.drew = X0 at *
  refine wpAnyH_take (i := 0) (v := .pointer (some ⟨w.heap.size, 0, none⟩)) rfl (by kernel_rfl) (by kernel_rfl) (by kernel_rfl) (fun _ _ _ h => h) (Or.inl ⟨by first | rfl | go_simp, by intro w9 hSw; (try dsimp only at hSw); go_simp⟩) (by assumption) ?_
  simp only [List.getElem_toArray, List.getElem_cons_zero, List.getElem_cons_succ, Act.put, List.setIfInBounds_toArray, List.set_cons_zero, List.set_cons_succ]
  refine wpAnyH_take (i := 1) (v := .int .u32 a) rfl (by kernel_rfl) (by kernel_rfl) (by kernel_rfl) (fun _ _ _ h => h) (Or.inl ⟨by first | rfl | go_simp, by intro w9 hSw; (try dsimp only at hSw); go_simp⟩) (by assumption) ?_
  simp only [List.getElem_toArray, List.getElem_cons_zero, List.getElem_cons_succ, Act.put, List.setIfInBounds_toArray, List.set_cons_zero, List.set_cons_succ]
  refine wpAnyH_take (i := 2) (v := .bool (a != 0)) rfl (by kernel_rfl) (by kernel_rfl) (by kernel_rfl) (fun _ _ _ h => h) (Or.inl ⟨by first | rfl | go_simp, by intro w9 hSw; (try dsimp only at hSw); go_simp⟩) (by assumption) ?_
  simp only [List.getElem_toArray, List.getElem_cons_zero, List.getElem_cons_succ, Act.put, List.setIfInBounds_toArray, List.set_cons_zero, List.set_cons_succ]
  refine wpAnyH_take (i := 3) (v := .pointer (some ⟨w.heap.size, 0, none⟩)) rfl (by kernel_rfl) (by kernel_rfl) (by kernel_rfl) (fun _ _ _ h => h) (Or.inl ⟨by first | rfl | go_simp, by intro w9 hSw; (try dsimp only at hSw); go_simp⟩) (by assumption) ?_
  simp only [List.getElem_toArray, List.getElem_cons_zero, List.getElem_cons_succ, Act.put, List.setIfInBounds_toArray, List.set_cons_zero, List.set_cons_succ]
  refine wpAnyH_take (i := 4) (v := .int .u32 a) rfl (by kernel_rfl) (by kernel_rfl) (by kernel_rfl) (fun _ _ _ h => h) (Or.inl ⟨by first | rfl | go_simp, by intro w9 hSw; (try dsimp only at hSw); go_simp⟩) (by assumption) ?_
  simp only [List.getElem_toArray, List.getElem_cons_zero, List.getElem_cons_succ, Act.put, List.setIfInBounds_toArray, List.set_cons_zero, List.set_cons_succ]
  refine wpAnyH_take (i := 5) (v := .bool (a != 2391391958)) rfl (by kernel_rfl) (by kernel_rfl) (by kernel_rfl) (fun _ _ _ h => h) (Or.inl ⟨by first | rfl | go_simp, by intro w9 hSw; (try dsimp only at hSw); go_simp⟩) (by assumption) ?_
  simp only [List.getElem_toArray, List.getElem_cons_zero, List.getElem_cons_succ, Act.put, List.setIfInBounds_toArray, List.set_cons_zero, List.set_cons_succ]
  refine wpAnyH_take (i := 8) (v := .pointer (some ⟨w.heap.size, 1, none⟩)) rfl (by kernel_rfl) (by kernel_rfl) (by kernel_rfl) (fun _ _ _ h => h) (Or.inl ⟨by first | rfl | go_simp, by intro w9 hSw; (try dsimp only at hSw); go_simp⟩) (by assumption) ?_
  simp only [List.getElem_toArray, List.getElem_cons_zero, List.getElem_cons_succ, Act.put, List.setIfInBounds_toArray, List.set_cons_zero, List.set_cons_succ]
  refine wpAnyH_take (i := 9) (v := .int .u32 b) rfl (by kernel_rfl) (by kernel_rfl) (by kernel_rfl) (fun _ _ _ h => h) (Or.inl ⟨by first | rfl | go_simp, by intro w9 hSw; (try dsimp only at hSw); go_simp⟩) (by assumption) ?_
  simp only [List.getElem_toArray, List.getElem_cons_zero, List.getElem_cons_succ, Act.put, List.setIfInBounds_toArray, List.set_cons_zero, List.set_cons_succ]
  refine wpAnyH_take (i := 10) (v := .bool (decide (b ≤ 16777215))) rfl (by kernel_rfl) (by kernel_rfl) (by kernel_rfl) (fun _ _ _ h => h) (Or.inl ⟨by first | rfl | go_simp, by intro w9 hSw; (try dsimp only at hSw); go_simp⟩) (by assumption) ?_
  simp only [List.getElem_toArray, List.getElem_cons_zero, List.getElem_cons_succ, Act.put, List.setIfInBounds_toArray, List.set_cons_zero, List.set_cons_succ]
  refine wpAnyH_take (i := 13) (v := .pointer (some ⟨w.heap.size, 2, none⟩)) rfl (by kernel_rfl) (by kernel_rfl) (by kernel_rfl) (fun _ _ _ h => h) (Or.inl ⟨by first | rfl | go_simp, by intro w9 hSw; (try dsimp only at hSw); go_simp⟩) (by assumption) ?_
  simp only [List.getElem_toArray, List.getElem_cons_zero, List.getElem_cons_succ, Act.put, List.setIfInBounds_toArray, List.set_cons_zero, List.set_cons_succ]
  refine wpAnyH_take (i := 14) (v := .agg #[.int .i64 s, .int .i64 o, .int .i64 i, .int .i64 l, .int .i64 t]) rfl (by kernel_rfl) (by kernel_rfl) (by kernel_rfl) (fun _ _ _ h => h) (Or.inl ⟨by first | rfl | go_simp, by intro w9 hSw; (try dsimp only at hSw); go_simp⟩) (by assumption) ?_
  simp only [List.getElem_toArray, List.getElem_cons_zero, List.getElem_cons_succ, Act.put, List.setIfInBounds_toArray, List.set_cons_zero, List.set_cons_succ]
  refine wpAnyH_take (i := 16) (v := .pointer (some ⟨w.heap.size, 7, none⟩)) rfl (by kernel_rfl) (by kernel_rfl) (by kernel_rfl) (fun _ _ _ h => h) (Or.inl ⟨by first | rfl | go_simp, by intro w9 hSw; (try dsimp only at hSw); go_simp⟩) (by assumption) ?_
  simp only [List.getElem_toArray, List.getElem_cons_zero, List.getElem_cons_succ, Act.put, List.setIfInBounds_toArray, List.set_cons_zero, List.set_cons_succ]
  refine wpAnyH_take (i := 17) (v := .int .u64 (m : Int)) rfl (by kernel_rfl) (by kernel_rfl) (by kernel_rfl) (fun _ _ _ h => h) (Or.inl ⟨by first | rfl | go_simp, by intro w9 hSw; (try dsimp only at hSw); go_simp⟩) (by assumption) ?_
  simp only [List.getElem_toArray, List.getElem_cons_zero, List.getElem_cons_succ, Act.put, List.setIfInBounds_toArray, List.set_cons_zero, List.set_cons_succ]
  refine wpAnyH_take (i := 19) (v := .pointer (some ⟨w.heap.size, 8, none⟩)) rfl (by kernel_rfl) (by kernel_rfl) (by kernel_rfl) (fun _ _ _ h => h) (Or.inl ⟨by first | rfl | go_simp, by intro w9 hSw; (try dsimp only at hSw); go_simp⟩) (by assumption) ?_
  simp only [List.getElem_toArray, List.getElem_cons_zero, List.getElem_cons_succ, Act.put, List.setIfInBounds_toArray, List.set_cons_zero, List.set_cons_succ]
  refine wpAnyH_take (i := 20) (v := .int .i64 h) rfl (by kernel_rfl) (by kernel_rfl) (by kernel_rfl) (fun _ _ _ h => h) (Or.inl ⟨by first | rfl | go_simp, by intro w9 hSw; (try dsimp only at hSw); go_simp⟩) (by assumption) ?_
  simp only [List.getElem_toArray, List.getElem_cons_zero, List.getElem_cons_succ, Act.put, List.setIfInBounds_toArray, List.set_cons_zero, List.set_cons_succ]
  refine wpAnyH_take (i := 22) (v := .pointer (some ⟨w.heap.size, 9, none⟩)) rfl (by kernel_rfl) (by kernel_rfl) (by kernel_rfl) (fun _ _ _ h => h) (Or.inl ⟨by first | rfl | go_simp, by intro w9 hSw; (try dsimp only at hSw); go_simp⟩) (by assumption) ?_
  simp only [List.getElem_toArray, List.getElem_cons_zero, List.getElem_cons_succ, Act.put, List.setIfInBounds_toArray, List.set_cons_zero, List.set_cons_succ]
  refine wpAnyH_take (i := 23) (v := .int .i64 d) rfl (by kernel_rfl) (by kernel_rfl) (by kernel_rfl) (fun _ _ _ h => h) (Or.inl ⟨by first | rfl | go_simp, by intro w9 hSw; (try dsimp only at hSw); go_simp⟩) (by assumption) ?_
  simp only [List.getElem_toArray, List.getElem_cons_zero, List.getElem_cons_succ, Act.put, List.setIfInBounds_toArray, List.set_cons_zero, List.set_cons_succ]
  refine wpAnyH_take (i := 27) (v := .pointer (some ⟨w.heap.size, 10, none⟩)) rfl (by kernel_rfl) (by kernel_rfl) (by kernel_rfl) (fun _ _ _ h => h) (Or.inl ⟨by first | rfl | go_simp, by intro w9 hSw; (try dsimp only at hSw); go_simp⟩) (by assumption) ?_
  simp only [List.getElem_toArray, List.getElem_cons_zero, List.getElem_cons_succ, Act.put, List.setIfInBounds_toArray, List.set_cons_zero, List.set_cons_succ]
  refine wpAnyH_take (i := 28) (v := .int .i64 g) rfl (by kernel_rfl) (by kernel_rfl) (by kernel_rfl) (fun _ _ _ h => h) (Or.inl ⟨by first | rfl | go_simp, by intro w9 hSw; (try dsimp only at hSw); go_simp⟩) (by assumption) ?_
  simp only [List.getElem_toArray, List.getElem_cons_zero, List.getElem_cons_succ, Act.put, List.setIfInBounds_toArray, List.set_cons_zero, List.set_cons_succ]
  refine wpAnyH_take (i := 29) (v := .bool true) rfl (by kernel_rfl) (by kernel_rfl) (by kernel_rfl) (fun _ _ _ h => h) (Or.inl ⟨by first | rfl | go_simp, by intro w9 hSw; (try dsimp only at hSw); go_simp⟩) (by assumption) ?_
  simp only [List.getElem_toArray, List.getElem_cons_zero, List.getElem_cons_succ, Act.put, List.setIfInBounds_toArray, List.set_cons_zero, List.set_cons_succ]
  refine wpAnyH_ready (rs := [6, 11]) (by kernel_rfl) (by simp) ?_
  refine AllReadyH.cons rfl (fun K hK => ?_) (AllReadyH.cons rfl (fun K hK => ?_) (AllReadyH.nil))
  · skip
    go_simp
    have b9 := (Below.refl _ X0).alloc (Nat.le_refl _) (.cells #[.bool (a != 0), .bool (a != 2391391958)] 4)
    have P9 : BoolsAt (X0.alloc (.cells #[.bool (a != 0), .bool (a != 2391391958)] 4)) X0.heap.size [a != 0, a != 2391391958] := Blk.fresh X0 _ _
    generalize X0.alloc (.cells #[.bool (a != 0), .bool (a != 2391391958)] 4) = X1 at *
    have T := elv_below T b9
    have BX := thenB BX b9
    refine hK.out _ _ T (fun hHeld => ?_)
    clear hK K
    try simp only [List.getElem_toArray, List.getElem_cons_zero, List.getElem_cons_succ, Act.put, List.setIfInBounds_toArray, List.set_cons_zero, List.set_cons_succ]
    refine wpAnyH_ready (rs := [7, 11]) (by kernel_rfl) (by simp) ?_
    refine AllReadyH.cons rfl (fun K hK => ?_) (AllReadyH.cons rfl (fun K hK => ?_) (AllReadyH.nil))
    · skip
      go_simp
      refine (unless_at [a != 0, a != 2391391958] 2 P9 1 rfl (by decide)).mono ?_
      rintro e w9 ⟨rfl, rfl⟩
      refine hK.out _ _ T (fun hHeld => ?_)
      clear hK K
      try simp only [List.getElem_toArray, List.getElem_cons_zero, List.getElem_cons_succ, Act.put, List.setIfInBounds_toArray, List.set_cons_zero, List.set_cons_succ]
      refine wpAnyH_ready (rs := [11]) (by kernel_rfl) (by simp) ?_
      refine AllReadyH.cons rfl (fun K hK => ?_) (AllReadyH.nil)
      go_simp
      have b9 := (Below.refl _ X1).alloc (Nat.le_refl _) (.cells #[.bool (decide (b ≤ 16777215))] 4)
      have P14 : BoolsAt (X1.alloc (.cells #[.bool (decide (b ≤ 16777215))] 4)) X1.heap.size [decide (b ≤ 16777215)] := Blk.fresh X1 _ _
      generalize X1.alloc (.cells #[.bool (decide (b ≤ 16777215))] 4) = X3 at *
      have T := elv_below T b9
      have BX := thenB BX b9
      have P9 := P9.more b9
      refine hK.out _ _ T (fun hHeld => ?_)
      clear hK K
      try simp only [List.getElem_toArray, List.getElem_cons_zero, List.getElem_cons_succ, Act.put, List.setIfInBounds_toArray, List.set_cons_zero, List.set_cons_succ]
      refine wpAnyH_ready (rs := [12]) (by kernel_rfl) (by simp) ?_
      refine AllReadyH.cons rfl (fun K hK => ?_) (AllReadyH.nil)
      go_simp
      refine (unless_at [decide (b ≤ 16777215)] 1 P14 5 rfl (by decide)).mono ?_
      rintro e w9 ⟨rfl, rfl⟩
      refine hK.out _ _ T (fun hHeld => ?_)
      clear hK K
      try simp only [List.getElem_toArray, List.getElem_cons_zero, List.getElem_cons_succ, Act.put, List.setIfInBounds_toArray, List.set_cons_zero, List.set_cons_succ]
      refine wpAnyH_ready (rs := [15]) (by kernel_rfl) (by simp) ?_
      refine AllReadyH.cons rfl (fun K hK => ?_) (AllReadyH.nil)
      go_simp
      refine (HU.out _).mono ?_
      rintro e X5 ⟨rfl, b9⟩
      have T := elv_below T b9
      have BX := thenB BX b9
      have P9 := P9.more b9
      have P14 := P14.more b9
      refine hK.out _ _ T (fun hHeld => ?_)
      clear hK K
      try simp only [List.getElem_toArray, List.getElem_cons_zero, List.getElem_cons_succ, Act.put, List.setIfInBounds_toArray, List.set_cons_zero, List.set_cons_succ]
      refine wpAnyH_ready (rs := [18]) (by kernel_rfl) (by simp) ?_
      refine AllReadyH.cons rfl (fun K hK => ?_) (AllReadyH.nil)
      go_simp
      refine (HM.out _).mono ?_
      rintro e w9 ⟨rfl, rfl⟩
      refine hK.out _ _ T (fun hHeld => ?_)
      clear hK K
      try simp only [List.getElem_toArray, List.getElem_cons_zero, List.getElem_cons_succ, Act.put, List.setIfInBounds_toArray, List.set_cons_zero, List.set_cons_succ]
      refine wpAnyH_ready (rs := [21]) (by kernel_rfl) (by simp) ?_
      refine AllReadyH.cons rfl (fun K hK => ?_) (AllReadyH.nil)
      go_simp
      refine (HW1.out _).mono ?_
      rintro e w9 ⟨rfl, rfl⟩
      refine hK.out _ _ T (fun hHeld => ?_)
      clear hK K
      try simp only [List.getElem_toArray, List.getElem_cons_zero, List.getElem_cons_succ, Act.put, List.setIfInBounds_toArray, List.set_cons_zero, List.set_cons_succ]
      refine wpAnyH_ready (rs := [24]) (by kernel_rfl) (by simp) ?_
      refine AllReadyH.cons rfl (fun K hK => ?_) (AllReadyH.nil)
      go_simp
      refine (HW2.out _).mono ?_
      rintro e w9 ⟨rfl, rfl⟩
      refine hK.out _ _ T (fun hHeld => ?_)
      clear hK K
      try simp only [List.getElem_toArray, List.getElem_cons_zero, List.getElem_cons_succ, Act.put, List.setIfInBounds_toArray, List.set_cons_zero, List.set_cons_succ]
      refine wpAnyH_ready (rs := [25]) (by kernel_rfl) (by simp) ?_
      refine AllReadyH.cons rfl (fun K hK => ?_) (AllReadyH.nil)
      go_simp
      have b9 := (Below.refl _ X5).alloc (Nat.le_refl _) (.cells #[.bool D1, .bool D2] 4)
      have P28 : BoolsAt (X5.alloc (.cells #[.bool D1, .bool D2] 4)) X5.heap.size [D1, D2] := Blk.fresh X5 _ _
      generalize X5.alloc (.cells #[.bool D1, .bool D2] 4) = X9 at *
      have T := elv_below T b9
      have BX := thenB BX b9
      have P9 := P9.more b9
      have P14 := P14.more b9
      refine hK.out _ _ T (fun hHeld => ?_)
      clear hK K
      try simp only [List.getElem_toArray, List.getElem_cons_zero, List.getElem_cons_succ, Act.put, List.setIfInBounds_toArray, List.set_cons_zero, List.set_cons_succ]
      refine wpAnyH_ready (rs := [26]) (by kernel_rfl) (by simp) ?_
      refine AllReadyH.cons rfl (fun K hK => ?_) (AllReadyH.nil)
      go_simp
      refine (unless_at [D1, D2] 2 P28 5 rfl (by decide)).mono ?_
      rintro e w9 ⟨rfl, rfl⟩
      refine hK.out _ _ T (fun hHeld => ?_)
      clear hK K
      try simp only [List.getElem_toArray, List.getElem_cons_zero, List.getElem_cons_succ, Act.put, List.setIfInBounds_toArray, List.set_cons_zero, List.set_cons_succ]
      refine wpAnyH_take (i := 30) (v := .bool true) rfl (by kernel_rfl) (by kernel_rfl) (by kernel_rfl) (fun _ _ _ h => h) (Or.inl ⟨by first | rfl | go_simp, by intro w9 hSw; (try dsimp only at hSw); go_simp⟩) (by assumption) ?_
      simp only [List.getElem_toArray, List.getElem_cons_zero, List.getElem_cons_succ, Act.put, List.setIfInBounds_toArray, List.set_cons_zero, List.set_cons_succ]
      refine wpAnyH_take (i := 31) (v := undef) rfl (by kernel_rfl) (by kernel_rfl) (by kernel_rfl) (fun _ _ _ h => h) (Or.inr ⟨by first | rfl | go_simp, rfl⟩) (by assumption) ?_
      simp only [List.getElem_toArray, List.getElem_cons_zero, List.getElem_cons_succ, Act.put, List.setIfInBounds_toArray, List.set_cons_zero, List.set_cons_succ]
      refine wpAnyH_take (i := 32) (v := undef) rfl (by kernel_rfl) (by kernel_rfl) (by kernel_rfl) (fun _ _ _ h => h) (Or.inr ⟨by first | rfl | go_simp, rfl⟩) (by assumption) ?_
      simp only [List.getElem_toArray, List.getElem_cons_zero, List.getElem_cons_succ, Act.put, List.setIfInBounds_toArray, List.set_cons_zero, List.set_cons_succ]
      refine wpAnyH_take (i := 33) (v := undef) rfl (by kernel_rfl) (by kernel_rfl) (by kernel_rfl) (fun _ _ _ h => h) (Or.inr ⟨by first | rfl | go_simp, rfl⟩) (by assumption) ?_
      simp only [List.getElem_toArray, List.getElem_cons_zero, List.getElem_cons_succ, Act.put, List.setIfInBounds_toArray, List.set_cons_zero, List.set_cons_succ]
      refine wpAnyH_take (i := 34) (v := .bool true) rfl (by kernel_rfl) (by kernel_rfl) (by kernel_rfl) (fun _ _ _ h => h) (Or.inl ⟨by first | rfl | go_simp, by intro w9 hSw; (try dsimp only at hSw); go_simp⟩) (by assumption) ?_
      simp only [List.getElem_toArray, List.getElem_cons_zero, List.getElem_cons_succ, Act.put, List.setIfInBounds_toArray, List.set_cons_zero, List.set_cons_succ]
      refine wpAnyH_ready (rs := [35]) (by kernel_rfl) (by simp) ?_
      refine AllReadyH.cons rfl (fun K hK => ?_) (AllReadyH.nil)
      go_simp
      have b9 := (Below.refl _ X9).alloc (Nat.le_refl _) (.cells #[.bool true] 4)
      have P38 : BoolsAt (X9.alloc (.cells #[.bool true] 4)) X9.heap.size [true] := Blk.fresh X9 _ _
      generalize X9.alloc (.cells #[.bool true] 4) = X11 at *
      have T := elv_below T b9
      have BX := thenB BX b9
      have P9 := P9.more b9
      have P14 := P14.more b9
      have P28 := P28.more b9
      refine hK.out _ _ T (fun hHeld => ?_)
      clear hK K
      try simp only [List.getElem_toArray, List.getElem_cons_zero, List.getElem_cons_succ, Act.put, List.setIfInBounds_toArray, List.set_cons_zero, List.set_cons_succ]
      refine wpAnyH_ready (rs := [36]) (by kernel_rfl) (by simp) ?_
      refine AllReadyH.cons rfl (fun K hK => ?_) (AllReadyH.nil)
      go_simp
      refine (unless_at [true] 1 P38 12 rfl (by decide)).mono ?_
      rintro e w9 ⟨rfl, rfl⟩
      refine hK.out _ _ T (fun hHeld => ?_)
      clear hK K
      try simp only [List.getElem_toArray, List.getElem_cons_zero, List.getElem_cons_succ, Act.put, List.setIfInBounds_toArray, List.set_cons_zero, List.set_cons_succ]
      refine wpAnyH_ready (rs := [37]) (by kernel_rfl) (by simp) ?_
      refine AllReadyH.cons rfl (fun K hK => ?_) (AllReadyH.nil)
      go_simp
      have b9 := (Below.refl _ X11).alloc (Nat.le_refl _) (.cells #[.int .i64 (unl 1 [a != 0, a != 2391391958]), .int .i64 (unl 5 [decide (b ≤ 16777215)]), .int .i64 (okU s o i l t), .int .i64 (Chm.okM m), .int .i64 (unl 5 [D1, D2]), .int .i64 (unl 12 [true])] 34)
      have P40 : ErrsAt (X11.alloc (.cells #[.int .i64 (unl 1 [a != 0, a != 2391391958]), .int .i64 (unl 5 [decide (b ≤ 16777215)]), .int .i64 (okU s o i l t), .int .i64 (Chm.okM m), .int .i64 (unl 5 [D1, D2]), .int .i64 (unl 12 [true])] 34)) X11.heap.size [unl 1 [a != 0, a != 2391391958], unl 5 [decide (b ≤ 16777215)], okU s o i l t, Chm.okM m, unl 5 [D1, D2], unl 12 [true]] := Blk.fresh X11 _ _
      generalize X11.alloc (.cells #[.int .i64 (unl 1 [a != 0, a != 2391391958]), .int .i64 (unl 5 [decide (b ≤ 16777215)]), .int .i64 (okU s o i l t), .int .i64 (Chm.okM m), .int .i64 (unl 5 [D1, D2]), .int .i64 (unl 12 [true])] 34) = X13 at *
      have T := elv_below T b9
      have BX := thenB BX b9
      have P9 := P9.more b9
      have P14 := P14.more b9
      have P28 := P28.more b9
      have P38 := P38.more b9
      refine hK.out _ _ T (fun hHeld => ?_)
      clear hK K
      try simp only [List.getElem_toArray, List.getElem_cons_zero, List.getElem_cons_succ, Act.put, List.setIfInBounds_toArray, List.set_cons_zero, List.set_cons_succ]
      refine wpAnyH_ready (rs := [38]) (by kernel_rfl) (by simp) ?_
      refine AllReadyH.cons rfl (fun K hK => ?_) (AllReadyH.nil)
      go_simp
      refine (or_at [unl 1 [a != 0, a != 2391391958], unl 5 [decide (b ≤ 16777215)], okU s o i l t, Chm.okM m, unl 5 [D1, D2], unl 12 [true]] 6 P40 rfl (by decide)).mono ?_
      rintro e w9 ⟨rfl, rfl⟩
      refine hK.out _ _ T (fun hHeld => ?_)
      clear hK K
      try simp only [List.getElem_toArray, List.getElem_cons_zero, List.getElem_cons_succ, Act.put, List.setIfInBounds_toArray, List.set_cons_zero, List.set_cons_succ]
      refine wpAnyH_take (i := 39) (v := .int .i64 (fst0 [unl 1 [a != 0, a != 2391391958], unl 5 [decide (b ≤ 16777215)], okU s o i l t, Chm.okM m, unl 5 [D1, D2], unl 12 [true]])) rfl (by kernel_rfl) (by kernel_rfl) (by kernel_rfl) (fun _ _ _ h => h) (Or.inl ⟨by first | rfl | go_simp, by intro w9 hSw; (try dsimp only at hSw); go_simp⟩) (by assumption) ?_
      simp only [List.getElem_toArray, List.getElem_cons_zero, List.getElem_cons_succ, Act.put, List.setIfInBounds_toArray, List.set_cons_zero, List.set_cons_succ]
      refine wpAnyH_done (by kernel_rfl) ?_ _
      go_wp2_with fail
      go_ret
      exact ⟨by rw [HR.out]; rfl, BX⟩
    · skip
      go_simp
      have b9 := (Below.refl _ X1).alloc (Nat.le_refl _) (.cells #[.bool (decide (b ≤ 16777215))] 4)
      have P14 : BoolsAt (X1.alloc (.cells #[.bool (decide (b ≤ 16777215))] 4)) X1.heap.size [decide (b ≤ 16777215)] := Blk.fresh X1 _ _
      generalize X1.alloc (.cells #[.bool (decide (b ≤ 16777215))] 4) = X15 at *
      have T := elv_below T b9
      have BX := thenB BX b9
      have P9 := P9.more b9
      refine hK.out _ _ T (fun hHeld => ?_)
      clear hK K
      try simp only [List.getElem_toArray, List.getElem_cons_zero, List.getElem_cons_succ, Act.put, List.setIfInBounds_toArray, List.set_cons_zero, List.set_cons_succ]
      refine wpAnyH_ready (rs := [7]) (by kernel_rfl) (by simp) ?_
      refine AllReadyH.cons rfl (fun K hK => ?_) (AllReadyH.nil)
      go_simp
      refine (unless_at [a != 0, a != 2391391958] 2 P9 1 rfl (by decide)).mono ?_
      rintro e w9 ⟨rfl, rfl⟩
      refine hK.out _ _ T (fun hHeld => ?_)
      clear hK K
      try simp only [List.getElem_toArray, List.getElem_cons_zero, List.getElem_cons_succ, Act.put, List.setIfInBounds_toArray, List.set_cons_zero, List.set_cons_succ]
      refine wpAnyH_ready (rs := [12]) (by kernel_rfl) (by simp) ?_
      refine AllReadyH.cons rfl (fun K hK => ?_) (AllReadyH.nil)
      go_simp
      refine (unless_at [decide (b ≤ 16777215)] 1 P14 5 rfl (by decide)).mono ?_
      rintro e w9 ⟨rfl, rfl⟩
      refine hK.out _ _ T (fun hHeld => ?_)
      clear hK K
      try simp only [List.getElem_toArray, List.getElem_cons_zero, List.getElem_cons_succ, Act.put, List.setIfInBounds_toArray, List.set_cons_zero, List.set_cons_succ]
      refine wpAnyH_ready (rs := [15]) (by kernel_rfl) (by simp) ?_
      refine AllReadyH.cons rfl (fun K hK => ?_) (AllReadyH.nil)
      go_simp
      refine (HU.out _).mono ?_
      rintro e X18 ⟨rfl, b9⟩
      have T := elv_below T b9
      have BX := thenB BX b9
      have P9 := P9.more b9
      have P14 := P14.more b9
      refine hK.out _ _ T (fun hHeld => ?_)
      clear hK K
      try simp only [List.getElem_toArray, List.getElem_cons_zero, List.getElem_cons_succ, Act.put, List.setIfInBounds_toArray, List.set_cons_zero, List.set_cons_succ]
      refine wpAnyH_ready (rs := [18]) (by kernel_rfl) (by simp) ?_
      refine AllReadyH.cons rfl (fun K hK => ?_) (AllReadyH.nil)
      go_simp
      refine (HM.out _).mono ?_
      rintro e w9 ⟨rfl, rfl⟩
      refine hK.out _ _ T (fun hHeld => ?_)
      clear hK K
      try simp only [List.getElem_toArray, List.getElem_cons_zero, List.getElem_cons_succ, Act.put, List.setIfInBounds_toArray, List.set_cons_zero, List.set_cons_succ]
      refine wpAnyH_ready (rs := [21]) (by kernel_rfl) (by simp) ?_
      refine AllReadyH.cons rfl (fun K hK => ?_) (AllReadyH.nil)
      go_simp
      refine (HW1.out _).mono ?_
      rintro e w9 ⟨rfl, rfl⟩
      refine hK.out _ _ T (fun hHeld => ?_)
      clear hK K
      try simp only [List.getElem_toArray, List.getElem_cons_zero, List.getElem_cons_succ, Act.put, List.setIfInBounds_toArray, List.set_cons_zero, List.set_cons_succ]
      refine wpAnyH_ready (rs := [24]) (by kernel_rfl) (by simp) ?_
      refine AllReadyH.cons rfl (fun K hK => ?_) (AllReadyH.nil)
      go_simp
      refine (HW2.out _).mono ?_
      rintro e w9 ⟨rfl, rfl⟩
      refine hK.out _ _ T (fun hHeld => ?_)
      clear hK K
      try simp only [List.getElem_toArray, List.getElem_cons_zero, List.getElem_cons_succ, Act.put, List.setIfInBounds_toArray, List.set_cons_zero, List.set_cons_succ]
      refine wpAnyH_ready (rs := [25]) (by kernel_rfl) (by simp) ?_
      refine AllReadyH.cons rfl (fun K hK => ?_) (AllReadyH.nil)
      go_simp
      have b9 := (Below.refl _ X18).alloc (Nat.le_refl _) (.cells #[.bool D1, .bool D2] 4)
      have P28 : BoolsAt (X18.alloc (.cells #[.bool D1, .bool D2] 4)) X18.heap.size [D1, D2] := Blk.fresh X18 _ _
      generalize X18.alloc (.cells #[.bool D1, .bool D2] 4) = X22 at *
      have T := elv_below T b9
      have BX := thenB BX b9
      have P9 := P9.more b9
      have P14 := P14.more b9
      refine hK.out _ _ T (fun hHeld => ?_)
      clear hK K
      try simp only [List.getElem_toArray, List.getElem_cons_zero, List.getElem_cons_succ, Act.put, List.setIfInBounds_toArray, List.set_cons_zero, List.set_cons_succ]
      refine wpAnyH_ready (rs := [26]) (by kernel_rfl) (by simp) ?_
      refine AllReadyH.cons rfl (fun K hK => ?_) (AllReadyH.nil)
      go_simp
      refine (unless_at [D1, D2] 2 P28 5 rfl (by decide)).mono ?_
      rintro e w9 ⟨rfl, rfl⟩
      refine hK.out _ _ T (fun hHeld => ?_)
      clear hK K
      try simp only [List.getElem_toArray, List.getElem_cons_zero, List.getElem_cons_succ, Act.put, List.setIfInBounds_toArray, List.set_cons_zero, List.set_cons_succ]
      refine wpAnyH_take (i := 30) (v := .bool true) rfl (by kernel_rfl) (by kernel_rfl) (by kernel_rfl) (fun _ _ _ h => h) (Or.inl ⟨by first | rfl | go_simp, by intro w9 hSw; (try dsimp only at hSw); go_simp⟩) (by assumption) ?_
      simp only [List.getElem_toArray, List.getElem_cons_zero, List.getElem_cons_succ, Act.put, List.setIfInBounds_toArray, List.set_cons_zero, List.set_cons_succ]
      refine wpAnyH_take (i := 31) (v := undef) rfl (by kernel_rfl) (by kernel_rfl) (by kernel_rfl) (fun _ _ _ h => h) (Or.inr ⟨by first | rfl | go_simp, rfl⟩) (by assumption) ?_
      simp only [List.getElem_toArray, List.getElem_cons_zero, List.getElem_cons_succ, Act.put, List.setIfInBounds_toArray, List.set_cons_zero, List.set_cons_succ]
      refine wpAnyH_take (i := 32) (v := undef) rfl (by kernel_rfl) (by kernel_rfl) (by kernel_rfl) (fun _ _ _ h => h) (Or.inr ⟨by first | rfl | go_simp, rfl⟩) (by assumption) ?_
      simp only [List.getElem_toArray, List.getElem_cons_zero, List.getElem_cons_succ, Act.put, List.setIfInBounds_toArray, List.set_cons_zero, List.set_cons_succ]
      refine wpAnyH_take (i := 33) (v := undef) rfl (by kernel_rfl) (by kernel_rfl) (by kernel_rfl) (fun _ _ _ h => h) (Or.inr ⟨by first | rfl | go_simp, rfl⟩) (by assumption) ?_
      simp only [List.getElem_toArray, List.getElem_cons_zero, List.getElem_cons_succ, Act.put, List.setIfInBounds_toArray, List.set_cons_zero, List.set_cons_succ]
      refine wpAnyH_take (i := 34) (v := .bool true) rfl (by kernel_rfl) (by kernel_rfl) (by kernel_rfl) (fun _ _ _ h => h) (Or.inl ⟨by first | rfl | go_simp, by intro w9 hSw; (try dsimp only at hSw); go_simp⟩) (by assumption) ?_
      simp only [List.getElem_toArray, List.getElem_cons_zero, List.getElem_cons_succ, Act.put, List.setIfInBounds_toArray, List.set_cons_zero, List.set_cons_succ]
      refine wpAnyH_ready (rs := [35]) (by kernel_rfl) (by simp) ?_
      refine AllReadyH.cons rfl (fun K hK => ?_) (AllReadyH.nil)
      go_simp
      have b9 := (Below.refl _ X22).alloc (Nat.le_refl _) (.cells #[.bool true] 4)
      have P38 : BoolsAt (X22.alloc (.cells #[.bool true] 4)) X22.heap.size [true] := Blk.fresh X22 _ _
      generalize X22.alloc (.cells #[.bool true] 4) = X24 at *
      have T := elv_below T b9
      have BX := thenB BX b9
      have P9 := P9.more b9
      have P14 := P14.more b9
      have P28 := P28.more b9
      refine hK.out _ _ T (fun hHeld => ?_)
      clear hK K
      try simp only [List.getElem_toArray, List.getElem_cons_zero, List.getElem_cons_succ, Act.put, List.setIfInBounds_toArray, List.set_cons_zero, List.set_cons_succ]
      refine wpAnyH_ready (rs := [36]) (by kernel_rfl) (by simp) ?_
      refine AllReadyH.cons rfl (fun K hK => ?_) (AllReadyH.nil)
      go_simp
      refine (unless_at [true] 1 P38 12 rfl (by decide)).mono ?_
      rintro e w9 ⟨rfl, rfl⟩
      refine hK.out _ _ T (fun hHeld => ?_)
      clear hK K
      try simp only [List.getElem_toArray, List.getElem_cons_zero, List.getElem_cons_succ, Act.put, List.setIfInBounds_toArray, List.set_cons_zero, List.set_cons_succ]
      refine wpAnyH_ready (rs := [37]) (by kernel_rfl) (by simp) ?_
      refine AllReadyH.cons rfl (fun K hK => ?_) (AllReadyH.nil)
      go_simp
      have b9 := (Below.refl _ X24).alloc (Nat.le_refl _) (.cells #[.int .i64 (unl 1 [a != 0, a != 2391391958]), .int .i64 (unl 5 [decide (b ≤ 16777215)]), .int .i64 (okU s o i l t), .int .i64 (Chm.okM m), .int .i64 (unl 5 [D1, D2]), .int .i64 (unl 12 [true])] 34)
      have P40 : ErrsAt (X24.alloc (.cells #[.int .i64 (unl 1 [a != 0, a != 2391391958]), .int .i64 (unl 5 [decide (b ≤ 16777215)]), .int .i64 (okU s o i l t), .int .i64 (Chm.okM m), .int .i64 (unl 5 [D1, D2]), .int .i64 (unl 12 [true])] 34)) X24.heap.size [unl 1 [a != 0, a != 2391391958], unl 5 [decide (b ≤ 16777215)], okU s o i l t, Chm.okM m, unl 5 [D1, D2], unl 12 [true]] := Blk.fresh X24 _ _
      generalize X24.alloc (.cells #[.int .i64 (unl 1 [a != 0, a != 2391391958]), .int .i64 (unl 5 [decide (b ≤ 16777215)]), .int .i64 (okU s o i l t), .int .i64 (Chm.okM m), .int .i64 (unl 5 [D1, D2]), .int .i64 (unl 12 [true])] 34) = X26 at *
      have T := elv_below T b9
      have BX := thenB BX b9
      have P9 := P9.more b9
      have P14 := P14.more b9
      have P28 := P28.more b9
      have P38 := P38.more b9
      refine hK.out _ _ T (fun hHeld => ?_)
      clear hK K
      try simp only [List.getElem_toArray, List.getElem_cons_zero, List.getElem_cons_succ, Act.put, List.setIfInBounds_toArray, List.set_cons_zero, List.set_cons_succ]
      refine wpAnyH_ready (rs := [38]) (by kernel_rfl) (by simp) ?_
      refine AllReadyH.cons rfl (fun K hK => ?_) (AllReadyH.nil)
      go_simp
      refine (or_at [unl 1 [a != 0, a != 2391391958], unl 5 [decide (b ≤ 16777215)], okU s o i l t, Chm.okM m, unl 5 [D1, D2], unl 12 [true]] 6 P40 rfl (by decide)).mono ?_
      rintro e w9 ⟨rfl, rfl⟩
      refine hK.out _ _ T (fun hHeld => ?_)
      clear hK K
      try simp only [List.getElem_toArray, List.getElem_cons_zero, List.getElem_cons_succ, Act.put, List.setIfInBounds_toArray, List.set_cons_zero, List.set_cons_succ]
      refine wpAnyH_take (i := 39) (v := .int .i64 (fst0 [unl 1 [a != 0, a != 2391391958], unl 5 [decide (b ≤ 16777215)], okU s o i l t, Chm.okM m, unl 5 [D1, D2], unl 12 [true]])) rfl (by kernel_rfl) (by kernel_rfl) (by kernel_rfl) (fun _ _ _ h => h) (Or.inl ⟨by first | rfl | go_simp, by intro w9 hSw; (try dsimp only at hSw); go_simp⟩) (by assumption) ?_
      simp only [List.getElem_toArray, List.getElem_cons_zero, List.getElem_cons_succ, Act.put, List.setIfInBounds_toArray, List.set_cons_zero, List.set_cons_succ]
      refine wpAnyH_done (by kernel_rfl) ?_ _
      go_wp2_with fail
      go_ret
      exact ⟨by rw [HR.out]; rfl, BX⟩
  · skip
    go_simp
    have b9 := (Below.refl _ X0).alloc (Nat.le_refl _) (.cells #[.bool (decide (b ≤ 16777215))] 4)
    have P14 : BoolsAt (X0.alloc (.cells #[.bool (decide (b ≤ 16777215))] 4)) X0.heap.size [decide (b ≤ 16777215)] := Blk.fresh X0 _ _
    generalize X0.alloc (.cells #[.bool (decide (b ≤ 16777215))] 4) = X28 at *
    have T := elv_below T b9
    have BX := thenB BX b9
    refine hK.out _ _ T (fun hHeld => ?_)
    clear hK K
    try simp only [List.getElem_toArray, List.getElem_cons_zero, List.getElem_cons_succ, Act.put, List.setIfInBounds_toArray, List.set_cons_zero, List.set_cons_succ]
    refine wpAnyH_ready (rs := [6]) (by kernel_rfl) (by simp) ?_
    refine AllReadyH.cons rfl (fun K hK => ?_) (AllReadyH.nil)
    go_simp
    have b9 := (Below.refl _ X28).alloc (Nat.le_refl _) (.cells #[.bool (a != 0), .bool (a != 2391391958)] 4)
    have P9 : BoolsAt (X28.alloc (.cells #[.bool (a != 0), .bool (a != 2391391958)] 4)) X28.heap.size [a != 0, a != 2391391958] := Blk.fresh X28 _ _
    generalize X28.alloc (.cells #[.bool (a != 0), .bool (a != 2391391958)] 4) = X29 at *
    have T := elv_below T b9
    have BX := thenB BX b9
    have P14 := P14.more b9
    refine hK.out _ _ T (fun hHeld => ?_)
    clear hK K
    try simp only [List.getElem_toArray, List.getElem_cons_zero, List.getElem_cons_succ, Act.put, List.setIfInBounds_toArray, List.set_cons_zero, List.set_cons_succ]
    refine wpAnyH_ready (rs := [7]) (by kernel_rfl) (by simp) ?_
    refine AllReadyH.cons rfl (fun K hK => ?_) (AllReadyH.nil)
    go_simp
    refine (unless_at [a != 0, a != 2391391958] 2 P9 1 rfl (by decide)).mono ?_
    rintro e w9 ⟨rfl, rfl⟩
    refine hK.out _ _ T (fun hHeld => ?_)
    clear hK K
    try simp only [List.getElem_toArray, List.getElem_cons_zero, List.getElem_cons_succ, Act.put, List.setIfInBounds_toArray, List.set_cons_zero, List.set_cons_succ]
    refine wpAnyH_ready (rs := [12]) (by kernel_rfl) (by simp) ?_
    refine AllReadyH.cons rfl (fun K hK => ?_) (AllReadyH.nil)
    go_simp
    refine (unless_at [decide (b ≤ 16777215)] 1 P14 5 rfl (by decide)).mono ?_
    rintro e w9 ⟨rfl, rfl⟩
    refine hK.out _ _ T (fun hHeld => ?_)
    clear hK K
    try simp only [List.getElem_toArray, List.getElem_cons_zero, List.getElem_cons_succ, Act.put, List.setIfInBounds_toArray, List.set_cons_zero, List.set_cons_succ]
    refine wpAnyH_ready (rs := [15]) (by kernel_rfl) (by simp) ?_
    refine AllReadyH.cons rfl (fun K hK => ?_) (AllReadyH.nil)
    go_simp
    refine (HU.out _).mono ?_
    rintro e X32 ⟨rfl, b9⟩
    have T := elv_below T b9
    have BX := thenB BX b9
    have P14 := P14.more b9
    have P9 := P9.more b9
    refine hK.out _ _ T (fun hHeld => ?_)
    clear hK K
    try simp only [List.getElem_toArray, List.getElem_cons_zero, List.getElem_cons_succ, Act.put, List.setIfInBounds_toArray, List.set_cons_zero, List.set_cons_succ]
    refine wpAnyH_ready (rs := [18]) (by kernel_rfl) (by simp) ?_
    refine AllReadyH.cons rfl (fun K hK => ?_) (AllReadyH.nil)
    go_simp
    refine (HM.out _).mono ?_
    rintro e w9 ⟨rfl, rfl⟩
    refine hK.out _ _ T (fun hHeld => ?_)
    clear hK K
    try simp only [List.getElem_toArray, List.getElem_cons_zero, List.getElem_cons_succ, Act.put, List.setIfInBounds_toArray, List.set_cons_zero, List.set_cons_succ]
    refine wpAnyH_ready (rs := [21]) (by kernel_rfl) (by simp) ?_
    refine AllReadyH.cons rfl (fun K hK => ?_) (AllReadyH.nil)
    go_simp
    refine (HW1.out _).mono ?_
    rintro e w9 ⟨rfl, rfl⟩
    refine hK.out _ _ T (fun hHeld => ?_)
    clear hK K
    try simp only [List.getElem_toArray, List.getElem_cons_zero, List.getElem_cons_succ, Act.put, List.setIfInBounds_toArray, List.set_cons_zero, List.set_cons_succ]
    refine wpAnyH_ready (rs := [24]) (by kernel_rfl) (by simp) ?_
    refine AllReadyH.cons rfl (fun K hK => ?_) (AllReadyH.nil)
    go_simp
    refine (HW2.out _).mono ?_
    rintro e w9 ⟨rfl, rfl⟩
    refine hK.out _ _ T (fun hHeld => ?_)
    clear hK K
    try simp only [List.getElem_toArray, List.getElem_cons_zero, List.getElem_cons_succ, Act.put, List.setIfInBounds_toArray, List.set_cons_zero, List.set_cons_succ]
    refine wpAnyH_ready (rs := [25]) (by kernel_rfl) (by simp) ?_
    refine AllReadyH.cons rfl (fun K hK => ?_) (AllReadyH.nil)
    go_simp
    have b9 := (Below.refl _ X32).alloc (Nat.le_refl _) (.cells #[.bool D1, .bool D2] 4)
    have P28 : BoolsAt (X32.alloc (.cells #[.bool D1, .bool D2] 4)) X32.heap.size [D1, D2] := Blk.fresh X32 _ _
    generalize X32.alloc (.cells #[.bool D1, .bool D2] 4) = X36 at *
    have T := elv_below T b9
    have BX := thenB BX b9
    have P14 := P14.more b9
    have P9 := P9.more b9
    refine hK.out _ _ T (fun hHeld => ?_)
    clear hK K
    try simp only [List.getElem_toArray, List.getElem_cons_zero, List.getElem_cons_succ, Act.put, List.setIfInBounds_toArray, List.set_cons_zero, List.set_cons_succ]
    refine wpAnyH_ready (rs := [26]) (by kernel_rfl) (by simp) ?_
    refine AllReadyH.cons rfl (fun K hK => ?_) (AllReadyH.nil)
    go_simp
    refine (unless_at [D1, D2] 2 P28 5 rfl (by decide)).mono ?_
    rintro e w9 ⟨rfl, rfl⟩
    refine hK.out _ _ T (fun hHeld => ?_)
    clear hK K
    try simp only [List.getElem_toArray, List.getElem_cons_zero, List.getElem_cons_succ, Act.put, List.setIfInBounds_toArray, List.set_cons_zero, List.set_cons_succ]
    refine wpAnyH_take (i := 30) (v := .bool true) rfl (by kernel_rfl) (by kernel_rfl) (by kernel_rfl) (fun _ _ _ h => h) (Or.inl ⟨by first | rfl | go_simp, by intro w9 hSw; (try dsimp only at hSw); go_simp⟩) (by assumption) ?_
    simp only [List.getElem_toArray, List.getElem_cons_zero, List.getElem_cons_succ, Act.put, List.setIfInBounds_toArray, List.set_cons_zero, List.set_cons_succ]
    refine wpAnyH_take (i := 31) (v := undef) rfl (by kernel_rfl) (by kernel_rfl) (by kernel_rfl) (fun _ _ _ h => h) (Or.inr ⟨by first | rfl | go_simp, rfl⟩) (by assumption) ?_
    simp only [List.getElem_toArray, List.getElem_cons_zero, List.getElem_cons_succ, Act.put, List.setIfInBounds_toArray, List.set_cons_zero, List.set_cons_succ]
    refine wpAnyH_take (i := 32) (v := undef) rfl (by kernel_rfl) (by kernel_rfl) (by kernel_rfl) (fun _ _ _ h => h) (Or.inr ⟨by first | rfl | go_simp, rfl⟩) (by assumption) ?_
    simp only [List.getElem_toArray, List.getElem_cons_zero, List.getElem_cons_succ, Act.put, List.setIfInBounds_toArray, List.set_cons_zero, List.set_cons_succ]
    refine wpAnyH_take (i := 33) (v := undef) rfl (by kernel_rfl) (by kernel_rfl) (by kernel_rfl) (fun _ _ _ h => h) (Or.inr ⟨by first | rfl | go_simp, rfl⟩) (by assumption) ?_
    simp only [List.getElem_toArray, List.getElem_cons_zero, List.getElem_cons_succ, Act.put, List.setIfInBounds_toArray, List.set_cons_zero, List.set_cons_succ]
    refine wpAnyH_take (i := 34) (v := .bool true) rfl (by kernel_rfl) (by kernel_rfl) (by kernel_rfl) (fun _ _ _ h => h) (Or.inl ⟨by first | rfl | go_simp, by intro w9 hSw; (try dsimp only at hSw); go_simp⟩) (by assumption) ?_
    simp only [List.getElem_toArray, List.getElem_cons_zero, List.getElem_cons_succ, Act.put, List.setIfInBounds_toArray, List.set_cons_zero, List.set_cons_succ]
    refine wpAnyH_ready (rs := [35]) (by kernel_rfl) (by simp) ?_
    refine AllReadyH.cons rfl (fun K hK => ?_) (AllReadyH.nil)
    go_simp
    have b9 := (Below.refl _ X36).alloc (Nat.le_refl _) (.cells #[.bool true] 4)
    have P38 : BoolsAt (X36.alloc (.cells #[.bool true] 4)) X36.heap.size [true] := Blk.fresh X36 _ _
    generalize X36.alloc (.cells #[.bool true] 4) = X38 at *
    have T := elv_below T b9
    have BX := thenB BX b9
    have P14 := P14.more b9
    have P9 := P9.more b9
    have P28 := P28.more b9
    refine hK.out _ _ T (fun hHeld => ?_)
    clear hK K
    try simp only [List.getElem_toArray, List.getElem_cons_zero, List.getElem_cons_succ, Act.put, List.setIfInBounds_toArray, List.set_cons_zero, List.set_cons_succ]
    refine wpAnyH_ready (rs := [36]) (by kernel_rfl) (by simp) ?_
    refine AllReadyH.cons rfl (fun K hK => ?_) (AllReadyH.nil)
    go_simp
    refine (unless_at [true] 1 P38 12 rfl (by decide)).mono ?_
    rintro e w9 ⟨rfl, rfl⟩
    refine hK.out _ _ T (fun hHeld => ?_)
    clear hK K
    try simp only [List.getElem_toArray, List.getElem_cons_zero, List.getElem_cons_succ, Act.put, List.setIfInBounds_toArray, List.set_cons_zero, List.set_cons_succ]
    refine wpAnyH_ready (rs := [37]) (by kernel_rfl) (by simp) ?_
    refine AllReadyH.cons rfl (fun K hK => ?_) (AllReadyH.nil)
    go_simp
    have b9 := (Below.refl _ X38).alloc (Nat.le_refl _) (.cells #[.int .i64 (unl 1 [a != 0, a != 2391391958]), .int .i64 (unl 5 [decide (b ≤ 16777215)]), .int .i64 (okU s o i l t), .int .i64 (Chm.okM m), .int .i64 (unl 5 [D1, D2]), .int .i64 (unl 12 [true])] 34)
    have P40 : ErrsAt (X38.alloc (.cells #[.int .i64 (unl 1 [a != 0, a != 2391391958]), .int .i64 (unl 5 [decide (b ≤ 16777215)]), .int .i64 (okU s o i l t), .int .i64 (Chm.okM m), .int .i64 (unl 5 [D1, D2]), .int .i64 (unl 12 [true])] 34)) X38.heap.size [unl 1 [a != 0, a != 2391391958], unl 5 [decide (b ≤ 16777215)], okU s o i l t, Chm.okM m, unl 5 [D1, D2], unl 12 [true]] := Blk.fresh X38 _ _
    generalize X38.alloc (.cells #[.int .i64 (unl 1 [a != 0, a != 2391391958]), .int .i64 (unl 5 [decide (b ≤ 16777215)]), .int .i64 (okU s o i l t), .int .i64 (Chm.okM m), .int .i64 (unl 5 [D1, D2]), .int .i64 (unl 12 [true])] 34) = X40 at *
    have T := elv_below T b9
    have BX := thenB BX b9
    have P14 := P14.more b9
    have P9 := P9.more b9
    have P28 := P28.more b9
    have P38 := P38.more b9
    refine hK.out _ _ T (fun hHeld => ?_)
    clear hK K
    try simp only [List.getElem_toArray, List.getElem_cons_zero, List.getElem_cons_succ, Act.put, List.setIfInBounds_toArray, List.set_cons_zero, List.set_cons_succ]
    refine wpAnyH_ready (rs := [38]) (by kernel_rfl) (by simp) ?_
    refine AllReadyH.cons rfl (fun K hK => ?_) (AllReadyH.nil)
    go_simp
    refine (or_at [unl 1 [a != 0, a != 2391391958], unl 5 [decide (b ≤ 16777215)], okU s o i l t, Chm.okM m, unl 5 [D1, D2], unl 12 [true]] 6 P40 rfl (by decide)).mono ?_
    rintro e w9 ⟨rfl, rfl⟩
    refine hK.out _ _ T (fun hHeld => ?_)
    clear hK K
    try simp only [List.getElem_toArray, List.getElem_cons_zero, List.getElem_cons_succ, Act.put, List.setIfInBounds_toArray, List.set_cons_zero, List.set_cons_succ]
    refine wpAnyH_take (i := 39) (v := .int .i64 (fst0 [unl 1 [a != 0, a != 2391391958], unl 5 [decide (b ≤ 16777215)], okU s o i l t, Chm.okM m, unl 5 [D1, D2], unl 12 [true]])) rfl (by kernel_rfl) (by kernel_rfl) (by kernel_rfl) (fun _ _ _ h => h) (Or.inl ⟨by first | rfl | go_simp, by intro w9 hSw; (try dsimp only at hSw); go_simp⟩) (by assumption) ?_
    simp only [List.getElem_toArray, List.getElem_cons_zero, List.getElem_cons_succ, Act.put, List.setIfInBounds_toArray, List.set_cons_zero, List.set_cons_succ]
    refine wpAnyH_done (by kernel_rfl) ?_ _
    go_wp2_with fail
    go_ret
    exact ⟨by rw [HR.out]; rfl, BX⟩
end Go.Proofs.YtcbliliinmfnjaaDoor.Cn
