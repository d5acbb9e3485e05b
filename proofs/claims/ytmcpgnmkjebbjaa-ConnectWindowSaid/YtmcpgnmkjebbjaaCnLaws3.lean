/- The statement on windows, walked: it returns true. -/
import Derived.Test.YtmcpgnmkjebbjaaCnReady
import Derived.Test.YtmcpgnmkjebbjaaClkLaws
import Derived.Deep.CutRange
set_option linter.unusedVariables false
set_option linter.unusedSimpArgs false
namespace Go.Proofs.Ytmcpgnmkjebbjaa.Cn
open Go.RowKit Mem Clk Rw

theorem okC_in {p s : Int} (h : okC p s = 0) : -500 ≤ p ∧ p ≤ 500 := by
  unfold okC at h
  split at h <;> omega
theorem okU_in {s o i l t : Int} (h : okU s o i l t = 0) : 6 ≤ i ∧ i ≤ 3200 := by
  unfold okU at h
  split at h
  · omega
  · cases h
set_option maxRecDepth 100000 in
set_option maxHeartbeats 10000000 in
theorem window_no (pa sa pb sb s o i l t T n y x : Int) (w : World) (hn : ¬ Rdy pa sa pb sb s o i l t T n) :
    Calls Try.prog 9 #[.agg #[.int .i64 pa, .int .i64 sa, .int .i64 pb, .int .i64 sb], upd s o i l t, .agg #[.int .i64 T, .int .i64 n, .int .i64 y, .int .i64 x]] w fun e w' => e = .returned (.bool true) ∧ Below w.heap.size w w' := by
  have F0 : Mem.Blk (((w.alloc (.cells #[.int .i64 pa, .int .i64 sa, .int .i64 pb, .int .i64 sb] 56)).alloc (.cells #[.int .i64 s, .int .i64 o, .int .i64 i, .int .i64 l, .int .i64 t] 23)).alloc (.cells #[.int .i64 T, .int .i64 n, .int .i64 y, .int .i64 x] 58)) w.heap.size 56 #[.int .i64 pa, .int .i64 sa, .int .i64 pb, .int .i64 sb] := (((Blk.fresh w 56 #[.int .i64 pa, .int .i64 sa, .int .i64 pb, .int .i64 sb]).alloc (.cells #[.int .i64 s, .int .i64 o, .int .i64 i, .int .i64 l, .int .i64 t] 23)).alloc (.cells #[.int .i64 T, .int .i64 n, .int .i64 y, .int .i64 x] 58))
  have F1 : Mem.Blk (((w.alloc (.cells #[.int .i64 pa, .int .i64 sa, .int .i64 pb, .int .i64 sb] 56)).alloc (.cells #[.int .i64 s, .int .i64 o, .int .i64 i, .int .i64 l, .int .i64 t] 23)).alloc (.cells #[.int .i64 T, .int .i64 n, .int .i64 y, .int .i64 x] 58)) (w.heap.size + 1) 23 #[.int .i64 s, .int .i64 o, .int .i64 i, .int .i64 l, .int .i64 t] := by
    have := ((Blk.fresh (w.alloc (.cells #[.int .i64 pa, .int .i64 sa, .int .i64 pb, .int .i64 sb] 56)) 23 #[.int .i64 s, .int .i64 o, .int .i64 i, .int .i64 l, .int .i64 t]).alloc (.cells #[.int .i64 T, .int .i64 n, .int .i64 y, .int .i64 x] 58))
    rwa [World.size_alloc] at this
  have F2 : Mem.Blk (((w.alloc (.cells #[.int .i64 pa, .int .i64 sa, .int .i64 pb, .int .i64 sb] 56)).alloc (.cells #[.int .i64 s, .int .i64 o, .int .i64 i, .int .i64 l, .int .i64 t] 23)).alloc (.cells #[.int .i64 T, .int .i64 n, .int .i64 y, .int .i64 x] 58)) (w.heap.size + 2) 58 #[.int .i64 T, .int .i64 n, .int .i64 y, .int .i64 x] := by
    have := (Blk.fresh ((w.alloc (.cells #[.int .i64 pa, .int .i64 sa, .int .i64 pb, .int .i64 sb] 56)).alloc (.cells #[.int .i64 s, .int .i64 o, .int .i64 i, .int .i64 l, .int .i64 t] 23)) 58 #[.int .i64 T, .int .i64 n, .int .i64 y, .int .i64 x])
    rwa [World.size_alloc, World.size_alloc] at this
  have hbel : Below w.heap.size w (((w.alloc (.cells #[.int .i64 pa, .int .i64 sa, .int .i64 pb, .int .i64 sb] 56)).alloc (.cells #[.int .i64 s, .int .i64 o, .int .i64 i, .int .i64 l, .int .i64 t] 23)).alloc (.cells #[.int .i64 T, .int .i64 n, .int .i64 y, .int .i64 x] 58)) := ((((Below.refl _ w).alloc (Nat.le_refl _) _).alloc (by simp) _).alloc (by simp; omega) _)
  have sz : w.heap.size + 3 ≤ (((w.alloc (.cells #[.int .i64 pa, .int .i64 sa, .int .i64 pb, .int .i64 sb] 56)).alloc (.cells #[.int .i64 s, .int .i64 o, .int .i64 i, .int .i64 l, .int .i64 t] 23)).alloc (.cells #[.int .i64 T, .int .i64 n, .int .i64 y, .int .i64 x] 58)).heap.size := by simp
  have BX := hbel
  clear hbel
  have HL := Lib.hid lives_any
  have HR : Hid (∀ w, Calls Try.prog 31 #[.agg #[.int .i64 pa, .int .i64 sa], .agg #[.int .i64 pb, .int .i64 sb], upd s o i l t, .agg #[.int .i64 T, .int .i64 n, .int .i64 y, .int .i64 x]] w fun e w' => e = .returned (.bool false) ∧ Below w.heap.size w w') := Lib.hid fun w => (ready_any pa sa pb sb s o i l t T n y x w).mono fun e w' h => by obtain ⟨⟨c, hc, hi⟩, hb⟩ := h; refine ⟨?_, hb⟩; rw [hc]; cases c <;> simp_all
  clear hn
  go_enter Try.func9, Try.ntmps9
  go_wp2_with fail
  generalize (((w.alloc (.cells #[.int .i64 pa, .int .i64 sa, .int .i64 pb, .int .i64 sb] 56)).alloc (.cells #[.int .i64 s, .int .i64 o, .int .i64 i, .int .i64 l, .int .i64 t] 23)).alloc (.cells #[.int .i64 T, .int .i64 n, .int .i64 y, .int .i64 x] 58)) = W at *
  obtain ⟨u0, u1, u2, u3⟩ := quad_of F0; obtain ⟨k0, k1, k2, k3, k4⟩ := five_of F1; obtain ⟨h0, h1, h2, h3⟩ := quad_of F2
  go_wp2_with (first
    | (go_at_call 11; refine (HL.out _).mono ?_; clear HL; rintro e w1 ⟨rfl, b9⟩; clear u0 u1 u2 u3 k0 k1 k2 k3 k4 h0 h1 h2 h3; have F0 := F0.below b9 F0.lt; have F1 := F1.below b9 F1.lt; have F2 := F2.below b9 F2.lt; have BX := thenB BX b9; have sz : w.heap.size + 3 ≤ w1.heap.size := Nat.le_trans sz b9.size; clear b9; obtain ⟨u0, u1, u2, u3⟩ := quad_of F0; obtain ⟨k0, k1, k2, k3, k4⟩ := five_of F1; obtain ⟨h0, h1, h2, h3⟩ := quad_of F2)
    | (go_at_call 31; refine (HR.out _).mono ?_; clear HR; rintro e w2 ⟨rfl, b9⟩; clear u0 u1 u2 u3 k0 k1 k2 k3 k4 h0 h1 h2 h3; have F0 := F0.below b9 F0.lt; have F1 := F1.below b9 F1.lt; have F2 := F2.below b9 F2.lt; have BX := thenB BX b9; have sz : w.heap.size + 3 ≤ w2.heap.size := Nat.le_trans sz b9.size; clear b9; obtain ⟨u0, u1, u2, u3⟩ := quad_of F0; obtain ⟨k0, k1, k2, k3, k4⟩ := five_of F1; obtain ⟨h0, h1, h2, h3⟩ := quad_of F2))
  go_ret
  exact ⟨rfl, BX⟩
set_option maxRecDepth 100000 in
set_option maxHeartbeats 10000000 in
theorem window_late (pa sa pb sb s o i l t T n y x r V0 V1 : Int) (w : World) (hy : Rdy pa sa pb sb s o i l t T n) (HR : Hid (∀ w, Calls Try.prog 31 #[.agg #[.int .i64 pa, .int .i64 sa], .agg #[.int .i64 pb, .int .i64 sb], upd s o i l t, .agg #[.int .i64 T, .int .i64 n, .int .i64 y, .int .i64 x]] w fun e w' => e = .returned (.bool true) ∧ Below w.heap.size w w')) (H1 : Hid (∀ w, Calls Try.prog 33 #[.agg #[.int .i64 pa, .int .i64 sa], .int .i64 T] w fun e w' => e = .returned (.int .i64 V0) ∧ Below w.heap.size w w')) (H2 : Hid (∀ w, Calls Try.prog 23 #[.int .i64 V0, upd s o i l t, .int .i64 n] w fun e w' => e = .returned (.int .i64 V1) ∧ Below w.heap.size w w')) (H3 : Hid (∀ w, Calls Try.prog 32 #[.agg #[.int .i64 pa, .int .i64 sa], .int .i64 V1] w fun e w' => e = .returned (.int .i64 r) ∧ Below w.heap.size w w')) (hr : decide (1099511627776 ≤ r) = true) :
    Calls Try.prog 9 #[.agg #[.int .i64 pa, .int .i64 sa, .int .i64 pb, .int .i64 sb], upd s o i l t, .agg #[.int .i64 T, .int .i64 n, .int .i64 y, .int .i64 x]] w fun e w' => e = .returned (.bool true) ∧ Below w.heap.size w w' := by
  have F0 : Mem.Blk (((w.alloc (.cells #[.int .i64 pa, .int .i64 sa, .int .i64 pb, .int .i64 sb] 56)).alloc (.cells #[.int .i64 s, .int .i64 o, .int .i64 i, .int .i64 l, .int .i64 t] 23)).alloc (.cells #[.int .i64 T, .int .i64 n, .int .i64 y, .int .i64 x] 58)) w.heap.size 56 #[.int .i64 pa, .int .i64 sa, .int .i64 pb, .int .i64 sb] := (((Blk.fresh w 56 #[.int .i64 pa, .int .i64 sa, .int .i64 pb, .int .i64 sb]).alloc (.cells #[.int .i64 s, .int .i64 o, .int .i64 i, .int .i64 l, .int .i64 t] 23)).alloc (.cells #[.int .i64 T, .int .i64 n, .int .i64 y, .int .i64 x] 58))
  have F1 : Mem.Blk (((w.alloc (.cells #[.int .i64 pa, .int .i64 sa, .int .i64 pb, .int .i64 sb] 56)).alloc (.cells #[.int .i64 s, .int .i64 o, .int .i64 i, .int .i64 l, .int .i64 t] 23)).alloc (.cells #[.int .i64 T, .int .i64 n, .int .i64 y, .int .i64 x] 58)) (w.heap.size + 1) 23 #[.int .i64 s, .int .i64 o, .int .i64 i, .int .i64 l, .int .i64 t] := by
    have := ((Blk.fresh (w.alloc (.cells #[.int .i64 pa, .int .i64 sa, .int .i64 pb, .int .i64 sb] 56)) 23 #[.int .i64 s, .int .i64 o, .int .i64 i, .int .i64 l, .int .i64 t]).alloc (.cells #[.int .i64 T, .int .i64 n, .int .i64 y, .int .i64 x] 58))
    rwa [World.size_alloc] at this
  have F2 : Mem.Blk (((w.alloc (.cells #[.int .i64 pa, .int .i64 sa, .int .i64 pb, .int .i64 sb] 56)).alloc (.cells #[.int .i64 s, .int .i64 o, .int .i64 i, .int .i64 l, .int .i64 t] 23)).alloc (.cells #[.int .i64 T, .int .i64 n, .int .i64 y, .int .i64 x] 58)) (w.heap.size + 2) 58 #[.int .i64 T, .int .i64 n, .int .i64 y, .int .i64 x] := by
    have := (Blk.fresh ((w.alloc (.cells #[.int .i64 pa, .int .i64 sa, .int .i64 pb, .int .i64 sb] 56)).alloc (.cells #[.int .i64 s, .int .i64 o, .int .i64 i, .int .i64 l, .int .i64 t] 23)) 58 #[.int .i64 T, .int .i64 n, .int .i64 y, .int .i64 x])
    rwa [World.size_alloc, World.size_alloc] at this
  have hbel : Below w.heap.size w (((w.alloc (.cells #[.int .i64 pa, .int .i64 sa, .int .i64 pb, .int .i64 sb] 56)).alloc (.cells #[.int .i64 s, .int .i64 o, .int .i64 i, .int .i64 l, .int .i64 t] 23)).alloc (.cells #[.int .i64 T, .int .i64 n, .int .i64 y, .int .i64 x] 58)) := ((((Below.refl _ w).alloc (Nat.le_refl _) _).alloc (by simp) _).alloc (by simp; omega) _)
  have sz : w.heap.size + 3 ≤ (((w.alloc (.cells #[.int .i64 pa, .int .i64 sa, .int .i64 pb, .int .i64 sb] 56)).alloc (.cells #[.int .i64 s, .int .i64 o, .int .i64 i, .int .i64 l, .int .i64 t] 23)).alloc (.cells #[.int .i64 T, .int .i64 n, .int .i64 y, .int .i64 x] 58)).heap.size := by simp
  have BX := hbel
  clear hbel
  have HL := Lib.hid lives_any
  clear hy
  go_enter Try.func9, Try.ntmps9
  go_wp2_with fail
  generalize (((w.alloc (.cells #[.int .i64 pa, .int .i64 sa, .int .i64 pb, .int .i64 sb] 56)).alloc (.cells #[.int .i64 s, .int .i64 o, .int .i64 i, .int .i64 l, .int .i64 t] 23)).alloc (.cells #[.int .i64 T, .int .i64 n, .int .i64 y, .int .i64 x] 58)) = W at *
  obtain ⟨u0, u1, u2, u3⟩ := quad_of F0; obtain ⟨k0, k1, k2, k3, k4⟩ := five_of F1; obtain ⟨h0, h1, h2, h3⟩ := quad_of F2
  go_wp2_with (first
    | (go_at_call 11; refine (HL.out _).mono ?_; clear HL; rintro e w1 ⟨rfl, b9⟩; clear u0 u1 u2 u3 k0 k1 k2 k3 k4 h0 h1 h2 h3; have F0 := F0.below b9 F0.lt; have F1 := F1.below b9 F1.lt; have F2 := F2.below b9 F2.lt; have BX := thenB BX b9; have sz : w.heap.size + 3 ≤ w1.heap.size := Nat.le_trans sz b9.size; clear b9; obtain ⟨u0, u1, u2, u3⟩ := quad_of F0; obtain ⟨k0, k1, k2, k3, k4⟩ := five_of F1; obtain ⟨h0, h1, h2, h3⟩ := quad_of F2)
    | (go_at_call 31; refine (HR.out _).mono ?_; clear HR; rintro e w2 ⟨rfl, b9⟩; clear u0 u1 u2 u3 k0 k1 k2 k3 k4 h0 h1 h2 h3; have F0 := F0.below b9 F0.lt; have F1 := F1.below b9 F1.lt; have F2 := F2.below b9 F2.lt; have BX := thenB BX b9; have sz : w.heap.size + 3 ≤ w2.heap.size := Nat.le_trans sz b9.size; clear b9; skip))
  refine wp_region_held_drew (S := (fun w' => Quad w' (w.heap.size) pa sa pb sb ∧ Five w' (w.heap.size + 1) s o i l t ∧ Quad w' (w.heap.size + 2) T n y x)) (by kernel_rfl) ?_ (fun hHeld => ?_)
  · exact ⟨quad_of F0, five_of F1, quad_of F2⟩
  have TT : Quad w2.drew (w.heap.size) pa sa pb sb ∧ Five w2.drew (w.heap.size + 1) s o i l t ∧ Quad w2.drew (w.heap.size + 2) T n y x := ⟨quad_of F0.drew, five_of F1.drew, quad_of F2.drew⟩
  have F0 := F0.drew
  have F1 := F1.drew
  have F2 := F2.drew
  have BX := BX.drew
  have sz : w.heap.size + 3 ≤ w2.drew.heap.size := sz
  generalize w2.drew = X0 at *
  refine wpAnyH_take (i := 0) (v := .pointer (some ⟨w.heap.size, 0, none⟩)) rfl (by kernel_rfl) (by kernel_rfl) (by kernel_rfl) (fun _ _ _ h => h) (Or.inl ⟨by first | rfl | go_simp, by intro w9 hSw; (try dsimp only at hSw); go_simp⟩) (by assumption) ?_
  simp only [List.getElem_toArray, List.getElem_cons_zero, List.getElem_cons_succ, Act.put, List.setIfInBounds_toArray, List.set_cons_zero, List.set_cons_succ]
  refine wpAnyH_take (i := 1) (v := .agg #[.int .i64 pa, .int .i64 sa]) rfl (by kernel_rfl) (by kernel_rfl) (by kernel_rfl) (fun _ _ _ h => h) (Or.inl ⟨by first | rfl | go_simp, by intro w9 hSw; (try dsimp only at hSw); go_simp⟩) (by assumption) ?_
  simp only [List.getElem_toArray, List.getElem_cons_zero, List.getElem_cons_succ, Act.put, List.setIfInBounds_toArray, List.set_cons_zero, List.set_cons_succ]
  refine wpAnyH_take (i := 2) (v := .pointer (some ⟨w.heap.size, 0, none⟩)) rfl (by kernel_rfl) (by kernel_rfl) (by kernel_rfl) (fun _ _ _ h => h) (Or.inl ⟨by first | rfl | go_simp, by intro w9 hSw; (try dsimp only at hSw); go_simp⟩) (by assumption) ?_
  simp only [List.getElem_toArray, List.getElem_cons_zero, List.getElem_cons_succ, Act.put, List.setIfInBounds_toArray, List.set_cons_zero, List.set_cons_succ]
  refine wpAnyH_take (i := 3) (v := .agg #[.int .i64 pa, .int .i64 sa]) rfl (by kernel_rfl) (by kernel_rfl) (by kernel_rfl) (fun _ _ _ h => h) (Or.inl ⟨by first | rfl | go_simp, by intro w9 hSw; (try dsimp only at hSw); go_simp⟩) (by assumption) ?_
  simp only [List.getElem_toArray, List.getElem_cons_zero, List.getElem_cons_succ, Act.put, List.setIfInBounds_toArray, List.set_cons_zero, List.set_cons_succ]
  refine wpAnyH_take (i := 4) (v := .pointer (some ⟨w.heap.size + 2, 0, none⟩)) rfl (by kernel_rfl) (by kernel_rfl) (by kernel_rfl) (fun _ _ _ h => h) (Or.inl ⟨by first | rfl | go_simp, by intro w9 hSw; (try dsimp only at hSw); go_simp⟩) (by assumption) ?_
  simp only [List.getElem_toArray, List.getElem_cons_zero, List.getElem_cons_succ, Act.put, List.setIfInBounds_toArray, List.set_cons_zero, List.set_cons_succ]
  refine wpAnyH_take (i := 5) (v := .int .i64 T) rfl (by kernel_rfl) (by kernel_rfl) (by kernel_rfl) (fun _ _ _ h => h) (Or.inl ⟨by first | rfl | go_simp, by intro w9 hSw; (try dsimp only at hSw); go_simp⟩) (by assumption) ?_
  simp only [List.getElem_toArray, List.getElem_cons_zero, List.getElem_cons_succ, Act.put, List.setIfInBounds_toArray, List.set_cons_zero, List.set_cons_succ]
  refine wpAnyH_take (i := 7) (v := .agg #[.int .i64 s, .int .i64 o, .int .i64 i, .int .i64 l, .int .i64 t]) rfl (by kernel_rfl) (by kernel_rfl) (by kernel_rfl) (fun _ _ _ h => h) (Or.inl ⟨by first | rfl | go_simp, by intro w9 hSw; (try dsimp only at hSw); go_simp⟩) (by assumption) ?_
  simp only [List.getElem_toArray, List.getElem_cons_zero, List.getElem_cons_succ, Act.put, List.setIfInBounds_toArray, List.set_cons_zero, List.set_cons_succ]
  refine wpAnyH_take (i := 8) (v := .pointer (some ⟨w.heap.size + 2, 1, none⟩)) rfl (by kernel_rfl) (by kernel_rfl) (by kernel_rfl) (fun _ _ _ h => h) (Or.inl ⟨by first | rfl | go_simp, by intro w9 hSw; (try dsimp only at hSw); go_simp⟩) (by assumption) ?_
  simp only [List.getElem_toArray, List.getElem_cons_zero, List.getElem_cons_succ, Act.put, List.setIfInBounds_toArray, List.set_cons_zero, List.set_cons_succ]
  refine wpAnyH_take (i := 9) (v := .int .i64 n) rfl (by kernel_rfl) (by kernel_rfl) (by kernel_rfl) (fun _ _ _ h => h) (Or.inl ⟨by first | rfl | go_simp, by intro w9 hSw; (try dsimp only at hSw); go_simp⟩) (by assumption) ?_
  simp only [List.getElem_toArray, List.getElem_cons_zero, List.getElem_cons_succ, Act.put, List.setIfInBounds_toArray, List.set_cons_zero, List.set_cons_succ]
  refine wpAnyH_ready (rs := [6]) (by kernel_rfl) (by simp) ?_
  refine AllReadyH.cons rfl (fun K hK => ?_) (AllReadyH.nil)
  go_simp
  refine (H1.out _).mono ?_
  rintro e X1 ⟨rfl, b9⟩
  clear H1
  have F0 := F0.below b9 F0.lt
  have F1 := F1.below b9 F1.lt
  have F2 := F2.below b9 F2.lt
  have TT := And.intro (quad_of F0) (And.intro (five_of F1) (quad_of F2))
  have BX := thenB BX b9
  have sz := Nat.le_trans sz b9.size
  refine hK.out _ _ TT (fun hHeld => ?_)
  clear hK K
  try simp only [List.getElem_toArray, List.getElem_cons_zero, List.getElem_cons_succ, Act.put, List.setIfInBounds_toArray, List.set_cons_zero, List.set_cons_succ]
  refine wpAnyH_ready (rs := [10]) (by kernel_rfl) (by simp) ?_
  refine AllReadyH.cons rfl (fun K hK => ?_) (AllReadyH.nil)
  go_simp
  refine (H2.out _).mono ?_
  rintro e X2 ⟨rfl, b9⟩
  clear H2
  have F0 := F0.below b9 F0.lt
  have F1 := F1.below b9 F1.lt
  have F2 := F2.below b9 F2.lt
  have TT := And.intro (quad_of F0) (And.intro (five_of F1) (quad_of F2))
  have BX := thenB BX b9
  have sz := Nat.le_trans sz b9.size
  refine hK.out _ _ TT (fun hHeld => ?_)
  clear hK K
  try simp only [List.getElem_toArray, List.getElem_cons_zero, List.getElem_cons_succ, Act.put, List.setIfInBounds_toArray, List.set_cons_zero, List.set_cons_succ]
  refine wpAnyH_ready (rs := [11]) (by kernel_rfl) (by simp) ?_
  refine AllReadyH.cons rfl (fun K hK => ?_) (AllReadyH.nil)
  go_simp
  refine (H3.out _).mono ?_
  rintro e X3 ⟨rfl, b9⟩
  clear H3
  have F0 := F0.below b9 F0.lt
  have F1 := F1.below b9 F1.lt
  have F2 := F2.below b9 F2.lt
  have TT := And.intro (quad_of F0) (And.intro (five_of F1) (quad_of F2))
  have BX := thenB BX b9
  have sz := Nat.le_trans sz b9.size
  refine hK.out _ _ TT (fun hHeld => ?_)
  clear hK K
  try simp only [List.getElem_toArray, List.getElem_cons_zero, List.getElem_cons_succ, Act.put, List.setIfInBounds_toArray, List.set_cons_zero, List.set_cons_succ]
  refine wpAnyH_take (i := 12) (v := .int .i64 r) rfl (by kernel_rfl) (by kernel_rfl) (by kernel_rfl) (fun _ _ _ h => h) (Or.inl ⟨by first | rfl | go_simp, by intro w9 hSw; (try dsimp only at hSw); go_simp⟩) (by assumption) ?_
  simp only [List.getElem_toArray, List.getElem_cons_zero, List.getElem_cons_succ, Act.put, List.setIfInBounds_toArray, List.set_cons_zero, List.set_cons_succ]
  refine wpAnyH_done (by kernel_rfl) ?_ _
  go_wp2_with fail
  go_ret
  exact ⟨rfl, BX⟩
set_option maxRecDepth 100000 in
set_option maxHeartbeats 10000000 in
theorem window_in (pa sa pb sb s o i l t T n y x r V0 V1 V2 V3 dv P1 P2 : Int) (w : World) (HR : Hid (∀ w, Calls Try.prog 31 #[.agg #[.int .i64 pa, .int .i64 sa], .agg #[.int .i64 pb, .int .i64 sb], upd s o i l t, .agg #[.int .i64 T, .int .i64 n, .int .i64 y, .int .i64 x]] w fun e w' => e = .returned (.bool true) ∧ Below w.heap.size w w')) (H1 : Hid (∀ w, Calls Try.prog 33 #[.agg #[.int .i64 pa, .int .i64 sa], .int .i64 T] w fun e w' => e = .returned (.int .i64 V0) ∧ Below w.heap.size w w')) (H2 : Hid (∀ w, Calls Try.prog 23 #[.int .i64 V0, upd s o i l t, .int .i64 n] w fun e w' => e = .returned (.int .i64 V1) ∧ Below w.heap.size w w')) (H3 : Hid (∀ w, Calls Try.prog 32 #[.agg #[.int .i64 pa, .int .i64 sa], .int .i64 V1] w fun e w' => e = .returned (.int .i64 r) ∧ Below w.heap.size w w')) (H4 : Hid (∀ w, Calls Try.prog 33 #[.agg #[.int .i64 pb, .int .i64 sb], .int .i64 T] w fun e w' => e = .returned (.int .i64 V2) ∧ Below w.heap.size w w')) (H5 : Hid (∀ w, Calls Try.prog 34 #[.agg #[.int .i64 pa, .int .i64 sa], .agg #[.int .i64 pb, .int .i64 sb], .int .i64 y] w fun e w' => e = .returned (.int .i64 dv) ∧ Below w.heap.size w w')) (H6 : Hid (∀ w, Calls Try.prog 27 #[.int .i64 V2, .int .i64 n, upd s o i l t, .int .i64 dv] w fun e w' => e = .returned (.agg #[.int .i64 P1, .int .i64 P2]) ∧ Below w.heap.size w w')) (H7 : Hid (∀ w, Calls Try.prog 33 #[.agg #[.int .i64 pb, .int .i64 sb], .int .i64 r] w fun e w' => e = .returned (.int .i64 V3) ∧ Below w.heap.size w w')) (hr : decide (1099511627776 ≤ r) = false) (m1 : decide (P1 ≤ V3) = true) (m2 : decide (V3 < P2) = true) :
    Calls Try.prog 9 #[.agg #[.int .i64 pa, .int .i64 sa, .int .i64 pb, .int .i64 sb], upd s o i l t, .agg #[.int .i64 T, .int .i64 n, .int .i64 y, .int .i64 x]] w fun e w' => e = .returned (.bool true) ∧ Below w.heap.size w w' := by
  have F0 : Mem.Blk (((w.alloc (.cells #[.int .i64 pa, .int .i64 sa, .int .i64 pb, .int .i64 sb] 56)).alloc (.cells #[.int .i64 s, .int .i64 o, .int .i64 i, .int .i64 l, .int .i64 t] 23)).alloc (.cells #[.int .i64 T, .int .i64 n, .int .i64 y, .int .i64 x] 58)) w.heap.size 56 #[.int .i64 pa, .int .i64 sa, .int .i64 pb, .int .i64 sb] := (((Blk.fresh w 56 #[.int .i64 pa, .int .i64 sa, .int .i64 pb, .int .i64 sb]).alloc (.cells #[.int .i64 s, .int .i64 o, .int .i64 i, .int .i64 l, .int .i64 t] 23)).alloc (.cells #[.int .i64 T, .int .i64 n, .int .i64 y, .int .i64 x] 58))
  have F1 : Mem.Blk (((w.alloc (.cells #[.int .i64 pa, .int .i64 sa, .int .i64 pb, .int .i64 sb] 56)).alloc (.cells #[.int .i64 s, .int .i64 o, .int .i64 i, .int .i64 l, .int .i64 t] 23)).alloc (.cells #[.int .i64 T, .int .i64 n, .int .i64 y, .int .i64 x] 58)) (w.heap.size + 1) 23 #[.int .i64 s, .int .i64 o, .int .i64 i, .int .i64 l, .int .i64 t] := by
    have := ((Blk.fresh (w.alloc (.cells #[.int .i64 pa, .int .i64 sa, .int .i64 pb, .int .i64 sb] 56)) 23 #[.int .i64 s, .int .i64 o, .int .i64 i, .int .i64 l, .int .i64 t]).alloc (.cells #[.int .i64 T, .int .i64 n, .int .i64 y, .int .i64 x] 58))
    rwa [World.size_alloc] at this
  have F2 : Mem.Blk (((w.alloc (.cells #[.int .i64 pa, .int .i64 sa, .int .i64 pb, .int .i64 sb] 56)).alloc (.cells #[.int .i64 s, .int .i64 o, .int .i64 i, .int .i64 l, .int .i64 t] 23)).alloc (.cells #[.int .i64 T, .int .i64 n, .int .i64 y, .int .i64 x] 58)) (w.heap.size + 2) 58 #[.int .i64 T, .int .i64 n, .int .i64 y, .int .i64 x] := by
    have := (Blk.fresh ((w.alloc (.cells #[.int .i64 pa, .int .i64 sa, .int .i64 pb, .int .i64 sb] 56)).alloc (.cells #[.int .i64 s, .int .i64 o, .int .i64 i, .int .i64 l, .int .i64 t] 23)) 58 #[.int .i64 T, .int .i64 n, .int .i64 y, .int .i64 x])
    rwa [World.size_alloc, World.size_alloc] at this
  have hbel : Below w.heap.size w (((w.alloc (.cells #[.int .i64 pa, .int .i64 sa, .int .i64 pb, .int .i64 sb] 56)).alloc (.cells #[.int .i64 s, .int .i64 o, .int .i64 i, .int .i64 l, .int .i64 t] 23)).alloc (.cells #[.int .i64 T, .int .i64 n, .int .i64 y, .int .i64 x] 58)) := ((((Below.refl _ w).alloc (Nat.le_refl _) _).alloc (by simp) _).alloc (by simp; omega) _)
  have sz : w.heap.size + 3 ≤ (((w.alloc (.cells #[.int .i64 pa, .int .i64 sa, .int .i64 pb, .int .i64 sb] 56)).alloc (.cells #[.int .i64 s, .int .i64 o, .int .i64 i, .int .i64 l, .int .i64 t] 23)).alloc (.cells #[.int .i64 T, .int .i64 n, .int .i64 y, .int .i64 x] 58)).heap.size := by simp
  have BX := hbel
  clear hbel
  have HL := Lib.hid lives_any
  go_enter Try.func9, Try.ntmps9
  go_wp2_with fail
  generalize (((w.alloc (.cells #[.int .i64 pa, .int .i64 sa, .int .i64 pb, .int .i64 sb] 56)).alloc (.cells #[.int .i64 s, .int .i64 o, .int .i64 i, .int .i64 l, .int .i64 t] 23)).alloc (.cells #[.int .i64 T, .int .i64 n, .int .i64 y, .int .i64 x] 58)) = W at *
  obtain ⟨u0, u1, u2, u3⟩ := quad_of F0; obtain ⟨k0, k1, k2, k3, k4⟩ := five_of F1; obtain ⟨h0, h1, h2, h3⟩ := quad_of F2
  go_wp2_with (first
    | (go_at_call 11; refine (HL.out _).mono ?_; clear HL; rintro e w1 ⟨rfl, b9⟩; clear u0 u1 u2 u3 k0 k1 k2 k3 k4 h0 h1 h2 h3; have F0 := F0.below b9 F0.lt; have F1 := F1.below b9 F1.lt; have F2 := F2.below b9 F2.lt; have BX := thenB BX b9; have sz : w.heap.size + 3 ≤ w1.heap.size := Nat.le_trans sz b9.size; clear b9; obtain ⟨u0, u1, u2, u3⟩ := quad_of F0; obtain ⟨k0, k1, k2, k3, k4⟩ := five_of F1; obtain ⟨h0, h1, h2, h3⟩ := quad_of F2)
    | (go_at_call 31; refine (HR.out _).mono ?_; clear HR; rintro e w2 ⟨rfl, b9⟩; clear u0 u1 u2 u3 k0 k1 k2 k3 k4 h0 h1 h2 h3; have F0 := F0.below b9 F0.lt; have F1 := F1.below b9 F1.lt; have F2 := F2.below b9 F2.lt; have BX := thenB BX b9; have sz : w.heap.size + 3 ≤ w2.heap.size := Nat.le_trans sz b9.size; clear b9; skip))
  refine wp_region_held_drew (S := (fun w' => Quad w' (w.heap.size) pa sa pb sb ∧ Five w' (w.heap.size + 1) s o i l t ∧ Quad w' (w.heap.size + 2) T n y x)) (by kernel_rfl) ?_ (fun hHeld => ?_)
  · exact ⟨quad_of F0, five_of F1, quad_of F2⟩
  have TT : Quad w2.drew (w.heap.size) pa sa pb sb ∧ Five w2.drew (w.heap.size + 1) s o i l t ∧ Quad w2.drew (w.heap.size + 2) T n y x := ⟨quad_of F0.drew, five_of F1.drew, quad_of F2.drew⟩
  have F0 := F0.drew
  have F1 := F1.drew
  have F2 := F2.drew
  have BX := BX.drew
  have sz : w.heap.size + 3 ≤ w2.drew.heap.size := sz
  generalize w2.drew = X0 at *
  refine wpAnyH_take (i := 0) (v := .pointer (some ⟨w.heap.size, 0, none⟩)) rfl (by kernel_rfl) (by kernel_rfl) (by kernel_rfl) (fun _ _ _ h => h) (Or.inl ⟨by first | rfl | go_simp, by intro w9 hSw; (try dsimp only at hSw); go_simp⟩) (by assumption) ?_
  simp only [List.getElem_toArray, List.getElem_cons_zero, List.getElem_cons_succ, Act.put, List.setIfInBounds_toArray, List.set_cons_zero, List.set_cons_succ]
  refine wpAnyH_take (i := 1) (v := .agg #[.int .i64 pa, .int .i64 sa]) rfl (by kernel_rfl) (by kernel_rfl) (by kernel_rfl) (fun _ _ _ h => h) (Or.inl ⟨by first | rfl | go_simp, by intro w9 hSw; (try dsimp only at hSw); go_simp⟩) (by assumption) ?_
  simp only [List.getElem_toArray, List.getElem_cons_zero, List.getElem_cons_succ, Act.put, List.setIfInBounds_toArray, List.set_cons_zero, List.set_cons_succ]
  refine wpAnyH_take (i := 2) (v := .pointer (some ⟨w.heap.size, 0, none⟩)) rfl (by kernel_rfl) (by kernel_rfl) (by kernel_rfl) (fun _ _ _ h => h) (Or.inl ⟨by first | rfl | go_simp, by intro w9 hSw; (try dsimp only at hSw); go_simp⟩) (by assumption) ?_
  simp only [List.getElem_toArray, List.getElem_cons_zero, List.getElem_cons_succ, Act.put, List.setIfInBounds_toArray, List.set_cons_zero, List.set_cons_succ]
  refine wpAnyH_take (i := 3) (v := .agg #[.int .i64 pa, .int .i64 sa]) rfl (by kernel_rfl) (by kernel_rfl) (by kernel_rfl) (fun _ _ _ h => h) (Or.inl ⟨by first | rfl | go_simp, by intro w9 hSw; (try dsimp only at hSw); go_simp⟩) (by assumption) ?_
  simp only [List.getElem_toArray, List.getElem_cons_zero, List.getElem_cons_succ, Act.put, List.setIfInBounds_toArray, List.set_cons_zero, List.set_cons_succ]
  refine wpAnyH_take (i := 4) (v := .pointer (some ⟨w.heap.size + 2, 0, none⟩)) rfl (by kernel_rfl) (by kernel_rfl) (by kernel_rfl) (fun _ _ _ h => h) (Or.inl ⟨by first | rfl | go_simp, by intro w9 hSw; (try dsimp only at hSw); go_simp⟩) (by assumption) ?_
  simp only [List.getElem_toArray, List.getElem_cons_zero, List.getElem_cons_succ, Act.put, List.setIfInBounds_toArray, List.set_cons_zero, List.set_cons_succ]
  refine wpAnyH_take (i := 5) (v := .int .i64 T) rfl (by kernel_rfl) (by kernel_rfl) (by kernel_rfl) (fun _ _ _ h => h) (Or.inl ⟨by first | rfl | go_simp, by intro w9 hSw; (try dsimp only at hSw); go_simp⟩) (by assumption) ?_
  simp only [List.getElem_toArray, List.getElem_cons_zero, List.getElem_cons_succ, Act.put, List.setIfInBounds_toArray, List.set_cons_zero, List.set_cons_succ]
  refine wpAnyH_take (i := 7) (v := .agg #[.int .i64 s, .int .i64 o, .int .i64 i, .int .i64 l, .int .i64 t]) rfl (by kernel_rfl) (by kernel_rfl) (by kernel_rfl) (fun _ _ _ h => h) (Or.inl ⟨by first | rfl | go_simp, by intro w9 hSw; (try dsimp only at hSw); go_simp⟩) (by assumption) ?_
  simp only [List.getElem_toArray, List.getElem_cons_zero, List.getElem_cons_succ, Act.put, List.setIfInBounds_toArray, List.set_cons_zero, List.set_cons_succ]
  refine wpAnyH_take (i := 8) (v := .pointer (some ⟨w.heap.size + 2, 1, none⟩)) rfl (by kernel_rfl) (by kernel_rfl) (by kernel_rfl) (fun _ _ _ h => h) (Or.inl ⟨by first | rfl | go_simp, by intro w9 hSw; (try dsimp only at hSw); go_simp⟩) (by assumption) ?_
  simp only [List.getElem_toArray, List.getElem_cons_zero, List.getElem_cons_succ, Act.put, List.setIfInBounds_toArray, List.set_cons_zero, List.set_cons_succ]
  refine wpAnyH_take (i := 9) (v := .int .i64 n) rfl (by kernel_rfl) (by kernel_rfl) (by kernel_rfl) (fun _ _ _ h => h) (Or.inl ⟨by first | rfl | go_simp, by intro w9 hSw; (try dsimp only at hSw); go_simp⟩) (by assumption) ?_
  simp only [List.getElem_toArray, List.getElem_cons_zero, List.getElem_cons_succ, Act.put, List.setIfInBounds_toArray, List.set_cons_zero, List.set_cons_succ]
  refine wpAnyH_ready (rs := [6]) (by kernel_rfl) (by simp) ?_
  refine AllReadyH.cons rfl (fun K hK => ?_) (AllReadyH.nil)
  go_simp
  refine (H1.out _).mono ?_
  rintro e X1 ⟨rfl, b9⟩
  clear H1
  have F0 := F0.below b9 F0.lt
  have F1 := F1.below b9 F1.lt
  have F2 := F2.below b9 F2.lt
  have TT := And.intro (quad_of F0) (And.intro (five_of F1) (quad_of F2))
  have BX := thenB BX b9
  have sz := Nat.le_trans sz b9.size
  refine hK.out _ _ TT (fun hHeld => ?_)
  clear hK K
  try simp only [List.getElem_toArray, List.getElem_cons_zero, List.getElem_cons_succ, Act.put, List.setIfInBounds_toArray, List.set_cons_zero, List.set_cons_succ]
  refine wpAnyH_ready (rs := [10]) (by kernel_rfl) (by simp) ?_
  refine AllReadyH.cons rfl (fun K hK => ?_) (AllReadyH.nil)
  go_simp
  refine (H2.out _).mono ?_
  rintro e X2 ⟨rfl, b9⟩
  clear H2
  have F0 := F0.below b9 F0.lt
  have F1 := F1.below b9 F1.lt
  have F2 := F2.below b9 F2.lt
  have TT := And.intro (quad_of F0) (And.intro (five_of F1) (quad_of F2))
  have BX := thenB BX b9
  have sz := Nat.le_trans sz b9.size
  refine hK.out _ _ TT (fun hHeld => ?_)
  clear hK K
  try simp only [List.getElem_toArray, List.getElem_cons_zero, List.getElem_cons_succ, Act.put, List.setIfInBounds_toArray, List.set_cons_zero, List.set_cons_succ]
  refine wpAnyH_ready (rs := [11]) (by kernel_rfl) (by simp) ?_
  refine AllReadyH.cons rfl (fun K hK => ?_) (AllReadyH.nil)
  go_simp
  refine (H3.out _).mono ?_
  rintro e X3 ⟨rfl, b9⟩
  clear H3
  have F0 := F0.below b9 F0.lt
  have F1 := F1.below b9 F1.lt
  have F2 := F2.below b9 F2.lt
  have TT := And.intro (quad_of F0) (And.intro (five_of F1) (quad_of F2))
  have BX := thenB BX b9
  have sz := Nat.le_trans sz b9.size
  refine hK.out _ _ TT (fun hHeld => ?_)
  clear hK K
  try simp only [List.getElem_toArray, List.getElem_cons_zero, List.getElem_cons_succ, Act.put, List.setIfInBounds_toArray, List.set_cons_zero, List.set_cons_succ]
  refine wpAnyH_take (i := 12) (v := .int .i64 r) rfl (by kernel_rfl) (by kernel_rfl) (by kernel_rfl) (fun _ _ _ h => h) (Or.inl ⟨by first | rfl | go_simp, by intro w9 hSw; (try dsimp only at hSw); go_simp⟩) (by assumption) ?_
  simp only [List.getElem_toArray, List.getElem_cons_zero, List.getElem_cons_succ, Act.put, List.setIfInBounds_toArray, List.set_cons_zero, List.set_cons_succ]
  refine wpAnyH_done (by kernel_rfl) ?_ _
  go_wp2_with fail
  go_cut [8] from 34 to 49 (fun s8 wx => ∃ G, s8 = .pointer (some ⟨G, 0, none⟩) ∧ wx.cell? ⟨G, 0, none⟩ = some (.int .i64 P1) ∧ wx.cell? ⟨G, 1, none⟩ = some (.int .i64 P2) ∧ Quad wx w.heap.size pa sa pb sb ∧ Below w.heap.size w wx)
  case first =>
    go_wp2_with fail
    refine wp_region_held_drew (S := (fun w' => Quad w' (w.heap.size) pa sa pb sb ∧ Five w' (w.heap.size + 1) s o i l t ∧ Quad w' (w.heap.size + 2) T n y x)) (by kernel_rfl) ?_ (fun hHeld => ?_)
    · exact ⟨quad_of F0, five_of F1, quad_of F2⟩
    have TT : Quad X3.drew (w.heap.size) pa sa pb sb ∧ Five X3.drew (w.heap.size + 1) s o i l t ∧ Quad X3.drew (w.heap.size + 2) T n y x := ⟨quad_of F0.drew, five_of F1.drew, quad_of F2.drew⟩
    have F0 := F0.drew
    have F1 := F1.drew
    have F2 := F2.drew
    have BX := BX.drew
    have sz : w.heap.size + 3 ≤ X3.drew.heap.size := sz
    generalize X3.drew = Y0 at *
    refine wpAnyH_take (i := 0) (v := .pointer (some ⟨w.heap.size, 2, none⟩)) rfl (by kernel_rfl) (by kernel_rfl) (by kernel_rfl) (fun _ _ _ h => h) (Or.inl ⟨by first | rfl | go_simp, by intro w9 hSw; (try dsimp only at hSw); go_simp⟩) (by assumption) ?_
    simp only [List.getElem_toArray, List.getElem_cons_zero, List.getElem_cons_succ, Act.put, List.setIfInBounds_toArray, List.set_cons_zero, List.set_cons_succ]
    refine wpAnyH_take (i := 1) (v := .agg #[.int .i64 pb, .int .i64 sb]) rfl (by kernel_rfl) (by kernel_rfl) (by kernel_rfl) (fun _ _ _ h => h) (Or.inl ⟨by first | rfl | go_simp, by intro w9 hSw; (try dsimp only at hSw); go_simp⟩) (by assumption) ?_
    simp only [List.getElem_toArray, List.getElem_cons_zero, List.getElem_cons_succ, Act.put, List.setIfInBounds_toArray, List.set_cons_zero, List.set_cons_succ]
    refine wpAnyH_take (i := 2) (v := .pointer (some ⟨w.heap.size + 2, 0, none⟩)) rfl (by kernel_rfl) (by kernel_rfl) (by kernel_rfl) (fun _ _ _ h => h) (Or.inl ⟨by first | rfl | go_simp, by intro w9 hSw; (try dsimp only at hSw); go_simp⟩) (by assumption) ?_
    simp only [List.getElem_toArray, List.getElem_cons_zero, List.getElem_cons_succ, Act.put, List.setIfInBounds_toArray, List.set_cons_zero, List.set_cons_succ]
    refine wpAnyH_take (i := 3) (v := .int .i64 T) rfl (by kernel_rfl) (by kernel_rfl) (by kernel_rfl) (fun _ _ _ h => h) (Or.inl ⟨by first | rfl | go_simp, by intro w9 hSw; (try dsimp only at hSw); go_simp⟩) (by assumption) ?_
    simp only [List.getElem_toArray, List.getElem_cons_zero, List.getElem_cons_succ, Act.put, List.setIfInBounds_toArray, List.set_cons_zero, List.set_cons_succ]
    refine wpAnyH_take (i := 5) (v := .pointer (some ⟨w.heap.size + 2, 1, none⟩)) rfl (by kernel_rfl) (by kernel_rfl) (by kernel_rfl) (fun _ _ _ h => h) (Or.inl ⟨by first | rfl | go_simp, by intro w9 hSw; (try dsimp only at hSw); go_simp⟩) (by assumption) ?_
    simp only [List.getElem_toArray, List.getElem_cons_zero, List.getElem_cons_succ, Act.put, List.setIfInBounds_toArray, List.set_cons_zero, List.set_cons_succ]
    refine wpAnyH_take (i := 6) (v := .int .i64 n) rfl (by kernel_rfl) (by kernel_rfl) (by kernel_rfl) (fun _ _ _ h => h) (Or.inl ⟨by first | rfl | go_simp, by intro w9 hSw; (try dsimp only at hSw); go_simp⟩) (by assumption) ?_
    simp only [List.getElem_toArray, List.getElem_cons_zero, List.getElem_cons_succ, Act.put, List.setIfInBounds_toArray, List.set_cons_zero, List.set_cons_succ]
    refine wpAnyH_take (i := 7) (v := .agg #[.int .i64 s, .int .i64 o, .int .i64 i, .int .i64 l, .int .i64 t]) rfl (by kernel_rfl) (by kernel_rfl) (by kernel_rfl) (fun _ _ _ h => h) (Or.inl ⟨by first | rfl | go_simp, by intro w9 hSw; (try dsimp only at hSw); go_simp⟩) (by assumption) ?_
    simp only [List.getElem_toArray, List.getElem_cons_zero, List.getElem_cons_succ, Act.put, List.setIfInBounds_toArray, List.set_cons_zero, List.set_cons_succ]
    refine wpAnyH_take (i := 8) (v := .pointer (some ⟨w.heap.size, 0, none⟩)) rfl (by kernel_rfl) (by kernel_rfl) (by kernel_rfl) (fun _ _ _ h => h) (Or.inl ⟨by first | rfl | go_simp, by intro w9 hSw; (try dsimp only at hSw); go_simp⟩) (by assumption) ?_
    simp only [List.getElem_toArray, List.getElem_cons_zero, List.getElem_cons_succ, Act.put, List.setIfInBounds_toArray, List.set_cons_zero, List.set_cons_succ]
    refine wpAnyH_take (i := 9) (v := .agg #[.int .i64 pa, .int .i64 sa]) rfl (by kernel_rfl) (by kernel_rfl) (by kernel_rfl) (fun _ _ _ h => h) (Or.inl ⟨by first | rfl | go_simp, by intro w9 hSw; (try dsimp only at hSw); go_simp⟩) (by assumption) ?_
    simp only [List.getElem_toArray, List.getElem_cons_zero, List.getElem_cons_succ, Act.put, List.setIfInBounds_toArray, List.set_cons_zero, List.set_cons_succ]
    refine wpAnyH_take (i := 10) (v := .pointer (some ⟨w.heap.size, 2, none⟩)) rfl (by kernel_rfl) (by kernel_rfl) (by kernel_rfl) (fun _ _ _ h => h) (Or.inl ⟨by first | rfl | go_simp, by intro w9 hSw; (try dsimp only at hSw); go_simp⟩) (by assumption) ?_
    simp only [List.getElem_toArray, List.getElem_cons_zero, List.getElem_cons_succ, Act.put, List.setIfInBounds_toArray, List.set_cons_zero, List.set_cons_succ]
    refine wpAnyH_take (i := 11) (v := .agg #[.int .i64 pb, .int .i64 sb]) rfl (by kernel_rfl) (by kernel_rfl) (by kernel_rfl) (fun _ _ _ h => h) (Or.inl ⟨by first | rfl | go_simp, by intro w9 hSw; (try dsimp only at hSw); go_simp⟩) (by assumption) ?_
    simp only [List.getElem_toArray, List.getElem_cons_zero, List.getElem_cons_succ, Act.put, List.setIfInBounds_toArray, List.set_cons_zero, List.set_cons_succ]
    refine wpAnyH_take (i := 12) (v := .pointer (some ⟨w.heap.size + 2, 2, none⟩)) rfl (by kernel_rfl) (by kernel_rfl) (by kernel_rfl) (fun _ _ _ h => h) (Or.inl ⟨by first | rfl | go_simp, by intro w9 hSw; (try dsimp only at hSw); go_simp⟩) (by assumption) ?_
    simp only [List.getElem_toArray, List.getElem_cons_zero, List.getElem_cons_succ, Act.put, List.setIfInBounds_toArray, List.set_cons_zero, List.set_cons_succ]
    refine wpAnyH_take (i := 13) (v := .int .i64 y) rfl (by kernel_rfl) (by kernel_rfl) (by kernel_rfl) (fun _ _ _ h => h) (Or.inl ⟨by first | rfl | go_simp, by intro w9 hSw; (try dsimp only at hSw); go_simp⟩) (by assumption) ?_
    simp only [List.getElem_toArray, List.getElem_cons_zero, List.getElem_cons_succ, Act.put, List.setIfInBounds_toArray, List.set_cons_zero, List.set_cons_succ]
    refine wpAnyH_ready (rs := [4, 16]) (by kernel_rfl) (by simp) ?_
    refine AllReadyH.cons rfl (fun K hK => ?_) (AllReadyH.cons rfl (fun K hK => ?_) (AllReadyH.nil))
    · skip
      go_simp
      refine (H4.out _).mono ?_
      rintro e Y1 ⟨rfl, b9⟩
      have F0 := F0.below b9 F0.lt
      have F1 := F1.below b9 F1.lt
      have F2 := F2.below b9 F2.lt
      have TT := And.intro (quad_of F0) (And.intro (five_of F1) (quad_of F2))
      have BX := thenB BX b9
      have sz := Nat.le_trans sz b9.size
      refine hK.out _ _ TT (fun hHeld => ?_)
      clear hK K
      try simp only [List.getElem_toArray, List.getElem_cons_zero, List.getElem_cons_succ, Act.put, List.setIfInBounds_toArray, List.set_cons_zero, List.set_cons_succ]
      refine wpAnyH_ready (rs := [14, 16]) (by kernel_rfl) (by simp) ?_
      refine AllReadyH.cons rfl (fun K hK => ?_) (AllReadyH.cons rfl (fun K hK => ?_) (AllReadyH.nil))
      · skip
        go_simp
        refine (H5.out _).mono ?_
        rintro e Y2 ⟨rfl, b9⟩
        have F0 := F0.below b9 F0.lt
        have F1 := F1.below b9 F1.lt
        have F2 := F2.below b9 F2.lt
        have TT := And.intro (quad_of F0) (And.intro (five_of F1) (quad_of F2))
        have BX := thenB BX b9
        have sz := Nat.le_trans sz b9.size
        refine hK.out _ _ TT (fun hHeld => ?_)
        clear hK K
        try simp only [List.getElem_toArray, List.getElem_cons_zero, List.getElem_cons_succ, Act.put, List.setIfInBounds_toArray, List.set_cons_zero, List.set_cons_succ]
        refine wpAnyH_ready (rs := [15, 16]) (by kernel_rfl) (by simp) ?_
        refine AllReadyH.cons rfl (fun K hK => ?_) (AllReadyH.cons rfl (fun K hK => ?_) (AllReadyH.nil))
        · skip
          go_simp
          refine (H6.out _).mono ?_
          rintro e Y3 ⟨rfl, b9⟩
          have F0 := F0.below b9 F0.lt
          have F1 := F1.below b9 F1.lt
          have F2 := F2.below b9 F2.lt
          have TT := And.intro (quad_of F0) (And.intro (five_of F1) (quad_of F2))
          have BX := thenB BX b9
          have sz := Nat.le_trans sz b9.size
          refine hK.out _ _ TT (fun hHeld => ?_)
          clear hK K
          try simp only [List.getElem_toArray, List.getElem_cons_zero, List.getElem_cons_succ, Act.put, List.setIfInBounds_toArray, List.set_cons_zero, List.set_cons_succ]
          refine wpAnyH_ready (rs := [16]) (by kernel_rfl) (by simp) ?_
          refine AllReadyH.cons rfl (fun K hK => ?_) (AllReadyH.nil)
          go_simp
          have b9 := (Below.refl Y3.heap.size Y3).alloc (Nat.le_refl _) (.cells #[.int .i64 0, .int .i64 0] 42)
          have PW := Blk.fresh Y3 42 #[.int .i64 0, .int .i64 0]
          have gW : w.heap.size + 3 ≤ Y3.heap.size := sz
          generalize Y3.alloc (.cells #[.int .i64 0, .int .i64 0] 42) = Y4 at *
          have F0 := F0.below b9 F0.lt
          have F1 := F1.below b9 F1.lt
          have F2 := F2.below b9 F2.lt
          have TT := And.intro (quad_of F0) (And.intro (five_of F1) (quad_of F2))
          have BX := thenB BX b9
          have sz := Nat.le_trans sz b9.size
          refine hK.out _ _ TT (fun hHeld => ?_)
          clear hK K
          try simp only [List.getElem_toArray, List.getElem_cons_zero, List.getElem_cons_succ, Act.put, List.setIfInBounds_toArray, List.set_cons_zero, List.set_cons_succ]
          refine wpAnyH_ready (rs := [17]) (by kernel_rfl) (by simp) ?_
          refine AllReadyH.cons rfl (fun K hK => ?_) (AllReadyH.nil)
          obtain ⟨c0, c1⟩ := win_of PW
          have z0 := frz PW 0
          have z1 := frz PW 1
          have F0 := (blk_set_ne (i := 1) (blk_set_ne (i := 0) F0 (show Y3.heap.size ≠ _ by omega) (.int .i64 P1)) (show Y3.heap.size ≠ _ by omega) (.int .i64 P2))
          have F1 := (blk_set_ne (i := 1) (blk_set_ne (i := 0) F1 (show Y3.heap.size ≠ _ by omega) (.int .i64 P1)) (show Y3.heap.size ≠ _ by omega) (.int .i64 P2))
          have F2 := (blk_set_ne (i := 1) (blk_set_ne (i := 0) F2 (show Y3.heap.size ≠ _ by omega) (.int .i64 P1)) (show Y3.heap.size ≠ _ by omega) (.int .i64 P2))
          have BX := win_below (g := Y3.heap.size) (.int .i64 P1) (.int .i64 P2) BX (by omega)
          have PW := win_set (.int .i64 P1) (.int .i64 P2) PW
          have TT := And.intro (quad_of F0) (And.intro (five_of F1) (quad_of F2))
          go_simp
          clear c0 c1 z0 z1
          generalize (Y4.setCell ⟨Y3.heap.size, 0, none⟩ (.int .i64 P1)).setCell ⟨Y3.heap.size, 1, none⟩ (.int .i64 P2) = Y5 at *
          refine hK.out _ _ TT (fun hHeld => ?_)
          clear hK K
          try simp only [List.getElem_toArray, List.getElem_cons_zero, List.getElem_cons_succ, Act.put, List.setIfInBounds_toArray, List.set_cons_zero, List.set_cons_succ]
          refine wpAnyH_done (by kernel_rfl) ?_ _
          go_wp2_with fail
          go_meet
          obtain ⟨p0, p1⟩ := win_of PW
          exact ⟨_, rfl, p0, p1, quad_of F0, BX⟩
        · skip
          go_simp
          have b9 := (Below.refl Y2.heap.size Y2).alloc (Nat.le_refl _) (.cells #[.int .i64 0, .int .i64 0] 42)
          have PW := Blk.fresh Y2 42 #[.int .i64 0, .int .i64 0]
          have gW : w.heap.size + 3 ≤ Y2.heap.size := sz
          generalize Y2.alloc (.cells #[.int .i64 0, .int .i64 0] 42) = Y6 at *
          have F0 := F0.below b9 F0.lt
          have F1 := F1.below b9 F1.lt
          have F2 := F2.below b9 F2.lt
          have TT := And.intro (quad_of F0) (And.intro (five_of F1) (quad_of F2))
          have BX := thenB BX b9
          have sz := Nat.le_trans sz b9.size
          refine hK.out _ _ TT (fun hHeld => ?_)
          clear hK K
          try simp only [List.getElem_toArray, List.getElem_cons_zero, List.getElem_cons_succ, Act.put, List.setIfInBounds_toArray, List.set_cons_zero, List.set_cons_succ]
          refine wpAnyH_ready (rs := [15]) (by kernel_rfl) (by simp) ?_
          refine AllReadyH.cons rfl (fun K hK => ?_) (AllReadyH.nil)
          go_simp
          refine (H6.out _).mono ?_
          rintro e Y7 ⟨rfl, b9⟩
          have F0 := F0.below b9 F0.lt
          have F1 := F1.below b9 F1.lt
          have F2 := F2.below b9 F2.lt
          have TT := And.intro (quad_of F0) (And.intro (five_of F1) (quad_of F2))
          have BX := thenB BX b9
          have sz := Nat.le_trans sz b9.size
          have PW := PW.below b9 PW.lt
          refine hK.out _ _ TT (fun hHeld => ?_)
          clear hK K
          try simp only [List.getElem_toArray, List.getElem_cons_zero, List.getElem_cons_succ, Act.put, List.setIfInBounds_toArray, List.set_cons_zero, List.set_cons_succ]
          refine wpAnyH_ready (rs := [17]) (by kernel_rfl) (by simp) ?_
          refine AllReadyH.cons rfl (fun K hK => ?_) (AllReadyH.nil)
          obtain ⟨c0, c1⟩ := win_of PW
          have z0 := frz PW 0
          have z1 := frz PW 1
          have F0 := (blk_set_ne (i := 1) (blk_set_ne (i := 0) F0 (show Y2.heap.size ≠ _ by omega) (.int .i64 P1)) (show Y2.heap.size ≠ _ by omega) (.int .i64 P2))
          have F1 := (blk_set_ne (i := 1) (blk_set_ne (i := 0) F1 (show Y2.heap.size ≠ _ by omega) (.int .i64 P1)) (show Y2.heap.size ≠ _ by omega) (.int .i64 P2))
          have F2 := (blk_set_ne (i := 1) (blk_set_ne (i := 0) F2 (show Y2.heap.size ≠ _ by omega) (.int .i64 P1)) (show Y2.heap.size ≠ _ by omega) (.int .i64 P2))
          have BX := win_below (g := Y2.heap.size) (.int .i64 P1) (.int .i64 P2) BX (by omega)
          have PW := win_set (.int .i64 P1) (.int .i64 P2) PW
          have TT := And.intro (quad_of F0) (And.intro (five_of F1) (quad_of F2))
          go_simp
          clear c0 c1 z0 z1
          generalize (Y7.setCell ⟨Y2.heap.size, 0, none⟩ (.int .i64 P1)).setCell ⟨Y2.heap.size, 1, none⟩ (.int .i64 P2) = Y8 at *
          refine hK.out _ _ TT (fun hHeld => ?_)
          clear hK K
          try simp only [List.getElem_toArray, List.getElem_cons_zero, List.getElem_cons_succ, Act.put, List.setIfInBounds_toArray, List.set_cons_zero, List.set_cons_succ]
          refine wpAnyH_done (by kernel_rfl) ?_ _
          go_wp2_with fail
          go_meet
          obtain ⟨p0, p1⟩ := win_of PW
          exact ⟨_, rfl, p0, p1, quad_of F0, BX⟩
      · skip
        go_simp
        have b9 := (Below.refl Y1.heap.size Y1).alloc (Nat.le_refl _) (.cells #[.int .i64 0, .int .i64 0] 42)
        have PW := Blk.fresh Y1 42 #[.int .i64 0, .int .i64 0]
        have gW : w.heap.size + 3 ≤ Y1.heap.size := sz
        generalize Y1.alloc (.cells #[.int .i64 0, .int .i64 0] 42) = Y9 at *
        have F0 := F0.below b9 F0.lt
        have F1 := F1.below b9 F1.lt
        have F2 := F2.below b9 F2.lt
        have TT := And.intro (quad_of F0) (And.intro (five_of F1) (quad_of F2))
        have BX := thenB BX b9
        have sz := Nat.le_trans sz b9.size
        refine hK.out _ _ TT (fun hHeld => ?_)
        clear hK K
        try simp only [List.getElem_toArray, List.getElem_cons_zero, List.getElem_cons_succ, Act.put, List.setIfInBounds_toArray, List.set_cons_zero, List.set_cons_succ]
        refine wpAnyH_ready (rs := [14]) (by kernel_rfl) (by simp) ?_
        refine AllReadyH.cons rfl (fun K hK => ?_) (AllReadyH.nil)
        go_simp
        refine (H5.out _).mono ?_
        rintro e Y10 ⟨rfl, b9⟩
        have F0 := F0.below b9 F0.lt
        have F1 := F1.below b9 F1.lt
        have F2 := F2.below b9 F2.lt
        have TT := And.intro (quad_of F0) (And.intro (five_of F1) (quad_of F2))
        have BX := thenB BX b9
        have sz := Nat.le_trans sz b9.size
        have PW := PW.below b9 PW.lt
        refine hK.out _ _ TT (fun hHeld => ?_)
        clear hK K
        try simp only [List.getElem_toArray, List.getElem_cons_zero, List.getElem_cons_succ, Act.put, List.setIfInBounds_toArray, List.set_cons_zero, List.set_cons_succ]
        refine wpAnyH_ready (rs := [15]) (by kernel_rfl) (by simp) ?_
        refine AllReadyH.cons rfl (fun K hK => ?_) (AllReadyH.nil)
        go_simp
        refine (H6.out _).mono ?_
        rintro e Y11 ⟨rfl, b9⟩
        have F0 := F0.below b9 F0.lt
        have F1 := F1.below b9 F1.lt
        have F2 := F2.below b9 F2.lt
        have TT := And.intro (quad_of F0) (And.intro (five_of F1) (quad_of F2))
        have BX := thenB BX b9
        have sz := Nat.le_trans sz b9.size
        have PW := PW.below b9 PW.lt
        refine hK.out _ _ TT (fun hHeld => ?_)
        clear hK K
        try simp only [List.getElem_toArray, List.getElem_cons_zero, List.getElem_cons_succ, Act.put, List.setIfInBounds_toArray, List.set_cons_zero, List.set_cons_succ]
        refine wpAnyH_ready (rs := [17]) (by kernel_rfl) (by simp) ?_
        refine AllReadyH.cons rfl (fun K hK => ?_) (AllReadyH.nil)
        obtain ⟨c0, c1⟩ := win_of PW
        have z0 := frz PW 0
        have z1 := frz PW 1
        have F0 := (blk_set_ne (i := 1) (blk_set_ne (i := 0) F0 (show Y1.heap.size ≠ _ by omega) (.int .i64 P1)) (show Y1.heap.size ≠ _ by omega) (.int .i64 P2))
        have F1 := (blk_set_ne (i := 1) (blk_set_ne (i := 0) F1 (show Y1.heap.size ≠ _ by omega) (.int .i64 P1)) (show Y1.heap.size ≠ _ by omega) (.int .i64 P2))
        have F2 := (blk_set_ne (i := 1) (blk_set_ne (i := 0) F2 (show Y1.heap.size ≠ _ by omega) (.int .i64 P1)) (show Y1.heap.size ≠ _ by omega) (.int .i64 P2))
        have BX := win_below (g := Y1.heap.size) (.int .i64 P1) (.int .i64 P2) BX (by omega)
        have PW := win_set (.int .i64 P1) (.int .i64 P2) PW
        have TT := And.intro (quad_of F0) (And.intro (five_of F1) (quad_of F2))
        go_simp
        clear c0 c1 z0 z1
        generalize (Y11.setCell ⟨Y1.heap.size, 0, none⟩ (.int .i64 P1)).setCell ⟨Y1.heap.size, 1, none⟩ (.int .i64 P2) = Y12 at *
        refine hK.out _ _ TT (fun hHeld => ?_)
        clear hK K
        try simp only [List.getElem_toArray, List.getElem_cons_zero, List.getElem_cons_succ, Act.put, List.setIfInBounds_toArray, List.set_cons_zero, List.set_cons_succ]
        refine wpAnyH_done (by kernel_rfl) ?_ _
        go_wp2_with fail
        go_meet
        obtain ⟨p0, p1⟩ := win_of PW
        exact ⟨_, rfl, p0, p1, quad_of F0, BX⟩
    · skip
      go_simp
      have b9 := (Below.refl Y0.heap.size Y0).alloc (Nat.le_refl _) (.cells #[.int .i64 0, .int .i64 0] 42)
      have PW := Blk.fresh Y0 42 #[.int .i64 0, .int .i64 0]
      have gW : w.heap.size + 3 ≤ Y0.heap.size := sz
      generalize Y0.alloc (.cells #[.int .i64 0, .int .i64 0] 42) = Y13 at *
      have F0 := F0.below b9 F0.lt
      have F1 := F1.below b9 F1.lt
      have F2 := F2.below b9 F2.lt
      have TT := And.intro (quad_of F0) (And.intro (five_of F1) (quad_of F2))
      have BX := thenB BX b9
      have sz := Nat.le_trans sz b9.size
      refine hK.out _ _ TT (fun hHeld => ?_)
      clear hK K
      try simp only [List.getElem_toArray, List.getElem_cons_zero, List.getElem_cons_succ, Act.put, List.setIfInBounds_toArray, List.set_cons_zero, List.set_cons_succ]
      refine wpAnyH_ready (rs := [4]) (by kernel_rfl) (by simp) ?_
      refine AllReadyH.cons rfl (fun K hK => ?_) (AllReadyH.nil)
      go_simp
      refine (H4.out _).mono ?_
      rintro e Y14 ⟨rfl, b9⟩
      have F0 := F0.below b9 F0.lt
      have F1 := F1.below b9 F1.lt
      have F2 := F2.below b9 F2.lt
      have TT := And.intro (quad_of F0) (And.intro (five_of F1) (quad_of F2))
      have BX := thenB BX b9
      have sz := Nat.le_trans sz b9.size
      have PW := PW.below b9 PW.lt
      refine hK.out _ _ TT (fun hHeld => ?_)
      clear hK K
      try simp only [List.getElem_toArray, List.getElem_cons_zero, List.getElem_cons_succ, Act.put, List.setIfInBounds_toArray, List.set_cons_zero, List.set_cons_succ]
      refine wpAnyH_ready (rs := [14]) (by kernel_rfl) (by simp) ?_
      refine AllReadyH.cons rfl (fun K hK => ?_) (AllReadyH.nil)
      go_simp
      refine (H5.out _).mono ?_
      rintro e Y15 ⟨rfl, b9⟩
      have F0 := F0.below b9 F0.lt
      have F1 := F1.below b9 F1.lt
      have F2 := F2.below b9 F2.lt
      have TT := And.intro (quad_of F0) (And.intro (five_of F1) (quad_of F2))
      have BX := thenB BX b9
      have sz := Nat.le_trans sz b9.size
      have PW := PW.below b9 PW.lt
      refine hK.out _ _ TT (fun hHeld => ?_)
      clear hK K
      try simp only [List.getElem_toArray, List.getElem_cons_zero, List.getElem_cons_succ, Act.put, List.setIfInBounds_toArray, List.set_cons_zero, List.set_cons_succ]
      refine wpAnyH_ready (rs := [15]) (by kernel_rfl) (by simp) ?_
      refine AllReadyH.cons rfl (fun K hK => ?_) (AllReadyH.nil)
      go_simp
      refine (H6.out _).mono ?_
      rintro e Y16 ⟨rfl, b9⟩
      have F0 := F0.below b9 F0.lt
      have F1 := F1.below b9 F1.lt
      have F2 := F2.below b9 F2.lt
      have TT := And.intro (quad_of F0) (And.intro (five_of F1) (quad_of F2))
      have BX := thenB BX b9
      have sz := Nat.le_trans sz b9.size
      have PW := PW.below b9 PW.lt
      refine hK.out _ _ TT (fun hHeld => ?_)
      clear hK K
      try simp only [List.getElem_toArray, List.getElem_cons_zero, List.getElem_cons_succ, Act.put, List.setIfInBounds_toArray, List.set_cons_zero, List.set_cons_succ]
      refine wpAnyH_ready (rs := [17]) (by kernel_rfl) (by simp) ?_
      refine AllReadyH.cons rfl (fun K hK => ?_) (AllReadyH.nil)
      obtain ⟨c0, c1⟩ := win_of PW
      have z0 := frz PW 0
      have z1 := frz PW 1
      have F0 := (blk_set_ne (i := 1) (blk_set_ne (i := 0) F0 (show Y0.heap.size ≠ _ by omega) (.int .i64 P1)) (show Y0.heap.size ≠ _ by omega) (.int .i64 P2))
      have F1 := (blk_set_ne (i := 1) (blk_set_ne (i := 0) F1 (show Y0.heap.size ≠ _ by omega) (.int .i64 P1)) (show Y0.heap.size ≠ _ by omega) (.int .i64 P2))
      have F2 := (blk_set_ne (i := 1) (blk_set_ne (i := 0) F2 (show Y0.heap.size ≠ _ by omega) (.int .i64 P1)) (show Y0.heap.size ≠ _ by omega) (.int .i64 P2))
      have BX := win_below (g := Y0.heap.size) (.int .i64 P1) (.int .i64 P2) BX (by omega)
      have PW := win_set (.int .i64 P1) (.int .i64 P2) PW
      have TT := And.intro (quad_of F0) (And.intro (five_of F1) (quad_of F2))
      go_simp
      clear c0 c1 z0 z1
      generalize (Y16.setCell ⟨Y0.heap.size, 0, none⟩ (.int .i64 P1)).setCell ⟨Y0.heap.size, 1, none⟩ (.int .i64 P2) = Y17 at *
      refine hK.out _ _ TT (fun hHeld => ?_)
      clear hK K
      try simp only [List.getElem_toArray, List.getElem_cons_zero, List.getElem_cons_succ, Act.put, List.setIfInBounds_toArray, List.set_cons_zero, List.set_cons_succ]
      refine wpAnyH_done (by kernel_rfl) ?_ _
      go_wp2_with fail
      go_meet
      obtain ⟨p0, p1⟩ := win_of PW
      exact ⟨_, rfl, p0, p1, quad_of F0, BX⟩
  case rest =>
    obtain ⟨G, rfl, p0, p1, ⟨u0, u1, u2, u3⟩, BX⟩ := hcut
    generalize wc = Z at *
    have g0 := World.block_lt_of_cell? _ _ p0
    go_wp2_with (go_at_call 33; refine (H7.out _).mono ?_; clear H7; rintro e w9 ⟨rfl, b9⟩; have BX := thenB BX b9; have q0 := (b9.cell (p := ⟨G, 0, none⟩) g0).trans p0; have q1 := (b9.cell (p := ⟨G, 1, none⟩) g0).trans p1)
    go_ret
    exact ⟨rfl, BX⟩
theorem law_window (pa sa pb sb s o i l t T n y x : Int) (w : World) :
    Calls Try.prog 9 #[.agg #[.int .i64 pa, .int .i64 sa, .int .i64 pb, .int .i64 sb], upd s o i l t, .agg #[.int .i64 T, .int .i64 n, .int .i64 y, .int .i64 x]] w fun e w' => e = .returned (.bool true) ∧ Below w.heap.size w w' := by
  by_cases hy : Rdy pa sa pb sb s o i l t T n
  case neg => exact window_no pa sa pb sb s o i l t T n y x w hy
  have HR : Hid (∀ w, Calls Try.prog 31 #[.agg #[.int .i64 pa, .int .i64 sa], .agg #[.int .i64 pb, .int .i64 sb], upd s o i l t, .agg #[.int .i64 T, .int .i64 n, .int .i64 y, .int .i64 x]] w fun e w' => e = .returned (.bool true) ∧ Below w.heap.size w w') := Lib.hid fun w => (ready_any pa sa pb sb s o i l t T n y x w).mono fun e w' h => by obtain ⟨⟨c, hc, hi⟩, hb⟩ := h; refine ⟨?_, hb⟩; rw [hc]; cases c <;> simp_all
  have hy' := hy
  obtain ⟨c1, c2, c3, c4, c5, c6, c7, c8⟩ := hy
  have ha := okC_in c1
  have hb := okC_in c2
  have hi := okU_in c5
  obtain ⟨r, hF⟩ := first_ex pa sa (mom (loc pa sa T) + spn n i)
  have H1 := Lib.hid (local_any pa sa T)
  have H2 := Lib.hid (anchor_any (loc pa sa T) s o i l t n)
  have H3 := real_to hF
  by_cases hr : r < 1099511627776
  · have HM := meet_window (sb := sb) (more := y) ha hb c3 ⟨c6, c7⟩ hi c8 hF hr
    exact window_in pa sa pb sb s o i l t T n y x r _ _ _ _ _ _ _ w HR H1 H2 H3 (Lib.hid (local_any pb sb T)) (Lib.hid fun w => deviation_any pa sa pb sb y w ha hb) (Lib.hid (expect_any (loc pb sb T) n s o i l t (dev pa pb y))) (Lib.hid (local_any pb sb r)) (decide_eq_false (by omega)) (decide_eq_true HM.1) (decide_eq_true HM.2)
  · exact window_late pa sa pb sb s o i l t T n y x r _ _ w hy' HR H1 H2 H3 (decide_eq_true (by omega))
end Go.Proofs.Ytmcpgnmkjebbjaa.Cn
