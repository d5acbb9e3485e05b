/- The statement on how far two clocks drift apart, walked: it returns true. -/
import Derived.Test.YtjbidpclpkjddaaClkLaws2
set_option linter.unusedVariables false
set_option linter.unusedSimpArgs false
namespace Go.Proofs.Ytjbidpclpkjddaa.Clk
open Go.RowKit Mem

/-- Three pairs of numbers in memory. -/
structure Three (w : World) (g : Nat) (a b c d e f : Int) : Prop where
  a0 : w.cell? ⟨g, 0, none⟩ = some (.int .i64 a)
  a1 : w.cell? ⟨g, 1, none⟩ = some (.int .i64 b)
  b0 : w.cell? ⟨g + 1, 0, none⟩ = some (.int .i64 c)
  b1 : w.cell? ⟨g + 1, 1, none⟩ = some (.int .i64 d)
  c0 : w.cell? ⟨g + 2, 0, none⟩ = some (.int .i64 e)
  c1 : w.cell? ⟨g + 2, 1, none⟩ = some (.int .i64 f)
theorem Three.below {w w' : World} {g : Nat} {a b c d e f : Int} (h : Three w g a b c d e f) (k : Below w.heap.size w w') : Three w' g a b c d e f :=
  ⟨(k.cell (p := ⟨g, 0, none⟩) (World.block_lt_of_cell? _ _ h.a0)).trans h.a0, (k.cell (p := ⟨g, 1, none⟩) (World.block_lt_of_cell? _ _ h.a1)).trans h.a1,
   (k.cell (p := ⟨g + 1, 0, none⟩) (World.block_lt_of_cell? _ _ h.b0)).trans h.b0, (k.cell (p := ⟨g + 1, 1, none⟩) (World.block_lt_of_cell? _ _ h.b1)).trans h.b1,
   (k.cell (p := ⟨g + 2, 0, none⟩) (World.block_lt_of_cell? _ _ h.c0)).trans h.c0, (k.cell (p := ⟨g + 2, 1, none⟩) (World.block_lt_of_cell? _ _ h.c1)).trans h.c1⟩
theorem Three.drew {w : World} {g : Nat} {a b c d e f : Int} (h : Three w g a b c d e f) : Three w.drew g a b c d e f := ⟨h.a0, h.a1, h.b0, h.b1, h.c0, h.c1⟩
theorem Three.four {w : World} {g : Nat} {a b c d e f : Int} (h : Three w g a b c d e f) : w.cell? ⟨g, 0, none⟩ = some (.int .i64 a) ∧ w.cell? ⟨g, 1, none⟩ = some (.int .i64 b) ∧ w.cell? ⟨g + 1, 0, none⟩ = some (.int .i64 c) ∧ w.cell? ⟨g + 1, 1, none⟩ = some (.int .i64 d) := ⟨h.a0, h.a1, h.b0, h.b1⟩
theorem three_new (w : World) (t u : TypeId) (a b c d e f : Int) :
    Three (((w.alloc (.cells #[.int .i64 a, .int .i64 b] t)).alloc (.cells #[.int .i64 c, .int .i64 d] t)).alloc (.cells #[.int .i64 e, .int .i64 f] u)) w.heap.size a b c d e f := by
  have F0 : Mem.Blk (((w.alloc (.cells #[.int .i64 a, .int .i64 b] t)).alloc (.cells #[.int .i64 c, .int .i64 d] t)).alloc (.cells #[.int .i64 e, .int .i64 f] u)) w.heap.size t #[.int .i64 a, .int .i64 b] := ((Blk.fresh w _ #[.int .i64 a, .int .i64 b]).alloc _).alloc _
  have G0 : Mem.Blk (((w.alloc (.cells #[.int .i64 a, .int .i64 b] t)).alloc (.cells #[.int .i64 c, .int .i64 d] t)).alloc (.cells #[.int .i64 e, .int .i64 f] u)) (w.heap.size + 1) t #[.int .i64 c, .int .i64 d] := by
    have := (Blk.fresh (w.alloc (.cells #[.int .i64 a, .int .i64 b] t)) t #[.int .i64 c, .int .i64 d]).alloc (.cells #[.int .i64 e, .int .i64 f] u)
    rwa [World.size_alloc] at this
  have K0 : Mem.Blk (((w.alloc (.cells #[.int .i64 a, .int .i64 b] t)).alloc (.cells #[.int .i64 c, .int .i64 d] t)).alloc (.cells #[.int .i64 e, .int .i64 f] u)) (w.heap.size + 2) u #[.int .i64 e, .int .i64 f] := by
    have := Blk.fresh ((w.alloc (.cells #[.int .i64 a, .int .i64 b] t)).alloc (.cells #[.int .i64 c, .int .i64 d] t)) u #[.int .i64 e, .int .i64 f]
    rwa [World.size_alloc, World.size_alloc] at this
  exact ⟨F0.cell 0, F0.cell 1, G0.cell 0, G0.cell 1, K0.cell 0, K0.cell 1⟩
set_option maxHeartbeats 2000000 in
theorem law_widens (pa sa pb sb t u : Int) (w : World) (hpa : -9223372036854775808 ≤ pa ∧ pa ≤ 9223372036854775807) (hsa : -9223372036854775808 ≤ sa ∧ sa ≤ 9223372036854775807) (hpb : -9223372036854775808 ≤ pb ∧ pb ≤ 9223372036854775807) (hsb : -9223372036854775808 ≤ sb ∧ sb ≤ 9223372036854775807)
    (ht : -9223372036854775808 ≤ t ∧ t ≤ 9223372036854775807) (hu : -9223372036854775808 ≤ u ∧ u ≤ 9223372036854775807) :
    Calls Try.prog 9 #[.agg #[.int .i64 pa, .int .i64 sa], .agg #[.int .i64 pb, .int .i64 sb], .agg #[.int .i64 t, .int .i64 u]] w fun e w' => e = .returned (.bool true) ∧ Below w.heap.size w w' := by
  have T0 := three_new w 23 33 pa sa pb sb t u
  have B0 : Below w.heap.size w (((w.alloc (.cells #[.int .i64 pa, .int .i64 sa] 23)).alloc (.cells #[.int .i64 pb, .int .i64 sb] 23)).alloc (.cells #[.int .i64 t, .int .i64 u] 33)) := (((Below.refl _ w).alloc (Nat.le_refl _) _).alloc (by simp) _).alloc (by simp; omega) _
  have HA := Lib.hid (check_any pa sa)
  have HB := Lib.hid (check_any pb sb)
  go_enter Try.func9, Try.ntmps9
  go_wp2_with fail
  generalize ((w.alloc (.cells #[.int .i64 pa, .int .i64 sa] 23)).alloc (.cells #[.int .i64 pb, .int .i64 sb] 23)).alloc (.cells #[.int .i64 t, .int .i64 u] 33) = W at *
  refine (lives_any _).mono ?_
  rintro e w1 ⟨rfl, b1⟩
  have B1 := (thenB B0 b1).drew
  have T1 := (T0.below b1).drew
  clear T0 b1
  go_wp2_with fail
  have c0 := T1.c0
  have c1 := T1.c1
  go_region
  have d0 : w1.cell? ⟨w.heap.size, 0, none⟩ = some (.int .i64 pa) := T1.a0
  have d1 : w1.cell? ⟨w.heap.size, 1, none⟩ = some (.int .i64 sa) := T1.a1
  clear c0 c1
  by_cases a1 : -500 ≤ pa ∧ pa ≤ 500 ∧ 0 ≤ sa ∧ sa ≤ 1099511627776
  · rw [← okC_yes a1] at HA
    by_cases a2 : -500 ≤ pb ∧ pb ≤ 500 ∧ 0 ≤ sb ∧ sb ≤ 1099511627776
    · rw [← okC_yes a2] at HB
      by_cases a3 : t < 0
      · go_wp2_with (first
          | (go_at_call_of 11 pa; refine (HA.out _).mono ?_; clear HA; rintro e w2 ⟨rfl, b2⟩; have B2 := thenB B1 b2; have T2 := T1.below b2; have f0 := T2.b0; have f1 := T2.b1)
          | (go_at_call_of 11 pb; refine (HB.out _).mono ?_; clear HB; rintro e w3 ⟨rfl, b3⟩; have B3 := thenB B2 b3))
        go_ret
        exact ⟨rfl, B3⟩
      · by_cases a4 : u < t
        · go_wp2_with (first
            | (go_at_call_of 11 pa; refine (HA.out _).mono ?_; clear HA; rintro e w2 ⟨rfl, b2⟩; have B2 := thenB B1 b2; have T2 := T1.below b2; have f0 := T2.b0; have f1 := T2.b1)
            | (go_at_call_of 11 pb; refine (HB.out _).mono ?_; clear HB; rintro e w3 ⟨rfl, b3⟩; have B3 := thenB B2 b3))
          go_ret
          exact ⟨rfl, B3⟩
        · by_cases a5 : 1099511627776 < u
          · go_wp2_with (first
              | (go_at_call_of 11 pa; refine (HA.out _).mono ?_; clear HA; rintro e w2 ⟨rfl, b2⟩; have B2 := thenB B1 b2; have T2 := T1.below b2; have f0 := T2.b0; have f1 := T2.b1)
              | (go_at_call_of 11 pb; refine (HB.out _).mono ?_; clear HB; rintro e w3 ⟨rfl, b3⟩; have B3 := thenB B2 b3))
            go_ret
            exact ⟨rfl, B3⟩
          · have hdr := drift (pa := pa) (sa := sa) (pb := pb) (sb := sb) (t := t) (u := u) ⟨a1.1, a1.2.1⟩ ⟨a2.1, a2.2.1⟩ (by omega) (by omega) (by omega)
            have k1 := loc_bd pa sa u
            have k2 := loc_bd pa sa t
            have k3 := loc_bd pb sb u
            have k4 := loc_bd pb sb t
            have k5 := wid_bd (max pa (-pa) + max pb (-pb)) (u - t)
            have HW := Lib.hid (widening_any (max pa (-pa) + max pb (-pb)) (u - t))
            obtain ⟨X1, hX1⟩ : ∃ X, loc pa sa u = X := ⟨_, rfl⟩
            obtain ⟨X2, hX2⟩ : ∃ X, loc pa sa t = X := ⟨_, rfl⟩
            obtain ⟨X3, hX3⟩ : ∃ X, loc pb sb u = X := ⟨_, rfl⟩
            obtain ⟨X4, hX4⟩ : ∃ X, loc pb sb t = X := ⟨_, rfl⟩
            have H1 := local_to pa sa u X1 hX1
            have H2 := local_to pa sa t X2 hX2
            have H3 := local_to pb sb u X3 hX3
            have H4 := local_to pb sb t X4 hX4
            rw [hX1, hX2, hX3, hX4] at hdr
            rw [hX1] at k1; rw [hX2] at k2; rw [hX3] at k3; rw [hX4] at k4
            clear hX1 hX2 hX3 hX4
            generalize wid (max pa (-pa) + max pb (-pb)) (u - t) = V at *
            have e1 := i64_in (X1 - X2) (by omega)
            have e2 := i64_in (X3 - X4) (by omega)
            have e3 := i64_in (X1 - X2 - (X3 - X4)) (by omega)
            have e4 := IntWalk.wrap64_in (-pa) (by omega)
            have e5 := IntWalk.wrap64_in (-pb) (by omega)
            have e6 := IntWalk.wrap64_in (max pa (-pa) + max pb (-pb)) (by omega)
            have e7 := IntWalk.wrap64_in (u - t) (by omega)
            have e8 := IntWalk.wrap64_in (-V) (by omega)
            have q1 : decide (X1 - X2 - (X3 - X4) ≤ V) = true := by simpa using hdr.2
            have q2 : decide (-V ≤ X1 - X2 - (X3 - X4)) = true := by simpa using hdr.1
            clear hdr k1 k2 k3 k4 k5
            go_wp2_with (first
              | (go_at_call_of 11 pa; refine (HA.out _).mono ?_; clear HA; rintro e w2 ⟨rfl, b2⟩; have B2 := thenB B1 b2; have T2 := T1.below b2; have f0 := T2.b0; have f1 := T2.b1)
              | (go_at_call_of 11 pb; refine (HB.out _).mono ?_; clear HB; rintro e w3 ⟨rfl, b3⟩; have B3 := (thenB B2 b3).drew; have T3 := (T2.below b3).drew))
            clear f0 f1 d0 d1 T2 T1
            go_region_held3 (fun w' => w'.cell? ⟨w.heap.size, 0, none⟩ = some (.int .i64 pa) ∧ w'.cell? ⟨w.heap.size, 1, none⟩ = some (.int .i64 sa) ∧ w'.cell? ⟨w.heap.size + 1, 0, none⟩ = some (.int .i64 pb) ∧ w'.cell? ⟨w.heap.size + 1, 1, none⟩ = some (.int .i64 sb)) (first | exact T7.four | exact T6.four | exact T5.four | exact T4.four | exact T3.four) (first
              | (go_at_call_of 13 pa; go_at_call_of 13 u; refine (H1.out _).mono ?_; clear H1; rintro e w4 ⟨rfl, b4⟩; have B4 := thenB B3 b4; have T4 := T3.below b4)
              | (go_at_call_of 13 pa; go_at_call_of 13 t; refine (H2.out _).mono ?_; clear H2; rintro e w5 ⟨rfl, b5⟩; have B5 := thenB B4 b5; have T5 := T4.below b5)
              | (go_at_call_of 13 pb; go_at_call_of 13 u; refine (H3.out _).mono ?_; clear H3; rintro e w6 ⟨rfl, b6⟩; have B6 := thenB B5 b6; have T6 := T5.below b6)
              | (go_at_call_of 13 pb; go_at_call_of 13 t; refine (H4.out _).mono ?_; clear H4; rintro e w7 ⟨rfl, b7⟩; have B7 := thenB B6 b7; have T7 := T6.below b7))
            have g0 := T7.a0
            have g1 := T7.b0
            go_wp2_with (go_at_call 17; refine (HW.out _).mono ?_; rintro e w8 ⟨rfl, rfl⟩)
            go_ret
            exact ⟨rfl, B7⟩
    · rw [← okC_no a2] at HB
      go_wp2_with (first
        | (go_at_call_of 11 pa; refine (HA.out _).mono ?_; clear HA; rintro e w2 ⟨rfl, b2⟩; have B2 := thenB B1 b2; have T2 := T1.below b2; have f0 := T2.b0; have f1 := T2.b1)
        | (go_at_call_of 11 pb; refine (HB.out _).mono ?_; clear HB; rintro e w3 ⟨rfl, b3⟩; have B3 := thenB B2 b3))
      go_ret
      exact ⟨rfl, B3⟩
  · rw [← okC_no a1] at HA
    go_wp2_with (go_at_call_of 11 pa; refine (HA.out _).mono ?_; clear HA; rintro e w2 ⟨rfl, b2⟩; have B2 := thenB B1 b2)
    go_ret
    exact ⟨rfl, B2⟩
end Go.Proofs.Ytjbidpclpkjddaa.Clk
