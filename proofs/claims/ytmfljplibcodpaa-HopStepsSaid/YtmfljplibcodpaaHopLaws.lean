/- The statements on steps, numbers, channels of events, walked: each returns true. -/
import Derived.Test.YtmfljplibcodpaaHopNext
set_option linter.unusedVariables false
set_option linter.unusedSimpArgs false
namespace Go.Proofs.Ytmfljplibcodpaa.Hop
open Go.RowKit Mem Chm Base

set_option maxHeartbeats 1000000 in
theorem lives_any (w : World) :
    Calls Try.prog 8 #[] w fun e w' => e = .returned (.bool true) ∧ Below w.heap.size w w' := by
  have L1 : Hid (∀ w, Calls Try.prog 17 #[.agg #[.int .u32 0, .int .u32 0, .int .i64 0, .int .i64 0, .int .i64 0, .int .i64 0, .int .i64 0, .int .u64 33, .int .i64 7, .int .i64 0, .int .i64 1], .int .u16 9, .int .i64 0] w fun e' w' => e' = .returned (.tuple #[.int .i64 5, .int .i64 7]) ∧ Below w.heap.size w w') := Lib.hid fun w => by
    have h := next_any ⟨0, 0, 0, 0, 0, 0, 0, 33, 7, 0, 1⟩ 9 0 w (by unfold Par.ok; simp) (by decide) (by decide)
    rwa [show chZ ⟨0, 0, 0, 0, 0, 0, 0, 33, 7, 0, 1⟩ 9 0 = 5 by decide +kernel, show unZ ⟨0, 0, 0, 0, 0, 0, 0, 33, 7, 0, 1⟩ 9 0 = 7 by decide +kernel] at h
  have L2 : Hid (∀ w, Calls Try.prog 9 #[.int .i64 35, .int .i64 7] w fun e w' => e = .returned (.int .i64 5) ∧ w = w') := Lib.hid fun w => step_any 35 7 w (by decide) (by decide)
  have L3 : Hid (∀ w, Calls Try.prog 9 #[.int .i64 (-1), .int .i64 0] w fun e w' => e = .returned (.int .i64 36) ∧ w = w') := Lib.hid fun w => step_any (-1) 0 w (by decide) (by decide)
  have L4 : Hid (∀ w, Calls Try.prog 11 #[.int .u32 2391391958] w fun e w' => e = .returned (.int .u16 12383) ∧ w = w') := Lib.hid fun w => ident_any 2391391958 w (by decide)
  have L5 : Hid (∀ w, Calls Try.prog 13 #[.int .u16 0, .int .u16 12383] w fun e w' => e = .returned (.int .u16 56857) ∧ w = w') := Lib.hid fun w => by
    have h := Random_any 0 12383 w (by decide) (by decide)
    rwa [show randN 0 12383 = 56857 by decide +kernel] at h
  have L6 : Hid (∀ w, Calls Try.prog 13 #[.int .u16 1, .int .u16 12383] w fun e w' => e = .returned (.int .u16 1685) ∧ w = w') := Lib.hid fun w => by
    have h := Random_any 1 12383 w (by decide) (by decide)
    rwa [show randN 1 12383 = 1685 by decide +kernel] at h
  have L7 : Hid (∀ w, Calls Try.prog 15 #[.int .u64 137438953471, .int .u16 0, .int .u32 2391391958] w fun e w' => e = .returned (.int .i64 25) ∧ Below w.heap.size w w') := Lib.hid fun w => by
    have h := mix_any 137438953471 0 2391391958 w (by decide) (by decide) (by decide)
    rwa [show mixZ 137438953471 (numN 0 2391391958) = 25 by decide +kernel] at h
  have L8 : Hid (∀ w, Calls Try.prog 15 #[.int .u64 33, .int .u16 0, .int .u32 2391391958] w fun e w' => e = .returned (.int .i64 5) ∧ Below w.heap.size w w') := Lib.hid fun w => by
    have h := mix_any 33 0 2391391958 w (by decide) (by decide) (by decide)
    rwa [show mixZ 33 (numN 0 2391391958) = 5 by decide +kernel] at h
  go_enter Try.func8, Try.ntmps8
  go_wp2_with (first
    | (go_at_call 17; refine (L1.out _).mono ?_; clear L1; rintro e w1 ⟨rfl, B1⟩)
    | (go_at_call 9; refine (L2.out _).mono ?_; clear L2; rintro e w' ⟨rfl, rfl⟩)
    | (go_at_call 9; refine (L3.out _).mono ?_; clear L3; rintro e w' ⟨rfl, rfl⟩)
    | (go_at_call 11; refine (L4.out _).mono ?_; clear L4; rintro e w' ⟨rfl, rfl⟩)
    | (go_at_call 13; refine (L5.out _).mono ?_; clear L5; rintro e w' ⟨rfl, rfl⟩)
    | (go_at_call 13; refine (L6.out _).mono ?_; clear L6; rintro e w' ⟨rfl, rfl⟩)
    | (go_at_call 15; refine (L7.out _).mono ?_; clear L7; rintro e w2 ⟨rfl, b2⟩; have B2 := thenB B1 b2)
    | (go_at_call 15; refine (L8.out _).mono ?_; clear L8; rintro e w3 ⟨rfl, b3⟩; have B3 := thenB B2 b3))
  go_ret
  exact ⟨rfl, B3⟩
theorem law_steps (a b : Int) (w : World) (ha : -9223372036854775808 ≤ a ∧ a ≤ 9223372036854775807) (hb : -9223372036854775808 ≤ b ∧ b ≤ 9223372036854775807) :
    Calls Try.prog 3 #[.int .i64 a, .int .i64 b] w fun e w' => e = .returned (.bool true) ∧ Below w.heap.size w w' := by
  have HL := Lib.hid (lives_any w)
  have H1 := Lib.hid fun w => step_any a b w ha hb
  have H2 := Lib.hid fun w => rstep_any a b w ha hb
  generalize stepZ a b = S at *
  go_enter Try.func3, Try.ntmps3
  go_wp2_with (first
    | (go_at_call 8; refine HL.out.mono ?_; rintro e w1 ⟨rfl, b1⟩)
    | (go_at_call 9; refine (H1.out _).mono ?_; rintro e w' ⟨rfl, rfl⟩)
    | (go_at_call 10; refine (H2.out _).mono ?_; rintro e w' ⟨rfl, rfl⟩))
  go_ret
  exact ⟨rfl, b1⟩
theorem law_randoms (a e c : Nat) (w : World) (ha : a ≤ 4294967295) (he : e ≤ 65535) (hc : c ≤ 65535) :
    Calls Try.prog 4 #[.int .u32 a, .int .u16 e, .int .u16 c] w fun e w' => e = .returned (.bool true) ∧ Below w.heap.size w w' := by
  have HL := Lib.hid (lives_any w)
  have H1 := Lib.hid fun w => ident_any a w ha
  have H2 := Lib.hid fun w => rident_any a w ha
  have H3 := Lib.hid fun w => Random_any e c w he hc
  have H4 := Lib.hid fun w => rRandom_any e c w he hc
  generalize idN a = I at *
  generalize randN e c = R at *
  go_enter Try.func4, Try.ntmps4
  go_wp2_with (first
    | (go_at_call 8; refine HL.out.mono ?_; rintro e w1 ⟨rfl, b1⟩)
    | (go_at_call 11; refine (H1.out _).mono ?_; rintro e w' ⟨rfl, rfl⟩)
    | (go_at_call 12; refine (H2.out _).mono ?_; rintro e w' ⟨rfl, rfl⟩)
    | (go_at_call 13; refine (H3.out _).mono ?_; rintro e w' ⟨rfl, rfl⟩)
    | (go_at_call 14; refine (H4.out _).mono ?_; rintro e w' ⟨rfl, rfl⟩))
  go_ret
  exact ⟨rfl, b1⟩
theorem law_mixes (m e a : Nat) (w : World) (hm : m ≤ 18446744073709551615) (he : e ≤ 65535) (ha : a ≤ 4294967295) :
    Calls Try.prog 5 #[.int .u64 m, .int .u16 e, .int .u32 a] w fun e w' => e = .returned (.bool true) ∧ Below w.heap.size w w' := by
  have HL := Lib.hid (lives_any w)
  have H1 := Lib.hid fun w => mix_any m e a w hm he ha
  have H2 := Lib.hid fun w => rmix_any m e a w hm he ha
  generalize mixZ m (numN e a) = R at *
  go_enter Try.func5, Try.ntmps5
  go_wp2_with (first
    | (go_at_call 8; refine HL.out.mono ?_; rintro e w1 ⟨rfl, b1⟩)
    | (go_at_call 15; refine (H1.out _).mono ?_; rintro e w2 ⟨rfl, b2⟩; have B2 := thenB b1 b2)
    | (go_at_call 16; refine (H2.out _).mono ?_; rintro e w3 ⟨rfl, b3⟩; have B3 := thenB B2 b3))
  go_ret
  exact ⟨rfl, B3⟩
theorem Eleven {w : World} {g : Nat} {t : TypeId} {p : Par} (h : Mem.Blk w g t p.cs) : w.cell? ⟨g, 0, none⟩ = some (.int .u32 p.a) ∧ w.cell? ⟨g, 1, none⟩ = some (.int .u32 p.b) ∧ w.cell? ⟨g, 2, none⟩ = some (.int .i64 p.u0) ∧ w.cell? ⟨g, 3, none⟩ = some (.int .i64 p.u1) ∧ w.cell? ⟨g, 4, none⟩ = some (.int .i64 p.u2) ∧ w.cell? ⟨g, 5, none⟩ = some (.int .i64 p.u3) ∧ w.cell? ⟨g, 6, none⟩ = some (.int .i64 p.u4) ∧ w.cell? ⟨g, 7, none⟩ = some (.int .u64 p.m) ∧ w.cell? ⟨g, 8, none⟩ = some (.int .i64 p.h) ∧ w.cell? ⟨g, 9, none⟩ = some (.int .i64 p.d) ∧ w.cell? ⟨g, 10, none⟩ = some (.int .i64 p.g) :=
  ⟨h.cell 0, h.cell 1, h.cell 2, h.cell 3, h.cell 4, h.cell 5, h.cell 6, h.cell 7, h.cell 8, h.cell 9, h.cell 10⟩
set_option maxHeartbeats 1000000 in
theorem law_nexts (p : Par) (e : Nat) (l : Int) (w : World) (hp : p.ok) (he : e ≤ 65535) (hl : -9223372036854775808 ≤ l ∧ l ≤ 9223372036854775807) :
    Calls Try.prog 6 #[.agg p.cs, .int .u16 e, .int .i64 l] w fun e w' => e = .returned (.bool true) ∧ Below w.heap.size w w' := by
  have HL := Lib.hid lives_any
  have H1 := Lib.hid fun w => next_any p e l w hp he hl
  have H2 := Lib.hid fun w => rnext_any p e l w hp he hl
  generalize chZ p e l = C at *
  generalize unZ p e l = U at *
  have B0 : Below w.heap.size w (w.alloc (.cells p.cs 37)) := (Below.refl _ w).alloc (Nat.le_refl _) _
  have T0 : Mem.Blk (w.alloc (.cells p.cs 37)) w.heap.size 37 p.cs := Blk.fresh w _ _
  have hlt := T0.lt
  clear hp
  go_enter Try.func6, Try.ntmps6
  have hcs : p.cs = #[.int .u32 p.a, .int .u32 p.b, .int .i64 p.u0, .int .i64 p.u1, .int .i64 p.u2, .int .i64 p.u3, .int .i64 p.u4, .int .u64 p.m, .int .i64 p.h, .int .i64 p.d, .int .i64 p.g] := rfl
  have HT : Hid (∀ w' : World, Mem.Blk w' w.heap.size 37 p.cs → w'.cell? ⟨w.heap.size, 0, none⟩ = some (.int .u32 p.a) ∧ w'.cell? ⟨w.heap.size, 1, none⟩ = some (.int .u32 p.b) ∧ w'.cell? ⟨w.heap.size, 2, none⟩ = some (.int .i64 p.u0) ∧ w'.cell? ⟨w.heap.size, 3, none⟩ = some (.int .i64 p.u1) ∧ w'.cell? ⟨w.heap.size, 4, none⟩ = some (.int .i64 p.u2) ∧ w'.cell? ⟨w.heap.size, 5, none⟩ = some (.int .i64 p.u3) ∧ w'.cell? ⟨w.heap.size, 6, none⟩ = some (.int .i64 p.u4) ∧ w'.cell? ⟨w.heap.size, 7, none⟩ = some (.int .u64 p.m) ∧ w'.cell? ⟨w.heap.size, 8, none⟩ = some (.int .i64 p.h) ∧ w'.cell? ⟨w.heap.size, 9, none⟩ = some (.int .i64 p.d) ∧ w'.cell? ⟨w.heap.size, 10, none⟩ = some (.int .i64 p.g)) := Lib.hid fun w' h => Eleven h
  rw [hcs] at H1 H2 B0 T0 hlt HT ⊢
  clear hcs
  generalize p.a = x0 at *
  generalize p.b = x1 at *
  generalize p.u0 = x2 at *
  generalize p.u1 = x3 at *
  generalize p.u2 = x4 at *
  generalize p.u3 = x5 at *
  generalize p.u4 = x6 at *
  generalize p.m = x7 at *
  generalize p.h = x8 at *
  generalize p.d = x9 at *
  generalize p.g = x10 at *
  go_wp2_with (first
    | (go_at_call 17; refine (H1.out _).mono ?_; clear H1; rintro e w1 ⟨rfl, b1⟩; have B1 := thenB B0 b1; have T1 := T0.below b1 hlt; obtain ⟨k0, k1, k2, k3, k4, k5, k6, k7, k8, k9, k10⟩ := HT.out _ T1)
    | (go_at_call 18; refine (H2.out _).mono ?_; clear H2; rintro e w2 ⟨rfl, b2⟩; have B2 := thenB B1 b2)
    | (go_at_call 8; refine (HL.out _).mono ?_; rintro e w3 ⟨rfl, b3⟩; have B3 := thenB B2 b3))
  go_ret
  exact ⟨rfl, B3⟩
end Go.Proofs.Ytmfljplibcodpaa.Hop
