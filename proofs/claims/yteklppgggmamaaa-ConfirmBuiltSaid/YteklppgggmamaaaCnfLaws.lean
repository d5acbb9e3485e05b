/- The statements on the functions of pairing, walked: each returns true. -/
import Derived.Test.YteklppgggmamaaaCnfKeys
set_option linter.unusedVariables false
set_option linter.unusedSimpArgs false
namespace Go.Proofs.Yteklppgggmamaaa.Cnf
open Go.RowKit Mem Oct Blk Base Mac

theorem beq_both {a b c d : Int} (h : a = b ↔ c = d) : ((a == b) == (c == d)) = true := by
  by_cases e : c = d
  · have : a = b := h.2 e
    subst this; subst e; simp
  · have : ¬ a = b := fun x => e (h.1 x)
    rw [beq_false_of_ne e, beq_false_of_ne this]; rfl
theorem mix_zero : mixZ 0 0 = 0 := by decide +kernel
theorem draw0 (w : World) : Calls Try.prog 12 #[.int .u64 0, .int .i64 0] w fun e w' => e = .returned (.int .u64 0) ∧ Below w.heap.size w w' := by
  have := draw_any 0 0 w (by decide) (by decide)
  rwa [show (0 : Int) % 18446744073709551616 = 0 by decide, mix_zero] at this
theorem draw2 (w : World) : Calls Try.prog 12 #[.int .u64 1, .int .i64 2] w fun e w' => e = .returned (.int .u64 (mixZ 1 2)) ∧ Below w.heap.size w w' := by
  have := draw_any 1 2 w (by decide) (by decide)
  rwa [show (2 : Int) % 18446744073709551616 = 2 by decide] at this
theorem draw3 (w : World) : Calls Try.prog 12 #[.int .u64 1, .int .i64 3] w fun e w' => e = .returned (.int .u64 (mixZ 1 3)) ∧ Below w.heap.size w w' := by
  have := draw_any 1 3 w (by decide) (by decide)
  rwa [show (3 : Int) % 18446744073709551616 = 3 by decide] at this
theorem pair_below {w w' : World} {g : Nat} {x y : Value} (hs : w.cell? ⟨g, 0, none⟩ = some x ∧ w.cell? ⟨g, 1, none⟩ = some y) (b : Below w.heap.size w w') : w'.cell? ⟨g, 0, none⟩ = some x ∧ w'.cell? ⟨g, 1, none⟩ = some y :=
  ⟨(b.cell (p := ⟨g, 0, none⟩) (cell_lt hs.1)).trans hs.1, (b.cell (p := ⟨g, 1, none⟩) (cell_lt hs.1)).trans hs.2⟩
set_option maxHeartbeats 1000000 in
theorem lives_any (w : World) : Calls Try.prog 11 #[] w fun e w' => e = .returned (.bool true) ∧ Below w.heap.size w w' := by
  have HO : Hid (∀ w, Calls Try.prog 16 #[.int .u32 9, .int .u64 4] w fun e w' => e = .returned (.agg #[.int .u64 (comZ 9 9 4 0), .int .u64 4]) ∧ Below w.heap.size w w') := Lib.hid fun w => oob_any 9 4 w (by decide) (by decide)
  have HC : Hid (∀ w, Calls Try.prog 14 #[.int .u32 9, .int .u32 9, .int .u64 4, .int .u8 0] w fun e w' => e = .returned (.int .u64 (comZ 9 9 4 0)) ∧ Below w.heap.size w w') := Lib.hid fun w => commit_any 9 9 4 0 w (by decide) (by decide) (by decide) (by decide)
  have H0 := Lib.hid draw0
  have H2 := Lib.hid draw2
  have H3 := Lib.hid draw3
  have hne : (mixZ 1 2 != mixZ 1 3) = true := by
    have : ¬ mixZ 1 2 = mixZ 1 3 := fun e => absurd (mix_inj 1 (by decide) (by decide) e) (by decide)
    simpa using this
  generalize comZ 9 9 4 0 = C at *
  generalize mixZ 1 2 = P at *
  generalize mixZ 1 3 = Q at *
  go_enter Try.func11, Try.ntmps11
  go_wp2_with fail
  refine (HO.out _).mono ?_
  rintro e w1 ⟨rfl, b1⟩
  have F := Blk.fresh w1 29 #[.int .u64 C, .int .u64 4]
  have hB := thenB b1 ((Below.refl w1.heap.size w1).alloc (Nat.le_refl _) (.cells #[.int .u64 C, .int .u64 4] 29))
  go_wp2_with fail
  generalize w1.alloc (.cells #[.int .u64 C, .int .u64 4] 29) = W at *
  have s0 : W.drew.cell? ⟨w1.heap.size, 0, none⟩ = some (.int .u64 C) ∧ W.drew.cell? ⟨w1.heap.size, 1, none⟩ = some (.int .u64 4) := ⟨F.cell 0, F.cell 1⟩
  have B3 : Below w.heap.size w W.drew := hB.drew
  go_region_held3 (fun w' => w'.cell? ⟨w1.heap.size, 0, none⟩ = some (.int .u64 C) ∧ w'.cell? ⟨w1.heap.size, 1, none⟩ = some (.int .u64 4)) (first | exact s0 | exact s1 | exact s2 | exact s3 | exact s4) (first
    | (go_at_call 14; refine (HC.out _).mono ?_; rintro e v1 ⟨rfl, c1⟩; have s1 := pair_below s0 c1; have B4 := thenB B3 c1)
    | (go_at_call 12; refine (H0.out _).mono ?_; clear H0; rintro e v2 ⟨rfl, c2⟩; have s2 := pair_below s1 c2; have B5 := thenB B4 c2)
    | (go_at_call 12; refine (H2.out _).mono ?_; clear H2; rintro e v3 ⟨rfl, c3⟩; have s3 := pair_below s2 c3; have B6 := thenB B5 c3)
    | (go_at_call 12; refine (H3.out _).mono ?_; clear H3; rintro e v4 ⟨rfl, c4⟩; have s4 := pair_below s3 c4; have B7 := thenB B6 c4))
  all_goals go_wp2_with fail
  all_goals go_ret
  all_goals exact ⟨rfl, B7⟩
theorem draws_eq (s i j : Int) (hi : -9223372036854775808 ≤ i ∧ i ≤ 9223372036854775807) (hj : -9223372036854775808 ≤ j ∧ j ≤ 9223372036854775807) :
    ((mixZ s (i % 18446744073709551616) == mixZ s (j % 18446744073709551616)) == (i == j)) = true :=
  beq_both ⟨fun e => by have := mix_inj s (by omega) (by omega) e; omega, fun e => by rw [e]⟩
theorem law_draws (s i j : Int) (w : World) (hs : 0 ≤ s ∧ s ≤ 18446744073709551615) (hi : -9223372036854775808 ≤ i ∧ i ≤ 9223372036854775807) (hj : -9223372036854775808 ≤ j ∧ j ≤ 9223372036854775807) :
    Calls Try.prog 3 #[.int .u64 s, .int .i64 i, .int .i64 j] w fun e w' => e = .returned (.bool true) ∧ Below w.heap.size w w' := by
  have E := draws_eq s i j hi hj
  have HI : Hid (∀ w, Calls Try.prog 12 #[.int .u64 s, .int .i64 i] w fun e w' => e = .returned (.int .u64 (mixZ s (i % 18446744073709551616))) ∧ Below w.heap.size w w') := Lib.hid fun w => draw_any s i w hs hi
  have HJ : Hid (∀ w, Calls Try.prog 12 #[.int .u64 s, .int .i64 j] w fun e w' => e = .returned (.int .u64 (mixZ s (j % 18446744073709551616))) ∧ Below w.heap.size w w') := Lib.hid fun w => draw_any s j w hs hj
  have HR : Hid (∀ w, Calls Try.prog 13 #[.int .u64 s, .int .i64 i] w fun e w' => e = .returned (.int .u64 (mixZ s (i % 18446744073709551616))) ∧ Below w.heap.size w w') := Lib.hid fun w => rdraw_any s i w hs hi
  generalize mixZ s (i % 18446744073709551616) = I at *
  generalize mixZ s (j % 18446744073709551616) = J at *
  go_enter Try.func3, Try.ntmps3
  go_wp2_with (first
    | (go_at_call 11; refine (lives_any _).mono ?_; rintro e w1 ⟨rfl, b1⟩; have B1 := b1)
    | (go_at_call 13; refine (HR.out _).mono ?_; rintro e w3 ⟨rfl, b3⟩; have B3 := thenB B2 b3; have HK := HI; clear HR)
    | (go_at_call_of 12 j; refine (HJ.out _).mono ?_; clear HJ; rintro e w5 ⟨rfl, b5⟩; have B5 := thenB B4 b5)
    | (go_at_call 12; refine (HK.out _).mono ?_; clear HK; rintro e w4 ⟨rfl, b4⟩; have B4 := thenB B3 b4)
    | (go_at_call 12; refine (HI.out _).mono ?_; rintro e w2 ⟨rfl, b2⟩; have B2 := thenB B1 b2))
  go_ret
  exact ⟨rfl, B5⟩
theorem oob_eq (J n : Int) (w : World) : (binOp .eql 29 (.agg #[.int .u64 J, .int .u64 n]) (.agg #[.int .u64 J, .int .u64 n])).run Try.prog w = .ok (.bool true) w := by
  go_simp
theorem oob_guard (J n : Int) (w : World) (x y : Operand) : (eqGuard .eql 29 x y (.agg #[.int .u64 J, .int .u64 n]) (.agg #[.int .u64 J, .int .u64 n])).run Try.prog w = .ok () w := by
  go_simp
theorem law_commits (u v n z : Int) (w : World) (hu : 0 ≤ u ∧ u ≤ 4294967295) (hv : 0 ≤ v ∧ v ≤ 4294967295) (hn : 0 ≤ n ∧ n ≤ 18446744073709551615) (hz : 0 ≤ z ∧ z ≤ 255) :
    Calls Try.prog 4 #[.int .u32 u, .int .u32 v, .int .u64 n, .int .u8 z] w fun e w' => e = .returned (.bool true) ∧ Below w.heap.size w w' := by
  have H1 : Hid (∀ w, Calls Try.prog 14 #[.int .u32 u, .int .u32 v, .int .u64 n, .int .u8 z] w fun e w' => e = .returned (.int .u64 (comZ u v n z)) ∧ Below w.heap.size w w') := Lib.hid fun w => commit_any u v n z w hu hv hn hz
  have H2 : Hid (∀ w, Calls Try.prog 15 #[.int .u32 u, .int .u32 v, .int .u64 n, .int .u8 z] w fun e w' => e = .returned (.int .u64 (comZ u v n z)) ∧ Below w.heap.size w w') := Lib.hid fun w => rcommit_any u v n z w hu hv hn hz
  obtain ⟨V, hV⟩ : ∃ V, Value.agg #[.int .u64 (comZ u u n 0), .int .u64 n] = V := ⟨_, rfl⟩
  have H3 : Hid (∀ w, Calls Try.prog 16 #[.int .u32 u, .int .u64 n] w fun e w' => e = .returned V ∧ Below w.heap.size w w') := Lib.hid fun w => by rw [← hV]; exact oob_any u n w hu hn
  have H4 : Hid (∀ w, Calls Try.prog 17 #[.int .u32 u, .int .u64 n] w fun e w' => e = .returned V ∧ Below w.heap.size w w') := Lib.hid fun w => by rw [← hV]; exact roob_any u n w hu hn
  have q1 : ∀ w, (binOp .eql 29 V V).run Try.prog w = .ok (.bool true) w := fun w => by rw [← hV]; exact oob_eq _ _ w
  have q2 : ∀ w x y, (eqGuard .eql 29 x y V V).run Try.prog w = .ok () w := fun w x y => by rw [← hV]; exact oob_guard _ _ w x y
  clear hV
  generalize comZ u v n z = I at *
  go_enter Try.func4, Try.ntmps4
  go_wp2_with (first
    | (go_at_call 11; refine (lives_any _).mono ?_; rintro e w1 ⟨rfl, b1⟩; have B1 := b1)
    | (go_at_call 14; refine (H1.out _).mono ?_; rintro e w2 ⟨rfl, b2⟩; have B2 := thenB B1 b2)
    | (go_at_call 15; refine (H2.out _).mono ?_; rintro e w3 ⟨rfl, b3⟩; have B3 := thenB B2 b3)
    | (go_at_call 16; refine (H3.out _).mono ?_; rintro e w4 ⟨rfl, b4⟩; have B4 := thenB B3 b4)
    | (go_at_call 17; refine (H4.out _).mono ?_; rintro e w5 ⟨rfl, b5⟩; have B5 := thenB B4 b5))
  go_ret
  exact ⟨rfl, B5⟩
theorem law_binds (u v a b z : Int) (w : World) (hu : 0 ≤ u ∧ u ≤ 4294967295) (hv : 0 ≤ v ∧ v ≤ 4294967295) (ha : 0 ≤ a ∧ a ≤ 18446744073709551615) (hb : 0 ≤ b ∧ b ≤ 18446744073709551615) (hz : 0 ≤ z ∧ z ≤ 255) :
    Calls Try.prog 5 #[.int .u32 u, .int .u32 v, .int .u64 a, .int .u64 b, .int .u8 z] w fun e w' => e = .returned (.bool true) ∧ Below w.heap.size w w' := by
  have E : ((comZ u v a z == comZ u v b z) == (a == b)) = true := beq_both ⟨fun e => mix_inj _ ha hb e, fun e => by rw [e]⟩
  have H1 := Lib.hid fun w => commit_any u v a z w hu hv ha hz
  have H2 := Lib.hid fun w => commit_any u v b z w hu hv hb hz
  generalize comZ u v a z = I at *
  generalize comZ u v b z = J at *
  go_enter Try.func5, Try.ntmps5
  go_wp2_with (first
    | (go_at_call 11; refine (lives_any _).mono ?_; rintro e w1 ⟨rfl, b1⟩; have B1 := b1)
    | (go_at_call_of 14 a; refine (H1.out _).mono ?_; rintro e w2 ⟨rfl, b2⟩; have B2 := thenB B1 b2)
    | (go_at_call_of 14 b; refine (H2.out _).mono ?_; rintro e w3 ⟨rfl, b3⟩; have B3 := thenB B2 b3))
  go_ret
  exact ⟨rfl, B3⟩
theorem law_digits (u v a b : Int) (w : World) (hu : 0 ≤ u ∧ u ≤ 4294967295) (hv : 0 ≤ v ∧ v ≤ 4294967295) (ha : 0 ≤ a ∧ a ≤ 18446744073709551615) (hb : 0 ≤ b ∧ b ≤ 18446744073709551615) :
    Calls Try.prog 6 #[.int .u32 u, .int .u32 v, .int .u64 a, .int .u64 b] w fun e w' => e = .returned (.bool true) ∧ Below w.heap.size w w' := by
  have bd : 0 ≤ digZ u v a b ∧ digZ u v a b < 1000000 := by unfold digZ; omega
  have H1 := Lib.hid fun w => digits_any u v a b w hu hv ha hb
  have H2 := Lib.hid fun w => rdigits_any u v a b w hu hv ha hb
  generalize digZ u v a b = I at *
  have bd1 := bd.1
  have bd2 := bd.2
  go_enter Try.func6, Try.ntmps6
  go_wp2_with (first
    | (go_at_call 11; refine (lives_any _).mono ?_; rintro e w1 ⟨rfl, b1⟩; have B2 := thenB B1 b1)
    | (go_at_call 18; refine (H1.out _).mono ?_; rintro e w2 ⟨rfl, b2⟩; have B1 := b2)
    | (go_at_call 19; refine (H2.out _).mono ?_; rintro e w3 ⟨rfl, b3⟩; have B3 := thenB B2 b3))
  go_ret
  exact ⟨by simp [bd1, bd2], B3⟩
end Go.Proofs.Yteklppgggmamaaa.Cnf
