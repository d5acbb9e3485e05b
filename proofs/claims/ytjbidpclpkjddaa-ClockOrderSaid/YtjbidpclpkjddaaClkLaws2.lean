/- The statements on the order of a clock, its first time and its drift, walked: each returns true. -/
import Derived.Test.YtjbidpclpkjddaaClkLaws
set_option linter.unusedVariables false
set_option linter.unusedSimpArgs false
namespace Go.Proofs.Ytjbidpclpkjddaa.Clk
open Go.RowKit Mem

theorem local_to (p s t V : Int) (h : loc p s t = V) : Hid (∀ w, Calls Try.prog 13 #[.agg #[.int .i64 p, .int .i64 s], .int .i64 t] w fun e w' => e = .returned (.int .i64 V) ∧ Below w.heap.size w w') := Lib.hid fun w => by
  rw [← h]; exact local_any p s t w
theorem law_order (p s t u : Int) (w : World) (hp : -9223372036854775808 ≤ p ∧ p ≤ 9223372036854775807) (hs : -9223372036854775808 ≤ s ∧ s ≤ 9223372036854775807) (ht : -9223372036854775808 ≤ t ∧ t ≤ 9223372036854775807) (hu : -9223372036854775808 ≤ u ∧ u ≤ 9223372036854775807) :
    Calls Try.prog 7 #[.agg #[.int .i64 p, .int .i64 s], .int .i64 t, .int .i64 u] w fun e w' => e = .returned (.bool true) ∧ Below w.heap.size w w' := by
  have F0 : Mem.Blk (w.alloc (.cells #[.int .i64 p, .int .i64 s] 23)) w.heap.size 23 #[.int .i64 p, .int .i64 s] := Blk.fresh w _ #[.int .i64 p, .int .i64 s]
  have B0 : Below w.heap.size w (w.alloc (.cells #[.int .i64 p, .int .i64 s] 23)) := (Below.refl _ w).alloc (Nat.le_refl _) _
  by_cases a1 : t < 0
  · go_enter Try.func7, Try.ntmps7
    go_wp2_with (go_at_call 10; refine (lives_any _).mono ?_; rintro e w1 ⟨rfl, b1⟩; have B1 := thenB B0 b1)
    go_ret
    exact ⟨rfl, B1⟩
  · by_cases a2 : 1099511627776 ≤ t
    · go_enter Try.func7, Try.ntmps7
      go_wp2_with (go_at_call 10; refine (lives_any _).mono ?_; rintro e w1 ⟨rfl, b1⟩; have B1 := thenB B0 b1)
      go_ret
      exact ⟨rfl, B1⟩
    · by_cases a3 : u < t
      · go_enter Try.func7, Try.ntmps7
        go_wp2_with (go_at_call 10; refine (lives_any _).mono ?_; rintro e w1 ⟨rfl, b1⟩; have B1 := thenB B0 b1)
        go_ret
        exact ⟨rfl, B1⟩
      · have k1 := loc_succ p s (t := t) (by omega) (by omega)
        have k2 := loc_mono p s (t := t) (u := u) (by omega)
        have k3 := loc_bd p s t
        obtain ⟨X, hX⟩ : ∃ X, loc p s t = X := ⟨_, rfl⟩
        obtain ⟨t1, ht1⟩ : ∃ t1, t + 1 = t1 := ⟨_, rfl⟩
        rw [ht1] at k1
        obtain ⟨Y, hY⟩ : ∃ Y, loc p s t1 = Y := ⟨_, rfl⟩
        obtain ⟨Z, hZ⟩ : ∃ Z, loc p s u = Z := ⟨_, rfl⟩
        have H1 := local_to p s t X hX
        have H2 := local_to p s t1 Y hY
        have H3 := local_to p s u Z hZ
        rw [hX, hY] at k1
        rw [hX, hZ] at k2
        rw [hX] at k3
        clear hX hY hZ
        have e1 : IntKind.i64.wrap (t + 1) = t1 := by rw [← ht1]; exact i64_in _ (by omega)
        have e3 : IntKind.i64.wrap t1 = t1 := i64_in _ (by omega)
        have e2 := IntWalk.wrap64_in (X + 2) (by omega)
        have q1 : decide (X ≤ Y) = true := by simpa using k1.1
        have q2 : decide (Y ≤ X + 2) = true := by simpa using k1.2
        have q3 : decide (X ≤ Z) = true := by simpa using k2
        go_enter Try.func7, Try.ntmps7
        go_wp2_with fail
        generalize w.alloc (.cells #[.int .i64 p, .int .i64 s] 23) = W at *
        have s0 : W.cell? ⟨w.heap.size, 0, none⟩ = some (.int .i64 p) ∧ W.cell? ⟨w.heap.size, 1, none⟩ = some (.int .i64 s) := ⟨F0.cell 0, F0.cell 1⟩
        refine (lives_any _).mono ?_
        rintro e w1 ⟨rfl, b1⟩
        have B1 := (thenB B0 b1).drew
        have s1 := pair_below s0 b1
        clear k1 k2 k3 hp hs ht hu F0
        go_wp2_with fail
        have s1 : w1.drew.cell? ⟨w.heap.size, 0, none⟩ = some (.int .i64 p) ∧ w1.drew.cell? ⟨w.heap.size, 1, none⟩ = some (.int .i64 s) := s1
        go_region_held3 (fun w' => w'.cell? ⟨w.heap.size, 0, none⟩ = some (.int .i64 p) ∧ w'.cell? ⟨w.heap.size, 1, none⟩ = some (.int .i64 s)) (first | exact s3 | exact s2 | exact s1) (first
          | (go_at_call_of 13 t1; refine (H2.out _).mono ?_; clear H2; rintro e w3 ⟨rfl, b3⟩; have B3 := thenB B2 b3; have s3 := pair_below s2 b3)
          | (go_at_call_of 13 t; refine (H1.out _).mono ?_; clear H1; rintro e w2 ⟨rfl, b2⟩; have B2 := thenB B1 b2; have s2 := pair_below s1 b2))
        have c30 := s3.1
        have c31 := s3.2
        go_wp2_with (go_at_call 13; refine (H3.out _).mono ?_; rintro e w4 ⟨rfl, b4⟩; have B4 := thenB B3 b4)
        go_ret
        exact ⟨rfl, B4⟩
theorem law_first (p s l : Int) (w : World) (hp : -9223372036854775808 ≤ p ∧ p ≤ 9223372036854775807) (hs : -9223372036854775808 ≤ s ∧ s ≤ 9223372036854775807) (hl : -9223372036854775808 ≤ l ∧ l ≤ 9223372036854775807) :
    Calls Try.prog 8 #[.agg #[.int .i64 p, .int .i64 s], .int .i64 l] w fun e w' => e = .returned (.bool true) ∧ Below w.heap.size w w' := by
  have F0 : Mem.Blk (w.alloc (.cells #[.int .i64 p, .int .i64 s] 23)) w.heap.size 23 #[.int .i64 p, .int .i64 s] := Blk.fresh w _ #[.int .i64 p, .int .i64 s]
  have B0 : Below w.heap.size w (w.alloc (.cells #[.int .i64 p, .int .i64 s] 23)) := (Below.refl _ w).alloc (Nat.le_refl _) _
  obtain ⟨r, hr⟩ := first_ex p s l
  have HR := real_to hr
  have r0 := hr.lo
  have r1 := hr.hi
  have g1 := hr.below
  have g2 := hr.at_
  have g3 := loc_bd p s r
  obtain ⟨X, hX⟩ : ∃ X, loc p s r = X := ⟨_, rfl⟩
  have H1 := local_to p s r X hX
  obtain ⟨q, hq⟩ : ∃ q, r - 1 = q := ⟨_, rfl⟩
  obtain ⟨Y, hY⟩ : ∃ Y, loc p s q = Y := ⟨_, rfl⟩
  have H2 := local_to p s q Y hY
  have e0 := IntWalk.wrap64_in (r - 1) (by omega)
  have e1 := IntWalk.wrap64_in (X - 1) (by omega)
  have e2 := IntWalk.wrap64_in q (by omega)
  by_cases a1 : 0 < r
  · have k1 := loc_succ p s (t := q) (by omega) (by omega)
    rw [show q + 1 = r by omega, hX, hY] at k1
    have k2 := g1 q (by omega) (by omega)
    rw [hY] at k2
    have q1 : decide (l ≤ Y) = false := by simpa using k2
    by_cases a2 : r = 1099511627776
    · subst a2
      clear g1 g2 g3 hX hY k1 hr hp hs hl
      go_enter Try.func8, Try.ntmps8
      go_wp2_with fail
      generalize w.alloc (.cells #[.int .i64 p, .int .i64 s] 23) = W at *
      have s0 : W.cell? ⟨w.heap.size, 0, none⟩ = some (.int .i64 p) ∧ W.cell? ⟨w.heap.size, 1, none⟩ = some (.int .i64 s) := ⟨F0.cell 0, F0.cell 1⟩
      go_wp2_with (first
        | (go_at_call 10; refine (lives_any _).mono ?_; rintro e w1 ⟨rfl, b1⟩; have B1 := thenB B0 b1; have s1 := pair_below s0 b1; have c0 := s1.1; have c1 := s1.2)
        | (go_at_call 15; refine (HR.out _).mono ?_; rintro e w2 ⟨rfl, b2⟩; have B2 := thenB B1 b2; have s2 := pair_below s1 b2; have d0 := s2.1; have d1 := s2.2)
        | (go_at_call 13; refine (H2.out _).mono ?_; clear H2; rintro e w3 ⟨rfl, b3⟩; have B3 := thenB B2 b3))
      go_ret
      exact ⟨rfl, B3⟩
    · have k3 := g2 (by omega)
      rw [hX] at k3
      have q2 : decide (l ≤ X) = true := by simpa using k3
      have q3 : decide (X - 1 ≤ l) = true := by simp; omega
      have q4 : decide (r = 1099511627776) = false := by simpa using a2
      have q5 : decide (r = 0) = false := by simp; omega
      clear g1 g2 g3 hX hY k1 k2 k3 hr hp hs hl
      go_enter Try.func8, Try.ntmps8
      go_wp2_with fail
      generalize w.alloc (.cells #[.int .i64 p, .int .i64 s] 23) = W at *
      have s0 : W.cell? ⟨w.heap.size, 0, none⟩ = some (.int .i64 p) ∧ W.cell? ⟨w.heap.size, 1, none⟩ = some (.int .i64 s) := ⟨F0.cell 0, F0.cell 1⟩
      go_wp2_with (first
        | (go_at_call 10; refine (lives_any _).mono ?_; rintro e w1 ⟨rfl, b1⟩; have B1 := thenB B0 b1; have s1 := pair_below s0 b1; have c0 := s1.1; have c1 := s1.2)
        | (go_at_call 15; refine (HR.out _).mono ?_; rintro e w2 ⟨rfl, b2⟩; have B2 := thenB B1 b2; have s2 := pair_below s1 b2; have d0 := s2.1; have d1 := s2.2)
        | (go_at_call_of 13 q; refine (H2.out _).mono ?_; clear H2; rintro e w3 ⟨rfl, b3⟩; have B3 := thenB B2 b3; have s3 := pair_below s2 b3; have f0 := s3.1; have f1 := s3.2)
        | (go_at_call_of 13 r; refine (H1.out _).mono ?_; clear H1; rintro e w4 ⟨rfl, b4⟩; have B4 := thenB B3 b4))
      go_ret
      exact ⟨rfl, B4⟩
  · obtain rfl : r = 0 := by omega
    have k3 := g2 (by omega)
    rw [hX] at k3
    have q2 : decide (l ≤ X) = true := by simpa using k3
    clear g1 g2 g3 hX hY k3 hr hp hs hl H2
    go_enter Try.func8, Try.ntmps8
    go_wp2_with fail
    generalize w.alloc (.cells #[.int .i64 p, .int .i64 s] 23) = W at *
    have s0 : W.cell? ⟨w.heap.size, 0, none⟩ = some (.int .i64 p) ∧ W.cell? ⟨w.heap.size, 1, none⟩ = some (.int .i64 s) := ⟨F0.cell 0, F0.cell 1⟩
    go_wp2_with (first
      | (go_at_call 10; refine (lives_any _).mono ?_; rintro e w1 ⟨rfl, b1⟩; have B1 := thenB B0 b1; have s1 := pair_below s0 b1; have c0 := s1.1; have c1 := s1.2)
      | (go_at_call 15; refine (HR.out _).mono ?_; rintro e w2 ⟨rfl, b2⟩; have B2 := thenB B1 b2; have s2 := pair_below s1 b2; have d0 := s2.1; have d1 := s2.2)
      | (go_at_call 13; refine (H1.out _).mono ?_; clear H1; rintro e w4 ⟨rfl, b4⟩; have B4 := thenB B2 b4))
    go_ret
    exact ⟨rfl, B4⟩
end Go.Proofs.Ytjbidpclpkjddaa.Clk
