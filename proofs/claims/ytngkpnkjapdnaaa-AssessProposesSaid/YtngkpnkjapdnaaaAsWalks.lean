/- What the functions of the layer of assessment return on one tally, and those of the document: contracts over the program. -/
import Derived.Test.YtngkpnkjapdnaaaChmRef
import Derived.Test.YtngkpnkjapdnaaaAsMath
import Derived.Test.YtngkpnkjapdnaaaAsPairs
set_option linter.unusedVariables false
set_option linter.unusedSimpArgs false
namespace Go.Proofs.Ytngkpnkjapdnaaa.As
open Go.RowKit Mem Chm Base

theorem limit_any (n : Int) (w : World) :
    Calls Try.prog 37 #[.int .i64 n] w fun e w' => e = .returned (.int .i64 (lim n)) ∧ w = w' := by
  go_enter Try.func37, Try.ntmps37
  go_wp2
  go_ret
  exact ⟨rfl, rfl⟩
theorem rcnt_any (n : Int) (w : World) :
    Calls Try.prog 30 #[.int .i64 n] w fun e w' => e = .returned (.int .i64 (lim n)) ∧ w = w' := by
  go_enter Try.func30, Try.ntmps30
  go_wp2
  go_ret
  exact ⟨rfl, rfl⟩
theorem more_any (n : Int) (w : World) (hn : -9223372036854775808 ≤ n ∧ n ≤ 9223372036854775807) :
    Calls Try.prog 28 #[.int .i64 n] w fun e w' => e = .returned (.int .i64 (more n)) ∧ w = w' := by
  unfold more
  by_cases h : 65536 ≤ n
  · rw [if_pos h]
    go_enter Try.func28, Try.ntmps28
    go_wp2
    go_ret
    exact ⟨rfl, rfl⟩
  · rw [if_neg h]
    go_enter Try.func28, Try.ntmps28
    go_wp2
    go_ret
    exact ⟨rfl, rfl⟩
theorem limited_any (a b : Int) (w : World) :
    Calls Try.prog 29 #[.agg #[.int .i64 a, .int .i64 b]] w fun e w' => e = .returned (.agg #[.int .i64 (lim a), .int .i64 (lim b)]) ∧ Below w.heap.size w w' := by
  have H1 := Lib.hid (limit_any a)
  have H2 := Lib.hid (limit_any b)
  generalize lim a = x at *
  generalize lim b = y at *
  go_enter Try.func29, Try.ntmps29
  go_wp2_with fail
  have KK : ∀ o, ((w.alloc (.cells #[.int .i64 a, .int .i64 b] 30)).alloc o).drew.cell? ⟨w.heap.size, 0, none⟩ = some (.int .i64 a) ∧ ((w.alloc (.cells #[.int .i64 a, .int .i64 b] 30)).alloc o).drew.cell? ⟨w.heap.size, 1, none⟩ = some (.int .i64 b) := fun o =>
    ⟨((Blk.fresh w _ _).alloc o).cell 0, ((Blk.fresh w _ _).alloc o).cell 1⟩
  go_region_held3 (fun w' => w'.cell? ⟨w.heap.size, 0, none⟩ = some (.int .i64 a) ∧ w'.cell? ⟨w.heap.size, 1, none⟩ = some (.int .i64 b)) (exact KK _) (first
    | (go_at_call_of 37 a; refine (H1.out _).mono ?_; rintro e w' ⟨rfl, rfl⟩)
    | (go_at_call_of 37 b; refine (H2.out _).mono ?_; rintro e w' ⟨rfl, rfl⟩))
  go_wp2_with fail
  refine bodyPost_ret (v := .agg #[.int .i64 x, .int .i64 y]) ?_ rfl ⟨rfl, (((Below.refl _ w).alloc (Nat.le_refl _) _).alloc (by simp) _).drew⟩
  simp [results, Try.f29, go_sem]
theorem two_cells {w : World} {g : Nat} {t : TypeId} {a b : Int} (h : Mem.Blk w g t #[.int .i64 a, .int .i64 b]) : w.cell? ⟨g, 0, none⟩ = some (.int .i64 a) ∧ w.cell? ⟨g, 1, none⟩ = some (.int .i64 b) ∧ w.frozen? ⟨g, 0, none⟩ = false ∧ w.frozen? ⟨g, 1, none⟩ = false :=
  ⟨h.cell 0, h.cell 1, frozen_of_row w _ 0 _ _ h, frozen_of_row w _ 1 _ _ h⟩
theorem two_set {w w1 : World} {x y : Int} (h : Below w.heap.size w w1) : Below w.heap.size w ((w1.setCell ⟨w.heap.size, 0, none⟩ (.int .i64 x)).setCell ⟨w.heap.size, 1, none⟩ (.int .i64 y)) :=
  (h.setCell (p := ⟨w.heap.size, 0, none⟩) (Nat.le_refl _) _).setCell (p := ⟨w.heap.size, 1, none⟩) (Nat.le_refl _) _
theorem rate_any (a b : Int) (w : World) :
    Calls Try.prog 16 #[.agg #[.int .i64 a, .int .i64 b]] w fun e w' => e = .returned (.int .i64 (rateZ (a, b))) ∧ Below w.heap.size w w' := by
  have HL := Lib.hid (limited_any a b)
  have h1 := lim_bd a
  have h2 := lim_bd b
  have hr : rateZ (a, b) = if lim a + lim b = 0 then 0 else lim b * 1000 / (lim a + lim b) := rfl
  rw [hr]
  clear hr
  generalize lim a = x at *
  generalize lim b = y at *
  have B0 : Below w.heap.size w (w.alloc (.cells #[.int .i64 a, .int .i64 b] 30)) := (Below.refl _ w).alloc (Nat.le_refl _) _
  have T0 : Mem.Blk (w.alloc (.cells #[.int .i64 a, .int .i64 b] 30)) w.heap.size 30 #[.int .i64 a, .int .i64 b] := Blk.fresh w _ _
  have hlt := T0.lt
  by_cases h0 : x + y = 0
  · rw [if_pos h0]
    have q0 : (x + y == 0) = true := by simpa using h0
    clear h0
    go_enter Try.func16, Try.ntmps16
    go_wp2_with fail
    generalize w.alloc (.cells #[.int .i64 a, .int .i64 b] 30) = W at *
    refine (HL.out _).mono ?_
    rintro e w1 ⟨rfl, b1⟩
    have B1 := thenB B0 b1
    have T1 := T0.below b1 hlt
    obtain ⟨c0, c1, z0, z1⟩ := two_cells T1
    go_wp2_with fail
    go_ret
    exact ⟨rfl, two_set B1⟩
  · rw [if_neg h0]
    have q0 : (x + y == 0) = false := by simpa using h0
    have q1 : (y * 1000).tdiv (x + y) = y * 1000 / (x + y) := Int.tdiv_eq_ediv_of_nonneg (by omega)
    have q3 : 0 ≤ y * 1000 / (x + y) := Int.ediv_nonneg (by omega) (by omega)
    have q4 : y * 1000 / (x + y) ≤ y * 1000 := Int.ediv_le_self _ (by omega)
    have q2 := IntWalk.wrap64_in (y * 1000 / (x + y)) (by omega)
    go_enter Try.func16, Try.ntmps16
    go_wp2_with fail
    generalize w.alloc (.cells #[.int .i64 a, .int .i64 b] 30) = W at *
    refine (HL.out _).mono ?_
    rintro e w1 ⟨rfl, b1⟩
    have B1 := thenB B0 b1
    have T1 := T0.below b1 hlt
    obtain ⟨c0, c1, z0, z1⟩ := two_cells T1
    go_wp2_with fail
    go_ret
    exact ⟨rfl, two_set B1⟩
theorem bad_any (a b : Int) (w : World) :
    Calls Try.prog 18 #[.agg #[.int .i64 a, .int .i64 b]] w fun e w' => e = .returned (.bool (badB (a, b))) ∧ Below w.heap.size w w' := by
  have HL := Lib.hid (limited_any a b)
  have HR := Lib.hid (rate_any (lim a) (lim b))
  have h1 := lim_bd a
  have h2 := lim_bd b
  have hr : badB (a, b) = (decide (8 ≤ lim a + lim b) && decide (250 ≤ rateZ (lim a, lim b))) := by rw [rate_lim (a, b)]; rfl
  rw [hr]
  clear hr
  generalize lim a = x at *
  generalize lim b = y at *
  generalize rateZ (x, y) = R at *
  have B0 : Below w.heap.size w (w.alloc (.cells #[.int .i64 a, .int .i64 b] 30)) := (Below.refl _ w).alloc (Nat.le_refl _) _
  have T0 : Mem.Blk (w.alloc (.cells #[.int .i64 a, .int .i64 b] 30)) w.heap.size 30 #[.int .i64 a, .int .i64 b] := Blk.fresh w _ _
  have hlt := T0.lt
  by_cases h0 : 8 ≤ x + y
  · rw [decide_eq_true h0, Bool.true_and]
    go_enter Try.func18, Try.ntmps18
    go_wp2_with fail
    generalize w.alloc (.cells #[.int .i64 a, .int .i64 b] 30) = W at *
    refine (HL.out _).mono ?_
    rintro e w1 ⟨rfl, b1⟩
    have B1 := thenB B0 b1
    have T1 := T0.below b1 hlt
    obtain ⟨c0, c1, z0, z1⟩ := two_cells T1
    have B2 := two_set (x := x) (y := y) B1
    go_wp2_with (go_at_call 16; refine (HR.out _).mono ?_; rintro e w3 ⟨rfl, b3⟩; have B3 := thenB B2 b3)
    go_ret
    exact ⟨rfl, B3⟩
  · rw [decide_eq_false h0, Bool.false_and]
    go_enter Try.func18, Try.ntmps18
    go_wp2_with fail
    generalize w.alloc (.cells #[.int .i64 a, .int .i64 b] 30) = W at *
    refine (HL.out _).mono ?_
    rintro e w1 ⟨rfl, b1⟩
    have B1 := thenB B0 b1
    have T1 := T0.below b1 hlt
    obtain ⟨c0, c1, z0, z1⟩ := two_cells T1
    have B2 := two_set (x := x) (y := y) B1
    go_wp2_with fail
    go_ret
    exact ⟨rfl, B2⟩
set_option maxHeartbeats 1000000 in
theorem rrate_any (a b : Int) (w : World) :
    Calls Try.prog 17 #[.agg #[.int .i64 a, .int .i64 b]] w fun e w' => e = .returned (.int .i64 (rateZ (a, b))) ∧ Below w.heap.size w w' := by
  have H1 := Lib.hid (rcnt_any a)
  have H2 := Lib.hid (rcnt_any b)
  have h1 := lim_bd a
  have h2 := lim_bd b
  have hr : rateZ (a, b) = if lim a + lim b = 0 then 0 else lim b * 1000 / (lim a + lim b) := rfl
  rw [hr]
  clear hr
  generalize lim a = x at *
  generalize lim b = y at *
  have B0 : Below w.heap.size w (w.alloc (.cells #[.int .i64 a, .int .i64 b] 30)) := (Below.refl _ w).alloc (Nat.le_refl _) _
  have T0 : Mem.Blk (w.alloc (.cells #[.int .i64 a, .int .i64 b] 30)) w.heap.size 30 #[.int .i64 a, .int .i64 b] := Blk.fresh w _ _
  by_cases h0 : x + y = 0
  · rw [if_pos h0]
    have q0 : (x + y == 0) = true := by simpa using h0
    clear h0
    go_enter Try.func17, Try.ntmps17
    go_wp2_with fail
    generalize w.alloc (.cells #[.int .i64 a, .int .i64 b] 30) = W at *
    have B1 := B0.drew
    have T1 := T0.drew
    obtain ⟨c0, c1, _, _⟩ := two_cells T1
    go_region_held3 (fun w' => w'.cell? ⟨w.heap.size, 0, none⟩ = some (.int .i64 a) ∧ w'.cell? ⟨w.heap.size, 1, none⟩ = some (.int .i64 b)) (exact ⟨c0, c1⟩) (first
      | (go_at_call_of 30 a; refine (H1.out _).mono ?_; rintro e w' ⟨rfl, rfl⟩)
      | (go_at_call_of 30 b; refine (H2.out _).mono ?_; rintro e w' ⟨rfl, rfl⟩))
    go_wp2_with fail
    go_ret
    exact ⟨rfl, B1⟩
  · rw [if_neg h0]
    have q0 : (x + y == 0) = false := by simpa using h0
    have q1 : (y * 1000).tdiv (x + y) = y * 1000 / (x + y) := Int.tdiv_eq_ediv_of_nonneg (by omega)
    have q3 : 0 ≤ y * 1000 / (x + y) := Int.ediv_nonneg (by omega) (by omega)
    have q4 : y * 1000 / (x + y) ≤ y * 1000 := Int.ediv_le_self _ (by omega)
    have q2 := IntWalk.wrap64_in (y * 1000 / (x + y)) (by omega)
    go_enter Try.func17, Try.ntmps17
    go_wp2_with fail
    generalize w.alloc (.cells #[.int .i64 a, .int .i64 b] 30) = W at *
    have B1 := B0.drew
    have T1 := T0.drew
    obtain ⟨c0, c1, _, _⟩ := two_cells T1
    go_region_held3 (fun w' => w'.cell? ⟨w.heap.size, 0, none⟩ = some (.int .i64 a) ∧ w'.cell? ⟨w.heap.size, 1, none⟩ = some (.int .i64 b)) (exact ⟨c0, c1⟩) (first
      | (go_at_call_of 30 a; refine (H1.out _).mono ?_; rintro e w' ⟨rfl, rfl⟩)
      | (go_at_call_of 30 b; refine (H2.out _).mono ?_; rintro e w' ⟨rfl, rfl⟩))
    go_wp2_with fail
    go_ret
    exact ⟨rfl, B1⟩
end Go.Proofs.Ytngkpnkjapdnaaa.As
