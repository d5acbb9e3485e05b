/- The statements on the clocks, walked: each returns true. -/
import Derived.Test.YtjbidpclpkjddaaClkReal
set_option linter.unusedVariables false
set_option linter.unusedSimpArgs false
namespace Go.Proofs.Ytjbidpclpkjddaa.Clk
open Go.RowKit Mem

theorem thenB {w a b : World} (h : Below w.heap.size w a) (k : Below a.heap.size a b) : Below w.heap.size w b := h.trans (k.mono h.size)
theorem pair_below {w w' : World} {g : Nat} {x y : Value} (hs : w.cell? ⟨g, 0, none⟩ = some x ∧ w.cell? ⟨g, 1, none⟩ = some y) (b : Below w.heap.size w w') : w'.cell? ⟨g, 0, none⟩ = some x ∧ w'.cell? ⟨g, 1, none⟩ = some y :=
  ⟨(b.cell (p := ⟨g, 0, none⟩) (World.block_lt_of_cell? _ _ hs.1)).trans hs.1, (b.cell (p := ⟨g, 1, none⟩) (World.block_lt_of_cell? _ _ hs.2)).trans hs.2⟩
theorem rwidening_any (p n : Int) (w : World) :
    Calls Try.prog 18 #[.int .i64 p, .int .i64 n] w fun e w' => e = .returned (.int .i64 (wid p n)) ∧ w = w' := by
  have hp := wprod_bd p n
  have hw := wid_bd p n
  have hu : wid p n = upw (lim n 0 1099511627776 * lim p 0 1000) + 32 := rfl
  have hc := up_code hp.1
  have H1 := Lib.hid fun w => rlimited_any n 0 1099511627776 w (by decide)
  have H2 := Lib.hid fun w => rlimited_any p 0 1000 w (by decide)
  rw [hu] at hw ⊢
  clear hu
  generalize lim n 0 1099511627776 = S at *
  generalize lim p 0 1000 = P at *
  generalize upw (S * P) = U at *
  obtain ⟨k1, k2⟩ := tdiv_pos hp.1
  have hd : 0 ≤ (S * P).tdiv 1000000 ∧ (S * P).tdiv 1000000 ≤ 1099511628 := by omega
  have e1 := IntWalk.wrap64_in (S * P) (by omega)
  have e2 := IntWalk.wrap64_in ((S * P).tdiv 1000000) (by omega)
  have e3 := IntWalk.wrap64_in ((S * P).tdiv 1000000 + 1) (by omega)
  rcases hc with ⟨h1, h2⟩ | ⟨h1, h2⟩
  all_goals
    rw [← h2] at hw ⊢
    have h3 := h1
    rw [k2] at h3
    clear h2 k1 k2
    go_enter Try.func18, Try.ntmps18
    go_wp2_with (first
      | (go_at_call_of 22 n; refine (H1.out _).mono ?_; rintro e w' ⟨rfl, rfl⟩)
      | (go_at_call_of 22 p; refine (H2.out _).mono ?_; rintro e w' ⟨rfl, rfl⟩))
    go_ret
    exact ⟨rfl, rfl⟩
theorem okC_yes {p s : Int} (h : -500 ≤ p ∧ p ≤ 500 ∧ 0 ≤ s ∧ s ≤ 1099511627776) : 0 = okC p s := by unfold okC; rw [if_pos h]
theorem okC_no {p s : Int} (h : ¬ (-500 ≤ p ∧ p ≤ 500 ∧ 0 ≤ s ∧ s ≤ 1099511627776)) : 5 = okC p s := by unfold okC; rw [if_neg h]
theorem rcheck_any (p s : Int) (w : World) :
    Calls Try.prog 12 #[.agg #[.int .i64 p, .int .i64 s]] w fun e w' => e = .returned (.int .i64 (okC p s)) ∧ Below w.heap.size w w' := by
  have F0 : Mem.Blk (w.alloc (.cells #[.int .i64 p, .int .i64 s] 23)) w.heap.size 23 #[.int .i64 p, .int .i64 s] := Blk.fresh w _ #[.int .i64 p, .int .i64 s]
  have hbel : Below w.heap.size w (w.alloc (.cells #[.int .i64 p, .int .i64 s] 23)) := (Below.refl _ w).alloc (Nat.le_refl _) _
  by_cases a1 : p < -500
  · rw [← okC_no (p := p) (s := s) (by omega)]
    go_enter Try.func12, Try.ntmps12
    go_wp2
    go_ret
    exact ⟨rfl, hbel⟩
  · by_cases a2 : 500 < p
    · rw [← okC_no (p := p) (s := s) (by omega)]
      go_enter Try.func12, Try.ntmps12
      go_wp2
      go_ret
      exact ⟨rfl, hbel⟩
    · by_cases a3 : s < 0
      · rw [← okC_no (p := p) (s := s) (by omega)]
        go_enter Try.func12, Try.ntmps12
        go_wp2
        go_ret
        exact ⟨rfl, hbel⟩
      · by_cases a4 : 1099511627776 < s
        · rw [← okC_no (p := p) (s := s) (by omega)]
          go_enter Try.func12, Try.ntmps12
          go_wp2
          go_ret
          exact ⟨rfl, hbel⟩
        · rw [← okC_yes (p := p) (s := s) (by omega)]
          go_enter Try.func12, Try.ntmps12
          go_wp2
          go_ret
          exact ⟨rfl, hbel⟩
theorem first_a {r : Int} (h : First (-100) 0 14998 r) : r = 15000 := by
  rcases Int.lt_trichotomy r 15000 with g | g | g
  · have h2 := h.at_ (by omega)
    have := loc_mono (-100) 0 (t := r) (u := 14999) (by omega)
    rw [show loc (-100) 0 14999 = 14997 by decide +kernel] at this
    omega
  · exact g
  · have h1 := h.below 15000 (by omega) g
    rw [show loc (-100) 0 15000 = 14998 by decide +kernel] at h1
    omega
theorem first_b {r : Int} (h : First 0 5 3 r) : r = 0 := by
  rcases Int.lt_or_le 0 r with g | g
  · have h1 := h.below 0 (by omega) g
    rw [show loc 0 5 0 = 5 by decide +kernel] at h1
    omega
  · have := h.lo; omega
theorem first_c {r : Int} (h : First 0 0 1099511627777 r) : r = 1099511627776 := by
  rcases Int.lt_or_le r 1099511627776 with g | g
  · have h2 := h.at_ g
    have h3 := loc_mono 0 0 (t := r) (u := 1099511627776) (by omega)
    rw [show loc 0 0 1099511627776 = 1099511627776 by decide +kernel] at h3
    omega
  · have := h.hi; omega
theorem lives_any (w : World) : Calls Try.prog 10 #[] w fun e w' => e = .returned (.bool true) ∧ Below w.heap.size w w' := by
  have H1 : Hid (∀ w, Calls Try.prog 11 #[.agg #[.int .i64 (-100), .int .i64 0]] w fun e w' => e = .returned (.int .i64 0) ∧ Below w.heap.size w w') := Lib.hid fun w => check_any (-100) 0 w
  have H2 : Hid (∀ w, Calls Try.prog 11 #[.agg #[.int .i64 501, .int .i64 0]] w fun e w' => e = .returned (.int .i64 5) ∧ Below w.heap.size w w') := Lib.hid fun w => check_any 501 0 w
  have H3 : Hid (∀ w, Calls Try.prog 13 #[.agg #[.int .i64 100, .int .i64 1000], .int .i64 1000000] w fun e w' => e = .returned (.int .i64 1001100) ∧ Below w.heap.size w w') := Lib.hid fun w => by
    have := local_any 100 1000 1000000 w; rwa [show loc 100 1000 1000000 = 1001100 by decide +kernel] at this
  have H4 : Hid (∀ w, Calls Try.prog 13 #[.agg #[.int .i64 (-100), .int .i64 0], .int .i64 15000] w fun e w' => e = .returned (.int .i64 14998) ∧ Below w.heap.size w w') := Lib.hid fun w => by
    have := local_any (-100) 0 15000 w; rwa [show loc (-100) 0 15000 = 14998 by decide +kernel] at this
  have H5 : Hid (∀ w, Calls Try.prog 15 #[.agg #[.int .i64 (-100), .int .i64 0], .int .i64 14998] w fun e w' => e = .returned (.int .i64 15000) ∧ Below w.heap.size w w') := Lib.hid fun w =>
    (real_any (-100) 0 14998 w).mono fun e w' ⟨⟨r, h1, h2⟩, hb⟩ => ⟨by rw [h1, first_a h2], hb⟩
  have H6 : Hid (∀ w, Calls Try.prog 15 #[.agg #[.int .i64 0, .int .i64 5], .int .i64 3] w fun e w' => e = .returned (.int .i64 0) ∧ Below w.heap.size w w') := Lib.hid fun w =>
    (real_any 0 5 3 w).mono fun e w' ⟨⟨r, h1, h2⟩, hb⟩ => ⟨by rw [h1, first_b h2], hb⟩
  have H7 : Hid (∀ w, Calls Try.prog 15 #[.agg #[.int .i64 0, .int .i64 0], .int .i64 1099511627777] w fun e w' => e = .returned (.int .i64 1099511627776) ∧ Below w.heap.size w w') := Lib.hid fun w =>
    (real_any 0 0 1099511627777 w).mono fun e w' ⟨⟨r, h1, h2⟩, hb⟩ => ⟨by rw [h1, first_c h2], hb⟩
  have H8 : Hid (∀ w, Calls Try.prog 17 #[.int .i64 70, .int .i64 1000000] w fun e w' => e = .returned (.int .i64 102) ∧ w = w') := Lib.hid fun w => by
    have := widening_any 70 1000000 w; rwa [show wid 70 1000000 = 102 by decide +kernel] at this
  have H9 : Hid (∀ w, Calls Try.prog 17 #[.int .i64 70, .int .i64 1] w fun e w' => e = .returned (.int .i64 33) ∧ w = w') := Lib.hid fun w => by
    have := widening_any 70 1 w; rwa [show wid 70 1 = 33 by decide +kernel] at this
  have H10 : Hid (∀ w, Calls Try.prog 17 #[.int .i64 (-5), .int .i64 1000] w fun e w' => e = .returned (.int .i64 32) ∧ w = w') := Lib.hid fun w => by
    have := widening_any (-5) 1000 w; rwa [show wid (-5) 1000 = 32 by decide +kernel] at this
  have F0 : Mem.Blk (w.alloc (.cells #[.int .i64 (-100), .int .i64 0] 23)) w.heap.size 23 #[.int .i64 (-100), .int .i64 0] := Blk.fresh w _ #[.int .i64 (-100), .int .i64 0]
  have B0 : Below w.heap.size w (w.alloc (.cells #[.int .i64 (-100), .int .i64 0] 23)) := (Below.refl _ w).alloc (Nat.le_refl _) _
  go_enter Try.func10, Try.ntmps10
  go_wp2_with fail
  generalize w.alloc (.cells #[.int .i64 (-100), .int .i64 0] 23) = W at *
  have s0 : W.cell? ⟨w.heap.size, 0, none⟩ = some (.int .i64 (-100)) ∧ W.cell? ⟨w.heap.size, 1, none⟩ = some (.int .i64 0) := ⟨F0.cell 0, F0.cell 1⟩
  have c00 := s0.1
  have c01 := s0.2
  go_wp2_with (first
    | (go_at_call 11; refine (H1.out _).mono ?_; clear H1; rintro e w1 ⟨rfl, b1⟩; have s1 := pair_below s0 b1; have B1 := thenB B0 b1)
    | (go_at_call 11; refine (H2.out _).mono ?_; clear H2; rintro e w2 ⟨rfl, b2⟩; have s2 := pair_below s1 b2; have B2 := thenB B1 b2)
    | (go_at_call 13; refine (H3.out _).mono ?_; clear H3; rintro e w3 ⟨rfl, b3⟩; have s3 := pair_below s2 b3; have B3 := thenB B2 b3; have c30 := s3.1; have c31 := s3.2)
    | (go_at_call 13; refine (H4.out _).mono ?_; clear H4; rintro e w4 ⟨rfl, b4⟩; have s4 := pair_below s3 b4; have B4 := thenB B3 b4; have c40 := s4.1; have c41 := s4.2)
    | (go_at_call 15; refine (H5.out _).mono ?_; clear H5; rintro e w5 ⟨rfl, b5⟩; have B5 := thenB B4 b5)
    | (go_at_call 15; refine (H6.out _).mono ?_; clear H6; rintro e w6 ⟨rfl, b6⟩; have B6 := thenB B5 b6)
    | (go_at_call 15; refine (H7.out _).mono ?_; clear H7; rintro e w7 ⟨rfl, b7⟩; have B7 := thenB B6 b7)
    | (go_at_call 17; refine (H8.out _).mono ?_; clear H8; rintro e w' ⟨rfl, rfl⟩)
    | (go_at_call 17; refine (H9.out _).mono ?_; clear H9; rintro e w' ⟨rfl, rfl⟩)
    | (go_at_call 17; refine (H10.out _).mono ?_; clear H10; rintro e w' ⟨rfl, rfl⟩))
  go_ret
  exact ⟨rfl, B7⟩
theorem law_checks (p s : Int) (w : World) (hp : -9223372036854775808 ≤ p ∧ p ≤ 9223372036854775807) (hs : -9223372036854775808 ≤ s ∧ s ≤ 9223372036854775807) :
    Calls Try.prog 3 #[.agg #[.int .i64 p, .int .i64 s]] w fun e w' => e = .returned (.bool true) ∧ Below w.heap.size w w' := by
  have H1 := Lib.hid (check_any p s)
  have H2 := Lib.hid (rcheck_any p s)
  generalize okC p s = V at *
  have F0 : Mem.Blk (w.alloc (.cells #[.int .i64 p, .int .i64 s] 23)) w.heap.size 23 #[.int .i64 p, .int .i64 s] := Blk.fresh w _ #[.int .i64 p, .int .i64 s]
  have B0 : Below w.heap.size w (w.alloc (.cells #[.int .i64 p, .int .i64 s] 23)) := (Below.refl _ w).alloc (Nat.le_refl _) _
  go_enter Try.func3, Try.ntmps3
  go_wp2_with fail
  generalize w.alloc (.cells #[.int .i64 p, .int .i64 s] 23) = W at *
  have s0 : W.cell? ⟨w.heap.size, 0, none⟩ = some (.int .i64 p) ∧ W.cell? ⟨w.heap.size, 1, none⟩ = some (.int .i64 s) := ⟨F0.cell 0, F0.cell 1⟩
  have B0 := B0.drew
  have s0 : W.drew.cell? ⟨w.heap.size, 0, none⟩ = some (.int .i64 p) ∧ W.drew.cell? ⟨w.heap.size, 1, none⟩ = some (.int .i64 s) := s0
  go_region_held3 (fun w' => w'.cell? ⟨w.heap.size, 0, none⟩ = some (.int .i64 p) ∧ w'.cell? ⟨w.heap.size, 1, none⟩ = some (.int .i64 s)) (first | exact s3 | exact s2 | exact s1 | exact s0) (first
    | (go_at_call 10; refine (lives_any _).mono ?_; rintro e w1 ⟨rfl, b1⟩; have B1 := thenB B0 b1; have s1 := pair_below s0 b1)
    | (go_at_call 11; refine (H1.out _).mono ?_; rintro e w2 ⟨rfl, b2⟩; have B2 := thenB B1 b2; have s2 := pair_below s1 b2)
    | (go_at_call 12; refine (H2.out _).mono ?_; rintro e w3 ⟨rfl, b3⟩; have B3 := thenB B2 b3; have s3 := pair_below s2 b3))
  all_goals go_wp2
  all_goals go_ret
  all_goals exact ⟨rfl, B3⟩
theorem first_ex (p s l : Int) : ∃ r, First p s l r := by
  have go : ∀ n : Nat, n ≤ 1099511627776 → (∃ r, First p s l r) ∨ ∀ t : Int, 0 ≤ t → t < n → loc p s t < l := by
    intro n
    induction n with
    | zero => intro _; right; intro t h h'; omega
    | succ n ih =>
      intro h
      rcases ih (by omega) with e | e
      · exact .inl e
      · by_cases h1 : l ≤ loc p s n
        · exact .inl ⟨n, by omega, by omega, e, fun _ => h1⟩
        · refine .inr fun t g g' => ?_
          by_cases h2 : t = n
          · subst h2; omega
          · exact e t g (by omega)
  rcases go 1099511627776 (Nat.le_refl _) with e | e
  · exact e
  · exact ⟨1099511627776, by omega, by omega, fun t h h' => e t h (by omega), fun h => by omega⟩
theorem real_to {p s l r : Int} (hr : First p s l r) : Hid (∀ w, Calls Try.prog 15 #[.agg #[.int .i64 p, .int .i64 s], .int .i64 l] w fun e w' => e = .returned (.int .i64 r) ∧ Below w.heap.size w w') := Lib.hid fun w =>
  (real_any p s l w).mono fun e w' ⟨⟨r', h1, h2⟩, hb⟩ => ⟨by rw [h1, hr.unique h2], hb⟩
theorem rreal_to {p s l r : Int} (hr : First p s l r) : Hid (∀ w, Calls Try.prog 16 #[.agg #[.int .i64 p, .int .i64 s], .int .i64 l] w fun e w' => e = .returned (.int .i64 r) ∧ Below w.heap.size w w') := Lib.hid fun w =>
  (rreal_any p s l w).mono fun e w' ⟨⟨r', h1, h2⟩, hb⟩ => ⟨by rw [h1, hr.unique h2], hb⟩
theorem law_locals (p s t : Int) (w : World) (hp : -9223372036854775808 ≤ p ∧ p ≤ 9223372036854775807) (hs : -9223372036854775808 ≤ s ∧ s ≤ 9223372036854775807) (ht : -9223372036854775808 ≤ t ∧ t ≤ 9223372036854775807) :
    Calls Try.prog 4 #[.agg #[.int .i64 p, .int .i64 s], .int .i64 t] w fun e w' => e = .returned (.bool true) ∧ Below w.heap.size w w' := by
  have H1 := Lib.hid (local_any p s t)
  have H2 := Lib.hid (rlocal_any p s t)
  generalize loc p s t = V at *
  have F0 : Mem.Blk (w.alloc (.cells #[.int .i64 p, .int .i64 s] 23)) w.heap.size 23 #[.int .i64 p, .int .i64 s] := Blk.fresh w _ #[.int .i64 p, .int .i64 s]
  have B0 : Below w.heap.size w (w.alloc (.cells #[.int .i64 p, .int .i64 s] 23)) := (Below.refl _ w).alloc (Nat.le_refl _) _
  go_enter Try.func4, Try.ntmps4
  go_wp2_with fail
  generalize w.alloc (.cells #[.int .i64 p, .int .i64 s] 23) = W at *
  have B0 := B0.drew
  have s0 : W.drew.cell? ⟨w.heap.size, 0, none⟩ = some (.int .i64 p) ∧ W.drew.cell? ⟨w.heap.size, 1, none⟩ = some (.int .i64 s) := ⟨F0.cell 0, F0.cell 1⟩
  go_region_held3 (fun w' => w'.cell? ⟨w.heap.size, 0, none⟩ = some (.int .i64 p) ∧ w'.cell? ⟨w.heap.size, 1, none⟩ = some (.int .i64 s)) (first | exact s3 | exact s2 | exact s1 | exact s0) (first
    | (go_at_call 10; refine (lives_any _).mono ?_; rintro e w1 ⟨rfl, b1⟩; have B1 := thenB B0 b1; have s1 := pair_below s0 b1)
    | (go_at_call 13; refine (H1.out _).mono ?_; rintro e w2 ⟨rfl, b2⟩; have B2 := thenB B1 b2; have s2 := pair_below s1 b2)
    | (go_at_call 14; refine (H2.out _).mono ?_; rintro e w3 ⟨rfl, b3⟩; have B3 := thenB B2 b3; have s3 := pair_below s2 b3))
  all_goals go_wp2
  all_goals go_ret
  all_goals exact ⟨rfl, B3⟩
theorem law_reals (p s l : Int) (w : World) (hp : -9223372036854775808 ≤ p ∧ p ≤ 9223372036854775807) (hs : -9223372036854775808 ≤ s ∧ s ≤ 9223372036854775807) (hl : -9223372036854775808 ≤ l ∧ l ≤ 9223372036854775807) :
    Calls Try.prog 5 #[.agg #[.int .i64 p, .int .i64 s], .int .i64 l] w fun e w' => e = .returned (.bool true) ∧ Below w.heap.size w w' := by
  obtain ⟨r, hr⟩ := first_ex p s l
  have H1 := real_to hr
  have H2 := rreal_to hr
  clear hr
  have F0 : Mem.Blk (w.alloc (.cells #[.int .i64 p, .int .i64 s] 23)) w.heap.size 23 #[.int .i64 p, .int .i64 s] := Blk.fresh w _ #[.int .i64 p, .int .i64 s]
  have B0 : Below w.heap.size w (w.alloc (.cells #[.int .i64 p, .int .i64 s] 23)) := (Below.refl _ w).alloc (Nat.le_refl _) _
  go_enter Try.func5, Try.ntmps5
  go_wp2_with fail
  generalize w.alloc (.cells #[.int .i64 p, .int .i64 s] 23) = W at *
  have B0 := B0.drew
  have s0 : W.drew.cell? ⟨w.heap.size, 0, none⟩ = some (.int .i64 p) ∧ W.drew.cell? ⟨w.heap.size, 1, none⟩ = some (.int .i64 s) := ⟨F0.cell 0, F0.cell 1⟩
  go_region_held3 (fun w' => w'.cell? ⟨w.heap.size, 0, none⟩ = some (.int .i64 p) ∧ w'.cell? ⟨w.heap.size, 1, none⟩ = some (.int .i64 s)) (first | exact s3 | exact s2 | exact s1 | exact s0) (first
    | (go_at_call 10; refine (lives_any _).mono ?_; rintro e w1 ⟨rfl, b1⟩; have B1 := thenB B0 b1; have s1 := pair_below s0 b1)
    | (go_at_call 15; refine (H1.out _).mono ?_; rintro e w2 ⟨rfl, b2⟩; have B2 := thenB B1 b2; have s2 := pair_below s1 b2)
    | (go_at_call 16; refine (H2.out _).mono ?_; rintro e w3 ⟨rfl, b3⟩; have B3 := thenB B2 b3; have s3 := pair_below s2 b3))
  all_goals go_wp2
  all_goals go_ret
  all_goals exact ⟨rfl, B3⟩
theorem law_widenings (p n : Int) (w : World) (hp : -9223372036854775808 ≤ p ∧ p ≤ 9223372036854775807) (hn : -9223372036854775808 ≤ n ∧ n ≤ 9223372036854775807) :
    Calls Try.prog 6 #[.int .i64 p, .int .i64 n] w fun e w' => e = .returned (.bool true) ∧ Below w.heap.size w w' := by
  have H1 := Lib.hid (widening_any p n)
  have H2 := Lib.hid (rwidening_any p n)
  generalize wid p n = V at *
  go_enter Try.func6, Try.ntmps6
  go_wp2_with (first
    | (go_at_call 10; refine (lives_any _).mono ?_; rintro e w1 ⟨rfl, b1⟩)
    | (go_at_call 17; refine (H1.out _).mono ?_; rintro e w2 ⟨rfl, rfl⟩)
    | (go_at_call 18; refine (H2.out _).mono ?_; rintro e w3 ⟨rfl, rfl⟩))
  go_ret
  exact ⟨rfl, b1⟩
end Go.Proofs.Ytjbidpclpkjddaa.Clk
