/- The statements on the clocks, walked: each returns true. -/
import Derived.Test.YtmcpgnmkjebbjaaClkReal
set_option linter.unusedVariables false
set_option linter.unusedSimpArgs false
namespace Go.Proofs.Ytmcpgnmkjebbjaa.Clk
open Go.RowKit Mem

theorem thenB {w a b : World} (h : Below w.heap.size w a) (k : Below a.heap.size a b) : Below w.heap.size w b := h.trans (k.mono h.size)
theorem pair_below {w w' : World} {g : Nat} {x y : Value} (hs : w.cell? ⟨g, 0, none⟩ = some x ∧ w.cell? ⟨g, 1, none⟩ = some y) (b : Below w.heap.size w w') : w'.cell? ⟨g, 0, none⟩ = some x ∧ w'.cell? ⟨g, 1, none⟩ = some y :=
  ⟨(b.cell (p := ⟨g, 0, none⟩) (World.block_lt_of_cell? _ _ hs.1)).trans hs.1, (b.cell (p := ⟨g, 1, none⟩) (World.block_lt_of_cell? _ _ hs.2)).trans hs.2⟩
theorem rwidening_any (p n : Int) (w : World) :
    Calls Try.prog 57 #[.int .i64 p, .int .i64 n] w fun e w' => e = .returned (.int .i64 (wid p n)) ∧ w = w' := by
  have hp := wprod_bd p n
  have hw := wid_bd p n
  have hu : wid p n = upw (lim n 0 1099511627776 * lim p 0 1000) + 32 := rfl
  have hc := up_code hp.1
  have H1 := Lib.hid fun w => rlimited_any n 0 1099511627776 w (by decide)
  have H2 := Lib.hid fun w => rlimited_any p 0 1000 w (by decide)
  rw [hu] at hw ⊢
  clear hu
  generalize lim n 0 1099511627776 = S at *
  generalize lim p 0 1000 = P at *
  generalize upw (S * P) = U at *
  obtain ⟨k1, k2⟩ := tdiv_pos hp.1
  have hd : 0 ≤ (S * P).tdiv 1000000 ∧ (S * P).tdiv 1000000 ≤ 1099511628 := by omega
  have e1 := IntWalk.wrap64_in (S * P) (by omega)
  have e2 := IntWalk.wrap64_in ((S * P).tdiv 1000000) (by omega)
  have e3 := IntWalk.wrap64_in ((S * P).tdiv 1000000 + 1) (by omega)
  rcases hc with ⟨h1, h2⟩ | ⟨h1, h2⟩
  all_goals
    rw [← h2] at hw ⊢
    have h3 := h1
    rw [k2] at h3
    clear h2 k1 k2
    go_enter Try.func57, Try.ntmps57
    go_wp2_with (first
      | (go_at_call_of 76 n; refine (H1.out _).mono ?_; rintro e w' ⟨rfl, rfl⟩)
      | (go_at_call_of 76 p; refine (H2.out _).mono ?_; rintro e w' ⟨rfl, rfl⟩))
    go_ret
    exact ⟨rfl, rfl⟩
theorem okC_yes {p s : Int} (h : -500 ≤ p ∧ p ≤ 500 ∧ 0 ≤ s ∧ s ≤ 1099511627776) : 0 = okC p s := by unfold okC; rw [if_pos h]
theorem okC_no {p s : Int} (h : ¬ (-500 ≤ p ∧ p ≤ 500 ∧ 0 ≤ s ∧ s ≤ 1099511627776)) : 5 = okC p s := by unfold okC; rw [if_neg h]
theorem rcheck_any (p s : Int) (w : World) :
    Calls Try.prog 58 #[.agg #[.int .i64 p, .int .i64 s]] w fun e w' => e = .returned (.int .i64 (okC p s)) ∧ Below w.heap.size w w' := by
  have F0 : Mem.Blk (w.alloc (.cells #[.int .i64 p, .int .i64 s] 54)) w.heap.size 54 #[.int .i64 p, .int .i64 s] := Blk.fresh w _ #[.int .i64 p, .int .i64 s]
  have hbel : Below w.heap.size w (w.alloc (.cells #[.int .i64 p, .int .i64 s] 54)) := (Below.refl _ w).alloc (Nat.le_refl _) _
  by_cases a1 : p < -500
  · rw [← okC_no (p := p) (s := s) (by omega)]
    go_enter Try.func58, Try.ntmps58
    go_wp2
    go_ret
    exact ⟨rfl, hbel⟩
  · by_cases a2 : 500 < p
    · rw [← okC_no (p := p) (s := s) (by omega)]
      go_enter Try.func58, Try.ntmps58
      go_wp2
      go_ret
      exact ⟨rfl, hbel⟩
    · by_cases a3 : s < 0
      · rw [← okC_no (p := p) (s := s) (by omega)]
        go_enter Try.func58, Try.ntmps58
        go_wp2
        go_ret
        exact ⟨rfl, hbel⟩
      · by_cases a4 : 1099511627776 < s
        · rw [← okC_no (p := p) (s := s) (by omega)]
          go_enter Try.func58, Try.ntmps58
          go_wp2
          go_ret
          exact ⟨rfl, hbel⟩
        · rw [← okC_yes (p := p) (s := s) (by omega)]
          go_enter Try.func58, Try.ntmps58
          go_wp2
          go_ret
          exact ⟨rfl, hbel⟩
theorem first_a {r : Int} (h : First (-100) 0 14998 r) : r = 15000 := by
  rcases Int.lt_trichotomy r 15000 with g | g | g
  · have h2 := h.at_ (by omega)
    have := loc_mono (-100) 0 (t := r) (u := 14999) (by omega)
    rw [show loc (-100) 0 14999 = 14997 by decide +kernel] at this
    omega
  · exact g
  · have h1 := h.below 15000 (by omega) g
    rw [show loc (-100) 0 15000 = 14998 by decide +kernel] at h1
    omega
theorem first_b {r : Int} (h : First 0 5 3 r) : r = 0 := by
  rcases Int.lt_or_le 0 r with g | g
  · have h1 := h.below 0 (by omega) g
    rw [show loc 0 5 0 = 5 by decide +kernel] at h1
    omega
  · have := h.lo; omega
theorem first_c {r : Int} (h : First 0 0 1099511627777 r) : r = 1099511627776 := by
  rcases Int.lt_or_le r 1099511627776 with g | g
  · have h2 := h.at_ g
    have h3 := loc_mono 0 0 (t := r) (u := 1099511627776) (by omega)
    rw [show loc 0 0 1099511627776 = 1099511627776 by decide +kernel] at h3
    omega
  · have := h.hi; omega
theorem first_ex (p s l : Int) : ∃ r, First p s l r := by
  have go : ∀ n : Nat, n ≤ 1099511627776 → (∃ r, First p s l r) ∨ ∀ t : Int, 0 ≤ t → t < n → loc p s t < l := by
    intro n
    induction n with
    | zero => intro _; right; intro t h h'; omega
    | succ n ih =>
      intro h
      rcases ih (by omega) with e | e
      · exact .inl e
      · by_cases h1 : l ≤ loc p s n
        · exact .inl ⟨n, by omega, by omega, e, fun _ => h1⟩
        · refine .inr fun t g g' => ?_
          by_cases h2 : t = n
          · subst h2; omega
          · exact e t g (by omega)
  rcases go 1099511627776 (Nat.le_refl _) with e | e
  · exact e
  · exact ⟨1099511627776, by omega, by omega, fun t h h' => e t h (by omega), fun h => by omega⟩
theorem real_to {p s l r : Int} (hr : First p s l r) : Hid (∀ w, Calls Try.prog 32 #[.agg #[.int .i64 p, .int .i64 s], .int .i64 l] w fun e w' => e = .returned (.int .i64 r) ∧ Below w.heap.size w w') := Lib.hid fun w =>
  (real_any p s l w).mono fun e w' ⟨⟨r', h1, h2⟩, hb⟩ => ⟨by rw [h1, hr.unique h2], hb⟩
end Go.Proofs.Ytmcpgnmkjebbjaa.Clk
