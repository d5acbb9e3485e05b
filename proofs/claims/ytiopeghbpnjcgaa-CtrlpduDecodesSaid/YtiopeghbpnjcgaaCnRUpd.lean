/- Whether an update is valid: the document's function. -/
import Derived.Test.YtiopeghbpnjcgaaCnUpd
set_option linter.unusedVariables false
set_option linter.unusedSimpArgs false
namespace Go.Proofs.Ytiopeghbpnjcgaa.Cn
open Go.RowKit Mem Clk

theorem okU_out {s o i l t : Int} (h : ¬ Rng s o i l t) : okU s o i l t = 5 := by unfold okU; rw [if_neg h]
theorem okU_mis {s o i l t : Int} (h : Rng s o i l t) (k : ¬ (s < i ∧ o ≤ i ∧ 2 * (l + 1) * i * 1250 < t * 10000)) : okU s o i l t = 11 := by unfold okU; rw [if_pos h, if_neg k]
theorem okU_fit {s o i l t : Int} (h : Rng s o i l t) (k : s < i ∧ o ≤ i ∧ 2 * (l + 1) * i * 1250 < t * 10000) : okU s o i l t = 0 := by unfold okU; rw [if_pos h, if_pos k]
theorem rwithin_to {n lo hi : Int} {b : Bool} (h : decide (lo ≤ n ∧ n ≤ hi) = b) (w : World) :
    Calls Try.prog 43 #[.int .i64 n, .int .i64 lo, .int .i64 hi] w fun e w' => e = .returned (.bool b) ∧ w = w' := by rw [← h]; exact rwithin_any n lo hi w
set_option maxHeartbeats 1000000 in
theorem rcheckUpdate_any (s o i l t : Int) (w : World) :
    Calls Try.prog 22 #[upd s o i l t] w fun e w' => e = .returned (.int .i64 (okU s o i l t)) ∧ Below w.heap.size w w' := by
  have F0 : Mem.Blk (w.alloc (updC s o i l t)) w.heap.size 23 _ := Blk.fresh w _ _
  have hbel : Below w.heap.size w (w.alloc (updC s o i l t)) := (Below.refl _ w).alloc (Nat.le_refl _) _
  have HB : Hid (okU s o i l t = okU s o i l t) := Lib.hid rfl
  obtain ⟨R, hR⟩ : ∃ R, okU s o i l t = R := ⟨_, rfl⟩
  obtain ⟨D1, d1⟩ : ∃ D, decide (1 ≤ s ∧ s ≤ 8) = D := ⟨_, rfl⟩
  obtain ⟨D2, d2⟩ : ∃ D, decide (0 ≤ o ∧ o ≤ 3200) = D := ⟨_, rfl⟩
  obtain ⟨D3, d3⟩ : ∃ D, decide (6 ≤ i ∧ i ≤ 3200) = D := ⟨_, rfl⟩
  obtain ⟨D4, d4⟩ : ∃ D, decide (0 ≤ l ∧ l ≤ 499) = D := ⟨_, rfl⟩
  obtain ⟨D5, d5⟩ : ∃ D, decide (10 ≤ t ∧ t ≤ 3200) = D := ⟨_, rfl⟩
  have H1 := Lib.hid (rwithin_to d1)
  have H2 := Lib.hid (rwithin_to d2)
  have H3 := Lib.hid (rwithin_to d3)
  have H4 := Lib.hid (rwithin_to d4)
  have H5 := Lib.hid (rwithin_to d5)
  by_cases hr : Rng s o i l t
  · obtain rfl : D1 = true := by rw [← d1]; exact decide_eq_true (by omega)
    obtain rfl : D2 = true := by rw [← d2]; exact decide_eq_true (by omega)
    obtain rfl : D3 = true := by rw [← d3]; exact decide_eq_true (by omega)
    obtain rfl : D4 = true := by rw [← d4]; exact decide_eq_true (by omega)
    obtain rfl : D5 = true := by rw [← d5]; exact decide_eq_true (by omega)
    have hp := prod_in (l := l) (i := i) (t := t) ⟨hr.2.2.2.2.2.2.1, hr.2.2.2.2.2.2.2.1⟩ ⟨hr.2.2.2.2.1, hr.2.2.2.2.2.1⟩
    have e1 := IntWalk.wrap64_in (t * 10000) (by omega)
    have e2 := IntWalk.wrap64_in (l + 1) (by omega)
    have e3 := IntWalk.wrap64_in (2 * (l + 1)) (by omega)
    have e4 := IntWalk.wrap64_in (2 * (l + 1) * i) (by omega)
    have e5 := IntWalk.wrap64_in (2 * (l + 1) * i * 1250) (by omega)
    have g1 := i64_in (t * 10000) (by omega)
    have g2 := i64_in (l + 1) (by omega)
    have g3 := i64_in (2 * (l + 1)) (by omega)
    have g4 := i64_in (2 * (l + 1) * i) (by omega)
    have g5 := i64_in (2 * (l + 1) * i * 1250) (by omega)
    have hP : ∃ P, 2 * (l + 1) * i * 1250 = P := ⟨_, rfl⟩
    clear d1 d2 d3 d4 d5 HB
    rw [hR]
    by_cases k1 : i ≤ s
    · have q1 : decide (i ≤ s) = true := decide_eq_true k1
      obtain rfl : 11 = R := by rw [← hR]; exact (okU_mis hr (by omega)).symm
      clear hr hp hR hP
      go_enter Try.func22, Try.ntmps22
      go_wp2_with fail
      generalize w.alloc (updC s o i l t) = W at *
      obtain ⟨c0, c1, c2, c3, c4⟩ := five_of F0
      clear F0
      go_wp2_with (first
        | (go_at_call_of 43 s; refine (H1.out _).mono ?_; rintro e w1 ⟨rfl, rfl⟩)
        | (go_at_call_of 43 o; refine (H2.out _).mono ?_; rintro e w1 ⟨rfl, rfl⟩)
        | (go_at_call_of 43 i; refine (H3.out _).mono ?_; rintro e w1 ⟨rfl, rfl⟩)
        | (go_at_call_of 43 l; refine (H4.out _).mono ?_; rintro e w1 ⟨rfl, rfl⟩)
        | (go_at_call_of 43 t; refine (H5.out _).mono ?_; rintro e w1 ⟨rfl, rfl⟩))
      go_ret
      exact ⟨rfl, hbel⟩
    · have q1 : decide (i ≤ s) = false := decide_eq_false k1
      by_cases k2 : i < o
      · have q2 : decide (i < o) = true := decide_eq_true k2
        obtain rfl : 11 = R := by rw [← hR]; exact (okU_mis hr (by omega)).symm
        clear hr hp hR hP
        go_enter Try.func22, Try.ntmps22
        go_wp2_with fail
        generalize w.alloc (updC s o i l t) = W at *
        obtain ⟨c0, c1, c2, c3, c4⟩ := five_of F0
        clear F0
        go_wp2_with (first
          | (go_at_call_of 43 s; refine (H1.out _).mono ?_; rintro e w1 ⟨rfl, rfl⟩)
          | (go_at_call_of 43 o; refine (H2.out _).mono ?_; rintro e w1 ⟨rfl, rfl⟩)
          | (go_at_call_of 43 i; refine (H3.out _).mono ?_; rintro e w1 ⟨rfl, rfl⟩)
          | (go_at_call_of 43 l; refine (H4.out _).mono ?_; rintro e w1 ⟨rfl, rfl⟩)
          | (go_at_call_of 43 t; refine (H5.out _).mono ?_; rintro e w1 ⟨rfl, rfl⟩))
        go_ret
        exact ⟨rfl, hbel⟩
      · have q2 : decide (i < o) = false := decide_eq_false k2
        obtain ⟨b, hb⟩ : ∃ b, decide (t * 10000 ≤ 2 * (l + 1) * i * 1250) = b := ⟨_, rfl⟩
        have hQ : (if b = true then 11 else 0) = R := by
          rw [← hR, ← hb]
          by_cases k3 : t * 10000 ≤ 2 * (l + 1) * i * 1250
          · rw [decide_eq_true k3, okU_mis hr (by omega)]; rfl
          · rw [decide_eq_false k3, okU_fit hr (by omega)]; rfl
        clear hr hp hR hP
        cases b
        · obtain rfl : 0 = R := hQ
          go_enter Try.func22, Try.ntmps22
          go_wp2_with fail
          generalize w.alloc (updC s o i l t) = W at *
          obtain ⟨c0, c1, c2, c3, c4⟩ := five_of F0
          clear F0
          go_wp2_with (first
            | (go_at_call_of 43 s; refine (H1.out _).mono ?_; rintro e w1 ⟨rfl, rfl⟩)
            | (go_at_call_of 43 o; refine (H2.out _).mono ?_; rintro e w1 ⟨rfl, rfl⟩)
            | (go_at_call_of 43 i; refine (H3.out _).mono ?_; rintro e w1 ⟨rfl, rfl⟩)
            | (go_at_call_of 43 l; refine (H4.out _).mono ?_; rintro e w1 ⟨rfl, rfl⟩)
            | (go_at_call_of 43 t; refine (H5.out _).mono ?_; rintro e w1 ⟨rfl, rfl⟩))
          go_ret
          exact ⟨rfl, hbel⟩
        · obtain rfl : 11 = R := hQ
          go_enter Try.func22, Try.ntmps22
          go_wp2_with fail
          generalize w.alloc (updC s o i l t) = W at *
          obtain ⟨c0, c1, c2, c3, c4⟩ := five_of F0
          clear F0
          go_wp2_with (first
            | (go_at_call_of 43 s; refine (H1.out _).mono ?_; rintro e w1 ⟨rfl, rfl⟩)
            | (go_at_call_of 43 o; refine (H2.out _).mono ?_; rintro e w1 ⟨rfl, rfl⟩)
            | (go_at_call_of 43 i; refine (H3.out _).mono ?_; rintro e w1 ⟨rfl, rfl⟩)
            | (go_at_call_of 43 l; refine (H4.out _).mono ?_; rintro e w1 ⟨rfl, rfl⟩)
            | (go_at_call_of 43 t; refine (H5.out _).mono ?_; rintro e w1 ⟨rfl, rfl⟩))
          go_ret
          exact ⟨rfl, hbel⟩
  · have hx : ¬ (D1 = true ∧ D2 = true ∧ D3 = true ∧ D4 = true ∧ D5 = true) := by
      rintro ⟨rfl, rfl, rfl, rfl, rfl⟩
      have a1 := of_decide_eq_true d1
      have a2 := of_decide_eq_true d2
      have a3 := of_decide_eq_true d3
      have a4 := of_decide_eq_true d4
      have a5 := of_decide_eq_true d5
      exact hr ⟨a1.1, a1.2, a2.1, a2.2, a3.1, a3.2, a4.1, a4.2, a5.1, a5.2⟩
    rw [okU_out hr]
    clear d1 d2 d3 d4 d5 HB hR hr
    cases D1 <;> cases D2 <;> cases D3 <;> cases D4 <;> cases D5 <;> first
      | (exfalso; exact hx ⟨rfl, rfl, rfl, rfl, rfl⟩)
      | (clear hx
         go_enter Try.func22, Try.ntmps22
         go_wp2_with fail
         generalize w.alloc (updC s o i l t) = W at *
         obtain ⟨c0, c1, c2, c3, c4⟩ := five_of F0
         clear F0
         go_wp2_with (first
           | (go_at_call_of 43 s; refine (H1.out _).mono ?_; rintro e w1 ⟨rfl, rfl⟩)
           | (go_at_call_of 43 o; refine (H2.out _).mono ?_; rintro e w1 ⟨rfl, rfl⟩)
           | (go_at_call_of 43 i; refine (H3.out _).mono ?_; rintro e w1 ⟨rfl, rfl⟩)
           | (go_at_call_of 43 l; refine (H4.out _).mono ?_; rintro e w1 ⟨rfl, rfl⟩)
           | (go_at_call_of 43 t; refine (H5.out _).mono ?_; rintro e w1 ⟨rfl, rfl⟩))
         go_ret
         exact ⟨rfl, hbel⟩)
end Go.Proofs.Ytiopeghbpnjcgaa.Cn
