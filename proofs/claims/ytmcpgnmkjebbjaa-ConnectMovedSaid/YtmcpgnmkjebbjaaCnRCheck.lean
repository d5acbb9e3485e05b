/- Whether parameters are valid: the document's function. -/
import Derived.Test.YtmcpgnmkjebbjaaCnRUpd
import Derived.Test.YtmcpgnmkjebbjaaCnPar
import Derived.Test.YtmcpgnmkjebbjaaChmRef
set_option linter.unusedVariables false
set_option linter.unusedSimpArgs false
namespace Go.Proofs.Ytmcpgnmkjebbjaa.Cn
open Go.RowKit Mem Clk

set_option maxHeartbeats 4000000 in
theorem rcheck_any (a b s o i l t h d g : Int) (m : Nat) (w : World) (hm : m ≤ 18446744073709551615) :
    Calls Try.prog 15 #[.agg (par a b s o i l t m h d g)] w fun e w' => e = .returned (.int .i64 (okP a b s o i l t m h d g)) ∧ Below w.heap.size w w' := by
  have F0 : Mem.Blk (w.alloc (.cells #[.int .u32 a, .int .u32 b, .int .i64 s, .int .i64 o, .int .i64 i, .int .i64 l, .int .i64 t, .int .u64 (m : Int), .int .i64 h, .int .i64 d, .int .i64 g] 28)) w.heap.size 28 _ := Blk.fresh w _ _
  have hbel : Below w.heap.size w (w.alloc (.cells #[.int .u32 a, .int .u32 b, .int .i64 s, .int .i64 o, .int .i64 i, .int .i64 l, .int .i64 t, .int .u64 (m : Int), .int .i64 h, .int .i64 d, .int .i64 g] 28)) := (Below.refl _ w).alloc (Nat.le_refl _) _
  have HU := Lib.hid (rcheckUpdate_any s o i l t)
  have HM := Lib.hid fun w => Chm.rcheck_any m w hm
  obtain ⟨D1, d1⟩ : ∃ D, decide (5 ≤ h ∧ h ≤ 16) = D := ⟨_, rfl⟩
  obtain ⟨D2, d2⟩ : ∃ D, decide (0 ≤ d ∧ d ≤ 500) = D := ⟨_, rfl⟩
  have HW1 := Lib.hid (rwithin_to d1)
  have HW2 := Lib.hid (rwithin_to d2)
  obtain ⟨R, hR⟩ : ∃ R, okP a b s o i l t m h d g = R := ⟨_, rfl⟩
  rw [hR]
  unfold okP at hR
  generalize okU s o i l t = U at *
  generalize Chm.okM m = M at *
  clear hm
  by_cases a1 : a = 0
  · have q1 : (a == 0) = true := by simpa using a1
    rw [if_pos (.inl a1)] at hR
    subst hR
    clear a1 d1 d2
    go_enter Try.func15, Try.ntmps15
    go_wp2_with fail
    generalize w.alloc (.cells #[.int .u32 a, .int .u32 b, .int .i64 s, .int .i64 o, .int .i64 i, .int .i64 l, .int .i64 t, .int .u64 (m : Int), .int .i64 h, .int .i64 d, .int .i64 g] 28) = W at *
    have T := elv_of F0
    obtain ⟨c0, c1, c2, c3, c4, c5, c6, c7, c8, c9, c10⟩ := elv_of F0
    clear F0
    go_wp2_with (first
      | (go_at_call 13; refine (HU.out _).mono ?_; rintro e w1 ⟨rfl, b1⟩; have B1 := thenB hbel b1; have T1 := elv_below T b1; have h7 := T1.2.2.2.2.2.2.2.1; have h8 := T1.2.2.2.2.2.2.2.2.1; have h9 := T1.2.2.2.2.2.2.2.2.2.1; have h10 := T1.2.2.2.2.2.2.2.2.2.2)
      | (go_at_call 42; refine (HM.out _).mono ?_; rintro e w2 ⟨rfl, b2⟩; have B2 := thenB B1 b2; have T2 := elv_below T1 b2; have k8 := T2.2.2.2.2.2.2.2.2.1; have k9 := T2.2.2.2.2.2.2.2.2.2.1; have k10 := T2.2.2.2.2.2.2.2.2.2.2)
      | (go_at_call_of 39 h; refine (HW1.out _).mono ?_; rintro e w3 ⟨rfl, rfl⟩)
      | (go_at_call_of 39 d; refine (HW2.out _).mono ?_; rintro e w3 ⟨rfl, rfl⟩))
    go_ret
    exact ⟨rfl, hbel⟩
  have q1 : (a == 0) = false := by simpa using a1
  by_cases a2 : a = 2391391958
  · have q2 : (a == 2391391958) = true := by simpa using a2
    rw [if_pos (.inr a2)] at hR
    subst hR
    clear a1 a2 d1 d2
    go_enter Try.func15, Try.ntmps15
    go_wp2_with fail
    generalize w.alloc (.cells #[.int .u32 a, .int .u32 b, .int .i64 s, .int .i64 o, .int .i64 i, .int .i64 l, .int .i64 t, .int .u64 (m : Int), .int .i64 h, .int .i64 d, .int .i64 g] 28) = W at *
    have T := elv_of F0
    obtain ⟨c0, c1, c2, c3, c4, c5, c6, c7, c8, c9, c10⟩ := elv_of F0
    clear F0
    go_wp2_with (first
      | (go_at_call 13; refine (HU.out _).mono ?_; rintro e w1 ⟨rfl, b1⟩; have B1 := thenB hbel b1; have T1 := elv_below T b1; have h7 := T1.2.2.2.2.2.2.2.1; have h8 := T1.2.2.2.2.2.2.2.2.1; have h9 := T1.2.2.2.2.2.2.2.2.2.1; have h10 := T1.2.2.2.2.2.2.2.2.2.2)
      | (go_at_call 42; refine (HM.out _).mono ?_; rintro e w2 ⟨rfl, b2⟩; have B2 := thenB B1 b2; have T2 := elv_below T1 b2; have k8 := T2.2.2.2.2.2.2.2.2.1; have k9 := T2.2.2.2.2.2.2.2.2.2.1; have k10 := T2.2.2.2.2.2.2.2.2.2.2)
      | (go_at_call_of 39 h; refine (HW1.out _).mono ?_; rintro e w3 ⟨rfl, rfl⟩)
      | (go_at_call_of 39 d; refine (HW2.out _).mono ?_; rintro e w3 ⟨rfl, rfl⟩))
    go_ret
    exact ⟨rfl, hbel⟩
  have q2 : (a == 2391391958) = false := by simpa using a2
  rw [if_neg (by simp [a1, a2])] at hR
  clear a1 a2
  by_cases a3 : 16777216 ≤ b
  · have q3 : decide (16777216 ≤ b) = true := decide_eq_true a3
    rw [if_pos a3] at hR
    subst hR
    clear a3 d1 d2
    go_enter Try.func15, Try.ntmps15
    go_wp2_with fail
    generalize w.alloc (.cells #[.int .u32 a, .int .u32 b, .int .i64 s, .int .i64 o, .int .i64 i, .int .i64 l, .int .i64 t, .int .u64 (m : Int), .int .i64 h, .int .i64 d, .int .i64 g] 28) = W at *
    have T := elv_of F0
    obtain ⟨c0, c1, c2, c3, c4, c5, c6, c7, c8, c9, c10⟩ := elv_of F0
    clear F0
    go_wp2_with (first
      | (go_at_call 13; refine (HU.out _).mono ?_; rintro e w1 ⟨rfl, b1⟩; have B1 := thenB hbel b1; have T1 := elv_below T b1; have h7 := T1.2.2.2.2.2.2.2.1; have h8 := T1.2.2.2.2.2.2.2.2.1; have h9 := T1.2.2.2.2.2.2.2.2.2.1; have h10 := T1.2.2.2.2.2.2.2.2.2.2)
      | (go_at_call 42; refine (HM.out _).mono ?_; rintro e w2 ⟨rfl, b2⟩; have B2 := thenB B1 b2; have T2 := elv_below T1 b2; have k8 := T2.2.2.2.2.2.2.2.2.1; have k9 := T2.2.2.2.2.2.2.2.2.2.1; have k10 := T2.2.2.2.2.2.2.2.2.2.2)
      | (go_at_call_of 39 h; refine (HW1.out _).mono ?_; rintro e w3 ⟨rfl, rfl⟩)
      | (go_at_call_of 39 d; refine (HW2.out _).mono ?_; rintro e w3 ⟨rfl, rfl⟩))
    go_ret
    exact ⟨rfl, hbel⟩
  have q3 : decide (16777216 ≤ b) = false := decide_eq_false a3
  rw [if_neg a3] at hR
  clear a3
  by_cases a4 : U = 0
  · rw [if_neg (by simpa using a4)] at hR
    have q4 : (U != 0) = false := by simp [a4]
    clear a4
    by_cases a5 : M = 0
    · rw [if_neg (by simpa using a5)] at hR
      have q5 : (M != 0) = false := by simp [a5]
      clear a5
      cases D1
      · rw [if_neg (fun k => (of_decide_eq_false d1) k.1)] at hR
        subst hR
        clear d1 d2
        go_enter Try.func15, Try.ntmps15
        go_wp2_with fail
        generalize w.alloc (.cells #[.int .u32 a, .int .u32 b, .int .i64 s, .int .i64 o, .int .i64 i, .int .i64 l, .int .i64 t, .int .u64 (m : Int), .int .i64 h, .int .i64 d, .int .i64 g] 28) = W at *
        have T := elv_of F0
        obtain ⟨c0, c1, c2, c3, c4, c5, c6, c7, c8, c9, c10⟩ := elv_of F0
        clear F0
        go_wp2_with (first
          | (go_at_call 13; refine (HU.out _).mono ?_; rintro e w1 ⟨rfl, b1⟩; have B1 := thenB hbel b1; have T1 := elv_below T b1; have h7 := T1.2.2.2.2.2.2.2.1; have h8 := T1.2.2.2.2.2.2.2.2.1; have h9 := T1.2.2.2.2.2.2.2.2.2.1; have h10 := T1.2.2.2.2.2.2.2.2.2.2)
          | (go_at_call 42; refine (HM.out _).mono ?_; rintro e w2 ⟨rfl, b2⟩; have B2 := thenB B1 b2; have T2 := elv_below T1 b2; have k8 := T2.2.2.2.2.2.2.2.2.1; have k9 := T2.2.2.2.2.2.2.2.2.2.1; have k10 := T2.2.2.2.2.2.2.2.2.2.2)
          | (go_at_call_of 39 h; refine (HW1.out _).mono ?_; rintro e w3 ⟨rfl, rfl⟩)
          | (go_at_call_of 39 d; refine (HW2.out _).mono ?_; rintro e w3 ⟨rfl, rfl⟩))
        go_ret
        exact ⟨rfl, B2⟩
      · cases D2
        · rw [if_neg (fun k => (of_decide_eq_false d2) k.2)] at hR
          subst hR
          clear d1 d2
          go_enter Try.func15, Try.ntmps15
          go_wp2_with fail
          generalize w.alloc (.cells #[.int .u32 a, .int .u32 b, .int .i64 s, .int .i64 o, .int .i64 i, .int .i64 l, .int .i64 t, .int .u64 (m : Int), .int .i64 h, .int .i64 d, .int .i64 g] 28) = W at *
          have T := elv_of F0
          obtain ⟨c0, c1, c2, c3, c4, c5, c6, c7, c8, c9, c10⟩ := elv_of F0
          clear F0
          go_wp2_with (first
            | (go_at_call 13; refine (HU.out _).mono ?_; rintro e w1 ⟨rfl, b1⟩; have B1 := thenB hbel b1; have T1 := elv_below T b1; have h7 := T1.2.2.2.2.2.2.2.1; have h8 := T1.2.2.2.2.2.2.2.2.1; have h9 := T1.2.2.2.2.2.2.2.2.2.1; have h10 := T1.2.2.2.2.2.2.2.2.2.2)
            | (go_at_call 42; refine (HM.out _).mono ?_; rintro e w2 ⟨rfl, b2⟩; have B2 := thenB B1 b2; have T2 := elv_below T1 b2; have k8 := T2.2.2.2.2.2.2.2.2.1; have k9 := T2.2.2.2.2.2.2.2.2.2.1; have k10 := T2.2.2.2.2.2.2.2.2.2.2)
            | (go_at_call_of 39 h; refine (HW1.out _).mono ?_; rintro e w3 ⟨rfl, rfl⟩)
            | (go_at_call_of 39 d; refine (HW2.out _).mono ?_; rintro e w3 ⟨rfl, rfl⟩))
          go_ret
          exact ⟨rfl, B2⟩
        · rw [if_pos ⟨of_decide_eq_true d1, of_decide_eq_true d2⟩] at hR
          clear d1 d2
          by_cases g1 : g = 1
          · have q6 : (g != 1) = false := by simp [g1]
            rw [if_pos (.inl g1)] at hR
            subst hR
            clear g1
            go_enter Try.func15, Try.ntmps15
            go_wp2_with fail
            generalize w.alloc (.cells #[.int .u32 a, .int .u32 b, .int .i64 s, .int .i64 o, .int .i64 i, .int .i64 l, .int .i64 t, .int .u64 (m : Int), .int .i64 h, .int .i64 d, .int .i64 g] 28) = W at *
            have T := elv_of F0
            obtain ⟨c0, c1, c2, c3, c4, c5, c6, c7, c8, c9, c10⟩ := elv_of F0
            clear F0
            go_wp2_with (first
              | (go_at_call 13; refine (HU.out _).mono ?_; rintro e w1 ⟨rfl, b1⟩; have B1 := thenB hbel b1; have T1 := elv_below T b1; have h7 := T1.2.2.2.2.2.2.2.1; have h8 := T1.2.2.2.2.2.2.2.2.1; have h9 := T1.2.2.2.2.2.2.2.2.2.1; have h10 := T1.2.2.2.2.2.2.2.2.2.2)
              | (go_at_call 42; refine (HM.out _).mono ?_; rintro e w2 ⟨rfl, b2⟩; have B2 := thenB B1 b2; have T2 := elv_below T1 b2; have k8 := T2.2.2.2.2.2.2.2.2.1; have k9 := T2.2.2.2.2.2.2.2.2.2.1; have k10 := T2.2.2.2.2.2.2.2.2.2.2)
              | (go_at_call_of 39 h; refine (HW1.out _).mono ?_; rintro e w3 ⟨rfl, rfl⟩)
              | (go_at_call_of 39 d; refine (HW2.out _).mono ?_; rintro e w3 ⟨rfl, rfl⟩))
            go_ret
            exact ⟨rfl, B2⟩
          have q6 : (g != 1) = true := by simp [g1]
          by_cases g2 : g = 2
          · have q7 : (g != 2) = false := by simp [g2]
            rw [if_pos (.inr g2)] at hR
            subst hR
            clear g1 g2
            go_enter Try.func15, Try.ntmps15
            go_wp2_with fail
            generalize w.alloc (.cells #[.int .u32 a, .int .u32 b, .int .i64 s, .int .i64 o, .int .i64 i, .int .i64 l, .int .i64 t, .int .u64 (m : Int), .int .i64 h, .int .i64 d, .int .i64 g] 28) = W at *
            have T := elv_of F0
            obtain ⟨c0, c1, c2, c3, c4, c5, c6, c7, c8, c9, c10⟩ := elv_of F0
            clear F0
            go_wp2_with (first
              | (go_at_call 13; refine (HU.out _).mono ?_; rintro e w1 ⟨rfl, b1⟩; have B1 := thenB hbel b1; have T1 := elv_below T b1; have h7 := T1.2.2.2.2.2.2.2.1; have h8 := T1.2.2.2.2.2.2.2.2.1; have h9 := T1.2.2.2.2.2.2.2.2.2.1; have h10 := T1.2.2.2.2.2.2.2.2.2.2)
              | (go_at_call 42; refine (HM.out _).mono ?_; rintro e w2 ⟨rfl, b2⟩; have B2 := thenB B1 b2; have T2 := elv_below T1 b2; have k8 := T2.2.2.2.2.2.2.2.2.1; have k9 := T2.2.2.2.2.2.2.2.2.2.1; have k10 := T2.2.2.2.2.2.2.2.2.2.2)
              | (go_at_call_of 39 h; refine (HW1.out _).mono ?_; rintro e w3 ⟨rfl, rfl⟩)
              | (go_at_call_of 39 d; refine (HW2.out _).mono ?_; rintro e w3 ⟨rfl, rfl⟩))
            go_ret
            exact ⟨rfl, B2⟩
          have q7 : (g != 2) = true := by simp [g2]
          rw [if_neg (by simp [g1, g2])] at hR
          subst hR
          clear g1 g2
          go_enter Try.func15, Try.ntmps15
          go_wp2_with fail
          generalize w.alloc (.cells #[.int .u32 a, .int .u32 b, .int .i64 s, .int .i64 o, .int .i64 i, .int .i64 l, .int .i64 t, .int .u64 (m : Int), .int .i64 h, .int .i64 d, .int .i64 g] 28) = W at *
          have T := elv_of F0
          obtain ⟨c0, c1, c2, c3, c4, c5, c6, c7, c8, c9, c10⟩ := elv_of F0
          clear F0
          go_wp2_with (first
            | (go_at_call 13; refine (HU.out _).mono ?_; rintro e w1 ⟨rfl, b1⟩; have B1 := thenB hbel b1; have T1 := elv_below T b1; have h7 := T1.2.2.2.2.2.2.2.1; have h8 := T1.2.2.2.2.2.2.2.2.1; have h9 := T1.2.2.2.2.2.2.2.2.2.1; have h10 := T1.2.2.2.2.2.2.2.2.2.2)
            | (go_at_call 42; refine (HM.out _).mono ?_; rintro e w2 ⟨rfl, b2⟩; have B2 := thenB B1 b2; have T2 := elv_below T1 b2; have k8 := T2.2.2.2.2.2.2.2.2.1; have k9 := T2.2.2.2.2.2.2.2.2.2.1; have k10 := T2.2.2.2.2.2.2.2.2.2.2)
            | (go_at_call_of 39 h; refine (HW1.out _).mono ?_; rintro e w3 ⟨rfl, rfl⟩)
            | (go_at_call_of 39 d; refine (HW2.out _).mono ?_; rintro e w3 ⟨rfl, rfl⟩))
          go_ret
          exact ⟨rfl, B2⟩
    · rw [if_pos a5] at hR
      subst hR
      have q5 : (M != 0) = true := by simp [a5]
      clear a5 d1 d2
      go_enter Try.func15, Try.ntmps15
      go_wp2_with fail
      generalize w.alloc (.cells #[.int .u32 a, .int .u32 b, .int .i64 s, .int .i64 o, .int .i64 i, .int .i64 l, .int .i64 t, .int .u64 (m : Int), .int .i64 h, .int .i64 d, .int .i64 g] 28) = W at *
      have T := elv_of F0
      obtain ⟨c0, c1, c2, c3, c4, c5, c6, c7, c8, c9, c10⟩ := elv_of F0
      clear F0
      go_wp2_with (first
        | (go_at_call 13; refine (HU.out _).mono ?_; rintro e w1 ⟨rfl, b1⟩; have B1 := thenB hbel b1; have T1 := elv_below T b1; have h7 := T1.2.2.2.2.2.2.2.1; have h8 := T1.2.2.2.2.2.2.2.2.1; have h9 := T1.2.2.2.2.2.2.2.2.2.1; have h10 := T1.2.2.2.2.2.2.2.2.2.2)
        | (go_at_call 42; refine (HM.out _).mono ?_; rintro e w2 ⟨rfl, b2⟩; have B2 := thenB B1 b2; have T2 := elv_below T1 b2; have k8 := T2.2.2.2.2.2.2.2.2.1; have k9 := T2.2.2.2.2.2.2.2.2.2.1; have k10 := T2.2.2.2.2.2.2.2.2.2.2)
        | (go_at_call_of 39 h; refine (HW1.out _).mono ?_; rintro e w3 ⟨rfl, rfl⟩)
        | (go_at_call_of 39 d; refine (HW2.out _).mono ?_; rintro e w3 ⟨rfl, rfl⟩))
      go_ret
      exact ⟨rfl, B2⟩
  · rw [if_pos a4] at hR
    subst hR
    have q4 : (U != 0) = true := by simp [a4]
    clear a4 d1 d2
    go_enter Try.func15, Try.ntmps15
    go_wp2_with fail
    generalize w.alloc (.cells #[.int .u32 a, .int .u32 b, .int .i64 s, .int .i64 o, .int .i64 i, .int .i64 l, .int .i64 t, .int .u64 (m : Int), .int .i64 h, .int .i64 d, .int .i64 g] 28) = W at *
    have T := elv_of F0
    obtain ⟨c0, c1, c2, c3, c4, c5, c6, c7, c8, c9, c10⟩ := elv_of F0
    clear F0
    go_wp2_with (first
      | (go_at_call 13; refine (HU.out _).mono ?_; rintro e w1 ⟨rfl, b1⟩; have B1 := thenB hbel b1; have T1 := elv_below T b1; have h7 := T1.2.2.2.2.2.2.2.1; have h8 := T1.2.2.2.2.2.2.2.2.1; have h9 := T1.2.2.2.2.2.2.2.2.2.1; have h10 := T1.2.2.2.2.2.2.2.2.2.2)
      | (go_at_call 42; refine (HM.out _).mono ?_; rintro e w2 ⟨rfl, b2⟩; have B2 := thenB B1 b2; have T2 := elv_below T1 b2; have k8 := T2.2.2.2.2.2.2.2.2.1; have k9 := T2.2.2.2.2.2.2.2.2.2.1; have k10 := T2.2.2.2.2.2.2.2.2.2.2)
      | (go_at_call_of 39 h; refine (HW1.out _).mono ?_; rintro e w3 ⟨rfl, rfl⟩)
      | (go_at_call_of 39 d; refine (HW2.out _).mono ?_; rintro e w3 ⟨rfl, rfl⟩))
    go_ret
    exact ⟨rfl, B1⟩
end Go.Proofs.Ytmcpgnmkjebbjaa.Cn
